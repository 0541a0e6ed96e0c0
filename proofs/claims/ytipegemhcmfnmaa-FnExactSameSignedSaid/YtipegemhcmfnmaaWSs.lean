/- The law on SameSigned, walked. -/
import Derived.Test.YtipegemhcmfnmaaSs
namespace Go.Proofs.Ytipegemhcmfnmaa.pExactSameSigned
open Go.RowKit

set_option maxHeartbeats 800000 in
theorem walk (a0 : Option Addr) (n0 c0 : Nat) (xs0 : List (Int × Int)) (a1 : Option Addr) (n1 c1 : Nat) (xs1 : List (Int × Int)) (w : World) (hn0 : n0 = xs0.length) (hm0 : n0 ≤ 9223372036854775807) (ha0 : ArgS w (.slice a0 n0 c0) xs0) (hn1 : n1 = xs1.length) (hm1 : n1 ≤ 9223372036854775807) (ha1 : ArgS w (.slice a1 n1 c1) xs1) :
    Calls Try.prog 4 #[.slice a0 n0 c0, .slice a1 n1 c1] w fun e w' => e = .returned (.bool true) ∧ Below w.heap.size w w' := by
  subst hn0
  subst hn1
  have hq : ¬ (1048576 : Int) < 0 := by decide
  by_cases hx0 : (xs0.length : Int) ≤ 1048576
  case neg =>
    have Z0 := hid (fun w => szSgNo a0 xs0.length c0 (1048576) w hx0 (by omega) (by omega) hm0)
    have hneg : (-1 : Int) < 0 := by decide
    clear ha0 ha1
    go_enter Try.func4, Try.ntmps4
    go_wp2_with (fail)
    refine (Z0.out _).mono ?_
    rintro e u ⟨rfl, rfl⟩
    go_wp2_with (fail)
    go_ret
    exact ⟨rfl, Below.refl _ _⟩
  have Z0 := hid (fun w => szSg a0 xs0.length c0 (1048576) w hx0 (by omega))
  have hz0 : ¬ 1048576 - (xs0.length : Int) < 0 := by omega
  by_cases hx1 : (xs1.length : Int) ≤ 1048576 - (xs0.length : Int)
  case neg =>
    have Z1 := hid (fun w => szSgNo a1 xs1.length c1 (1048576 - (xs0.length : Int)) w hx1 (by omega) (by omega) hm1)
    have hneg : (-1 : Int) < 0 := by decide
    clear ha0 ha1
    go_enter Try.func4, Try.ntmps4
    go_wp2_with (fail)
    refine (Z0.out _).mono ?_
    rintro e u ⟨rfl, rfl⟩
    go_wp2_with (fail)
    refine (Z1.out _).mono ?_
    rintro e u ⟨rfl, rfl⟩
    go_wp2_with (fail)
    go_ret
    exact ⟨rfl, Below.refl _ _⟩
  have Z1 := hid (fun w => szSg a1 xs1.length c1 (1048576 - (xs0.length : Int)) w hx1 (by omega))
  have hz1 : ¬ 1048576 - (xs0.length : Int) - (xs1.length : Int) < 0 := by omega
  have HC0 := hid (fun w' (h : Below w.heap.size w w') => copySg (.slice a0 xs0.length c0) xs0 w' (by omega) (args_below ha0 h))
  have HC1 := hid (fun w' (h : Below w.heap.size w w') => copySg (.slice a1 xs1.length c1) xs1 w' (by omega) (args_below ha1 h))
  clear ha0 ha1
  go_enter Try.func4, Try.ntmps4
  go_wp2_with (fail)
  refine (Z0.out _).mono ?_
  rintro e u ⟨rfl, rfl⟩
  go_wp2_with (fail)
  refine (Z1.out _).mono ?_
  rintro e u ⟨rfl, rfl⟩
  go_wp2_with (fail)
  refine (HC0.out _ (Below.refl _ _)).mono ?_
  rintro e w1 ⟨gS0, dS0, rfl, o1, b1⟩
  have E1 := hid (b1)
  have S0 := hid o1
  clear o1 b1
  go_wp2_with (fail)
  refine (HC1.out _ (E1.out)).mono ?_
  rintro e w2 ⟨gS1, dS1, rfl, o2, b2⟩
  replace S0 := hid (sown_below S0.out b2)
  have E2 := hid ((E1.out).trans (b2.mono (E1.out).size))
  have S1 := hid o2
  clear o2 b2
  go_wp2_with (fail)
  refine (specSame _ _ _ _ xs0 xs1 _ (by omega) (by omega) (sown_args S0.out) (sown_args S1.out)).mono ?_
  rintro e w3 ⟨rfl, b3⟩
  replace S0 := hid (sown_below S0.out b3)
  replace S1 := hid (sown_below S1.out b3)
  have E3 := hid ((E2.out).trans (b3.mono (E2.out).size))
  clear b3
  go_wp2_with (fail)
  refine (HC0.out _ (E3.out)).mono ?_
  rintro e w4 ⟨gX0, dX0, rfl, o4, b4⟩
  replace S0 := hid (sown_below S0.out b4)
  replace S1 := hid (sown_below S1.out b4)
  have E4 := hid ((E3.out).trans (b4.mono (E3.out).size))
  have X0 := hid o4
  clear o4 b4
  go_wp2_with (fail)
  refine (HC1.out _ (E4.out)).mono ?_
  rintro e w5 ⟨gX1, dX1, rfl, o5, b5⟩
  replace S0 := hid (sown_below S0.out b5)
  replace S1 := hid (sown_below S1.out b5)
  replace X0 := hid (sown_below X0.out b5)
  have E5 := hid ((E4.out).trans (b5.mono (E4.out).size))
  have X1 := hid o5
  clear o5 b5
  go_wp2_with (fail)
  refine (implSame _ _ _ _ xs0 xs1 _ (by omega) (by omega) (sown_args X0.out) (sown_args X1.out)).mono ?_
  rintro e w6 ⟨rfl, b6⟩
  replace S0 := hid (sown_below S0.out b6)
  replace S1 := hid (sown_below S1.out b6)
  replace X0 := hid (sown_below X0.out b6)
  replace X1 := hid (sown_below X1.out b6)
  have E6 := hid ((E5.out).trans (b6.mono (E5.out).size))
  clear b6
  have hne : ∀ r : Bool, (r != r) = false := fun r => by simp
  go_wp2_with (fail)
  refine (HC0.out _ (E6.out)).mono ?_
  rintro e w7 ⟨gY0, dY0, rfl, o7, b7⟩
  replace S0 := hid (sown_below S0.out b7)
  replace S1 := hid (sown_below S1.out b7)
  replace X0 := hid (sown_below X0.out b7)
  replace X1 := hid (sown_below X1.out b7)
  have E7 := hid ((E6.out).trans (b7.mono (E6.out).size))
  have Y0 := hid o7
  clear o7 b7
  go_wp2_with (fail)
  refine (eqSgRows gX0 dX0 gY0 dY0 _ _ xs0 _ (by omega) X0.out Y0.out).mono ?_
  rintro e w8 ⟨rfl, b8⟩
  replace S0 := hid (sown_below S0.out b8)
  replace S1 := hid (sown_below S1.out b8)
  replace X0 := hid (sown_below X0.out b8)
  replace X1 := hid (sown_below X1.out b8)
  replace Y0 := hid (sown_below Y0.out b8)
  have E8 := hid ((E7.out).trans (b8.mono (E7.out).size))
  clear b8
  go_wp2_with (fail)
  refine (HC1.out _ (E8.out)).mono ?_
  rintro e w9 ⟨gY1, dY1, rfl, o9, b9⟩
  replace S0 := hid (sown_below S0.out b9)
  replace S1 := hid (sown_below S1.out b9)
  replace X0 := hid (sown_below X0.out b9)
  replace X1 := hid (sown_below X1.out b9)
  replace Y0 := hid (sown_below Y0.out b9)
  have E9 := hid ((E8.out).trans (b9.mono (E8.out).size))
  have Y1 := hid o9
  clear o9 b9
  go_wp2_with (fail)
  refine (eqSgRows gX1 dX1 gY1 dY1 _ _ xs1 _ (by omega) X1.out Y1.out).mono ?_
  rintro e w10 ⟨rfl, b10⟩
  replace S0 := hid (sown_below S0.out b10)
  replace S1 := hid (sown_below S1.out b10)
  replace X0 := hid (sown_below X0.out b10)
  replace X1 := hid (sown_below X1.out b10)
  replace Y0 := hid (sown_below Y0.out b10)
  replace Y1 := hid (sown_below Y1.out b10)
  have E10 := hid ((E9.out).trans (b10.mono (E9.out).size))
  clear b10
  go_wp2_with (fail)
  go_ret
  exact ⟨rfl, E10.out⟩

end Go.Proofs.Ytipegemhcmfnmaa.pExactSameSigned
