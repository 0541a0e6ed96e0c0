/- The law on ValidSigned, walked. -/
import Derived.Test.YtipegemhcmfnmaaVs
namespace Go.Proofs.Ytipegemhcmfnmaa.pExactValidSigned
open Go.RowKit

set_option maxHeartbeats 800000 in
theorem walk (a0 : Option Addr) (n0 c0 : Nat) (xs0 : List (Int × Int)) (w : World) (hn0 : n0 = xs0.length) (hm0 : n0 ≤ 9223372036854775807) (ha0 : ArgS w (.slice a0 n0 c0) xs0) :
    Calls Try.prog 3 #[.slice a0 n0 c0] w fun e w' => e = .returned (.bool true) ∧ Below w.heap.size w w' := by
  subst hn0
  have hq : ¬ (1048576 : Int) < 0 := by decide
  by_cases hx0 : (xs0.length : Int) ≤ 1048576
  case neg =>
    have Z0 := hid (fun w => szSgNo a0 xs0.length c0 (1048576) w hx0 (by omega) (by omega) hm0)
    have hneg : (-1 : Int) < 0 := by decide
    clear ha0
    go_enter Try.func3, Try.ntmps3
    go_wp2_with (fail)
    refine (Z0.out _).mono ?_
    rintro e u ⟨rfl, rfl⟩
    go_wp2_with (fail)
    go_ret
    exact ⟨rfl, Below.refl _ _⟩
  have Z0 := hid (fun w => szSg a0 xs0.length c0 (1048576) w hx0 (by omega))
  have hz0 : ¬ 1048576 - (xs0.length : Int) < 0 := by omega
  have HC0 := hid (fun w' (h : Below w.heap.size w w') => copySg (.slice a0 xs0.length c0) xs0 w' (by omega) (args_below ha0 h))
  clear ha0
  go_enter Try.func3, Try.ntmps3
  go_wp2_with (fail)
  refine (Z0.out _).mono ?_
  rintro e u ⟨rfl, rfl⟩
  go_wp2_with (fail)
  refine (HC0.out _ (Below.refl _ _)).mono ?_
  rintro e w1 ⟨gS0, dS0, rfl, o1, b1⟩
  have E1 := hid (b1)
  have S0 := hid o1
  clear o1 b1
  go_wp2_with (fail)
  refine (specValidS gS0 dS0 xs0 _ (by omega) (sown_sgs S0.out)).mono ?_
  rintro e w2 ⟨rfl, b2⟩
  replace S0 := hid (sown_below S0.out b2)
  have E2 := hid ((E1.out).trans (b2.mono (E1.out).size))
  clear b2
  go_wp2_with (fail)
  refine (HC0.out _ (E2.out)).mono ?_
  rintro e w3 ⟨gX0, dX0, rfl, o3, b3⟩
  replace S0 := hid (sown_below S0.out b3)
  have E3 := hid ((E2.out).trans (b3.mono (E2.out).size))
  have X0 := hid o3
  clear o3 b3
  go_wp2_with (fail)
  refine (implValidS gX0 dX0 xs0 _ (by omega) (sown_cap X0.out) (sown_sgs X0.out)).mono ?_
  rintro e w4 ⟨rfl, b4⟩
  replace S0 := hid (sown_below S0.out b4)
  replace X0 := hid (sown_below X0.out b4)
  have E4 := hid ((E3.out).trans (b4.mono (E3.out).size))
  clear b4
  have hne : ∀ r : Bool, (r != r) = false := fun r => by simp
  go_wp2_with (fail)
  refine (HC0.out _ (E4.out)).mono ?_
  rintro e w5 ⟨gY0, dY0, rfl, o5, b5⟩
  replace S0 := hid (sown_below S0.out b5)
  replace X0 := hid (sown_below X0.out b5)
  have E5 := hid ((E4.out).trans (b5.mono (E4.out).size))
  have Y0 := hid o5
  clear o5 b5
  go_wp2_with (fail)
  refine (eqSgRows gX0 dX0 gY0 dY0 _ _ xs0 _ (by omega) X0.out Y0.out).mono ?_
  rintro e w6 ⟨rfl, b6⟩
  replace S0 := hid (sown_below S0.out b6)
  replace X0 := hid (sown_below X0.out b6)
  replace Y0 := hid (sown_below Y0.out b6)
  have E6 := hid ((E5.out).trans (b6.mono (E5.out).size))
  clear b6
  go_wp2_with (fail)
  go_ret
  exact ⟨rfl, E6.out⟩

end Go.Proofs.Ytipegemhcmfnmaa.pExactValidSigned
