/- CompareTerms answers as its model at every two lists. -/
import Derived.Test.YtbbgkflkabkoeaaCmt
namespace Go.Proofs.Ytbbgkflkabkoeaa.pExactCompareTerms
open Go.RowKit

set_option maxHeartbeats 800000 in
theorem walk (a0 : Option Addr) (n0 c0 : Nat) (xs0 : List Int) (a1 : Option Addr) (n1 c1 : Nat) (xs1 : List Int) (w : World) (hn0 : n0 = xs0.length) (ha0 : Arg w (.slice a0 n0 c0) xs0) (hn1 : n1 = xs1.length) (ha1 : Arg w (.slice a1 n1 c1) xs1) :
    Calls Try.prog 10 #[.slice a0 n0 c0, .slice a1 n1 c1] w fun e w' => e = .returned (.bool true) ∧ Below w.heap.size w w' := by
  subst hn0
  subst hn1
  by_cases hx0 : xs0.length ≤ 1048576
  · have hs0 : ¬ (1048576 : Int) < (xs0.length : Int) := by omega
    by_cases hx1 : xs1.length ≤ 1048576
    · have hs1 : ¬ (1048576 : Int) < (xs1.length : Int) := by omega
      have HC0 := hid (fun w' (h : Below w.heap.size w w') => copyAny (.slice a0 xs0.length c0) xs0 w' hx0 (arg_below ha0 h))
      have HC1 := hid (fun w' (h : Below w.heap.size w w') => copyAny (.slice a1 xs1.length c1) xs1 w' hx1 (arg_below ha1 h))
      clear ha0 ha1
      go_enter Try.func10, Try.ntmps10
      go_wp2_with (fail)
      refine (HC0.out _ (Below.refl _ _)).mono ?_
      rintro e w1 ⟨g1, d1, rfl, o1, b1⟩
      have E1 := hid (b1)
      clear b1
      have Os0 := hid o1
      clear o1
      go_wp2_with (fail)
      refine (HC1.out _ (E1.out)).mono ?_
      rintro e w2 ⟨g2, d2, rfl, o2, b2⟩
      have E2 := hid ((E1.out).trans (b2.mono (E1.out).size))
      have Os0_2 := hid (own_below Os0.out b2)
      clear b2
      have Os1 := hid o2
      clear o2
      go_wp2_with (fail)
      refine (specCmpT g1 d1 g2 d2 xs0 xs1 w2 (by omega) (by omega) (own_ints Os0_2.out) (own_ints Os1.out)).mono ?_
      rintro e w3 ⟨rfl, b3⟩
      have E3 := hid ((E2.out).trans (b3.mono (E2.out).size))
      have Os0_3 := hid (own_below Os0_2.out b3)
      have Os1_3 := hid (own_below Os1.out b3)
      clear b3
      go_wp2_with (fail)
      refine (HC0.out _ (E3.out)).mono ?_
      rintro e w4 ⟨g4, d4, rfl, o4, b4⟩
      have E4 := hid ((E3.out).trans (b4.mono (E3.out).size))
      clear b4
      have Oi0 := hid o4
      clear o4
      go_wp2_with (fail)
      refine (HC1.out _ (E4.out)).mono ?_
      rintro e w5 ⟨g5, d5, rfl, o5, b5⟩
      have E5 := hid ((E4.out).trans (b5.mono (E4.out).size))
      have Oi0_5 := hid (own_below Oi0.out b5)
      clear b5
      have Oi1 := hid o5
      clear o5
      go_wp2_with (fail)
      refine (implCmpT g4 d4 g5 d5 xs0 xs1 w5 (by omega) (by omega) (own_cap Oi0_5.out) (own_cap Oi1.out) (own_ints Oi0_5.out) (own_ints Oi1.out)).mono ?_
      rintro e w6 ⟨rfl, b6⟩
      have E6 := hid ((E5.out).trans (b6.mono (E5.out).size))
      have Oi0_6 := hid (own_below Oi0_5.out b6)
      have Oi1_6 := hid (own_below Oi1.out b6)
      clear b6
      have hne : ∀ r : Int, (r != r) = false := fun r => by simp
      go_wp2_with (fail)
      refine (HC0.out _ (E6.out)).mono ?_
      rintro e w7 ⟨g7, d7, rfl, o7, b7⟩
      have E7 := hid ((E6.out).trans (b7.mono (E6.out).size))
      have Oi0_7 := hid (own_below Oi0_6.out b7)
      have Oi1_7 := hid (own_below Oi1_6.out b7)
      clear b7
      have O7 := hid o7
      clear o7
      go_wp2_with (fail)
      refine (eqInts _ _ xs0 _ (by omega) (own_arg Oi0_7.out) (own_arg O7.out)).mono ?_
      rintro e w8 ⟨rfl, b8⟩
      have E8 := hid ((E7.out).trans (b8.mono (E7.out).size))
      have Oi0_8 := hid (own_below Oi0_7.out b8)
      have Oi1_8 := hid (own_below Oi1_7.out b8)
      clear b8
      go_wp2_with (fail)
      refine (HC1.out _ (E8.out)).mono ?_
      rintro e w9 ⟨g9, d9, rfl, o9, b9⟩
      have E9 := hid ((E8.out).trans (b9.mono (E8.out).size))
      have Oi0_9 := hid (own_below Oi0_8.out b9)
      have Oi1_9 := hid (own_below Oi1_8.out b9)
      clear b9
      have O9 := hid o9
      clear o9
      go_wp2_with (fail)
      refine (eqInts _ _ xs1 _ (by omega) (own_arg Oi1_9.out) (own_arg O9.out)).mono ?_
      rintro e w10 ⟨rfl, b10⟩
      have E10 := hid ((E9.out).trans (b10.mono (E9.out).size))
      have Oi0_10 := hid (own_below Oi0_9.out b10)
      have Oi1_10 := hid (own_below Oi1_9.out b10)
      clear b10
      go_wp2_with (fail)
      go_ret
      exact ⟨rfl, E10.out⟩
    · have hs1 : (1048576 : Int) < (xs1.length : Int) := by omega
      clear ha0 ha1
      go_enter Try.func10, Try.ntmps10
      go_wp2_with (fail)
      go_ret
      exact ⟨rfl, Below.refl _ _⟩
  · have hs0 : (1048576 : Int) < (xs0.length : Int) := by omega
    clear ha0 ha1
    go_enter Try.func10, Try.ntmps10
    go_wp2_with (fail)
    go_ret
    exact ⟨rfl, Below.refl _ _⟩

end Go.Proofs.Ytbbgkflkabkoeaa.pExactCompareTerms
