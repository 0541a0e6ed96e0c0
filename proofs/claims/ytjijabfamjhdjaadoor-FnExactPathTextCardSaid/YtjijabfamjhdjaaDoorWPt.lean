/- The law on PathText, walked. -/
import Derived.Test.YtjijabfamjhdjaaDoorPti
namespace Go.Proofs.YtjijabfamjhdjaaDoor.pExactPathText
open Go.RowKit

set_option maxHeartbeats 800000 in
theorem walk (a0 : Option Addr) (n0 c0 : Nat) (xs0 : List Int) (w : World) (hl : laidMet Tryd.prog Rows.fnExactPathTextRow.laid w) (hn0 : n0 = xs0.length) (ha0 : Arg w (.slice a0 n0 c0) xs0) :
    Calls Tryd.prog 4 #[.slice a0 n0 c0] w fun e w' => e = .returned (.bool true) ∧ Below w.heap.size w w' := by
  have HP := hid (show PowP w from pow10_of hl (by simp [Rows.fnExactPathTextRow]))
  clear hl
  subst hn0
  by_cases hx0 : xs0.length ≤ 1048576
  · have hs0 : ¬ (1048576 : Int) < (xs0.length : Int) := by omega
    have HC0 := hid (fun w' (h : Below w.heap.size w w') => copyAny (.slice a0 xs0.length c0) xs0 w' hx0 (arg_below ha0 h))
    clear ha0
    go_enter Tryd.func4, Tryd.ntmps4
    go_wp2_with (fail)
    refine (HC0.out _ (Below.refl _ _)).mono ?_
    rintro e w1 ⟨g1, d1, rfl, o1, b1⟩
    have E1 := hid (b1)
    clear b1
    have Os0 := hid o1
    clear o1
    go_wp2_with (fail)
    refine (specTextP g1 d1 xs0 w1 (by omega) (own_ints Os0.out)).mono ?_
    rintro e w2 ⟨rfl, b2⟩
    have E2 := hid ((E1.out).trans (b2.mono (E1.out).size))
    have Os0_2 := hid (own_below Os0.out b2)
    clear b2
    go_wp2_with (fail)
    refine (HC0.out _ (E2.out)).mono ?_
    rintro e w3 ⟨g3, d3, rfl, o3, b3⟩
    have E3 := hid ((E2.out).trans (b3.mono (E2.out).size))
    clear b3
    have Oi0 := hid o3
    clear o3
    go_wp2_with (fail)
    refine (implTextP g3 d3 xs0 w3 (by omega) (own_cap Oi0.out) (own_ints Oi0.out) (powp_below HP.out (E3.out))).mono ?_
    rintro e w4 ⟨rfl, b4⟩
    have E4 := hid ((E3.out).trans (b4.mono (E3.out).size))
    have Oi0_4 := hid (own_below Oi0.out b4)
    clear b4
    generalize (⟨(ptO xs0).toArray⟩ : ByteArray) = r at *
    go_wp2_with (fail)
    refine (HC0.out _ (E4.out)).mono ?_
    rintro e w5 ⟨g5, d5, rfl, o5, b5⟩
    have E5 := hid ((E4.out).trans (b5.mono (E4.out).size))
    have Oi0_5 := hid (own_below Oi0_4.out b5)
    clear b5
    have O5 := hid o5
    clear o5
    go_wp2_with (fail)
    refine (eqInts _ _ xs0 _ (by omega) (own_arg Oi0_5.out) (own_arg O5.out)).mono ?_
    rintro e w6 ⟨rfl, b6⟩
    have E6 := hid ((E5.out).trans (b6.mono (E5.out).size))
    have Oi0_6 := hid (own_below Oi0_5.out b6)
    clear b6
    go_wp2_with (fail)
    go_ret
    exact ⟨rfl, E6.out⟩
  · have hs0 : (1048576 : Int) < (xs0.length : Int) := by omega
    clear ha0
    go_enter Tryd.func4, Tryd.ntmps4
    go_wp2_with (fail)
    go_ret
    exact ⟨rfl, Below.refl _ _⟩

end Go.Proofs.YtjijabfamjhdjaaDoor.pExactPathText
