/- Contracts of the program's and the model's greatest common divisors. -/
import Derived.Test.YtjijabfamjhdjaaDoorRows
import Derived.Test.YtjijabfamjhdjaaDoorMath
import Derived.WalkKit
import Derived.WalkSpells
import Derived.WalkLawsBesides

import Derived.Deep.QuietTactic
import Derived.BigQuiet
import Derived.Deep.RegionWith
namespace Go.Proofs.YtjijabfamjhdjaaDoor
open Go.RowKit

theorem hid {p : Prop} (h : p) : Hid p := h
def Dr (w w' : World) : Prop := ∃ n, w' = w.drewN n
theorem Dr.refl (w : World) : Dr w w := ⟨0, rfl⟩
theorem Dr.drewN {w w' : World} (h : Dr w w') (n : Nat) : Dr w (w'.drewN n) := by
  obtain ⟨m, rfl⟩ := h
  exact ⟨m + n, by rw [World.drewN_drewN]⟩

set_option maxHeartbeats 400000 in
theorem implCd (a b : Int) (w : World) (ha : -2000000000000000000 ≤ a) (ha' : a ≤ 2000000000000000000) (hb : -2000000000000000000 ≤ b) (hb' : b ≤ 2000000000000000000) :
    Calls Tryd.prog 74 #[.int .i64 a, .int .i64 b] w fun e w' => e = .returned (.int .i64 (gc a b)) ∧ Dr w w' := by
  go_enter Tryd.func74, Tryd.ntmps74
  go_wp2
  go_loopw [0, 1] (fun x y wr => ∃ m n : Int, x = .int .i64 m ∧ y = .int .i64 n ∧ -2000000000000000000 ≤ m ∧ m ≤ 2000000000000000000 ∧ -2000000000000000000 ≤ n ∧ n ≤ 2000000000000000000 ∧ Hid (gc m n = gc a b) ∧ Dr w wr) (fun _ y _ => (intOf y).natAbs)
  case atStart => exact ⟨a, b, rfl, rfl, ha, ha', hb, hb', hid rfl, 0, rfl⟩
  case round =>
    obtain ⟨m, n, rfl, rfl, hm, hm', hn, hn', hg, hd⟩ := hrel
    by_cases h0 : n = 0
    · subst h0
      have hz := gc_zero m
      rw [hg.out] at hz
      by_cases hm0 : m < 0
      · rw [if_pos hm0] at hz
        have HZ := hid hz
        clear hz
        go_wp2
        go_ret
        exact ⟨by rw [HZ.out]; rfl, hd⟩
      · rw [if_neg hm0] at hz
        have HZ := hid hz
        clear hz
        go_wp2
        go_ret
        exact ⟨by rw [HZ.out]; rfl, hd⟩
    · have hne : (n != 0) = true := by simpa using h0
      have hz : (n == 0) = false := by simpa using h0
      go_wp2
      go_quiet (fail)
      go_wp2
      go_roundw
      case rel =>
        have hlt := tmod_lt m n h0
        exact ⟨n, m.tmod n, rfl, rfl, hn, hn', by omega, by omega, hid ((gc_tmod m n).trans hg.out), hd.drewN _⟩
      case measure => exact tmod_lt m n h0

theorem ret_int {k : IntKind} {a b : Int} (h : a = b) : Ending.returned (.int k a) = .returned (.int k b) := by rw [h]

/-- Is a number within bounds? -/
def inB (lo hi n : Int) : Bool := decide (lo ≤ n ∧ n ≤ hi)
theorem inB_iff {lo hi n : Int} : inB lo hi n = true ↔ (lo ≤ n ∧ n ≤ hi) := decide_eq_true_iff
theorem inB_yes {lo hi n : Int} (h : lo ≤ n ∧ n ≤ hi) : inB lo hi n = true := inB_iff.2 h
theorem inB_no {lo hi n : Int} (h : ¬ (lo ≤ n ∧ n ≤ hi)) : inB lo hi n = false := by
  rw [Bool.eq_false_iff]; exact fun e => h (inB_iff.1 e)

theorem specIn (n lo hi : Int) (w : World) :
    Calls Tryd.prog 50 #[.int .i64 n, .int .i64 lo, .int .i64 hi] w fun e w' => e = .returned (.bool (inB lo hi n)) ∧ w' = w := by
  by_cases h1 : lo ≤ n
  · by_cases h2 : n ≤ hi
    · rw [inB_yes ⟨h1, h2⟩]
      go_enter Tryd.func50, Tryd.ntmps50
      go_wp2
      go_ret
      exact ⟨rfl, rfl⟩
    · rw [inB_no (fun h => h2 h.2)]
      go_enter Tryd.func50, Tryd.ntmps50
      go_wp2
      go_ret
      exact ⟨rfl, rfl⟩
  · rw [inB_no (fun h => h1 h.1)]
    go_enter Tryd.func50, Tryd.ntmps50
    go_wp2
    go_ret
    exact ⟨rfl, rfl⟩

end Go.Proofs.YtjijabfamjhdjaaDoor
