/- Contracts: which texts are names, as the program and the model tell it. -/
import Derived.Test.YtjijabfamjhdjaaDoorCd
import Derived.Laws.RangeAny
import Derived.Lib.Strings
namespace Go.Proofs.YtjijabfamjhdjaaDoor
open Go.RowKit

def letB (x : Int) : Bool := decide (97 ≤ x ∧ x ≤ 122)
def digB (x : Int) : Bool := decide (48 ≤ x ∧ x ≤ 57)
theorem letB_iff {x : Int} : letB x = true ↔ 97 ≤ x ∧ x ≤ 122 := decide_eq_true_iff
theorem digB_iff {x : Int} : digB x = true ↔ 48 ≤ x ∧ x ≤ 57 := decide_eq_true_iff
theorem retBn {a b : Bool} (h : a = b) : Ending.returned (.bool a) = .returned (.bool b) := by rw [h]
theorem letB_no {x : Int} (h : ¬ (97 ≤ x ∧ x ≤ 122)) : letB x = false := by rw [Bool.eq_false_iff]; exact fun e => h (letB_iff.1 e)
theorem digB_no {x : Int} (h : ¬ (48 ≤ x ∧ x ≤ 57)) : digB x = false := by rw [Bool.eq_false_iff]; exact fun e => h (digB_iff.1 e)

theorem specDigit (x : Int) (w : World) : Calls Tryd.prog 79 #[.int .u8 x] w fun e w' => e = .returned (.bool (digB x)) ∧ w' = w := by
  by_cases h1 : 48 ≤ x
  · by_cases h2 : x ≤ 57
    · rw [digB_iff.2 ⟨h1, h2⟩]
      go_enter Tryd.func79, Tryd.ntmps79
      go_wp2
      go_ret
      exact ⟨rfl, rfl⟩
    · rw [digB_no (by omega)]
      go_enter Tryd.func79, Tryd.ntmps79
      go_wp2
      go_ret
      exact ⟨rfl, rfl⟩
  · rw [digB_no (by omega)]
    go_enter Tryd.func79, Tryd.ntmps79
    go_wp2
    go_ret
    exact ⟨rfl, rfl⟩
/-- A letter, a digit or a hyphen. -/
def okC (x : Int) : Bool := letB x || (digB x || x == 45)
/-- Is a text a name? -/
def nmB (l : List UInt8) : Bool := decide (1 ≤ l.length ∧ l.length ≤ 12) && (letB (l.getD 0 0).toNat && l.all fun c => okC c.toNat)

theorem nmB_short {l : List UInt8} (h : ¬ (1 ≤ l.length ∧ l.length ≤ 12)) : nmB l = false := by unfold nmB; rw [decide_eq_false h]; rfl
theorem nmB_first {l : List UInt8} (h : letB (l.getD 0 0).toNat = false) : nmB l = false := by unfold nmB; rw [h]; simp
theorem nmB_bad {l : List UInt8} {k : Nat} (hk : k < l.length) (h : okC (l[k]).toNat = false) : nmB l = false := by
  unfold nmB
  have : l.all (fun c => okC c.toNat) = false := by
    rw [Bool.eq_false_iff]
    intro e
    have h2 : okC (l[k]).toNat = true := List.all_eq_true.1 e _ (List.getElem_mem hk)
    rw [h] at h2
    cases h2
  rw [this]; simp
theorem nmB_yes {l : List UInt8} (h : 1 ≤ l.length ∧ l.length ≤ 12) (h1 : letB (l.getD 0 0).toNat = true) (h2 : ∀ k (hk : k < l.length), okC (l[k]).toNat = true) : nmB l = true := by
  unfold nmB
  rw [decide_eq_true h, h1, Bool.true_and, Bool.true_and, List.all_eq_true]
  intro c hc
  obtain ⟨i, hi, rfl⟩ := List.getElem_of_mem hc
  exact h2 i hi

theorem byte_at (s : ByteArray) (k : Nat) (h : k < s.size) : s.data.toList[k]'(by rw [Array.length_toList]; exact h) = s[k]'h := by
  rw [Array.getElem_toList]; rfl
theorem nmS_first {s : ByteArray} (h : 0 < s.size) (h1 : letB (s[0]'h).toNat = false) : nmB s.data.toList = false := by
  refine nmB_first ?_
  rw [List.getD_eq_getElem?_getD, List.getElem?_eq_getElem (by rw [Array.length_toList]; exact h), Option.getD_some, byte_at s 0 h]; exact h1
theorem nmS_bad {s : ByteArray} {k : Nat} (h : k < s.size) (h1 : okC (s[k]'h).toNat = false) : nmB s.data.toList = false :=
  nmB_bad (k := k) (by rw [Array.length_toList]; exact h) (by rw [byte_at s k h]; exact h1)
theorem nmS_yes {s : ByteArray} (h : 0 < s.size) (h12 : s.size ≤ 12) (h1 : letB (s[0]'h).toNat = true) (h2 : ∀ k (hk : k < s.size), okC (s[k]'hk).toNat = true) : nmB s.data.toList = true := by
  have hL : s.data.toList.length = s.size := Array.length_toList
  refine nmB_yes (by omega) ?_ (fun k hk => ?_)
  · rw [List.getD_eq_getElem?_getD, List.getElem?_eq_getElem (by omega), Option.getD_some, byte_at s 0 h]; exact h1
  · rw [byte_at s k (by omega)]; exact h2 k (by omega)

theorem okC_high {x : Int} (h : 128 ≤ x) : okC x = false := by
  unfold okC
  rw [letB_no (by omega), digB_no (by omega)]
  simp
  omega

end Go.Proofs.YtjijabfamjhdjaaDoor
