/- Contracts: terms are compared, by the program and by the model. -/
import Derived.Test.YtjijabfamjhdjaaDoorSh
import Derived.Test.YtjijabfamjhdjaaDoorCtm
namespace Go.Proofs.YtjijabfamjhdjaaDoor
open Go.RowKit

def cmpTT (xs ys : List Int) : Int × Int := if (okT xs && okT ys) = true then (cmpL 1 (short xs) (short ys), 0) else (0, 1)
theorem cmpTT_bad {xs ys : List Int} (h : (okT xs && okT ys) = false) : cmpTT xs ys = (0, 1) := by unfold cmpTT; rw [h]; rfl
theorem cmpTT_ok {xs ys : List Int} (h : okT xs = true) (h2 : okT ys = true) : cmpTT xs ys = (cmpL 1 (short xs) (short ys), 0) := by unfold cmpTT; rw [h, h2]; rfl

theorem okT_bd {xs : List Int} (h : okT xs = true) : ∀ (j : Nat) (x : Int), xs[j]? = some x → -1000000000 ≤ x ∧ x ≤ 1000000000 := by
  intro j x hj
  by_cases h0 : j = 0
  · subst h0
    have := okT_first h
    rw [List.getD_eq_getElem?_getD, hj] at this
    exact this
  · have := okT_at h (by omega) hj
    omega
theorem short_length {xs : List Int} : (short xs).length ≤ xs.length := by
  by_cases h : 1 < xs.length ∧ xs[xs.length - 1]? = some 1
  · rw [short_yes_len h.1 h.2]; omega
  · rw [short_no h]; exact Nat.le_refl _
theorem short_bd {xs : List Int} (h : okT xs = true) : ∀ x ∈ short xs, -1000000000 ≤ x ∧ x ≤ 1000000001 := by
  intro x hx
  by_cases h1 : 1 < xs.length ∧ xs[xs.length - 1]? = some 1
  · rw [short_yes h1.1 h1.2] at hx
    rcases List.mem_or_eq_of_mem_set hx with h2 | h2
    · obtain ⟨j, hj⟩ := List.mem_iff_getElem?.1 (List.mem_of_mem_take h2)
      have := okT_bd h j x hj
      omega
    · subst h2
      obtain ⟨z, hz⟩ : ∃ z, xs[xs.length - 2]? = some z := ⟨_, List.getElem?_eq_getElem (by omega)⟩
      have := okT_bd h _ z hz
      rw [List.getD_eq_getElem?_getD, hz]
      simp only [Option.getD_some]
      omega
  · rw [short_no h1] at hx
    obtain ⟨j, hj⟩ := List.mem_iff_getElem?.1 hx
    have := okT_bd h j x hj
    omega

theorem ord_lt {x y : Int} (h : x < y) : ord x y = -1 := if_pos h
theorem ord_gt {x y : Int} (h : ¬ x < y) (h2 : y < x) : ord x y = 1 := by unfold ord; rw [if_neg h, if_pos h2]
theorem ord_eq {x y : Int} (h : ¬ x < y) (h2 : ¬ y < x) : ord x y = 0 := by unfold ord; rw [if_neg h, if_neg h2]
theorem ord_bd (x y : Int) : -1 ≤ ord x y ∧ ord x y ≤ 1 := by unfold ord; split <;> (try split) <;> omega

theorem atInf_in {xs : List Int} {k : Nat} {x : Int} (h : xs[k]? = some x) : atInf xs k = x := by unfold atInf; rw [List.getD_eq_getElem?_getD, h]; rfl
theorem atInf_out {xs : List Int} {k : Nat} (h : xs.length ≤ k) : atInf xs k = 9223372036854775807 := by unfold atInf; rw [List.getD_eq_getElem?_getD, List.getElem?_eq_none h]; rfl

theorem cmpL_drop {s : Int} {xs ys : List Int} {k : Nat} {x y : Int} (hx : xs[k]? = some x) (hy : ys[k]? = some y) : cmpL s (xs.drop k) (ys.drop k) = if x < y then -s else if y < x then s else cmpL (-s) (xs.drop (k + 1)) (ys.drop (k + 1)) := by
  obtain ⟨h1, h2⟩ := List.getElem?_eq_some_iff.1 hx
  obtain ⟨h3, h4⟩ := List.getElem?_eq_some_iff.1 hy
  rw [List.drop_eq_getElem_cons h1, List.drop_eq_getElem_cons h3, h2, h4]
  rfl

end Go.Proofs.YtjijabfamjhdjaaDoor
