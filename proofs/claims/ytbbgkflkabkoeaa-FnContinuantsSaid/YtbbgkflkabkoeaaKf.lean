/- Mathematics: what the law on continuants asks. -/
import Derived.Test.YtbbgkflkabkoeaaDt
import Derived.Test.YtbbgkflkabkoeaaCtn
import Derived.Test.YtbbgkflkabkoeaaSum
import Derived.Test.YtbbgkflkabkoeaaCvt
namespace Go.Proofs.Ytbbgkflkabkoeaa

theorem pow61 {k : Nat} (h : k ≤ 8) : (1 : Int) * 61 ^ k ≤ 1000000000000000000 := by
  have : k = 0 ∨ k = 1 ∨ k = 2 ∨ k = 3 ∨ k = 4 ∨ k = 5 ∨ k = 6 ∨ k = 7 ∨ k = 8 := by omega
  rcases this with rfl | rfl | rfl | rfl | rfl | rfl | rfl | rfl | rfl <;> decide
theorem ctn_few {xs : List Int} (h : ∀ x ∈ xs, 1 ≤ x ∧ x ≤ 60) (hl : xs.length ≤ 8) : ctnT xs = (kf 0 1 xs, 0) := by
  rw [ctnT_in ⟨by omega, List.all_eq_true.2 fun x hx => inB_yes (by have := h x hx; omega)⟩]
  rw [ctn_small xs 0 1 h (by omega) (by omega) (by omega) (pow61 hl)]
  rfl
theorem sum_ge : ∀ (ys : List Int), (∀ x ∈ ys, 1 ≤ x) → (ys.length : Int) ≤ ys.sum
  | [], _ => by simp
  | y :: ys, h => by
    have h1 := h y (by simp)
    have h2 := sum_ge ys (fun x hx => h x (by simp [hx]))
    simp only [List.length_cons, List.sum_cons]
    omega
/-- The drawn terms, the first one made positive. -/
def posT (xs : List Int) : List Int := xs.set 0 (max 1 (xs.getD 0 0))
theorem posT_len (xs : List Int) : (posT xs).length = xs.length := by unfold posT; rw [List.length_set]
theorem posT_all {xs : List Int} (h0 : 1 ≤ xs.length) (hf : Few xs) : ∀ x ∈ posT xs, 1 ≤ x ∧ x ≤ 60 := by
  intro x hx
  obtain ⟨j, hj⟩ := List.mem_iff_getElem?.1 hx
  unfold posT at hj
  by_cases hz : j = 0
  · subst hz
    rw [List.getElem?_set_self (by omega)] at hj
    have hj : max 1 (xs.getD 0 0) = x := by simpa using hj
    have h1 := hf.1 (xs.getD 0 0) (by rw [List.getD_eq_getElem?_getD, List.getElem?_eq_getElem (by omega : 0 < xs.length)]; rfl)
    omega
  · rw [List.getElem?_set_ne (by omega)] at hj
    exact hf.2 j x (by omega) hj

theorem kfacts {xs : List Int} (h0 : 1 ≤ xs.length) (h8 : xs.length ≤ 8) (hf : Few xs) : ∃ N D S V1 V2 V3 : Int, ctnT (posT xs) = (N, 0) ∧ ctnT (posT xs).reverse = (N, 0) ∧ ctnT ((posT xs).drop 1) = (D, 0) ∧ sumT (posT xs) = (S, 0) ∧ valT (posT xs) = (V1, V2, V3) ∧
    (xs.length : Int) - 1 ≤ S ∧ (V3 = 0 → V1 = N ∧ V2 = D) := by
  have ha := posT_all h0 hf
  have hl := posT_len xs
  generalize posT xs = ys at ha hl
  have hok : okT ys = true := by
    cases ys with
    | nil => simp at hl; omega
    | cons t r =>
      simp only [List.length_cons] at hl
      rw [okT_cons]
      have := ha t (by simp)
      refine ⟨by omega, by omega, fun x hx => ?_⟩
      have := ha x (by simp [hx])
      omega
  have c1 := ctn_few ha (by omega)
  have c2 := ctn_few (xs := ys.reverse) (fun x hx => ha x (by simpa using hx)) (by simp; omega)
  have c3 := ctn_few (xs := ys.drop 1) (fun x hx => ha x (List.mem_of_mem_drop hx)) (by simp; omega)
  rw [kf_rev _ ys (Nat.le_refl _)] at c2
  have s1 : sumT ys = (rsum ys, 0) := by unfold sumT; rw [hok]; rfl
  have s2 := sum_ge (ys.drop 1) (fun x hx => (ha x (List.mem_of_mem_drop hx)).1)
  rw [List.length_drop] at s2
  have hv : ∃ V1 V2 V3, valT ys = (V1, V2, V3) ∧ (V3 = 0 → V1 = kf 0 1 ys ∧ V2 = kf 0 1 (ys.drop 1)) := by
    cases hc : cv 1 0 0 1 ys with
    | none => exact ⟨0, 0, 5, valT_full hok hc, fun h => by omega⟩
    | some l =>
      refine ⟨_, _, 0, valT_ok hok hc, fun _ => ?_⟩
      have hne : ys ≠ [] := by intro e; rw [e] at hl; simp at hl; omega
      have h1 := cv_last hc hne
      have h2 : l.getD (l.length - 1) (0, 0) = (kf 0 1 ys, kf 1 0 ys) := by
        rw [List.getLast?_eq_getElem?] at h1
        rw [List.getD_eq_getElem?_getD, h1]; rfl
      rw [h2]
      refine ⟨rfl, ?_⟩
      cases ys with
      | nil => exact absurd rfl hne
      | cons t r =>
        show kf 0 (t * 0 + 1) r = kf 0 1 r
        rw [Int.mul_zero, Int.zero_add]
  obtain ⟨V1, V2, V3, v1, v2⟩ := hv
  refine ⟨_, _, _, V1, V2, V3, c1, c2, c3, s1, v1, ?_, v2⟩
  show _ ≤ (ys.drop 1).sum
  omega

end Go.Proofs.Ytbbgkflkabkoeaa
