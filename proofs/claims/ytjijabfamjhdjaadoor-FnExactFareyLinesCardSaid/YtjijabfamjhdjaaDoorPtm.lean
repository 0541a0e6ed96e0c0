/- Mathematics: the text of a path; and the contract of the model's text. -/
import Derived.Test.YtjijabfamjhdjaaDoorTxm
import Derived.Test.YtjijabfamjhdjaaDoorVp
namespace Go.Proofs.YtjijabfamjhdjaaDoor
open Go.RowKit Go.Lib

/-- The text of one run: its letter and its steps. -/
def rn (j : Nat) (x : Int) : List UInt8 := (if j % 2 = 0 then 82 else 76) :: itoa x
/-- The texts of runs from an index on; those of no steps are left out. -/
def rns : Nat → List Int → List (List UInt8)
  | _, [] => []
  | j, x :: r => if x = 0 then rns (j + 1) r else rn j x :: rns (j + 1) r
theorem rns_snoc : ∀ (a : List Int) (j : Nat) (x : Int), rns j (a ++ [x]) = rns j a ++ (if x = 0 then [] else [rn (j + a.length) x])
  | [], j, x => by
    show (if x = 0 then [] else rn j x :: []) = [] ++ (if x = 0 then [] else [rn (j + 0) x])
    rfl
  | y :: a, j, x => by
    have h := rns_snoc a (j + 1) x
    show (if y = 0 then rns (j + 1) (a ++ [x]) else rn j y :: rns (j + 1) (a ++ [x])) = (if y = 0 then rns (j + 1) a else rn j y :: rns (j + 1) a) ++ (if x = 0 then [] else [rn (j + (a.length + 1)) x])
    rw [h, show j + 1 + a.length = j + (a.length + 1) by omega]
    by_cases hy : y = 0
    · rw [if_pos hy, if_pos hy]
    · rw [if_neg hy, if_neg hy]; rfl
theorem rns_zero {xs : List Int} {k : Nat} (h : xs[k]? = some 0) : rns 0 (xs.take (k + 1)) = rns 0 (xs.take k) := by
  rw [List.take_add_one, h]
  show rns 0 (xs.take k ++ [0]) = _
  rw [rns_snoc, if_pos rfl, List.append_nil]
theorem rns_more {xs : List Int} {k : Nat} {x : Int} (h : xs[k]? = some x) (hx : x ≠ 0) : rns 0 (xs.take (k + 1)) = rns 0 (xs.take k) ++ [rn k x] := by
  have hk := (List.getElem?_eq_some_iff.1 h).1
  rw [List.take_add_one, h]
  show rns 0 (xs.take k ++ [x]) = _
  rw [rns_snoc, if_neg hx, List.length_take, Nat.min_eq_left (Nat.le_of_lt hk), Nat.zero_add]
theorem rns_len : ∀ (j : Nat) (xs : List Int), (rns j xs).length ≤ xs.length
  | _, [] => Nat.le_refl _
  | j, x :: r => by
    have := rns_len (j + 1) r
    show (if x = 0 then rns (j + 1) r else rn j x :: rns (j + 1) r).length ≤ r.length + 1
    by_cases hx : x = 0
    · rw [if_pos hx]; omega
    · rw [if_neg hx, List.length_cons]; omega
theorem rn_len {j : Nat} {x : Int} (h : -1000000000 ≤ x ∧ x ≤ 1000000000) : (rn j x).length ≤ 21 := by
  have := itoa_len20 (n := x) (by omega)
  unfold rn
  simp only [List.length_cons]
  omega
theorem rns_mem : ∀ (j : Nat) (xs : List Int) (y : List UInt8), y ∈ rns j xs → ∃ i x, x ∈ xs ∧ y = rn i x
  | _, [], y, h => by cases h
  | j, x :: r, y, h => by
    have h : y ∈ (if x = 0 then rns (j + 1) r else rn j x :: rns (j + 1) r) := h
    by_cases hx : x = 0
    · rw [if_pos hx] at h
      obtain ⟨i, z, hz, e⟩ := rns_mem (j + 1) r y h
      exact ⟨i, z, List.mem_cons_of_mem _ hz, e⟩
    · rw [if_neg hx] at h
      rcases List.mem_cons.1 h with e | h
      · exact ⟨j, x, List.mem_cons_self, e⟩
      · obtain ⟨i, z, hz, e⟩ := rns_mem (j + 1) r y h
        exact ⟨i, z, List.mem_cons_of_mem _ hz, e⟩
theorem pjoin_snoc {r : List (List UInt8)} (h : r ≠ []) (x : List UInt8) : join (r ++ [x]) [32] = join r [32] ++ ([32] ++ x) := by
  cases r with
  | nil => exact absurd rfl h
  | cons y s => rw [List.cons_append, join_cons, join_cons, joinTail_more, List.append_assoc]
theorem pjoin_ne {r : List (List UInt8)} (h : r ≠ []) (hm : ∀ y ∈ r, y ≠ []) : join r [32] ≠ [] := by
  cases r with
  | nil => exact absurd rfl h
  | cons y s =>
    rw [join_cons]
    intro e
    exact hm y List.mem_cons_self (List.append_eq_nil_iff.1 e).1
theorem rns_no (j : Nat) (xs : List Int) : ∀ y ∈ rns j xs, y ≠ [] := by
  intro y hy e
  obtain ⟨i, x, _, h⟩ := rns_mem j xs y hy
  rw [e] at h
  unfold rn at h
  cases h
/-- The text of a path. -/
def ptT (xs : List Int) : List UInt8 := if xs = [] then [116, 111, 112] else join (rns 0 xs) [32]
def ptO (xs : List Int) : List UInt8 := if okP xs = true then ptT xs else []
theorem ptO_no {xs : List Int} (h : okP xs = false) : ptO xs = [] := by unfold ptO; rw [h]; rfl
theorem ptO_ok {xs : List Int} (h : okP xs = true) : ptO xs = ptT xs := by unfold ptO; rw [h]; rfl
theorem okP_end {xs : List Int} (h : okP xs = true) (h0 : 0 < xs.length) : ∃ x, xs[xs.length - 1]? = some x ∧ 1 ≤ x := by
  obtain ⟨x, hx⟩ : ∃ x, xs[xs.length - 1]? = some x := ⟨_, List.getElem?_eq_getElem (by omega)⟩
  refine ⟨x, hx, ?_⟩
  have h1 := ((okP_iff.1 h).2 _ x hx).1
  unfold lowP at h1
  by_cases hc : xs.length - 1 = 0 ∧ 1 < xs.length
  · omega
  · rw [if_neg hc] at h1; exact h1
theorem ptT_nil : ptT [] = [116, 111, 112] := rfl
theorem ptT_more {xs : List Int} (h : xs ≠ []) : ptT xs = join (rns 0 xs) [32] := if_neg h
/-- A valid path has a run of steps, its last one. -/
theorem rns_ne {xs : List Int} (h : okP xs = true) (h0 : xs ≠ []) : rns 0 xs ≠ [] := by
  obtain ⟨x, hx, hx1⟩ := okP_end h (List.length_pos_iff.2 h0)
  have hl := List.length_pos_iff.2 h0
  have h1 := rns_more hx (by omega)
  rw [show xs.length - 1 + 1 = xs.length by omega, List.take_length] at h1
  rw [h1]
  simp
theorem pjoinTail_len : ∀ (r : List (List UInt8)), (∀ x ∈ r, x.length ≤ 21) → (joinTail [32] r).length ≤ 22 * r.length
  | [], _ => by simp [joinTail]
  | x :: r, h => by
    have h1 := h x (by simp)
    have h2 := pjoinTail_len r (fun y hy => h y (by simp [hy]))
    unfold joinTail at h2 ⊢
    simp only [List.map_cons, List.flatten_cons, List.length_append, List.length_cons, List.length_nil]
    omega
theorem pjoin_len (r : List (List UInt8)) (h : ∀ x ∈ r, x.length ≤ 21) : (join r [32]).length ≤ 22 * r.length := by
  cases r with
  | nil => simp [join_nil]
  | cons x r =>
    rw [join_cons, List.length_append]
    have h1 := h x (by simp)
    have h2 := pjoinTail_len r (fun y hy => h y (by simp [hy]))
    simp only [List.length_cons]
    omega
theorem rns_len21 {xs : List Int} (h : okP xs = true) (k : Nat) : ∀ y ∈ rns 0 (xs.take k), y.length ≤ 21 := by
  intro y hy
  obtain ⟨i, x, hx, rfl⟩ := rns_mem _ _ _ hy
  obtain ⟨j, hj⟩ := List.mem_iff_getElem?.1 (List.mem_of_mem_take hx)
  have := okP_bd h hj
  exact rn_len (by omega)

end Go.Proofs.YtjijabfamjhdjaaDoor
