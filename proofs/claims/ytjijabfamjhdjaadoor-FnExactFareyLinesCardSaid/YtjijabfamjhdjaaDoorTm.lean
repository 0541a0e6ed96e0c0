/- Mathematics of terms: which lists are terms, what they are cut to, how they are compared, continuants, convergents. -/
import Derived.Test.YtjijabfamjhdjaaDoorCd
namespace Go.Proofs.YtjijabfamjhdjaaDoor

def okT (xs : List Int) : Bool := decide (1 ≤ xs.length ∧ xs.length ≤ 60) && (inB (-1000000000) 1000000000 (xs.getD 0 0) && (xs.drop 1).all (inB 1 1000000000))
theorem okT_short {xs : List Int} (h : ¬ (1 ≤ xs.length ∧ xs.length ≤ 60)) : okT xs = false := by unfold okT; rw [decide_eq_false h]; rfl
theorem okT_len {xs : List Int} (h : okT xs = true) : 1 ≤ xs.length ∧ xs.length ≤ 60 := by
  unfold okT at h
  rw [Bool.and_eq_true] at h
  exact of_decide_eq_true h.1
theorem okT_long {xs : List Int} (h : 1 ≤ xs.length ∧ xs.length ≤ 60) : okT xs = (inB (-1000000000) 1000000000 (xs.getD 0 0) && (xs.drop 1).all (inB 1 1000000000)) := by unfold okT; rw [decide_eq_true h]; rfl
theorem okT_first {xs : List Int} (h : okT xs = true) : -1000000000 ≤ xs.getD 0 0 ∧ xs.getD 0 0 ≤ 1000000000 := by
  have := okT_len h
  rw [okT_long this, Bool.and_eq_true] at h
  exact inB_iff.1 h.1
theorem okT_rest {xs : List Int} (h : okT xs = true) : ∀ x ∈ xs.drop 1, 1 ≤ x ∧ x ≤ 1000000000 := by
  have := okT_len h
  rw [okT_long this, Bool.and_eq_true] at h
  intro x hx
  exact inB_iff.1 (List.all_eq_true.1 h.2 x hx)
theorem okT_at {xs : List Int} (h : okT xs = true) {j : Nat} (hj : 1 ≤ j) {x : Int} (hx : xs[j]? = some x) : 1 ≤ x ∧ x ≤ 1000000000 := by
  refine okT_rest h x ?_
  have : (xs.drop 1)[j - 1]? = some x := by rw [List.getElem?_drop]; rw [show 1 + (j - 1) = j by omega]; exact hx
  exact List.mem_of_getElem? this
theorem okT_cons {t : Int} {r : List Int} : okT (t :: r) = true ↔ (-1000000000 ≤ t ∧ t ≤ 1000000000) ∧ r.length ≤ 59 ∧ ∀ x ∈ r, 1 ≤ x ∧ x ≤ 1000000000 := by
  unfold okT
  simp only [Bool.and_eq_true, decide_eq_true_eq, List.length_cons, List.getD_cons_zero, List.drop_succ_cons, List.drop_zero, List.all_eq_true, inB_iff]
  constructor
  · rintro ⟨h1, h2, h3⟩
    exact ⟨h2, by omega, h3⟩
  · rintro ⟨h1, h2, h3⟩
    exact ⟨⟨by omega, by omega⟩, h1, h3⟩

/-- Terms by Euclid. -/
def eu (num den : Int) : List Int := if _h : den ≤ 0 then [] else num / den :: eu den (num % den)
termination_by den.toNat
decreasing_by
  have := Int.emod_lt_of_pos num (b := den) (by omega)
  omega
theorem eu_end {num den : Int} (h : den ≤ 0) : eu num den = [] := by rw [eu]; simp [h]
theorem eu_step {num den : Int} (h : 0 < den) : eu num den = num / den :: eu den (num % den) := by rw [eu]; simp [show ¬ den ≤ 0 by omega]
theorem eu_rest {num den : Int} : num - num / den * den = num % den := by rw [Int.emod_def, Int.mul_comm]

/-- How many elements two lists have in common at the beginning. -/
def comm : List Int → List Int → Nat
  | x :: xs, y :: ys => if x = y then comm xs ys + 1 else 0
  | _, _ => 0
theorem comm_le_left : ∀ (xs ys : List Int), comm xs ys ≤ xs.length
  | [], ys => by cases ys <;> simp [comm]
  | x :: xs, [] => by simp [comm]
  | x :: xs, y :: ys => by
    unfold comm
    split
    · have := comm_le_left xs ys; simp; omega
    · omega
theorem comm_le_right : ∀ (xs ys : List Int), comm xs ys ≤ ys.length
  | [], ys => by cases ys <;> simp [comm]
  | x :: xs, [] => by simp [comm]
  | x :: xs, y :: ys => by
    unfold comm
    split
    · have := comm_le_right xs ys; simp; omega
    · omega
/-- It is found by going on while the elements are the same. -/
theorem comm_at : ∀ {xs ys : List Int} {k : Nat}, (∀ j, j < k → ∃ x, xs[j]? = some x ∧ ys[j]? = some x) → (∀ x y, xs[k]? = some x → ys[k]? = some y → x ≠ y) → k ≤ xs.length → k ≤ ys.length → comm xs ys = k
  | [], ys, k, _, _, h3, _ => by
    have : k = 0 := by simpa using h3
    subst this
    cases ys <;> rfl
  | x :: xs, [], k, _, _, _, h4 => by
    have : k = 0 := by simpa using h4
    subst this
    rfl
  | x :: xs, y :: ys, 0, _, h2, _, _ => by
    unfold comm
    rw [if_neg (h2 x y rfl rfl)]
  | x :: xs, y :: ys, k + 1, h1, h2, h3, h4 => by
    obtain ⟨z, e1, e2⟩ := h1 0 (by omega)
    have e1 : x = z := by simpa using e1
    have e2 : y = z := by simpa using e2
    unfold comm
    rw [if_pos (by rw [e1, e2])]
    rw [comm_at (k := k) (xs := xs) (ys := ys) (fun j hj => by simpa using h1 (j + 1) (by omega)) (fun a b ha hb => h2 a b (by simpa using ha) (by simpa using hb)) (by simpa using h3) (by simpa using h4)]
theorem comm_same {xs ys : List Int} {j : Nat} : j < comm xs ys → xs[j]? = ys[j]? := by
  induction xs generalizing ys j with
  | nil => cases ys <;> simp [comm]
  | cons x xs ih =>
    cases ys with
    | nil => simp [comm]
    | cons y ys =>
      unfold comm
      split
      · rename_i e
        subst e
        intro h
        cases j with
        | zero => rfl
        | succ j => simpa using ih (ys := ys) (j := j) (by omega)
      · intro h; omega

/-- The terms in short form. -/
def short (xs : List Int) : List Int := if 1 < xs.length ∧ xs[xs.length - 1]? = some 1 then (xs.take (xs.length - 1)).set (xs.length - 2) (xs.getD (xs.length - 2) 0 + 1) else xs
theorem short_yes {xs : List Int} (h : 1 < xs.length) (h1 : xs[xs.length - 1]? = some 1) : short xs = (xs.take (xs.length - 1)).set (xs.length - 2) (xs.getD (xs.length - 2) 0 + 1) := if_pos ⟨h, h1⟩
theorem short_no {xs : List Int} (h : ¬ (1 < xs.length ∧ xs[xs.length - 1]? = some 1)) : short xs = xs := if_neg h
theorem short_yes_len {xs : List Int} (h : 1 < xs.length) (h1 : xs[xs.length - 1]? = some 1) : (short xs).length = xs.length - 1 := by rw [short_yes h h1, List.length_set, List.length_take]; omega
/-- The other terms with the same value. -/
def other (xs : List Int) : List Int := if (short xs).length = xs.length then xs.set (xs.length - 1) (xs.getD (xs.length - 1) 0 - 1) ++ [1] else short xs

theorem other_of_short {xs : List Int} (h : short xs = xs) : other xs = xs.set (xs.length - 1) (xs.getD (xs.length - 1) 0 - 1) ++ [1] := by unfold other; rw [if_pos (by rw [h])]

/-- Two lists of short terms are compared. -/
def cmpL (s : Int) : List Int → List Int → Int
  | [], [] => 0
  | [], _ :: _ => s
  | _ :: _, [] => -s
  | x :: xs, y :: ys => if x < y then -s else if y < x then s else cmpL (-s) xs ys
def ord (x y : Int) : Int := if x < y then -1 else if y < x then 1 else 0
def atInf (xs : List Int) (k : Nat) : Int := xs.getD k 9223372036854775807
theorem cmpL_common : ∀ (s : Int) (xs ys : List Int), (∀ x ∈ xs, x < 9223372036854775807) → (∀ y ∈ ys, y < 9223372036854775807) →
    cmpL s xs ys = if comm xs ys % 2 = 1 then -(s * ord (atInf xs (comm xs ys)) (atInf ys (comm xs ys))) else s * ord (atInf xs (comm xs ys)) (atInf ys (comm xs ys))
  | s, [], [], _, _ => by simp [cmpL, comm, ord]
  | s, [], y :: ys, _, hy => by
    have := hy y (by simp)
    have h1 : ¬ (9223372036854775807 : Int) < y := by omega
    simp [cmpL, comm, ord, atInf, h1, this]
  | s, x :: xs, [], hx, _ => by
    have := hx x (by simp)
    simp [cmpL, comm, ord, atInf, this, Int.mul_neg]
  | s, x :: xs, y :: ys, hx, hy => by
    unfold cmpL comm
    by_cases h1 : x < y
    · have h2 : ¬ x = y := by omega
      simp [h1, h2, ord, atInf, Int.mul_neg]
    · by_cases h2 : y < x
      · have h3 : ¬ x = y := by omega
        simp [h1, h2, h3, ord, atInf]
      · have h3 : x = y := by omega
        rw [if_neg h1, if_neg h2, if_pos h3, cmpL_common (-s) xs ys (fun z hz => hx z (by simp [hz])) (fun z hz => hy z (by simp [hz]))]
        have e1 : atInf (x :: xs) (comm xs ys + 1) = atInf xs (comm xs ys) := by simp [atInf]
        have e2 : atInf (y :: ys) (comm xs ys + 1) = atInf ys (comm xs ys) := by simp [atInf]
        rw [e1, e2]
        generalize ord (atInf xs (comm xs ys)) (atInf ys (comm xs ys)) = o
        by_cases h : comm xs ys % 2 = 1
        · rw [if_pos h, if_neg (by omega)]; simp [Int.neg_mul]
        · rw [if_neg h, if_pos (by omega)]; simp [Int.neg_mul]

/-- The continuant of the rest, behind two continuants; none if one is greater than 10^18. -/
def ctn (before now : Int) : List Int → Option Int
  | [] => some now
  | t :: r => if (1000000000000000000 - before) / t < now then none else ctn now (t * now + before) r

end Go.Proofs.YtjijabfamjhdjaaDoor
