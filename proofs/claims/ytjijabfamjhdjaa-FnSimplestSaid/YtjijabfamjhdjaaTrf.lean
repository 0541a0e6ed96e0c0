/- Mathematics of the tree: the path to a fraction leads to it; paths that are cut, or common to two. -/
import Derived.Test.YtjijabfamjhdjaaTrm
import Derived.Test.YtjijabfamjhdjaaCve
namespace Go.Proofs.Ytjijabfamjhdjaa

theorem path_fo {n d : Int} (h : okF n d = true) (hn : 1 ≤ n) : ∃ m, fo 1 0 0 1 (pathF n d) = some m ∧ mid m = (n, d) := by
  rcases path_shape h hn with ⟨e, _, e2, e3⟩ | ⟨e, hl⟩
  · subst e2 e3
    rw [e]
    exact ⟨_, fo_nil h, rfl⟩
  · have hne : decL (eu n d) ≠ [] := by
      intro e0
      have := decL_length (eu n d)
      rw [e0, eu_step (by have := okF_iff.1 h; omega)] at this
      simp at this
    have h1 := path_ok h hn
    rw [e] at h1 ⊢
    have h2 := at_cv h1 hne
    rw [inc_dec] at h2
    obtain ⟨_, l, h3, h4⟩ := eu_val h
    rw [h3] at h2
    have h2 : Option.map mid (fo 1 0 0 1 (decL (eu n d))) = some (n, d) := by rw [h2]; exact h4
    obtain ⟨m, h5, h6⟩ := Option.map_eq_some_iff.1 h2
    exact ⟨m, h5, h6⟩
theorem okP_nonneg {xs : List Int} (h : okP xs = true) : ∀ z ∈ xs, 0 ≤ z := by
  intro z hz
  obtain ⟨j, hj⟩ := List.mem_iff_getElem?.1 hz
  exact (okP_bd h hj).1
theorem okP_last {xs : List Int} (h : okP xs = true) (h0 : 0 < xs.length) : ∃ x, xs[xs.length - 1]? = some x ∧ 1 ≤ x ∧ x ≤ 1000000000 := by
  obtain ⟨x, hx⟩ : ∃ x, xs[xs.length - 1]? = some x := ⟨_, List.getElem?_eq_getElem (by omega)⟩
  have := (okP_iff.1 h).2 _ x hx
  refine ⟨x, hx, ?_, this.2⟩
  unfold lowP at this
  split at this <;> omega
/-- A beginning that ends with a number of at least 1 is a path, too. -/
theorem okP_part {xs ys : List Int} (h : okP xs = true) (hl : ys.length ≤ xs.length) (h1 : ∀ j x, ys[j]? = some x → ∃ z, xs[j]? = some z ∧ x ≤ z ∧ (j + 1 < ys.length → x = z)) (h2 : ∀ x, ys[ys.length - 1]? = some x → 1 ≤ x) : okP ys = true := by
  refine okP_iff.2 ⟨by have := okP_len h; omega, fun j x hx => ?_⟩
  obtain ⟨z, hz, hxz, he⟩ := h1 j x hx
  have hb := (okP_iff.1 h).2 j z hz
  have hj := (List.getElem?_eq_some_iff.1 hx).1
  refine ⟨?_, by omega⟩
  by_cases hjl : j + 1 < ys.length
  · have := he hjl
    unfold lowP at hb ⊢
    split
    · rename_i e
      rw [if_pos ⟨e.1, by omega⟩] at hb
      omega
    · rename_i e
      rw [if_neg (fun e2 => e ⟨e2.1, by omega⟩)] at hb
      omega
  · have hj2 : j = ys.length - 1 := by omega
    subst hj2
    have := h2 x hx
    unfold lowP
    split <;> omega

theorem split_last {xs : List Int} {x : Int} (h : xs[xs.length - 1]? = some x) : xs = xs.take (xs.length - 1) ++ [x] := by
  have h0 := (List.getElem?_eq_some_iff.1 h).1
  apply List.ext_getElem?
  intro j
  by_cases hj : j < xs.length - 1
  · rw [List.getElem?_append_left (by rw [List.length_take]; omega), List.getElem?_take_of_lt hj]
  · rw [List.getElem?_append_right (by rw [List.length_take]; omega), List.length_take]
    by_cases hj2 : j = xs.length - 1
    · subst hj2
      rw [h, show xs.length - 1 - min (xs.length - 1) xs.length = 0 by omega]
      rfl
    · rw [List.getElem?_eq_none (by omega), List.getElem?_eq_none (by simp; omega)]
theorem decL_split {xs : List Int} {x : Int} (h : xs[xs.length - 1]? = some x) : decL xs = xs.take (xs.length - 1) ++ [x - 1] := by
  have h0 := (List.getElem?_eq_some_iff.1 h).1
  have hx : xs.getD (xs.length - 1) 0 = x := by rw [List.getD_eq_getElem?_getD, h]; rfl
  unfold decL
  rw [hx]
  conv => lhs; rw [split_last h]
  rw [show (List.take (xs.length - 1) xs ++ [x]).length - 1 = (List.take (xs.length - 1) xs).length by simp]
  rw [List.set_append_right _ _ (Nat.le_refl _)]
  simp

/-- The path one step before. -/
def parL (xs : List Int) : List Int := trimL (decL xs)
theorem parL_more {xs : List Int} {x : Int} (h : xs[xs.length - 1]? = some x) (h1 : 2 ≤ x) : parL xs = decL xs := by
  have h0 := (List.getElem?_eq_some_iff.1 h).1
  refine trimL_same ?_
  rw [decL_length, decL_last (by omega), List.getD_eq_getElem?_getD, h]
  intro e
  injection e with e
  have e : x - 1 = 0 := e
  omega
theorem parL_one {xs : List Int} (h : xs[xs.length - 1]? = some 1) : parL xs = (xs.take (trimN xs (xs.length - 1))) := by
  have h0 := (List.getElem?_eq_some_iff.1 h).1
  unfold parL trimL
  obtain ⟨m, hm⟩ : ∃ m, xs.length = m + 1 := ⟨xs.length - 1, by omega⟩
  have hd : (decL xs)[m]? = some 0 := by
    have := decL_last (xs := xs) (by omega)
    rw [List.getD_eq_getElem?_getD, h, hm, Nat.add_sub_cancel] at this
    exact this
  rw [decL_length, hm, trimN_zero hd, Nat.add_sub_cancel]
  have e : ∀ k, k ≤ m → trimN (decL xs) k = trimN xs k := by
    intro k
    induction k with
    | zero => intro _; rfl
    | succ k ih =>
      intro hk
      unfold trimN
      rw [decL_at (by omega), ih (by omega)]
  rw [e m (Nat.le_refl _)]
  apply List.ext_getElem?
  intro j
  have := trimN_le xs m
  by_cases hj : j < trimN xs m
  · rw [List.getElem?_take_of_lt hj, List.getElem?_take_of_lt hj, decL_at (by omega)]
  · rw [List.getElem?_eq_none (by rw [List.length_take]; omega), List.getElem?_eq_none (by rw [List.length_take]; omega)]
/-- .. which is as the path itself, without its last run, unless only a run of no steps is left. -/
theorem parL_cut {xs : List Int} (hk : okP xs = true) (h : xs[xs.length - 1]? = some 1) (h2 : ¬ (xs.length = 2 ∧ xs[0]? = some 0)) : parL xs = xs.take (xs.length - 1) := by
  have h0 := (List.getElem?_eq_some_iff.1 h).1
  rw [parL_one h]
  by_cases h1 : xs.length = 1
  · rw [h1]; rfl
  obtain ⟨m, hm⟩ : ∃ m, xs.length - 1 = m + 1 := ⟨xs.length - 2, by omega⟩
  rw [hm, trimN_stop]
  intro e
  have hb := (okP_iff.1 hk).2 m 0 e
  unfold lowP at hb
  split at hb
  · rename_i e2
    exact h2 ⟨by omega, by rw [← e2.1]; exact e⟩
  · omega
theorem parL_nil {xs : List Int} (h : xs[xs.length - 1]? = some 1) (h1 : xs.length = 2) (h2 : xs[0]? = some 0) : parL xs = [] := by
  rw [parL_one h, h1]
  show xs.take (trimN xs 1) = []
  rw [trimN_zero h2]
  rfl
theorem par_fo {xs : List Int} {m : Int × Int × Int × Int} (hk : okP xs = true) (h0 : 0 < xs.length) (h : fo 1 0 0 1 xs = some m) : okP (parL xs) = true ∧ ∃ m', fo 1 0 0 1 (parL xs) = some m' := by
  obtain ⟨x, hx, hx1, hx2⟩ := okP_last hk h0
  by_cases h2 : 2 ≤ x
  · rw [parL_more hx h2]
    have hf := h
    rw [split_last hx] at hf
    obtain ⟨m', hm'⟩ := fo_less _ _ _ _ _ x (x - 1) m inv_top (fun z hz => okP_nonneg hk z (List.mem_of_mem_take hz)) (by omega) (by omega) hf
    refine ⟨okP_part hk (by rw [decL_length]; omega) (fun j y hy => ?_) (fun y hy => ?_), m', by rw [decL_split hx]; exact hm'⟩
    · by_cases hj : j = xs.length - 1
      · subst hj
        rw [decL_last h0, List.getD_eq_getElem?_getD, hx] at hy
        injection hy with hy
        have hy : x - 1 = y := hy
        exact ⟨x, hx, by omega, fun e => by rw [decL_length] at e; omega⟩
      · rw [decL_at hj] at hy
        exact ⟨y, hy, by omega, fun _ => rfl⟩
    · rw [decL_length, decL_last h0, List.getD_eq_getElem?_getD, hx] at hy
      injection hy with hy
      have hy : x - 1 = y := hy
      omega
  · have hx3 : x = 1 := by omega
    subst hx3
    by_cases h3 : xs.length = 2 ∧ xs[0]? = some 0
    · rw [parL_nil hx h3.1 h3.2]
      exact ⟨rfl, _, fo_nil (fo_ok h)⟩
    · rw [parL_cut hk hx h3]
      have hf := h
      rw [split_last hx] at hf
      refine ⟨okP_part hk (by rw [List.length_take]; omega) (fun j y hy => ?_) (fun y hy => ?_), fo_take _ _ _ _ _ _ m hf⟩
      · have := (List.getElem?_eq_some_iff.1 hy).1
        rw [List.length_take] at this
        rw [List.getElem?_take_of_lt (by omega)] at hy
        exact ⟨y, hy, by omega, fun _ => rfl⟩
      · have hl := (List.getElem?_eq_some_iff.1 hy).1
        rw [List.length_take] at hl hy
        have e : min (xs.length - 1) xs.length - 1 = xs.length - 2 := by omega
        rw [e] at hy
        rw [List.getElem?_take_of_lt (by omega)] at hy
        have hb := (okP_iff.1 hk).2 _ y hy
        unfold lowP at hb
        split at hb
        · rename_i e2
          have : y ≠ 0 := by
            intro e3
            subst e3
            rw [e2.1] at hy
            exact h3 ⟨by omega, hy⟩
          omega
        · omega

/-- What two paths have in common at the beginning. -/
def cmn (a b : List Int) : List Int := a.take (comm a b) ++ (if comm a b < a.length ∧ comm a b < b.length then [min (a.getD (comm a b) 0) (b.getD (comm a b) 0)] else [])
def cmnL (a b : List Int) : List Int := trimL (cmn a b)
theorem okP_trim {xs : List Int} (h : okP xs = true) : trimL xs = xs := by
  by_cases h0 : 0 < xs.length
  · obtain ⟨x, hx, hx1, _⟩ := okP_last h h0
    refine trimL_same ?_
    rw [hx]
    intro e
    injection e with e
    omega
  · have : xs = [] := List.length_eq_zero_iff.1 (by omega)
    subst this; rfl
theorem comm_take : ∀ (a b : List Int), a.take (comm a b) = b.take (comm a b)
  | [], b => by cases b <;> simp [comm]
  | x :: a, [] => by simp [comm]
  | x :: a, y :: b => by
    unfold comm
    split
    · rename_i e
      subst e
      rw [List.take_succ_cons, List.take_succ_cons, comm_take a b]
    · rfl
theorem cmn_fo {a b : List Int} {m m' : Int × Int × Int × Int} (ha : okP a = true) (hb : okP b = true) (fa : fo 1 0 0 1 a = some m) (fb : fo 1 0 0 1 b = some m') : okP (cmnL a b) = true ∧ ∃ m2, fo 1 0 0 1 (cmnL a b) = some m2 := by
  have la := comm_le_left a b
  have lb := comm_le_right a b
  unfold cmnL cmn
  by_cases h : comm a b < a.length ∧ comm a b < b.length
  · rw [if_pos h]
    obtain ⟨x, hx⟩ : ∃ x, a[comm a b]? = some x := ⟨_, List.getElem?_eq_getElem h.1⟩
    obtain ⟨y, hy⟩ : ∃ y, b[comm a b]? = some y := ⟨_, List.getElem?_eq_getElem h.2⟩
    rw [List.getD_eq_getElem?_getD, List.getD_eq_getElem?_getD, hx, hy]
    show okP (trimL (a.take (comm a b) ++ [min x y])) = true ∧ ∃ m2, fo 1 0 0 1 (trimL (a.take (comm a b) ++ [min x y])) = some m2
    have bx := okP_bd ha hx
    have by' := okP_bd hb hy
    have hs : a = a.take (comm a b) ++ [x] ++ a.drop (comm a b + 1) := by
      have h1 := List.take_append_drop (comm a b + 1) a
      have h2 : a.take (comm a b + 1) = a.take (comm a b) ++ [x] := by
        rw [List.take_add_one, hx]; rfl
      rw [h2] at h1
      exact h1.symm
    by_cases h0 : min x y = 0
    · have hz : comm a b = 0 := by
        rcases Nat.eq_zero_or_pos (comm a b) with e | e
        · exact e
        · have p1 := (okP_iff.1 ha).2 _ x hx
          have p2 := (okP_iff.1 hb).2 _ y hy
          rw [lowP_next e] at p1 p2
          omega
      rw [h0, hz]
      exact ⟨rfl, _, fo_nil (fo_ok fa)⟩
    · have hl : (a.take (comm a b)).length = comm a b := by rw [List.length_take]; omega
      have ok : okP (a.take (comm a b) ++ [min x y]) = true := by
        refine okP_part ha (by simp; omega) (fun j z hz => ?_) (fun z hz => ?_)
        · by_cases hj : j < comm a b
          · rw [List.getElem?_append_left (by omega), List.getElem?_take_of_lt hj] at hz
            exact ⟨z, hz, by omega, fun _ => rfl⟩
          · rw [List.getElem?_append_right (by omega)] at hz
            have hj2 : j = comm a b := by
              have := (List.getElem?_eq_some_iff.1 hz).1
              simp at this
              omega
            subst hj2
            rw [hl, Nat.sub_self] at hz
            have hz : min x y = z := by simpa using hz
            exact ⟨x, hx, by omega, fun e => by simp at e; omega⟩
        · rw [List.length_append, hl, List.length_singleton, Nat.add_sub_cancel, List.getElem?_append_right (by omega), hl, Nat.sub_self] at hz
          have hz : min x y = z := by simpa using hz
          omega
      rw [okP_trim ok]
      refine ⟨ok, ?_⟩
      rw [hs] at fa
      obtain ⟨m2, f2⟩ := fo_take _ _ _ _ _ _ m fa
      exact fo_less _ _ _ _ _ x (min x y) m2 inv_top (fun z hz => okP_nonneg ha z (List.mem_of_mem_take hz)) (by omega) (by omega) f2
  · rw [if_neg h, List.append_nil]
    by_cases h1 : comm a b < a.length
    · have e : comm a b = b.length := by omega
      rw [comm_take, e, List.take_length, okP_trim hb]
      exact ⟨hb, m', fb⟩
    · have e : comm a b = a.length := by omega
      rw [e, List.take_length, okP_trim ha]
      exact ⟨ha, m, fa⟩

/-- The fraction at the end of a path, and a code. -/
def atP (xs : List Int) : Int × Int × Int := if okP xs = true then (match fo 1 0 0 1 xs with | some m => ((mid m).1, (mid m).2, 0) | none => (0, 0, 5)) else (0, 0, 1)
theorem atP_bad {xs : List Int} (h : okP xs = false) : atP xs = (0, 0, 1) := by unfold atP; rw [h]; rfl
theorem atP_full {xs : List Int} (h : okP xs = true) (h2 : fo 1 0 0 1 xs = none) : atP xs = (0, 0, 5) := by unfold atP; rw [h, h2]; rfl
theorem atP_ok {xs : List Int} {m : Int × Int × Int × Int} (h : okP xs = true) (h2 : fo 1 0 0 1 xs = some m) : atP xs = ((mid m).1, (mid m).2, 0) := by unfold atP; rw [h, h2]; rfl
theorem atP_path {n d : Int} (h : okF n d = true) (hn : 1 ≤ n) : atP (pathF n d) = (n, d, 0) := by
  obtain ⟨m, h1, h2⟩ := path_fo h hn
  rw [atP_ok (path_ok h hn) h1, h2]

end Go.Proofs.Ytjijabfamjhdjaa
