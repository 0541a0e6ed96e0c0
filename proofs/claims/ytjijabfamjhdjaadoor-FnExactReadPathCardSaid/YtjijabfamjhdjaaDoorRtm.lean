/- Mathematics: the text of terms is read back, by parts between separators. -/
import Derived.Test.YtjijabfamjhdjaaDoorNi
import Derived.Test.YtjijabfamjhdjaaDoorTxm
import Derived.Lib.Split
import Derived.Lib.Join
namespace Go.Proofs.YtjijabfamjhdjaaDoor
open Go.RowKit Go.Lib

theorem occ_first {x r : List UInt8} {c : UInt8} (hx : c ∉ x) : index (x ++ c :: 32 :: r) [c, 32] = x.length := by
  refine index_first (by simp) ?_ ?_
  · unfold occAt; simp
  · intro j hj
    unfold occAt
    rw [List.drop_append_of_le_length (by omega), List.drop_eq_getElem_cons hj, List.cons_append]
    have hb : (c == x[j]) = false := beq_eq_false_iff_ne.2 fun e => hx (e ▸ List.getElem_mem hj)
    show ((c == x[j]) && _) = false
    rw [hb]; rfl
theorem occ_none {x : List UInt8} {c : UInt8} (hx : c ∉ x) : index x [c, 32] = -1 := by
  refine index_none fun j _ => ?_
  unfold occAt
  by_cases hj : j < x.length
  · rw [List.drop_eq_getElem_cons hj]
    have hb : (c == x[j]) = false := beq_eq_false_iff_ne.2 fun e => hx (e ▸ List.getElem_mem hj)
    show ((c == x[j]) && _) = false
    rw [hb]; rfl
  · rw [List.drop_eq_nil_of_le (by omega)]; rfl
theorem occ_parts {s : List UInt8} {a b : UInt8} {i : Nat} (h : index s [a, b] = i) : s.take i ++ a :: b :: s.drop (i + 2) = s := by
  rcases index_spec s [a, b] with ⟨h1, _⟩ | ⟨k, h1, h2, h3, _⟩
  · omega
  · have e : k = i := by omega
    subst e
    unfold occAt at h3
    have h4 := List.isPrefixOf_iff_prefix.1 h3
    obtain ⟨t, ht⟩ := h4
    have h5 : s.drop (k + 2) = t := by rw [← List.drop_drop, ← ht]; rfl
    rw [h5]
    conv => rhs; rw [← List.take_append_drop k s, ← ht]
    rfl
theorem split_miss {s sep : List UInt8} (h : index s sep = -1) : split s sep = [s] := by
  unfold split; rw [count_miss h]; rfl
theorem split_hit {s sep : List UInt8} {i : Nat} (hs : sep ≠ []) (h : index s sep = i) : split s sep = s.take i :: split (s.drop (i + sep.length)) sep := by
  unfold split
  have e : ∀ k, splitK sep 0 (k + 1) s = if index s sep == -1 then [s] else s.take ((index s sep).toNat + 0) :: splitK sep 0 k (s.drop ((index s sep).toNat + sep.length)) := fun _ => rfl
  rw [count_hit hs h, Nat.add_comm 1, e, if_neg (by rw [h]; intro e; have := beq_iff_eq.1 e; omega), h]
  rfl
theorem split_ne (s sep : List UInt8) : split s sep ≠ [] := by
  unfold split
  cases count s sep with
  | zero => simp [splitK]
  | succ k => unfold splitK; split <;> simp
theorem join_more (x : List UInt8) {r : List (List UInt8)} (h : r ≠ []) (sep : List UInt8) : join (x :: r) sep = x ++ sep ++ join r sep := by
  cases r with
  | nil => exact absurd rfl h
  | cons y r =>
    rw [join_cons, join_cons]
    unfold joinTail
    simp
/-- What is split is joined again. -/
theorem join_split (a b : UInt8) : ∀ (k : Nat) (s : List UInt8), s.length ≤ k → join (split s [a, b]) [a, b] = s
  | k, s, hk => by
    rcases index_spec s [a, b] with ⟨h1, _⟩ | ⟨i, h1, _, _, _⟩
    · rw [split_miss h1, join_one]
    · have hp := occ_parts h1
      rw [split_hit (by simp) h1, join_more _ (split_ne _ _)]
      have hl := congrArg List.length hp
      simp only [List.length_append, List.length_cons] at hl
      cases k with
      | zero => omega
      | succ k =>
        rw [show i + ([a, b] : List UInt8).length = i + 2 from rfl, join_split a b k (s.drop (i + 2)) (by omega)]
        conv => rhs; rw [← hp]
        simp
/-- What is joined is split again. -/
theorem split_join {c : UInt8} : ∀ (x : List UInt8) (r : List (List UInt8)), (∀ y ∈ x :: r, c ∉ y) → split (join (x :: r) [c, 32]) [c, 32] = x :: r
  | x, [], h => by rw [join_one]; exact split_miss (occ_none (h x (by simp)))
  | x, y :: r, h => by
    rw [join_more x (by simp)]
    have e : x ++ [c, 32] ++ join (y :: r) [c, 32] = x ++ c :: 32 :: join (y :: r) [c, 32] := by simp
    rw [e, split_hit (by simp) (occ_first (h x (by simp)))]
    have h1 : (x ++ c :: 32 :: join (y :: r) [c, 32]).drop (x.length + ([c, 32] : List UInt8).length) = join (y :: r) [c, 32] := by
      rw [← List.drop_drop, List.drop_left]; rfl
    rw [h1, List.take_left, split_join y r (fun z hz => h z (by simp [hz]))]

/-- The numbers of parts, if each part is one. -/
def rdP : List (List UInt8) → Option (List Int)
  | [] => some []
  | p :: r => if (numS p).2 then (rdP r).map ((numS p).1 :: ·) else none
theorem numS_back {p : List UInt8} {v : Int} (h : numS p = (v, true)) : itoa v = p := by
  unfold numS at h
  split at h
  · rename_i hg
    have : sgV p = v := by injection h
    rw [← this]; exact hg.2.2.2
  · injection h with _ h2; cases h2
theorem rdP_back : ∀ {ps : List (List UInt8)} {xs : List Int}, rdP ps = some xs → ps = xs.map itoa
  | [], xs, h => by
    have : xs = [] := by simpa [rdP] using h.symm
    subst this; rfl
  | p :: r, xs, h => by
    unfold rdP at h
    split at h
    · rename_i hp
      obtain ⟨ys, h1, rfl⟩ := Option.map_eq_some_iff.1 h
      rw [List.map_cons, ← rdP_back h1]
      rw [numS_back (p := p) (v := (numS p).1) (by rw [← hp])]
    · cases h
theorem rdP_map : ∀ {xs : List Int}, (∀ x ∈ xs, -1000000000 ≤ x ∧ x ≤ 1000000000) → rdP (xs.map itoa) = some xs
  | [], _ => rfl
  | x :: r, h => by
    have hx := h x (by simp)
    have h1 := numS_itoa hx.1 hx.2
    show (if (numS (itoa x)).2 then (rdP (r.map itoa)).map ((numS (itoa x)).1 :: ·) else none) = _
    rw [h1, rdP_map (fun y hy => h y (by simp [hy]))]
    rfl
theorem rdP_cons (p : List UInt8) (r : List (List UInt8)) : rdP (p :: r) = if (numS p).2 then (rdP r).map ((numS p).1 :: ·) else none := rfl
theorem rdP_snoc : ∀ (ps : List (List UInt8)) (p : List UInt8) (ys : List Int), rdP ps = some ys → rdP (ps ++ [p]) = if (numS p).2 then some (ys ++ [(numS p).1]) else none
  | [], p, ys, h => by
    have : ys = [] := by
      have h2 : some ([] : List Int) = some ys := h
      exact (Option.some.inj h2).symm
    subst this
    show rdP [p] = _
    rw [rdP_cons]; rfl
  | q :: r, p, ys, h => by
    rw [rdP_cons] at h
    show rdP (q :: (r ++ [p])) = _
    rw [rdP_cons]
    cases hq : (numS q).2
    · rw [hq] at h; cases h
    · rw [hq, if_pos rfl] at h
      obtain ⟨zs, h1, rfl⟩ := Option.map_eq_some_iff.1 h
      rw [if_pos rfl, rdP_snoc r p zs h1]
      split <;> rfl
theorem rdP_app : ∀ (ps qs : List (List UInt8)), rdP ps = none → rdP (ps ++ qs) = none
  | [], _, h => by cases h
  | q :: r, qs, h => by
    rw [rdP_cons] at h
    show rdP (q :: (r ++ qs)) = none
    rw [rdP_cons]
    cases hq : (numS q).2
    · rfl
    · rw [hq, if_pos rfl] at h
      have h1 : rdP r = none := by
        cases hr : rdP r with
        | none => rfl
        | some z => rw [hr] at h; cases h
      rw [if_pos rfl, rdP_app r qs h1]; rfl
theorem rdP_step {ps : List (List UInt8)} {k : Nat} {p : List UInt8} {ys : List Int} (hp : ps[k]? = some p) (h : rdP (ps.take k) = some ys) : rdP (ps.take (k + 1)) = if (numS p).2 then some (ys ++ [(numS p).1]) else none := by
  rw [List.take_add_one, hp]
  exact rdP_snoc _ p ys h
theorem rdP_fail {ps : List (List UInt8)} {k : Nat} (h : rdP (ps.take k) = none) : rdP ps = none := by
  conv => lhs; rw [← List.take_append_drop k ps]
  exact rdP_app _ _ h

/-- The parts of the text between the brackets. -/
def partsI (l : List UInt8) : List (List UInt8) := (cut l [59, 32]).1 :: (if (cut l [59, 32]).2.2 then split (cut l [59, 32]).2.1 [44, 32] else [])
theorem cut_miss {l sep : List UInt8} (h : index l sep = -1) : cut l sep = (l, [], false) := by unfold cut; rw [if_neg (by omega)]
theorem cut_hit {l sep : List UInt8} {i : Nat} (h : index l sep = i) : cut l sep = (l.take i, l.drop (i + sep.length), true) := by unfold cut; rw [if_pos (by omega), h]; rfl

/-- The inner text of terms. -/
def inT (xs : List Int) : List UInt8 := itoa (xs.getD 0 0) ++ tl (xs.drop 1)
theorem txT_in (xs : List Int) : txT xs = 91 :: (inT xs ++ [93]) := by unfold txT inT; rw [List.append_assoc]
theorem partsI_of {xs : List Int} (h : 1 ≤ xs.length) : partsI (inT xs) = xs.map itoa := by
  cases xs with
  | nil => simp at h
  | cons t r =>
    have hn : (59 : UInt8) ∉ itoa t := itoa_no (by decide) (by decide) t
    show partsI (itoa t ++ tl r) = _
    cases r with
    | nil =>
      show partsI (itoa t ++ []) = _
      rw [List.append_nil]
      unfold partsI
      rw [cut_miss (occ_none hn)]; rfl
    | cons u s =>
      rw [tl_join (by simp)]
      unfold partsI
      have e : itoa t ++ ([59, 32] ++ join ((u :: s).map itoa) [44, 32]) = itoa t ++ 59 :: 32 :: join ((u :: s).map itoa) [44, 32] := rfl
      rw [e, cut_hit (occ_first hn)]
      dsimp only
      have h1 : (itoa t ++ 59 :: 32 :: join ((u :: s).map itoa) [44, 32]).drop ((itoa t).length + ([59, 32] : List UInt8).length) = join ((u :: s).map itoa) [44, 32] := by
        rw [← List.drop_drop, List.drop_left]; rfl
      rw [h1, List.take_left, if_pos rfl, List.map_cons (l := s), split_join _ _ (fun y hy => by
        have : y ∈ (u :: s).map itoa := by simpa using hy
        obtain ⟨z, _, rfl⟩ := List.mem_map.1 this
        exact itoa_no (by decide) (by decide) z)]
      rfl
theorem partsI_back {l : List UInt8} {xs : List Int} (h : partsI l = xs.map itoa) : inT xs = l ∧ 1 ≤ xs.length := by
  cases xs with
  | nil => unfold partsI at h; simp at h
  | cons t r =>
    refine ⟨?_, by simp⟩
    show itoa t ++ tl r = l
    unfold partsI at h
    rcases index_spec l [59, 32] with ⟨h1, _⟩ | ⟨i, h1, _, _, _⟩
    · rw [cut_miss h1] at h
      obtain ⟨h2, h3⟩ := List.cons.inj h
      have : r = [] := by simpa using h3.symm
      subst this
      show itoa t ++ [] = l
      rw [List.append_nil]; exact h2.symm
    · rw [cut_hit h1] at h
      dsimp only at h
      rw [if_pos rfl] at h
      obtain ⟨h2, h3⟩ := List.cons.inj h
      have hr : r ≠ [] := by
        intro e; subst e
        exact split_ne _ _ h3
      rw [tl_join hr]
      have h4 : join (r.map itoa) [44, 32] = l.drop (i + 2) := by
        have := join_split 44 32 _ (l.drop (i + ([59, 32] : List UInt8).length)) (Nat.le_refl _)
        rw [h3] at this
        exact this
      rw [h4, ← h2]
      exact occ_parts h1

/-- The text is that of terms. -/
def IsT (l : List UInt8) (xs : List Int) : Prop := okT xs = true ∧ txT xs = l
theorem okT_all {xs : List Int} (h : okT xs = true) : ∀ x ∈ xs, -1000000000 ≤ x ∧ x ≤ 1000000000 := by
  intro x hx
  obtain ⟨j, hj⟩ := List.mem_iff_getElem?.1 hx
  by_cases h0 : j = 0
  · subst h0
    have := okT_first h
    rw [List.getD_eq_getElem?_getD, hj] at this
    exact this
  · have := okT_at h (by omega) hj
    omega
theorem isT_parts {inner : List UInt8} {xs : List Int} (h : IsT (91 :: (inner ++ [93])) xs) : rdP (partsI inner) = some xs := by
  obtain ⟨h1, h2⟩ := h
  rw [txT_in] at h2
  have h3 : inT xs = inner := by
    have := (List.cons.inj h2).2
    exact List.append_cancel_right this
  rw [← h3, partsI_of (okT_len h1).1]
  exact rdP_map (okT_all h1)
theorem parts_isT {inner : List UInt8} {xs : List Int} (h : rdP (partsI inner) = some xs) (hok : okT xs = true) : IsT (91 :: (inner ++ [93])) xs := by
  obtain ⟨h1, _⟩ := partsI_back (rdP_back h)
  exact ⟨hok, by rw [txT_in, h1]⟩
theorem isT_form {l : List UInt8} {xs : List Int} (h : IsT l xs) : ∃ inner, l = 91 :: (inner ++ [93]) ∧ 1 ≤ inner.length := by
  refine ⟨inT xs, by rw [← h.2, txT_in], ?_⟩
  unfold inT
  have := itoa_form (xs.getD 0 0)
  have h2 : (itoa (xs.getD 0 0)).length ≠ 0 := by
    intro e
    rw [List.length_eq_zero_iff.1 e] at this
    simp [dropM] at this
  rw [List.length_append]; omega
theorem isT_uniq {l : List UInt8} {xs ys : List Int} (h : IsT l xs) (k : IsT l ys) : xs = ys := by
  obtain ⟨inner, rfl, _⟩ := isT_form h
  have h1 := isT_parts h
  rw [isT_parts k] at h1
  exact (Option.some.inj h1).symm
open Classical in
/-- What is read: the terms with the text, and whether there are some. -/
noncomputable def rtT (l : List UInt8) : List Int × Bool := if h : ∃ xs, IsT l xs then (h.choose, true) else ([], false)
theorem rtT_yes {l : List UInt8} {xs : List Int} (h : IsT l xs) : rtT l = (xs, true) := by
  unfold rtT
  have he : ∃ xs, IsT l xs := ⟨xs, h⟩
  rw [dif_pos he, isT_uniq he.choose_spec h]
theorem rtT_no {l : List UInt8} (h : ∀ xs, ¬ IsT l xs) : rtT l = ([], false) := by
  unfold rtT
  rw [dif_neg (fun ⟨xs, hx⟩ => h xs hx)]
theorem rtT_len {l : List UInt8} : (rtT l).1.length ≤ 1000000000 := by
  by_cases h : ∃ xs, IsT l xs
  · obtain ⟨xs, hx⟩ := h
    rw [rtT_yes hx]
    have := okT_len hx.1
    show xs.length ≤ _
    omega
  · rw [rtT_no (fun xs hx => h ⟨xs, hx⟩)]; exact Nat.zero_le _

end Go.Proofs.YtjijabfamjhdjaaDoor
