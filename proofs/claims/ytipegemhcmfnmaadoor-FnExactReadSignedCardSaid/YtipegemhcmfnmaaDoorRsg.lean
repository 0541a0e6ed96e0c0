/- Mathematics: terms with signs are read, by parts between blanks. -/
import Derived.Test.YtipegemhcmfnmaaDoorRd
import Derived.Test.YtipegemhcmfnmaaDoorSp
import Derived.Test.YtipegemhcmfnmaaDoorStm
import Derived.Test.YtipegemhcmfnmaaDoorShelfT
import Derived.Test.YtipegemhcmfnmaaDoorShelfS
import Derived.Lib.Split
import Derived.Lib.Join
namespace Go.Proofs.YtipegemhcmfnmaaDoor
open Go.RowKit Go.Lib

def rdE : List UInt8 → Option (Int × Int)
  | [] => none
  | x :: r => if x = 43 then (if (numS r).2 = true then some (1, (numS r).1) else none) else if x = 45 then (if (numS r).2 = true then some (-1, (numS r).1) else none) else none
theorem rdE_plus (r : List UInt8) : rdE (43 :: r) = if (numS r).2 = true then some (1, (numS r).1) else none := rfl
theorem rdE_minus (r : List UInt8) : rdE (45 :: r) = if (numS r).2 = true then some (-1, (numS r).1) else none := rfl
theorem rdE_other {x : UInt8} {r : List UInt8} (h1 : x ≠ 43) (h2 : x ≠ 45) : rdE (x :: r) = none := by
  show (if x = 43 then _ else _) = _
  rw [if_neg h1, if_neg h2]
def rdEs : List (List UInt8) → Option (List (Int × Int))
  | [] => some []
  | p :: r => match rdE p with
    | some x => (rdEs r).map (x :: ·)
    | none => none
theorem rdEs_cons (p : List UInt8) (r : List (List UInt8)) : rdEs (p :: r) = match rdE p with | some x => (rdEs r).map (x :: ·) | none => none := rfl
theorem rdEs_snoc : ∀ (ps : List (List UInt8)) (p : List UInt8) (ys : List (Int × Int)), rdEs ps = some ys → rdEs (ps ++ [p]) = (rdE p).map fun x => ys ++ [x]
  | [], p, ys, h => by
    have : ys = [] := (Option.some.inj h).symm
    subst this
    show rdEs [p] = _
    rw [rdEs_cons]
    cases rdE p <;> rfl
  | q :: r, p, ys, h => by
    rw [rdEs_cons] at h
    show rdEs (q :: (r ++ [p])) = _
    rw [rdEs_cons]
    cases hq : rdE q with
    | none => rw [hq] at h; cases h
    | some x =>
      rw [hq] at h
      obtain ⟨zs, h1, rfl⟩ := Option.map_eq_some_iff.1 h
      show (rdEs (r ++ [p])).map _ = _
      rw [rdEs_snoc r p zs h1]
      cases rdE p <;> rfl
theorem rdEs_app : ∀ (ps qs : List (List UInt8)), rdEs ps = none → rdEs (ps ++ qs) = none
  | [], _, h => by cases h
  | q :: r, qs, h => by
    rw [rdEs_cons] at h
    show rdEs (q :: (r ++ qs)) = none
    rw [rdEs_cons]
    cases hq : rdE q with
    | none => rfl
    | some x =>
      rw [hq] at h
      have h1 : rdEs r = none := by
        cases hr : rdEs r with
        | none => rfl
        | some z => rw [hr] at h; cases h
      show (rdEs (r ++ qs)).map _ = none
      rw [rdEs_app r qs h1]; rfl
theorem rdEs_step {ps : List (List UInt8)} {k : Nat} {p : List UInt8} {ys : List (Int × Int)} (hp : ps[k]? = some p) (h : rdEs (ps.take k) = some ys) : rdEs (ps.take (k + 1)) = (rdE p).map fun x => ys ++ [x] := by
  rw [List.take_add_one, hp]
  exact rdEs_snoc _ p ys h
theorem rdEs_fail {ps : List (List UInt8)} {k : Nat} (h : rdEs (ps.take k) = none) : rdEs ps = none := by
  conv => lhs; rw [← List.take_append_drop k ps]
  exact rdEs_app _ _ h
theorem rdEs_len : ∀ {ps : List (List UInt8)} {ys : List (Int × Int)}, rdEs ps = some ys → ys.length = ps.length
  | [], ys, h => by
    have : ys = [] := (Option.some.inj h).symm
    subst this; rfl
  | q :: r, ys, h => by
    rw [rdEs_cons] at h
    cases hq : rdE q with
    | none => rw [hq] at h; cases h
    | some x =>
      rw [hq] at h
      obtain ⟨zs, h1, rfl⟩ := Option.map_eq_some_iff.1 h
      simp [rdEs_len h1]

theorem splitB_ne (c : UInt8) (l : List UInt8) : splitB c l ≠ [] := by
  cases l with
  | nil => simp [splitB]
  | cons x r =>
    rw [splitB_cons]
    split
    · simp
    · split <;> simp
theorem splitB_piece {c : UInt8} : ∀ {l p : List UInt8}, p ∈ splitB c l → p.length ≤ l.length
  | [], p, h => by
    have : p = [] := by simpa [splitB] using h
    subst this; exact Nat.le_refl _
  | x :: r, p, h => by
    rw [splitB_cons] at h
    split at h
    · rcases List.mem_cons.1 h with rfl | h
      · exact Nat.zero_le _
      · have := splitB_piece h; simp; omega
    · split at h
      · rename_i h2; exact absurd h2 (splitB_ne c r)
      · rename_i q qs h2
        rcases List.mem_cons.1 h with rfl | h
        · have := splitB_piece (c := c) (l := r) (p := q) (by rw [h2]; simp)
          simp; omega
        · have := splitB_piece (c := c) (l := r) (p := p) (by rw [h2]; simp [h])
          simp; omega
theorem occ1 {x r : List UInt8} {c : UInt8} (hx : c ∉ x) : index (x ++ c :: r) [c] = x.length := by
  refine index_first (by simp) ?_ ?_
  · unfold occAt; simp
  · intro j hj
    unfold occAt
    rw [List.drop_append_of_le_length (by omega), List.drop_eq_getElem_cons hj, List.cons_append]
    have hb : (c == x[j]) = false := beq_eq_false_iff_ne.2 fun e => hx (e ▸ List.getElem_mem hj)
    show ((c == x[j]) && _) = false
    rw [hb]; rfl
theorem occ1_none {x : List UInt8} {c : UInt8} (hx : c ∉ x) : index x [c] = -1 := by
  refine index_none fun j _ => ?_
  unfold occAt
  by_cases hj : j < x.length
  · rw [List.drop_eq_getElem_cons hj]
    have hb : (c == x[j]) = false := beq_eq_false_iff_ne.2 fun e => hx (e ▸ List.getElem_mem hj)
    show ((c == x[j]) && _) = false
    rw [hb]; rfl
  · rw [List.drop_eq_nil_of_le (by omega)]; rfl
theorem gsplit_miss {s sep : List UInt8} (h : index s sep = -1) : split s sep = [s] := by
  unfold split; rw [count_miss h]; rfl
theorem gsplit_hit {s sep : List UInt8} {i : Nat} (hs : sep ≠ []) (h : index s sep = i) : split s sep = s.take i :: split (s.drop (i + sep.length)) sep := by
  unfold split
  have e : ∀ k, splitK sep 0 (k + 1) s = if index s sep == -1 then [s] else s.take ((index s sep).toNat + 0) :: splitK sep 0 k (s.drop ((index s sep).toNat + sep.length)) := fun _ => rfl
  rw [count_hit hs h, Nat.add_comm 1, e, if_neg (by rw [h]; intro e; have := beq_iff_eq.1 e; omega), h]
  rfl
/-- The library's parts are those of the model. -/
theorem split_one (c : UInt8) : ∀ (k : Nat) (s : List UInt8), s.length ≤ k → split s [c] = splitB c s
  | k, s, hk => by
    by_cases hc : c ∈ s
    · obtain ⟨a, b, rfl, ha⟩ := List.eq_append_cons_of_mem hc
      rw [gsplit_hit (by simp) (occ1 ha), splitB_at b ha]
      cases k with
      | zero => simp at hk
      | succ k =>
        have h1 : (a ++ c :: b).drop (a.length + ([c] : List UInt8).length) = b := by
          rw [← List.drop_drop, List.drop_left]; rfl
        rw [h1, List.take_left, split_one c k b (by simp at hk; omega)]
    · rw [gsplit_miss (occ1_none hc), splitB_none hc]
theorem split_count (c : UInt8) : ∀ (k : Nat) (s : List UInt8), s.length ≤ k → (split s [c]).length = count s [c] + 1
  | k, s, hk => by
    by_cases hc : c ∈ s
    · obtain ⟨a, b, rfl, ha⟩ := List.eq_append_cons_of_mem hc
      rw [gsplit_hit (by simp) (occ1 ha), count_hit (by simp) (occ1 ha)]
      cases k with
      | zero => simp at hk
      | succ k =>
        have h1 : (a ++ c :: b).drop (a.length + ([c] : List UInt8).length) = b := by
          rw [← List.drop_drop, List.drop_left]; rfl
        rw [h1, List.length_cons, split_count c k b (by simp at hk; omega)]
        omega
    · rw [gsplit_miss (occ1_none hc), count_miss (occ1_none hc)]; rfl
/-- The parts of a text, the first one with the plus sign that is left out. -/
def partsG (l : List UInt8) : List (List UInt8) := match splitB 32 l with
  | [] => []
  | p :: r => (43 :: p) :: r
theorem partsG_split (l : List UInt8) : split (43 :: l) [32] = partsG l := by
  rw [split_one 32 _ _ (Nat.le_refl _), splitB_cons, if_neg (by decide)]
  unfold partsG
  cases h : splitB 32 l with
  | nil => exact absurd h (splitB_ne 32 l)
  | cons p r => rfl
theorem partsG_len (l : List UInt8) : 1 ≤ (partsG l).length := by
  unfold partsG
  cases h : splitB 32 l with
  | nil => exact absurd h (splitB_ne 32 l)
  | cons p r => simp
theorem partsG_piece {l p : List UInt8} (h : p ∈ partsG l) : (trimPrefix p [43]).length ≤ l.length := by
  unfold partsG at h
  cases hs : splitB 32 l with
  | nil => exact absurd hs (splitB_ne 32 l)
  | cons q r =>
    rw [hs] at h
    have hm : ∀ x ∈ splitB 32 l, x.length ≤ l.length := fun x hx => splitB_piece hx
    rw [hs] at hm
    rcases List.mem_cons.1 h with rfl | h
    · have : trimPrefix (43 :: q) [43] = q := by unfold trimPrefix hasPrefix; simp
      rw [this]; exact hm q (by simp)
    · have h1 := hm p (by simp [h])
      unfold trimPrefix
      split
      · rw [List.length_drop]; omega
      · exact h1
/-- What is read. -/
def rsG (l : List UInt8) : List (Int × Int) × Bool := match rdEs (partsG l) with
  | some ys => if okS ys = true then (ys, true) else ([], false)
  | none => ([], false)
theorem rsG_none {l : List UInt8} (h : rdEs (partsG l) = none) : rsG l = ([], false) := by unfold rsG; rw [h]
theorem rsG_no {l : List UInt8} {ys : List (Int × Int)} (h : rdEs (partsG l) = some ys) (h2 : okS ys = false) : rsG l = ([], false) := by unfold rsG; rw [h]; show (if _ then _ else _) = _; rw [h2]; rfl
theorem rsG_ok {l : List UInt8} {ys : List (Int × Int)} (h : rdEs (partsG l) = some ys) (h2 : okS ys = true) : rsG l = (ys, true) := by unfold rsG; rw [h]; show (if _ then _ else _) = _; rw [h2]; rfl
theorem rsG_len (l : List UInt8) : (rsG l).1.length ≤ 60 := by
  unfold rsG
  split
  · split
    · rename_i h; exact (okS_len h).2
    · exact Nat.zero_le _
  · exact Nat.zero_le _
theorem pfx_form {l : List UInt8} {c : UInt8} (h : hasPrefix l [c] = true) : ∃ m, l = c :: m ∧ trimPrefix l [c] = m := by
  cases l with
  | nil => simp [hasPrefix] at h
  | cons x m =>
    have hx : c = x := by simpa [hasPrefix] using h
    subst hx
    exact ⟨m, rfl, by unfold trimPrefix; rw [h]; rfl⟩
theorem pfx_not {l : List UInt8} {c : UInt8} (h : hasPrefix l [c] = false) : trimPrefix l [c] = l ∧ ∀ x m, l = x :: m → x ≠ c := by
  refine ⟨by unfold trimPrefix; rw [h]; rfl, ?_⟩
  rintro x m rfl rfl
  simp [hasPrefix] at h

/-- The library's variable holds some number. -/
def MaxG (w : World) : Prop := ∃ m, w.cell? ⟨5, 0, none⟩ = some (.int .i64 m)
theorem maxG_below {w w' : World} (h : MaxG w) (hb : Below w.heap.size w w') : MaxG w' := by
  obtain ⟨m, h⟩ := h
  exact ⟨m, (hb.cell (p := ⟨5, 0, none⟩) (World.block_lt_of_cell? _ _ h)).trans h⟩
theorem maxG_of {w : World} (h : w.ShapedOpen Tryd.prog) : MaxG w := Tryd.laysM146.s1_3 w h
def Wg (w : World) : Prop := TabIs Tryd.prog w "internal/strconv.uint64pow10" .u64 pow10Tab ∧ SentIs "strconv.ErrSyntax" w ∧ SentIs "strconv.ErrRange" w ∧ MaxG w
theorem wg_below {w w' : World} (h : Wg w) (hb : Below w.heap.size w w') : Wg w' := ⟨tab_below h.1 hb, sentS_below h.2.1 hb, sentR_below h.2.2.1 hb, maxG_below h.2.2.2 hb⟩

end Go.Proofs.YtipegemhcmfnmaaDoor
