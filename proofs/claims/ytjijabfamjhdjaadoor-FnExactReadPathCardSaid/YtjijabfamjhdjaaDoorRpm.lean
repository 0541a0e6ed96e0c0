/- Mathematics: a path that is read from a text: part by part, the model's way and the program's. -/
import Derived.Test.YtjijabfamjhdjaaDoorRd
import Derived.Test.YtjijabfamjhdjaaDoorSp
import Derived.Test.YtjijabfamjhdjaaDoorPtm
import Derived.Test.YtjijabfamjhdjaaDoorRtm
import Derived.Test.YtjijabfamjhdjaaDoorShelfT
import Derived.Test.YtjijabfamjhdjaaDoorShelfS
import Derived.Lib.Split
import Derived.Lib.Join
namespace Go.Proofs.YtjijabfamjhdjaaDoor
open Go.RowKit Go.Lib

theorem splitB_ne (c : UInt8) (l : List UInt8) : splitB c l ≠ [] := by
  cases l with
  | nil => simp [splitB]
  | cons x r =>
    rw [splitB_cons]
    split
    · simp
    · split <;> simp
theorem splitB_piece {c : UInt8} : ∀ {l p : List UInt8}, p ∈ splitB c l → p.length ≤ l.length
  | [], p, h => by
    have : p = [] := by simpa [splitB] using h
    subst this; exact Nat.le_refl _
  | x :: r, p, h => by
    rw [splitB_cons] at h
    split at h
    · rcases List.mem_cons.1 h with rfl | h
      · exact Nat.zero_le _
      · have := splitB_piece h; simp; omega
    · split at h
      · rename_i h2; exact absurd h2 (splitB_ne c r)
      · rename_i q qs h2
        rcases List.mem_cons.1 h with rfl | h
        · have := splitB_piece (c := c) (l := r) (p := q) (by rw [h2]; simp)
          simp; omega
        · have := splitB_piece (c := c) (l := r) (p := p) (by rw [h2]; simp [h])
          simp; omega
theorem occ1 {x r : List UInt8} {c : UInt8} (hx : c ∉ x) : index (x ++ c :: r) [c] = x.length := by
  refine index_first (by simp) ?_ ?_
  · unfold occAt; simp
  · intro j hj
    unfold occAt
    rw [List.drop_append_of_le_length (by omega), List.drop_eq_getElem_cons hj, List.cons_append]
    have hb : (c == x[j]) = false := beq_eq_false_iff_ne.2 fun e => hx (e ▸ List.getElem_mem hj)
    show ((c == x[j]) && _) = false
    rw [hb]; rfl
theorem occ1_none {x : List UInt8} {c : UInt8} (hx : c ∉ x) : index x [c] = -1 := by
  refine index_none fun j _ => ?_
  unfold occAt
  by_cases hj : j < x.length
  · rw [List.drop_eq_getElem_cons hj]
    have hb : (c == x[j]) = false := beq_eq_false_iff_ne.2 fun e => hx (e ▸ List.getElem_mem hj)
    show ((c == x[j]) && _) = false
    rw [hb]; rfl
  · rw [List.drop_eq_nil_of_le (by omega)]; rfl
theorem gsplit_miss {s sep : List UInt8} (h : index s sep = -1) : split s sep = [s] := by
  unfold split; rw [count_miss h]; rfl
theorem gsplit_hit {s sep : List UInt8} {i : Nat} (hs : sep ≠ []) (h : index s sep = i) : split s sep = s.take i :: split (s.drop (i + sep.length)) sep := by
  unfold split
  have e : ∀ k, splitK sep 0 (k + 1) s = if index s sep == -1 then [s] else s.take ((index s sep).toNat + 0) :: splitK sep 0 k (s.drop ((index s sep).toNat + sep.length)) := fun _ => rfl
  rw [count_hit hs h, Nat.add_comm 1, e, if_neg (by rw [h]; intro e; have := beq_iff_eq.1 e; omega), h]
  rfl
theorem split_one (c : UInt8) : ∀ (k : Nat) (s : List UInt8), s.length ≤ k → split s [c] = splitB c s
  | k, s, hk => by
    by_cases hc : c ∈ s
    · obtain ⟨a, b, rfl, ha⟩ := List.eq_append_cons_of_mem hc
      rw [gsplit_hit (by simp) (occ1 ha), splitB_at b ha]
      cases k with
      | zero => simp at hk
      | succ k =>
        have h1 : (a ++ c :: b).drop (a.length + ([c] : List UInt8).length) = b := by
          rw [← List.drop_drop, List.drop_left]; rfl
        rw [h1, List.take_left, split_one c k b (by simp at hk; omega)]
    · rw [gsplit_miss (occ1_none hc), splitB_none hc]
theorem split_count (c : UInt8) : ∀ (k : Nat) (s : List UInt8), s.length ≤ k → (split s [c]).length = count s [c] + 1
  | k, s, hk => by
    by_cases hc : c ∈ s
    · obtain ⟨a, b, rfl, ha⟩ := List.eq_append_cons_of_mem hc
      rw [gsplit_hit (by simp) (occ1 ha), count_hit (by simp) (occ1 ha)]
      cases k with
      | zero => simp at hk
      | succ k =>
        have h1 : (a ++ c :: b).drop (a.length + ([c] : List UInt8).length) = b := by
          rw [← List.drop_drop, List.drop_left]; rfl
        rw [h1, List.length_cons, split_count c k b (by simp at hk; omega)]
        omega
    · rw [gsplit_miss (occ1_none hc), count_miss (occ1_none hc)]; rfl
theorem pfx_form {l : List UInt8} {c : UInt8} (h : hasPrefix l [c] = true) : ∃ m, l = c :: m ∧ trimPrefix l [c] = m := by
  cases l with
  | nil => simp [hasPrefix] at h
  | cons x m =>
    have hx : c = x := by simpa [hasPrefix] using h
    subst hx
    exact ⟨m, rfl, by unfold trimPrefix; rw [h]; rfl⟩
theorem pfx_not {l : List UInt8} {c : UInt8} (h : hasPrefix l [c] = false) : trimPrefix l [c] = l ∧ ∀ x m, l = x :: m → x ≠ c := by
  refine ⟨by unfold trimPrefix; rw [h]; rfl, ?_⟩
  rintro x m rfl rfl
  simp [hasPrefix] at h
theorem splitB_len (c : UInt8) : ∀ (l : List UInt8), (splitB c l).length ≤ l.length + 1
  | [] => by simp [splitB]
  | x :: r => by
    have := splitB_len c r
    rw [splitB_cons]
    split
    · simp; omega
    · split
      · simp
      · rename_i p ps h
        rw [h] at this
        simp at this ⊢
        omega
def MaxG (w : World) : Prop := ∃ m, w.cell? ⟨1, 0, none⟩ = some (.int .i64 m)
theorem maxG_below {w w' : World} (h : MaxG w) (hb : Below w.heap.size w w') : MaxG w' := by
  obtain ⟨m, h⟩ := h
  exact ⟨m, (hb.cell (p := ⟨1, 0, none⟩) (World.block_lt_of_cell? _ _ h)).trans h⟩
theorem maxG_of {w : World} (h : w.ShapedOpen Tryd.prog) : MaxG w := Tryd.laysM146.s1_3 w h
def Wg (w : World) : Prop := TabIs Tryd.prog w "internal/strconv.uint64pow10" .u64 pow10Tab ∧ SentIs "strconv.ErrSyntax" w ∧ SentIs "strconv.ErrRange" w ∧ MaxG w
theorem wg_below {w w' : World} (h : Wg w) (hb : Below w.heap.size w w') : Wg w' := ⟨tab_below h.1 hb, sentS_below h.2.1 hb, sentR_below h.2.2.1 hb, maxG_below h.2.2.2 hb⟩
theorem wg_read {l : List UInt8} (hl : l.length ≤ 1048576) (w : World) (h : Wg w) : Calls Tryd.prog 83 #[.string ⟨l.toArray⟩] w fun e w' => e = .returned (numV l) ∧ Below w.heap.size w w' :=
  implRead ⟨l.toArray⟩ w (by rw [show (⟨l.toArray⟩ : ByteArray).size = l.length from by simp [ByteArray.size]]; exact hl) h.1 h.2.1 h.2.2.1
def PR (w : World) (g : Nat) (ps : List ByteArray) : Prop := ∀ j x, ps[j]? = some x → w.cell? ⟨g, j, none⟩ = some (.string x)
theorem pr_below {w w' : World} {g : Nat} {ps : List ByteArray} (h : PR w g ps) (hb : Below w.heap.size w w') : PR w' g ps := fun j x hj => by
  have h1 := h j x hj
  exact (hb.cell (p := ⟨g, j, none⟩) (World.block_lt_of_cell? _ _ h1)).trans h1

theorem splitB_join (c : UInt8) : ∀ (l : List UInt8), join (splitB c l) [c] = l
  | [] => by simp [splitB, join_one]
  | x :: r => by
    have ih := splitB_join c r
    rw [splitB_cons]
    by_cases hx : x = c
    · subst hx
      have hne := splitB_ne x r
      rw [if_pos (by first | rfl | simp)]
      cases h : splitB x r with
      | nil => exact absurd h hne
      | cons p ps =>
        rw [h] at ih
        rw [join_cons] at ih
        rw [join_cons]
        show [] ++ joinTail [x] (p :: ps) = x :: r
        rw [← ih]
        unfold joinTail
        simp
    · rw [if_neg (by first | exact hx | simp [hx])]
      cases h : splitB c r with
      | nil => exact absurd h (splitB_ne c r)
      | cons p ps =>
        rw [h, join_cons] at ih
        show join ((x :: p) :: ps) [c] = x :: r
        rw [join_cons, ← ih]
        rfl
/-- The letter of a run. -/
def ltr (n : Nat) : UInt8 := if n % 2 = 0 then 82 else 76
/-- The program's reading: the parts, behind what is read. -/
def rpS (acc : List Int) : List (List UInt8) → Option (List Int)
  | [] => some acc
  | p :: r => match p with
    | [] => none
    | c :: t => if c = ltr acc.length ∧ (numS t).2 = true then rpS (acc ++ [(numS t).1]) r else none
/-- The model's reading: no number is 0. -/
def rpM (acc : List Int) : List (List UInt8) → Option (List Int)
  | [] => some acc
  | p :: r => match p with
    | [] => none
    | c :: t => if c = ltr acc.length ∧ (numS t).2 = true ∧ (numS t).1 ≠ 0 then rpM (acc ++ [(numS t).1]) r else none
theorem rpS_cons {acc : List Int} {c : UInt8} {t : List UInt8} {r : List (List UInt8)} : rpS acc ((c :: t) :: r) = if c = ltr acc.length ∧ (numS t).2 = true then rpS (acc ++ [(numS t).1]) r else none := rfl
theorem rpM_cons {acc : List Int} {c : UInt8} {t : List UInt8} {r : List (List UInt8)} : rpM acc ((c :: t) :: r) = if c = ltr acc.length ∧ (numS t).2 = true ∧ (numS t).1 ≠ 0 then rpM (acc ++ [(numS t).1]) r else none := rfl
theorem rpS_pre : ∀ (ps : List (List UInt8)) (acc ys : List Int), rpS acc ps = some ys → ∃ t, ys = acc ++ t
  | [], acc, ys, h => ⟨[], by simp [rpS] at h; simp [h]⟩
  | [] :: r, acc, ys, h => by simp [rpS] at h
  | (c :: t) :: r, acc, ys, h => by
    rw [rpS_cons] at h
    by_cases hc : c = ltr acc.length ∧ (numS t).2 = true
    · rw [if_pos hc] at h
      obtain ⟨u, hu⟩ := rpS_pre r _ _ h
      exact ⟨(numS t).1 :: u, by rw [hu]; simp⟩
    · rw [if_neg hc] at h; cases h
theorem rpM_S : ∀ (ps : List (List UInt8)) (acc ys : List Int), rpM acc ps = some ys → rpS acc ps = some ys
  | [], acc, ys, h => h
  | [] :: r, acc, ys, h => by simp [rpM] at h
  | (c :: t) :: r, acc, ys, h => by
    rw [rpM_cons] at h
    by_cases hc : c = ltr acc.length ∧ (numS t).2 = true ∧ (numS t).1 ≠ 0
    · rw [if_pos hc] at h
      rw [rpS_cons, if_pos ⟨hc.1, hc.2.1⟩]
      exact rpM_S r _ _ h
    · rw [if_neg hc] at h; cases h
theorem rpS_M : ∀ (ps : List (List UInt8)) (acc ys : List Int), rpS acc ps = some ys → (∀ j, acc.length ≤ j → ys[j]? ≠ some 0) → rpM acc ps = some ys
  | [], acc, ys, h, _ => h
  | [] :: r, acc, ys, h, _ => by simp [rpS] at h
  | (c :: t) :: r, acc, ys, h, hz => by
    rw [rpS_cons] at h
    by_cases hc : c = ltr acc.length ∧ (numS t).2 = true
    · rw [if_pos hc] at h
      obtain ⟨u, hu⟩ := rpS_pre r _ _ h
      have hn : (numS t).1 ≠ 0 := by
        intro e
        have := hz acc.length (Nat.le_refl _)
        rw [hu, e] at this
        simp at this
      rw [rpM_cons, if_pos ⟨hc.1, hc.2, hn⟩]
      exact rpS_M r _ _ h (fun j hj => hz j (by simp at hj; omega))
    · rw [if_neg hc] at h; cases h
theorem numS_it {t : List UInt8} (h : (numS t).2 = true) : itoa (numS t).1 = t := numS_back (v := (numS t).1) (by rw [← h])
theorem rn_of {j : Nat} {c : UInt8} {t : List UInt8} (h1 : c = ltr j) (h2 : (numS t).2 = true) : rn j (numS t).1 = c :: t := by
  unfold rn
  rw [numS_it h2, h1]
  rfl
/-- The texts of what the model reads are the parts. -/
theorem rpM_rns : ∀ (ps : List (List UInt8)) (acc ys : List Int), rpM acc ps = some ys → rns 0 ys = rns 0 acc ++ ps
  | [], acc, ys, h => by simp [rpM] at h; simp [h]
  | [] :: r, acc, ys, h => by simp [rpM] at h
  | (c :: t) :: r, acc, ys, h => by
    rw [rpM_cons] at h
    by_cases hc : c = ltr acc.length ∧ (numS t).2 = true ∧ (numS t).1 ≠ 0
    · rw [if_pos hc] at h
      rw [rpM_rns r _ _ h, rns_snoc, if_neg hc.2.2, Nat.zero_add, rn_of hc.1 hc.2.1]
      simp
    · rw [if_neg hc] at h; cases h
/-- What stands ahead of the parts: a run of no steps, if the first step is to the left. -/
def st0 (l : List UInt8) : List Int := if hasPrefix l [76] = true then [0] else []
theorem st0_rns (l : List UInt8) : rns 0 (st0 l) = [] := by unfold st0; split <;> rfl
/-- What a text tells. -/
def rdPath (l : List UInt8) : List Int × Bool := if l = [116, 111, 112] then ([], true) else match rpM (st0 l) (splitB 32 l) with
  | some ys => if okP ys = true then (ys, true) else ([], false)
  | none => ([], false)
theorem rdPath_top : rdPath [116, 111, 112] = ([], true) := if_pos rfl
theorem rdPath_none {l : List UInt8} (h : l ≠ [116, 111, 112]) (h2 : rpM (st0 l) (splitB 32 l) = none) : rdPath l = ([], false) := by unfold rdPath; rw [if_neg h, h2]
theorem rdPath_no {l : List UInt8} {ys : List Int} (h : l ≠ [116, 111, 112]) (h2 : rpM (st0 l) (splitB 32 l) = some ys) (h3 : okP ys = false) : rdPath l = ([], false) := by
  unfold rdPath; rw [if_neg h, h2]; show (if _ then _ else _) = _; rw [h3]; rfl
theorem rdPath_ok {l : List UInt8} {ys : List Int} (h : l ≠ [116, 111, 112]) (h2 : rpM (st0 l) (splitB 32 l) = some ys) (h3 : okP ys = true) : rdPath l = (ys, true) := by
  unfold rdPath; rw [if_neg h, h2]; show (if _ then _ else _) = _; rw [h3]; rfl
theorem rdPath_len (l : List UInt8) : (rdPath l).1.length ≤ 60 := by
  unfold rdPath
  split
  · exact Nat.zero_le _
  · split
    · split
      · rename_i h; exact okP_len h
      · exact Nat.zero_le _
    · exact Nat.zero_le _
theorem rpS_ne {l : List UInt8} {ys : List Int} (h : rpS (st0 l) (splitB 32 l) = some ys) : ys ≠ [] := by
  cases hs : splitB 32 l with
  | nil => exact absurd hs (splitB_ne 32 l)
  | cons p r =>
    rw [hs] at h
    cases p with
    | nil => simp [rpS] at h
    | cons c t =>
      rw [rpS_cons] at h
      split at h
      · obtain ⟨u, hu⟩ := rpS_pre r _ _ h
        rw [hu]; simp
      · cases h
/-- The program's three tests. -/
theorem rp_yes {l : List UInt8} {ys : List Int} (ht : l ≠ [116, 111, 112]) (h : rpS (st0 l) (splitB 32 l) = some ys) (hk : okP ys = true) (he : ptT ys = l) : rdPath l = (ys, true) := by
  refine rdPath_ok ht (rpS_M _ _ _ h ?_) hk
  intro j hj e
  have hlow := (okP_iff.1 hk).2 j 0 e
  by_cases hj1 : 1 ≤ j
  · rw [lowP_next hj1] at hlow; omega
  · have hj0 : j = 0 := by omega
    subst hj0
    have hs : st0 l = [] := List.length_eq_zero_iff.1 (by omega)
    have hnp : ¬ hasPrefix l [76] = true := by
      intro hp
      unfold st0 at hs
      rw [if_pos hp] at hs
      cases hs
    unfold lowP at hlow
    by_cases h2 : 1 < ys.length
    · match ys, h2, e, hk, he with
      | a :: b :: r, _, e, hk, he =>
        have ha : a = 0 := by simpa using e
        subst ha
        have hb := ((okP_iff.1 hk).2 1 b rfl).1
        rw [lowP_next (Nat.le_refl _)] at hb
        rw [ptT_more (by simp)] at he
        have hr : rns 0 (0 :: b :: r) = rn 1 b :: rns 2 r := by
          show (if (0 : Int) = 0 then rns 1 (b :: r) else _) = _
          rw [if_pos rfl]
          show (if b = 0 then rns 2 r else rn 1 b :: rns 2 r) = _
          rw [if_neg (by omega)]
        rw [hr, join_cons] at he
        apply hnp
        rw [← he]
        show hasPrefix ((76 :: itoa b) ++ _) [76] = true
        simp [hasPrefix]
    · rw [if_neg (by omega)] at hlow
      omega
theorem rp_no {l : List UInt8} (ht : l ≠ [116, 111, 112]) (h : ∀ ys, rpS (st0 l) (splitB 32 l) = some ys → okP ys = true → ptT ys = l → False) : rdPath l = ([], false) := by
  cases hm : rpM (st0 l) (splitB 32 l) with
  | none => exact rdPath_none ht hm
  | some ys =>
    cases hk : okP ys
    · exact rdPath_no ht hm hk
    · exfalso
      have hS := rpM_S _ _ _ hm
      refine h ys hS hk ?_
      rw [ptT_more (rpS_ne hS), rpM_rns _ _ _ hm, st0_rns, List.nil_append]
      exact splitB_join 32 l

end Go.Proofs.YtjijabfamjhdjaaDoor
