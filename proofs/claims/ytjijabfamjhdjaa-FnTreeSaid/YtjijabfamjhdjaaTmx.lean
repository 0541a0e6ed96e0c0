/- Merged: Tru, Trc, Trl, Tmf. -/
import Derived.Test.YtjijabfamjhdjaaTrf
import Derived.Test.YtjijabfamjhdjaaLvl
import Derived.Test.YtjijabfamjhdjaaAro
import Derived.Test.YtjijabfamjhdjaaPar
import Derived.Test.YtjijabfamjhdjaaChs
/-! Mathematics of the tree: a path that can be gone is the path to the fraction at its end; paths of children and parents, and their steps. -/
namespace Go.Proofs.Ytjijabfamjhdjaa

theorem nf_pos {r : List Int} (h : ∀ x ∈ r, 1 ≤ x) : 1 ≤ kf 0 1 r := kf_pos r 0 1 h (by decide) (by decide)
/-- Numerators grow. -/
theorem nf_lt {u : Int} {r : List Int} (hu : 1 ≤ u) (hr : ∀ x ∈ r, 1 ≤ x) (hl : 2 ≤ (u :: r).getD r.length 0) : kf 0 1 r < kf 0 1 (u :: r) := by
  cases r with
  | nil =>
    have h2 : 2 ≤ u := hl
    show (1 : Int) < u * 1 + 0
    omega
  | cons v s =>
    rw [kf_cons]
    have h1 := nf_pos (r := v :: s) hr
    have h2 := nf_pos (r := s) (fun x hx => hr x (by simp [hx]))
    have h3 : 1 * kf 0 1 (v :: s) ≤ u * kf 0 1 (v :: s) := Int.mul_le_mul_of_nonneg_right hu (by omega)
    omega
theorem kf_den (t : Int) (r : List Int) : kf 1 0 (t :: r) = kf 0 1 r := by
  show kf 0 (t * 0 + 1) r = _
  rw [Int.mul_zero, Int.zero_add]
/-- Terms are those of their value. -/
theorem eu_value : ∀ (t : Int) (r : List Int), (∀ x ∈ r, 1 ≤ x) → (1 ≤ r.length → 2 ≤ (t :: r).getD r.length 0) → eu (kf 0 1 (t :: r)) (kf 1 0 (t :: r)) = t :: r
  | t, [], _, _ => by
    have e1 : kf 0 1 [t] = t := by show t * 1 + 0 = t; omega
    have e2 : kf 1 0 [t] = 1 := by show t * 0 + 1 = 1; omega
    rw [e1, e2, eu_step (by decide), Int.ediv_one, Int.emod_one, eu_end (Int.le_refl 0)]
  | t, u :: r, h, hl => by
    have hu := h u (by simp)
    have hr : ∀ x ∈ r, 1 ≤ x := fun x hx => h x (by simp [hx])
    have hl2 : 2 ≤ (u :: r).getD r.length 0 := by
      have := hl (by simp)
      simpa using this
    have h1 := nf_lt hu hr hl2
    have h2 := nf_pos hr
    have ih := eu_value u r hr (fun _ => hl2)
    rw [kf_den, kf_cons] at *
    have e1 : (t * kf 0 1 (u :: r) + kf 0 1 r) / kf 0 1 (u :: r) = t := by
      rw [Int.add_comm, Int.add_mul_ediv_right _ _ (by omega), Int.ediv_eq_zero_of_lt (by omega) h1]; omega
    have e2 : (t * kf 0 1 (u :: r) + kf 0 1 r) % kf 0 1 (u :: r) = kf 0 1 r := by
      rw [Int.add_comm, Int.add_mul_emod_self_right, Int.emod_eq_of_lt (by omega) h1]
    rw [eu_step (by omega), e1, e2, ih]

/-- The numbers of a path are such (its length aside). -/
def posP (xs : List Int) : Prop := ∀ (j : Nat) (x : Int), xs[j]? = some x → lowP xs j ≤ x
theorem posP_of {xs : List Int} (h : okP xs = true) : posP xs := fun j x hx => ((okP_iff.1 h).2 j x hx).1
theorem posP_last {xs : List Int} (h : posP xs) (h0 : 0 < xs.length) : ∃ x, xs[xs.length - 1]? = some x ∧ 1 ≤ x := by
  obtain ⟨x, hx⟩ : ∃ x, xs[xs.length - 1]? = some x := ⟨_, List.getElem?_eq_getElem (by omega)⟩
  have := h _ x hx
  refine ⟨x, hx, ?_⟩
  unfold lowP at this
  split at this <;> omega
theorem posP_trim {xs : List Int} (h : posP xs) : trimL xs = xs := by
  by_cases h0 : 0 < xs.length
  · obtain ⟨x, hx, hx1⟩ := posP_last h h0
    refine trimL_same ?_
    rw [hx]
    intro e
    injection e with e
    omega
  · have : xs = [] := List.length_eq_zero_iff.1 (by omega)
    subst this; rfl
theorem posP_nonneg {xs : List Int} (h : posP xs) : ∀ z ∈ xs, 0 ≤ z := by
  intro z hz
  obtain ⟨j, hj⟩ := List.mem_iff_getElem?.1 hz
  have := h j z hj
  have := lowP_ge (xs := xs) (j := j)
  omega
theorem posP_rest {xs : List Int} (h : posP xs) : ∀ x ∈ xs.drop 1, 1 ≤ x := by
  intro x hx
  obtain ⟨j, hj⟩ := List.mem_iff_getElem?.1 hx
  rw [List.getElem?_drop] at hj
  have := h _ x hj
  rwa [lowP_next (by omega)] at this
theorem inv_num {P Q PP QQ : Int} (h : InvT P Q PP QQ) : 1 ≤ P + PP := by
  obtain ⟨h1, h2, h3, h4, h5⟩ := h
  by_cases e : P + PP = 0
  · have e1 : P = 0 := by omega
    have e2 : PP = 0 := by omega
    rw [e1, e2] at h5
    simp [Unit1] at h5
  · omega

/-- A path that can be gone is the path to where it leads. -/
theorem path_of {xs : List Int} {m : Int × Int × Int × Int} (h : posP xs) (hf : fo 1 0 0 1 xs = some m) : pathF (mid m).1 (mid m).2 = xs ∧ okF (mid m).1 (mid m).2 = true ∧ 1 ≤ (mid m).1 := by
  obtain ⟨hi, ho⟩ := fo_inv _ _ _ _ _ m inv_top (posP_nonneg h) hf
  refine ⟨?_, ho, inv_num hi⟩
  by_cases h0 : xs = []
  · subst h0
    have ho1 := fo_ok hf
    rw [fo_nil ho1] at hf
    injection hf with hf
    subst hf
    show pathF 1 1 = []
    unfold pathF
    rw [eu_step (by decide), show (1 : Int) % 1 = 0 from rfl, eu_end (Int.le_refl 0)]
    rfl
  · have hl : 0 < xs.length := List.length_pos_iff.2 h0
    have hc := fo_cv xs 1 0 0 1 inv_top h0 (fun x hx => ⟨posP_nonneg h x (List.mem_of_getElem? hx), .inr (by decide)⟩) (posP_rest h)
    rw [hf] at hc
    have hne : incL xs ≠ [] := by
      intro e
      have := incL_length xs
      rw [e] at this
      simp at this
      omega
    obtain ⟨x, hx, hx1⟩ := posP_last h hl
    cases hcv : cv 1 0 0 1 (incL xs) with
    | none => rw [hcv] at hc; simp at hc
    | some l =>
      rw [hcv] at hc
      have h1 := cv_last hcv hne
      have h2 : mid m = (kf 0 1 (incL xs), kf 1 0 (incL xs)) := by
        have hc : some (mid m) = l.getLast? := hc
        rw [h1] at hc
        injection hc
      rw [h2]
      have hlast : (incL xs)[xs.length - 1]? = some (x + 1) := by
        unfold incL
        rw [List.getElem?_set_self (by omega), List.getD_eq_getElem?_getD, hx]; rfl
      have he : eu (kf 0 1 (incL xs)) (kf 1 0 (incL xs)) = incL xs := by
        have hil := incL_length xs
        generalize hts : incL xs = ts at *
        cases ts with
        | nil => exact absurd rfl hne
        | cons t r =>
          simp only [List.length_cons] at hil
          refine eu_value t r (fun y hy => ?_) (fun _ => ?_)
          · obtain ⟨j, hj⟩ := List.mem_iff_getElem?.1 hy
            have hj2 : (t :: r)[j + 1]? = some y := by simpa using hj
            have hjl := (List.getElem?_eq_some_iff.1 hj2).1
            simp only [List.length_cons] at hjl
            by_cases e : j + 1 = xs.length - 1
            · rw [e, hlast] at hj2
              injection hj2 with hj2
              omega
            · rw [← hts] at hj2
              unfold incL at hj2
              rw [List.getElem?_set_ne (by omega)] at hj2
              have := h _ y hj2
              rwa [lowP_next (by omega)] at this
          · have e : r.length = xs.length - 1 := by omega
            rw [e, List.getD_eq_getElem?_getD, hlast]
            show 2 ≤ x + 1
            omega
      unfold pathF
      dsimp only
      rw [he, dec_inc, posP_trim h]

end Go.Proofs.Ytjijabfamjhdjaa

/-! Mathematics of the tree: the paths of both children, and that their parent is where one came from. -/
namespace Go.Proofs.Ytjijabfamjhdjaa

theorem fo_snoc : ∀ (xs : List Int) (P Q PP QQ x : Int) (m : Int × Int × Int × Int), fo P Q PP QQ xs = some m →
    fo P Q PP QQ (xs ++ [x]) = if okF (m.2.2.1 + x * m.1 + m.1) (m.2.2.2 + x * m.2.1 + m.2.1) then some (m.2.2.1 + x * m.1, m.2.2.2 + x * m.2.1, m.1, m.2.1) else none
  | [], P, Q, PP, QQ, x, m, h => by
    have ho := fo_ok h
    rw [fo_nil ho] at h
    injection h with h
    subst h
    rw [List.nil_append, fo_cons ho]
    rfl
  | y :: xs, P, Q, PP, QQ, x, m, h => by
    have ho := fo_ok h
    rw [fo_cons ho] at h
    rw [List.cons_append, fo_cons ho]
    exact fo_snoc xs _ _ _ _ x m h
/-- One run more, of one step. -/
theorem fo_more {xs : List Int} {m : Int × Int × Int × Int} (h : fo 1 0 0 1 xs = some m) (hk : okF ((mid m).1 + m.1) ((mid m).2 + m.2.1) = true) : ∃ m', fo 1 0 0 1 (xs ++ [1]) = some m' ∧ mid m' = ((mid m).1 + m.1, (mid m).2 + m.2.1) := by
  have h1 := fo_snoc xs 1 0 0 1 1 m h
  have e1 : m.2.2.1 + 1 * m.1 + m.1 = (mid m).1 + m.1 := by show _ = m.1 + m.2.2.1 + m.1; omega
  have e2 : m.2.2.2 + 1 * m.2.1 + m.2.1 = (mid m).2 + m.2.1 := by show _ = m.2.1 + m.2.2.2 + m.2.1; omega
  rw [e1, e2, hk, if_pos rfl] at h1
  refine ⟨_, h1, ?_⟩
  show (m.2.2.1 + 1 * m.1 + m.1, m.2.2.2 + 1 * m.2.1 + m.2.1) = _
  rw [e1, e2]
/-- The last run one step longer. -/
theorem fo_long {xs : List Int} {m : Int × Int × Int × Int} (h0 : xs ≠ []) (h : fo 1 0 0 1 xs = some m) (hk : okF ((mid m).1 + m.2.2.1) ((mid m).2 + m.2.2.2) = true) : ∃ m', fo 1 0 0 1 (incL xs) = some m' ∧ mid m' = ((mid m).1 + m.2.2.1, (mid m).2 + m.2.2.2) := by
  have hl : 0 < xs.length := List.length_pos_iff.2 h0
  obtain ⟨x, hx⟩ : ∃ x, xs[xs.length - 1]? = some x := ⟨_, List.getElem?_eq_getElem (by omega)⟩
  have hs := split_last hx
  have hi : incL xs = xs.take (xs.length - 1) ++ [x + 1] := by
    have hd : decL (incL xs) = xs := dec_inc xs
    have hlast : (incL xs)[(incL xs).length - 1]? = some (x + 1) := by
      rw [incL_length]
      unfold incL
      rw [List.getElem?_set_self (by omega), List.getD_eq_getElem?_getD, hx]; rfl
    rw [split_last hlast, incL_length]
    congr 1
    apply List.ext_getElem?
    intro j
    by_cases hj : j < xs.length - 1
    · rw [List.getElem?_take_of_lt hj, List.getElem?_take_of_lt hj]
      unfold incL
      rw [List.getElem?_set_ne (by omega)]
    · rw [List.getElem?_eq_none (by rw [List.length_take]; omega), List.getElem?_eq_none (by rw [List.length_take]; omega)]
  rw [hs] at h
  obtain ⟨m0, h1⟩ := fo_take _ _ _ _ _ _ _ h
  have h2 := fo_snoc _ 1 0 0 1 x m0 h1
  have h3 := fo_snoc _ 1 0 0 1 (x + 1) m0 h1
  rw [h] at h2
  cases hb : okF (m0.2.2.1 + x * m0.1 + m0.1) (m0.2.2.2 + x * m0.2.1 + m0.2.1)
  · rw [hb] at h2; simp at h2
  · rw [hb, if_pos rfl] at h2
    injection h2 with h2
    subst h2
    rw [hi]
    have e1 : m0.2.2.1 + (x + 1) * m0.1 + m0.1 = m0.2.2.1 + x * m0.1 + m0.1 + m0.1 := by rw [Int.add_mul, Int.one_mul]; omega
    have e2 : m0.2.2.2 + (x + 1) * m0.2.1 + m0.2.1 = m0.2.2.2 + x * m0.2.1 + m0.2.1 + m0.2.1 := by rw [Int.add_mul, Int.one_mul]; omega
    have hk2 : okF (m0.2.2.1 + x * m0.1 + m0.1 + m0.1) (m0.2.2.2 + x * m0.2.1 + m0.2.1 + m0.2.1) = true := hk
    rw [e1, e2, hk2, if_pos rfl] at h3
    refine ⟨_, h3, ?_⟩
    show (m0.2.2.1 + (x + 1) * m0.1 + m0.1, m0.2.2.2 + (x + 1) * m0.2.1 + m0.2.1) = (m0.2.2.1 + x * m0.1 + m0.1 + m0.1, m0.2.2.2 + x * m0.2.1 + m0.2.1 + m0.2.1)
    rw [e1, e2]

theorem posP_more {xs : List Int} (h : posP xs) : posP (xs ++ [1]) := by
  intro j x hx
  by_cases hj : j < xs.length
  · rw [List.getElem?_append_left hj] at hx
    have := h j x hx
    unfold lowP at this ⊢
    by_cases h0 : j = 0 ∧ 1 < (xs ++ [1]).length
    · rw [if_pos h0]
      split at this <;> omega
    · rw [if_neg h0]
      rw [if_neg (fun e => h0 ⟨e.1, by rw [List.length_append]; omega⟩)] at this
      exact this
  · rw [List.getElem?_append_right (by omega)] at hx
    have hx1 : x = 1 := by
      have := List.mem_of_getElem? hx
      simpa using this
    unfold lowP
    split <;> omega
theorem posP_long {xs : List Int} (h : posP xs) : posP (incL xs) := by
  intro j x hx
  have hl : lowP (incL xs) j = lowP xs j := by unfold lowP; rw [incL_length]
  rw [hl]
  unfold incL at hx
  by_cases hj : j = xs.length - 1
  · by_cases h0 : 0 < xs.length
    · subst hj
      rw [List.getElem?_set_self (by omega)] at hx
      injection hx with hx
      obtain ⟨y, hy, _⟩ := posP_last h h0
      have := h _ y hy
      rw [List.getD_eq_getElem?_getD, hy] at hx
      have hx : y + 1 = x := hx
      omega
    · have : xs = [] := List.length_eq_zero_iff.1 (by omega)
      subst this
      simp at hx
  · rw [List.getElem?_set_ne (by omega)] at hx
    exact h j x hx
theorem par_more {xs : List Int} (h : posP xs) : parL (xs ++ [1]) = xs := by
  have hlast : (xs ++ [1])[(xs ++ [1]).length - 1]? = some 1 := by simp
  rw [parL_one hlast]
  have e1 : (xs ++ [1]).length - 1 = xs.length := by simp
  rw [e1]
  have e2 : ∀ k, k ≤ xs.length → trimN (xs ++ [1]) k = trimN xs k := by
    intro k
    induction k with
    | zero => intro _; rfl
    | succ k ih =>
      intro hk
      unfold trimN
      rw [List.getElem?_append_left (by omega), ih (by omega)]
  rw [e2 _ (Nat.le_refl _)]
  have e3 := posP_trim h
  have hle := trimN_le xs xs.length
  rw [List.take_append_of_le_length hle]
  exact e3
theorem par_long {xs : List Int} (h : posP xs) : parL (incL xs) = xs := by
  unfold parL
  rw [dec_inc]
  exact posP_trim h

end Go.Proofs.Ytjijabfamjhdjaa

/-! Mathematics of the tree: a parent is one step nearer; determinants of bounds have their sign; beginnings of beginnings. -/
namespace Go.Proofs.Ytjijabfamjhdjaa

/-- The path to the parent has one step less. -/
theorem sm_par {xs : List Int} (h : posP xs) (h0 : 0 < xs.length) : sm (parL xs) + 1 = sm xs := by
  obtain ⟨x, hx, hx1⟩ := posP_last h h0
  have hs : sm xs = sm (xs.take (xs.length - 1)) + x := by
    conv => lhs; rw [split_last hx]
    rw [sm_append]
    show _ + (x + 0) = _
    omega
  by_cases h2 : 2 ≤ x
  · rw [parL_more hx h2, decL_split hx, sm_append, hs]
    show _ + (x - 1 + 0) + 1 = _
    omega
  · have hx2 : x = 1 := by omega
    subst hx2
    by_cases h3 : xs.length = 2 ∧ xs[0]? = some 0
    · rw [parL_nil hx h3.1 h3.2, hs, h3.1]
      show sm [] + 1 = sm (xs.take 1) + 1
      rw [sm_next h3.2]
      rfl
    · have hc : parL xs = xs.take (xs.length - 1) := by
        rw [parL_one hx]
        by_cases h1 : xs.length = 1
        · rw [h1]; rfl
        obtain ⟨m, hm⟩ : ∃ m, xs.length - 1 = m + 1 := ⟨xs.length - 2, by omega⟩
        rw [hm, trimN_stop]
        intro e
        have hb := h m 0 e
        unfold lowP at hb
        split at hb
        · rename_i e2
          exact h3 ⟨by omega, by rw [← e2.1]; exact e⟩
        · omega
      rw [hc, hs]

/-- The determinant of both convergents changes its sign with each run. -/
theorem fo_det : ∀ (xs : List Int) (P Q PP QQ : Int) (m : Int × Int × Int × Int), fo P Q PP QQ xs = some m → m.1 * m.2.2.2 - m.2.1 * m.2.2.1 = (if xs.length % 2 = 0 then P * QQ - Q * PP else -(P * QQ - Q * PP))
  | [], P, Q, PP, QQ, m, h => by
    have ho := fo_ok h
    rw [fo_nil ho] at h
    injection h with h
    subst h
    rfl
  | x :: xs, P, Q, PP, QQ, m, h => by
    have ho := fo_ok h
    rw [fo_cons ho] at h
    rw [fo_det xs _ _ _ _ m h]
    have e : (PP + x * P) * Q - (QQ + x * Q) * P = -(P * QQ - Q * PP) := by
      rw [Int.add_mul, Int.add_mul]
      have g1 : x * P * Q = x * Q * P := Int.mul_right_comm ..
      have g2 : PP * Q = Q * PP := Int.mul_comm ..
      have g3 : QQ * P = P * QQ := Int.mul_comm ..
      omega
    rw [e]
    simp only [List.length_cons]
    by_cases hk : xs.length % 2 = 0
    · rw [if_pos hk, if_neg (by omega)]
    · rw [if_neg hk, if_pos (by omega)]
      omega
theorem bnd_det {n d : Int} (h : okF n d = true) (hn : 1 ≤ n) : (bnd n d).2.2.1 * (bnd n d).2.1 - (bnd n d).1 * (bnd n d).2.2.2 = 1 := by
  obtain ⟨m, hm, _⟩ := path_fo h hn
  have hd := fo_det _ _ _ _ _ m hm
  rw [bnd_some hm]
  by_cases hk : (pathF n d).length % 2 = 0
  · rw [if_pos hk] at hd
    rw [bQ_even hk]
    show m.1 * m.2.2.2 - m.2.2.1 * m.2.1 = 1
    rw [Int.mul_comm m.2.2.1]
    omega
  · rw [if_neg hk] at hd
    rw [bQ_odd hk]
    show m.2.2.1 * m.2.1 - m.1 * m.2.2.2 = 1
    rw [Int.mul_comm m.2.2.1]
    omega

end Go.Proofs.Ytjijabfamjhdjaa

/-! Mathematics for the law on the tree: paths come back, children have their parent, the parent lies one step before. -/
namespace Go.Proofs.Ytjijabfamjhdjaa

theorem atP_inv {p : List Int} {x y : Int} (h : atP p = (x, y, 0)) : okP p = true ∧ ∃ m, fo 1 0 0 1 p = some m ∧ mid m = (x, y) := by
  cases hk : okP p
  · rw [atP_bad hk] at h; injection h with _ h; injection h with _ h; cases h
  · cases hf : fo 1 0 0 1 p with
    | none => rw [atP_full hk hf] at h; injection h with _ h; injection h with _ h; cases h
    | some m =>
      rw [atP_ok hk hf] at h
      injection h with h1 h; injection h with h2 _
      exact ⟨rfl, m, rfl, by rw [← h1, ← h2]⟩
/-- The path to where a path leads is this path. -/
theorem pth_at {p : List Int} {x y : Int} (h : atP p = (x, y, 0)) : pthT x y = (p, 0) := by
  obtain ⟨hk, m, hm, hmid⟩ := atP_inv h
  obtain ⟨a, b, c⟩ := path_of (posP_of hk) hm
  rw [hmid] at a b c
  rw [pthT_ok (code1_ok b c)]
  exact congrArg (·, 0) a
theorem at_pth {n d : Int} {xs : List Int} (h : pthT n d = (xs, 0)) : atP xs = (n, d, 0) := by
  by_cases hc : code1 n d = 0
  · rw [pthT_ok hc] at h
    injection h with h _
    obtain ⟨h1, h2⟩ := code1_zero hc
    rw [← h]
    exact atP_path h1 h2
  · rw [pthT_no hc] at h
    injection h with _ h
    exact absurd h hc
/-- The parent of a child. -/
theorem par_child {n d a b : Int} {ys : List Int} {m : Int × Int × Int × Int} (hc : code1 n d = 0) (hp : posP ys) (hf : fo 1 0 0 1 ys = some m) (hm : mid m = (a, b)) (h0 : ys ≠ []) (hl : parL ys = pathF n d) : parT a b = (n, d, 0) := by
  obtain ⟨e1, e2, e3⟩ := path_of hp hf
  rw [hm] at e1 e2 e3
  obtain ⟨h1, h2⟩ := code1_zero hc
  have e1 : pathF a b = ys := e1
  rw [parT_ok (code1_ok e2 e3) (by rw [e1]; exact h0), e1, hl]
  exact atP_path h1 h2
theorem chi_par {n d a b x y : Int} (h : chiT n d = (a, b, x, y, 0)) : parT a b = (n, d, 0) ∧ parT x y = (n, d, 0) := by
  by_cases hc : code1 n d = 0
  case neg =>
    rw [chiT_no hc] at h
    injection h with _ h; injection h with _ h; injection h with _ h; injection h with _ h
    exact absurd h hc
  rw [chiT_ok hc] at h
  obtain ⟨h1, h2⟩ := code1_zero hc
  obtain ⟨m, hm, hmid⟩ := path_fo h1 h2
  have hpos := posP_of (path_ok h1 h2)
  rw [bnd_some hm] at h
  have en : n = (mid m).1 := by rw [hmid]
  have ed : d = (mid m).2 := by rw [hmid]
  unfold chiK at h
  by_cases hk : (pathF n d).length % 2 = 0
  · rw [bQ_even hk] at h
    by_cases hb : okF (n + m.2.2.1) (d + m.2.2.2) = true ∧ okF (n + m.1) (d + m.2.1) = true
    · rw [if_pos hb] at h
      injection h with ha h; injection h with hb2 h; injection h with hx h; injection h with hy h
      have ha : n + m.2.2.1 = a := ha
      have hb2 : d + m.2.2.2 = b := hb2
      have hx : n + m.1 = x := hx
      have hy : d + m.2.1 = y := hy
      obtain ⟨k1, k2⟩ := hb
      rw [en] at k1 k2 ha hx
      rw [ed] at k1 k2 hb2 hy
      constructor
      · by_cases h0 : pathF n d = []
        · rw [h0] at hm
          have hm2 : m = (1, 0, 0, 1) := by
            rw [fo_nil (by decide)] at hm
            injection hm with hm
            exact hm.symm
          subst hm2
          have hf : fo 1 0 0 1 [0, 1] = some (1, 1, 0, 1) := by decide
          refine par_child hc ?_ hf ?_ (by decide) (by rw [h0]; decide)
          · intro j z hz
            match j, hz with
            | 0, hz => injection hz with hz; subst hz; decide
            | 1, hz => injection hz with hz; subst hz; decide
            | j + 2, hz => simp at hz
          · rw [← ha, ← hb2]; decide
        · obtain ⟨m', f1, f2⟩ := fo_long h0 hm k1
          refine par_child hc (posP_long hpos) f1 (by rw [f2, ha, hb2]) ?_ (par_long hpos)
          intro e
          have := congrArg List.length e
          rw [incL_length] at this
          exact h0 (List.length_eq_zero_iff.1 this)
      · obtain ⟨m', f1, f2⟩ := fo_more hm k2
        exact par_child hc (posP_more hpos) f1 (by rw [f2, hx, hy]) (by simp) (par_more hpos)
    · rw [if_neg hb] at h
      injection h with _ h; injection h with _ h; injection h with _ h; injection h with _ h
      cases h
  · rw [bQ_odd hk] at h
    by_cases hb : okF (n + m.1) (d + m.2.1) = true ∧ okF (n + m.2.2.1) (d + m.2.2.2) = true
    · rw [if_pos hb] at h
      injection h with ha h; injection h with hb2 h; injection h with hx h; injection h with hy h
      have ha : n + m.1 = a := ha
      have hb2 : d + m.2.1 = b := hb2
      have hx : n + m.2.2.1 = x := hx
      have hy : d + m.2.2.2 = y := hy
      obtain ⟨k1, k2⟩ := hb
      rw [en] at k1 k2 ha hx
      rw [ed] at k1 k2 hb2 hy
      have h0 : pathF n d ≠ [] := fun e => hk (by rw [e]; rfl)
      constructor
      · obtain ⟨m', f1, f2⟩ := fo_more hm k1
        exact par_child hc (posP_more hpos) f1 (by rw [f2, ha, hb2]) (by simp) (par_more hpos)
      · obtain ⟨m', f1, f2⟩ := fo_long h0 hm k2
        refine par_child hc (posP_long hpos) f1 (by rw [f2, hx, hy]) ?_ (par_long hpos)
        intro e
        have := congrArg List.length e
        rw [incL_length] at this
        exact h0 (List.length_eq_zero_iff.1 this)
    · rw [if_neg hb] at h
      injection h with _ h; injection h with _ h; injection h with _ h; injection h with _ h
      cases h
/-- The parent lies one step before. -/
theorem par_lvl {n d x y : Int} (h : parT n d = (x, y, 0)) : ∃ a b, lvlT n d = (a, 0) ∧ lvlT x y = (b, 0) ∧ a = b + 1 ∧ 0 ≤ b ∧ b ≤ 60000000000 := by
  by_cases hc : code1 n d = 0
  case neg =>
    rw [parT_no hc] at h
    injection h with _ h; injection h with _ h
    exact absurd h hc
  by_cases h0 : pathF n d = []
  · rw [parT_top hc h0] at h
    injection h with _ h; injection h with _ h
    cases h
  rw [parT_ok hc h0] at h
  obtain ⟨h1, h2⟩ := code1_zero hc
  have hok := path_ok h1 h2
  have hs := sm_par (posP_of hok) (List.length_pos_iff.2 h0)
  have hp := pth_at h
  have hl := okP_len hok
  have hb := sm_bd (pathF n d) (okP_mem hok)
  by_cases hc2 : code1 x y = 0
  · rw [pthT_ok hc2] at hp
    injection hp with hp _
    have hb2 := okP_mem (atP_inv h).1
    have hb3 := sm_bd _ hb2
    have hl3 := okP_len (atP_inv h).1
    refine ⟨sm (pathF n d), sm (parL (pathF n d)), lvlT_ok hc, ?_, by omega, hb3.1, by omega⟩
    rw [lvlT_ok hc2, hp]
  · rw [pthT_no hc2] at hp
    injection hp with _ hp
    exact absurd hp hc2

end Go.Proofs.Ytjijabfamjhdjaa
