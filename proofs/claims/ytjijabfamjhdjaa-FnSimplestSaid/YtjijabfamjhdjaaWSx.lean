/- Merged: Tmx, Spm, Trk, Sfm, WSm. -/
import Derived.Test.YtjijabfamjhdjaaTrf
import Derived.Test.YtjijabfamjhdjaaLvl
import Derived.Test.YtjijabfamjhdjaaAro
import Derived.Test.YtjijabfamjhdjaaPar
import Derived.Test.YtjijabfamjhdjaaChs
import Derived.Test.YtjijabfamjhdjaaSpl
import Derived.Test.YtjijabfamjhdjaaCan
import Derived.Test.YtjijabfamjhdjaaBds
import Derived.Test.YtjijabfamjhdjaaD5s
import Derived.Test.YtjijabfamjhdjaaCas
import Derived.Test.YtjijabfamjhdjaaIss
/-! Merged: Tru, Trc, Trl, Tmf. -/
/-! Mathematics of the tree: a path that can be gone is the path to the fraction at its end; paths of children and parents, and their steps. -/
namespace Go.Proofs.Ytjijabfamjhdjaa

theorem nf_pos {r : List Int} (h : ∀ x ∈ r, 1 ≤ x) : 1 ≤ kf 0 1 r := kf_pos r 0 1 h (by decide) (by decide)
/-- Numerators grow. -/
theorem nf_lt {u : Int} {r : List Int} (hu : 1 ≤ u) (hr : ∀ x ∈ r, 1 ≤ x) (hl : 2 ≤ (u :: r).getD r.length 0) : kf 0 1 r < kf 0 1 (u :: r) := by
  cases r with
  | nil =>
    have h2 : 2 ≤ u := hl
    show (1 : Int) < u * 1 + 0
    omega
  | cons v s =>
    rw [kf_cons]
    have h1 := nf_pos (r := v :: s) hr
    have h2 := nf_pos (r := s) (fun x hx => hr x (by simp [hx]))
    have h3 : 1 * kf 0 1 (v :: s) ≤ u * kf 0 1 (v :: s) := Int.mul_le_mul_of_nonneg_right hu (by omega)
    omega
theorem kf_den (t : Int) (r : List Int) : kf 1 0 (t :: r) = kf 0 1 r := by
  show kf 0 (t * 0 + 1) r = _
  rw [Int.mul_zero, Int.zero_add]
/-- Terms are those of their value. -/
theorem eu_value : ∀ (t : Int) (r : List Int), (∀ x ∈ r, 1 ≤ x) → (1 ≤ r.length → 2 ≤ (t :: r).getD r.length 0) → eu (kf 0 1 (t :: r)) (kf 1 0 (t :: r)) = t :: r
  | t, [], _, _ => by
    have e1 : kf 0 1 [t] = t := by show t * 1 + 0 = t; omega
    have e2 : kf 1 0 [t] = 1 := by show t * 0 + 1 = 1; omega
    rw [e1, e2, eu_step (by decide), Int.ediv_one, Int.emod_one, eu_end (Int.le_refl 0)]
  | t, u :: r, h, hl => by
    have hu := h u (by simp)
    have hr : ∀ x ∈ r, 1 ≤ x := fun x hx => h x (by simp [hx])
    have hl2 : 2 ≤ (u :: r).getD r.length 0 := by
      have := hl (by simp)
      simpa using this
    have h1 := nf_lt hu hr hl2
    have h2 := nf_pos hr
    have ih := eu_value u r hr (fun _ => hl2)
    rw [kf_den, kf_cons] at *
    have e1 : (t * kf 0 1 (u :: r) + kf 0 1 r) / kf 0 1 (u :: r) = t := by
      rw [Int.add_comm, Int.add_mul_ediv_right _ _ (by omega), Int.ediv_eq_zero_of_lt (by omega) h1]; omega
    have e2 : (t * kf 0 1 (u :: r) + kf 0 1 r) % kf 0 1 (u :: r) = kf 0 1 r := by
      rw [Int.add_comm, Int.add_mul_emod_self_right, Int.emod_eq_of_lt (by omega) h1]
    rw [eu_step (by omega), e1, e2, ih]

/-- The numbers of a path are such (its length aside). -/
def posP (xs : List Int) : Prop := ∀ (j : Nat) (x : Int), xs[j]? = some x → lowP xs j ≤ x
theorem posP_of {xs : List Int} (h : okP xs = true) : posP xs := fun j x hx => ((okP_iff.1 h).2 j x hx).1
theorem posP_last {xs : List Int} (h : posP xs) (h0 : 0 < xs.length) : ∃ x, xs[xs.length - 1]? = some x ∧ 1 ≤ x := by
  obtain ⟨x, hx⟩ : ∃ x, xs[xs.length - 1]? = some x := ⟨_, List.getElem?_eq_getElem (by omega)⟩
  have := h _ x hx
  refine ⟨x, hx, ?_⟩
  unfold lowP at this
  split at this <;> omega
theorem posP_trim {xs : List Int} (h : posP xs) : trimL xs = xs := by
  by_cases h0 : 0 < xs.length
  · obtain ⟨x, hx, hx1⟩ := posP_last h h0
    refine trimL_same ?_
    rw [hx]
    intro e
    injection e with e
    omega
  · have : xs = [] := List.length_eq_zero_iff.1 (by omega)
    subst this; rfl
theorem posP_nonneg {xs : List Int} (h : posP xs) : ∀ z ∈ xs, 0 ≤ z := by
  intro z hz
  obtain ⟨j, hj⟩ := List.mem_iff_getElem?.1 hz
  have := h j z hj
  have := lowP_ge (xs := xs) (j := j)
  omega
theorem posP_rest {xs : List Int} (h : posP xs) : ∀ x ∈ xs.drop 1, 1 ≤ x := by
  intro x hx
  obtain ⟨j, hj⟩ := List.mem_iff_getElem?.1 hx
  rw [List.getElem?_drop] at hj
  have := h _ x hj
  rwa [lowP_next (by omega)] at this
theorem inv_num {P Q PP QQ : Int} (h : InvT P Q PP QQ) : 1 ≤ P + PP := by
  obtain ⟨h1, h2, h3, h4, h5⟩ := h
  by_cases e : P + PP = 0
  · have e1 : P = 0 := by omega
    have e2 : PP = 0 := by omega
    rw [e1, e2] at h5
    simp [Unit1] at h5
  · omega

/-- A path that can be gone is the path to where it leads. -/
theorem path_of {xs : List Int} {m : Int × Int × Int × Int} (h : posP xs) (hf : fo 1 0 0 1 xs = some m) : pathF (mid m).1 (mid m).2 = xs ∧ okF (mid m).1 (mid m).2 = true ∧ 1 ≤ (mid m).1 := by
  obtain ⟨hi, ho⟩ := fo_inv _ _ _ _ _ m inv_top (posP_nonneg h) hf
  refine ⟨?_, ho, inv_num hi⟩
  by_cases h0 : xs = []
  · subst h0
    have ho1 := fo_ok hf
    rw [fo_nil ho1] at hf
    injection hf with hf
    subst hf
    show pathF 1 1 = []
    unfold pathF
    rw [eu_step (by decide), show (1 : Int) % 1 = 0 from rfl, eu_end (Int.le_refl 0)]
    rfl
  · have hl : 0 < xs.length := List.length_pos_iff.2 h0
    have hc := fo_cv xs 1 0 0 1 inv_top h0 (fun x hx => ⟨posP_nonneg h x (List.mem_of_getElem? hx), .inr (by decide)⟩) (posP_rest h)
    rw [hf] at hc
    have hne : incL xs ≠ [] := by
      intro e
      have := incL_length xs
      rw [e] at this
      simp at this
      omega
    obtain ⟨x, hx, hx1⟩ := posP_last h hl
    cases hcv : cv 1 0 0 1 (incL xs) with
    | none => rw [hcv] at hc; simp at hc
    | some l =>
      rw [hcv] at hc
      have h1 := cv_last hcv hne
      have h2 : mid m = (kf 0 1 (incL xs), kf 1 0 (incL xs)) := by
        have hc : some (mid m) = l.getLast? := hc
        rw [h1] at hc
        injection hc
      rw [h2]
      have hlast : (incL xs)[xs.length - 1]? = some (x + 1) := by
        unfold incL
        rw [List.getElem?_set_self (by omega), List.getD_eq_getElem?_getD, hx]; rfl
      have he : eu (kf 0 1 (incL xs)) (kf 1 0 (incL xs)) = incL xs := by
        have hil := incL_length xs
        generalize hts : incL xs = ts at *
        cases ts with
        | nil => exact absurd rfl hne
        | cons t r =>
          simp only [List.length_cons] at hil
          refine eu_value t r (fun y hy => ?_) (fun _ => ?_)
          · obtain ⟨j, hj⟩ := List.mem_iff_getElem?.1 hy
            have hj2 : (t :: r)[j + 1]? = some y := by simpa using hj
            have hjl := (List.getElem?_eq_some_iff.1 hj2).1
            simp only [List.length_cons] at hjl
            by_cases e : j + 1 = xs.length - 1
            · rw [e, hlast] at hj2
              injection hj2 with hj2
              omega
            · rw [← hts] at hj2
              unfold incL at hj2
              rw [List.getElem?_set_ne (by omega)] at hj2
              have := h _ y hj2
              rwa [lowP_next (by omega)] at this
          · have e : r.length = xs.length - 1 := by omega
            rw [e, List.getD_eq_getElem?_getD, hlast]
            show 2 ≤ x + 1
            omega
      unfold pathF
      dsimp only
      rw [he, dec_inc, posP_trim h]

end Go.Proofs.Ytjijabfamjhdjaa

/-! Mathematics of the tree: the paths of both children, and that their parent is where one came from. -/
namespace Go.Proofs.Ytjijabfamjhdjaa

theorem fo_snoc : ∀ (xs : List Int) (P Q PP QQ x : Int) (m : Int × Int × Int × Int), fo P Q PP QQ xs = some m →
    fo P Q PP QQ (xs ++ [x]) = if okF (m.2.2.1 + x * m.1 + m.1) (m.2.2.2 + x * m.2.1 + m.2.1) then some (m.2.2.1 + x * m.1, m.2.2.2 + x * m.2.1, m.1, m.2.1) else none
  | [], P, Q, PP, QQ, x, m, h => by
    have ho := fo_ok h
    rw [fo_nil ho] at h
    injection h with h
    subst h
    rw [List.nil_append, fo_cons ho]
    rfl
  | y :: xs, P, Q, PP, QQ, x, m, h => by
    have ho := fo_ok h
    rw [fo_cons ho] at h
    rw [List.cons_append, fo_cons ho]
    exact fo_snoc xs _ _ _ _ x m h
/-- One run more, of one step. -/
theorem fo_more {xs : List Int} {m : Int × Int × Int × Int} (h : fo 1 0 0 1 xs = some m) (hk : okF ((mid m).1 + m.1) ((mid m).2 + m.2.1) = true) : ∃ m', fo 1 0 0 1 (xs ++ [1]) = some m' ∧ mid m' = ((mid m).1 + m.1, (mid m).2 + m.2.1) := by
  have h1 := fo_snoc xs 1 0 0 1 1 m h
  have e1 : m.2.2.1 + 1 * m.1 + m.1 = (mid m).1 + m.1 := by show _ = m.1 + m.2.2.1 + m.1; omega
  have e2 : m.2.2.2 + 1 * m.2.1 + m.2.1 = (mid m).2 + m.2.1 := by show _ = m.2.1 + m.2.2.2 + m.2.1; omega
  rw [e1, e2, hk, if_pos rfl] at h1
  refine ⟨_, h1, ?_⟩
  show (m.2.2.1 + 1 * m.1 + m.1, m.2.2.2 + 1 * m.2.1 + m.2.1) = _
  rw [e1, e2]
/-- The last run one step longer. -/
theorem fo_long {xs : List Int} {m : Int × Int × Int × Int} (h0 : xs ≠ []) (h : fo 1 0 0 1 xs = some m) (hk : okF ((mid m).1 + m.2.2.1) ((mid m).2 + m.2.2.2) = true) : ∃ m', fo 1 0 0 1 (incL xs) = some m' ∧ mid m' = ((mid m).1 + m.2.2.1, (mid m).2 + m.2.2.2) := by
  have hl : 0 < xs.length := List.length_pos_iff.2 h0
  obtain ⟨x, hx⟩ : ∃ x, xs[xs.length - 1]? = some x := ⟨_, List.getElem?_eq_getElem (by omega)⟩
  have hs := split_last hx
  have hi : incL xs = xs.take (xs.length - 1) ++ [x + 1] := by
    have hd : decL (incL xs) = xs := dec_inc xs
    have hlast : (incL xs)[(incL xs).length - 1]? = some (x + 1) := by
      rw [incL_length]
      unfold incL
      rw [List.getElem?_set_self (by omega), List.getD_eq_getElem?_getD, hx]; rfl
    rw [split_last hlast, incL_length]
    congr 1
    apply List.ext_getElem?
    intro j
    by_cases hj : j < xs.length - 1
    · rw [List.getElem?_take_of_lt hj, List.getElem?_take_of_lt hj]
      unfold incL
      rw [List.getElem?_set_ne (by omega)]
    · rw [List.getElem?_eq_none (by rw [List.length_take]; omega), List.getElem?_eq_none (by rw [List.length_take]; omega)]
  rw [hs] at h
  obtain ⟨m0, h1⟩ := fo_take _ _ _ _ _ _ _ h
  have h2 := fo_snoc _ 1 0 0 1 x m0 h1
  have h3 := fo_snoc _ 1 0 0 1 (x + 1) m0 h1
  rw [h] at h2
  cases hb : okF (m0.2.2.1 + x * m0.1 + m0.1) (m0.2.2.2 + x * m0.2.1 + m0.2.1)
  · rw [hb] at h2; simp at h2
  · rw [hb, if_pos rfl] at h2
    injection h2 with h2
    subst h2
    rw [hi]
    have e1 : m0.2.2.1 + (x + 1) * m0.1 + m0.1 = m0.2.2.1 + x * m0.1 + m0.1 + m0.1 := by rw [Int.add_mul, Int.one_mul]; omega
    have e2 : m0.2.2.2 + (x + 1) * m0.2.1 + m0.2.1 = m0.2.2.2 + x * m0.2.1 + m0.2.1 + m0.2.1 := by rw [Int.add_mul, Int.one_mul]; omega
    have hk2 : okF (m0.2.2.1 + x * m0.1 + m0.1 + m0.1) (m0.2.2.2 + x * m0.2.1 + m0.2.1 + m0.2.1) = true := hk
    rw [e1, e2, hk2, if_pos rfl] at h3
    refine ⟨_, h3, ?_⟩
    show (m0.2.2.1 + (x + 1) * m0.1 + m0.1, m0.2.2.2 + (x + 1) * m0.2.1 + m0.2.1) = (m0.2.2.1 + x * m0.1 + m0.1 + m0.1, m0.2.2.2 + x * m0.2.1 + m0.2.1 + m0.2.1)
    rw [e1, e2]

theorem posP_more {xs : List Int} (h : posP xs) : posP (xs ++ [1]) := by
  intro j x hx
  by_cases hj : j < xs.length
  · rw [List.getElem?_append_left hj] at hx
    have := h j x hx
    unfold lowP at this ⊢
    by_cases h0 : j = 0 ∧ 1 < (xs ++ [1]).length
    · rw [if_pos h0]
      split at this <;> omega
    · rw [if_neg h0]
      rw [if_neg (fun e => h0 ⟨e.1, by rw [List.length_append]; omega⟩)] at this
      exact this
  · rw [List.getElem?_append_right (by omega)] at hx
    have hx1 : x = 1 := by
      have := List.mem_of_getElem? hx
      simpa using this
    unfold lowP
    split <;> omega
theorem posP_long {xs : List Int} (h : posP xs) : posP (incL xs) := by
  intro j x hx
  have hl : lowP (incL xs) j = lowP xs j := by unfold lowP; rw [incL_length]
  rw [hl]
  unfold incL at hx
  by_cases hj : j = xs.length - 1
  · by_cases h0 : 0 < xs.length
    · subst hj
      rw [List.getElem?_set_self (by omega)] at hx
      injection hx with hx
      obtain ⟨y, hy, _⟩ := posP_last h h0
      have := h _ y hy
      rw [List.getD_eq_getElem?_getD, hy] at hx
      have hx : y + 1 = x := hx
      omega
    · have : xs = [] := List.length_eq_zero_iff.1 (by omega)
      subst this
      simp at hx
  · rw [List.getElem?_set_ne (by omega)] at hx
    exact h j x hx
theorem par_more {xs : List Int} (h : posP xs) : parL (xs ++ [1]) = xs := by
  have hlast : (xs ++ [1])[(xs ++ [1]).length - 1]? = some 1 := by simp
  rw [parL_one hlast]
  have e1 : (xs ++ [1]).length - 1 = xs.length := by simp
  rw [e1]
  have e2 : ∀ k, k ≤ xs.length → trimN (xs ++ [1]) k = trimN xs k := by
    intro k
    induction k with
    | zero => intro _; rfl
    | succ k ih =>
      intro hk
      unfold trimN
      rw [List.getElem?_append_left (by omega), ih (by omega)]
  rw [e2 _ (Nat.le_refl _)]
  have e3 := posP_trim h
  have hle := trimN_le xs xs.length
  rw [List.take_append_of_le_length hle]
  exact e3
theorem par_long {xs : List Int} (h : posP xs) : parL (incL xs) = xs := by
  unfold parL
  rw [dec_inc]
  exact posP_trim h

end Go.Proofs.Ytjijabfamjhdjaa

/-! Mathematics of the tree: a parent is one step nearer; determinants of bounds have their sign; beginnings of beginnings. -/
namespace Go.Proofs.Ytjijabfamjhdjaa

/-- The path to the parent has one step less. -/
theorem sm_par {xs : List Int} (h : posP xs) (h0 : 0 < xs.length) : sm (parL xs) + 1 = sm xs := by
  obtain ⟨x, hx, hx1⟩ := posP_last h h0
  have hs : sm xs = sm (xs.take (xs.length - 1)) + x := by
    conv => lhs; rw [split_last hx]
    rw [sm_append]
    show _ + (x + 0) = _
    omega
  by_cases h2 : 2 ≤ x
  · rw [parL_more hx h2, decL_split hx, sm_append, hs]
    show _ + (x - 1 + 0) + 1 = _
    omega
  · have hx2 : x = 1 := by omega
    subst hx2
    by_cases h3 : xs.length = 2 ∧ xs[0]? = some 0
    · rw [parL_nil hx h3.1 h3.2, hs, h3.1]
      show sm [] + 1 = sm (xs.take 1) + 1
      rw [sm_next h3.2]
      rfl
    · have hc : parL xs = xs.take (xs.length - 1) := by
        rw [parL_one hx]
        by_cases h1 : xs.length = 1
        · rw [h1]; rfl
        obtain ⟨m, hm⟩ : ∃ m, xs.length - 1 = m + 1 := ⟨xs.length - 2, by omega⟩
        rw [hm, trimN_stop]
        intro e
        have hb := h m 0 e
        unfold lowP at hb
        split at hb
        · rename_i e2
          exact h3 ⟨by omega, by rw [← e2.1]; exact e⟩
        · omega
      rw [hc, hs]

/-- The determinant of both convergents changes its sign with each run. -/
theorem fo_det : ∀ (xs : List Int) (P Q PP QQ : Int) (m : Int × Int × Int × Int), fo P Q PP QQ xs = some m → m.1 * m.2.2.2 - m.2.1 * m.2.2.1 = (if xs.length % 2 = 0 then P * QQ - Q * PP else -(P * QQ - Q * PP))
  | [], P, Q, PP, QQ, m, h => by
    have ho := fo_ok h
    rw [fo_nil ho] at h
    injection h with h
    subst h
    rfl
  | x :: xs, P, Q, PP, QQ, m, h => by
    have ho := fo_ok h
    rw [fo_cons ho] at h
    rw [fo_det xs _ _ _ _ m h]
    have e : (PP + x * P) * Q - (QQ + x * Q) * P = -(P * QQ - Q * PP) := by
      rw [Int.add_mul, Int.add_mul]
      have g1 : x * P * Q = x * Q * P := Int.mul_right_comm ..
      have g2 : PP * Q = Q * PP := Int.mul_comm ..
      have g3 : QQ * P = P * QQ := Int.mul_comm ..
      omega
    rw [e]
    simp only [List.length_cons]
    by_cases hk : xs.length % 2 = 0
    · rw [if_pos hk, if_neg (by omega)]
    · rw [if_neg hk, if_pos (by omega)]
      omega
theorem bnd_det {n d : Int} (h : okF n d = true) (hn : 1 ≤ n) : (bnd n d).2.2.1 * (bnd n d).2.1 - (bnd n d).1 * (bnd n d).2.2.2 = 1 := by
  obtain ⟨m, hm, _⟩ := path_fo h hn
  have hd := fo_det _ _ _ _ _ m hm
  rw [bnd_some hm]
  by_cases hk : (pathF n d).length % 2 = 0
  · rw [if_pos hk] at hd
    rw [bQ_even hk]
    show m.1 * m.2.2.2 - m.2.2.1 * m.2.1 = 1
    rw [Int.mul_comm m.2.2.1]
    omega
  · rw [if_neg hk] at hd
    rw [bQ_odd hk]
    show m.2.2.1 * m.2.1 - m.1 * m.2.2.2 = 1
    rw [Int.mul_comm m.2.2.1]
    omega

end Go.Proofs.Ytjijabfamjhdjaa

/-! Mathematics for the law on the tree: paths come back, children have their parent, the parent lies one step before. -/
namespace Go.Proofs.Ytjijabfamjhdjaa

theorem atP_inv {p : List Int} {x y : Int} (h : atP p = (x, y, 0)) : okP p = true ∧ ∃ m, fo 1 0 0 1 p = some m ∧ mid m = (x, y) := by
  cases hk : okP p
  · rw [atP_bad hk] at h; injection h with _ h; injection h with _ h; cases h
  · cases hf : fo 1 0 0 1 p with
    | none => rw [atP_full hk hf] at h; injection h with _ h; injection h with _ h; cases h
    | some m =>
      rw [atP_ok hk hf] at h
      injection h with h1 h; injection h with h2 _
      exact ⟨rfl, m, rfl, by rw [← h1, ← h2]⟩
/-- The path to where a path leads is this path. -/
theorem pth_at {p : List Int} {x y : Int} (h : atP p = (x, y, 0)) : pthT x y = (p, 0) := by
  obtain ⟨hk, m, hm, hmid⟩ := atP_inv h
  obtain ⟨a, b, c⟩ := path_of (posP_of hk) hm
  rw [hmid] at a b c
  rw [pthT_ok (code1_ok b c)]
  exact congrArg (·, 0) a
theorem at_pth {n d : Int} {xs : List Int} (h : pthT n d = (xs, 0)) : atP xs = (n, d, 0) := by
  by_cases hc : code1 n d = 0
  · rw [pthT_ok hc] at h
    injection h with h _
    obtain ⟨h1, h2⟩ := code1_zero hc
    rw [← h]
    exact atP_path h1 h2
  · rw [pthT_no hc] at h
    injection h with _ h
    exact absurd h hc
/-- The parent of a child. -/
theorem par_child {n d a b : Int} {ys : List Int} {m : Int × Int × Int × Int} (hc : code1 n d = 0) (hp : posP ys) (hf : fo 1 0 0 1 ys = some m) (hm : mid m = (a, b)) (h0 : ys ≠ []) (hl : parL ys = pathF n d) : parT a b = (n, d, 0) := by
  obtain ⟨e1, e2, e3⟩ := path_of hp hf
  rw [hm] at e1 e2 e3
  obtain ⟨h1, h2⟩ := code1_zero hc
  have e1 : pathF a b = ys := e1
  rw [parT_ok (code1_ok e2 e3) (by rw [e1]; exact h0), e1, hl]
  exact atP_path h1 h2
theorem chi_par {n d a b x y : Int} (h : chiT n d = (a, b, x, y, 0)) : parT a b = (n, d, 0) ∧ parT x y = (n, d, 0) := by
  by_cases hc : code1 n d = 0
  case neg =>
    rw [chiT_no hc] at h
    injection h with _ h; injection h with _ h; injection h with _ h; injection h with _ h
    exact absurd h hc
  rw [chiT_ok hc] at h
  obtain ⟨h1, h2⟩ := code1_zero hc
  obtain ⟨m, hm, hmid⟩ := path_fo h1 h2
  have hpos := posP_of (path_ok h1 h2)
  rw [bnd_some hm] at h
  have en : n = (mid m).1 := by rw [hmid]
  have ed : d = (mid m).2 := by rw [hmid]
  unfold chiK at h
  by_cases hk : (pathF n d).length % 2 = 0
  · rw [bQ_even hk] at h
    by_cases hb : okF (n + m.2.2.1) (d + m.2.2.2) = true ∧ okF (n + m.1) (d + m.2.1) = true
    · rw [if_pos hb] at h
      injection h with ha h; injection h with hb2 h; injection h with hx h; injection h with hy h
      have ha : n + m.2.2.1 = a := ha
      have hb2 : d + m.2.2.2 = b := hb2
      have hx : n + m.1 = x := hx
      have hy : d + m.2.1 = y := hy
      obtain ⟨k1, k2⟩ := hb
      rw [en] at k1 k2 ha hx
      rw [ed] at k1 k2 hb2 hy
      constructor
      · by_cases h0 : pathF n d = []
        · rw [h0] at hm
          have hm2 : m = (1, 0, 0, 1) := by
            rw [fo_nil (by decide)] at hm
            injection hm with hm
            exact hm.symm
          subst hm2
          have hf : fo 1 0 0 1 [0, 1] = some (1, 1, 0, 1) := by decide
          refine par_child hc ?_ hf ?_ (by decide) (by rw [h0]; decide)
          · intro j z hz
            match j, hz with
            | 0, hz => injection hz with hz; subst hz; decide
            | 1, hz => injection hz with hz; subst hz; decide
            | j + 2, hz => simp at hz
          · rw [← ha, ← hb2]; decide
        · obtain ⟨m', f1, f2⟩ := fo_long h0 hm k1
          refine par_child hc (posP_long hpos) f1 (by rw [f2, ha, hb2]) ?_ (par_long hpos)
          intro e
          have := congrArg List.length e
          rw [incL_length] at this
          exact h0 (List.length_eq_zero_iff.1 this)
      · obtain ⟨m', f1, f2⟩ := fo_more hm k2
        exact par_child hc (posP_more hpos) f1 (by rw [f2, hx, hy]) (by simp) (par_more hpos)
    · rw [if_neg hb] at h
      injection h with _ h; injection h with _ h; injection h with _ h; injection h with _ h
      cases h
  · rw [bQ_odd hk] at h
    by_cases hb : okF (n + m.1) (d + m.2.1) = true ∧ okF (n + m.2.2.1) (d + m.2.2.2) = true
    · rw [if_pos hb] at h
      injection h with ha h; injection h with hb2 h; injection h with hx h; injection h with hy h
      have ha : n + m.1 = a := ha
      have hb2 : d + m.2.1 = b := hb2
      have hx : n + m.2.2.1 = x := hx
      have hy : d + m.2.2.2 = y := hy
      obtain ⟨k1, k2⟩ := hb
      rw [en] at k1 k2 ha hx
      rw [ed] at k1 k2 hb2 hy
      have h0 : pathF n d ≠ [] := fun e => hk (by rw [e]; rfl)
      constructor
      · obtain ⟨m', f1, f2⟩ := fo_more hm k1
        exact par_child hc (posP_more hpos) f1 (by rw [f2, ha, hb2]) (by simp) (par_more hpos)
      · obtain ⟨m', f1, f2⟩ := fo_long h0 hm k2
        refine par_child hc (posP_long hpos) f1 (by rw [f2, hx, hy]) ?_ (par_long hpos)
        intro e
        have := congrArg List.length e
        rw [incL_length] at this
        exact h0 (List.length_eq_zero_iff.1 this)
    · rw [if_neg hb] at h
      injection h with _ h; injection h with _ h; injection h with _ h; injection h with _ h
      cases h
/-- The parent lies one step before. -/
theorem par_lvl {n d x y : Int} (h : parT n d = (x, y, 0)) : ∃ a b, lvlT n d = (a, 0) ∧ lvlT x y = (b, 0) ∧ a = b + 1 ∧ 0 ≤ b ∧ b ≤ 60000000000 := by
  by_cases hc : code1 n d = 0
  case neg =>
    rw [parT_no hc] at h
    injection h with _ h; injection h with _ h
    exact absurd h hc
  by_cases h0 : pathF n d = []
  · rw [parT_top hc h0] at h
    injection h with _ h; injection h with _ h
    cases h
  rw [parT_ok hc h0] at h
  obtain ⟨h1, h2⟩ := code1_zero hc
  have hok := path_ok h1 h2
  have hs := sm_par (posP_of hok) (List.length_pos_iff.2 h0)
  have hp := pth_at h
  have hl := okP_len hok
  have hb := sm_bd (pathF n d) (okP_mem hok)
  by_cases hc2 : code1 x y = 0
  · rw [pthT_ok hc2] at hp
    injection hp with hp _
    have hb2 := okP_mem (atP_inv h).1
    have hb3 := sm_bd _ hb2
    have hl3 := okP_len (atP_inv h).1
    refine ⟨sm (pathF n d), sm (parL (pathF n d)), lvlT_ok hc, ?_, by omega, hb3.1, by omega⟩
    rw [lvlT_ok hc2, hp]
  · rw [pthT_no hc2] at hp
    injection hp with _ hp
    exact absurd hp hc2

end Go.Proofs.Ytjijabfamjhdjaa

/-! Mathematics: the simplest fraction lies between both bounds, and no other one there has lesser numbers. -/
namespace Go.Proofs.Ytjijabfamjhdjaa

theorem spl_between : ∀ (k : Nat) (p q r t : Int), (q + t).toNat ≤ k → SI p q r t → p * (spl p q r t).2 < (spl p q r t).1 * q ∧ (spl p q r t).1 * t < r * (spl p q r t).2
  | 0, p, q, r, t, hk, h => by have h1 := h.2.1.1; have h2 := h.2.2.2.1.1; omega
  | k + 1, p, q, r, t, hk, h => by
    have e := Int.emod_def p q
    have hq := h.2.1.1
    have m2 := Int.emod_lt_of_pos p (b := q) (by omega)
    rw [Int.mul_comm q] at e
    by_cases hs : 0 < q ∧ 0 < t ∧ r ≤ (p / q + 1) * t
    · obtain ⟨h1, h2⟩ := si_step h hs.2.1 hs.2.2
      obtain ⟨i1, i2⟩ := spl_between k t (r - p / q * t) q (p - p / q * q) (by omega) h1
      rw [spl_step hs]
      generalize spl t (r - p / q * t) q (p - p / q * q) = s at *
      obtain ⟨a, b⟩ := s
      dsimp only at i1 i2 ⊢
      generalize p / q = n at *
      rw [Int.mul_sub] at i1 i2
      rw [Int.add_mul, Int.add_mul]
      have e1 : a * (n * t) = n * a * t := by rw [← Int.mul_assoc, Int.mul_comm a n]
      have e2 : a * (n * q) = n * a * q := by rw [← Int.mul_assoc, Int.mul_comm a n]
      have e3 : a * p = p * a := Int.mul_comm ..
      have e4 : a * r = r * a := Int.mul_comm ..
      have e5 : t * b = b * t := Int.mul_comm ..
      have e6 : q * b = b * q := Int.mul_comm ..
      constructor <;> omega
    · rw [spl_leaf hs]
      dsimp only
      rw [Int.add_mul, Int.one_mul, Int.mul_one, Int.mul_one]
      refine ⟨by omega, ?_⟩
      rw [Int.add_mul, Int.one_mul] at hs
      have h3 := h.2.2.1.1
      by_cases ht : 0 < t
      · have : ¬ r ≤ p / q * t + t := fun e2 => hs ⟨by omega, ht, e2⟩
        rw [Int.add_mul, Int.one_mul]
        omega
      · have : t = 0 := by have := h.2.2.2.1.1; omega
        subst this
        rw [Int.mul_zero]
        omega

theorem spl_least : ∀ (k : Nat) (p q r t x y : Int), (q + t).toNat ≤ k → SI p q r t → 1 ≤ y → p * y < x * q → x * t < r * y → (spl p q r t).1 ≤ x ∧ (spl p q r t).2 ≤ y
  | 0, p, q, r, t, x, y, hk, h, _, _, _ => by have h1 := h.2.1.1; have h2 := h.2.2.2.1.1; omega
  | k + 1, p, q, r, t, x, y, hk, h, hy, h1, h2 => by
    have e := Int.emod_def p q
    have hq := h.2.1.1
    have hn : 0 ≤ p / q := Int.ediv_nonneg h.1.1 (by omega)
    have m1 := Int.emod_nonneg p (b := q) (by omega)
    have m2 := Int.emod_lt_of_pos p (b := q) (by omega)
    rw [Int.mul_comm q] at e
    have e7 : (p - p / q * q) * y ≥ 0 := Int.mul_nonneg (by omega) (by omega)
    rw [Int.sub_mul] at e7
    have e8 : p / q * q * y = p / q * y * q := Int.mul_right_comm ..
    by_cases hs : 0 < q ∧ 0 < t ∧ r ≤ (p / q + 1) * t
    · obtain ⟨h3, h4⟩ := si_step h hs.2.1 hs.2.2
      have hy' : 1 ≤ x - p / q * y := by
        have : p / q * y * q < x * q := by omega
        have := Int.lt_of_mul_lt_mul_right this (by omega)
        omega
      have ih := spl_least k t (r - p / q * t) q (p - p / q * q) y (x - p / q * y) (by omega) h3 hy'
      rw [spl_step hs]
      generalize spl t (r - p / q * t) q (p - p / q * q) = s at *
      obtain ⟨a, b⟩ := s
      generalize p / q = n at *
      have f1 : t * (x - n * y) < y * (r - n * t) := by
        rw [Int.mul_sub, Int.mul_sub]
        have g1 : t * (n * y) = y * (n * t) := by rw [Int.mul_comm t, Int.mul_right_comm n y t, Int.mul_comm (n * t) y]
        have g2 : t * x = x * t := Int.mul_comm ..
        have g3 : y * r = r * y := Int.mul_comm ..
        omega
      have f2 : y * (p - n * q) < q * (x - n * y) := by
        rw [Int.mul_sub, Int.mul_sub]
        have g1 : y * (n * q) = q * (n * y) := by rw [Int.mul_comm y, Int.mul_right_comm n q y, Int.mul_comm (n * y) q]
        have g2 : y * p = p * y := Int.mul_comm ..
        have g3 : q * x = x * q := Int.mul_comm ..
        omega
      obtain ⟨k1, k2⟩ := ih f1 f2
      dsimp only at k1 k2 ⊢
      have := Int.mul_le_mul_of_nonneg_left k1 hn
      exact ⟨by omega, k1⟩
    · rw [spl_leaf hs]
      dsimp only
      refine ⟨?_, hy⟩
      have h5 : p / q * y * q < x * q := by omega
      have h6 := Int.lt_of_mul_lt_mul_right h5 (by omega)
      have h7 : p / q * 1 ≤ p / q * y := Int.mul_le_mul_of_nonneg_left hy hn
      omega

end Go.Proofs.Ytjijabfamjhdjaa

/-! Mathematics of the tree: what a common beginning has in common with a path of which it is one. -/
namespace Go.Proofs.Ytjijabfamjhdjaa

theorem cmn_nil (ys : List Int) : cmn [] ys = [] := by cases ys <;> rfl
theorem cmn_nil2 (xs : List Int) : cmn xs [] = [] := by cases xs <;> rfl
theorem cmn_same (x : Int) (xs ys : List Int) : cmn (x :: xs) (x :: ys) = x :: cmn xs ys := by
  unfold cmn
  have e : comm (x :: xs) (x :: ys) = comm xs ys + 1 := by
    show (if x = x then comm xs ys + 1 else 0) = _
    rw [if_pos rfl]
  rw [e, List.take_succ_cons]
  simp
theorem cmn_diff {x y : Int} (xs ys : List Int) (h : x ≠ y) : cmn (x :: xs) (y :: ys) = [min x y] := by
  unfold cmn
  have e : comm (x :: xs) (y :: ys) = 0 := by
    show (if x = y then comm xs ys + 1 else 0) = _
    rw [if_neg h]
  rw [e]
  simp
theorem cmn_take : ∀ (k : Nat) (a : List Int), cmn (a.take k) a = a.take k
  | 0, a => cmn_nil a
  | k + 1, [] => rfl
  | k + 1, z :: a => by rw [List.take_succ_cons, cmn_same, cmn_take k a]
theorem cmn_pre : ∀ (k : Nat) (a : List Int) (x y : Int), a[k]? = some x → y ≤ x → cmn (a.take k ++ [y]) a = a.take k ++ [y]
  | k, [], x, y, h, _ => by simp at h
  | 0, z :: a, x, y, h, hy => by
    have hz : z = x := by simpa using h
    subst hz
    show cmn [y] (z :: a) = [y]
    by_cases e : y = z
    · subst e
      rw [cmn_same, cmn_nil]
    · rw [cmn_diff _ _ e, show min y z = y by omega]
  | k + 1, z :: a, x, y, h, hy => by
    rw [List.take_succ_cons, List.cons_append, cmn_same, cmn_pre k a x y (by simpa using h) hy]
/-- A common beginning of two paths has all of itself in common with the first one. -/
theorem cmnL_again {a b : List Int} (hz : okP (cmnL a b) = true) : cmnL (cmnL a b) a = cmnL a b := by
  have la := comm_le_left a b
  have key : (∃ k, cmnL a b = a.take k) ∨ ∃ k x y, a[k]? = some x ∧ y ≤ x ∧ cmnL a b = a.take k ++ [y] := by
    unfold cmnL
    by_cases h : comm a b < a.length ∧ comm a b < b.length
    · obtain ⟨x, hx⟩ : ∃ x, a[comm a b]? = some x := ⟨_, List.getElem?_eq_getElem h.1⟩
      have e : cmn a b = a.take (comm a b) ++ [min x (b.getD (comm a b) 0)] := by
        unfold cmn
        rw [if_pos h, List.getD_eq_getElem?_getD, hx]; rfl
      rw [e]
      have hl : (a.take (comm a b)).length = comm a b := by rw [List.length_take]; omega
      unfold trimL
      rw [List.length_append, hl, List.length_singleton]
      by_cases h0 : min x (b.getD (comm a b) 0) = 0
      · have hz0 : (a.take (comm a b) ++ [min x (b.getD (comm a b) 0)])[comm a b]? = some 0 := by
          rw [List.getElem?_append_right (by omega), hl, Nat.sub_self, h0]; rfl
        rw [trimN_zero hz0]
        have hle := trimN_le (a.take (comm a b) ++ [min x (b.getD (comm a b) 0)]) (comm a b)
        left
        refine ⟨trimN (a.take (comm a b) ++ [min x (b.getD (comm a b) 0)]) (comm a b), ?_⟩
        rw [List.take_append_of_le_length (by omega), List.take_take, Nat.min_eq_left hle]
      · have hz1 : (a.take (comm a b) ++ [min x (b.getD (comm a b) 0)])[comm a b]? ≠ some 0 := by
          rw [List.getElem?_append_right (by omega), hl, Nat.sub_self]
          intro e2
          have e2 : min x (b.getD (comm a b) 0) = 0 := by simpa using e2
          exact h0 e2
        rw [trimN_stop hz1]
        right
        refine ⟨comm a b, x, min x (b.getD (comm a b) 0), hx, by omega, ?_⟩
        rw [List.take_of_length_le (by rw [List.length_append, hl]; simp)]
    · have e : cmn a b = a.take (comm a b) := by
        unfold cmn
        rw [if_neg h, List.append_nil]
      rw [e]
      left
      refine ⟨min (trimN (a.take (comm a b)) (a.take (comm a b)).length) (comm a b), ?_⟩
      unfold trimL
      rw [List.take_take]
  have e : cmn (cmnL a b) a = cmnL a b := by
    rcases key with ⟨k, h⟩ | ⟨k, x, y, hx, hy, h⟩
    · rw [h]; exact cmn_take k a
    · rw [h]; exact cmn_pre k a x y hx hy
  conv => lhs; unfold cmnL
  show trimL (cmn (cmnL a b) a) = _
  rw [e]
  exact okP_trim hz

end Go.Proofs.Ytjijabfamjhdjaa

/-! Mathematics for the law on the simplest fraction: bounds, common beginnings of beginnings, and that no fraction with a lesser denominator lies between. -/
namespace Go.Proofs.Ytjijabfamjhdjaa

theorem bds_fin {n d p q r t : Int} (h : bdsT n d = (p, q, r, t, 0)) : (p + r = n ∧ q + t = d ∧ r * q - p * t = 1) ∧ (0 ≤ p ∧ p ≤ 1000000000) ∧ (0 ≤ q ∧ q ≤ 1000000000) ∧ (0 ≤ r ∧ r ≤ 1000000000) ∧ (0 ≤ t ∧ t ≤ 1000000000) ∧ (-1000000000000000000 ≤ r * q ∧ r * q ≤ 1000000000000000000) ∧ (-1000000000000000000 ≤ p * t ∧ p * t ≤ 1000000000000000000) := by
  by_cases hc : code1 n d = 0
  case neg =>
    rw [bdsT_no hc] at h
    injection h with _ h; injection h with _ h; injection h with _ h; injection h with _ h
    exact absurd h hc
  rw [bdsT_ok hc] at h
  obtain ⟨h1, h2⟩ := code1_zero hc
  have hb := bnd_nums h1 h2
  have hd := bnd_det h1 h2
  obtain ⟨d1, d2, n1, n2⟩ := ok_bounds h1
  injection h with e1 h; injection h with e2 h; injection h with e3 h; injection h with e4 h
  rw [e1, e2, e3, e4] at hb hd
  obtain ⟨b1, b2, b3, b4, b5, b6⟩ := hb
  have m1 := mul_bd (a := r) (b := q) (by omega) (by omega) (by omega) (by omega)
  have m2 := mul_bd (a := p) (b := t) (by omega) (by omega) (by omega) (by omega)
  exact ⟨⟨b5, b6, hd⟩, ⟨b1, by omega⟩, ⟨b2, by omega⟩, ⟨b3, by omega⟩, ⟨b4, by omega⟩, m1, m2⟩
/-- The common ancestor of a common ancestor. -/
theorem com_again {n d m f x y : Int} (h : comT n d m f = (x, y, 0)) : comT x y n d = (x, y, 0) := by
  by_cases hc : chkC 1 [(n, d), (m, f)] = 0
  case neg =>
    rw [comT_no hc] at h
    injection h with _ h; injection h with _ h
    exact absurd h hc
  rw [comT_ok hc] at h
  obtain ⟨h1, _, h3, _⟩ := chk2_zero hc
  have hp := pth_at h
  obtain ⟨hk, _⟩ := atP_inv h
  by_cases hc2 : code1 x y = 0
  · rw [pthT_ok hc2] at hp
    injection hp with hp _
    obtain ⟨k1, k2⟩ := code1_zero hc2
    rw [comT_ok (chk2_ok k1 h1 k2 h3), hp, cmnL_again hk]
    exact h
  · rw [pthT_no hc2] at hp
    injection hp with _ hp
    exact absurd hp hc2
theorem smp_inv {n d m f x y : Int} (h : smpT n d m f = (x, y, 0)) : okF n d = true ∧ okF m f = true ∧ okF x y = true ∧ SI n d m f ∧ x = (spl n d m f).1 ∧ y = (spl n d m f).2 := by
  by_cases hc : chkC 0 [(n, d), (m, f)] = 0
  case neg =>
    rw [smpT_no hc] at h
    injection h with _ h; injection h with _ h
    exact absurd h hc
  by_cases h2 : 0 ≤ n * f - m * d
  · rw [smpT_state hc h2] at h
    injection h with _ h; injection h with _ h
    cases h
  cases h3 : okF (spl n d m f).1 (spl n d m f).2
  · rw [smpT_full hc h2 h3] at h
    injection h with _ h; injection h with _ h
    cases h
  rw [smpT_ok hc h2 h3] at h
  injection h with e1 h; injection h with e2 _
  obtain ⟨a, b, _, _⟩ := chk2_zero hc
  rw [e1, e2] at h3
  exact ⟨a, b, h3, si_of hc h2, e1.symm, e2.symm⟩
theorem smp_ok {n d m f x y : Int} (h : smpT n d m f = (x, y, 0)) : okF n d = true ∧ okF m f = true ∧ okF x y = true := ⟨(smp_inv h).1, (smp_inv h).2.1, (smp_inv h).2.2.1⟩
theorem smp_cmp {n d m f x y : Int} (h : smpT n d m f = (x, y, 0)) : cmpT n d x y = (-1, 0) ∧ cmpT x y m f = (-1, 0) ∧ floorT n d = (n / d, 0) := by
  obtain ⟨h1, h2, h3, hs, e1, e2⟩ := smp_inv h
  obtain ⟨b1, b2⟩ := spl_between (d + f).toNat n d m f (Nat.le_refl _) hs
  rw [← e1, ← e2] at b1 b2
  refine ⟨?_, ?_, ?_⟩
  · unfold cmpT; rw [h1, h3]
    show (sgn (n * y - x * d), (0 : Int)) = _
    unfold sgn; rw [if_pos (by omega)]
  · unfold cmpT; rw [h3, h2]
    show (sgn (x * f - m * y), (0 : Int)) = _
    unfold sgn; rw [if_pos (by omega)]
  · unfold floorT; rw [h1]; rfl
/-- No fraction with the denominator j, which is less, lies between. -/
theorem smp_num {n d m f x y j : Int} (h : smpT n d m f = (x, y, 0)) (hj : 1 ≤ j) (hj2 : j < y) (hj3 : j ≤ 200) :
    (0 ≤ n / d ∧ n / d ≤ 1000000000) ∧ (0 ≤ n / d * j ∧ n / d * j ≤ 200000000000) ∧ (0 ≤ n / d * d ∧ n / d * d ≤ 1000000000) ∧ (0 ≤ n - n / d * d ∧ n - n / d * d ≤ 1000000000) ∧ (0 ≤ (n - n / d * d) * j ∧ (n - n / d * d) * j ≤ 200000000000) ∧
    (0 ≤ (n - n / d * d) * j / d ∧ (n - n / d * d) * j / d ≤ 200) ∧ (0 ≤ (n / d * j + (n - n / d * d) * j / d + 1) * f ∧ (n / d * j + (n - n / d * d) * j / d + 1) * f ≤ 900000000000) ∧ (0 ≤ m * j ∧ m * j ≤ 200000000000) ∧ ¬ (n / d * j + (n - n / d * d) * j / d + 1) * f < m * j := by
  obtain ⟨_, _, _, hs, e1, e2⟩ := smp_inv h
  have hs0 := hs
  obtain ⟨⟨p1, p2⟩, ⟨q1, q2⟩, ⟨r1, r2⟩, ⟨t1, t2⟩, hlt⟩ := hs0
  obtain ⟨N, hN⟩ : ∃ N, N = n / d := ⟨_, rfl⟩
  have hN0 : 0 ≤ N := by rw [hN]; exact Int.ediv_nonneg p1 (by omega)
  have hNd : N * d ≤ n := by rw [hN]; exact Int.ediv_mul_le n (by omega)
  have hNd2 : n < N * d + d := by
    have h := Int.lt_ediv_add_one_mul_self n (show 0 < d by omega)
    rw [Int.add_mul, Int.one_mul, ← hN] at h
    exact h
  rw [← hN]
  have hNd0 : 0 ≤ N * d := Int.mul_nonneg hN0 (by omega)
  have hN1 : N ≤ 1000000000 := by
    have : N * 1 ≤ N * d := Int.mul_le_mul_of_nonneg_left q1 hN0
    omega
  obtain ⟨R, hR⟩ : ∃ R, R = n - N * d := ⟨_, rfl⟩
  rw [← hR]
  have hR0 : 0 ≤ R := by omega
  have hR1 : R < d := by omega
  have a1 : 0 ≤ N * j := Int.mul_nonneg hN0 (by omega)
  have a2 : N * j ≤ 1000000000 * 200 := Int.mul_le_mul hN1 hj3 (by omega) (by omega)
  have b1 : 0 ≤ R * j := Int.mul_nonneg hR0 (by omega)
  have b2 : R * j ≤ 1000000000 * 200 := Int.mul_le_mul (by omega) hj3 (by omega) (by omega)
  obtain ⟨q, hq⟩ : ∃ q, q = R * j / d := ⟨_, rfl⟩
  have hq0 : 0 ≤ q := by rw [hq]; exact Int.ediv_nonneg b1 (by omega)
  have hqd : q * d ≤ R * j := by rw [hq]; exact Int.ediv_mul_le _ (by omega)
  have hqd2 : R * j < q * d + d := by
    have h := Int.lt_ediv_add_one_mul_self (R * j) (show 0 < d by omega)
    rw [Int.add_mul, Int.one_mul, ← hq] at h
    exact h
  rw [← hq]
  have hqj : q < j := by
    refine Int.lt_of_not_ge fun hge => ?_
    have h1 : j * d ≤ q * d := Int.mul_le_mul_of_nonneg_right hge (by omega)
    have h2 : (R + 1) * j ≤ d * j := Int.mul_le_mul_of_nonneg_right (by omega) (by omega)
    rw [Int.add_mul, Int.one_mul, Int.mul_comm d j] at h2
    omega
  have hNf : N * f < m := by
    refine Int.lt_of_not_ge fun hge => ?_
    have h1 : m * d ≤ N * f * d := Int.mul_le_mul_of_nonneg_right hge (by omega)
    have h2 : N * d * f ≤ n * f := Int.mul_le_mul_of_nonneg_right hNd t1
    have h3 : N * f * d = N * d * f := Int.mul_right_comm N f d
    omega
  have c0 : 0 ≤ (N * j + q + 1) * f := Int.mul_nonneg (by omega) t1
  have c1 : (N * j + q + 1) * f ≤ (N * j + j) * f := Int.mul_le_mul_of_nonneg_right (by omega) t1
  have c2 : (N * j + j) * f = N * f * j + j * f := by rw [Int.add_mul, Int.mul_right_comm N j f]
  have c3 : N * f * j ≤ m * j := Int.mul_le_mul_of_nonneg_right (by omega) (by omega)
  have c4 : m * j ≤ 1000000000 * 200 := Int.mul_le_mul r2 hj3 (by omega) (by omega)
  have c5 : j * f ≤ 200 * 1000000000 := Int.mul_le_mul hj3 t2 t1 (by omega)
  have c6 : 0 ≤ m * j := Int.mul_nonneg (by omega) (by omega)
  refine ⟨⟨hN0, hN1⟩, ⟨a1, by omega⟩, ⟨hNd0, by omega⟩, ⟨hR0, by omega⟩, ⟨b1, by omega⟩, ⟨hq0, by omega⟩, ⟨c0, by omega⟩, ⟨c6, by omega⟩, fun hlt2 => ?_⟩
  have k1 : n * j < (N * j + q + 1) * d := by
    have e3 : n * j = N * d * j + R * j := by rw [← Int.add_mul, hR]; congr 1; omega
    have e4 : (N * j + q + 1) * d = N * d * j + q * d + d := by rw [Int.add_mul, Int.add_mul, Int.one_mul, Int.mul_right_comm N j d]
    omega
  have := (spl_least (d + f).toNat n d m f (N * j + q + 1) j (Nat.le_refl _) hs hj k1 hlt2).2
  omega

end Go.Proofs.Ytjijabfamjhdjaa

/-! The law on the simplest fraction between two, walked. -/
namespace Go.Proofs.Ytjijabfamjhdjaa.pSimplest
open Go.RowKit

set_option maxRecDepth 100000 in
set_option maxHeartbeats 25600000 in
theorem walk (ca : Option Addr) (len cap : Nat) (w : World) (hb : ByI w ca len) :
    Calls Try.prog 4 #[.slice ca len cap] w fun e w' => e = .returned (.bool true) ∧ Below w.heap.size w w' := by
  have HBG := hid (f6big ca len cap w)
  by_cases hx : 4096 < len
  case pos =>
    rw [decide_eq_true hx] at HBG
    clear hx hb
    go_enter Try.func4, Try.ntmps4
    go_wp2_with (fail)
    refine HBG.out.mono ?_
    rintro e u ⟨rfl, hu⟩
    rw [hu]
    clear hu
    go_wp2_with (fail)
    go_ret
    exact ⟨rfl, Below.refl _ _⟩
  rw [decide_eq_false hx] at HBG
  have hl5 : len ≤ 5000 := by omega
  have BY := hid hb
  clear hb hx
  go_enter Try.func4, Try.ntmps4
  go_wp2_with (fail)
  refine HBG.out.mono ?_
  rintro e u ⟨rfl, hu⟩
  rw [hu]
  clear hu HBG
  go_wp2_with (fail)
  refine (drawSb ca len cap _ BY.out hl5).mono ?_
  rintro e w1 ⟨n, d, m, f, rfl, b1⟩
  have HB_0 := hid (b1)
  have BB_0 := hid (byi_below BY.out b1)
  clear b1 BY
  have bA : Below (w1).heap.size (w1) ((w1).alloc (.cells #[.int .i64 n, .int .i64 d] 25)) := (Below.refl _ _).alloc (Nat.le_refl _) _
  have HB_1 := hid (HB_0.out.trans (bA.mono HB_0.out.size))
  have BB_1 := hid (byi_below BB_0.out bA)
  clear HB_0 BB_0
  clear bA
  have NA_0 := hid (fb_new (w1) n d)
  have bA : Below (w1.alloc (.cells #[.int .i64 n, .int .i64 d] 25)).heap.size (w1.alloc (.cells #[.int .i64 n, .int .i64 d] 25)) ((w1.alloc (.cells #[.int .i64 n, .int .i64 d] 25)).alloc (.cells #[.int .i64 m, .int .i64 f] 25)) := (Below.refl _ _).alloc (Nat.le_refl _) _
  have HB_2 := hid (HB_1.out.trans (bA.mono HB_1.out.size))
  have BB_2 := hid (byi_below BB_1.out bA)
  have NA_2 := hid (fb_below NA_0.out bA)
  clear HB_1 BB_1 NA_0
  clear bA
  have NB_0 := hid (show FB _ (w1.heap.size + 1) m f by have h := fb_new (w1.alloc (.cells #[.int .i64 n, .int .i64 d] 25)) m f; rwa [World.size_alloc] at h)
  have C1 := hid (fun w1 => implSmp n d m f w1)
  have C2 := hid (fun w1 => specSmp n d m f w1)
  have HC := hid (fun x y h => smp_cmp (n := n) (d := d) (m := m) (f := f) (x := x) (y := y) h)
  have HN := hid (fun x y j h => smp_num (n := n) (d := d) (m := m) (f := f) (x := x) (y := y) (j := j) h)
  have HI := hid (fun x y h => smp_ok (n := n) (d := d) (m := m) (f := f) (x := x) (y := y) h)
  obtain ⟨t1, ht1⟩ : ∃ t1, t1 = smpT n d m f := ⟨_, rfl⟩
  generalize smpT n d m f = t1 at *
  obtain ⟨x0, x1, s1⟩ := t1
  dsimp only [tv] at C1 C2
  obtain ⟨z0a, z0b, _, _, _⟩ := fb_cells (NA_2.out)
  obtain ⟨z1a, z1b, _, _, _⟩ := fb_cells (NB_0.out)
  go_wp2_with (fail)
  clear z0a z0b z1a z1b
  refine (C1.out _).mono ?_
  rintro e w2 ⟨rfl, b2⟩
  have HB_3 := hid (HB_2.out.trans (b2.mono HB_2.out.size))
  have BB_3 := hid (byi_below BB_2.out b2)
  have NA_3 := hid (fb_below NA_2.out b2)
  have NB_3 := hid (fb_below NB_0.out b2)
  clear HB_2 BB_2 NA_2 NB_0
  clear b2
  have bA : Below (w2).heap.size (w2) ((w2).alloc (.cells #[.int .i64 x0, .int .i64 x1] 25)) := (Below.refl _ _).alloc (Nat.le_refl _) _
  have HB_4 := hid (HB_3.out.trans (bA.mono HB_3.out.size))
  have BB_4 := hid (byi_below BB_3.out bA)
  have NA_4 := hid (fb_below NA_3.out bA)
  have NB_4 := hid (fb_below NB_3.out bA)
  clear HB_3 BB_3 NA_3 NB_3
  clear bA
  have P1_0 := hid (fb_new (w2) x0 x1)
  obtain ⟨z0a, z0b, _, _, _⟩ := fb_cells (NA_4.out)
  obtain ⟨z1a, z1b, _, _, _⟩ := fb_cells (NB_4.out)
  go_wp2_with (fail)
  clear z0a z0b z1a z1b
  refine (C2.out _).mono ?_
  rintro e w3 ⟨rfl, b3⟩
  have HB_5 := hid (HB_4.out.trans (b3.mono HB_4.out.size))
  have BB_5 := hid (byi_below BB_4.out b3)
  have NA_5 := hid (fb_below NA_4.out b3)
  have NB_5 := hid (fb_below NB_4.out b3)
  have P1_5 := hid (fb_below P1_0.out b3)
  clear HB_4 BB_4 NA_4 NB_4 P1_0
  clear b3
  have bA : Below (w3).heap.size (w3) ((w3).alloc (.cells #[.int .i64 x0, .int .i64 x1] 25)) := (Below.refl _ _).alloc (Nat.le_refl _) _
  have HB_6 := hid (HB_5.out.trans (bA.mono HB_5.out.size))
  have BB_6 := hid (byi_below BB_5.out bA)
  have NA_6 := hid (fb_below NA_5.out bA)
  have NB_6 := hid (fb_below NB_5.out bA)
  have P1_6 := hid (fb_below P1_5.out bA)
  clear HB_5 BB_5 NA_5 NB_5 P1_5
  clear bA
  have P2_0 := hid (fb_new (w3) x0 x1)
  clear C1 C2
  go_wp2_with (fail)
  refine (drawCa ca len cap _ (BB_6.out) hl5).mono ?_
  rintro e w4 ⟨n2, d2, m2, f2, rfl, b4⟩
  have HB_7 := hid (HB_6.out.trans (b4.mono HB_6.out.size))
  have BB_7 := hid (byi_below BB_6.out b4)
  have NA_7 := hid (fb_below NA_6.out b4)
  have NB_7 := hid (fb_below NB_6.out b4)
  have P1_7 := hid (fb_below P1_6.out b4)
  have P2_7 := hid (fb_below P2_0.out b4)
  clear HB_6 BB_6 NA_6 NB_6 P1_6 P2_0
  clear b4
  have bA : Below (w4).heap.size (w4) ((w4).alloc (.cells #[.int .i64 n2, .int .i64 d2] 25)) := (Below.refl _ _).alloc (Nat.le_refl _) _
  have HB_8 := hid (HB_7.out.trans (bA.mono HB_7.out.size))
  have BB_8 := hid (byi_below BB_7.out bA)
  have NA_8 := hid (fb_below NA_7.out bA)
  have NB_8 := hid (fb_below NB_7.out bA)
  have P1_8 := hid (fb_below P1_7.out bA)
  have P2_8 := hid (fb_below P2_7.out bA)
  clear HB_7 BB_7 NA_7 NB_7 P1_7 P2_7
  clear bA
  have NC_0 := hid (fb_new (w4) n2 d2)
  have bA : Below (w4.alloc (.cells #[.int .i64 n2, .int .i64 d2] 25)).heap.size (w4.alloc (.cells #[.int .i64 n2, .int .i64 d2] 25)) ((w4.alloc (.cells #[.int .i64 n2, .int .i64 d2] 25)).alloc (.cells #[.int .i64 m2, .int .i64 f2] 25)) := (Below.refl _ _).alloc (Nat.le_refl _) _
  have HB_9 := hid (HB_8.out.trans (bA.mono HB_8.out.size))
  have BB_9 := hid (byi_below BB_8.out bA)
  have NA_9 := hid (fb_below NA_8.out bA)
  have NB_9 := hid (fb_below NB_8.out bA)
  have P1_9 := hid (fb_below P1_8.out bA)
  have P2_9 := hid (fb_below P2_8.out bA)
  have NC_9 := hid (fb_below NC_0.out bA)
  clear HB_8 BB_8 NA_8 NB_8 P1_8 P2_8 NC_0
  clear bA
  have ND_0 := hid (show FB _ (w4.heap.size + 1) m2 f2 by have h := fb_new (w4.alloc (.cells #[.int .i64 n2, .int .i64 d2] 25)) m2 f2; rwa [World.size_alloc] at h)
  have C1 := hid (fun w1 => implCan n2 d2 m2 f2 w1)
  have C2 := hid (fun w1 => specCan n2 d2 m2 f2 w1)
  have HG := hid (fun x y h => com_again (n := n2) (d := d2) (m := m2) (f := f2) (x := x) (y := y) h)
  generalize comT n2 d2 m2 f2 = t2 at *
  obtain ⟨y0, y1, s2⟩ := t2
  dsimp only [tv] at C1 C2
  obtain ⟨z0a, z0b, _, _, _⟩ := fb_cells (NC_9.out)
  obtain ⟨z1a, z1b, _, _, _⟩ := fb_cells (ND_0.out)
  go_wp2_with (fail)
  clear z0a z0b z1a z1b
  refine (C1.out _).mono ?_
  rintro e w5 ⟨rfl, b5⟩
  have HB_10 := hid (HB_9.out.trans (b5.mono HB_9.out.size))
  have BB_10 := hid (byi_below BB_9.out b5)
  have NA_10 := hid (fb_below NA_9.out b5)
  have NB_10 := hid (fb_below NB_9.out b5)
  have P1_10 := hid (fb_below P1_9.out b5)
  have P2_10 := hid (fb_below P2_9.out b5)
  have NC_10 := hid (fb_below NC_9.out b5)
  have ND_10 := hid (fb_below ND_0.out b5)
  clear HB_9 BB_9 NA_9 NB_9 P1_9 P2_9 NC_9 ND_0
  clear b5
  have bA : Below (w5).heap.size (w5) ((w5).alloc (.cells #[.int .i64 y0, .int .i64 y1] 25)) := (Below.refl _ _).alloc (Nat.le_refl _) _
  have HB_11 := hid (HB_10.out.trans (bA.mono HB_10.out.size))
  have BB_11 := hid (byi_below BB_10.out bA)
  have NA_11 := hid (fb_below NA_10.out bA)
  have NB_11 := hid (fb_below NB_10.out bA)
  have P1_11 := hid (fb_below P1_10.out bA)
  have P2_11 := hid (fb_below P2_10.out bA)
  have NC_11 := hid (fb_below NC_10.out bA)
  have ND_11 := hid (fb_below ND_10.out bA)
  clear HB_10 BB_10 NA_10 NB_10 P1_10 P2_10 NC_10 ND_10
  clear bA
  have P3_0 := hid (fb_new (w5) y0 y1)
  obtain ⟨z0a, z0b, _, _, _⟩ := fb_cells (NC_11.out)
  obtain ⟨z1a, z1b, _, _, _⟩ := fb_cells (ND_11.out)
  go_wp2_with (fail)
  clear z0a z0b z1a z1b
  refine (C2.out _).mono ?_
  rintro e w6 ⟨rfl, b6⟩
  have HB_12 := hid (HB_11.out.trans (b6.mono HB_11.out.size))
  have BB_12 := hid (byi_below BB_11.out b6)
  have NA_12 := hid (fb_below NA_11.out b6)
  have NB_12 := hid (fb_below NB_11.out b6)
  have P1_12 := hid (fb_below P1_11.out b6)
  have P2_12 := hid (fb_below P2_11.out b6)
  have NC_12 := hid (fb_below NC_11.out b6)
  have ND_12 := hid (fb_below ND_11.out b6)
  have P3_12 := hid (fb_below P3_0.out b6)
  clear HB_11 BB_11 NA_11 NB_11 P1_11 P2_11 NC_11 ND_11 P3_0
  clear b6
  have bA : Below (w6).heap.size (w6) ((w6).alloc (.cells #[.int .i64 y0, .int .i64 y1] 25)) := (Below.refl _ _).alloc (Nat.le_refl _) _
  have HB_13 := hid (HB_12.out.trans (bA.mono HB_12.out.size))
  have BB_13 := hid (byi_below BB_12.out bA)
  have NA_13 := hid (fb_below NA_12.out bA)
  have NB_13 := hid (fb_below NB_12.out bA)
  have P1_13 := hid (fb_below P1_12.out bA)
  have P2_13 := hid (fb_below P2_12.out bA)
  have NC_13 := hid (fb_below NC_12.out bA)
  have ND_13 := hid (fb_below ND_12.out bA)
  have P3_13 := hid (fb_below P3_12.out bA)
  clear HB_12 BB_12 NA_12 NB_12 P1_12 P2_12 NC_12 ND_12 P3_12
  clear bA
  have P4_0 := hid (fb_new (w6) y0 y1)
  clear C1 C2
  go_wp2_with (fail)
  refine (drawIs ca len cap _ (BB_13.out) hl5).mono ?_
  rintro e w7 ⟨n3, d3, m3, f3, rfl, b7⟩
  have HB_14 := hid (HB_13.out.trans (b7.mono HB_13.out.size))
  have BB_14 := hid (byi_below BB_13.out b7)
  have NA_14 := hid (fb_below NA_13.out b7)
  have NB_14 := hid (fb_below NB_13.out b7)
  have P1_14 := hid (fb_below P1_13.out b7)
  have P2_14 := hid (fb_below P2_13.out b7)
  have NC_14 := hid (fb_below NC_13.out b7)
  have ND_14 := hid (fb_below ND_13.out b7)
  have P3_14 := hid (fb_below P3_13.out b7)
  have P4_14 := hid (fb_below P4_0.out b7)
  clear HB_13 BB_13 NA_13 NB_13 P1_13 P2_13 NC_13 ND_13 P3_13 P4_0
  clear b7
  have bA : Below (w7).heap.size (w7) ((w7).alloc (.cells #[.int .i64 n3, .int .i64 d3] 25)) := (Below.refl _ _).alloc (Nat.le_refl _) _
  have HB_15 := hid (HB_14.out.trans (bA.mono HB_14.out.size))
  have BB_15 := hid (byi_below BB_14.out bA)
  have NA_15 := hid (fb_below NA_14.out bA)
  have NB_15 := hid (fb_below NB_14.out bA)
  have P1_15 := hid (fb_below P1_14.out bA)
  have P2_15 := hid (fb_below P2_14.out bA)
  have NC_15 := hid (fb_below NC_14.out bA)
  have ND_15 := hid (fb_below ND_14.out bA)
  have P3_15 := hid (fb_below P3_14.out bA)
  have P4_15 := hid (fb_below P4_14.out bA)
  clear HB_14 BB_14 NA_14 NB_14 P1_14 P2_14 NC_14 ND_14 P3_14 P4_14
  clear bA
  have NE_0 := hid (fb_new (w7) n3 d3)
  have bA : Below (w7.alloc (.cells #[.int .i64 n3, .int .i64 d3] 25)).heap.size (w7.alloc (.cells #[.int .i64 n3, .int .i64 d3] 25)) ((w7.alloc (.cells #[.int .i64 n3, .int .i64 d3] 25)).alloc (.cells #[.int .i64 m3, .int .i64 f3] 25)) := (Below.refl _ _).alloc (Nat.le_refl _) _
  have HB_16 := hid (HB_15.out.trans (bA.mono HB_15.out.size))
  have BB_16 := hid (byi_below BB_15.out bA)
  have NA_16 := hid (fb_below NA_15.out bA)
  have NB_16 := hid (fb_below NB_15.out bA)
  have P1_16 := hid (fb_below P1_15.out bA)
  have P2_16 := hid (fb_below P2_15.out bA)
  have NC_16 := hid (fb_below NC_15.out bA)
  have ND_16 := hid (fb_below ND_15.out bA)
  have P3_16 := hid (fb_below P3_15.out bA)
  have P4_16 := hid (fb_below P4_15.out bA)
  have NE_16 := hid (fb_below NE_0.out bA)
  clear HB_15 BB_15 NA_15 NB_15 P1_15 P2_15 NC_15 ND_15 P3_15 P4_15 NE_0
  clear bA
  have NF_0 := hid (show FB _ (w7.heap.size + 1) m3 f3 by have h := fb_new (w7.alloc (.cells #[.int .i64 n3, .int .i64 d3] 25)) m3 f3; rwa [World.size_alloc] at h)
  have C1 := hid (fun w1 => implIsa n3 d3 m3 f3 w1)
  have C2 := hid (fun w1 => specIsa n3 d3 m3 f3 w1)
  generalize isaT n3 d3 m3 f3 = t3 at *
  obtain ⟨ib, s3⟩ := t3
  dsimp only at C1 C2
  obtain ⟨z0a, z0b, _, _, _⟩ := fb_cells (NE_16.out)
  obtain ⟨z1a, z1b, _, _, _⟩ := fb_cells (NF_0.out)
  go_wp2_with (fail)
  clear z0a z0b z1a z1b
  refine (C1.out _).mono ?_
  rintro e w8 ⟨rfl, b8⟩
  have HB_17 := hid (HB_16.out.trans (b8.mono HB_16.out.size))
  have BB_17 := hid (byi_below BB_16.out b8)
  have NA_17 := hid (fb_below NA_16.out b8)
  have NB_17 := hid (fb_below NB_16.out b8)
  have P1_17 := hid (fb_below P1_16.out b8)
  have P2_17 := hid (fb_below P2_16.out b8)
  have NC_17 := hid (fb_below NC_16.out b8)
  have ND_17 := hid (fb_below ND_16.out b8)
  have P3_17 := hid (fb_below P3_16.out b8)
  have P4_17 := hid (fb_below P4_16.out b8)
  have NE_17 := hid (fb_below NE_16.out b8)
  have NF_17 := hid (fb_below NF_0.out b8)
  clear HB_16 BB_16 NA_16 NB_16 P1_16 P2_16 NC_16 ND_16 P3_16 P4_16 NE_16 NF_0
  clear b8
  obtain ⟨z0a, z0b, _, _, _⟩ := fb_cells (NE_17.out)
  obtain ⟨z1a, z1b, _, _, _⟩ := fb_cells (NF_17.out)
  go_wp2_with (fail)
  clear z0a z0b z1a z1b
  refine (C2.out _).mono ?_
  rintro e w9 ⟨rfl, b9⟩
  have HB_18 := hid (HB_17.out.trans (b9.mono HB_17.out.size))
  have BB_18 := hid (byi_below BB_17.out b9)
  have NA_18 := hid (fb_below NA_17.out b9)
  have NB_18 := hid (fb_below NB_17.out b9)
  have P1_18 := hid (fb_below P1_17.out b9)
  have P2_18 := hid (fb_below P2_17.out b9)
  have NC_18 := hid (fb_below NC_17.out b9)
  have ND_18 := hid (fb_below ND_17.out b9)
  have P3_18 := hid (fb_below P3_17.out b9)
  have P4_18 := hid (fb_below P4_17.out b9)
  have NE_18 := hid (fb_below NE_17.out b9)
  have NF_18 := hid (fb_below NF_17.out b9)
  clear HB_17 BB_17 NA_17 NB_17 P1_17 P2_17 NC_17 ND_17 P3_17 P4_17 NE_17 NF_17
  clear b9
  clear C1 C2
  go_wp2_with (fail)
  refine (drawBo ca len cap _ (BB_18.out) hl5).mono ?_
  rintro e w10 ⟨n4, d4, rfl, b10⟩
  have HB_19 := hid (HB_18.out.trans (b10.mono HB_18.out.size))
  have BB_19 := hid (byi_below BB_18.out b10)
  have NA_19 := hid (fb_below NA_18.out b10)
  have NB_19 := hid (fb_below NB_18.out b10)
  have P1_19 := hid (fb_below P1_18.out b10)
  have P2_19 := hid (fb_below P2_18.out b10)
  have NC_19 := hid (fb_below NC_18.out b10)
  have ND_19 := hid (fb_below ND_18.out b10)
  have P3_19 := hid (fb_below P3_18.out b10)
  have P4_19 := hid (fb_below P4_18.out b10)
  have NE_19 := hid (fb_below NE_18.out b10)
  have NF_19 := hid (fb_below NF_18.out b10)
  clear HB_18 BB_18 NA_18 NB_18 P1_18 P2_18 NC_18 ND_18 P3_18 P4_18 NE_18 NF_18
  clear b10
  have bA : Below (w10).heap.size (w10) ((w10).alloc (.cells #[.int .i64 n4, .int .i64 d4] 25)) := (Below.refl _ _).alloc (Nat.le_refl _) _
  have HB_20 := hid (HB_19.out.trans (bA.mono HB_19.out.size))
  have BB_20 := hid (byi_below BB_19.out bA)
  have NA_20 := hid (fb_below NA_19.out bA)
  have NB_20 := hid (fb_below NB_19.out bA)
  have P1_20 := hid (fb_below P1_19.out bA)
  have P2_20 := hid (fb_below P2_19.out bA)
  have NC_20 := hid (fb_below NC_19.out bA)
  have ND_20 := hid (fb_below ND_19.out bA)
  have P3_20 := hid (fb_below P3_19.out bA)
  have P4_20 := hid (fb_below P4_19.out bA)
  have NE_20 := hid (fb_below NE_19.out bA)
  have NF_20 := hid (fb_below NF_19.out bA)
  clear HB_19 BB_19 NA_19 NB_19 P1_19 P2_19 NC_19 ND_19 P3_19 P4_19 NE_19 NF_19
  clear bA
  have NG_0 := hid (fb_new (w10) n4 d4)
  have C1 := hid (fun w1 => implBounds n4 d4 w1)
  have C2 := hid (fun w1 => specBounds n4 d4 w1)
  have HBF := hid (fun p q r t h => bds_fin (n := n4) (d := d4) (p := p) (q := q) (r := r) (t := t) h)
  generalize bdsT n4 d4 = t4 at *
  obtain ⟨g0, g1, g2, g3, s4⟩ := t4
  dsimp only [v5] at C1 C2
  obtain ⟨z0a, z0b, _, _, _⟩ := fb_cells (NG_0.out)
  go_wp2_with (fail)
  clear z0a z0b
  refine (C1.out _).mono ?_
  rintro e w11 ⟨rfl, b11⟩
  have HB_21 := hid (HB_20.out.trans (b11.mono HB_20.out.size))
  have BB_21 := hid (byi_below BB_20.out b11)
  have NA_21 := hid (fb_below NA_20.out b11)
  have NB_21 := hid (fb_below NB_20.out b11)
  have P1_21 := hid (fb_below P1_20.out b11)
  have P2_21 := hid (fb_below P2_20.out b11)
  have NC_21 := hid (fb_below NC_20.out b11)
  have ND_21 := hid (fb_below ND_20.out b11)
  have P3_21 := hid (fb_below P3_20.out b11)
  have P4_21 := hid (fb_below P4_20.out b11)
  have NE_21 := hid (fb_below NE_20.out b11)
  have NF_21 := hid (fb_below NF_20.out b11)
  have NG_21 := hid (fb_below NG_0.out b11)
  clear HB_20 BB_20 NA_20 NB_20 P1_20 P2_20 NC_20 ND_20 P3_20 P4_20 NE_20 NF_20 NG_0
  clear b11
  obtain ⟨z0a, z0b, _, _, _⟩ := fb_cells (NG_21.out)
  go_wp2_with (fail)
  clear z0a z0b
  refine (C2.out _).mono ?_
  rintro e w12 ⟨rfl, b12⟩
  have HB_22 := hid (HB_21.out.trans (b12.mono HB_21.out.size))
  have BB_22 := hid (byi_below BB_21.out b12)
  have NA_22 := hid (fb_below NA_21.out b12)
  have NB_22 := hid (fb_below NB_21.out b12)
  have P1_22 := hid (fb_below P1_21.out b12)
  have P2_22 := hid (fb_below P2_21.out b12)
  have NC_22 := hid (fb_below NC_21.out b12)
  have ND_22 := hid (fb_below ND_21.out b12)
  have P3_22 := hid (fb_below P3_21.out b12)
  have P4_22 := hid (fb_below P4_21.out b12)
  have NE_22 := hid (fb_below NE_21.out b12)
  have NF_22 := hid (fb_below NF_21.out b12)
  have NG_22 := hid (fb_below NG_21.out b12)
  clear HB_21 BB_21 NA_21 NB_21 P1_21 P2_21 NC_21 ND_21 P3_21 P4_21 NE_21 NF_21 NG_21
  clear b12
  clear C1 C2
  have ne_s1 : (s1 != s1) = false := by simp
  have eq_s1 : (s1 == s1) = true := by simp
  have ne_s2 : (s2 != s2) = false := by simp
  have eq_s2 : (s2 == s2) = true := by simp
  have ne_s3 : (s3 != s3) = false := by simp
  have eq_s3 : (s3 == s3) = true := by simp
  have ne_s4 : (s4 != s4) = false := by simp
  have eq_s4 : (s4 == s4) = true := by simp
  have ne_x0 : (x0 != x0) = false := by simp
  have eq_x0 : (x0 == x0) = true := by simp
  have ne_x1 : (x1 != x1) = false := by simp
  have eq_x1 : (x1 == x1) = true := by simp
  have ne_y0 : (y0 != y0) = false := by simp
  have eq_y0 : (y0 == y0) = true := by simp
  have ne_y1 : (y1 != y1) = false := by simp
  have eq_y1 : (y1 == y1) = true := by simp
  have ne_g0 : (g0 != g0) = false := by simp
  have eq_g0 : (g0 == g0) = true := by simp
  have ne_g1 : (g1 != g1) = false := by simp
  have eq_g1 : (g1 == g1) = true := by simp
  have ne_g2 : (g2 != g2) = false := by simp
  have eq_g2 : (g2 == g2) = true := by simp
  have ne_g3 : (g3 != g3) = false := by simp
  have eq_g3 : (g3 == g3) = true := by simp
  have ne_ib : (ib != ib) = false := by cases ib <;> rfl
  obtain ⟨y0a, y0b, _, _, _⟩ := fb_cells (P1_22.out)
  obtain ⟨y1a, y1b, _, _, _⟩ := fb_cells (P2_22.out)
  obtain ⟨y2a, y2b, _, _, _⟩ := fb_cells (P3_22.out)
  obtain ⟨y3a, y3b, _, _, _⟩ := fb_cells (P4_22.out)
  by_cases h_s4 : s4 = 0
  case pos =>
    subst h_s4
    obtain ⟨⟨hb1, hb2, hb3⟩, ⟨p1, p2⟩, ⟨p3, p4⟩, ⟨p5, p6⟩, ⟨p7, p8⟩, ⟨m1, m2⟩, ⟨m3, m4⟩⟩ := HBF.out g0 g1 g2 g3 rfl
    have nb1 : (g0 + g2 != n4) = false := by simpa using hb1
    have nb2 : (g1 + g3 != d4) = false := by simpa using hb2
    have nb3 : (g2 * g1 - g0 * g3 != 1) = false := by simpa using hb3
    obtain ⟨q0a, q0b, _, _, _⟩ := fb_cells (NG_22.out)
    by_cases h_s2 : s2 = 0
    case pos =>
      subst h_s2
      have hg := HG.out y0 y1 rfl
      have C1 := hid (fun w1 => implCan y0 y1 n2 d2 w1)
      rw [hg] at C1
      dsimp only [tv] at C1
      clear hg
      obtain ⟨u0a, u0b, _, _, _⟩ := fb_cells (NC_22.out)
      go_wp2_with (fail)
      clear u0a u0b
      clear y0a y0b y1a y1b y2a y2b y3a y3b
      try clear ne_s1 eq_s1
      try clear ne_s2 eq_s2
      try clear ne_s3 eq_s3
      try clear ne_s4 eq_s4
      try clear ne_x0 eq_x0
      try clear ne_x1 eq_x1
      try clear ne_y0 eq_y0
      try clear ne_y1 eq_y1
      try clear ne_g0 eq_g0
      try clear ne_g1 eq_g1
      try clear ne_g2 eq_g2
      try clear ne_g3 eq_g3
      clear ne_ib
      refine (C1.out _).mono ?_
      rintro e w31 ⟨rfl, b31⟩
      have HB_23 := hid (HB_22.out.trans (b31.mono HB_22.out.size))
      have BB_23 := hid (byi_below BB_22.out b31)
      have NA_23 := hid (fb_below NA_22.out b31)
      have NB_23 := hid (fb_below NB_22.out b31)
      have P1_23 := hid (fb_below P1_22.out b31)
      have P2_23 := hid (fb_below P2_22.out b31)
      have NC_23 := hid (fb_below NC_22.out b31)
      have ND_23 := hid (fb_below ND_22.out b31)
      have P3_23 := hid (fb_below P3_22.out b31)
      have P4_23 := hid (fb_below P4_22.out b31)
      have NE_23 := hid (fb_below NE_22.out b31)
      have NF_23 := hid (fb_below NF_22.out b31)
      have NG_23 := hid (fb_below NG_22.out b31)
      clear HB_22 BB_22 NA_22 NB_22 P1_22 P2_22 NC_22 ND_22 P3_22 P4_22 NE_22 NF_22 NG_22
      clear b31 C1
      have bA : Below (w31).heap.size (w31) ((w31).alloc (.cells #[.int .i64 y0, .int .i64 y1] 25)) := (Below.refl _ _).alloc (Nat.le_refl _) _
      have HB_24 := hid (HB_23.out.trans (bA.mono HB_23.out.size))
      have BB_24 := hid (byi_below BB_23.out bA)
      have NA_24 := hid (fb_below NA_23.out bA)
      have NB_24 := hid (fb_below NB_23.out bA)
      have P1_24 := hid (fb_below P1_23.out bA)
      have P2_24 := hid (fb_below P2_23.out bA)
      have NC_24 := hid (fb_below NC_23.out bA)
      have ND_24 := hid (fb_below ND_23.out bA)
      have P3_24 := hid (fb_below P3_23.out bA)
      have P4_24 := hid (fb_below P4_23.out bA)
      have NE_24 := hid (fb_below NE_23.out bA)
      have NF_24 := hid (fb_below NF_23.out bA)
      have NG_24 := hid (fb_below NG_23.out bA)
      clear HB_23 BB_23 NA_23 NB_23 P1_23 P2_23 NC_23 ND_23 P3_23 P4_23 NE_23 NF_23 NG_23
      clear bA
      have Q1_0 := hid (fb_new (w31) y0 y1)
      have ne_y0 : (y0 != y0) = false := by simp
      have ne_y1 : (y1 != y1) = false := by simp
      have eq_y0 : (y0 == y0) = true := by simp
      have eq_y1 : (y1 == y1) = true := by simp
      obtain ⟨v0a, v0b, _, _, _⟩ := fb_cells (Q1_0.out)
      obtain ⟨v1a, v1b, _, _, _⟩ := fb_cells (P3_24.out)
      clear Q1_0
      by_cases h_s1 : s1 = 0
      case pos =>
        subst h_s1
        obtain ⟨hc1, hc2, hc3⟩ := HC.out x0 x1 rfl
        obtain ⟨ok1, ok2, ok3⟩ := HI.out x0 x1 rfl
        obtain ⟨d1, d2, n1, n2b⟩ := ok_bounds ok1
        obtain ⟨d3b, d4b, n3b, n4b⟩ := ok_bounds ok2
        obtain ⟨d5, d6, n5, n6⟩ := ok_bounds ok3
        have C1 := hid (fun w1 => implCompare n d x0 x1 w1)
        have C2 := hid (fun w1 => implCompare x0 x1 m f w1)
        have C3 := hid (fun w1 => implFloor n d w1)
        rw [hc1] at C1
        rw [hc2] at C2
        rw [hc3] at C3
        dsimp only at C1 C2 C3
        clear hc1 hc2 hc3 ok1 ok2 ok3 HC HI
        have HNU := hid (fun j => HN.out x0 x1 j rfl)
        clear HN
        obtain ⟨u0a, u0b, _, _, _⟩ := fb_cells (NA_24.out)
        obtain ⟨u1a, u1b, _, _, _⟩ := fb_cells (P1_24.out)
        go_wp2_with (fail)
        clear u0a u0b u1a u1b
        refine (C1.out _).mono ?_
        rintro e w32 ⟨rfl, b32⟩
        have HB_25 := hid (HB_24.out.trans (b32.mono HB_24.out.size))
        have BB_25 := hid (byi_below BB_24.out b32)
        have NA_25 := hid (fb_below NA_24.out b32)
        have NB_25 := hid (fb_below NB_24.out b32)
        have P1_25 := hid (fb_below P1_24.out b32)
        have P2_25 := hid (fb_below P2_24.out b32)
        have NC_25 := hid (fb_below NC_24.out b32)
        have ND_25 := hid (fb_below ND_24.out b32)
        have P3_25 := hid (fb_below P3_24.out b32)
        have P4_25 := hid (fb_below P4_24.out b32)
        have NE_25 := hid (fb_below NE_24.out b32)
        have NF_25 := hid (fb_below NF_24.out b32)
        have NG_25 := hid (fb_below NG_24.out b32)
        clear HB_24 BB_24 NA_24 NB_24 P1_24 P2_24 NC_24 ND_24 P3_24 P4_24 NE_24 NF_24 NG_24
        clear b32 C1
        obtain ⟨u0a, u0b, _, _, _⟩ := fb_cells (P1_25.out)
        obtain ⟨u1a, u1b, _, _, _⟩ := fb_cells (NB_25.out)
        go_wp2_with (fail)
        clear u0a u0b u1a u1b
        refine (C2.out _).mono ?_
        rintro e w33 ⟨rfl, b33⟩
        have HB_26 := hid (HB_25.out.trans (b33.mono HB_25.out.size))
        have BB_26 := hid (byi_below BB_25.out b33)
        have NA_26 := hid (fb_below NA_25.out b33)
        have NB_26 := hid (fb_below NB_25.out b33)
        have P1_26 := hid (fb_below P1_25.out b33)
        have P2_26 := hid (fb_below P2_25.out b33)
        have NC_26 := hid (fb_below NC_25.out b33)
        have ND_26 := hid (fb_below ND_25.out b33)
        have P3_26 := hid (fb_below P3_25.out b33)
        have P4_26 := hid (fb_below P4_25.out b33)
        have NE_26 := hid (fb_below NE_25.out b33)
        have NF_26 := hid (fb_below NF_25.out b33)
        have NG_26 := hid (fb_below NG_25.out b33)
        clear HB_25 BB_25 NA_25 NB_25 P1_25 P2_25 NC_25 ND_25 P3_25 P4_25 NE_25 NF_25 NG_25
        clear b33 C2
        go_wp2_with (fail)
        go_loopw [38, 39, 40, 41] (fun i u39 u40 u41 wr => ∃ k : Nat, i = .int .i64 (k + 1) ∧ k ≤ 199 ∧ (k : Int) + 1 ≤ x1 ∧ Below w33.heap.size w33 wr) (fun i _ _ _ _ => 302 - (RowKit.intOf i).toNat)
        case atStart => exact ⟨0, rfl, by omega, by omega, Below.refl _ _⟩
        case round =>
          obtain ⟨k, rfl, hk, hkx, hbel⟩ := hrel
          have hk0 : (0 : Int) ≤ (k : Int) := by omega
          have HBEL := hid hbel
          have HB_27 := hid (HB_26.out.trans (hbel.mono HB_26.out.size))
          have BB_27 := hid (byi_below BB_26.out hbel)
          have NA_27 := hid (fb_below NA_26.out hbel)
          have NB_27 := hid (fb_below NB_26.out hbel)
          have P1_27 := hid (fb_below P1_26.out hbel)
          have P2_27 := hid (fb_below P2_26.out hbel)
          have NC_27 := hid (fb_below NC_26.out hbel)
          have ND_27 := hid (fb_below ND_26.out hbel)
          have P3_27 := hid (fb_below P3_26.out hbel)
          have P4_27 := hid (fb_below P4_26.out hbel)
          have NE_27 := hid (fb_below NE_26.out hbel)
          have NF_27 := hid (fb_below NF_26.out hbel)
          have NG_27 := hid (fb_below NG_26.out hbel)
          clear HB_26 BB_26 NA_26 NB_26 P1_26 P2_26 NC_26 ND_26 P3_26 P4_26 NE_26 NF_26 NG_26
          clear hbel
          by_cases hlt : (k : Int) + 1 < x1
          case neg =>
            obtain ⟨u0a, u0b, _, _, _⟩ := fb_cells (P1_27.out)
            go_wp2_with (fail)
            go_ret
            exact ⟨rfl, HB_27.out⟩
          by_cases hlt2 : (k : Int) + 1 < 200
          case neg =>
            obtain ⟨u0a, u0b, _, _, _⟩ := fb_cells (P1_27.out)
            go_wp2_with (fail)
            go_ret
            exact ⟨rfl, HB_27.out⟩
          obtain ⟨⟨q1, q2⟩, ⟨q3, q4⟩, ⟨q5, q6⟩, ⟨q7, q8⟩, ⟨q9, q10⟩, ⟨q11, q12⟩, ⟨q13, q14⟩, ⟨q15, q16⟩, q17⟩ := HNU.out ((k : Int) + 1) (by omega) hlt (by omega)
          obtain ⟨u0a, u0b, _, _, _⟩ := fb_cells (P1_27.out)
          obtain ⟨u1a, u1b, _, _, _⟩ := fb_cells (NA_27.out)
          go_wp2_with (fail)
          clear u0a u0b u1a u1b
          refine (C3.out _).mono ?_
          rintro e w34 ⟨rfl, b34⟩
          have HB_28 := hid (HB_27.out.trans (b34.mono HB_27.out.size))
          have BB_28 := hid (byi_below BB_27.out b34)
          have NA_28 := hid (fb_below NA_27.out b34)
          have NB_28 := hid (fb_below NB_27.out b34)
          have P1_28 := hid (fb_below P1_27.out b34)
          have P2_28 := hid (fb_below P2_27.out b34)
          have NC_28 := hid (fb_below NC_27.out b34)
          have ND_28 := hid (fb_below ND_27.out b34)
          have P3_28 := hid (fb_below P3_27.out b34)
          have P4_28 := hid (fb_below P4_27.out b34)
          have NE_28 := hid (fb_below NE_27.out b34)
          have NF_28 := hid (fb_below NF_27.out b34)
          have NG_28 := hid (fb_below NG_27.out b34)
          clear HB_27 BB_27 NA_27 NB_27 P1_27 P2_27 NC_27 ND_27 P3_27 P4_27 NE_27 NF_27 NG_27
          have HBK := hid (HBEL.out.trans (b34.mono HBEL.out.size))
          clear b34
          obtain ⟨u0a, u0b, _, _, _⟩ := fb_cells (NB_28.out)
          obtain ⟨u1a, u1b, _, _, _⟩ := fb_cells (NA_28.out)
          go_wp2_with (fail)
          go_roundw
          case rel => exact ⟨k + 1, by go_num, by omega, by omega, HBK.out⟩
          case measure => simp [RowKit.intOf]; omega
      case neg =>
        have hb_s1 : (s1 == 0) = false := by simpa using h_s1
        have hc_s1 : (s1 != 0) = true := by simpa using h_s1
        clear h_s1
        go_wp2_with (fail)
        go_ret
        exact ⟨rfl, HB_24.out⟩
    case neg =>
      have hb_s2 : (s2 == 0) = false := by simpa using h_s2
      have hc_s2 : (s2 != 0) = true := by simpa using h_s2
      clear h_s2
      by_cases h_s1 : s1 = 0
      case pos =>
        subst h_s1
        obtain ⟨hc1, hc2, hc3⟩ := HC.out x0 x1 rfl
        obtain ⟨ok1, ok2, ok3⟩ := HI.out x0 x1 rfl
        obtain ⟨d1, d2, n1, n2b⟩ := ok_bounds ok1
        obtain ⟨d3b, d4b, n3b, n4b⟩ := ok_bounds ok2
        obtain ⟨d5, d6, n5, n6⟩ := ok_bounds ok3
        have C1 := hid (fun w1 => implCompare n d x0 x1 w1)
        have C2 := hid (fun w1 => implCompare x0 x1 m f w1)
        have C3 := hid (fun w1 => implFloor n d w1)
        rw [hc1] at C1
        rw [hc2] at C2
        rw [hc3] at C3
        dsimp only at C1 C2 C3
        clear hc1 hc2 hc3 ok1 ok2 ok3 HC HI
        have HNU := hid (fun j => HN.out x0 x1 j rfl)
        clear HN
        obtain ⟨u0a, u0b, _, _, _⟩ := fb_cells (NA_22.out)
        obtain ⟨u1a, u1b, _, _, _⟩ := fb_cells (P1_22.out)
        go_wp2_with (fail)
        clear u0a u0b u1a u1b
        refine (C1.out _).mono ?_
        rintro e w35 ⟨rfl, b35⟩
        have HB_29 := hid (HB_22.out.trans (b35.mono HB_22.out.size))
        have BB_29 := hid (byi_below BB_22.out b35)
        have NA_29 := hid (fb_below NA_22.out b35)
        have NB_29 := hid (fb_below NB_22.out b35)
        have P1_29 := hid (fb_below P1_22.out b35)
        have P2_29 := hid (fb_below P2_22.out b35)
        have NC_29 := hid (fb_below NC_22.out b35)
        have ND_29 := hid (fb_below ND_22.out b35)
        have P3_29 := hid (fb_below P3_22.out b35)
        have P4_29 := hid (fb_below P4_22.out b35)
        have NE_29 := hid (fb_below NE_22.out b35)
        have NF_29 := hid (fb_below NF_22.out b35)
        have NG_29 := hid (fb_below NG_22.out b35)
        clear HB_22 BB_22 NA_22 NB_22 P1_22 P2_22 NC_22 ND_22 P3_22 P4_22 NE_22 NF_22 NG_22
        clear b35 C1
        obtain ⟨u0a, u0b, _, _, _⟩ := fb_cells (P1_29.out)
        obtain ⟨u1a, u1b, _, _, _⟩ := fb_cells (NB_29.out)
        go_wp2_with (fail)
        clear u0a u0b u1a u1b
        refine (C2.out _).mono ?_
        rintro e w36 ⟨rfl, b36⟩
        have HB_30 := hid (HB_29.out.trans (b36.mono HB_29.out.size))
        have BB_30 := hid (byi_below BB_29.out b36)
        have NA_30 := hid (fb_below NA_29.out b36)
        have NB_30 := hid (fb_below NB_29.out b36)
        have P1_30 := hid (fb_below P1_29.out b36)
        have P2_30 := hid (fb_below P2_29.out b36)
        have NC_30 := hid (fb_below NC_29.out b36)
        have ND_30 := hid (fb_below ND_29.out b36)
        have P3_30 := hid (fb_below P3_29.out b36)
        have P4_30 := hid (fb_below P4_29.out b36)
        have NE_30 := hid (fb_below NE_29.out b36)
        have NF_30 := hid (fb_below NF_29.out b36)
        have NG_30 := hid (fb_below NG_29.out b36)
        clear HB_29 BB_29 NA_29 NB_29 P1_29 P2_29 NC_29 ND_29 P3_29 P4_29 NE_29 NF_29 NG_29
        clear b36 C2
        go_wp2_with (fail)
        go_loopw [38, 39, 40, 41] (fun i u39 u40 u41 wr => ∃ k : Nat, i = .int .i64 (k + 1) ∧ k ≤ 199 ∧ (k : Int) + 1 ≤ x1 ∧ Below w36.heap.size w36 wr) (fun i _ _ _ _ => 302 - (RowKit.intOf i).toNat)
        case atStart => exact ⟨0, rfl, by omega, by omega, Below.refl _ _⟩
        case round =>
          obtain ⟨k, rfl, hk, hkx, hbel⟩ := hrel
          have hk0 : (0 : Int) ≤ (k : Int) := by omega
          have HBEL := hid hbel
          have HB_31 := hid (HB_30.out.trans (hbel.mono HB_30.out.size))
          have BB_31 := hid (byi_below BB_30.out hbel)
          have NA_31 := hid (fb_below NA_30.out hbel)
          have NB_31 := hid (fb_below NB_30.out hbel)
          have P1_31 := hid (fb_below P1_30.out hbel)
          have P2_31 := hid (fb_below P2_30.out hbel)
          have NC_31 := hid (fb_below NC_30.out hbel)
          have ND_31 := hid (fb_below ND_30.out hbel)
          have P3_31 := hid (fb_below P3_30.out hbel)
          have P4_31 := hid (fb_below P4_30.out hbel)
          have NE_31 := hid (fb_below NE_30.out hbel)
          have NF_31 := hid (fb_below NF_30.out hbel)
          have NG_31 := hid (fb_below NG_30.out hbel)
          clear HB_30 BB_30 NA_30 NB_30 P1_30 P2_30 NC_30 ND_30 P3_30 P4_30 NE_30 NF_30 NG_30
          clear hbel
          by_cases hlt : (k : Int) + 1 < x1
          case neg =>
            obtain ⟨u0a, u0b, _, _, _⟩ := fb_cells (P1_31.out)
            go_wp2_with (fail)
            go_ret
            exact ⟨rfl, HB_31.out⟩
          by_cases hlt2 : (k : Int) + 1 < 200
          case neg =>
            obtain ⟨u0a, u0b, _, _, _⟩ := fb_cells (P1_31.out)
            go_wp2_with (fail)
            go_ret
            exact ⟨rfl, HB_31.out⟩
          obtain ⟨⟨q1, q2⟩, ⟨q3, q4⟩, ⟨q5, q6⟩, ⟨q7, q8⟩, ⟨q9, q10⟩, ⟨q11, q12⟩, ⟨q13, q14⟩, ⟨q15, q16⟩, q17⟩ := HNU.out ((k : Int) + 1) (by omega) hlt (by omega)
          obtain ⟨u0a, u0b, _, _, _⟩ := fb_cells (P1_31.out)
          obtain ⟨u1a, u1b, _, _, _⟩ := fb_cells (NA_31.out)
          go_wp2_with (fail)
          clear u0a u0b u1a u1b
          refine (C3.out _).mono ?_
          rintro e w37 ⟨rfl, b37⟩
          have HB_32 := hid (HB_31.out.trans (b37.mono HB_31.out.size))
          have BB_32 := hid (byi_below BB_31.out b37)
          have NA_32 := hid (fb_below NA_31.out b37)
          have NB_32 := hid (fb_below NB_31.out b37)
          have P1_32 := hid (fb_below P1_31.out b37)
          have P2_32 := hid (fb_below P2_31.out b37)
          have NC_32 := hid (fb_below NC_31.out b37)
          have ND_32 := hid (fb_below ND_31.out b37)
          have P3_32 := hid (fb_below P3_31.out b37)
          have P4_32 := hid (fb_below P4_31.out b37)
          have NE_32 := hid (fb_below NE_31.out b37)
          have NF_32 := hid (fb_below NF_31.out b37)
          have NG_32 := hid (fb_below NG_31.out b37)
          clear HB_31 BB_31 NA_31 NB_31 P1_31 P2_31 NC_31 ND_31 P3_31 P4_31 NE_31 NF_31 NG_31
          have HBK := hid (HBEL.out.trans (b37.mono HBEL.out.size))
          clear b37
          obtain ⟨u0a, u0b, _, _, _⟩ := fb_cells (NB_32.out)
          obtain ⟨u1a, u1b, _, _, _⟩ := fb_cells (NA_32.out)
          go_wp2_with (fail)
          go_roundw
          case rel => exact ⟨k + 1, by go_num, by omega, by omega, HBK.out⟩
          case measure => simp [RowKit.intOf]; omega
      case neg =>
        have hb_s1 : (s1 == 0) = false := by simpa using h_s1
        have hc_s1 : (s1 != 0) = true := by simpa using h_s1
        clear h_s1
        go_wp2_with (fail)
        go_ret
        exact ⟨rfl, HB_22.out⟩
  case neg =>
    have hb_s4 : (s4 == 0) = false := by simpa using h_s4
    have hc_s4 : (s4 != 0) = true := by simpa using h_s4
    clear h_s4
    by_cases h_s2 : s2 = 0
    case pos =>
      subst h_s2
      have hg := HG.out y0 y1 rfl
      have C1 := hid (fun w1 => implCan y0 y1 n2 d2 w1)
      rw [hg] at C1
      dsimp only [tv] at C1
      clear hg
      obtain ⟨u0a, u0b, _, _, _⟩ := fb_cells (NC_22.out)
      go_wp2_with (fail)
      clear u0a u0b
      clear y0a y0b y1a y1b y2a y2b y3a y3b
      try clear ne_s1 eq_s1
      try clear ne_s2 eq_s2
      try clear ne_s3 eq_s3
      try clear ne_s4 eq_s4
      try clear ne_x0 eq_x0
      try clear ne_x1 eq_x1
      try clear ne_y0 eq_y0
      try clear ne_y1 eq_y1
      try clear ne_g0 eq_g0
      try clear ne_g1 eq_g1
      try clear ne_g2 eq_g2
      try clear ne_g3 eq_g3
      clear ne_ib
      refine (C1.out _).mono ?_
      rintro e w38 ⟨rfl, b38⟩
      have HB_33 := hid (HB_22.out.trans (b38.mono HB_22.out.size))
      have BB_33 := hid (byi_below BB_22.out b38)
      have NA_33 := hid (fb_below NA_22.out b38)
      have NB_33 := hid (fb_below NB_22.out b38)
      have P1_33 := hid (fb_below P1_22.out b38)
      have P2_33 := hid (fb_below P2_22.out b38)
      have NC_33 := hid (fb_below NC_22.out b38)
      have ND_33 := hid (fb_below ND_22.out b38)
      have P3_33 := hid (fb_below P3_22.out b38)
      have P4_33 := hid (fb_below P4_22.out b38)
      have NE_33 := hid (fb_below NE_22.out b38)
      have NF_33 := hid (fb_below NF_22.out b38)
      have NG_33 := hid (fb_below NG_22.out b38)
      clear HB_22 BB_22 NA_22 NB_22 P1_22 P2_22 NC_22 ND_22 P3_22 P4_22 NE_22 NF_22 NG_22
      clear b38 C1
      have bA : Below (w38).heap.size (w38) ((w38).alloc (.cells #[.int .i64 y0, .int .i64 y1] 25)) := (Below.refl _ _).alloc (Nat.le_refl _) _
      have HB_34 := hid (HB_33.out.trans (bA.mono HB_33.out.size))
      have BB_34 := hid (byi_below BB_33.out bA)
      have NA_34 := hid (fb_below NA_33.out bA)
      have NB_34 := hid (fb_below NB_33.out bA)
      have P1_34 := hid (fb_below P1_33.out bA)
      have P2_34 := hid (fb_below P2_33.out bA)
      have NC_34 := hid (fb_below NC_33.out bA)
      have ND_34 := hid (fb_below ND_33.out bA)
      have P3_34 := hid (fb_below P3_33.out bA)
      have P4_34 := hid (fb_below P4_33.out bA)
      have NE_34 := hid (fb_below NE_33.out bA)
      have NF_34 := hid (fb_below NF_33.out bA)
      have NG_34 := hid (fb_below NG_33.out bA)
      clear HB_33 BB_33 NA_33 NB_33 P1_33 P2_33 NC_33 ND_33 P3_33 P4_33 NE_33 NF_33 NG_33
      clear bA
      have Q1_0 := hid (fb_new (w38) y0 y1)
      have ne_y0 : (y0 != y0) = false := by simp
      have ne_y1 : (y1 != y1) = false := by simp
      have eq_y0 : (y0 == y0) = true := by simp
      have eq_y1 : (y1 == y1) = true := by simp
      obtain ⟨v0a, v0b, _, _, _⟩ := fb_cells (Q1_0.out)
      obtain ⟨v1a, v1b, _, _, _⟩ := fb_cells (P3_34.out)
      clear Q1_0
      by_cases h_s1 : s1 = 0
      case pos =>
        subst h_s1
        obtain ⟨hc1, hc2, hc3⟩ := HC.out x0 x1 rfl
        obtain ⟨ok1, ok2, ok3⟩ := HI.out x0 x1 rfl
        obtain ⟨d1, d2, n1, n2b⟩ := ok_bounds ok1
        obtain ⟨d3b, d4b, n3b, n4b⟩ := ok_bounds ok2
        obtain ⟨d5, d6, n5, n6⟩ := ok_bounds ok3
        have C1 := hid (fun w1 => implCompare n d x0 x1 w1)
        have C2 := hid (fun w1 => implCompare x0 x1 m f w1)
        have C3 := hid (fun w1 => implFloor n d w1)
        rw [hc1] at C1
        rw [hc2] at C2
        rw [hc3] at C3
        dsimp only at C1 C2 C3
        clear hc1 hc2 hc3 ok1 ok2 ok3 HC HI
        have HNU := hid (fun j => HN.out x0 x1 j rfl)
        clear HN
        obtain ⟨u0a, u0b, _, _, _⟩ := fb_cells (NA_34.out)
        obtain ⟨u1a, u1b, _, _, _⟩ := fb_cells (P1_34.out)
        go_wp2_with (fail)
        clear u0a u0b u1a u1b
        refine (C1.out _).mono ?_
        rintro e w39 ⟨rfl, b39⟩
        have HB_35 := hid (HB_34.out.trans (b39.mono HB_34.out.size))
        have BB_35 := hid (byi_below BB_34.out b39)
        have NA_35 := hid (fb_below NA_34.out b39)
        have NB_35 := hid (fb_below NB_34.out b39)
        have P1_35 := hid (fb_below P1_34.out b39)
        have P2_35 := hid (fb_below P2_34.out b39)
        have NC_35 := hid (fb_below NC_34.out b39)
        have ND_35 := hid (fb_below ND_34.out b39)
        have P3_35 := hid (fb_below P3_34.out b39)
        have P4_35 := hid (fb_below P4_34.out b39)
        have NE_35 := hid (fb_below NE_34.out b39)
        have NF_35 := hid (fb_below NF_34.out b39)
        have NG_35 := hid (fb_below NG_34.out b39)
        clear HB_34 BB_34 NA_34 NB_34 P1_34 P2_34 NC_34 ND_34 P3_34 P4_34 NE_34 NF_34 NG_34
        clear b39 C1
        obtain ⟨u0a, u0b, _, _, _⟩ := fb_cells (P1_35.out)
        obtain ⟨u1a, u1b, _, _, _⟩ := fb_cells (NB_35.out)
        go_wp2_with (fail)
        clear u0a u0b u1a u1b
        refine (C2.out _).mono ?_
        rintro e w40 ⟨rfl, b40⟩
        have HB_36 := hid (HB_35.out.trans (b40.mono HB_35.out.size))
        have BB_36 := hid (byi_below BB_35.out b40)
        have NA_36 := hid (fb_below NA_35.out b40)
        have NB_36 := hid (fb_below NB_35.out b40)
        have P1_36 := hid (fb_below P1_35.out b40)
        have P2_36 := hid (fb_below P2_35.out b40)
        have NC_36 := hid (fb_below NC_35.out b40)
        have ND_36 := hid (fb_below ND_35.out b40)
        have P3_36 := hid (fb_below P3_35.out b40)
        have P4_36 := hid (fb_below P4_35.out b40)
        have NE_36 := hid (fb_below NE_35.out b40)
        have NF_36 := hid (fb_below NF_35.out b40)
        have NG_36 := hid (fb_below NG_35.out b40)
        clear HB_35 BB_35 NA_35 NB_35 P1_35 P2_35 NC_35 ND_35 P3_35 P4_35 NE_35 NF_35 NG_35
        clear b40 C2
        go_wp2_with (fail)
        go_loopw [38, 39, 40, 41] (fun i u39 u40 u41 wr => ∃ k : Nat, i = .int .i64 (k + 1) ∧ k ≤ 199 ∧ (k : Int) + 1 ≤ x1 ∧ Below w40.heap.size w40 wr) (fun i _ _ _ _ => 302 - (RowKit.intOf i).toNat)
        case atStart => exact ⟨0, rfl, by omega, by omega, Below.refl _ _⟩
        case round =>
          obtain ⟨k, rfl, hk, hkx, hbel⟩ := hrel
          have hk0 : (0 : Int) ≤ (k : Int) := by omega
          have HBEL := hid hbel
          have HB_37 := hid (HB_36.out.trans (hbel.mono HB_36.out.size))
          have BB_37 := hid (byi_below BB_36.out hbel)
          have NA_37 := hid (fb_below NA_36.out hbel)
          have NB_37 := hid (fb_below NB_36.out hbel)
          have P1_37 := hid (fb_below P1_36.out hbel)
          have P2_37 := hid (fb_below P2_36.out hbel)
          have NC_37 := hid (fb_below NC_36.out hbel)
          have ND_37 := hid (fb_below ND_36.out hbel)
          have P3_37 := hid (fb_below P3_36.out hbel)
          have P4_37 := hid (fb_below P4_36.out hbel)
          have NE_37 := hid (fb_below NE_36.out hbel)
          have NF_37 := hid (fb_below NF_36.out hbel)
          have NG_37 := hid (fb_below NG_36.out hbel)
          clear HB_36 BB_36 NA_36 NB_36 P1_36 P2_36 NC_36 ND_36 P3_36 P4_36 NE_36 NF_36 NG_36
          clear hbel
          by_cases hlt : (k : Int) + 1 < x1
          case neg =>
            obtain ⟨u0a, u0b, _, _, _⟩ := fb_cells (P1_37.out)
            go_wp2_with (fail)
            go_ret
            exact ⟨rfl, HB_37.out⟩
          by_cases hlt2 : (k : Int) + 1 < 200
          case neg =>
            obtain ⟨u0a, u0b, _, _, _⟩ := fb_cells (P1_37.out)
            go_wp2_with (fail)
            go_ret
            exact ⟨rfl, HB_37.out⟩
          obtain ⟨⟨q1, q2⟩, ⟨q3, q4⟩, ⟨q5, q6⟩, ⟨q7, q8⟩, ⟨q9, q10⟩, ⟨q11, q12⟩, ⟨q13, q14⟩, ⟨q15, q16⟩, q17⟩ := HNU.out ((k : Int) + 1) (by omega) hlt (by omega)
          obtain ⟨u0a, u0b, _, _, _⟩ := fb_cells (P1_37.out)
          obtain ⟨u1a, u1b, _, _, _⟩ := fb_cells (NA_37.out)
          go_wp2_with (fail)
          clear u0a u0b u1a u1b
          refine (C3.out _).mono ?_
          rintro e w41 ⟨rfl, b41⟩
          have HB_38 := hid (HB_37.out.trans (b41.mono HB_37.out.size))
          have BB_38 := hid (byi_below BB_37.out b41)
          have NA_38 := hid (fb_below NA_37.out b41)
          have NB_38 := hid (fb_below NB_37.out b41)
          have P1_38 := hid (fb_below P1_37.out b41)
          have P2_38 := hid (fb_below P2_37.out b41)
          have NC_38 := hid (fb_below NC_37.out b41)
          have ND_38 := hid (fb_below ND_37.out b41)
          have P3_38 := hid (fb_below P3_37.out b41)
          have P4_38 := hid (fb_below P4_37.out b41)
          have NE_38 := hid (fb_below NE_37.out b41)
          have NF_38 := hid (fb_below NF_37.out b41)
          have NG_38 := hid (fb_below NG_37.out b41)
          clear HB_37 BB_37 NA_37 NB_37 P1_37 P2_37 NC_37 ND_37 P3_37 P4_37 NE_37 NF_37 NG_37
          have HBK := hid (HBEL.out.trans (b41.mono HBEL.out.size))
          clear b41
          obtain ⟨u0a, u0b, _, _, _⟩ := fb_cells (NB_38.out)
          obtain ⟨u1a, u1b, _, _, _⟩ := fb_cells (NA_38.out)
          go_wp2_with (fail)
          go_roundw
          case rel => exact ⟨k + 1, by go_num, by omega, by omega, HBK.out⟩
          case measure => simp [RowKit.intOf]; omega
      case neg =>
        have hb_s1 : (s1 == 0) = false := by simpa using h_s1
        have hc_s1 : (s1 != 0) = true := by simpa using h_s1
        clear h_s1
        go_wp2_with (fail)
        go_ret
        exact ⟨rfl, HB_34.out⟩
    case neg =>
      have hb_s2 : (s2 == 0) = false := by simpa using h_s2
      have hc_s2 : (s2 != 0) = true := by simpa using h_s2
      clear h_s2
      by_cases h_s1 : s1 = 0
      case pos =>
        subst h_s1
        obtain ⟨hc1, hc2, hc3⟩ := HC.out x0 x1 rfl
        obtain ⟨ok1, ok2, ok3⟩ := HI.out x0 x1 rfl
        obtain ⟨d1, d2, n1, n2b⟩ := ok_bounds ok1
        obtain ⟨d3b, d4b, n3b, n4b⟩ := ok_bounds ok2
        obtain ⟨d5, d6, n5, n6⟩ := ok_bounds ok3
        have C1 := hid (fun w1 => implCompare n d x0 x1 w1)
        have C2 := hid (fun w1 => implCompare x0 x1 m f w1)
        have C3 := hid (fun w1 => implFloor n d w1)
        rw [hc1] at C1
        rw [hc2] at C2
        rw [hc3] at C3
        dsimp only at C1 C2 C3
        clear hc1 hc2 hc3 ok1 ok2 ok3 HC HI
        have HNU := hid (fun j => HN.out x0 x1 j rfl)
        clear HN
        obtain ⟨u0a, u0b, _, _, _⟩ := fb_cells (NA_22.out)
        obtain ⟨u1a, u1b, _, _, _⟩ := fb_cells (P1_22.out)
        go_wp2_with (fail)
        clear u0a u0b u1a u1b
        refine (C1.out _).mono ?_
        rintro e w42 ⟨rfl, b42⟩
        have HB_39 := hid (HB_22.out.trans (b42.mono HB_22.out.size))
        have BB_39 := hid (byi_below BB_22.out b42)
        have NA_39 := hid (fb_below NA_22.out b42)
        have NB_39 := hid (fb_below NB_22.out b42)
        have P1_39 := hid (fb_below P1_22.out b42)
        have P2_39 := hid (fb_below P2_22.out b42)
        have NC_39 := hid (fb_below NC_22.out b42)
        have ND_39 := hid (fb_below ND_22.out b42)
        have P3_39 := hid (fb_below P3_22.out b42)
        have P4_39 := hid (fb_below P4_22.out b42)
        have NE_39 := hid (fb_below NE_22.out b42)
        have NF_39 := hid (fb_below NF_22.out b42)
        have NG_39 := hid (fb_below NG_22.out b42)
        clear HB_22 BB_22 NA_22 NB_22 P1_22 P2_22 NC_22 ND_22 P3_22 P4_22 NE_22 NF_22 NG_22
        clear b42 C1
        obtain ⟨u0a, u0b, _, _, _⟩ := fb_cells (P1_39.out)
        obtain ⟨u1a, u1b, _, _, _⟩ := fb_cells (NB_39.out)
        go_wp2_with (fail)
        clear u0a u0b u1a u1b
        refine (C2.out _).mono ?_
        rintro e w43 ⟨rfl, b43⟩
        have HB_40 := hid (HB_39.out.trans (b43.mono HB_39.out.size))
        have BB_40 := hid (byi_below BB_39.out b43)
        have NA_40 := hid (fb_below NA_39.out b43)
        have NB_40 := hid (fb_below NB_39.out b43)
        have P1_40 := hid (fb_below P1_39.out b43)
        have P2_40 := hid (fb_below P2_39.out b43)
        have NC_40 := hid (fb_below NC_39.out b43)
        have ND_40 := hid (fb_below ND_39.out b43)
        have P3_40 := hid (fb_below P3_39.out b43)
        have P4_40 := hid (fb_below P4_39.out b43)
        have NE_40 := hid (fb_below NE_39.out b43)
        have NF_40 := hid (fb_below NF_39.out b43)
        have NG_40 := hid (fb_below NG_39.out b43)
        clear HB_39 BB_39 NA_39 NB_39 P1_39 P2_39 NC_39 ND_39 P3_39 P4_39 NE_39 NF_39 NG_39
        clear b43 C2
        go_wp2_with (fail)
        go_loopw [38, 39, 40, 41] (fun i u39 u40 u41 wr => ∃ k : Nat, i = .int .i64 (k + 1) ∧ k ≤ 199 ∧ (k : Int) + 1 ≤ x1 ∧ Below w43.heap.size w43 wr) (fun i _ _ _ _ => 302 - (RowKit.intOf i).toNat)
        case atStart => exact ⟨0, rfl, by omega, by omega, Below.refl _ _⟩
        case round =>
          obtain ⟨k, rfl, hk, hkx, hbel⟩ := hrel
          have hk0 : (0 : Int) ≤ (k : Int) := by omega
          have HBEL := hid hbel
          have HB_41 := hid (HB_40.out.trans (hbel.mono HB_40.out.size))
          have BB_41 := hid (byi_below BB_40.out hbel)
          have NA_41 := hid (fb_below NA_40.out hbel)
          have NB_41 := hid (fb_below NB_40.out hbel)
          have P1_41 := hid (fb_below P1_40.out hbel)
          have P2_41 := hid (fb_below P2_40.out hbel)
          have NC_41 := hid (fb_below NC_40.out hbel)
          have ND_41 := hid (fb_below ND_40.out hbel)
          have P3_41 := hid (fb_below P3_40.out hbel)
          have P4_41 := hid (fb_below P4_40.out hbel)
          have NE_41 := hid (fb_below NE_40.out hbel)
          have NF_41 := hid (fb_below NF_40.out hbel)
          have NG_41 := hid (fb_below NG_40.out hbel)
          clear HB_40 BB_40 NA_40 NB_40 P1_40 P2_40 NC_40 ND_40 P3_40 P4_40 NE_40 NF_40 NG_40
          clear hbel
          by_cases hlt : (k : Int) + 1 < x1
          case neg =>
            obtain ⟨u0a, u0b, _, _, _⟩ := fb_cells (P1_41.out)
            go_wp2_with (fail)
            go_ret
            exact ⟨rfl, HB_41.out⟩
          by_cases hlt2 : (k : Int) + 1 < 200
          case neg =>
            obtain ⟨u0a, u0b, _, _, _⟩ := fb_cells (P1_41.out)
            go_wp2_with (fail)
            go_ret
            exact ⟨rfl, HB_41.out⟩
          obtain ⟨⟨q1, q2⟩, ⟨q3, q4⟩, ⟨q5, q6⟩, ⟨q7, q8⟩, ⟨q9, q10⟩, ⟨q11, q12⟩, ⟨q13, q14⟩, ⟨q15, q16⟩, q17⟩ := HNU.out ((k : Int) + 1) (by omega) hlt (by omega)
          obtain ⟨u0a, u0b, _, _, _⟩ := fb_cells (P1_41.out)
          obtain ⟨u1a, u1b, _, _, _⟩ := fb_cells (NA_41.out)
          go_wp2_with (fail)
          clear u0a u0b u1a u1b
          refine (C3.out _).mono ?_
          rintro e w44 ⟨rfl, b44⟩
          have HB_42 := hid (HB_41.out.trans (b44.mono HB_41.out.size))
          have BB_42 := hid (byi_below BB_41.out b44)
          have NA_42 := hid (fb_below NA_41.out b44)
          have NB_42 := hid (fb_below NB_41.out b44)
          have P1_42 := hid (fb_below P1_41.out b44)
          have P2_42 := hid (fb_below P2_41.out b44)
          have NC_42 := hid (fb_below NC_41.out b44)
          have ND_42 := hid (fb_below ND_41.out b44)
          have P3_42 := hid (fb_below P3_41.out b44)
          have P4_42 := hid (fb_below P4_41.out b44)
          have NE_42 := hid (fb_below NE_41.out b44)
          have NF_42 := hid (fb_below NF_41.out b44)
          have NG_42 := hid (fb_below NG_41.out b44)
          clear HB_41 BB_41 NA_41 NB_41 P1_41 P2_41 NC_41 ND_41 P3_41 P4_41 NE_41 NF_41 NG_41
          have HBK := hid (HBEL.out.trans (b44.mono HBEL.out.size))
          clear b44
          obtain ⟨u0a, u0b, _, _, _⟩ := fb_cells (NB_42.out)
          obtain ⟨u1a, u1b, _, _, _⟩ := fb_cells (NA_42.out)
          go_wp2_with (fail)
          go_roundw
          case rel => exact ⟨k + 1, by go_num, by omega, by omega, HBK.out⟩
          case measure => simp [RowKit.intOf]; omega
      case neg =>
        have hb_s1 : (s1 == 0) = false := by simpa using h_s1
        have hc_s1 : (s1 != 0) = true := by simpa using h_s1
        clear h_s1
        go_wp2_with (fail)
        go_ret
        exact ⟨rfl, HB_22.out⟩

end Go.Proofs.Ytjijabfamjhdjaa.pSimplest
