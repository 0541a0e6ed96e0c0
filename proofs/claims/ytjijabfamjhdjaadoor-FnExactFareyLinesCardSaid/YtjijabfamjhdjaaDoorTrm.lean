/- Mathematics of the tree: paths, the bounds at their ends, and the terms of the fractions there. -/
import Derived.Test.YtjijabfamjhdjaaDoorCvm
namespace Go.Proofs.YtjijabfamjhdjaaDoor

/-- Which lists are paths. -/
def lowP (xs : List Int) (j : Nat) : Int := if j = 0 ∧ 1 < xs.length then 0 else 1
def okP (xs : List Int) : Bool := decide (xs.length ≤ 60) && (xs.zipIdx.all fun x => inB (lowP xs x.2) 1000000000 x.1)
theorem okP_iff {xs : List Int} : okP xs = true ↔ xs.length ≤ 60 ∧ ∀ (j : Nat) (x : Int), xs[j]? = some x → lowP xs j ≤ x ∧ x ≤ 1000000000 := by
  unfold okP
  rw [Bool.and_eq_true, decide_eq_true_eq, List.all_eq_true]
  constructor
  · rintro ⟨h1, h2⟩
    exact ⟨h1, fun j x hx => inB_iff.1 (h2 (x, j) (List.mk_mem_zipIdx_iff_getElem?.2 hx))⟩
  · rintro ⟨h1, h2⟩
    exact ⟨h1, fun ⟨x, j⟩ hx => inB_yes (h2 j x (List.mk_mem_zipIdx_iff_getElem?.1 hx))⟩
theorem okP_bad {xs : List Int} {j : Nat} {x : Int} (hx : xs[j]? = some x) (h : ¬ (lowP xs j ≤ x ∧ x ≤ 1000000000)) : okP xs = false := by
  rw [Bool.eq_false_iff]
  exact fun e => h ((okP_iff.1 e).2 j x hx)
theorem okP_long {xs : List Int} (h : ¬ xs.length ≤ 60) : okP xs = false := by
  rw [Bool.eq_false_iff]
  exact fun e => h (okP_iff.1 e).1
theorem okP_len {xs : List Int} (h : okP xs = true) : xs.length ≤ 60 := (okP_iff.1 h).1
theorem lowP_ge {xs : List Int} {j : Nat} : 0 ≤ lowP xs j := by unfold lowP; split <;> omega
theorem lowP_next {xs : List Int} {j : Nat} (h : 1 ≤ j) : lowP xs j = 1 := by unfold lowP; rw [if_neg (by omega)]
theorem okP_bd {xs : List Int} (h : okP xs = true) {j : Nat} {x : Int} (hx : xs[j]? = some x) : 0 ≤ x ∧ x ≤ 1000000000 := by
  have h1 := (okP_iff.1 h).2 j x hx
  have := lowP_ge (xs := xs) (j := j)
  omega
theorem okP_rest {xs : List Int} (h : okP xs = true) : ∀ x ∈ xs.drop 1, 1 ≤ x := by
  intro x hx
  obtain ⟨j, hj⟩ := List.mem_iff_getElem?.1 hx
  rw [List.getElem?_drop] at hj
  have := (okP_iff.1 h).2 _ x hj
  rw [lowP_next (by omega)] at this
  exact this.1
theorem okP_zero {xs : List Int} (h1 : xs.length ≤ 60) (h2 : 1 < xs.length) (h0 : xs[0]? = some 0) : okP xs = (xs.drop 1).all (inB 1 1000000000) := by
  rw [Bool.eq_iff_iff, okP_iff, List.all_eq_true]
  constructor
  · rintro ⟨_, h⟩ x hx
    obtain ⟨j, hj⟩ := List.mem_iff_getElem?.1 hx
    rw [List.getElem?_drop] at hj
    have := h _ x hj
    rw [lowP_next (by omega)] at this
    exact inB_yes this
  · intro h
    refine ⟨h1, fun j x hx => ?_⟩
    cases j with
    | zero =>
      have : x = 0 := by rw [h0] at hx; simpa using hx.symm
      subst this
      unfold lowP
      rw [if_pos ⟨rfl, h2⟩]
      omega
    | succ j =>
      rw [lowP_next (by omega)]
      refine inB_iff.1 (h x ?_)
      have : (xs.drop 1)[j]? = some x := by rw [List.getElem?_drop, Nat.add_comm]; exact hx
      exact List.mem_of_getElem? this
theorem okP_all {xs : List Int} (h1 : xs.length ≤ 60) (h0 : ¬ (1 < xs.length ∧ xs[0]? = some 0)) : okP xs = xs.all (inB 1 1000000000) := by
  rw [Bool.eq_iff_iff, okP_iff, List.all_eq_true]
  constructor
  · rintro ⟨_, h⟩ x hx
    obtain ⟨j, hj⟩ := List.mem_iff_getElem?.1 hx
    have := h _ x hj
    refine inB_yes ?_
    unfold lowP at this
    split at this
    · rename_i e
      obtain ⟨rfl, e⟩ := e
      have : x ≠ 0 := fun e2 => h0 ⟨e, by rw [hj, e2]⟩
      omega
    · exact this
  · intro h
    refine ⟨h1, fun j x hx => ?_⟩
    have := inB_iff.1 (h x (List.mem_of_getElem? hx))
    unfold lowP
    split <;> omega

/-- The last one less by 1, or more by 1. -/
def decL (xs : List Int) : List Int := xs.set (xs.length - 1) (xs.getD (xs.length - 1) 0 - 1)
def incL (xs : List Int) : List Int := xs.set (xs.length - 1) (xs.getD (xs.length - 1) 0 + 1)
theorem decL_length (xs : List Int) : (decL xs).length = xs.length := List.length_set ..
theorem incL_length (xs : List Int) : (incL xs).length = xs.length := List.length_set ..
theorem inc_dec (xs : List Int) : incL (decL xs) = xs := by
  unfold incL
  rw [decL_length]
  unfold decL
  by_cases h : xs.length = 0
  · have : xs = [] := List.length_eq_zero_iff.1 h
    subst this; rfl
  apply List.ext_getElem?
  intro j
  rw [List.set_set]
  by_cases hj : j = xs.length - 1
  · subst hj
    rw [List.getElem?_set_self (by omega), List.getD_eq_getElem?_getD, List.getElem?_set_self (by omega), List.getElem?_eq_getElem (by omega : xs.length - 1 < xs.length), List.getD_eq_getElem?_getD, List.getElem?_eq_getElem (by omega : xs.length - 1 < xs.length)]
    simp
  · rw [List.getElem?_set_ne (by omega)]
theorem dec_inc (xs : List Int) : decL (incL xs) = xs := by
  unfold decL
  rw [incL_length]
  unfold incL
  by_cases h : xs.length = 0
  · have : xs = [] := List.length_eq_zero_iff.1 h
    subst this; rfl
  apply List.ext_getElem?
  intro j
  rw [List.set_set]
  by_cases hj : j = xs.length - 1
  · subst hj
    rw [List.getElem?_set_self (by omega), List.getD_eq_getElem?_getD, List.getElem?_set_self (by omega), List.getElem?_eq_getElem (by omega : xs.length - 1 < xs.length), List.getD_eq_getElem?_getD, List.getElem?_eq_getElem (by omega : xs.length - 1 < xs.length)]
    simp
  · rw [List.getElem?_set_ne (by omega)]
theorem decL_at {xs : List Int} {j : Nat} (h : j ≠ xs.length - 1) : (decL xs)[j]? = xs[j]? := List.getElem?_set_ne (by omega)
theorem decL_last {xs : List Int} (h : 0 < xs.length) : (decL xs)[xs.length - 1]? = some (xs.getD (xs.length - 1) 0 - 1) := List.getElem?_set_self (by omega)

/-- A list without the zeros at its end. -/
def trimN (xs : List Int) : Nat → Nat
  | 0 => 0
  | k + 1 => if xs[k]? = some 0 then trimN xs k else k + 1
theorem trimN_le (xs : List Int) : ∀ k, trimN xs k ≤ k
  | 0 => Nat.le_refl _
  | k + 1 => by
    unfold trimN
    split
    · have := trimN_le xs k; omega
    · omega
theorem trimN_zero {xs : List Int} {k : Nat} (h : xs[k]? = some 0) : trimN xs (k + 1) = trimN xs k := by
  show ite _ _ _ = _
  rw [if_pos h]
theorem trimN_stop {xs : List Int} {k : Nat} (h : xs[k]? ≠ some 0) : trimN xs (k + 1) = k + 1 := by
  show ite _ _ _ = _
  rw [if_neg h]
def trimL (xs : List Int) : List Int := xs.take (trimN xs xs.length)
theorem trimL_same {xs : List Int} (h : xs[xs.length - 1]? ≠ some 0) : trimL xs = xs := by
  unfold trimL
  by_cases h0 : xs.length = 0
  · have : xs = [] := List.length_eq_zero_iff.1 h0
    subst this; rfl
  · obtain ⟨m, hm⟩ : ∃ m, xs.length = m + 1 := ⟨xs.length - 1, by omega⟩
    rw [hm, Nat.add_sub_cancel] at h
    rw [hm, trimN_stop h, ← hm, List.take_length]

/-- The path to a fraction. -/
def pathF (n d : Int) : List Int := trimL (decL (eu n d))

/-- What holds of two convergents that follow one another on a path. -/
def InvT (P Q PP QQ : Int) : Prop := 0 ≤ P ∧ 0 ≤ Q ∧ 0 ≤ PP ∧ 0 ≤ QQ ∧ Unit1 (P * QQ - Q * PP)
theorem inv_top : InvT 1 0 0 1 := ⟨by decide, by decide, by decide, by decide, .inl (by decide)⟩
theorem inv_step {P Q PP QQ x : Int} (h : InvT P Q PP QQ) (hx : 0 ≤ x) : InvT (PP + x * P) (QQ + x * Q) P Q := by
  obtain ⟨h1, h2, h3, h4, h5⟩ := h
  have m1 := Int.mul_nonneg hx h1
  have m2 := Int.mul_nonneg hx h2
  have d := det_step (t := x) h5
  rw [Int.add_comm (x * P), Int.add_comm (x * Q)] at d
  exact ⟨by omega, by omega, h1, h2, d⟩
theorem inv_den {P Q PP QQ : Int} (h : InvT P Q PP QQ) : 1 ≤ Q + QQ := by
  obtain ⟨h1, h2, h3, h4, h5⟩ := h
  by_cases e : Q + QQ = 0
  · have e1 : Q = 0 := by omega
    have e2 : QQ = 0 := by omega
    rw [e1, e2] at h5
    simp [Unit1] at h5
  · omega
theorem inv_ok {P Q PP QQ : Int} (h : InvT P Q PP QQ) : okF (P + PP) (Q + QQ) = true ↔ P + PP ≤ 1000000000 ∧ Q + QQ ≤ 1000000000 := by
  have hd := inv_den h
  have d := det_step (t := 1) h.2.2.2.2
  rw [Int.one_mul, Int.one_mul] at d
  rw [okF_iff]
  obtain ⟨h1, h2, h3, h4, _⟩ := h
  exact ⟨fun k => ⟨k.2.2.2.1, k.2.1⟩, fun k => ⟨hd, k.2, by omega, k.1, unit_gc d⟩⟩

/-- Both convergents at the end of a path; none if one of the fractions on it is not plain. -/
def fo (P Q PP QQ : Int) : List Int → Option (Int × Int × Int × Int)
  | [] => if okF (P + PP) (Q + QQ) then some (P, Q, PP, QQ) else none
  | x :: r => if okF (P + PP) (Q + QQ) then fo (PP + x * P) (QQ + x * Q) P Q r else none
theorem fo_no {P Q PP QQ : Int} {xs : List Int} (h : okF (P + PP) (Q + QQ) = false) : fo P Q PP QQ xs = none := by
  cases xs <;> (unfold fo; rw [h]; rfl)
theorem fo_nil {P Q PP QQ : Int} (h : okF (P + PP) (Q + QQ) = true) : fo P Q PP QQ [] = some (P, Q, PP, QQ) := by
  unfold fo; rw [h]; rfl
theorem fo_cons {P Q PP QQ x : Int} {r : List Int} (h : okF (P + PP) (Q + QQ) = true) : fo P Q PP QQ (x :: r) = fo (PP + x * P) (QQ + x * Q) P Q r := by
  conv => lhs; unfold fo
  rw [h]; rfl
theorem fo_ok {P Q PP QQ : Int} {xs : List Int} {m : Int × Int × Int × Int} (h : fo P Q PP QQ xs = some m) : okF (P + PP) (Q + QQ) = true := by
  cases hb : okF (P + PP) (Q + QQ)
  · rw [fo_no hb] at h; simp at h
  · rfl
def mid (m : Int × Int × Int × Int) : Int × Int := (m.1 + m.2.2.1, m.2.1 + m.2.2.2)
theorem incL_cons (x y : Int) (s : List Int) : incL (x :: y :: s) = x :: incL (y :: s) := by simp [incL]
theorem fo_cv : ∀ (xs : List Int) (P Q PP QQ : Int), InvT P Q PP QQ → xs ≠ [] → (∀ x, xs[0]? = some x → 0 ≤ x ∧ (1 ≤ x ∨ 1 ≤ QQ)) → (∀ x ∈ xs.drop 1, 1 ≤ x) →
    (fo P Q PP QQ xs).map mid = (cv P Q PP QQ (incL xs)).bind List.getLast?
  | [], _, _, _, _, _, h, _, _ => absurd rfl h
  | [x], P, Q, PP, QQ, hi, _, h0, _ => by
    obtain ⟨hx, hq⟩ := h0 x rfl
    have hs := inv_step hi hx
    have e1 : (x + 1) * P + PP = PP + x * P + P := by rw [Int.add_mul, Int.one_mul]; omega
    have e2 : (x + 1) * Q + QQ = QQ + x * Q + Q := by rw [Int.add_mul, Int.one_mul]; omega
    have hl : incL [x] = [x + 1] := rfl
    rw [hl]
    cases hb : okF (PP + x * P + P) (QQ + x * Q + Q)
    · rw [cv_no (by rw [e1, e2]; exact hb)]
      cases ha : okF (P + PP) (Q + QQ)
      · rw [fo_no ha]; rfl
      · rw [fo_cons ha, fo_no hb]; rfl
    · have ha : okF (P + PP) (Q + QQ) = true := by
        have := (inv_ok hs).1 hb
        have m1 := Int.mul_nonneg hx hi.1
        have m2 := Int.mul_nonneg hx hi.2.1
        exact (inv_ok hi).2 ⟨by omega, by omega⟩
      rw [fo_cons ha, fo_nil hb, cv_yes (by rw [e1, e2]; exact hb), e1, e2]
      rfl
  | x :: y :: s, P, Q, PP, QQ, hi, _, h0, hr => by
    obtain ⟨hx, hq⟩ := h0 x rfl
    have hs := inv_step hi hx
    have hy : 1 ≤ y := hr y (by simp)
    have m1 := Int.mul_nonneg hx hi.1
    have m2 := Int.mul_nonneg hx hi.2.1
    have hQ : 1 ≤ QQ + x * Q := by
      rcases hq with hq | hq
      · have := Int.mul_le_mul_of_nonneg_right hq hi.2.1
        have := inv_den hi
        omega
      · have := hi.2.1
        omega
    have ih := fo_cv (y :: s) (PP + x * P) (QQ + x * Q) P Q hs (by simp) (fun z hz => by
      have : y = z := by simpa using hz
      subst this
      exact ⟨by omega, .inl hy⟩) (fun z hz => hr z (by simp at hz ⊢; exact .inr hz))
    have e1 : x * P + PP = PP + x * P := Int.add_comm ..
    have e2 : x * Q + QQ = QQ + x * Q := Int.add_comm ..
    have big : okF (PP + x * P + P) (QQ + x * Q + Q) = true → okF (P + PP) (Q + QQ) = true ∧ okF (PP + x * P) (QQ + x * Q) = true := by
      intro hc
      have k := (inv_ok hs).1 hc
      have i1 := hi.1
      have i2 := hi.2.1
      have i3 := hi.2.2.1
      refine ⟨(inv_ok hi).2 ⟨by omega, by omega⟩, okF_iff.2 ⟨hQ, by omega, by omega, by omega, unit_gc hs.2.2.2.2⟩⟩
    rw [incL_cons]
    cases hb : okF (PP + x * P) (QQ + x * Q)
    · rw [cv_no (by rw [e1, e2]; exact hb)]
      have h2 : fo (PP + x * P) (QQ + x * Q) P Q (y :: s) = none := by
        cases hc : okF (PP + x * P + P) (QQ + x * Q + Q)
        · exact fo_no hc
        · have := (big hc).2
          rw [hb] at this; simp at this
      cases ha : okF (P + PP) (Q + QQ)
      · rw [fo_no ha]; rfl
      · rw [fo_cons ha, h2]; rfl
    · rw [cv_yes (by rw [e1, e2]; exact hb), e1, e2]
      have hmap : ((cv (PP + x * P) (QQ + x * Q) P Q (incL (y :: s))).map ((PP + x * P, QQ + x * Q) :: ·)).bind List.getLast? = (cv (PP + x * P) (QQ + x * Q) P Q (incL (y :: s))).bind List.getLast? := by
        cases hcv : cv (PP + x * P) (QQ + x * Q) P Q (incL (y :: s)) with
        | none => rfl
        | some l =>
          have hl := cv_length hcv
          rw [incL_length] at hl
          cases l with
          | nil => simp at hl
          | cons a b => rfl
      rw [hmap, ← ih]
      cases ha : okF (P + PP) (Q + QQ)
      · have h2 : fo (PP + x * P) (QQ + x * Q) P Q (y :: s) = none := by
          cases hc : okF (PP + x * P + P) (QQ + x * Q + Q)
          · exact fo_no hc
          · have := (big hc).1
            rw [ha] at this; simp at this
        rw [fo_no ha, h2]
      · rw [fo_cons ha]
theorem at_cv {xs : List Int} (h : okP xs = true) (hne : xs ≠ []) : (fo 1 0 0 1 xs).map mid = (cv 1 0 0 1 (incL xs)).bind List.getLast? :=
  fo_cv xs 1 0 0 1 inv_top hne (fun x hx => ⟨(okP_bd h hx).1, .inr (by decide)⟩) (okP_rest h)

/-- A beginning of a path that can be gone, can be gone. -/
theorem fo_take : ∀ (xs ys : List Int) (P Q PP QQ : Int) (m : Int × Int × Int × Int), fo P Q PP QQ (xs ++ ys) = some m → ∃ m', fo P Q PP QQ xs = some m'
  | [], ys, P, Q, PP, QQ, m, h => ⟨_, fo_nil (fo_ok h)⟩
  | x :: xs, ys, P, Q, PP, QQ, m, h => by
    have ho := fo_ok h
    rw [List.cons_append, fo_cons ho] at h
    rw [fo_cons ho]
    exact fo_take xs ys _ _ _ _ m h
/-- .. and so with less steps at its end. -/
theorem fo_less : ∀ (xs : List Int) (P Q PP QQ x y : Int) (m : Int × Int × Int × Int), InvT P Q PP QQ → (∀ z ∈ xs, 0 ≤ z) → 0 ≤ y → y ≤ x → fo P Q PP QQ (xs ++ [x]) = some m → ∃ m', fo P Q PP QQ (xs ++ [y]) = some m'
  | [], P, Q, PP, QQ, x, y, m, hi, _, h0, hyx, h => by
    have ho := fo_ok h
    rw [List.nil_append, fo_cons ho] at h ⊢
    have h2 := (inv_ok (inv_step hi (by omega : 0 ≤ x))).1 (fo_ok h)
    have m1 := Int.mul_le_mul_of_nonneg_right hyx hi.1
    have m2 := Int.mul_le_mul_of_nonneg_right hyx hi.2.1
    exact ⟨_, fo_nil ((inv_ok (inv_step hi h0)).2 ⟨by omega, by omega⟩)⟩
  | z :: xs, P, Q, PP, QQ, x, y, m, hi, hz, h0, hyx, h => by
    have ho := fo_ok h
    rw [List.cons_append, fo_cons ho] at h ⊢
    exact fo_less xs _ _ _ _ x y m (inv_step hi (hz z (by simp))) (fun u hu => hz u (by simp [hu])) h0 hyx h
/-- Both convergents at the end are such. -/
theorem fo_inv : ∀ (xs : List Int) (P Q PP QQ : Int) (m : Int × Int × Int × Int), InvT P Q PP QQ → (∀ z ∈ xs, 0 ≤ z) → fo P Q PP QQ xs = some m → InvT m.1 m.2.1 m.2.2.1 m.2.2.2 ∧ okF (mid m).1 (mid m).2 = true
  | [], P, Q, PP, QQ, m, hi, _, h => by
    have ho := fo_ok h
    rw [fo_nil ho] at h
    injection h with h
    subst h
    exact ⟨hi, ho⟩
  | x :: xs, P, Q, PP, QQ, m, hi, hz, h => by
    have ho := fo_ok h
    rw [fo_cons ho] at h
    exact fo_inv xs _ _ _ _ m (inv_step hi (hz x (by simp))) (fun u hu => hz u (by simp [hu])) h

/-- The terms of a positive fraction. -/
theorem eu_last_ge {n d : Int} (hd : 0 < d) (h1 : 1 < (eu n d).length) : 2 ≤ (eu n d).getD ((eu n d).length - 1) 0 := by
  have hs := eu_short (n := n) hd
  obtain ⟨x, hx⟩ : ∃ x, (eu n d)[(eu n d).length - 1]? = some x := ⟨_, List.getElem?_eq_getElem (by omega)⟩
  have hx2 : (eu n d).getD ((eu n d).length - 1) 0 = x := by rw [List.getD_eq_getElem?_getD, hx]; rfl
  have hne : x ≠ 1 := by
    intro e
    subst e
    have := short_yes_len h1 hx
    rw [hs] at this
    omega
  have hr : x ∈ (eu n d).drop 1 := by
    have : ((eu n d).drop 1)[(eu n d).length - 2]? = some x := by rw [List.getElem?_drop, show 1 + ((eu n d).length - 2) = (eu n d).length - 1 by omega]; exact hx
    exact List.mem_of_getElem? this
  rw [eu_step hd] at hr
  have r1 := Int.emod_nonneg n (b := d) (by omega)
  have r2 := Int.emod_lt_of_pos n (b := d) (by omega)
  have := eu_terms _ d (n % d) (Nat.le_refl _) r1 (by omega) x (by simpa using hr)
  rw [hx2]
  omega
theorem eu_one {n d : Int} (hd : 0 < d) (hg : gc n d = 1) (h1 : ¬ 1 < (eu n d).length) : eu n d = [n] ∧ d = 1 := by
  have r1 := Int.emod_nonneg n (b := d) (by omega)
  have r2 := Int.emod_lt_of_pos n (b := d) (by omega)
  rw [eu_step hd] at h1 ⊢
  by_cases hr : n % d ≤ 0
  · have h0 : n % d = 0 := by omega
    have hd1 : d ∣ 1 := by
      have h3 : (d : Int) ∣ (Int.gcd n d : Int) := Int.dvd_coe_gcd (Int.dvd_of_emod_eq_zero h0) (Int.dvd_refl _)
      have : (Int.gcd n d : Int) = 1 := hg
      rwa [this] at h3
    have : d = 1 := by have := Int.le_of_dvd (by omega) hd1; omega
    subst this
    rw [eu_end hr, Int.ediv_one]
    exact ⟨rfl, rfl⟩
  · rw [eu_step (num := d) (by omega)] at h1
    simp at h1
theorem path_shape {n d : Int} (h : okF n d = true) (hn : 1 ≤ n) : (pathF n d = [] ∧ eu n d = [1] ∧ n = 1 ∧ d = 1) ∨ (pathF n d = decL (eu n d) ∧ 1 ≤ (decL (eu n d)).getD ((eu n d).length - 1) 0) := by
  obtain ⟨b1, b2, b3, b4, b5⟩ := okF_iff.1 h
  have hl : 0 < (eu n d).length := by rw [eu_step (by omega)]; simp
  have hla := decL_last hl
  have hld : (decL (eu n d)).getD ((eu n d).length - 1) 0 = (eu n d).getD ((eu n d).length - 1) 0 - 1 := by rw [List.getD_eq_getElem?_getD, hla]; rfl
  by_cases h1 : 1 < (eu n d).length
  · right
    have h2 := eu_last_ge (n := n) (by omega) h1
    refine ⟨trimL_same ?_, by rw [hld]; omega⟩
    rw [decL_length, hla]
    intro e
    injection e with e
    omega
  · obtain ⟨e1, e2⟩ := eu_one (by omega) b5 h1
    by_cases hn1 : n = 1
    · left
      subst hn1 e2
      exact ⟨by unfold pathF; rw [e1]; rfl, e1, rfl, rfl⟩
    · right
      rw [hld]
      unfold pathF
      rw [e1]
      refine ⟨trimL_same ?_, by show 1 ≤ n - 1; omega⟩
      show some (n - 1) ≠ some 0
      intro e
      injection e with e
      omega
theorem two30 {d : Int} (h : d ≤ 1000000000) : d < 2 ^ 30 := by
  have : (2 : Int) ^ 30 = 1073741824 := by decide
  omega
theorem path_ok {n d : Int} (h : okF n d = true) (hn : 1 ≤ n) : okP (pathF n d) = true := by
  obtain ⟨b1, b2, b3, b4, b5⟩ := okF_iff.1 h
  rcases path_shape h hn with ⟨e, _⟩ | ⟨e, hl⟩
  · rw [e]; rfl
  · rw [e]
    have ht := eu_ok (k := 30) (n := n) (d := d) (by omega) (two30 b2) (Nat.le_refl _) b3 b4 b2
    have htl := okT_len ht
    refine okP_iff.2 ⟨by rw [decL_length]; omega, fun j x hx => ?_⟩
    have hj : j < (eu n d).length := by have := (List.getElem?_eq_some_iff.1 hx).1; rwa [decL_length] at this
    have hbig : ∀ (y : Int), (eu n d)[j]? = some y → y ≤ 1000000000 := by
      intro y hy
      cases j with
      | zero =>
        have := okT_first ht
        rw [List.getD_eq_getElem?_getD, hy] at this
        exact this.2
      | succ j => exact (okT_at ht (by omega) hy).2
    by_cases hjl : j = (eu n d).length - 1
    · subst hjl
      have e2 : (decL (eu n d)).getD ((eu n d).length - 1) 0 = x := by rw [List.getD_eq_getElem?_getD, hx]; rfl
      rw [e2] at hl
      rw [decL_last (by omega)] at hx
      injection hx with hx
      obtain ⟨y, hy⟩ : ∃ y, (eu n d)[(eu n d).length - 1]? = some y := ⟨_, List.getElem?_eq_getElem (by omega)⟩
      have := hbig y hy
      rw [List.getD_eq_getElem?_getD, hy] at hx
      have hx : y - 1 = x := hx
      unfold lowP
      split <;> omega
    · rw [decL_at hjl] at hx
      refine ⟨?_, hbig x hx⟩
      cases j with
      | zero =>
        unfold lowP
        rw [if_pos ⟨rfl, by rw [decL_length]; omega⟩]
        rw [eu_step (by omega)] at hx
        have hx : n / d = x := by simpa using hx
        rw [← hx]
        exact Int.ediv_nonneg (by omega) (by omega)
      | succ j =>
        rw [lowP_next (by omega)]
        exact (okT_at ht (by omega) hx).1

end Go.Proofs.YtjijabfamjhdjaaDoor
