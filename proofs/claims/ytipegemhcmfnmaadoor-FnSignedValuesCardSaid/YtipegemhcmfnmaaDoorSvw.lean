/- Merged: Cvm, Cvw, F6, WSv. -/
import Derived.Test.YtipegemhcmfnmaaDoorKt
import Derived.Test.YtipegemhcmfnmaaDoorTm2
import Derived.Test.YtipegemhcmfnmaaDoorCvt
import Derived.Test.YtipegemhcmfnmaaDoorExp
import Derived.Test.YtipegemhcmfnmaaDoorMix
import Derived.Test.YtipegemhcmfnmaaDoorVas
import Derived.Test.YtipegemhcmfnmaaDoorFmk
import Derived.BigQuiet
import Derived.Laws.StructEq
import Derived.Test.YtipegemhcmfnmaaDoorDws
import Derived.Test.YtipegemhcmfnmaaDoorSle
import Derived.Test.YtipegemhcmfnmaaDoorFrs
import Derived.Test.YtipegemhcmfnmaaDoorSs
/-! Mathematics: the convergents of the terms by Euclid, and of the other form, are plain, follow one another as neighbours, and end with the fraction. -/
namespace Go.Proofs.YtipegemhcmfnmaaDoor

def Unit1 (x : Int) : Prop := x = 1 ∨ x = -1
theorem unit_gc {p q a b : Int} (h : Unit1 (p * b - q * a)) : gc p q = 1 := by
  have h1 : gc p q ∣ 1 := by
    have h2 : gc p q ∣ p * b - q * a := Int.dvd_sub (Int.dvd_mul_of_dvd_left (gc_dvd_left p q)) (Int.dvd_mul_of_dvd_left (gc_dvd_right p q))
    rcases h with h | h
    · rwa [h] at h2
    · rw [h] at h2
      exact Int.dvd_neg.1 h2
  have h3 := Int.le_of_dvd (by omega) h1
  have h4 := gc_nonneg p q
  have h5 : gc p q ≠ 0 := by
    intro e
    rw [e] at h1
    have := Int.zero_dvd.1 h1
    omega
  omega
theorem det_step {p q pp qq t : Int} (h : Unit1 (p * qq - q * pp)) : Unit1 ((t * p + pp) * q - (t * q + qq) * p) := by
  have : (t * p + pp) * q - (t * q + qq) * p = -(p * qq - q * pp) := by
    rw [Int.add_mul, Int.add_mul, Int.mul_assoc, Int.mul_assoc, Int.mul_comm q p, Int.mul_comm pp q, Int.mul_comm qq p]; omega
  rw [this]
  rcases h with h | h <;> rw [h]
  · exact .inr rfl
  · exact .inl rfl

/-- Convergents that follow one another. -/
theorem cv_nb : ∀ {xs : List Int} {p q pp qq : Int} {l : List (Int × Int)}, cv p q pp qq xs = some l → Unit1 (p * qq - q * pp) →
    (∀ a, l[0]? = some a → Unit1 (a.1 * q - a.2 * p)) ∧ ∀ i a b, l[i]? = some a → l[i + 1]? = some b → Unit1 (b.1 * a.2 - b.2 * a.1)
  | [], p, q, pp, qq, l, h, _ => by
    have : l = [] := by simpa [cv] using h.symm
    subst this
    exact ⟨fun a h => by simp at h, fun i a b h => by simp at h⟩
  | t :: r, p, q, pp, qq, l, h, hd => by
    cases ho : okF (t * p + pp) (t * q + qq)
    · rw [cv_no ho] at h; simp at h
    · rw [cv_yes ho] at h
      obtain ⟨l', h1, rfl⟩ := Option.map_eq_some_iff.1 h
      obtain ⟨n1, n2⟩ := cv_nb h1 (det_step hd)
      refine ⟨fun a ha => ?_, fun i a b ha hb => ?_⟩
      · have : (t * p + pp, t * q + qq) = a := by simpa using ha
        subst this
        exact det_step hd
      · cases i with
        | zero =>
          have : (t * p + pp, t * q + qq) = a := by simpa using ha
          subst this
          exact n1 b (by simpa using hb)
        | succ i => exact n2 i a b (by simpa using ha) (by simpa using hb)
theorem cv_plain : ∀ {xs : List Int} {p q pp qq : Int} {l : List (Int × Int)}, cv p q pp qq xs = some l → ∀ a ∈ l, okF a.1 a.2 = true
  | [], p, q, pp, qq, l, h => by
    have : l = [] := by simpa [cv] using h.symm
    subst this
    intro a ha; simp at ha
  | t :: r, p, q, pp, qq, l, h => by
    cases ho : okF (t * p + pp) (t * q + qq)
    · rw [cv_no ho] at h; simp at h
    · rw [cv_yes ho] at h
      obtain ⟨l', h1, rfl⟩ := Option.map_eq_some_iff.1 h
      intro a ha
      rcases List.mem_cons.1 ha with rfl | ha
      · exact ho
      · exact cv_plain h1 a ha

/-- A numerator is bounded by that of the fraction. -/
theorem num_bd {p d n q v : Int} (hd : 0 < d) (hq : q ≤ d) (hq0 : 0 ≤ q) (hv : v ≤ d) (h : p * d = n * q + v ∨ p * d = n * q - v) (hv0 : 0 ≤ v) (N : Int) (h1 : -N ≤ n) (h2 : n ≤ N) : -(N + 1) ≤ p ∧ p ≤ N + 1 := by
  have e1 : n * q ≤ N * q := Int.mul_le_mul_of_nonneg_right h2 hq0
  have e2 : (-N) * q ≤ n * q := Int.mul_le_mul_of_nonneg_right h1 hq0
  have e3 : N * q ≤ N * d := Int.mul_le_mul_of_nonneg_left hq (by omega)
  rw [Int.neg_mul] at e2
  have e5 : (N + 1) * d = N * d + d := by rw [Int.add_mul]; omega
  constructor
  · refine Int.le_of_mul_le_mul_right (a := d) ?_ hd
    rw [Int.neg_mul, e5]; omega
  · refine Int.le_of_mul_le_mul_right (a := d) ?_ hd
    rw [e5]; omega

/-- Terms by Euclid, in the other form. -/
def eo (u v : Int) : List Int := if _h : v ≤ 0 then [] else if u % v = 0 then [u / v - 1, 1] else u / v :: eo v (u % v)
termination_by v.toNat
decreasing_by
  have := Int.emod_lt_of_pos u (b := v) (by omega)
  omega
theorem eo_last {u v : Int} (h : 0 < v) (h0 : u % v = 0) : eo u v = [u / v - 1, 1] := by rw [eo]; simp [show ¬ v ≤ 0 by omega, h0]
theorem eo_step {u v : Int} (h : 0 < v) (h0 : u % v ≠ 0) : eo u v = u / v :: eo v (u % v) := by rw [eo]; simp [show ¬ v ≤ 0 by omega, h0]
theorem eo_other : ∀ (k : Nat) (u v : Int), v.toNat ≤ k → 0 < v → (eu u v).set ((eu u v).length - 1) ((eu u v).getD ((eu u v).length - 1) 0 - 1) ++ [1] = eo u v
  | 0, u, v, hk, h => by omega
  | k + 1, u, v, hk, h => by
    have r1 := Int.emod_nonneg u (b := v) (by omega)
    have r2 := Int.emod_lt_of_pos u (b := v) (by omega)
    rw [eu_step h]
    by_cases h0 : u % v = 0
    · rw [eo_last h h0, eu_end (by omega)]; rfl
    · have ih := eo_other k v (u % v) (by omega) (by omega)
      rw [eo_step h h0, ← ih]
      have hl : 1 ≤ (eu v (u % v)).length := by rw [eu_step (by omega)]; simp
      generalize eu v (u % v) = xs at hl
      obtain ⟨m, hm⟩ : ∃ m, xs.length = m + 1 := ⟨xs.length - 1, by omega⟩
      simp [hm]

theorem eu_inv {p q pp qq u v n d : Int} (_hv : 0 < v) (hn : n = p * u + pp * v) (hd : d = q * u + qq * v) : n = (u / v * p + pp) * v + p * (u % v) ∧ d = (u / v * q + qq) * v + q * (u % v) := by
  have e := Int.emod_add_mul_ediv u v
  constructor
  · rw [hn]
    conv => lhs; rw [← e]
    rw [Int.mul_add, Int.add_mul]
    have : p * (v * (u / v)) = u / v * p * v := by rw [Int.mul_comm v, ← Int.mul_assoc, Int.mul_comm p]
    omega
  · rw [hd]
    conv => lhs; rw [← e]
    rw [Int.mul_add, Int.add_mul]
    have : q * (v * (u / v)) = u / v * q * v := by rw [Int.mul_comm v, ← Int.mul_assoc, Int.mul_comm q]
    omega

/-- One step: the next convergent is plain. -/
theorem cv_one {p q pp qq u v n d N : Int} (hv : 0 < v) (hn : n = p * u + pp * v) (hd : d = q * u + qq * v) (hdet : Unit1 (p * qq - q * pp)) (hC : (q = 0 ∧ qq = 1) ∨ (1 ≤ q ∧ 0 ≤ qq ∧ v ≤ u))
    (hN : N ≤ 999999999) (h1 : -N ≤ n) (h2 : n ≤ N) (hd2 : d ≤ 1000000000) : okF (u / v * p + pp) (u / v * q + qq) = true ∧ 1 ≤ u / v * q + qq ∧ 0 ≤ q ∧ v ≤ d := by
  obtain ⟨i1, i2⟩ := eu_inv hv hn hd
  have r1 := Int.emod_nonneg u (b := v) (by omega)
  have r2 := Int.emod_lt_of_pos u hv
  have hq0 : 0 ≤ q := by omega
  have hq1 : 1 ≤ u / v * q + qq := by
    rcases hC with ⟨e1, e2⟩ | ⟨c1, c2, c3⟩
    · subst e1 e2; omega
    · have ht : 1 ≤ u / v := by rw [Int.le_ediv_iff_mul_le hv]; omega
      have : 1 * q ≤ u / v * q := Int.mul_le_mul_of_nonneg_right ht hq0
      omega
  have hdet' := det_step (t := u / v) hdet
  generalize u / v * p + pp = p' at *
  generalize u / v * q + qq = q' at *
  generalize u % v = v' at *
  have m1 : q' * 1 ≤ q' * v := Int.mul_le_mul_of_nonneg_left (by omega) (by omega)
  have m2 : 0 ≤ q * v' := Int.mul_nonneg hq0 r1
  have m3 : 1 * v ≤ q' * v := Int.mul_le_mul_of_nonneg_right hq1 (by omega)
  have hpd : p' * d = n * q' + v' ∨ p' * d = n * q' - v' := by
    have e : p' * d - n * q' = (p' * q - q' * p) * v' := by
      rw [i1, i2, Int.mul_add, Int.add_mul, Int.sub_mul]
      have a1 : p' * (q' * v) = p' * v * q' := by rw [← Int.mul_assoc, Int.mul_right_comm]
      have a2 : p' * (q * v') = p' * q * v' := by rw [← Int.mul_assoc]
      have a3 : p * v' * q' = q' * p * v' := by rw [Int.mul_comm (p * v') q', ← Int.mul_assoc]
      omega
    rcases hdet' with h | h
    · rw [h] at e; left; omega
    · rw [h] at e; right; omega
  have hb := num_bd (p := p') (d := d) (n := n) (q := q') (v := v') (by omega) (by omega) (by omega) (by omega) hpd r1 N h1 h2
  exact ⟨okF_iff.2 ⟨by omega, by omega, by omega, by omega, unit_gc hdet'⟩, hq1, hq0, by omega⟩

theorem cv_eu (N n d : Int) (hN : N ≤ 999999999) (h1 : -N ≤ n) (h2 : n ≤ N) (hd2 : d ≤ 1000000000) (hg : gc n d = 1) : ∀ (k : Nat) (p q pp qq u v : Int), v.toNat ≤ k → 0 < v → n = p * u + pp * v → d = q * u + qq * v → Unit1 (p * qq - q * pp) → ((q = 0 ∧ qq = 1) ∨ (1 ≤ q ∧ 0 ≤ qq ∧ v ≤ u)) →
    ∃ l, cv p q pp qq (eu u v) = some l ∧ l.getLast? = some (n, d)
  | 0, p, q, pp, qq, u, v, hk, hv, _, _, _, _ => by omega
  | k + 1, p, q, pp, qq, u, v, hk, hv, hn, hd, hdet, hC => by
    obtain ⟨ho, hq1, hq0, hvd⟩ := cv_one hv hn hd hdet hC hN h1 h2 hd2
    obtain ⟨i1, i2⟩ := eu_inv hv hn hd
    have r1 := Int.emod_nonneg u (b := v) (by omega)
    have r2 := Int.emod_lt_of_pos u hv
    rw [eu_step hv, cv_yes ho]
    by_cases h0 : u % v ≤ 0
    · have h0' : u % v = 0 := by omega
      rw [eu_end h0]
      rw [h0', Int.mul_zero, Int.add_zero] at i1 i2
      have hv1 : v ∣ 1 := by
        have h3 : (v : Int) ∣ (Int.gcd n d : Int) := Int.dvd_coe_gcd ⟨_, by rw [i1, Int.mul_comm]⟩ ⟨_, by rw [i2, Int.mul_comm]⟩
        have : (Int.gcd n d : Int) = 1 := hg
        rwa [this] at h3
      have hv2 : v = 1 := by have := Int.le_of_dvd (by omega) hv1; omega
      refine ⟨[(u / v * p + pp, u / v * q + qq)], rfl, ?_⟩
      rw [List.getLast?_singleton]
      rw [hv2, Int.mul_one] at i1 i2
      rw [hv2, i1, i2]
    · obtain ⟨l, hl1, hl2⟩ := cv_eu N n d hN h1 h2 hd2 hg k (u / v * p + pp) (u / v * q + qq) p q v (u % v) (by omega) (by omega) i1 i2 (det_step hdet) (.inr ⟨hq1, hq0, by omega⟩)
      refine ⟨_, by rw [hl1]; rfl, ?_⟩
      cases l with
      | nil => simp at hl2
      | cons x y => rw [List.getLast?_cons_cons]; exact hl2

theorem cv_eo (N n d : Int) (hN : N ≤ 999999999) (h1 : -N ≤ n) (h2 : n ≤ N) (hd2 : d ≤ 1000000000) (hg : gc n d = 1) : ∀ (k : Nat) (p q pp qq u v : Int), v.toNat ≤ k → 0 < v → n = p * u + pp * v → d = q * u + qq * v → Unit1 (p * qq - q * pp) → ((q = 0 ∧ qq = 1) ∨ (1 ≤ q ∧ 0 ≤ qq ∧ v < u)) →
    ∃ l, cv p q pp qq (eo u v) = some l ∧ l.getLast? = some (n, d)
  | 0, p, q, pp, qq, u, v, hk, hv, _, _, _, _ => by omega
  | k + 1, p, q, pp, qq, u, v, hk, hv, hn, hd, hdet, hC => by
    obtain ⟨ho, hq1, hq0, hvd⟩ := cv_one hv hn hd hdet (by omega) hN h1 h2 hd2
    obtain ⟨i1, i2⟩ := eu_inv hv hn hd
    have r1 := Int.emod_nonneg u (b := v) (by omega)
    have r2 := Int.emod_lt_of_pos u hv
    by_cases h0 : u % v = 0
    · rw [eo_last hv h0]
      rw [h0, Int.mul_zero, Int.add_zero] at i1 i2
      have hv1 : v ∣ 1 := by
        have h3 : (v : Int) ∣ (Int.gcd n d : Int) := Int.dvd_coe_gcd ⟨_, by rw [i1, Int.mul_comm]⟩ ⟨_, by rw [i2, Int.mul_comm]⟩
        have : (Int.gcd n d : Int) = 1 := hg
        rwa [this] at h3
      have hv2 : v = 1 := by have := Int.le_of_dvd (by omega) hv1; omega
      subst hv2
      rw [Int.mul_one] at i1 i2
      have hu : u / 1 = u := Int.ediv_one u
      rw [hu] at ho hq1 i1 i2 ⊢
      have d1 := det_step (t := u - 1) hdet
      have d2 := det_step (t := 1) d1
      have f1 : 1 * ((u - 1) * p + pp) + p = n := by rw [i1, Int.sub_mul]; omega
      have f2 : 1 * ((u - 1) * q + qq) + q = d := by rw [i2, Int.sub_mul]; omega
      have g1 : 1 ≤ (u - 1) * q + qq := by
        rcases hC with ⟨e1, e2⟩ | ⟨c1, c2, c3⟩
        · subst e1 e2; omega
        · have : 1 * q ≤ (u - 1) * q := Int.mul_le_mul_of_nonneg_right (by omega) hq0
          omega
      have g2 : (u - 1) * q + qq ≤ d := by omega
      have ho1 : okF ((u - 1) * p + pp) ((u - 1) * q + qq) = true := by
        rw [f1, f2] at d2
        generalize (u - 1) * p + pp = p1 at *
        generalize (u - 1) * q + qq = q1 at *
        have hpd : p1 * d = n * q1 + 1 ∨ p1 * d = n * q1 - 1 := by
          rw [Int.mul_comm d p1] at d2
          rcases d2 with h | h
          · right; omega
          · left; omega
        have hb := num_bd (p := p1) (d := d) (n := n) (q := q1) (v := 1) (by omega) g2 (by omega) (by omega) hpd (by omega) N h1 h2
        exact okF_iff.2 ⟨by omega, by omega, by omega, by omega, unit_gc d1⟩
      have ho2 : okF (1 * ((u - 1) * p + pp) + p) (1 * ((u - 1) * q + qq) + q) = true := by
        rw [f1, f2, i1, i2]; exact ho
      rw [cv_yes ho1, cv_yes ho2]
      refine ⟨_, rfl, ?_⟩
      show some (1 * ((u - 1) * p + pp) + p, 1 * ((u - 1) * q + qq) + q) = _
      rw [f1, f2]
    · obtain ⟨l, hl1, hl2⟩ := cv_eo N n d hN h1 h2 hd2 hg k (u / v * p + pp) (u / v * q + qq) p q v (u % v) (by omega) (by omega) i1 i2 (det_step hdet) (.inr ⟨hq1, hq0, by omega⟩)
      rw [eo_step hv h0, cv_yes ho]
      refine ⟨_, by rw [hl1]; rfl, ?_⟩
      cases l with
      | nil => simp at hl2
      | cons x y => rw [List.getLast?_cons_cons]; exact hl2

end Go.Proofs.YtipegemhcmfnmaaDoor

/-! Mathematics: the terms by Euclid of any plain fraction have that fraction as their value. -/
namespace Go.Proofs.YtipegemhcmfnmaaDoor

theorem num_bd2 {p d n q v : Int} (hd : 0 < d) (hd2 : d ≤ 1000000000) (hq : q ≤ d) (hq0 : 0 ≤ q) (hv : v ≤ d) (hqv : q = d → v = 0) (h : p * d = n * q + v ∨ p * d = n * q - v) (hv0 : 0 ≤ v) (h1 : -1000000000 ≤ n) (h2 : n ≤ 1000000000) : -1000000000 ≤ p ∧ p ≤ 1000000000 := by
  by_cases e : q = d
  · have hz := hqv e
    rw [hz, e] at h
    have : p * d = n * d := by omega
    have := Int.eq_of_mul_eq_mul_right (by omega) this
    omega
  · have e1 : n * q ≤ 1000000000 * q := Int.mul_le_mul_of_nonneg_right h2 hq0
    have e2 : (-1000000000) * q ≤ n * q := Int.mul_le_mul_of_nonneg_right h1 hq0
    constructor
    · refine Int.le_of_mul_le_mul_right (a := d) ?_ hd
      omega
    · refine Int.le_of_mul_le_mul_right (a := d) ?_ hd
      omega
/-- One step: the next convergent is plain. -/
theorem cv_one2 {p q pp qq u v n d : Int} (hv : 0 < v) (hn : n = p * u + pp * v) (hd : d = q * u + qq * v) (hdet : Unit1 (p * qq - q * pp)) (hC : (q = 0 ∧ qq = 1) ∨ (1 ≤ q ∧ 0 ≤ qq ∧ v ≤ u))
    (h1 : -1000000000 ≤ n) (h2 : n ≤ 1000000000) (hd2 : d ≤ 1000000000) : okF (u / v * p + pp) (u / v * q + qq) = true ∧ 1 ≤ u / v * q + qq ∧ 0 ≤ q ∧ v ≤ d := by
  obtain ⟨i1, i2⟩ := eu_inv hv hn hd
  have r1 := Int.emod_nonneg u (b := v) (by omega)
  have r2 := Int.emod_lt_of_pos u hv
  have hq0 : 0 ≤ q := by omega
  have hq1 : 1 ≤ u / v * q + qq := by
    rcases hC with ⟨e1, e2⟩ | ⟨c1, c2, c3⟩
    · subst e1 e2; omega
    · have ht : 1 ≤ u / v := by rw [Int.le_ediv_iff_mul_le hv]; omega
      have : 1 * q ≤ u / v * q := Int.mul_le_mul_of_nonneg_right ht hq0
      omega
  have hdet' := det_step (t := u / v) hdet
  generalize u / v * p + pp = p' at *
  generalize u / v * q + qq = q' at *
  generalize u % v = v' at *
  have m1 : q' * 1 ≤ q' * v := Int.mul_le_mul_of_nonneg_left (by omega) (by omega)
  have m2 : 0 ≤ q * v' := Int.mul_nonneg hq0 r1
  have m3 : 1 * v ≤ q' * v := Int.mul_le_mul_of_nonneg_right hq1 (by omega)
  have hpd : p' * d = n * q' + v' ∨ p' * d = n * q' - v' := by
    have e : p' * d - n * q' = (p' * q - q' * p) * v' := by
      rw [i1, i2, Int.mul_add, Int.add_mul, Int.sub_mul]
      have a1 : p' * (q' * v) = p' * v * q' := by rw [← Int.mul_assoc, Int.mul_right_comm]
      have a2 : p' * (q * v') = p' * q * v' := by rw [← Int.mul_assoc]
      have a3 : p * v' * q' = q' * p * v' := by rw [Int.mul_comm (p * v') q', ← Int.mul_assoc]
      omega
    rcases hdet' with h | h
    · rw [h] at e; left; omega
    · rw [h] at e; right; omega
  have m4 : q' = d → v' = 0 := by
    intro e
    by_cases hv2 : 2 ≤ v
    · have : q' * 2 ≤ q' * v := Int.mul_le_mul_of_nonneg_left hv2 (by omega)
      omega
    · omega
  have hb := num_bd2 (p := p') (d := d) (n := n) (q := q') (v := v') (by omega) hd2 (by omega) (by omega) (by omega) m4 hpd r1 h1 h2
  exact ⟨okF_iff.2 ⟨by omega, by omega, by omega, by omega, unit_gc hdet'⟩, hq1, hq0, by omega⟩

theorem cv_eu2 (n d : Int) (h1 : -1000000000 ≤ n) (h2 : n ≤ 1000000000) (hd2 : d ≤ 1000000000) (hg : gc n d = 1) : ∀ (k : Nat) (p q pp qq u v : Int), v.toNat ≤ k → 0 < v → n = p * u + pp * v → d = q * u + qq * v → Unit1 (p * qq - q * pp) → ((q = 0 ∧ qq = 1) ∨ (1 ≤ q ∧ 0 ≤ qq ∧ v ≤ u)) →
    ∃ l, cv p q pp qq (eu u v) = some l ∧ l.getLast? = some (n, d)
  | 0, p, q, pp, qq, u, v, hk, hv, _, _, _, _ => by omega
  | k + 1, p, q, pp, qq, u, v, hk, hv, hn, hd, hdet, hC => by
    obtain ⟨ho, hq1, hq0, hvd⟩ := cv_one2 hv hn hd hdet hC h1 h2 hd2
    obtain ⟨i1, i2⟩ := eu_inv hv hn hd
    have r1 := Int.emod_nonneg u (b := v) (by omega)
    have r2 := Int.emod_lt_of_pos u hv
    rw [eu_step hv, cv_yes ho]
    by_cases h0 : u % v ≤ 0
    · have h0' : u % v = 0 := by omega
      rw [eu_end h0]
      rw [h0', Int.mul_zero, Int.add_zero] at i1 i2
      have hv1 : v ∣ 1 := by
        have h3 : (v : Int) ∣ (Int.gcd n d : Int) := Int.dvd_coe_gcd ⟨_, by rw [i1, Int.mul_comm]⟩ ⟨_, by rw [i2, Int.mul_comm]⟩
        have : (Int.gcd n d : Int) = 1 := hg
        rwa [this] at h3
      have hv2 : v = 1 := by have := Int.le_of_dvd (by omega) hv1; omega
      refine ⟨[(u / v * p + pp, u / v * q + qq)], rfl, ?_⟩
      rw [List.getLast?_singleton]
      rw [hv2, Int.mul_one] at i1 i2
      rw [hv2, i1, i2]
    · obtain ⟨l, hl1, hl2⟩ := cv_eu2 n d h1 h2 hd2 hg k (u / v * p + pp) (u / v * q + qq) p q v (u % v) (by omega) (by omega) i1 i2 (det_step hdet) (.inr ⟨hq1, hq0, by omega⟩)
      refine ⟨_, by rw [hl1]; rfl, ?_⟩
      cases l with
      | nil => simp at hl2
      | cons x y => rw [List.getLast?_cons_cons]; exact hl2

theorem eu_val {n d : Int} (h : okF n d = true) : okT (eu n d) = true ∧ ∃ l, cv 1 0 0 1 (eu n d) = some l ∧ l.getLast? = some (n, d) := by
  obtain ⟨b1, b2, b3, b4, b5⟩ := okF_iff.1 h
  refine ⟨eu_ok (k := 30) (by omega) (by have : (2 : Int) ^ 30 = 1073741824 := by decide
                                         omega) (Nat.le_refl _) b3 b4 b2, ?_⟩
  exact cv_eu2 n d b3 b4 b2 b5 d.toNat 1 0 0 1 n d (Nat.le_refl _) (by omega) (by omega) (by omega) (.inl (by decide)) (.inl ⟨rfl, rfl⟩)
/-- .. so has the answer of ValueOfTerms. -/
theorem valT_eu {n d : Int} (h : okF n d = true) : valT (eu n d) = (n, d, 0) := by
  obtain ⟨h1, l, h2, h3⟩ := eu_val h
  unfold valT
  rw [if_pos h1, h2]
  have h4 : l.getD (l.length - 1) (0, 0) = (n, d) := by
    rw [List.getLast?_eq_getElem?] at h3
    rw [List.getD_eq_getElem?_getD, h3]; rfl
  show ((l.getD (l.length - 1) (0, 0)).1, (l.getD (l.length - 1) (0, 0)).2, (0 : Int)) = _
  rw [h4]
/-- The short terms of a value have that value. -/
theorem termsS_val {xs : List (Int × Int)} (h : (valS xs).2.2 = 0) : termsS xs = (eu (valS xs).1 (valS xs).2.1, 0) ∧ valT (termsS xs).1 = valS xs := by
  have h1 := valS_ok h
  have h2 : termsS xs = (eu (valS xs).1 (valS xs).2.1, 0) := by
    unfold termsS
    rw [if_pos h, expT_ok h1]
  refine ⟨h2, ?_⟩
  rw [h2]
  show valT (eu (valS xs).1 (valS xs).2.1) = _
  rw [valT_eu h1]
  generalize valS xs = r at *
  obtain ⟨a, b, c⟩ := r
  dsimp only at h ⊢
  rw [h]

end Go.Proofs.YtipegemhcmfnmaaDoor

/-! Contracts: the laws' own comparisons of two lists of numbers and of two lists of fractions. -/
namespace Go.Proofs.YtipegemhcmfnmaaDoor
open Go.RowKit

theorem f6big (ca : Option Addr) (len cap : Nat) (w : World) :
    Calls Tryd.prog 14 #[.slice ca len cap] w fun e w' => e = .returned (.bool (decide (4096 < len))) ∧ w' = w := by
  by_cases h : 4096 < len
  · have h' : (4096 : Int) < (len : Int) := by omega
    rw [decide_eq_true h]
    clear h
    go_enter Tryd.func14, Tryd.ntmps14
    go_wp2_with (fail)
    go_ret
    exact ⟨rfl, rfl⟩
  · have h' : ¬ (4096 : Int) < (len : Int) := by omega
    rw [decide_eq_false h]
    clear h
    go_enter Tryd.func14, Tryd.ntmps14
    go_wp2_with (fail)
    go_ret
    exact ⟨rfl, rfl⟩
theorem arg_at {w : World} {a : Option Addr} {n c : Nat} {xs : List Int} (h : Arg w (.slice a n c) xs) {j : Nat} {x : Int} (hj : xs[j]? = some x) :
    ∃ g o, a = some ⟨g, o, none⟩ ∧ w.cell? ⟨g, o + j, none⟩ = some (.int .i64 x) := by
  rcases h with ⟨_, _, _, rfl⟩ | ⟨g, o, c', h, hs⟩
  · simp at hj
  · simp only [Value.slice.injEq] at h
    obtain ⟨rfl, _, _⟩ := h
    exact ⟨g, o, rfl, hs j x hj⟩

theorem f6ints (a b : Option Addr) (ca cb : Nat) (xs : List Int) (w : World) (hx : xs.length ≤ 2000000) (ha : Arg w (.slice a xs.length ca) xs) (hb : Arg w (.slice b xs.length cb) xs) :
    Calls Tryd.prog 28 #[.slice a xs.length ca, .slice b xs.length cb] w fun e w' => e = .returned (.bool true) ∧ Below w.heap.size w w' := by
  have HA := hid ha
  have HB := hid hb
  have hne : ((xs.length : Int) != (xs.length : Int)) = false := by simp
  clear ha hb
  go_enter Tryd.func28, Tryd.ntmps28
  go_wp2_with (fail)
  go_loopw [5] (fun i wr => ∃ k : Nat, k ≤ xs.length ∧ i = .int .i64 k ∧ Below w.heap.size w wr) (fun i _ => xs.length - (RowKit.intOf i).toNat)
  case atStart => exact ⟨0, by omega, rfl, Below.refl _ _⟩
  case round =>
    obtain ⟨k, hk, rfl, hbel⟩ := hrel
    have HBEL := hid hbel
    have hk0 : (0 : Int) ≤ (k : Int) := by omega
    by_cases hlt : k < xs.length
    · have hlt' : (k : Int) < (xs.length : Int) := by omega
      obtain ⟨x, hxk⟩ : ∃ x, xs[k]? = some x := ⟨_, List.getElem?_eq_getElem hlt⟩
      obtain ⟨ga, oa, rfl, da⟩ := arg_at (arg_below HA.out hbel) hxk
      obtain ⟨gb, ob, rfl, db⟩ := arg_at (arg_below HB.out hbel) hxk
      have e1 : (x != x) = false := by simp
      clear hbel hxk
      go_wp2_with (fail)
      go_quiet (fail)
      go_wp2_with (fail)
      go_roundw
      case rel => exact ⟨k + 1, by omega, by go_num, below_drewN HBEL.out _⟩
      case measure => simp [RowKit.intOf]; omega
    · have hlt' : ¬ (k : Int) < (xs.length : Int) := by omega
      clear hbel
      go_wp2_with (fail)
      go_ret
      exact ⟨rfl, HBEL.out⟩

theorem fback_at {B : Nat} {w : World} {a : Option Addr} {n c : Nat} {xs : List (Int × Int)} (h : FBack B w (.slice a n c) xs) {j : Nat} {x : Int × Int} (hj : xs[j]? = some x) :
    ∃ g, a = some ⟨g, 0, none⟩ ∧ w.cell? ⟨g, j * 2, none⟩ = some (.int .i64 x.1) ∧ w.cell? ⟨g, j * 2 + 1, none⟩ = some (.int .i64 x.2) := by
  rcases h with ⟨_, rfl⟩ | ⟨g, c', h, ho⟩
  · simp at hj
  · simp only [Value.slice.injEq] at h
    obtain ⟨rfl, _, _⟩ := h
    obtain ⟨h1, h2⟩ := fown_cells ho hj
    exact ⟨g, rfl, h1, h2⟩

theorem f6frs {A B : Nat} (a b : Option Addr) (ca cb : Nat) (xs : List (Int × Int)) (w : World) (hx : xs.length ≤ 2000000) (ha : FBack A w (.slice a xs.length ca) xs) (hb : FBack B w (.slice b xs.length cb) xs) :
    Calls Tryd.prog 27 #[.slice a xs.length ca, .slice b xs.length cb] w fun e w' => e = .returned (.bool true) ∧ Below w.heap.size w w' := by
  have HA := hid ha
  have HB := hid hb
  have hne : ((xs.length : Int) != (xs.length : Int)) = false := by simp
  clear ha hb
  go_enter Tryd.func27, Tryd.ntmps27
  go_wp2_with (fail)
  go_loopw [5] (fun i wr => ∃ k : Nat, k ≤ xs.length ∧ i = .int .i64 k ∧ Below w.heap.size w wr) (fun i _ => xs.length - (RowKit.intOf i).toNat)
  case atStart => exact ⟨0, by omega, rfl, Below.refl _ _⟩
  case round =>
    obtain ⟨k, hk, rfl, hbel⟩ := hrel
    have HBEL := hid hbel
    have hk0 : (0 : Int) ≤ (k : Int) := by omega
    by_cases hlt : k < xs.length
    · have hlt' : (k : Int) < (xs.length : Int) := by omega
      obtain ⟨⟨p, q⟩, hxk⟩ : ∃ x, xs[k]? = some x := ⟨_, List.getElem?_eq_getElem hlt⟩
      obtain ⟨ga, rfl, da1, da2⟩ := fback_at (fback_below HA.out hbel) hxk
      obtain ⟨gb, rfl, db1, db2⟩ := fback_at (fback_below HB.out hbel) hxk
      dsimp only at da1 da2 db1 db2
      have e1 : (p == p) = true := by simp
      have e2 : (q == q) = true := by simp
      clear hbel hxk
      go_wp2_with (fail)
      go_quiet (fail)
      go_wp2_with (fail)
      go_roundw
      case rel => exact ⟨k + 1, by omega, by go_num, below_drewN HBEL.out _⟩
      case measure => simp [RowKit.intOf]; omega
    · have hlt' : ¬ (k : Int) < (xs.length : Int) := by omega
      clear hbel
      go_wp2_with (fail)
      go_ret
      exact ⟨rfl, HBEL.out⟩

end Go.Proofs.YtipegemhcmfnmaaDoor

/-! The law on values of terms with signs, walked. -/

namespace Go.Proofs.YtipegemhcmfnmaaDoor.pSignedValues
open Go.RowKit

theorem fback_slice {B : Nat} {w : World} {v : Value} {xs : List (Int × Int)} (h : FBack B w v xs) : ∃ a c, v = .slice a xs.length c ∧ FBack B w (.slice a xs.length c) xs := by
  rcases h with ⟨rfl, rfl⟩ | ⟨g, c, rfl, h⟩
  · exact ⟨_, _, rfl, .inl ⟨rfl, rfl⟩⟩
  · exact ⟨_, _, rfl, .inr ⟨g, c, rfl, h⟩⟩
theorem back_slice {B : Nat} {w : World} {v : Value} {xs : List Int} (h : Back B w v xs) : ∃ a c, v = .slice a xs.length c ∧ Back B w (.slice a xs.length c) xs := by
  rcases h with ⟨rfl, rfl⟩ | ⟨g, c, rfl, h⟩
  · exact ⟨_, _, rfl, .inl ⟨rfl, rfl⟩⟩
  · exact ⟨_, _, rfl, .inr ⟨g, c, rfl, h⟩⟩
theorem sback_slice2 {B : Nat} {w : World} {v : Value} {xs : List (Int × Int)} (h : SBack B w v xs) : ∃ a c, v = .slice a xs.length c ∧ SBack B w (.slice a xs.length c) xs := by
  rcases h with ⟨rfl, rfl⟩ | ⟨g, c, rfl, h⟩
  · exact ⟨_, _, rfl, .inl ⟨rfl, rfl⟩⟩
  · exact ⟨_, _, rfl, .inr ⟨g, c, rfl, h⟩⟩
theorem sback_argS {B : Nat} {w : World} {v : Value} {xs : List (Int × Int)} (h : SBack B w v xs) : ArgS w v xs := by
  rcases h with ⟨rfl, rfl⟩ | ⟨g, c, rfl, h⟩
  · exact .inl ⟨_, _, rfl, rfl⟩
  · exact sown_args h

theorem termsS_pos {xs : List (Int × Int)} (h : (valS xs).2.2 = 0) : 1 ≤ (termsS xs).1.length := by
  have h1 := valS_ok h
  rw [(termsS_val h).1]
  show 1 ≤ (eu _ _).length
  rw [eu_step (by have := (okF_iff.1 h1).1; omega)]
  simp
/-- The lengths, one by one. -/
theorem lensS_ent (n d : Int) : (lensS n d).2 = 0 → ∀ k : Nat, k < 4 → (lensS n d).1[k]? = some (lenK n d ((k : Int) + 1)) := by
  intro h k hk
  unfold lensS at h ⊢
  by_cases ho : okF n d = true
  · rw [if_pos ho]
    match k, hk with
    | 0, _ => rfl
    | 1, _ => rfl
    | 2, _ => rfl
    | 3, _ => rfl
  · rw [if_neg ho] at h; simp at h

set_option maxRecDepth 100000 in
set_option maxHeartbeats 6400000 in
theorem walk (ca : Option Addr) (len cap : Nat) (w : World) (hl : laidMet Tryd.prog Rows.fnSignedValuesRow.laid w) (hb : ByI w ca len) :
    Calls Tryd.prog 3 #[.slice ca len cap] w fun e w' => e = .returned (.bool true) ∧ Below w.heap.size w w' := by
  have ER : ∃ a0 a1 a2 a3, Errs a0 a1 a2 a3 w := by
    obtain ⟨b0, e0⟩ := sen0_of hl (by simp [Rows.fnSignedValuesRow])
    obtain ⟨b1, e1⟩ := sen1_of hl (by simp [Rows.fnSignedValuesRow])
    obtain ⟨b2, e2⟩ := sen2_of hl (by simp [Rows.fnSignedValuesRow])
    obtain ⟨b3, e3⟩ := sen3_of hl (by simp [Rows.fnSignedValuesRow])
    exact ⟨b0, b1, b2, b3, e0, e1, e2, e3⟩
  obtain ⟨b0, b1, b2, b3, er⟩ := ER
  have HE := hid er
  clear hl
  have HBG := hid (f6big ca len cap w)
  by_cases hx : 4096 < len
  case pos =>
    rw [decide_eq_true hx] at HBG
    clear hx hb er HE
    go_enter Tryd.func3, Tryd.ntmps3
    go_wp2_with (fail)
    refine HBG.out.mono ?_
    rintro e u ⟨rfl, hu⟩
    rw [hu]
    clear hu
    go_wp2_with (fail)
    go_ret
    exact ⟨rfl, Below.refl _ _⟩
  rw [decide_eq_false hx] at HBG
  have hl5 : len ≤ 5000 := by omega
  have D1 := hid (drawCv ca len cap w hb hl5)
  have BY := hid hb
  clear hb hx er
  go_enter Tryd.func3, Tryd.ntmps3
  go_wp2_with (fail)
  refine HBG.out.mono ?_
  rintro e u ⟨rfl, hu⟩
  rw [hu]
  clear hu HBG
  go_wp2_with (fail)
  refine (D1.out).mono ?_
  rintro e w1 ⟨g, c, xs, rfl, ox, hxl, b1⟩
  have HB_0 := hid (b1)
  have ER_0 := hid (errs_below HE.out b1)
  have BB_0 := hid (byi_below BY.out b1)
  have OX_0 := hid (ox)
  have HX := hid (sown_cap ox)
  have hxl2 : xs.length ≤ 2000000000 := by omega
  clear ox b1 HE BY D1
  have HVC := hid (valS_code xs)
  have HVV := hid (fun h => valS_yes (xs := xs) h)
  have HTV := hid (fun h => termsS_val (xs := xs) h)
  have HCL := hid (fun h => convS_len (xs := xs) h)
  have HCN := hid (show (convS xs).1.length ≤ 2000000 by have := convS_le xs; omega)
  have HTN := hid (show (termsS xs).1.length ≤ 2000000 by have := termsS_len xs; omega)
  have HTP := hid (fun h => termsS_pos (xs := xs) h)
  have HOK := hid (fun h => okS_len (convS_len (xs := xs) h).2)
  have C2 := hid (fun w1 (h : Errs b0 b1 b2 b3 w1) (o : SOwn w.heap.size w1 g c xs) => implConvS g c xs b0 b1 b2 b3 w1 h hxl2 (sown_cap o) (sown_sgs o))
  have C3 := hid (fun w1 (o : SOwn w.heap.size w1 g c xs) => specConvS g c xs w1 hxl2 (sown_sgs o))
  have C4 := hid (fun w1 (h : Errs b0 b1 b2 b3 w1) (o : SOwn w.heap.size w1 g c xs) => implValS g c xs b0 b1 b2 b3 w1 h hxl2 (sown_cap o) (sown_sgs o))
  have C5 := hid (fun w1 (h : Errs b0 b1 b2 b3 w1) (o : SOwn w.heap.size w1 g c xs) => implTermsS g c xs b0 b1 b2 b3 w1 h hxl2 (sown_cap o) (sown_sgs o))
  have C6 := hid (fun w1 (o : SOwn w.heap.size w1 g c xs) => specTermsS g c xs w1 hxl2 (sown_sgs o))
  generalize convS xs = cv at *
  obtain ⟨cl, cs⟩ := cv
  generalize termsS xs = tt at *
  obtain ⟨tl, ts⟩ := tt
  generalize valS xs = vv at *
  obtain ⟨va, vb, vs⟩ := vv
  go_wp2_with (fail)
  refine (C2.out _ (ER_0.out) (OX_0.out)).mono ?_
  rintro e w2 ⟨⟨v2, rfl, r2⟩, b2⟩
  have R2 := hid r2
  clear r2
  have HB_1 := hid (HB_0.out.trans (b2.mono HB_0.out.size))
  have ER_1 := hid (errs_below ER_0.out b2)
  have BB_1 := hid (byi_below BB_0.out b2)
  have OX_1 := hid (sown_below OX_0.out b2)
  clear HB_0 ER_0 BB_0 OX_0
  clear b2
  obtain ⟨a2, c2, rfl, q2⟩ := fback_slice R2.out
  have R2x_0 := hid (q2)
  clear q2 R2
  dsimp only
  go_wp2_with (fail)
  refine (C3.out _ (OX_1.out)).mono ?_
  rintro e w3 ⟨⟨v3, rfl, r3⟩, b3⟩
  have R3 := hid r3
  clear r3
  have HB_2 := hid (HB_1.out.trans (b3.mono HB_1.out.size))
  have ER_2 := hid (errs_below ER_1.out b3)
  have BB_2 := hid (byi_below BB_1.out b3)
  have OX_2 := hid (sown_below OX_1.out b3)
  have R2x_2 := hid (fback_below R2x_0.out b3)
  clear HB_1 ER_1 BB_1 OX_1 R2x_0
  clear b3
  obtain ⟨a3, c3, rfl, q3⟩ := fback_slice R3.out
  have R3x_0 := hid (q3)
  clear q3 R3
  dsimp only
  go_wp2_with (fail)
  refine (C4.out _ (ER_2.out) (OX_2.out)).mono ?_
  rintro e w4 ⟨rfl, b4⟩
  have HB_3 := hid (HB_2.out.trans (b4.mono HB_2.out.size))
  have ER_3 := hid (errs_below ER_2.out b4)
  have BB_3 := hid (byi_below BB_2.out b4)
  have OX_3 := hid (sown_below OX_2.out b4)
  have R2x_3 := hid (fback_below R2x_2.out b4)
  have R3x_3 := hid (fback_below R3x_0.out b4)
  clear HB_2 ER_2 BB_2 OX_2 R2x_2 R3x_0
  clear b4
  dsimp only [valV]
  have bA : Below w4.heap.size w4 (w4.alloc (.cells #[.int .i64 va, .int .i64 vb] 30)) := (Below.refl _ _).alloc (Nat.le_refl _) _
  have HB_4 := hid (HB_3.out.trans (bA.mono HB_3.out.size))
  have ER_4 := hid (errs_below ER_3.out bA)
  have BB_4 := hid (byi_below BB_3.out bA)
  have OX_4 := hid (sown_below OX_3.out bA)
  have R2x_4 := hid (fback_below R2x_3.out bA)
  have R3x_4 := hid (fback_below R3x_3.out bA)
  clear HB_3 ER_3 BB_3 OX_3 R2x_3 R3x_3
  clear bA
  have VB_0 := hid (fb_new w4 va vb)
  go_wp2_with (fail)
  refine (C5.out _ (ER_4.out) (OX_4.out)).mono ?_
  rintro e w5 ⟨⟨v5, rfl, r5⟩, b5⟩
  have R5 := hid r5
  clear r5
  have HB_5 := hid (HB_4.out.trans (b5.mono HB_4.out.size))
  have ER_5 := hid (errs_below ER_4.out b5)
  have BB_5 := hid (byi_below BB_4.out b5)
  have OX_5 := hid (sown_below OX_4.out b5)
  have R2x_5 := hid (fback_below R2x_4.out b5)
  have R3x_5 := hid (fback_below R3x_4.out b5)
  have VB_5 := hid (fb_below VB_0.out b5)
  clear HB_4 ER_4 BB_4 OX_4 R2x_4 R3x_4 VB_0
  clear b5
  obtain ⟨a5, c5, rfl, q5⟩ := back_slice R5.out
  have R5x_0 := hid (q5)
  clear q5 R5
  dsimp only
  go_wp2_with (fail)
  refine (C6.out _ (OX_5.out)).mono ?_
  rintro e w6 ⟨⟨v6, rfl, r6⟩, b6⟩
  have R6 := hid r6
  clear r6
  have HB_6 := hid (HB_5.out.trans (b6.mono HB_5.out.size))
  have ER_6 := hid (errs_below ER_5.out b6)
  have BB_6 := hid (byi_below BB_5.out b6)
  have OX_6 := hid (sown_below OX_5.out b6)
  have R2x_6 := hid (fback_below R2x_5.out b6)
  have R3x_6 := hid (fback_below R3x_5.out b6)
  have VB_6 := hid (fb_below VB_5.out b6)
  have R5x_6 := hid (back_below R5x_0.out b6)
  clear HB_5 ER_5 BB_5 OX_5 R2x_5 R3x_5 VB_5 R5x_0
  clear b6
  obtain ⟨a6, c6, rfl, q6⟩ := back_slice R6.out
  have R6x_0 := hid (q6)
  clear q6 R6
  dsimp only
  go_wp2_with (fail)
  refine (drawLe ca len cap _ (BB_6.out) hl5).mono ?_
  rintro e w7 ⟨n, d, rfl, b7⟩
  have HB_7 := hid (HB_6.out.trans (b7.mono HB_6.out.size))
  have ER_7 := hid (errs_below ER_6.out b7)
  have BB_7 := hid (byi_below BB_6.out b7)
  have OX_7 := hid (sown_below OX_6.out b7)
  have R2x_7 := hid (fback_below R2x_6.out b7)
  have R3x_7 := hid (fback_below R3x_6.out b7)
  have VB_7 := hid (fb_below VB_6.out b7)
  have R5x_7 := hid (back_below R5x_6.out b7)
  have R6x_7 := hid (back_below R6x_0.out b7)
  clear HB_6 ER_6 BB_6 OX_6 R2x_6 R3x_6 VB_6 R5x_6 R6x_0
  clear b7
  have bA : Below w7.heap.size w7 (w7.alloc (.cells #[.int .i64 n, .int .i64 d] 30)) := (Below.refl _ _).alloc (Nat.le_refl _) _
  have HB_8 := hid (HB_7.out.trans (bA.mono HB_7.out.size))
  have ER_8 := hid (errs_below ER_7.out bA)
  have BB_8 := hid (byi_below BB_7.out bA)
  have OX_8 := hid (sown_below OX_7.out bA)
  have R2x_8 := hid (fback_below R2x_7.out bA)
  have R3x_8 := hid (fback_below R3x_7.out bA)
  have VB_8 := hid (fb_below VB_7.out bA)
  have R5x_8 := hid (back_below R5x_7.out bA)
  have R6x_8 := hid (back_below R6x_7.out bA)
  clear HB_7 ER_7 BB_7 OX_7 R2x_7 R3x_7 VB_7 R5x_7 R6x_7
  clear bA
  have NB_0 := hid (fb_new w7 n d)
  have C8 := hid (fun w1 (h : Errs b0 b1 b2 b3 w1) => implLens n d b0 b1 b2 b3 w1 h)
  have C9 := hid (fun w1 => specLens n d w1)
  have HLE := hid (lensS_ent n d)
  have HLN := hid (show (lensS n d).1.length ≤ 2000000 by have := lensS_len n d; omega)
  generalize lensS n d = le at *
  obtain ⟨ll, ls⟩ := le
  obtain ⟨z0, z1, _, _, _⟩ := fb_cells (NB_0.out)
  go_wp2_with (fail)
  clear z0 z1
  refine (C8.out _ (ER_8.out)).mono ?_
  rintro e w8 ⟨⟨v8, rfl, r8⟩, b8⟩
  have R8 := hid r8
  clear r8
  have HB_9 := hid (HB_8.out.trans (b8.mono HB_8.out.size))
  have ER_9 := hid (errs_below ER_8.out b8)
  have BB_9 := hid (byi_below BB_8.out b8)
  have OX_9 := hid (sown_below OX_8.out b8)
  have R2x_9 := hid (fback_below R2x_8.out b8)
  have R3x_9 := hid (fback_below R3x_8.out b8)
  have VB_9 := hid (fb_below VB_8.out b8)
  have R5x_9 := hid (back_below R5x_8.out b8)
  have R6x_9 := hid (back_below R6x_8.out b8)
  have NB_9 := hid (fb_below NB_0.out b8)
  clear HB_8 ER_8 BB_8 OX_8 R2x_8 R3x_8 VB_8 R5x_8 R6x_8 NB_0
  clear b8
  obtain ⟨a8, c8, rfl, q8⟩ := back_slice R8.out
  have R8x_0 := hid (q8)
  clear q8 R8
  dsimp only
  obtain ⟨z0, z1, _, _, _⟩ := fb_cells (NB_9.out)
  go_wp2_with (fail)
  clear z0 z1
  refine (C9.out _).mono ?_
  rintro e w9 ⟨⟨v9, rfl, r9⟩, b9⟩
  have R9 := hid r9
  clear r9
  have HB_10 := hid (HB_9.out.trans (b9.mono HB_9.out.size))
  have ER_10 := hid (errs_below ER_9.out b9)
  have BB_10 := hid (byi_below BB_9.out b9)
  have OX_10 := hid (sown_below OX_9.out b9)
  have R2x_10 := hid (fback_below R2x_9.out b9)
  have R3x_10 := hid (fback_below R3x_9.out b9)
  have VB_10 := hid (fb_below VB_9.out b9)
  have R5x_10 := hid (back_below R5x_9.out b9)
  have R6x_10 := hid (back_below R6x_9.out b9)
  have NB_10 := hid (fb_below NB_9.out b9)
  have R8x_10 := hid (back_below R8x_0.out b9)
  clear HB_9 ER_9 BB_9 OX_9 R2x_9 R3x_9 VB_9 R5x_9 R6x_9 NB_9 R8x_0
  clear b9
  obtain ⟨a9, c9, rfl, q9⟩ := back_slice R9.out
  have R9x_0 := hid (q9)
  clear q9 R9
  dsimp only
  go_wp2_with (fail)
  refine (drawFt ca len cap _ (BB_10.out) hl5).mono ?_
  rintro e w10 ⟨g10, c10, ys, kd, rfl, oy, hyl, b10⟩
  have HB_11 := hid (HB_10.out.trans (b10.mono HB_10.out.size))
  have ER_11 := hid (errs_below ER_10.out b10)
  have BB_11 := hid (byi_below BB_10.out b10)
  have OX_11 := hid (sown_below OX_10.out b10)
  have R2x_11 := hid (fback_below R2x_10.out b10)
  have R3x_11 := hid (fback_below R3x_10.out b10)
  have VB_11 := hid (fb_below VB_10.out b10)
  have R5x_11 := hid (back_below R5x_10.out b10)
  have R6x_11 := hid (back_below R6x_10.out b10)
  have NB_11 := hid (fb_below NB_10.out b10)
  have R8x_11 := hid (back_below R8x_10.out b10)
  have R9x_11 := hid (back_below R9x_0.out b10)
  clear HB_10 ER_10 BB_10 OX_10 R2x_10 R3x_10 VB_10 R5x_10 R6x_10 NB_10 R8x_10 R9x_0
  clear b10
  have OY_0 := hid (oy)
  have HYC := hid (own_cap oy)
  clear oy
  dsimp only
  have hyl2 : ys.length ≤ 2000000000 := by omega
  have HFN := hid (show (fromS (valT ys) kd).1.length ≤ 2000000000 by have := fromS_len (valT ys) kd; omega)
  have C11 := hid (fun w1 (h : Errs b0 b1 b2 b3 w1) (hi : Ints w1 g10 0 ys) => implFromS g10 c10 ys kd b0 b1 b2 b3 w1 h hyl2 HYC.out hi)
  have C12 := hid (fun w1 (hi : Ints w1 g10 0 ys) => specFromS g10 c10 ys kd w1 hyl2 hi)
  generalize fromS (valT ys) kd = fr at *
  obtain ⟨fl, fs⟩ := fr
  go_wp2_with (fail)
  refine (C11.out _ (ER_11.out) (own_ints OY_0.out)).mono ?_
  rintro e w11 ⟨⟨v11, rfl, r11⟩, b11⟩
  have R11 := hid r11
  clear r11
  have HB_12 := hid (HB_11.out.trans (b11.mono HB_11.out.size))
  have ER_12 := hid (errs_below ER_11.out b11)
  have BB_12 := hid (byi_below BB_11.out b11)
  have OX_12 := hid (sown_below OX_11.out b11)
  have R2x_12 := hid (fback_below R2x_11.out b11)
  have R3x_12 := hid (fback_below R3x_11.out b11)
  have VB_12 := hid (fb_below VB_11.out b11)
  have R5x_12 := hid (back_below R5x_11.out b11)
  have R6x_12 := hid (back_below R6x_11.out b11)
  have NB_12 := hid (fb_below NB_11.out b11)
  have R8x_12 := hid (back_below R8x_11.out b11)
  have R9x_12 := hid (back_below R9x_11.out b11)
  have OY_12 := hid (own_below OY_0.out b11)
  clear HB_11 ER_11 BB_11 OX_11 R2x_11 R3x_11 VB_11 R5x_11 R6x_11 NB_11 R8x_11 R9x_11 OY_0
  clear b11
  obtain ⟨a11, c11, rfl, q11⟩ := sback_slice2 R11.out
  have R11x_0 := hid (q11)
  clear q11 R11
  dsimp only
  go_wp2_with (fail)
  refine (C12.out _ (own_ints OY_12.out)).mono ?_
  rintro e w12 ⟨⟨v12, rfl, r12⟩, b12⟩
  have R12 := hid r12
  clear r12
  have HB_13 := hid (HB_12.out.trans (b12.mono HB_12.out.size))
  have ER_13 := hid (errs_below ER_12.out b12)
  have BB_13 := hid (byi_below BB_12.out b12)
  have OX_13 := hid (sown_below OX_12.out b12)
  have R2x_13 := hid (fback_below R2x_12.out b12)
  have R3x_13 := hid (fback_below R3x_12.out b12)
  have VB_13 := hid (fb_below VB_12.out b12)
  have R5x_13 := hid (back_below R5x_12.out b12)
  have R6x_13 := hid (back_below R6x_12.out b12)
  have NB_13 := hid (fb_below NB_12.out b12)
  have R8x_13 := hid (back_below R8x_12.out b12)
  have R9x_13 := hid (back_below R9x_12.out b12)
  have OY_13 := hid (own_below OY_12.out b12)
  have R11x_13 := hid (sback_below R11x_0.out b12)
  clear HB_12 ER_12 BB_12 OX_12 R2x_12 R3x_12 VB_12 R5x_12 R6x_12 NB_12 R8x_12 R9x_12 OY_12 R11x_0
  clear b12
  obtain ⟨a12, c12, rfl, q12⟩ := sback_slice2 R12.out
  have R12x_0 := hid (q12)
  clear q12 R12
  dsimp only
  have n1 : (cs != cs) = false := by simp
  have n2 : (ts != ts) = false := by simp
  have n3 : (ls != ls) = false := by simp
  have n4 : (fs != fs) = false := by simp
  have HVS := HVC.out
  try dsimp only at HVS
  subst HVS
  go_wp2_with (fail)
  refine (f6frs a2 a3 c2 c3 cl _ HCN.out (R2x_13.out) (R3x_13.out)).mono ?_
  rintro e w13 ⟨rfl, b13⟩
  have HB_14 := hid (HB_13.out.trans (b13.mono HB_13.out.size))
  have ER_14 := hid (errs_below ER_13.out b13)
  have BB_14 := hid (byi_below BB_13.out b13)
  have OX_14 := hid (sown_below OX_13.out b13)
  have R2x_14 := hid (fback_below R2x_13.out b13)
  have R3x_14 := hid (fback_below R3x_13.out b13)
  have VB_14 := hid (fb_below VB_13.out b13)
  have R5x_14 := hid (back_below R5x_13.out b13)
  have R6x_14 := hid (back_below R6x_13.out b13)
  have NB_14 := hid (fb_below NB_13.out b13)
  have R8x_14 := hid (back_below R8x_13.out b13)
  have R9x_14 := hid (back_below R9x_13.out b13)
  have OY_14 := hid (own_below OY_13.out b13)
  have R11x_14 := hid (sback_below R11x_13.out b13)
  have R12x_14 := hid (sback_below R12x_0.out b13)
  clear HB_13 ER_13 BB_13 OX_13 R2x_13 R3x_13 VB_13 R5x_13 R6x_13 NB_13 R8x_13 R9x_13 OY_13 R11x_13 R12x_0
  clear b13
  go_wp2_with (fail)
  refine (f6ints a5 a6 c5 c6 tl _ HTN.out (back_arg R5x_14.out) (back_arg R6x_14.out)).mono ?_
  rintro e w14 ⟨rfl, b14⟩
  have HB_15 := hid (HB_14.out.trans (b14.mono HB_14.out.size))
  have ER_15 := hid (errs_below ER_14.out b14)
  have BB_15 := hid (byi_below BB_14.out b14)
  have OX_15 := hid (sown_below OX_14.out b14)
  have R2x_15 := hid (fback_below R2x_14.out b14)
  have R3x_15 := hid (fback_below R3x_14.out b14)
  have VB_15 := hid (fb_below VB_14.out b14)
  have R5x_15 := hid (back_below R5x_14.out b14)
  have R6x_15 := hid (back_below R6x_14.out b14)
  have NB_15 := hid (fb_below NB_14.out b14)
  have R8x_15 := hid (back_below R8x_14.out b14)
  have R9x_15 := hid (back_below R9x_14.out b14)
  have OY_15 := hid (own_below OY_14.out b14)
  have R11x_15 := hid (sback_below R11x_14.out b14)
  have R12x_15 := hid (sback_below R12x_14.out b14)
  clear HB_14 ER_14 BB_14 OX_14 R2x_14 R3x_14 VB_14 R5x_14 R6x_14 NB_14 R8x_14 R9x_14 OY_14 R11x_14 R12x_14
  clear b14
  go_wp2_with (fail)
  refine (f6ints a8 a9 c8 c9 ll _ HLN.out (back_arg R8x_15.out) (back_arg R9x_15.out)).mono ?_
  rintro e w15 ⟨rfl, b15⟩
  have HB_16 := hid (HB_15.out.trans (b15.mono HB_15.out.size))
  have ER_16 := hid (errs_below ER_15.out b15)
  have BB_16 := hid (byi_below BB_15.out b15)
  have OX_16 := hid (sown_below OX_15.out b15)
  have R2x_16 := hid (fback_below R2x_15.out b15)
  have R3x_16 := hid (fback_below R3x_15.out b15)
  have VB_16 := hid (fb_below VB_15.out b15)
  have R5x_16 := hid (back_below R5x_15.out b15)
  have R6x_16 := hid (back_below R6x_15.out b15)
  have NB_16 := hid (fb_below NB_15.out b15)
  have R8x_16 := hid (back_below R8x_15.out b15)
  have R9x_16 := hid (back_below R9x_15.out b15)
  have OY_16 := hid (own_below OY_15.out b15)
  have R11x_16 := hid (sback_below R11x_15.out b15)
  have R12x_16 := hid (sback_below R12x_15.out b15)
  clear HB_15 ER_15 BB_15 OX_15 R2x_15 R3x_15 VB_15 R5x_15 R6x_15 NB_15 R8x_15 R9x_15 OY_15 R11x_15 R12x_15
  clear b15
  go_wp2_with (fail)
  have hfd : decide (fl = fl) = true := by simp
  have SM := hid (specSame a11 a12 c11 c12 fl fl _ HFN.out HFN.out (sback_argS R11x_16.out) (sback_argS R12x_16.out))
  rw [hfd] at SM
  clear hfd
  refine (SM.out).mono ?_
  rintro e w16 ⟨rfl, b16⟩
  have HB_17 := hid (HB_16.out.trans (b16.mono HB_16.out.size))
  have ER_17 := hid (errs_below ER_16.out b16)
  have BB_17 := hid (byi_below BB_16.out b16)
  have OX_17 := hid (sown_below OX_16.out b16)
  have R2x_17 := hid (fback_below R2x_16.out b16)
  have R3x_17 := hid (fback_below R3x_16.out b16)
  have VB_17 := hid (fb_below VB_16.out b16)
  have R5x_17 := hid (back_below R5x_16.out b16)
  have R6x_17 := hid (back_below R6x_16.out b16)
  have NB_17 := hid (fb_below NB_16.out b16)
  have R8x_17 := hid (back_below R8x_16.out b16)
  have R9x_17 := hid (back_below R9x_16.out b16)
  have OY_17 := hid (own_below OY_16.out b16)
  have R11x_17 := hid (sback_below R11x_16.out b16)
  have R12x_17 := hid (sback_below R12x_16.out b16)
  clear HB_16 ER_16 BB_16 OX_16 R2x_16 R3x_16 VB_16 R5x_16 R6x_16 NB_16 R8x_16 R9x_16 OY_16 R11x_16 R12x_16
  clear b16
  clear SM C2 C3 C4 C5 C6 C8 C9 C11 C12
  by_cases hls : ls = 0
  case neg =>
    have hl2 : (ls == 0) = false := by simpa using hls
    clear hls HLE
    by_cases hvs : vs = 0
    case neg =>
      have hv2 : (vs != 0) = true := by simpa using hvs
      go_wp2_with (fail)
      go_ret
      exact ⟨rfl, HB_17.out⟩
    have hv2 : (vs != 0) = false := by simp [hvs]
    obtain ⟨t1, t2⟩ := HTV.out hvs
    have hp := HTP.out hvs
    have hvv := HVV.out hvs
    have hcl := (HCL.out hvs).1
    have hxx := HOK.out hvs
    rw [hvs] at t2
    try dsimp only at hp hcl hvv
    obtain ⟨g5, e5, o5⟩ : ∃ g5, a5 = some ⟨g5, 0, none⟩ ∧ Own _ _ g5 c5 tl := by
      rcases R5x_17.out with ⟨_, h0⟩ | ⟨g5, c5', h5, h6⟩
      · rw [h0] at hp; simp at hp
      · simp only [Value.slice.injEq] at h5; obtain ⟨h7, _, h8⟩ := h5; subst h8; exact ⟨g5, h7, h6⟩
    subst e5
    have VT := hid (implVal g5 c5 tl _ (by have := HTN.out; omega) (own_cap o5) (own_ints o5))
    rw [t2] at VT
    have hc1 : 1 ≤ cl.length := by omega
    have hc6 : cl.length ≤ 60 := by omega
    obtain ⟨⟨y0, y1⟩, hy⟩ : ∃ y, cl[cl.length - 1]? = some y := ⟨_, List.getElem?_eq_getElem (by omega)⟩
    have hyd : cl.getD (cl.length - 1) (0, 0) = (y0, y1) := by rw [List.getD_eq_getElem?_getD, hy]; rfl
    rw [hyd] at hvv
    simp only [Prod.mk.injEq] at hvv
    obtain ⟨hva, hvb, _⟩ := hvv
    have HY := hid (show cl[cl.length - 1]? = some (va, vb) by rw [hy, hva, hvb])
    have u1 : ((cl.length : Int) - 1).toNat = cl.length - 1 := by omega
    have u2 : (0 : Int) ≤ (cl.length : Int) - 1 := by omega
    have u3 : ((cl.length : Int) - 1) < (cl.length : Int) := by omega
    clear o5 t1 t2 hp hcl hxx hyd hy hva hvb hvs
    go_wp2_with (fail)
    refine VT.out.mono ?_
    rintro e w20 ⟨rfl, b20⟩
    have VB9 := hid (fb_below (VB_17.out) b20)
    have CB9 := hid (fback_below (R3x_17.out) b20)
    have HB9 := hid ((HB_17.out).trans (b20.mono (HB_17.out).size))
    have bA : Below w20.heap.size w20 (w20.alloc (.cells #[.int .i64 va, .int .i64 vb] 30)) := (Below.refl _ _).alloc (Nat.le_refl _) _
    obtain ⟨z0, z1, _, _, _⟩ := fb_cells (fb_below VB9.out bA)
    obtain ⟨z2, z3, _, _, _⟩ := fb_cells (fb_new w20 va vb)
    obtain ⟨g3, rfl, z4, z5⟩ := fback_at (fback_below CB9.out bA) HY.out
    try dsimp only at z4 z5
    have HB10 := hid (HB9.out.trans (bA.mono HB9.out.size))
    have m1 : (va == va) = true := by simp
    have m2 : (vb == vb) = true := by simp
    clear b20 bA VT
    dsimp only [valV]
    go_wp2_with (fail)
    go_quiet (fail)
    go_wp2_with (fail)
    go_ret
    exact ⟨rfl, below_drewN HB10.out _⟩
  have hl2 : (ls == 0) = true := by simpa using hls
  have HLE2 := hid (HLE.out hls)
  clear hls HLE
  go_wp2_with (fail)
  go_loopw [25, 26, 27] (fun u25 _ _ wr => ∃ k : Nat, u25 = .int .i64 ((k : Int) + 1) ∧ k ≤ 4 ∧ Below w16.heap.size w16 wr) (fun u25 _ _ _ => (6 : Int).toNat - (RowKit.intOf u25).toNat)
  case atStart => exact ⟨0, rfl, by omega, Below.refl _ _⟩
  case round =>
    obtain ⟨k, rfl, hk4, hbel⟩ := hrel
    have HBEL := hid hbel
    clear hbel
    by_cases hlt : k < 4
    · have hlt1 : (k : Int) + 1 ≤ 4 := by omega
      have hen := HLE2.out k hlt
      have hkl : k < ll.length := (List.getElem?_eq_some_iff.1 hen).1
      obtain ⟨g9, h9, z9⟩ : ∃ g9, a9 = some ⟨g9, 0, none⟩ ∧ Ints wr g9 0 ll := by
        rcases back_below R9x_17.out HBEL.out with ⟨_, h0⟩ | ⟨g9, c9', h5, h6⟩
        · rw [h0] at hkl; simp at hkl
        · simp only [Value.slice.injEq] at h5; obtain ⟨h7, _, _⟩ := h5; exact ⟨g9, h7, own_ints h6⟩
      subst h9
      have HZ9 := hid (ints_at z9 hen)
      have HG9 := hid (World.block_lt_of_cell? _ _ HZ9.out)
      have XP := hid (implExpandS n d ((k : Int) + 1) b0 b1 b2 b3 wr (errs_below ER_17.out HBEL.out))
      have HXL := hid (show (expS n d ((k : Int) + 1)).1.length ≤ 60 from expS_len _ _ _)
      obtain ⟨z0, z1, _, _, _⟩ := fb_cells (fb_below NB_17.out HBEL.out)
      unfold lenK at HZ9
      clear z9 hen
      generalize expS n d ((k : Int) + 1) = ex at *
      obtain ⟨el, es⟩ := ex
      have i1 : (k : Int) + 1 - 1 = (k : Int) := by omega
      have i2 : (k : Int) < (ll.length : Int) := by omega
      have i3 : (0 : Int) ≤ (k : Int) := by omega
      try dsimp only at HZ9
      go_wp2_with (fail)
      refine XP.out.mono ?_
      rintro e v1 ⟨⟨v, rfl, r1⟩, b1⟩
      have E1 := hid (HBEL.out.trans (b1.mono HBEL.out.size))
      obtain ⟨ax, cx, rfl, _⟩ := sback_slice2 r1
      have hz := (b1.cell (p := ⟨g9, k, none⟩) HG9.out).trans HZ9.out
      clear r1 b1 z0 z1 HZ9 XP
      try dsimp only
      try dsimp only at hz
      by_cases hes : es = 0
      · rw [if_pos hes] at hz
        have x1 : (es == 0) = true := by simp [hes]
        have x2 : (es != 0) = false := by simp [hes]
        have x3 : ((el.length : Int) != (el.length : Int)) = false := by simp
        clear hes
        go_wp2_with (fail)
        go_roundw
        case rel => exact ⟨k + 1, by go_num, by omega, E1.out⟩
        case measure => simp [RowKit.intOf]; omega
      · rw [if_neg hes] at hz
        have x1 : (es == 0) = false := by simp [hes]
        have x2 : (es != 0) = true := by simp [hes]
        clear hes
        go_wp2_with (fail)
        go_roundw
        case rel => exact ⟨k + 1, by go_num, by omega, E1.out⟩
        case measure => simp [RowKit.intOf]; omega
    · have hlt1 : ¬ (k : Int) + 1 ≤ 4 := by omega
      by_cases hvs : vs = 0
      case neg =>
        have hv2 : (vs != 0) = true := by simpa using hvs
        go_wp2_with (fail)
        go_ret
        exact ⟨rfl, HB_17.out.trans (HBEL.out.mono HB_17.out.size)⟩
      have hv2 : (vs != 0) = false := by simp [hvs]
      obtain ⟨t1, t2⟩ := HTV.out hvs
      have hp := HTP.out hvs
      have hvv := HVV.out hvs
      have hcl := (HCL.out hvs).1
      have hxx := HOK.out hvs
      rw [hvs] at t2
      try dsimp only at hp hcl hvv
      obtain ⟨g5, e5, o5⟩ : ∃ g5, a5 = some ⟨g5, 0, none⟩ ∧ Own _ _ g5 c5 tl := by
        rcases back_below R5x_17.out HBEL.out with ⟨_, h0⟩ | ⟨g5, c5', h5, h6⟩
        · rw [h0] at hp; simp at hp
        · simp only [Value.slice.injEq] at h5; obtain ⟨h7, _, h8⟩ := h5; subst h8; exact ⟨g5, h7, h6⟩
      subst e5
      have VT := hid (implVal g5 c5 tl _ (by have := HTN.out; omega) (own_cap o5) (own_ints o5))
      rw [t2] at VT
      have hc1 : 1 ≤ cl.length := by omega
      have hc6 : cl.length ≤ 60 := by omega
      obtain ⟨⟨y0, y1⟩, hy⟩ : ∃ y, cl[cl.length - 1]? = some y := ⟨_, List.getElem?_eq_getElem (by omega)⟩
      have hyd : cl.getD (cl.length - 1) (0, 0) = (y0, y1) := by rw [List.getD_eq_getElem?_getD, hy]; rfl
      rw [hyd] at hvv
      simp only [Prod.mk.injEq] at hvv
      obtain ⟨hva, hvb, _⟩ := hvv
      have HY := hid (show cl[cl.length - 1]? = some (va, vb) by rw [hy, hva, hvb])
      have u1 : ((cl.length : Int) - 1).toNat = cl.length - 1 := by omega
      have u2 : (0 : Int) ≤ (cl.length : Int) - 1 := by omega
      have u3 : ((cl.length : Int) - 1) < (cl.length : Int) := by omega
      clear o5 t1 t2 hp hcl hxx hyd hy hva hvb hvs
      go_wp2_with (fail)
      refine VT.out.mono ?_
      rintro e w20 ⟨rfl, b20⟩
      have VB9 := hid (fb_below (fb_below VB_17.out HBEL.out) b20)
      have CB9 := hid (fback_below (fback_below R3x_17.out HBEL.out) b20)
      have HB9 := hid ((HB_17.out.trans (HBEL.out.mono HB_17.out.size)).trans (b20.mono (HB_17.out.trans (HBEL.out.mono HB_17.out.size)).size))
      have bA : Below w20.heap.size w20 (w20.alloc (.cells #[.int .i64 va, .int .i64 vb] 30)) := (Below.refl _ _).alloc (Nat.le_refl _) _
      obtain ⟨z0, z1, _, _, _⟩ := fb_cells (fb_below VB9.out bA)
      obtain ⟨z2, z3, _, _, _⟩ := fb_cells (fb_new w20 va vb)
      obtain ⟨g3, rfl, z4, z5⟩ := fback_at (fback_below CB9.out bA) HY.out
      try dsimp only at z4 z5
      have HB10 := hid (HB9.out.trans (bA.mono HB9.out.size))
      have m1 : (va == va) = true := by simp
      have m2 : (vb == vb) = true := by simp
      clear b20 bA VT
      dsimp only [valV]
      go_wp2_with (fail)
      go_quiet (fail)
      go_wp2_with (fail)
      go_ret
      exact ⟨rfl, below_drewN HB10.out _⟩

end Go.Proofs.YtipegemhcmfnmaaDoor.pSignedValues
