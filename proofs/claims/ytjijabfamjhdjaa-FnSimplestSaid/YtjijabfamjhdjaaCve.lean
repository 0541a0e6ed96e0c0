/- Mathematics: the convergents of the terms by Euclid of any plain fraction end with that fraction. -/
import Derived.Test.YtjijabfamjhdjaaCvm
namespace Go.Proofs.Ytjijabfamjhdjaa

theorem num_bd2 {p d n q v : Int} (hd : 0 < d) (hd2 : d ≤ 1000000000) (hq : q ≤ d) (hq0 : 0 ≤ q) (hv : v ≤ d) (hqv : q = d → v = 0) (h : p * d = n * q + v ∨ p * d = n * q - v) (hv0 : 0 ≤ v) (h1 : -1000000000 ≤ n) (h2 : n ≤ 1000000000) : -1000000000 ≤ p ∧ p ≤ 1000000000 := by
  by_cases e : q = d
  · have hz := hqv e
    rw [hz, e] at h
    have : p * d = n * d := by omega
    have := Int.eq_of_mul_eq_mul_right (by omega) this
    omega
  · have e1 : n * q ≤ 1000000000 * q := Int.mul_le_mul_of_nonneg_right h2 hq0
    have e2 : (-1000000000) * q ≤ n * q := Int.mul_le_mul_of_nonneg_right h1 hq0
    constructor
    · refine Int.le_of_mul_le_mul_right (a := d) ?_ hd
      omega
    · refine Int.le_of_mul_le_mul_right (a := d) ?_ hd
      omega
/-- One step: the next convergent is plain. -/
theorem cv_one2 {p q pp qq u v n d : Int} (hv : 0 < v) (hn : n = p * u + pp * v) (hd : d = q * u + qq * v) (hdet : Unit1 (p * qq - q * pp)) (hC : (q = 0 ∧ qq = 1) ∨ (1 ≤ q ∧ 0 ≤ qq ∧ v ≤ u))
    (h1 : -1000000000 ≤ n) (h2 : n ≤ 1000000000) (hd2 : d ≤ 1000000000) : okF (u / v * p + pp) (u / v * q + qq) = true ∧ 1 ≤ u / v * q + qq ∧ 0 ≤ q ∧ v ≤ d := by
  obtain ⟨i1, i2⟩ := eu_inv hv hn hd
  have r1 := Int.emod_nonneg u (b := v) (by omega)
  have r2 := Int.emod_lt_of_pos u hv
  have hq0 : 0 ≤ q := by omega
  have hq1 : 1 ≤ u / v * q + qq := by
    rcases hC with ⟨e1, e2⟩ | ⟨c1, c2, c3⟩
    · subst e1 e2; omega
    · have ht : 1 ≤ u / v := by rw [Int.le_ediv_iff_mul_le hv]; omega
      have : 1 * q ≤ u / v * q := Int.mul_le_mul_of_nonneg_right ht hq0
      omega
  have hdet' := det_step (t := u / v) hdet
  generalize u / v * p + pp = p' at *
  generalize u / v * q + qq = q' at *
  generalize u % v = v' at *
  have m1 : q' * 1 ≤ q' * v := Int.mul_le_mul_of_nonneg_left (by omega) (by omega)
  have m2 : 0 ≤ q * v' := Int.mul_nonneg hq0 r1
  have m3 : 1 * v ≤ q' * v := Int.mul_le_mul_of_nonneg_right hq1 (by omega)
  have hpd : p' * d = n * q' + v' ∨ p' * d = n * q' - v' := by
    have e : p' * d - n * q' = (p' * q - q' * p) * v' := by
      rw [i1, i2, Int.mul_add, Int.add_mul, Int.sub_mul]
      have a1 : p' * (q' * v) = p' * v * q' := by rw [← Int.mul_assoc, Int.mul_right_comm]
      have a2 : p' * (q * v') = p' * q * v' := by rw [← Int.mul_assoc]
      have a3 : p * v' * q' = q' * p * v' := by rw [Int.mul_comm (p * v') q', ← Int.mul_assoc]
      omega
    rcases hdet' with h | h
    · rw [h] at e; left; omega
    · rw [h] at e; right; omega
  have m4 : q' = d → v' = 0 := by
    intro e
    by_cases hv2 : 2 ≤ v
    · have : q' * 2 ≤ q' * v := Int.mul_le_mul_of_nonneg_left hv2 (by omega)
      omega
    · omega
  have hb := num_bd2 (p := p') (d := d) (n := n) (q := q') (v := v') (by omega) hd2 (by omega) (by omega) (by omega) m4 hpd r1 h1 h2
  exact ⟨okF_iff.2 ⟨by omega, by omega, by omega, by omega, unit_gc hdet'⟩, hq1, hq0, by omega⟩

theorem cv_eu2 (n d : Int) (h1 : -1000000000 ≤ n) (h2 : n ≤ 1000000000) (hd2 : d ≤ 1000000000) (hg : gc n d = 1) : ∀ (k : Nat) (p q pp qq u v : Int), v.toNat ≤ k → 0 < v → n = p * u + pp * v → d = q * u + qq * v → Unit1 (p * qq - q * pp) → ((q = 0 ∧ qq = 1) ∨ (1 ≤ q ∧ 0 ≤ qq ∧ v ≤ u)) →
    ∃ l, cv p q pp qq (eu u v) = some l ∧ l.getLast? = some (n, d)
  | 0, p, q, pp, qq, u, v, hk, hv, _, _, _, _ => by omega
  | k + 1, p, q, pp, qq, u, v, hk, hv, hn, hd, hdet, hC => by
    obtain ⟨ho, hq1, hq0, hvd⟩ := cv_one2 hv hn hd hdet hC h1 h2 hd2
    obtain ⟨i1, i2⟩ := eu_inv hv hn hd
    have r1 := Int.emod_nonneg u (b := v) (by omega)
    have r2 := Int.emod_lt_of_pos u hv
    rw [eu_step hv, cv_yes ho]
    by_cases h0 : u % v ≤ 0
    · have h0' : u % v = 0 := by omega
      rw [eu_end h0]
      rw [h0', Int.mul_zero, Int.add_zero] at i1 i2
      have hv1 : v ∣ 1 := by
        have h3 : (v : Int) ∣ (Int.gcd n d : Int) := Int.dvd_coe_gcd ⟨_, by rw [i1, Int.mul_comm]⟩ ⟨_, by rw [i2, Int.mul_comm]⟩
        have : (Int.gcd n d : Int) = 1 := hg
        rwa [this] at h3
      have hv2 : v = 1 := by have := Int.le_of_dvd (by omega) hv1; omega
      refine ⟨[(u / v * p + pp, u / v * q + qq)], rfl, ?_⟩
      rw [List.getLast?_singleton]
      rw [hv2, Int.mul_one] at i1 i2
      rw [hv2, i1, i2]
    · obtain ⟨l, hl1, hl2⟩ := cv_eu2 n d h1 h2 hd2 hg k (u / v * p + pp) (u / v * q + qq) p q v (u % v) (by omega) (by omega) i1 i2 (det_step hdet) (.inr ⟨hq1, hq0, by omega⟩)
      refine ⟨_, by rw [hl1]; rfl, ?_⟩
      cases l with
      | nil => simp at hl2
      | cons x y => rw [List.getLast?_cons_cons]; exact hl2

theorem eu_val {n d : Int} (h : okF n d = true) : okT (eu n d) = true ∧ ∃ l, cv 1 0 0 1 (eu n d) = some l ∧ l.getLast? = some (n, d) := by
  obtain ⟨b1, b2, b3, b4, b5⟩ := okF_iff.1 h
  refine ⟨eu_ok (k := 30) (by omega) (by have : (2 : Int) ^ 30 = 1073741824 := by decide
                                         omega) (Nat.le_refl _) b3 b4 b2, ?_⟩
  exact cv_eu2 n d b3 b4 b2 b5 d.toNat 1 0 0 1 n d (Nat.le_refl _) (by omega) (by omega) (by omega) (.inl (by decide)) (.inl ⟨rfl, rfl⟩)

end Go.Proofs.Ytjijabfamjhdjaa
