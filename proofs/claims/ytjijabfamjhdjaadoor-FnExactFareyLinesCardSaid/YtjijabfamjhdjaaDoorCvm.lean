/- Mathematics: the convergents of the terms by Euclid, and of the other form, are plain, follow one another as neighbours, and end with the fraction. -/
import Derived.Test.YtjijabfamjhdjaaDoorKt
import Derived.Test.YtjijabfamjhdjaaDoorTm2
namespace Go.Proofs.YtjijabfamjhdjaaDoor

def Unit1 (x : Int) : Prop := x = 1 ∨ x = -1
theorem unit_gc {p q a b : Int} (h : Unit1 (p * b - q * a)) : gc p q = 1 := by
  have h1 : gc p q ∣ 1 := by
    have h2 : gc p q ∣ p * b - q * a := Int.dvd_sub (Int.dvd_mul_of_dvd_left (gc_dvd_left p q)) (Int.dvd_mul_of_dvd_left (gc_dvd_right p q))
    rcases h with h | h
    · rwa [h] at h2
    · rw [h] at h2
      exact Int.dvd_neg.1 h2
  have h3 := Int.le_of_dvd (by omega) h1
  have h4 := gc_nonneg p q
  have h5 : gc p q ≠ 0 := by
    intro e
    rw [e] at h1
    have := Int.zero_dvd.1 h1
    omega
  omega
theorem det_step {p q pp qq t : Int} (h : Unit1 (p * qq - q * pp)) : Unit1 ((t * p + pp) * q - (t * q + qq) * p) := by
  have : (t * p + pp) * q - (t * q + qq) * p = -(p * qq - q * pp) := by
    rw [Int.add_mul, Int.add_mul, Int.mul_assoc, Int.mul_assoc, Int.mul_comm q p, Int.mul_comm pp q, Int.mul_comm qq p]; omega
  rw [this]
  rcases h with h | h <;> rw [h]
  · exact .inr rfl
  · exact .inl rfl

/-- Convergents that follow one another. -/
theorem cv_nb : ∀ {xs : List Int} {p q pp qq : Int} {l : List (Int × Int)}, cv p q pp qq xs = some l → Unit1 (p * qq - q * pp) →
    (∀ a, l[0]? = some a → Unit1 (a.1 * q - a.2 * p)) ∧ ∀ i a b, l[i]? = some a → l[i + 1]? = some b → Unit1 (b.1 * a.2 - b.2 * a.1)
  | [], p, q, pp, qq, l, h, _ => by
    have : l = [] := by simpa [cv] using h.symm
    subst this
    exact ⟨fun a h => by simp at h, fun i a b h => by simp at h⟩
  | t :: r, p, q, pp, qq, l, h, hd => by
    cases ho : okF (t * p + pp) (t * q + qq)
    · rw [cv_no ho] at h; simp at h
    · rw [cv_yes ho] at h
      obtain ⟨l', h1, rfl⟩ := Option.map_eq_some_iff.1 h
      obtain ⟨n1, n2⟩ := cv_nb h1 (det_step hd)
      refine ⟨fun a ha => ?_, fun i a b ha hb => ?_⟩
      · have : (t * p + pp, t * q + qq) = a := by simpa using ha
        subst this
        exact det_step hd
      · cases i with
        | zero =>
          have : (t * p + pp, t * q + qq) = a := by simpa using ha
          subst this
          exact n1 b (by simpa using hb)
        | succ i => exact n2 i a b (by simpa using ha) (by simpa using hb)
theorem cv_plain : ∀ {xs : List Int} {p q pp qq : Int} {l : List (Int × Int)}, cv p q pp qq xs = some l → ∀ a ∈ l, okF a.1 a.2 = true
  | [], p, q, pp, qq, l, h => by
    have : l = [] := by simpa [cv] using h.symm
    subst this
    intro a ha; simp at ha
  | t :: r, p, q, pp, qq, l, h => by
    cases ho : okF (t * p + pp) (t * q + qq)
    · rw [cv_no ho] at h; simp at h
    · rw [cv_yes ho] at h
      obtain ⟨l', h1, rfl⟩ := Option.map_eq_some_iff.1 h
      intro a ha
      rcases List.mem_cons.1 ha with rfl | ha
      · exact ho
      · exact cv_plain h1 a ha

/-- A numerator is bounded by that of the fraction. -/
theorem num_bd {p d n q v : Int} (hd : 0 < d) (hq : q ≤ d) (hq0 : 0 ≤ q) (hv : v ≤ d) (h : p * d = n * q + v ∨ p * d = n * q - v) (hv0 : 0 ≤ v) (N : Int) (h1 : -N ≤ n) (h2 : n ≤ N) : -(N + 1) ≤ p ∧ p ≤ N + 1 := by
  have e1 : n * q ≤ N * q := Int.mul_le_mul_of_nonneg_right h2 hq0
  have e2 : (-N) * q ≤ n * q := Int.mul_le_mul_of_nonneg_right h1 hq0
  have e3 : N * q ≤ N * d := Int.mul_le_mul_of_nonneg_left hq (by omega)
  rw [Int.neg_mul] at e2
  have e5 : (N + 1) * d = N * d + d := by rw [Int.add_mul]; omega
  constructor
  · refine Int.le_of_mul_le_mul_right (a := d) ?_ hd
    rw [Int.neg_mul, e5]; omega
  · refine Int.le_of_mul_le_mul_right (a := d) ?_ hd
    rw [e5]; omega

/-- Terms by Euclid, in the other form. -/
def eo (u v : Int) : List Int := if _h : v ≤ 0 then [] else if u % v = 0 then [u / v - 1, 1] else u / v :: eo v (u % v)
termination_by v.toNat
decreasing_by
  have := Int.emod_lt_of_pos u (b := v) (by omega)
  omega
theorem eo_last {u v : Int} (h : 0 < v) (h0 : u % v = 0) : eo u v = [u / v - 1, 1] := by rw [eo]; simp [show ¬ v ≤ 0 by omega, h0]
theorem eo_step {u v : Int} (h : 0 < v) (h0 : u % v ≠ 0) : eo u v = u / v :: eo v (u % v) := by rw [eo]; simp [show ¬ v ≤ 0 by omega, h0]
theorem eo_other : ∀ (k : Nat) (u v : Int), v.toNat ≤ k → 0 < v → (eu u v).set ((eu u v).length - 1) ((eu u v).getD ((eu u v).length - 1) 0 - 1) ++ [1] = eo u v
  | 0, u, v, hk, h => by omega
  | k + 1, u, v, hk, h => by
    have r1 := Int.emod_nonneg u (b := v) (by omega)
    have r2 := Int.emod_lt_of_pos u (b := v) (by omega)
    rw [eu_step h]
    by_cases h0 : u % v = 0
    · rw [eo_last h h0, eu_end (by omega)]; rfl
    · have ih := eo_other k v (u % v) (by omega) (by omega)
      rw [eo_step h h0, ← ih]
      have hl : 1 ≤ (eu v (u % v)).length := by rw [eu_step (by omega)]; simp
      generalize eu v (u % v) = xs at hl
      obtain ⟨m, hm⟩ : ∃ m, xs.length = m + 1 := ⟨xs.length - 1, by omega⟩
      simp [hm]

theorem eu_inv {p q pp qq u v n d : Int} (_hv : 0 < v) (hn : n = p * u + pp * v) (hd : d = q * u + qq * v) : n = (u / v * p + pp) * v + p * (u % v) ∧ d = (u / v * q + qq) * v + q * (u % v) := by
  have e := Int.emod_add_mul_ediv u v
  constructor
  · rw [hn]
    conv => lhs; rw [← e]
    rw [Int.mul_add, Int.add_mul]
    have : p * (v * (u / v)) = u / v * p * v := by rw [Int.mul_comm v, ← Int.mul_assoc, Int.mul_comm p]
    omega
  · rw [hd]
    conv => lhs; rw [← e]
    rw [Int.mul_add, Int.add_mul]
    have : q * (v * (u / v)) = u / v * q * v := by rw [Int.mul_comm v, ← Int.mul_assoc, Int.mul_comm q]
    omega

/-- One step: the next convergent is plain. -/
theorem cv_one {p q pp qq u v n d N : Int} (hv : 0 < v) (hn : n = p * u + pp * v) (hd : d = q * u + qq * v) (hdet : Unit1 (p * qq - q * pp)) (hC : (q = 0 ∧ qq = 1) ∨ (1 ≤ q ∧ 0 ≤ qq ∧ v ≤ u))
    (hN : N ≤ 999999999) (h1 : -N ≤ n) (h2 : n ≤ N) (hd2 : d ≤ 1000000000) : okF (u / v * p + pp) (u / v * q + qq) = true ∧ 1 ≤ u / v * q + qq ∧ 0 ≤ q ∧ v ≤ d := by
  obtain ⟨i1, i2⟩ := eu_inv hv hn hd
  have r1 := Int.emod_nonneg u (b := v) (by omega)
  have r2 := Int.emod_lt_of_pos u hv
  have hq0 : 0 ≤ q := by omega
  have hq1 : 1 ≤ u / v * q + qq := by
    rcases hC with ⟨e1, e2⟩ | ⟨c1, c2, c3⟩
    · subst e1 e2; omega
    · have ht : 1 ≤ u / v := by rw [Int.le_ediv_iff_mul_le hv]; omega
      have : 1 * q ≤ u / v * q := Int.mul_le_mul_of_nonneg_right ht hq0
      omega
  have hdet' := det_step (t := u / v) hdet
  generalize u / v * p + pp = p' at *
  generalize u / v * q + qq = q' at *
  generalize u % v = v' at *
  have m1 : q' * 1 ≤ q' * v := Int.mul_le_mul_of_nonneg_left (by omega) (by omega)
  have m2 : 0 ≤ q * v' := Int.mul_nonneg hq0 r1
  have m3 : 1 * v ≤ q' * v := Int.mul_le_mul_of_nonneg_right hq1 (by omega)
  have hpd : p' * d = n * q' + v' ∨ p' * d = n * q' - v' := by
    have e : p' * d - n * q' = (p' * q - q' * p) * v' := by
      rw [i1, i2, Int.mul_add, Int.add_mul, Int.sub_mul]
      have a1 : p' * (q' * v) = p' * v * q' := by rw [← Int.mul_assoc, Int.mul_right_comm]
      have a2 : p' * (q * v') = p' * q * v' := by rw [← Int.mul_assoc]
      have a3 : p * v' * q' = q' * p * v' := by rw [Int.mul_comm (p * v') q', ← Int.mul_assoc]
      omega
    rcases hdet' with h | h
    · rw [h] at e; left; omega
    · rw [h] at e; right; omega
  have hb := num_bd (p := p') (d := d) (n := n) (q := q') (v := v') (by omega) (by omega) (by omega) (by omega) hpd r1 N h1 h2
  exact ⟨okF_iff.2 ⟨by omega, by omega, by omega, by omega, unit_gc hdet'⟩, hq1, hq0, by omega⟩

theorem cv_eu (N n d : Int) (hN : N ≤ 999999999) (h1 : -N ≤ n) (h2 : n ≤ N) (hd2 : d ≤ 1000000000) (hg : gc n d = 1) : ∀ (k : Nat) (p q pp qq u v : Int), v.toNat ≤ k → 0 < v → n = p * u + pp * v → d = q * u + qq * v → Unit1 (p * qq - q * pp) → ((q = 0 ∧ qq = 1) ∨ (1 ≤ q ∧ 0 ≤ qq ∧ v ≤ u)) →
    ∃ l, cv p q pp qq (eu u v) = some l ∧ l.getLast? = some (n, d)
  | 0, p, q, pp, qq, u, v, hk, hv, _, _, _, _ => by omega
  | k + 1, p, q, pp, qq, u, v, hk, hv, hn, hd, hdet, hC => by
    obtain ⟨ho, hq1, hq0, hvd⟩ := cv_one hv hn hd hdet hC hN h1 h2 hd2
    obtain ⟨i1, i2⟩ := eu_inv hv hn hd
    have r1 := Int.emod_nonneg u (b := v) (by omega)
    have r2 := Int.emod_lt_of_pos u hv
    rw [eu_step hv, cv_yes ho]
    by_cases h0 : u % v ≤ 0
    · have h0' : u % v = 0 := by omega
      rw [eu_end h0]
      rw [h0', Int.mul_zero, Int.add_zero] at i1 i2
      have hv1 : v ∣ 1 := by
        have h3 : (v : Int) ∣ (Int.gcd n d : Int) := Int.dvd_coe_gcd ⟨_, by rw [i1, Int.mul_comm]⟩ ⟨_, by rw [i2, Int.mul_comm]⟩
        have : (Int.gcd n d : Int) = 1 := hg
        rwa [this] at h3
      have hv2 : v = 1 := by have := Int.le_of_dvd (by omega) hv1; omega
      refine ⟨[(u / v * p + pp, u / v * q + qq)], rfl, ?_⟩
      rw [List.getLast?_singleton]
      rw [hv2, Int.mul_one] at i1 i2
      rw [hv2, i1, i2]
    · obtain ⟨l, hl1, hl2⟩ := cv_eu N n d hN h1 h2 hd2 hg k (u / v * p + pp) (u / v * q + qq) p q v (u % v) (by omega) (by omega) i1 i2 (det_step hdet) (.inr ⟨hq1, hq0, by omega⟩)
      refine ⟨_, by rw [hl1]; rfl, ?_⟩
      cases l with
      | nil => simp at hl2
      | cons x y => rw [List.getLast?_cons_cons]; exact hl2

theorem cv_eo (N n d : Int) (hN : N ≤ 999999999) (h1 : -N ≤ n) (h2 : n ≤ N) (hd2 : d ≤ 1000000000) (hg : gc n d = 1) : ∀ (k : Nat) (p q pp qq u v : Int), v.toNat ≤ k → 0 < v → n = p * u + pp * v → d = q * u + qq * v → Unit1 (p * qq - q * pp) → ((q = 0 ∧ qq = 1) ∨ (1 ≤ q ∧ 0 ≤ qq ∧ v < u)) →
    ∃ l, cv p q pp qq (eo u v) = some l ∧ l.getLast? = some (n, d)
  | 0, p, q, pp, qq, u, v, hk, hv, _, _, _, _ => by omega
  | k + 1, p, q, pp, qq, u, v, hk, hv, hn, hd, hdet, hC => by
    obtain ⟨ho, hq1, hq0, hvd⟩ := cv_one hv hn hd hdet (by omega) hN h1 h2 hd2
    obtain ⟨i1, i2⟩ := eu_inv hv hn hd
    have r1 := Int.emod_nonneg u (b := v) (by omega)
    have r2 := Int.emod_lt_of_pos u hv
    by_cases h0 : u % v = 0
    · rw [eo_last hv h0]
      rw [h0, Int.mul_zero, Int.add_zero] at i1 i2
      have hv1 : v ∣ 1 := by
        have h3 : (v : Int) ∣ (Int.gcd n d : Int) := Int.dvd_coe_gcd ⟨_, by rw [i1, Int.mul_comm]⟩ ⟨_, by rw [i2, Int.mul_comm]⟩
        have : (Int.gcd n d : Int) = 1 := hg
        rwa [this] at h3
      have hv2 : v = 1 := by have := Int.le_of_dvd (by omega) hv1; omega
      subst hv2
      rw [Int.mul_one] at i1 i2
      have hu : u / 1 = u := Int.ediv_one u
      rw [hu] at ho hq1 i1 i2 ⊢
      have d1 := det_step (t := u - 1) hdet
      have d2 := det_step (t := 1) d1
      have f1 : 1 * ((u - 1) * p + pp) + p = n := by rw [i1, Int.sub_mul]; omega
      have f2 : 1 * ((u - 1) * q + qq) + q = d := by rw [i2, Int.sub_mul]; omega
      have g1 : 1 ≤ (u - 1) * q + qq := by
        rcases hC with ⟨e1, e2⟩ | ⟨c1, c2, c3⟩
        · subst e1 e2; omega
        · have : 1 * q ≤ (u - 1) * q := Int.mul_le_mul_of_nonneg_right (by omega) hq0
          omega
      have g2 : (u - 1) * q + qq ≤ d := by omega
      have ho1 : okF ((u - 1) * p + pp) ((u - 1) * q + qq) = true := by
        rw [f1, f2] at d2
        generalize (u - 1) * p + pp = p1 at *
        generalize (u - 1) * q + qq = q1 at *
        have hpd : p1 * d = n * q1 + 1 ∨ p1 * d = n * q1 - 1 := by
          rw [Int.mul_comm d p1] at d2
          rcases d2 with h | h
          · right; omega
          · left; omega
        have hb := num_bd (p := p1) (d := d) (n := n) (q := q1) (v := 1) (by omega) g2 (by omega) (by omega) hpd (by omega) N h1 h2
        exact okF_iff.2 ⟨by omega, by omega, by omega, by omega, unit_gc d1⟩
      have ho2 : okF (1 * ((u - 1) * p + pp) + p) (1 * ((u - 1) * q + qq) + q) = true := by
        rw [f1, f2, i1, i2]; exact ho
      rw [cv_yes ho1, cv_yes ho2]
      refine ⟨_, rfl, ?_⟩
      show some (1 * ((u - 1) * p + pp) + p, 1 * ((u - 1) * q + qq) + q) = _
      rw [f1, f2]
    · obtain ⟨l, hl1, hl2⟩ := cv_eo N n d hN h1 h2 hd2 hg k (u / v * p + pp) (u / v * q + qq) p q v (u % v) (by omega) (by omega) i1 i2 (det_step hdet) (.inr ⟨hq1, hq0, by omega⟩)
      rw [eo_step hv h0, cv_yes ho]
      refine ⟨_, by rw [hl1]; rfl, ?_⟩
      cases l with
      | nil => simp at hl2
      | cons x y => rw [List.getLast?_cons_cons]; exact hl2

end Go.Proofs.YtjijabfamjhdjaaDoor
