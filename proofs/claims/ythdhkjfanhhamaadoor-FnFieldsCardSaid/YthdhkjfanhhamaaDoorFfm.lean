/- The arithmetic behind the law on fields. -/
import Derived.Test.YthdhkjfanhhamaaDoorAr5
import Derived.Test.YthdhkjfanhhamaaDoorAr3
import Derived.Test.YthdhkjfanhhamaaDoorMath2
namespace Go.Proofs.YthdhkjfanhhamaaDoor

/-- Lowest terms: the same value, a positive denominator, nothing in common, no greater. -/
theorem low_form {x y : Int} (hy : 1 ≤ y) : lowN x y * y = x * lowD x y ∧ 1 ≤ lowD x y ∧ gc (lowN x y) (lowD x y) = 1 ∧ (lowN x y).natAbs ≤ x.natAbs ∧ lowD x y ≤ y := by
  have hg : lowG x y = gc x y := by unfold lowG; rw [if_neg (by omega)]
  have hp : 1 ≤ gc x y := gc_pos x y (by omega)
  obtain ⟨a, ha⟩ := gc_dvd_left x y
  obtain ⟨b, hb⟩ := gc_dvd_right x y
  have hN : lowN x y = a := by
    unfold lowN
    rw [hg]
    conv => lhs; arg 1; rw [ha]
    exact Int.mul_tdiv_cancel_left a (by omega)
  have hD : lowD x y = b := by
    unfold lowD
    rw [hg]
    conv => lhs; arg 1; rw [hb]
    exact Int.mul_tdiv_cancel_left b (by omega)
  have hb1 : 1 ≤ b := by
    rcases Int.lt_trichotomy b 0 with h | h | h
    · have := Int.mul_neg_of_pos_of_neg (show 0 < gc x y by omega) h; omega
    · rw [h] at hb; omega
    · omega
  have hco : gc a b = 1 := by
    have e : gc x y = gc x y * gc a b := by
      conv => lhs; rw [show gc x y = gc (gc x y * a) (gc x y * b) by rw [← ha, ← hb]]
      unfold gc
      rw [Int.gcd_mul_left]
      simp
    have : gc x y * 1 = gc x y * gc a b := by rw [Int.mul_one]; exact e
    exact (Int.eq_of_mul_eq_mul_left (by omega) this).symm
  have bN := tdiv_bd x (lowG x y)
  rw [hN, hD]
  refine ⟨?_, hb1, hco, ?_, ?_⟩
  · conv => lhs; rw [hb]
    conv => rhs; rw [ha]
    rw [Int.mul_left_comm, Int.mul_assoc]
  · rw [← hN]; exact bN
  · have : 1 * b ≤ gc x y * b := Int.mul_le_mul_of_nonneg_right hp (by omega)
    omega

theorem low_ok {x y : Int} (hy : 1 ≤ y) (h2 : y ≤ 1000000000) (h3 : x.natAbs ≤ 1000000000) : okF (lowN x y) (lowD x y) = true ∧ lowT x y = (lowN x y, lowD x y, 0) := by
  obtain ⟨_, a, b, c, d⟩ := low_form (x := x) hy
  have : okF (lowN x y) (lowD x y) = true := okF_iff.2 ⟨a, by omega, by omega, by omega, b⟩
  exact ⟨this, by unfold lowT; rw [this]; rfl⟩

/-- The plain fraction of a value. -/
theorem low_is {n d x y : Int} (h : okF n d = true) (hy : 1 ≤ y) (e : x * d = n * y) : lowT x y = (n, d, 0) := by
  obtain ⟨h1, h2, h3, _, _⟩ := low_form (x := x) hy
  have ho := okF_iff.1 h
  have e2 : y * (lowN x y * d) = y * (n * lowD x y) := by
    have : lowN x y * y * d = x * lowD x y * d := by rw [h1]
    rw [Int.mul_right_comm, Int.mul_right_comm x, e] at this
    rw [Int.mul_comm, this, Int.mul_comm n y, Int.mul_assoc]
  have e3 : lowN x y * d = n * lowD x y := Int.eq_of_mul_eq_mul_left (by omega) e2
  obtain ⟨e4, e5⟩ := plain_unique h3 ho.2.2.2.2 (by omega) (by omega) e3
  unfold lowT
  rw [e4, e5, h]; rfl

theorem sgn_same {a b p q : Int} (hp : 1 ≤ p) (hq : 1 ≤ q) (e : a * p = b * q) : sgn a = sgn b := by
  unfold sgn
  rcases Int.lt_trichotomy a 0 with h | h | h
  · have h1 : a * p < 0 := Int.mul_neg_of_neg_of_pos h (by omega)
    have h2 : b < 0 := by
      rcases Int.lt_or_le b 0 with h3 | h3
      · exact h3
      · have := Int.mul_nonneg h3 (show 0 ≤ q by omega); omega
    rw [if_pos h, if_pos h2]
  · have h2 : b = 0 := by
      rw [h, Int.zero_mul] at e
      rcases Int.mul_eq_zero.1 e.symm with h3 | h3
      · exact h3
      · omega
    rw [h, h2]
  · have h1 : 0 < a * p := Int.mul_pos h (by omega)
    have h2 : 0 < b := by
      rcases Int.lt_or_le 0 b with h3 | h3
      · exact h3
      · have := Int.mul_nonpos_of_nonpos_of_nonneg h3 (show 0 ≤ q by omega); omega
    rw [if_neg (by omega), if_neg (by omega), if_neg (by omega), if_neg (by omega)]

theorem sgn_neg (a : Int) : sgn (-a) = -sgn a := by
  unfold sgn
  rcases Int.lt_trichotomy a 0 with h | h | h
  · rw [if_neg (by omega), if_neg (by omega), if_pos h]; rfl
  · subst h; rfl
  · rw [if_pos (by omega), if_neg (by omega), if_neg (by omega)]

theorem sgn_zero (a : Int) : sgn a = 0 ↔ a = 0 := by
  unfold sgn
  rcases Int.lt_trichotomy a 0 with h | h | h
  · rw [if_pos h]; omega
  · rw [if_neg (by omega), if_pos h]; omega
  · rw [if_neg (by omega), if_neg (by omega)]; omega

/-- What is added is taken away again. -/
theorem add_sub {n d m f S D : Int} (h1 : okF n d = true) (h2 : okF m f = true) (h3 : okF S D = true) (e : S * (d * f) = (n * f + m * d) * D) :
    twoT S D m f (lowT (S * f - m * D) (D * f)) = (n, d, 0) := by
  have a := (okF_iff.1 h3).1
  have b := (okF_iff.1 h2).1
  unfold twoT
  rw [h3, h2]
  refine low_is h1 (mul_pos1 a b) ?_
  rw [Int.sub_mul]
  have e1 : S * f * d = S * (d * f) := by rw [Int.mul_assoc, Int.mul_comm f d]
  have e2 : (n * f + m * d) * D = n * f * D + m * D * d := by rw [Int.add_mul, Int.mul_right_comm m d D]
  have e3 : n * (D * f) = n * f * D := by rw [Int.mul_comm D f, Int.mul_assoc]
  rw [e1, e, e2, e3]
  omega

/-- What is multiplied is divided again. -/
theorem mul_div {n d m f P Q : Int} (h1 : okF n d = true) (h2 : okF m f = true) (h3 : okF P Q = true) (h0 : m ≠ 0) (e : P * (d * f) = (n * m) * Q) :
    divT P Q m f = (n, d, 0) := by
  have a := (okF_iff.1 h3).1
  have b := (okF_iff.1 h2).1
  unfold divT twoT
  rw [h3, h2, if_neg h0]
  have e1 : P * f * d = n * (Q * m) := by
    rw [Int.mul_assoc, Int.mul_comm f d, e, Int.mul_assoc, Int.mul_comm m Q]
  rcases Int.lt_or_le m 0 with hm | hm
  · have hy : 1 ≤ Q * -m := mul_pos1 a (by omega)
    have := low_is (x := -(P * f)) (y := Q * -m) h1 hy (by rw [Int.neg_mul, e1, Int.mul_neg, Int.mul_neg])
    have h5 := lowT_neg (n := -(P * f)) (d := Q * -m) (by omega)
    rw [Int.neg_neg, Int.mul_neg, Int.neg_neg] at h5
    rw [Int.mul_neg] at this
    show lowT (P * f) (Q * m) = _
    rw [h5]; exact this
  · exact low_is h1 (mul_pos1 a (by omega)) e1

theorem mid_left {n d m f M E : Int} (hd : 1 ≤ d) (hf : 1 ≤ f) (hE : 1 ≤ E) (e : M * (d + f) = (n + m) * E) : sgn (n * E - M * d) = sgn (n * f - m * d) := by
  refine sgn_same (p := d + f) (q := E) (by omega) hE ?_
  have e1 : M * d * (d + f) = (n + m) * E * d := by rw [Int.mul_right_comm, e]
  rw [Int.sub_mul, e1]
  simp only [Int.mul_add, Int.add_mul, Int.sub_mul]
  rw [Int.mul_right_comm n E d, Int.mul_right_comm n E f, Int.mul_right_comm m E d]
  omega
theorem mid_right {n d m f M E : Int} (hd : 1 ≤ d) (hf : 1 ≤ f) (hE : 1 ≤ E) (e : M * (d + f) = (n + m) * E) : sgn (M * f - m * E) = sgn (n * f - m * d) := by
  refine sgn_same (p := d + f) (q := E) (by omega) hE ?_
  have e1 : M * f * (d + f) = (n + m) * E * f := by rw [Int.mul_right_comm, e]
  rw [Int.sub_mul, e1]
  simp only [Int.mul_add, Int.add_mul, Int.sub_mul]
  rw [Int.mul_right_comm n E f, Int.mul_right_comm m E d, Int.mul_right_comm m E f]
  omega

end Go.Proofs.YthdhkjfanhhamaaDoor
