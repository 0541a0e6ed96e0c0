/- Mathematics: terms by Euclid are ordered as the fractions are; how many they are; the other form. -/
import Derived.Test.YtjijabfamjhdjaaDoorTm
import Derived.Test.YtjijabfamjhdjaaDoorAr5
namespace Go.Proofs.YtjijabfamjhdjaaDoor

theorem sgn_pos {x : Int} (h : 0 < x) : sgn x = 1 := by unfold sgn; rw [if_neg (by omega), if_neg (by omega)]
theorem sgn_neg {x : Int} (h : x < 0) : sgn x = -1 := by unfold sgn; rw [if_pos h]
theorem sgn_zero {x : Int} (h : x = 0) : sgn x = 0 := by unfold sgn; rw [if_neg (by omega), if_pos h]
theorem sgn_opp (x : Int) : sgn (-x) = -sgn x := by
  rcases Int.lt_trichotomy x 0 with h | h | h
  · rw [sgn_neg h, sgn_pos (by omega)]; rfl
  · rw [sgn_zero h, sgn_zero (by omega)]; rfl
  · rw [sgn_pos h, sgn_neg (by omega)]

theorem cmp_lt {n d m f : Int} (hd : 0 < d) (hf : 0 < f) (h : n / d < m / f) : n * f - m * d < 0 := by
  have h1 := Int.emod_add_mul_ediv n d
  have h2 := Int.emod_add_mul_ediv m f
  have h3 := Int.emod_lt_of_pos n hd
  have h4 := Int.emod_nonneg m (b := f) (by omega)
  have h5 : d * f * (n / d + 1) ≤ d * f * (m / f) := Int.mul_le_mul_of_nonneg_left (by omega) (Int.le_of_lt (Int.mul_pos hd hf))
  have e1 : n * f = (n % d) * f + d * f * (n / d) := by
    conv => lhs; rw [← h1]
    rw [Int.add_mul]; congr 1; rw [Int.mul_assoc, Int.mul_assoc, Int.mul_comm (n / d) f]
  have e2 : m * d = (m % f) * d + d * f * (m / f) := by
    conv => lhs; rw [← h2]
    rw [Int.add_mul]; congr 1; rw [Int.mul_comm d f, Int.mul_assoc, Int.mul_assoc, Int.mul_comm (m / f) d]
  have h6 : (n % d) * f < d * f := Int.mul_lt_mul_of_pos_right h3 hf
  have h7 : 0 ≤ (m % f) * d := Int.mul_nonneg h4 (by omega)
  rw [Int.mul_add, Int.mul_one] at h5
  omega

theorem cmp_eu : ∀ (k : Nat) (s n d m f : Int), d.toNat ≤ k → 0 < d → 0 < f → cmpL s (eu n d) (eu m f) = s * sgn (n * f - m * d)
  | 0, s, n, d, m, f, hk, hd, hf => by omega
  | k + 1, s, n, d, m, f, hk, hd, hf => by
    rw [eu_step hd, eu_step hf]
    unfold cmpL
    by_cases h1 : n / d < m / f
    · rw [if_pos h1, sgn_neg (cmp_lt hd hf h1)]; omega
    · rw [if_neg h1]
      by_cases h2 : m / f < n / d
      · have := cmp_lt hf hd h2
        rw [if_pos h2, sgn_pos (by omega)]; omega
      · rw [if_neg h2]
        have h3 : n / d = m / f := by omega
        have r1 := Int.emod_nonneg n (b := d) (by omega)
        have r2 := Int.emod_lt_of_pos n hd
        have r3 := Int.emod_nonneg m (b := f) (by omega)
        have r4 := Int.emod_lt_of_pos m hf
        have e : n * f - m * d = (n % d) * f - (m % f) * d := by
          have e1 := Int.emod_add_mul_ediv n d
          have e2 := Int.emod_add_mul_ediv m f
          have e3 : n * f = (n % d) * f + d * f * (n / d) := by
            conv => lhs; rw [← e1]
            rw [Int.add_mul]; congr 1; rw [Int.mul_assoc, Int.mul_assoc, Int.mul_comm (n / d) f]
          have e4 : m * d = (m % f) * d + d * f * (m / f) := by
            conv => lhs; rw [← e2]
            rw [Int.add_mul]; congr 1; rw [Int.mul_comm d f, Int.mul_assoc, Int.mul_assoc, Int.mul_comm (m / f) d]
          rw [e3, e4, h3]
          omega
        rw [e]
        generalize n % d = a at *
        generalize m % f = b at *
        by_cases ha : a ≤ 0
        · have ha0 : a = 0 := by omega
          subst ha0
          rw [eu_end (num := d) (Int.le_refl 0)]
          by_cases hb : b ≤ 0
          · have hb0 : b = 0 := by omega
            subst hb0
            rw [eu_end (num := f) (Int.le_refl 0), sgn_zero (by simp)]
            simp [cmpL]
          · rw [eu_step (num := f) (by omega), sgn_neg (by have := Int.mul_pos (a := b) (b := d) (by omega) hd; omega)]
            simp [cmpL, Int.mul_neg]
        · by_cases hb : b ≤ 0
          · have hb0 : b = 0 := by omega
            subst hb0
            rw [eu_end (num := f) (Int.le_refl 0), eu_step (num := d) (den := a) (by omega), sgn_pos (by have := Int.mul_pos (a := a) (b := f) (by omega) hf; omega)]
            simp [cmpL]
          · rw [cmp_eu k (-s) d a f b (by omega) (by omega) (by omega)]
            have : sgn (a * f - b * d) = -sgn (d * b - f * a) := by
              rw [← sgn_opp, Int.mul_comm d b, Int.mul_comm f a]
              congr 1; omega
            rw [this, Int.neg_mul, Int.mul_neg]

theorem eu_length : ∀ (k : Nat) (n d : Int), d < 2 ^ k → (eu n d).length ≤ 2 * k
  | 0, n, d, h => by rw [eu_end (by omega)]; simp
  | k + 1, n, d, h => by
    by_cases hd : d ≤ 0
    · rw [eu_end hd]; simp
    have r1 := Int.emod_nonneg n (b := d) (by omega)
    have r2 := Int.emod_lt_of_pos n (b := d) (by omega)
    rw [eu_step (by omega)]
    by_cases hr : n % d ≤ 0
    · rw [eu_end hr]; simp; omega
    · have s1 := Int.emod_nonneg d (b := n % d) (by omega)
      have s2 := Int.emod_lt_of_pos d (b := n % d) (by omega)
      rw [eu_step (by omega)]
      have hp : (2 : Int) ^ (k + 1) = 2 * 2 ^ k := by rw [Int.pow_succ]; omega
      have h3 : d % (n % d) < 2 ^ k := by
        by_cases hh : 2 * (n % d) ≤ d
        · omega
        · have e := Int.emod_add_mul_ediv d (n % d)
          have hq : 1 ≤ d / (n % d) := by
            rw [Int.le_ediv_iff_mul_le (by omega)]; omega
          have : (n % d) * 1 ≤ (n % d) * (d / (n % d)) := Int.mul_le_mul_of_nonneg_left hq (by omega)
          omega
      have := eu_length k (n % d) (d % (n % d)) h3
      simp only [List.length_cons]
      omega

/-- The terms behind the first one are from 1 to the denominator. -/
theorem eu_terms : ∀ (k : Nat) (n d : Int), d.toNat ≤ k → 0 ≤ d → d ≤ n → ∀ x ∈ eu n d, 1 ≤ x ∧ x ≤ n
  | 0, n, d, hk, h0, h => by rw [eu_end (by omega)]; simp
  | k + 1, n, d, hk, h0, h => by
    by_cases hd : d ≤ 0
    · rw [eu_end hd]; simp
    have r1 := Int.emod_nonneg n (b := d) (by omega)
    have r2 := Int.emod_lt_of_pos n (b := d) (by omega)
    rw [eu_step (by omega)]
    intro x hx
    rcases List.mem_cons.1 hx with rfl | hx
    · refine ⟨?_, ?_⟩
      · rw [Int.le_ediv_iff_mul_le (by omega)]; omega
      · exact Int.ediv_le_self _ (by omega)
    · have := eu_terms k d (n % d) (by omega) r1 (by omega) x hx
      omega

theorem eu_ok {n d : Int} {k : Nat} (hd : 0 < d) (h : d < 2 ^ k) (hk : k ≤ 30) (h1 : -1000000000 ≤ n) (h2 : n ≤ 1000000000) (h3 : d ≤ 1000000000) : okT (eu n d) = true := by
  have hl := eu_length k n d h
  rw [eu_step hd] at hl ⊢
  rw [okT_cons]
  have r1 := Int.emod_nonneg n (b := d) (by omega)
  have r2 := Int.emod_lt_of_pos n (b := d) (by omega)
  simp only [List.length_cons] at hl
  refine ⟨⟨?_, ?_⟩, by omega, fun x hx => ?_⟩
  · rw [Int.le_ediv_iff_mul_le hd]
    have : (-1000000000) * d ≤ (-1000000000) * 1 := Int.mul_le_mul_of_nonpos_left (by omega) (by omega)
    omega
  · refine Int.ediv_le_of_le_mul hd ?_
    have : 1000000000 * 1 ≤ 1000000000 * d := Int.mul_le_mul_of_nonneg_left (by omega) (by omega)
    omega
  · have := eu_terms (n % d).toNat d (n % d) (Nat.le_refl _) r1 (by omega) x hx
    omega

/-- The last term is not 1, unless it is the only one. -/
theorem eu_last : ∀ (k : Nat) (n d : Int), d.toNat ≤ k → 0 < d → d < n → (eu n d).getLast? ≠ some 1
  | 0, n, d, hk, hd, h => by omega
  | k + 1, n, d, hk, hd, h => by
    have r1 := Int.emod_nonneg n (b := d) (by omega)
    have r2 := Int.emod_lt_of_pos n (b := d) (by omega)
    rw [eu_step hd]
    by_cases hr : n % d ≤ 0
    · rw [eu_end hr]
      intro e
      have e : n / d = 1 := by simpa using e
      have := Int.emod_add_mul_ediv n d
      rw [e] at this
      omega
    · have ih := eu_last k d (n % d) (by omega) (by omega) (by omega)
      rw [eu_step (num := d) (by omega)] at ih ⊢
      rw [List.getLast?_cons_cons]
      exact ih

theorem last_at (xs : List Int) : xs.getLast? = xs[xs.length - 1]? := by rw [List.getLast?_eq_getElem?]

theorem eu_short {n d : Int} (hd : 0 < d) : short (eu n d) = eu n d := by
  refine short_no fun ⟨h1, h2⟩ => ?_
  have r1 := Int.emod_nonneg n (b := d) (by omega)
  have r2 := Int.emod_lt_of_pos n (b := d) (by omega)
  rw [← last_at, eu_step hd] at h2
  rw [eu_step hd] at h1
  by_cases hr : n % d ≤ 0
  · rw [eu_end hr] at h1; simp at h1
  · have ih := eu_last _ d (n % d) (Nat.le_refl _) (by omega) (by omega)
    rw [eu_step (num := d) (by omega)] at ih h2
    rw [List.getLast?_cons_cons] at h2
    exact ih h2

/-- A list in short form gets the other form, and back. -/
theorem short_other {xs : List Int} (h : short xs = xs) (h1 : 1 ≤ xs.length) : short (other xs) = xs := by
  rw [other_of_short h]
  have hl : (xs.set (xs.length - 1) (xs.getD (xs.length - 1) 0 - 1) ++ [1]).length = xs.length + 1 := by simp
  rw [short_yes (by omega) (by rw [hl]; simp)]
  rw [hl]
  simp only [Nat.add_sub_cancel]
  rw [List.take_left' (by simp)]
  apply List.ext_getElem?
  intro j
  by_cases hj : j = xs.length - 1
  · subst hj
    rw [show xs.length + 1 - 2 = xs.length - 1 by omega, List.getElem?_set_self (by simp; omega)]
    have e1 : (xs.set (xs.length - 1) (xs.getD (xs.length - 1) 0 - 1) ++ [1]).getD (xs.length - 1) 0 = xs.getD (xs.length - 1) 0 - 1 := by
      rw [List.getD_eq_getElem?_getD, List.getElem?_append_left (by simp; omega), List.getElem?_set_self (by omega)]; rfl
    rw [e1, List.getElem?_eq_getElem (by omega : xs.length - 1 < xs.length)]
    rw [List.getD_eq_getElem?_getD, List.getElem?_eq_getElem (by omega : xs.length - 1 < xs.length)]
    simp
  · rw [show xs.length + 1 - 2 = xs.length - 1 by omega, List.getElem?_set_ne (by omega), List.getElem?_set_ne (by omega)]
theorem other_other {xs : List Int} (h : short xs = xs) (h1 : 1 ≤ xs.length) : other (other xs) = xs := by
  have h2 := short_other h h1
  have hl : (other xs).length = xs.length + 1 := by rw [other_of_short h]; simp
  unfold other
  rw [if_neg]
  · exact h2
  · change ¬ (short (other xs)).length = (other xs).length
    rw [h2, hl]; omega

/-- The other form of short terms are terms, if there is room. -/
theorem other_ok {xs : List Int} (h : okT xs = true) (hs : short xs = xs) (hl : xs.length ≤ 59) (h0 : -1000000000 < xs.getD 0 0) : okT (other xs) = true := by
  rw [other_of_short hs]
  have h1 := okT_len h
  have hf := okT_first h
  rw [okT_long (by simp; omega), Bool.and_eq_true]
  refine ⟨inB_yes ?_, List.all_eq_true.2 fun x hx => inB_yes ?_⟩
  · rw [List.getD_eq_getElem?_getD, List.getElem?_append_left (by simp; omega)]
    by_cases h2 : xs.length = 1
    · rw [h2, List.getElem?_set_self (by omega)]
      simp only [Nat.sub_self, Option.getD_some]
      omega
    · rw [List.getElem?_set_ne (by omega), ← List.getD_eq_getElem?_getD]; omega
  · obtain ⟨j, hj⟩ := List.mem_iff_getElem?.1 hx
    rw [List.getElem?_drop] at hj
    by_cases h3 : 1 + j < xs.length
    · rw [List.getElem?_append_left (by simp; omega)] at hj
      by_cases h4 : 1 + j = xs.length - 1
      · rw [h4, List.getElem?_set_self (by omega)] at hj
        have hj : xs.getD (xs.length - 1) 0 - 1 = x := by simpa using hj
        have e5 : xs[xs.length - 1]? = some (xs.getD (xs.length - 1) 0) := by rw [List.getD_eq_getElem?_getD, List.getElem?_eq_getElem (by omega : xs.length - 1 < xs.length)]; rfl
        have h6 := okT_at h (by omega) e5
        have h7 : xs.getD (xs.length - 1) 0 ≠ 1 := by
          intro e
          have := short_yes_len (xs := xs) (by omega) (by rw [e5, e])
          rw [hs] at this
          omega
        omega
      · rw [List.getElem?_set_ne (by omega)] at hj
        exact okT_at h (by omega) hj
    · rw [List.getElem?_append_right (by simp; omega)] at hj
      have : x = 1 := by
        have := List.mem_of_getElem? hj
        simpa using this
      omega

end Go.Proofs.YtjijabfamjhdjaaDoor
