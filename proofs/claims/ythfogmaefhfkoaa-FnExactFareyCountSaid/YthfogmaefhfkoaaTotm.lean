/- Mathematics: how many numbers have no common divisor with another one, as both texts count them. -/
import Derived.Test.YthfogmaefhfkoaaMath
namespace Go.Proofs.Ythfogmaefhfkoaa

def strip : Nat → Int → Int → Int
  | 0, _, r => r
  | k + 1, p, r => if r % p = 0 then strip k p (r / p) else r
theorem strip_yes {k : Nat} {p r : Int} (h : r % p = 0) : strip (k + 1) p r = strip k p (r / p) := by rw [strip, if_pos h]
theorem strip_no {k : Nat} {p r : Int} (h : r % p ≠ 0) : strip k p r = r := by
  cases k with
  | zero => rfl
  | succ k => rw [strip, if_neg h]
theorem div_half {p r : Int} (hp : 2 ≤ p) (hr : 1 ≤ r) (h : r % p = 0) : 1 ≤ r / p ∧ 2 * (r / p) ≤ r := by
  have e := Int.emod_add_mul_ediv r p
  rw [h] at e
  have h1 : 1 ≤ r / p := by
    by_cases h0 : r / p ≤ 0
    · have : p * (r / p) ≤ 0 := Int.mul_nonpos_of_nonneg_of_nonpos (by omega) h0
      omega
    · omega
  refine ⟨h1, ?_⟩
  have : 2 * (r / p) ≤ p * (r / p) := Int.mul_le_mul_of_nonneg_right hp (by omega)
  omega
theorem strip_bd : ∀ (k : Nat) {p r : Int}, 2 ≤ p → 1 ≤ r → 1 ≤ strip k p r ∧ strip k p r ≤ r
  | 0, p, r, hp, hr => ⟨hr, Int.le_refl _⟩
  | k + 1, p, r, hp, hr => by
    by_cases h : r % p = 0
    · rw [strip_yes h]
      obtain ⟨h1, h2⟩ := div_half hp hr h
      have := strip_bd k hp h1
      omega
    · rw [strip_no h]; omega
/-- One prime is counted out, or not. -/
def less6 (p r c : Int) : Int := if r % p = 0 then c - c / p else c
def totL : Nat → Int → Int → Int → Int
  | 0, _, _, c => c
  | k + 1, p, r, c => if p * p ≤ r then totL k (p + 1) (strip 20 p r) (less6 p r c) else if 1 < r then c - c / r else c
def phi (n : Int) : Int := totL 1001 2 n n
theorem totL_go {k : Nat} {p r c : Int} (h : p * p ≤ r) : totL (k + 1) p r c = totL k (p + 1) (strip 20 p r) (less6 p r c) := by rw [totL, if_pos h]
theorem totL_end {k : Nat} {p r c : Int} (h : ¬ p * p ≤ r) (h1 : 1 < r) : totL (k + 1) p r c = c - c / r := by rw [totL, if_neg h, if_pos h1]
theorem totL_one {k : Nat} {p r c : Int} (h : ¬ p * p ≤ r) (h1 : ¬ 1 < r) : totL (k + 1) p r c = c := by rw [totL, if_neg h, if_neg h1]
theorem sub_div_bd {c p : Int} (hp : 1 ≤ p) (hc : 0 ≤ c) : 0 ≤ c - c / p ∧ c - c / p ≤ c ∧ 0 ≤ c / p ∧ c / p ≤ c := by
  have h1 := Int.ediv_nonneg hc (show 0 ≤ p by omega)
  have h2 := Int.ediv_le_self p hc
  omega
theorem less_bd {p r c : Int} (hp : 1 ≤ p) (hc : 0 ≤ c) : 0 ≤ less6 p r c ∧ less6 p r c ≤ c := by
  unfold less6
  split
  · have := sub_div_bd hp hc; omega
  · omega
theorem sq_small {p r : Int} (hp : 2 ≤ p) (h : p * p ≤ r) (hr : r ≤ 1000000) : p ≤ 1000 := by
  by_cases h1 : p ≤ 1000
  · exact h1
  · have : 1001 * 1001 ≤ p * p := Int.mul_le_mul (by omega) (by omega) (by omega) (by omega)
    omega
theorem sq_bd {p : Int} (hp : 2 ≤ p) (h1 : p ≤ 1001) : 4 ≤ p * p ∧ p * p ≤ 1002001 := by
  have a : 2 * 2 ≤ p * p := Int.mul_le_mul hp hp (by omega) (by omega)
  have b : p * p ≤ 1001 * 1001 := Int.mul_le_mul h1 h1 (by omega) (by omega)
  omega
theorem totL_bd : ∀ (k : Nat) {p r c : Int}, 2 ≤ p → 1 ≤ r → 0 ≤ c → 0 ≤ totL k p r c ∧ totL k p r c ≤ c
  | 0, p, r, c, hp, hr, hc => ⟨hc, Int.le_refl _⟩
  | k + 1, p, r, c, hp, hr, hc => by
    by_cases h : p * p ≤ r
    · rw [totL_go h]
      have h1 := less_bd (p := p) (r := r) (by omega) hc
      have h2 := strip_bd 20 hp hr
      have := totL_bd k (p := p + 1) (r := strip 20 p r) (c := less6 p r c) (by omega) h2.1 h1.1
      omega
    · by_cases h1 : 1 < r
      · rw [totL_end h h1]
        have := sub_div_bd (c := c) (p := r) (by omega) hc
        omega
      · rw [totL_one h h1]; omega
theorem phi_bd {n : Int} (h : 1 ≤ n) : 0 ≤ phi n ∧ phi n ≤ n := totL_bd 1001 (by omega) h (by omega)

end Go.Proofs.Ythfogmaefhfkoaa
