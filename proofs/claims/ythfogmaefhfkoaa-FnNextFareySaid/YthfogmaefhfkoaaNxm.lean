/- Mathematics: the least fraction behind another one, found among one for each denominator. -/
import Derived.Test.YthfogmaefhfkoaaMath
namespace Go.Proofs.Ythfogmaefhfkoaa

/-- The numerator of the least fraction with a denominator behind another one. -/
def nxX (n d den : Int) : Int := n * den / d + 1
def nxt (n d : Int) : Nat → Int × Int
  | 0 => (1, 1)
  | k + 1 => if nxX n d ((k : Int) + 1) * (nxt n d k).2 - (nxt n d k).1 * ((k : Int) + 1) < 0 then (nxX n d ((k : Int) + 1), (k : Int) + 1) else nxt n d k
theorem nxt_new {n d : Int} {k : Nat} {x a b : Int} (h : nxt n d k = (a, b)) (hx : nxX n d ((k : Int) + 1) = x) (h1 : x * b - a * ((k : Int) + 1) < 0) : nxt n d (k + 1) = (x, (k : Int) + 1) := by rw [nxt, h, hx, if_pos h1]
theorem nxt_old {n d : Int} {k : Nat} {x a b : Int} (h : nxt n d k = (a, b)) (hx : nxX n d ((k : Int) + 1) = x) (h1 : ¬ x * b - a * ((k : Int) + 1) < 0) : nxt n d (k + 1) = (a, b) := by rw [nxt, h, hx, if_neg h1]
theorem nxX_bd {n d den : Int} (h : 0 ≤ n) (h1 : n ≤ d) (hd : 1 ≤ d) (hk : 0 ≤ den) : 1 ≤ nxX n d den ∧ nxX n d den ≤ den + 1 := by
  unfold nxX
  have a : 0 ≤ n * den / d := Int.ediv_nonneg (Int.mul_nonneg h hk) (by omega)
  have b : n * den ≤ d * den := Int.mul_le_mul_of_nonneg_right h1 hk
  have c : n * den / d ≤ d * den / d := Int.ediv_le_ediv (by omega) b
  rw [Int.mul_ediv_cancel_left _ (by omega)] at c
  omega
theorem nxt_bd {n d : Int} (h : 0 ≤ n) (h1 : n ≤ d) (hd : 1 ≤ d) : ∀ (k : Nat), 1 ≤ (nxt n d k).1 ∧ (nxt n d k).1 ≤ k + 1 ∧ 1 ≤ (nxt n d k).2 ∧ (nxt n d k).2 ≤ k + 1
  | 0 => by simp [nxt]
  | k + 1 => by
    have ih := nxt_bd h h1 hd k
    have hx := nxX_bd (n := n) (d := d) (den := (k : Int) + 1) h h1 hd (by omega)
    obtain ⟨p, hp⟩ : ∃ p, nxt n d k = p := ⟨_, rfl⟩
    obtain ⟨a, b⟩ := p
    rw [hp] at ih
    dsimp only at ih
    by_cases h2 : nxX n d ((k : Int) + 1) * b - a * ((k : Int) + 1) < 0
    · rw [nxt_new hp rfl h2]
      dsimp only
      refine ⟨hx.1, ?_, ?_, ?_⟩ <;> push_cast <;> omega
    · rw [nxt_old hp rfl h2]
      dsimp only
      refine ⟨ih.1, ?_, ih.2.2.1, ?_⟩ <;> push_cast <;> omega
theorem nxt_one {n d : Int} (h : 0 ≤ n) (h1 : n < d) : nxt n d 1 = (1, 1) := by
  have e : nxX n d ((0 : Nat) + 1) = 1 := by
    unfold nxX
    rw [show ((0 : Nat) + 1 : Int) = 1 from rfl, Int.mul_one, Int.ediv_eq_zero_of_lt h h1]
    rfl
  exact nxt_old (k := 0) rfl e (by simp)

end Go.Proofs.Ythfogmaefhfkoaa
