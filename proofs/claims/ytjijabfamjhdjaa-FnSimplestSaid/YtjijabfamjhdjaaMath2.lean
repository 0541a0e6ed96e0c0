/- The numbers in lowest terms are those of a plain fraction. -/
import Derived.Test.YtjijabfamjhdjaaMath
namespace Go.Proofs.Ytjijabfamjhdjaa

theorem low_plain {n d : Int} (hd : 1 ≤ d) (h2 : d ≤ 1000000000) (h3 : -1000000000 ≤ n) (h4 : n ≤ 1000000000) :
    okF (lowN n d) (lowD n d) = true ∧ lowD n d ≤ d ∧ (lowN n d).natAbs ≤ n.natAbs := by
  have hg : lowG n d = gc n d := by unfold lowG; rw [if_neg (by omega)]
  have hp := gc_pos n d (by omega)
  have hN : lowN n d = n.tdiv (gc n d) := by unfold lowN; rw [hg]
  have hD : lowD n d = d.tdiv (gc n d) := by unfold lowD; rw [hg]
  have b1 := tdiv_bd n (gc n d)
  have b2 := tdiv_bd d (gc n d)
  have hd1 : 1 ≤ lowD n d := by
    rw [hD, Int.tdiv_eq_ediv_of_nonneg (by omega)]
    have := gc_le_right n d (by omega)
    exact (Int.le_ediv_iff_mul_le (by omega)).2 (by omega)
  have hc : gc (lowN n d) (lowD n d) = 1 := by
    rw [hN, hD]
    unfold gc Int.gcd
    rw [Int.natAbs_tdiv, Int.natAbs_tdiv]
    have e : ((n.natAbs.gcd d.natAbs : Nat) : Int).natAbs = n.natAbs.gcd d.natAbs := rfl
    rw [e]
    have := Nat.gcd_div_gcd_div_gcd_of_pos_right (n := n.natAbs) (m := d.natAbs) (by omega)
    exact congrArg _ this
  rw [← hN] at b1
  rw [← hD] at b2
  refine ⟨okF_iff.2 ⟨hd1, by omega, by omega, by omega, hc⟩, by omega, b1⟩

/-- What is multiplied by a positive number has the same lowest terms. -/
theorem low_mul {n d k : Int} (hk : 1 ≤ k) (hd : 1 ≤ d) (hg : gc n d = 1) : lowN (-k * n) (-k * d) = n ∧ lowD (-k * n) (-k * d) = d := by
  have e : gc (-k * n) (-k * d) = k := by
    have h1 : gc (-k * n) (-k * d) = (k.natAbs * Int.gcd n d : Nat) := by
      unfold gc
      rw [Int.neg_mul, Int.neg_mul, Int.neg_gcd, Int.gcd_neg, Int.gcd_mul_left]
    have h2 : Int.gcd n d = 1 := by unfold gc at hg; omega
    rw [h1, h2]; omega
  have hneg : -k * d < 0 := by
    have : 0 < k * d := Int.mul_pos (by omega) (by omega)
    rw [Int.neg_mul]; omega
  have hG : lowG (-k * n) (-k * d) = -k := by unfold lowG; rw [if_pos hneg, e]
  unfold lowN lowD
  rw [hG]
  exact ⟨Int.mul_tdiv_cancel_left _ (by omega), Int.mul_tdiv_cancel_left _ (by omega)⟩

theorem floor_le {n d : Int} (hd : 1 ≤ d) : n / d * d ≤ n ∧ n < (n / d + 1) * d := by
  have h1 := Int.mul_ediv_add_emod n d
  have h2 := Int.emod_nonneg n (show d ≠ 0 by omega)
  have h3 := Int.emod_lt_of_pos n (show 0 < d by omega)
  rw [Int.add_mul, Int.one_mul, Int.mul_comm (n / d) d]
  omega

theorem floor_bd {n d M : Int} (hd : 1 ≤ d) (h1 : -M ≤ n) (h2 : n ≤ M) (hM : 0 ≤ M) : -M ≤ n / d ∧ n / d ≤ M := by
  have h := floor_le (n := n) hd
  constructor
  · rcases Int.lt_or_le (n / d) (-M) with hc | hc
    · have : (n / d + 1) * d ≤ -M * 1 := by
        have h3 : (n / d + 1) * d ≤ (n / d + 1) * 1 := Int.mul_le_mul_of_nonpos_left (by omega) (by omega)
        omega
      omega
    · exact hc
  · rcases Int.lt_or_le M (n / d) with hc | hc
    · have : n / d * 1 ≤ n / d * d := Int.mul_le_mul_of_nonneg_left (by omega) (by omega)
      omega
    · exact hc

end Go.Proofs.Ytjijabfamjhdjaa
