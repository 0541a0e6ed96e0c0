/- Mathematics: the next element is plain, greater than the fraction, and the least such one. -/
import Derived.Test.YthfogmaefhfkoaaNxm
namespace Go.Proofs.Ythfogmaefhfkoaa

structure NxP (n d : Int) (k : Nat) (p : Int × Int) : Prop where
  gt : n * p.2 < p.1 * d
  den : 1 ≤ p.2 ∧ (p.2 ≤ k ∨ p.2 = 1)
  min : ∀ j : Nat, 1 ≤ j → j ≤ k → p.1 * j ≤ nxX n d j * p.2
  str : ∀ j : Nat, 1 ≤ j → (j : Int) < p.2 → p.1 * j < nxX n d j * p.2
theorem nxX_gt {n d j : Int} (hd : 1 ≤ d) : n * j < nxX n d j * d := by
  unfold nxX
  have := Int.lt_ediv_add_one_mul_self (n * j) (show 0 < d by omega)
  exact this
theorem nxX_le {n d j x : Int} (hd : 1 ≤ d) (h : n * j < x * d) : nxX n d j ≤ x := by
  unfold nxX
  have : n * j / d < x := Int.ediv_lt_of_lt_mul (by omega) h
  omega
theorem nxP : ∀ (k : Nat) {n d : Int}, 0 ≤ n → n < d → 1 ≤ d → NxP n d k (nxt n d k)
  | 0, n, d, h, h1, hd => ⟨by show n * 1 < 1 * d; omega, ⟨by show (1 : Int) ≤ 1; omega, .inr rfl⟩, fun j h2 h3 => by omega, fun j h2 h3 => by have h3 : (j : Int) < 1 := h3; omega⟩
  | k + 1, n, d, h, h1, hd => by
    have ih := nxP k h h1 hd
    obtain ⟨p, hp⟩ : ∃ p, nxt n d k = p := ⟨_, rfl⟩
    obtain ⟨a, b⟩ := p
    rw [hp] at ih
    obtain ⟨gt, ⟨b1, b2⟩, mn, st⟩ := ih
    dsimp only at gt b1 b2 mn st
    obtain ⟨x, hx⟩ : ∃ x, nxX n d ((k : Int) + 1) = x := ⟨_, rfl⟩
    by_cases hc : x * b - a * ((k : Int) + 1) < 0
    · rw [nxt_new hp hx hc]
      have lt : ∀ j : Nat, 1 ≤ j → j ≤ k → x * j < nxX n d j * ((k : Int) + 1) := fun j h2 h3 => by
        have m1 := mn j h2 h3
        have q1 : x * b * j < a * ((k : Int) + 1) * j := Int.mul_lt_mul_of_pos_right (by omega) (by omega)
        have q2 : a * j * ((k : Int) + 1) ≤ nxX n d j * b * ((k : Int) + 1) := Int.mul_le_mul_of_nonneg_right m1 (by omega)
        have e1 : x * b * j = x * j * b := Int.mul_right_comm _ _ _
        have e2 : a * ((k : Int) + 1) * j = a * j * ((k : Int) + 1) := Int.mul_right_comm _ _ _
        have e3 : nxX n d j * b * ((k : Int) + 1) = nxX n d j * ((k : Int) + 1) * b := Int.mul_right_comm _ _ _
        have q3 : x * j * b < nxX n d j * ((k : Int) + 1) * b := by omega
        exact Int.lt_of_mul_lt_mul_right q3 (by omega)
      refine ⟨?_, ⟨by dsimp only; omega, .inl (by dsimp only; omega)⟩, fun j h2 h3 => ?_, fun j h2 h3 => ?_⟩
      · dsimp only
        rw [← hx]; exact nxX_gt hd
      · dsimp only
        by_cases e : j = k + 1
        · subst e
          rw [show ((k + 1 : Nat) : Int) = (k : Int) + 1 by omega, hx]
          exact Int.le_refl _
        · exact Int.le_of_lt (lt j h2 (by omega))
      · dsimp only at h3 ⊢
        exact lt j h2 (by omega)
    · rw [nxt_old hp hx hc]
      refine ⟨gt, ⟨b1, ?_⟩, fun j h2 h3 => ?_, st⟩
      · rcases b2 with h | h
        · left; dsimp only; omega
        · right; exact h
      · dsimp only
        by_cases e : j = k + 1
        · subst e
          rw [show ((k + 1 : Nat) : Int) = (k : Int) + 1 by omega, hx]
          omega
        · exact mn j h2 (by omega)
/-- The next element is plain. -/
theorem nxt_ok {n d : Int} {k : Nat} (h : 0 ≤ n) (h1 : n < d) (hd : 1 ≤ d) (hk : k ≤ 10000) : okF (nxt n d k).1 (nxt n d k).2 = true := by
  have hb := nxt_bd (n := n) (d := d) h (Int.le_of_lt h1) hd k
  have hp := nxP k h h1 hd
  obtain ⟨p, hpe⟩ : ∃ p, nxt n d k = p := ⟨_, rfl⟩
  rw [hpe] at hb hp ⊢
  obtain ⟨a, b⟩ := p
  dsimp only at hb ⊢
  refine okF_iff.2 ⟨hb.2.2.1, by omega, by omega, by omega, ?_⟩
  obtain ⟨g, hg⟩ : ∃ g, gc a b = g := ⟨_, rfl⟩
  have hg1 := gc_pos a b (by omega)
  obtain ⟨a', ha⟩ := gc_dvd_left a b
  obtain ⟨b', hb'⟩ := gc_dvd_right a b
  rw [hg] at ha hb' hg1 ⊢
  by_cases h2 : g = 1
  · exact h2
  · exfalso
    have hbp : 0 < b' := by
      by_cases h3 : 0 < b'
      · exact h3
      · have : g * b' ≤ 0 := Int.mul_nonpos_of_nonneg_of_nonpos (by omega) (by omega)
        omega
    have hlt : b' < b := by
      have : 2 * b' ≤ g * b' := Int.mul_le_mul_of_nonneg_right (by omega) (by omega)
      omega
    have gt := hp.gt
    dsimp only at gt
    have gt2 : n * b' < a' * d := by
      have e1 : n * b = g * (n * b') := by rw [hb', Int.mul_left_comm]
      have e2 : a * d = g * (a' * d) := by rw [ha, Int.mul_assoc]
      rw [e1, e2] at gt
      exact Int.lt_of_mul_lt_mul_left gt (by omega)
    have hle := nxX_le hd gt2
    have st := hp.str b'.toNat (by omega) (by dsimp only; omega)
    dsimp only at st
    rw [show ((b'.toNat : Nat) : Int) = b' by omega] at st
    have q : nxX n d b' * b ≤ a' * b := Int.mul_le_mul_of_nonneg_right hle (by omega)
    have e3 : a * b' = a' * b := by rw [ha, hb', Int.mul_assoc, Int.mul_left_comm]
    omega

end Go.Proofs.Ythfogmaefhfkoaa
