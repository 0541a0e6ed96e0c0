/- Numbers in decimal are read back, and hold no other bytes. -/
import Derived.Test.YtjijabfamjhdjaaDoorRdm
namespace Go.Proofs.YtjijabfamjhdjaaDoor
open Go.RowKit Go.Lib

theorem valD_digs : ∀ (k u : Nat), u < 10 ^ k → valD 0 (digs u) = u
  | 0, u, h => by
    have : u = 0 := by simpa using h
    subst this; rfl
  | k + 1, u, h => by
    by_cases hu : u = 0
    · subst hu; rfl
    · have h2 := valD_digs k (u / 10) (by rw [Nat.pow_succ] at h; omega)
      rw [digs_step hu, valD_snoc, h2]
      have h4 := ofNat_digit (Nat.mod_lt u (show 0 < 10 by omega))
      omega

theorem negM_digits {l : List UInt8} (h : l.all isD = true) : negM l = false := by
  cases l with
  | nil => rfl
  | cons c r =>
    simp only [List.all_cons, Bool.and_eq_true] at h
    have := isD_iff.1 h.1
    exact decide_eq_false (by omega)

theorem sgV_itoa (n : Int) : sgV (itoa n) = n := by
  have hv : valD 0 (digs n.natAbs) = n.natAbs := valD_digs n.natAbs _ (Nat.lt_pow_self (by omega))
  rcases Int.lt_trichotomy n 0 with hc | hc | hc
  · rw [itoa_neg hc]
    have e : dropM (45 :: digs n.natAbs) = digs n.natAbs := by rw [dropM_cons, if_pos (by decide)]
    have e2 : negM (45 :: digs n.natAbs) = true := rfl
    unfold sgV
    rw [e, if_pos e2, hv]
    omega
  · subst hc; decide +kernel
  · rw [itoa_pos hc]
    unfold sgV
    rw [dropM_digits (digs_isD _), if_neg (by rw [negM_digits (digs_isD _)]; decide), hv]
    omega

theorem itoa_len {n : Int} (h1 : -1000000000 ≤ n) (h2 : n ≤ 1000000000) : (dropM (itoa n)).length ≤ 18 := by
  rcases Int.lt_trichotomy n 0 with hc | hc | hc
  · rw [itoa_neg hc]
    have e : dropM (45 :: digs n.natAbs) = digs n.natAbs := by rw [dropM_cons, if_pos (by decide)]
    rw [e]
    exact digs_length 18 _ (by omega)
  · rw [hc, itoa_zero]; decide
  · rw [itoa_pos hc, dropM_digits (digs_isD _)]
    exact digs_length 18 _ (by omega)

theorem numS_itoa {n : Int} (h1 : -1000000000 ≤ n) (h2 : n ≤ 1000000000) : numS (itoa n) = (n, true) := by
  have hf := itoa_form n
  rw [numS_yes ⟨hf.1, itoa_len h1 h2, hf.2, by rw [sgV_itoa]⟩, sgV_itoa]

theorem digits_no {l : List UInt8} {c : UInt8} (hc : isD c = false) (h : l.all isD = true) : c ∉ l := fun e => by
  have := List.all_eq_true.1 h _ e
  rw [hc] at this; cases this
theorem itoa_no {c : UInt8} (hc : isD c = false) (h45 : c ≠ 45) (n : Int) : c ∉ itoa n := by
  rcases Int.lt_trichotomy n 0 with h | h | h
  · rw [itoa_neg h, List.mem_cons]
    rintro (e | e)
    · exact h45 e
    · exact digits_no hc (digs_isD _) e
  · rw [h, itoa_zero, List.mem_singleton]
    intro e; subst e; revert hc; decide
  · rw [itoa_pos h]; exact digits_no hc (digs_isD _)

end Go.Proofs.YtjijabfamjhdjaaDoor
