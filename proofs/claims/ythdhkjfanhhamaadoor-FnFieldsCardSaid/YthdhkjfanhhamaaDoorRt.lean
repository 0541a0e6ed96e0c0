/- A fraction's text is read back. -/
import Derived.Test.YthdhkjfanhhamaaDoorRfm
namespace Go.Proofs.YthdhkjfanhhamaaDoor
open Go.RowKit Go.Lib

theorem valD_digs : ∀ (k u : Nat), u < 10 ^ k → valD 0 (digs u) = u
  | 0, u, h => by
    have : u = 0 := by simpa using h
    subst this; rfl
  | k + 1, u, h => by
    by_cases hu : u = 0
    · subst hu; rfl
    · have h2 := valD_digs k (u / 10) (by rw [Nat.pow_succ] at h; omega)
      rw [digs_step hu, valD_snoc, h2]
      have h4 := ofNat_digit (Nat.mod_lt u (show 0 < 10 by omega))
      omega

theorem negM_digits {l : List UInt8} (h : l.all isD = true) : negM l = false := by
  cases l with
  | nil => rfl
  | cons c r =>
    simp only [List.all_cons, Bool.and_eq_true] at h
    have := isD_iff.1 h.1
    exact decide_eq_false (by omega)

theorem sgV_itoa (n : Int) : sgV (itoa n) = n := by
  have hv : valD 0 (digs n.natAbs) = n.natAbs := valD_digs n.natAbs _ (Nat.lt_pow_self (by omega))
  rcases Int.lt_trichotomy n 0 with hc | hc | hc
  · rw [itoa_neg hc]
    have e : dropM (45 :: digs n.natAbs) = digs n.natAbs := by rw [dropM_cons, if_pos (by decide)]
    have e2 : negM (45 :: digs n.natAbs) = true := rfl
    unfold sgV
    rw [e, if_pos e2, hv]
    omega
  · subst hc; decide +kernel
  · rw [itoa_pos hc]
    unfold sgV
    rw [dropM_digits (digs_isD _), if_neg (by rw [negM_digits (digs_isD _)]; decide), hv]
    omega

theorem itoa_len {n : Int} (h1 : -1000000000 ≤ n) (h2 : n ≤ 1000000000) : (dropM (itoa n)).length ≤ 18 := by
  rcases Int.lt_trichotomy n 0 with hc | hc | hc
  · rw [itoa_neg hc]
    have e : dropM (45 :: digs n.natAbs) = digs n.natAbs := by rw [dropM_cons, if_pos (by decide)]
    rw [e]
    exact digs_length 18 _ (by omega)
  · rw [hc, itoa_zero]; decide
  · rw [itoa_pos hc, dropM_digits (digs_isD _)]
    exact digs_length 18 _ (by omega)

theorem numS_itoa {n : Int} (h1 : -1000000000 ≤ n) (h2 : n ≤ 1000000000) : numS (itoa n) = (n, true) := by
  have hf := itoa_form n
  rw [numS_yes ⟨hf.1, itoa_len h1 h2, hf.2, by rw [sgV_itoa]⟩, sgV_itoa]

theorem digits_noslash {l : List UInt8} (h : l.all isD = true) : (47 : UInt8) ∉ l := fun e => by
  have := List.all_eq_true.1 h _ e
  revert this; decide
theorem itoa_noslash (n : Int) : (47 : UInt8) ∉ itoa n := by
  rcases Int.lt_trichotomy n 0 with hc | hc | hc
  · rw [itoa_neg hc, List.mem_cons]
    rintro (h | h)
    · revert h; decide
    · exact digits_noslash (digs_isD _) h
  · rw [hc, itoa_zero]; decide
  · rw [itoa_pos hc]; exact digits_noslash (digs_isD _)

/-- The text of a fraction spells it. -/
theorem rfR_text {n d : Int} (h : okF n d = true) : rfR (txO n d) = (n, d, true) := by
  have hb := okF_iff.1 h
  have hn := numS_itoa hb.2.2.1 hb.2.2.2.1
  have hd := numS_itoa (n := d) (by omega) (by omega)
  unfold txO txF
  rw [if_pos h]
  by_cases h1 : d = 1
  · rw [if_pos h1, rfR_one (splitB_none (itoa_noslash n)), hn]
    subst h1
    rw [h]; rfl
  · rw [if_neg h1, rfR_two (by rw [splitB_at _ (itoa_noslash n), splitB_none (itoa_noslash d)]), hn, hd, h]
    have : (d == 1) = false := beq_eq_false_iff_ne.2 h1
    rw [this]; rfl

theorem text_size {n d : Int} (h : okF n d = true) : (txO n d).length ≤ 1048576 := by
  have hb := okF_iff.1 h
  unfold txO txF
  rw [if_pos h]
  have h1 := itoa_length (n := n) (by omega)
  have h2 := itoa_length (n := d) (by omega)
  split
  · omega
  · rw [List.length_append, List.length_cons]; omega

end Go.Proofs.YthdhkjfanhhamaaDoor
