/- Plain arithmetic about greatest common divisors and lowest terms; it imports nothing of the program. -/
namespace Go.Proofs.Ythdhkjfanhhamaa

def gc (a b : Int) : Int := (Int.gcd a b : Int)

theorem gc_nonneg (a b : Int) : 0 ≤ gc a b := by unfold gc; omega

theorem gc_tmod (a b : Int) : gc b (a.tmod b) = gc a b := by
  unfold gc Int.gcd
  rw [Int.natAbs_tmod, Nat.gcd_comm b.natAbs, ← Nat.gcd_rec, Nat.gcd_comm]

theorem gc_emod (a b : Int) (h : 0 ≤ a) : gc b (a % b) = gc a b := by
  rw [← Int.tmod_eq_emod_of_nonneg h]; exact gc_tmod a b

theorem gc_comm (a b : Int) : gc a b = gc b a := by
  unfold gc; rw [Int.gcd_comm]

theorem gc_zero (a : Int) : gc a 0 = if a < 0 then -a else a := by
  unfold gc; rw [Int.gcd_zero_right]; split <;> omega

theorem gc_neg_left (a b : Int) : gc (-a) b = gc a b := by unfold gc; rw [Int.neg_gcd]
theorem gc_neg_right (a b : Int) : gc a (-b) = gc a b := by unfold gc; rw [Int.gcd_neg]

theorem gc_pos (a b : Int) (h : b ≠ 0) : 1 ≤ gc a b := by
  have : 0 < Int.gcd a b := Int.gcd_pos_of_ne_zero_right a h
  unfold gc; omega
theorem gc_pos' (a b : Int) (h : a ≠ 0) : 1 ≤ gc a b := by
  have : 0 < Int.gcd a b := Int.gcd_pos_of_ne_zero_left b h
  unfold gc; omega

theorem gc_dvd_left (a b : Int) : gc a b ∣ a := Int.gcd_dvd_left ..
theorem gc_dvd_right (a b : Int) : gc a b ∣ b := Int.gcd_dvd_right ..

theorem gc_le_right (a b : Int) (h : b ≠ 0) : gc a b ≤ b.natAbs := by
  have := Int.natAbs_dvd_natAbs.2 (gc_dvd_right a b)
  have h2 := Nat.le_of_dvd (by omega) this
  have := gc_nonneg a b
  omega

theorem tmod_lt (a b : Int) (h : b ≠ 0) : (a.tmod b).natAbs < b.natAbs := by
  rw [Int.natAbs_tmod]; exact Nat.mod_lt _ (by omega)

theorem emod_lt (a b : Int) (h : b ≠ 0) (ha : 0 ≤ a) : (a % b).natAbs < b.natAbs := by
  rw [← Int.tmod_eq_emod_of_nonneg ha]; exact tmod_lt a b h

/-- Are these the numbers of a plain fraction? -/
def okF (n d : Int) : Bool := decide (1 ≤ d ∧ d ≤ 1000000000 ∧ -1000000000 ≤ n ∧ n ≤ 1000000000 ∧ gc n d = 1)

theorem okF_iff {n d : Int} : okF n d = true ↔ (1 ≤ d ∧ d ≤ 1000000000 ∧ -1000000000 ≤ n ∧ n ≤ 1000000000 ∧ gc n d = 1) := by
  unfold okF; exact decide_eq_true_iff

/-- The common divisor with the sign of the denominator. -/
def lowG (n d : Int) : Int := if d < 0 then -gc n d else gc n d
def lowN (n d : Int) : Int := n.tdiv (lowG n d)
def lowD (n d : Int) : Int := d.tdiv (lowG n d)

theorem lowG_ne (n d : Int) (h : d ≠ 0) : lowG n d ≠ 0 := by
  have := gc_pos n d h
  unfold lowG; split <;> omega

theorem tdiv_bd (a b : Int) : (a.tdiv b).natAbs ≤ a.natAbs := by
  rw [Int.natAbs_tdiv]; exact Nat.div_le_self _ _

theorem lowN_neg (n d : Int) (h : d < 0) : (-n).tdiv (gc n d) = lowN n d := by
  unfold lowN lowG; rw [if_pos h, Int.tdiv_neg, Int.neg_tdiv]
theorem lowD_neg (n d : Int) (h : d < 0) : (-d).tdiv (gc n d) = lowD n d := by
  unfold lowD lowG; rw [if_pos h, Int.tdiv_neg, Int.neg_tdiv]
theorem lowN_pos (n d : Int) (h : ¬ d < 0) : n.tdiv (gc n d) = lowN n d := by
  unfold lowN lowG; rw [if_neg h]
theorem lowD_pos (n d : Int) (h : ¬ d < 0) : d.tdiv (gc n d) = lowD n d := by
  unfold lowD lowG; rw [if_neg h]

end Go.Proofs.Ythdhkjfanhhamaa
