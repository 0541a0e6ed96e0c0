/- Plain arithmetic about greatest common divisors and lowest terms; it imports nothing of the program. -/
namespace Go.Proofs.YtjijabfamjhdjaaDoor

def gc (a b : Int) : Int := (Int.gcd a b : Int)

theorem gc_nonneg (a b : Int) : 0 ≤ gc a b := by unfold gc; omega

theorem gc_tmod (a b : Int) : gc b (a.tmod b) = gc a b := by
  unfold gc Int.gcd
  rw [Int.natAbs_tmod, Nat.gcd_comm b.natAbs, ← Nat.gcd_rec, Nat.gcd_comm]

theorem gc_emod (a b : Int) (h : 0 ≤ a) : gc b (a % b) = gc a b := by
  rw [← Int.tmod_eq_emod_of_nonneg h]; exact gc_tmod a b

theorem gc_comm (a b : Int) : gc a b = gc b a := by
  unfold gc; rw [Int.gcd_comm]

theorem gc_zero (a : Int) : gc a 0 = if a < 0 then -a else a := by
  unfold gc; rw [Int.gcd_zero_right]; split <;> omega

theorem gc_neg_left (a b : Int) : gc (-a) b = gc a b := by unfold gc; rw [Int.neg_gcd]
theorem gc_neg_right (a b : Int) : gc a (-b) = gc a b := by unfold gc; rw [Int.gcd_neg]

theorem gc_pos (a b : Int) (h : b ≠ 0) : 1 ≤ gc a b := by
  have : 0 < Int.gcd a b := Int.gcd_pos_of_ne_zero_right a h
  unfold gc; omega
theorem gc_pos' (a b : Int) (h : a ≠ 0) : 1 ≤ gc a b := by
  have : 0 < Int.gcd a b := Int.gcd_pos_of_ne_zero_left b h
  unfold gc; omega

theorem gc_dvd_left (a b : Int) : gc a b ∣ a := Int.gcd_dvd_left ..
theorem gc_dvd_right (a b : Int) : gc a b ∣ b := Int.gcd_dvd_right ..

theorem gc_le_right (a b : Int) (h : b ≠ 0) : gc a b ≤ b.natAbs := by
  have := Int.natAbs_dvd_natAbs.2 (gc_dvd_right a b)
  have h2 := Nat.le_of_dvd (by omega) this
  have := gc_nonneg a b
  omega

theorem tmod_lt (a b : Int) (h : b ≠ 0) : (a.tmod b).natAbs < b.natAbs := by
  rw [Int.natAbs_tmod]; exact Nat.mod_lt _ (by omega)

theorem emod_lt (a b : Int) (h : b ≠ 0) (ha : 0 ≤ a) : (a % b).natAbs < b.natAbs := by
  rw [← Int.tmod_eq_emod_of_nonneg ha]; exact tmod_lt a b h

/-- Are these the numbers of a plain fraction? -/
def okF (n d : Int) : Bool := decide (1 ≤ d ∧ d ≤ 1000000000 ∧ -1000000000 ≤ n ∧ n ≤ 1000000000 ∧ gc n d = 1)

theorem okF_iff {n d : Int} : okF n d = true ↔ (1 ≤ d ∧ d ≤ 1000000000 ∧ -1000000000 ≤ n ∧ n ≤ 1000000000 ∧ gc n d = 1) := by
  unfold okF; exact decide_eq_true_iff

/-- The common divisor with the sign of the denominator. -/
def lowG (n d : Int) : Int := if d < 0 then -gc n d else gc n d
def lowN (n d : Int) : Int := n.tdiv (lowG n d)
def lowD (n d : Int) : Int := d.tdiv (lowG n d)

theorem lowG_ne (n d : Int) (h : d ≠ 0) : lowG n d ≠ 0 := by
  have := gc_pos n d h
  unfold lowG; split <;> omega

theorem tdiv_bd (a b : Int) : (a.tdiv b).natAbs ≤ a.natAbs := by
  rw [Int.natAbs_tdiv]; exact Nat.div_le_self _ _

theorem lowN_neg (n d : Int) (h : d < 0) : (-n).tdiv (gc n d) = lowN n d := by
  unfold lowN lowG; rw [if_pos h, Int.tdiv_neg, Int.neg_tdiv]
theorem lowD_neg (n d : Int) (h : d < 0) : (-d).tdiv (gc n d) = lowD n d := by
  unfold lowD lowG; rw [if_pos h, Int.tdiv_neg, Int.neg_tdiv]
theorem lowN_pos (n d : Int) (h : ¬ d < 0) : n.tdiv (gc n d) = lowN n d := by
  unfold lowN lowG; rw [if_neg h]
theorem lowD_pos (n d : Int) (h : ¬ d < 0) : d.tdiv (gc n d) = lowD n d := by
  unfold lowD lowG; rw [if_neg h]

theorem plain_unique {n d m f : Int} (h1 : gc n d = 1) (h2 : gc m f = 1) (hd : 0 < d) (hf : 0 < f) (h : n * f = m * d) : n = m ∧ d = f := by
  have c1 : Nat.gcd d.natAbs n.natAbs = 1 := by unfold gc Int.gcd at h1; rw [Nat.gcd_comm]; omega
  have c2 : Nat.gcd f.natAbs m.natAbs = 1 := by unfold gc Int.gcd at h2; rw [Nat.gcd_comm]; omega
  have e : n.natAbs * f.natAbs = m.natAbs * d.natAbs := by rw [← Int.natAbs_mul, h, Int.natAbs_mul]
  have d1 : d.natAbs ∣ f.natAbs := Nat.Coprime.dvd_of_dvd_mul_left (m := n.natAbs) c1 ⟨m.natAbs, by rw [e, Nat.mul_comm]⟩
  have d2 : f.natAbs ∣ d.natAbs := Nat.Coprime.dvd_of_dvd_mul_left (m := m.natAbs) c2 ⟨n.natAbs, by rw [← e, Nat.mul_comm]⟩
  have e2 : d = f := by have := Nat.dvd_antisymm d1 d2; omega
  subst e2
  exact ⟨Int.eq_of_mul_eq_mul_right (by omega) h, rfl⟩

theorem floor_neg0 {n d : Int} (hd : 1 ≤ d) (h : n.tmod d = 0) : n.tdiv d = n / d := by
  have h1 := Int.mul_tdiv_add_tmod n d
  rw [h, Int.add_zero] at h1
  have : n / d = n.tdiv d := by
    conv => lhs; rw [← h1]
    exact Int.mul_ediv_cancel_left _ (by omega)
  exact this.symm

theorem floor_neg1 {n d : Int} (hd : 1 ≤ d) (hn : n < 0) (h : n.tmod d ≠ 0) : n.tdiv d - 1 = n / d := by
  have h1 := Int.mul_tdiv_add_tmod n d
  have h2 : n.tmod d < 0 := by
    have : (-n).tmod d ≥ 0 := Int.tmod_nonneg _ (by omega)
    rw [Int.neg_tmod] at this
    omega
  have h3 : -d < n.tmod d := by
    have := tmod_lt n d (by omega)
    omega
  have h4 := Int.mul_ediv_add_emod n d
  have h5 := Int.emod_nonneg n (show d ≠ 0 by omega)
  have h6 := Int.emod_lt_of_pos n (show 0 < d by omega)
  have h7 : d * (n.tdiv d - 1 - n / d) = n % d - n.tmod d - d := by
    rw [Int.mul_sub, Int.mul_sub]; omega
  have h8 : -d < d * (n.tdiv d - 1 - n / d) := by omega
  have h9 : d * (n.tdiv d - 1 - n / d) < d := by omega
  have h10 : n.tdiv d - 1 - n / d = 0 := by
    rcases Int.lt_trichotomy (n.tdiv d - 1 - n / d) 0 with hc | hc | hc
    · have : d * (n.tdiv d - 1 - n / d) ≤ d * (-1) := Int.mul_le_mul_of_nonneg_left (by omega) (by omega)
      omega
    · exact hc
    · have : d * 1 ≤ d * (n.tdiv d - 1 - n / d) := Int.mul_le_mul_of_nonneg_left (by omega) (by omega)
      omega
  omega

theorem tmod_neg_of {n d : Int} (hn : n < 0) (h : n.tmod d ≠ 0) : n.tmod d < 0 := by
  have : (-n).tmod d ≥ 0 := Int.tmod_nonneg _ (by omega)
  rw [Int.neg_tmod] at this
  omega

end Go.Proofs.YtjijabfamjhdjaaDoor
