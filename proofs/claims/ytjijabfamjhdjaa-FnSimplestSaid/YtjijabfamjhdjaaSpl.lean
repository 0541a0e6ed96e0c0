/- Contracts: the simplest fraction between two, by the program and by the model. -/
import Derived.Test.YtjijabfamjhdjaaChk
import Derived.Test.YtjijabfamjhdjaaAr6
namespace Go.Proofs.Ytjijabfamjhdjaa
open Go.RowKit

/-- The simplest fraction between p / q and r / t. -/
def spl (p q r t : Int) : Int × Int := if h : 0 < q ∧ 0 < t ∧ r ≤ (p / q + 1) * t then (p / q * (spl t (r - p / q * t) q (p - p / q * q)).1 + (spl t (r - p / q * t) q (p - p / q * q)).2, (spl t (r - p / q * t) q (p - p / q * q)).1) else (p / q + 1, 1)
termination_by (q + t).toNat
decreasing_by
  all_goals
    obtain ⟨h1, h2, h3⟩ := h
    have e := Int.emod_def p q
    rw [Int.mul_comm q] at e
    have r1 := Int.emod_lt_of_pos p h1
    rw [Int.add_mul, Int.one_mul] at h3
    omega
theorem spl_leaf {p q r t : Int} (h : ¬ (0 < q ∧ 0 < t ∧ r ≤ (p / q + 1) * t)) : spl p q r t = (p / q + 1, 1) := by rw [spl, dif_neg h]
theorem spl_step {p q r t : Int} (h : 0 < q ∧ 0 < t ∧ r ≤ (p / q + 1) * t) : spl p q r t = (p / q * (spl t (r - p / q * t) q (p - p / q * q)).1 + (spl t (r - p / q * t) q (p - p / q * q)).2, (spl t (r - p / q * t) q (p - p / q * q)).1) := by
  conv => lhs; rw [spl, dif_pos h]

/-- The bounds between which it is looked for. -/
def SI (p q r t : Int) : Prop := (0 ≤ p ∧ p ≤ 1000000000) ∧ (1 ≤ q ∧ q ≤ 1000000000) ∧ (1 ≤ r ∧ r ≤ 1000000000) ∧ (0 ≤ t ∧ t ≤ 1000000000) ∧ p * t < r * q
theorem si_step {p q r t : Int} (h : SI p q r t) (h2 : 0 < t) (h3 : r ≤ (p / q + 1) * t) : SI t (r - p / q * t) q (p - p / q * q) ∧ r - p / q * t + (p - p / q * q) < q + t := by
  obtain ⟨⟨p1, p2⟩, ⟨q1, q2⟩, ⟨r1, r2⟩, ⟨t1, t2⟩, hlt⟩ := h
  have e := Int.emod_def p q
  rw [Int.mul_comm q] at e
  have m1 := Int.emod_nonneg p (b := q) (by omega)
  have m2 := Int.emod_lt_of_pos p (b := q) (by omega)
  have hq : p / q * q ≤ p := by omega
  have hn : 0 ≤ p / q := Int.ediv_nonneg p1 (by omega)
  rw [Int.add_mul, Int.one_mul] at h3
  generalize p / q = n at *
  have h4 : n * q * t ≤ p * t := Int.mul_le_mul_of_nonneg_right hq (by omega)
  have h5 : n * t * q < r * q := by rw [Int.mul_right_comm]; omega
  have h6 : n * t < r := Int.lt_of_mul_lt_mul_right h5 (by omega)
  have h7 : 0 ≤ n * t := Int.mul_nonneg hn t1
  refine ⟨⟨⟨t1, t2⟩, ⟨by omega, by omega⟩, ⟨q1, q2⟩, ⟨by omega, by omega⟩, ?_⟩, by omega⟩
  rw [Int.mul_sub, Int.mul_sub]
  have e1 : t * (n * q) = q * (n * t) := by rw [← Int.mul_assoc, Int.mul_comm t n, Int.mul_comm q]
  have e2 : t * p = p * t := Int.mul_comm ..
  have e3 : q * r = r * q := Int.mul_comm ..
  omega
theorem spl_bd : ∀ (k : Nat) (p q r t : Int), (q + t).toNat ≤ k → SI p q r t → (1 ≤ (spl p q r t).1 ∧ (spl p q r t).1 ≤ p + r) ∧ (1 ≤ (spl p q r t).2 ∧ (spl p q r t).2 ≤ q + t)
  | 0, p, q, r, t, hk, h => by have h1 := h.2.1.1; have h2 := h.2.2.2.1.1; omega
  | k + 1, p, q, r, t, hk, h => by
    have hn : 0 ≤ p / q := Int.ediv_nonneg h.1.1 (by have := h.2.1.1; omega)
    by_cases hs : 0 < q ∧ 0 < t ∧ r ≤ (p / q + 1) * t
    · obtain ⟨h1, h2⟩ := si_step h hs.2.1 hs.2.2
      have ih := spl_bd k t (r - p / q * t) q (p - p / q * q) (by omega) h1
      rw [spl_step hs]
      generalize spl t (r - p / q * t) q (p - p / q * q) = s at *
      obtain ⟨a, b⟩ := s
      dsimp only at ih ⊢
      generalize p / q = n at *
      obtain ⟨⟨i1, i2⟩, ⟨i3, i4⟩⟩ := ih
      have m1 : n * a ≤ n * (t + q) := Int.mul_le_mul_of_nonneg_left i2 hn
      have m2 : 0 ≤ n * a := Int.mul_nonneg hn (by omega)
      rw [Int.mul_add] at m1
      refine ⟨⟨by omega, by omega⟩, ⟨i1, by omega⟩⟩
    · rw [spl_leaf hs]
      have := Int.ediv_le_self q h.1.1
      have h1 := h.2.1.1
      have h2 := h.2.2.1.1
      have h3 := h.2.2.2.1.1
      refine ⟨⟨by dsimp only; omega, by dsimp only; omega⟩, ⟨by dsimp only; omega, by dsimp only; omega⟩⟩

theorem crossG (n d m f : Int) (w : World) (n1 : 0 ≤ n) (n2 : n ≤ 2000000000) (d1 : 0 ≤ d) (d2 : d ≤ 1000000000) (m1 : 0 ≤ m) (m2 : m ≤ 1000000000) (f1 : 0 ≤ f) (f2 : f ≤ 1000000000) :
    Calls Try.prog 70 #[.agg #[.int .i64 n, .int .i64 d], .agg #[.int .i64 m, .int .i64 f]] w fun e w' => e = .returned (.int .i64 (n * f - m * d)) ∧ Below w.heap.size w w' := by
  have a1 : n * f ≤ 2000000000 * 1000000000 := Int.mul_le_mul n2 f2 f1 (by omega)
  have a2 : m * d ≤ 1000000000 * 1000000000 := Int.mul_le_mul m2 d2 d1 (by omega)
  have a3 : 0 ≤ n * f := Int.mul_nonneg n1 f1
  have a4 : 0 ≤ m * d := Int.mul_nonneg m1 d1
  go_enter Try.func70, Try.ntmps70
  go_wp2
  go_ret
  exact ⟨rfl, alloc2 _ _ _⟩

/-- What the walks want of the numbers. -/
theorem spl_nums {p q r t : Int} (h : SI p q r t) : 0 ≤ p / q ∧ p / q ≤ 1000000000 ∧ 0 ≤ p / q * t ∧ p / q * t ≤ 1000000000000000000 ∧ 0 ≤ p / q * q ∧ p / q * q ≤ 1000000000 ∧ 0 ≤ (p / q + 1) * t ∧ (p / q + 1) * t ≤ 2000000000000000000 := by
  obtain ⟨⟨p1, p2⟩, ⟨q1, q2⟩, ⟨r1, r2⟩, ⟨t1, t2⟩, hlt⟩ := h
  have hn : 0 ≤ p / q := Int.ediv_nonneg p1 (by omega)
  have hn2 := Int.ediv_le_self q p1
  have e := Int.emod_def p q
  rw [Int.mul_comm q] at e
  have m1 := Int.emod_nonneg p (b := q) (by omega)
  have h4 : p / q * t ≤ 1000000000 * 1000000000 := Int.mul_le_mul (by omega) t2 t1 (by omega)
  have h5 : 0 ≤ p / q * t := Int.mul_nonneg hn t1
  have h6 : 0 ≤ p / q * q := Int.mul_nonneg hn (by omega)
  rw [Int.add_mul, Int.one_mul]
  omega

set_option maxHeartbeats 1600000 in
theorem implSimplest : ∀ (k : Nat) (p q r t : Int) (w : World), (q + t).toNat ≤ k → SI p q r t →
    Calls Try.prog 71 #[.agg #[.int .i64 p, .int .i64 q], .agg #[.int .i64 r, .int .i64 t]] w fun e w' => e = .returned (.agg #[.int .i64 (spl p q r t).1, .int .i64 (spl p q r t).2]) ∧ Below w.heap.size w w' := by
  intro k
  induction k with
  | zero => intro p q r t w hk h; have h1 := h.2.1.1; have h2 := h.2.2.2.1.1; omega
  | succ k ih =>
    intro p q r t w hk h
    have HS := hid h
    obtain ⟨n1, n2, n3, n4, n5, n6, n7, n8⟩ := spl_nums h
    obtain ⟨⟨p1, p2⟩, ⟨q1, q2⟩, ⟨r1, r2⟩, ⟨t1, t2⟩, hlt⟩ := h
    have HF := hid (fun w => implFloorQ p q w (by omega) p2 q1 q2)
    have HX := hid (fun w => crossG (p / q + 1) 1 r t w (by omega) (by omega) (by omega) (by omega) (by omega) r2 t1 t2)
    by_cases hs : 0 < q ∧ 0 < t ∧ r ≤ (p / q + 1) * t
    · obtain ⟨i1, i2⟩ := si_step HS.out hs.2.1 hs.2.2
      have hb := spl_bd _ _ _ _ _ (Nat.le_refl _) i1
      have hb0 := spl_bd _ _ _ _ _ (Nat.le_refl _) HS.out
      have IH := hid (fun w => ih t (r - p / q * t) q (p - p / q * q) w (by omega) i1)
      have HR := hid (spl_step hs)
      have hc : ¬ (p / q + 1) * t - r * 1 < 0 := by have := hs.2.2; omega
      rw [HR.out] at hb0
      clear ih i1 i2 hs HS hlt
      generalize spl t (r - p / q * t) q (p - p / q * q) = s at *
      obtain ⟨a, b⟩ := s
      obtain ⟨⟨c1, c2⟩, ⟨c3, c4⟩⟩ := hb
      obtain ⟨⟨d1, d2⟩, ⟨d3, d4⟩⟩ := hb0
      have HR2 := hid HR.out
      clear HR
      rw [HR2.out]
      clear HR2
      dsimp only at c1 c2 c3 c4 d1 d2 d3 d4 IH ⊢
      generalize p / q = n at *
      have e1 : 0 ≤ n * a := Int.mul_nonneg n1 (by omega)
      generalize hx : (n + 1) * t = X at *
      have HXX := hid hx
      clear hx
      go_enter Try.func71, Try.ntmps71
      go_wp2_with (fail)
      refine (HF.out _).mono ?_
      rintro e w1 ⟨rfl, rfl⟩
      go_wp2_with (fail)
      refine (HX.out _).mono ?_
      rintro e w1 ⟨rfl, b1⟩
      have B1 := hid ((((((Below.refl w.heap.size w).alloc (Nat.le_refl _) (.cells #[.int .i64 p, .int .i64 q] 25)).alloc (by simp) (.cells #[.int .i64 r, .int .i64 t] 25)).alloc (by simp; omega) (.cells #[.int .i64 0, .int .i64 0] 25)).alloc (by simp; omega) (.cells #[.int .i64 (n + 1), .int .i64 1] 25)).trans (b1.mono (by simp; omega)))
      have q0 := (b1.cell (p := ⟨w.heap.size, 0, none⟩) (by simp; omega)).trans (show _ = some (.int .i64 p) by go_simp)
      have q1 := (b1.cell (p := ⟨w.heap.size, 1, none⟩) (by simp; omega)).trans (show _ = some (.int .i64 q) by go_simp)
      have u0 := (b1.cell (p := ⟨w.heap.size + 1, 0, none⟩) (by simp)).trans (show _ = some (.int .i64 r) by go_simp)
      have u1 := (b1.cell (p := ⟨w.heap.size + 1, 1, none⟩) (by simp)).trans (show _ = some (.int .i64 t) by go_simp)
      have v0 := (b1.cell (p := ⟨w.heap.size + 1 + 1 + 1, 0, none⟩) (by simp)).trans (show _ = some (.int .i64 (n + 1)) by go_simp)
      have v1 := (b1.cell (p := ⟨w.heap.size + 1 + 1 + 1, 1, none⟩) (by simp)).trans (show _ = some (.int .i64 1) by go_simp)
      have z0 := (b1.cell (p := ⟨w.heap.size + 1 + 1, 0, none⟩) (by simp)).trans (show _ = some (.int .i64 0) by go_simp)
      have y0 := (b1.frozen (p := ⟨w.heap.size + 1 + 1, 0, none⟩) (by simp)).trans (show _ = false by go_simp)
      have z1 := (b1.cell (p := ⟨w.heap.size + 1 + 1, 1, none⟩) (by simp)).trans (show _ = some (.int .i64 0) by go_simp)
      have y1 := (b1.frozen (p := ⟨w.heap.size + 1 + 1, 1, none⟩) (by simp)).trans (show _ = false by go_simp)
      have hz1 : w.heap.size + 1 + 1 + 1 < w1.heap.size := by have := b1.size; simp at this; omega
      have hz1a : w.heap.size < w1.heap.size := by omega
      have hz1b : w.heap.size + 1 < w1.heap.size := by omega
      have hz1c : w.heap.size + 1 + 1 < w1.heap.size := by omega
      have D1 := hid b1
      go_wp2_with (fail)
      refine (IH.out _).mono ?_
      rintro e w2 ⟨rfl, b2⟩
      have B2 : Below w1.heap.size w1 w2 := (((Below.refl w1.heap.size w1).alloc (Nat.le_refl _) (.cells #[.int .i64 t, .int .i64 (r - n * t)] 25)).alloc (by simp) (.cells #[.int .i64 q, .int .i64 (p - n * q)] 25)).trans (b2.mono (by simp; omega))
      have E2 := hid (B1.out.trans (B2.mono B1.out.size))
      have x0 := (B2.cell (p := ⟨w.heap.size + 1 + 1, 0, none⟩) (by simp; omega)).trans z0
      have x1 := (B2.cell (p := ⟨w.heap.size + 1 + 1, 1, none⟩) (by simp; omega)).trans z1
      have f0 := (B2.frozen (p := ⟨w.heap.size + 1 + 1, 0, none⟩) (by simp; omega)).trans y0
      have f1 := (B2.frozen (p := ⟨w.heap.size + 1 + 1, 1, none⟩) (by simp; omega)).trans y1
      have hz2 : w.heap.size + 1 + 1 + 1 < w2.heap.size := by have := B2.size; omega
      have hz2c : w.heap.size + 1 + 1 < w2.heap.size := by omega
      clear b1 b2 B2 z0 z1 y0 y1
      go_wp2_with (fail)
      obtain ⟨k0, k1⟩ := two_set (u := .int .i64 (n * a + b)) (v := .int .i64 a) x0 x1
      have hE : Below w.heap.size w ((w2.setCell ⟨w.heap.size + 1 + 1, 0, none⟩ (.int .i64 (n * a + b))).setCell ⟨w.heap.size + 1 + 1, 1, none⟩ (.int .i64 a)) := below_set (below_set E2.out (by omega) _) (by omega) _
      obtain ⟨X, hX⟩ : ∃ X : World, X = ((w2.setCell ⟨w.heap.size + 1 + 1, 0, none⟩ (.int .i64 (n * a + b))).setCell ⟨w.heap.size + 1 + 1, 1, none⟩ (.int .i64 a)) := ⟨_, rfl⟩
      have hXs : w.heap.size + 1 + 1 < X.heap.size := by rw [hX]; simp; omega
      rw [← hX] at k0 k1 hE ⊢
      clear hX
      have hA := (Below.refl X.heap.size X).alloc (Nat.le_refl _) (.cells #[.int .i64 a, .int .i64 b] 25)
      have r0 := (hA.cell (p := ⟨w.heap.size + 1 + 1, 0, none⟩) hXs).trans k0
      have r1 := (hA.cell (p := ⟨w.heap.size + 1 + 1, 1, none⟩) hXs).trans k1
      refine bodyPost_ret (v := .agg #[.int .i64 (n * a + b), .int .i64 a]) (by simp [results, Try.results71, go_sem, r0, r1]) rfl ⟨rfl, ?_⟩
      exact hE.alloc hE.size _
    · have HR := hid (spl_leaf hs)
      rw [HR.out]
      have hc : (p / q + 1) * t - r * 1 < 0 := by
        by_cases ht : 0 < t
        · have : ¬ r ≤ (p / q + 1) * t := fun e => hs ⟨by omega, ht, e⟩
          omega
        · have : t = 0 := by omega
          subst this
          omega
      clear hs HS hlt ih HR
      generalize p / q = n at *
      generalize hx : (n + 1) * t = X at *
      have HXX := hid hx
      clear hx
      go_enter Try.func71, Try.ntmps71
      go_wp2_with (fail)
      refine (HF.out _).mono ?_
      rintro e w1 ⟨rfl, rfl⟩
      go_wp2_with (fail)
      refine (HX.out _).mono ?_
      rintro e w1 ⟨rfl, b1⟩
      have B1 := hid ((((((Below.refl w.heap.size w).alloc (Nat.le_refl _) (.cells #[.int .i64 p, .int .i64 q] 25)).alloc (by simp) (.cells #[.int .i64 r, .int .i64 t] 25)).alloc (by simp; omega) (.cells #[.int .i64 0, .int .i64 0] 25)).alloc (by simp; omega) (.cells #[.int .i64 (n + 1), .int .i64 1] 25)).trans (b1.mono (by simp; omega)))
      have q0 := (b1.cell (p := ⟨w.heap.size, 0, none⟩) (by simp; omega)).trans (show _ = some (.int .i64 p) by go_simp)
      have q1 := (b1.cell (p := ⟨w.heap.size, 1, none⟩) (by simp; omega)).trans (show _ = some (.int .i64 q) by go_simp)
      have u0 := (b1.cell (p := ⟨w.heap.size + 1, 0, none⟩) (by simp)).trans (show _ = some (.int .i64 r) by go_simp)
      have u1 := (b1.cell (p := ⟨w.heap.size + 1, 1, none⟩) (by simp)).trans (show _ = some (.int .i64 t) by go_simp)
      have v0 := (b1.cell (p := ⟨w.heap.size + 1 + 1 + 1, 0, none⟩) (by simp)).trans (show _ = some (.int .i64 (n + 1)) by go_simp)
      have v1 := (b1.cell (p := ⟨w.heap.size + 1 + 1 + 1, 1, none⟩) (by simp)).trans (show _ = some (.int .i64 1) by go_simp)
      have z0 := (b1.cell (p := ⟨w.heap.size + 1 + 1, 0, none⟩) (by simp)).trans (show _ = some (.int .i64 0) by go_simp)
      have y0 := (b1.frozen (p := ⟨w.heap.size + 1 + 1, 0, none⟩) (by simp)).trans (show _ = false by go_simp)
      have z1 := (b1.cell (p := ⟨w.heap.size + 1 + 1, 1, none⟩) (by simp)).trans (show _ = some (.int .i64 0) by go_simp)
      have y1 := (b1.frozen (p := ⟨w.heap.size + 1 + 1, 1, none⟩) (by simp)).trans (show _ = false by go_simp)
      have hz1 : w.heap.size + 1 + 1 + 1 < w1.heap.size := by have := b1.size; simp at this; omega
      have hz1a : w.heap.size < w1.heap.size := by omega
      have hz1b : w.heap.size + 1 < w1.heap.size := by omega
      have hz1c : w.heap.size + 1 + 1 < w1.heap.size := by omega
      go_wp2_with (fail)
      obtain ⟨r0, r1⟩ := two_set (u := .int .i64 (n + 1)) (v := .int .i64 1) z0 z1
      refine bodyPost_ret (v := .agg #[.int .i64 (n + 1), .int .i64 1]) (by simp [results, Try.results71, go_sem, r0, r1]) rfl ⟨rfl, ?_⟩
      exact below_set (below_set B1.out (by omega) _) (by omega) _

set_option maxHeartbeats 1600000 in
theorem specSimple : ∀ (k : Nat) (p q r t : Int) (w : World), (q + t).toNat ≤ k → SI p q r t →
    Calls Try.prog 72 #[.int .i64 p, .int .i64 q, .int .i64 r, .int .i64 t] w fun e w' => e = .returned (.agg #[.int .i64 (spl p q r t).1, .int .i64 (spl p q r t).2]) ∧ Below w.heap.size w w' := by
  intro k
  induction k with
  | zero => intro p q r t w hk h; have h1 := h.2.1.1; have h2 := h.2.2.2.1.1; omega
  | succ k ih =>
    intro p q r t w hk h
    have HS := hid h
    obtain ⟨n1, n2, n3, n4, n5, n6, n7, n8⟩ := spl_nums h
    obtain ⟨⟨p1, p2⟩, ⟨q1, q2⟩, ⟨r1, r2⟩, ⟨t1, t2⟩, hlt⟩ := h
    have HF := hid (fun w => specFloorQ p q w (by omega) p2 q1 q2)
    by_cases hs : 0 < q ∧ 0 < t ∧ r ≤ (p / q + 1) * t
    · obtain ⟨i1, i2⟩ := si_step HS.out hs.2.1 hs.2.2
      have hb := spl_bd _ _ _ _ _ (Nat.le_refl _) i1
      have hb0 := spl_bd _ _ _ _ _ (Nat.le_refl _) HS.out
      have IH := hid (fun w => ih t (r - p / q * t) q (p - p / q * q) w (by omega) i1)
      have HR := hid (spl_step hs)
      have hc : ¬ (p / q + 1) * t < r := by have := hs.2.2; omega
      have ht : (t == 0) = false := by have := hs.2.1; simp; omega
      rw [HR.out] at hb0
      clear ih i1 i2 hs HS hlt
      generalize spl t (r - p / q * t) q (p - p / q * q) = s at *
      obtain ⟨a, b⟩ := s
      obtain ⟨⟨c1, c2⟩, ⟨c3, c4⟩⟩ := hb
      obtain ⟨⟨d1, d2⟩, ⟨d3, d4⟩⟩ := hb0
      have HR2 := hid HR.out
      clear HR
      rw [HR2.out]
      clear HR2
      dsimp only at c1 c2 c3 c4 d1 d2 d3 d4 IH ⊢
      generalize p / q = n at *
      have e1 : 0 ≤ n * a := Int.mul_nonneg n1 (by omega)
      go_enter Try.func72, Try.ntmps72
      go_wp2_with (fail)
      refine (HF.out _).mono ?_
      rintro e w1 ⟨rfl, rfl⟩
      have z0 : (w.alloc (.cells #[.int .i64 0, .int .i64 0] 25)).cell? ⟨w.heap.size, 0, none⟩ = some (.int .i64 0) := (two_new _ _ _ _).1
      have z1 : (w.alloc (.cells #[.int .i64 0, .int .i64 0] 25)).cell? ⟨w.heap.size, 1, none⟩ = some (.int .i64 0) := (two_new _ _ _ _).2
      go_wp2_with (fail)
      refine (IH.out _).mono ?_
      rintro e w2 ⟨rfl, b2⟩
      have E2 := hid (((Below.refl w.heap.size w).alloc (Nat.le_refl _) (.cells #[.int .i64 0, .int .i64 0] 25)).trans (b2.mono (by simp)))
      have x0 := (b2.cell (p := ⟨w.heap.size, 0, none⟩) (by simp)).trans z0
      have x1 := (b2.cell (p := ⟨w.heap.size, 1, none⟩) (by simp)).trans z1
      have f0 := (b2.frozen (p := ⟨w.heap.size, 0, none⟩) (by simp)).trans (show _ = false by go_simp)
      have f1 := (b2.frozen (p := ⟨w.heap.size, 1, none⟩) (by simp)).trans (show _ = false by go_simp)
      have hz2 : w.heap.size < w2.heap.size := by have := b2.size; simp at this; omega
      clear b2 z0 z1
      go_wp2_with (fail)
      obtain ⟨k0, k1⟩ := two_set (u := .int .i64 (n * a + b)) (v := .int .i64 a) x0 x1
      have hE : Below w.heap.size w ((w2.setCell ⟨w.heap.size, 0, none⟩ (.int .i64 (n * a + b))).setCell ⟨w.heap.size, 1, none⟩ (.int .i64 a)) := below_set (below_set E2.out (by omega) _) (by omega) _
      obtain ⟨X, hX⟩ : ∃ X : World, X = ((w2.setCell ⟨w.heap.size, 0, none⟩ (.int .i64 (n * a + b))).setCell ⟨w.heap.size, 1, none⟩ (.int .i64 a)) := ⟨_, rfl⟩
      have hXs : w.heap.size < X.heap.size := by rw [hX]; simp; omega
      rw [← hX] at k0 k1 hE ⊢
      clear hX
      have hA := (Below.refl X.heap.size X).alloc (Nat.le_refl _) (.cells #[.int .i64 a, .int .i64 b] 25)
      have r0 := (hA.cell (p := ⟨w.heap.size, 0, none⟩) hXs).trans k0
      have r1 := (hA.cell (p := ⟨w.heap.size, 1, none⟩) hXs).trans k1
      refine bodyPost_ret (v := .agg #[.int .i64 (n * a + b), .int .i64 a]) (by simp [results, Try.results72, go_sem, r0, r1]) rfl ⟨rfl, ?_⟩
      exact hE.alloc hE.size _
    · have HR := hid (spl_leaf hs)
      rw [HR.out]
      by_cases ht0 : t = 0
      · have ht : (t == 0) = true := by simpa using ht0
        clear hs HS hlt ih HR ht0
        generalize p / q = n at *
        go_enter Try.func72, Try.ntmps72
        go_wp2_with (fail)
        refine (HF.out _).mono ?_
        rintro e w1 ⟨rfl, rfl⟩
        go_wp2_with (fail)
        refine bodyPost_ret (v := .agg #[.int .i64 (n + 1), .int .i64 1]) (by simp [results, Try.results72, go_sem]) rfl ⟨rfl, ?_⟩
        exact (Below.refl _ _).alloc (Nat.le_refl _) _
      · have ht : (t == 0) = false := by simpa using ht0
        have hc : (p / q + 1) * t < r := by
          have : ¬ r ≤ (p / q + 1) * t := fun e => hs ⟨by omega, by omega, e⟩
          omega
        clear hs HS hlt ih HR ht0
        generalize p / q = n at *
        go_enter Try.func72, Try.ntmps72
        go_wp2_with (fail)
        refine (HF.out _).mono ?_
        rintro e w1 ⟨rfl, rfl⟩
        go_wp2_with (fail)
        refine bodyPost_ret (v := .agg #[.int .i64 (n + 1), .int .i64 1]) (by simp [results, Try.results72, go_sem]) rfl ⟨rfl, ?_⟩
        exact (Below.refl _ _).alloc (Nat.le_refl _) _

end Go.Proofs.Ytjijabfamjhdjaa
