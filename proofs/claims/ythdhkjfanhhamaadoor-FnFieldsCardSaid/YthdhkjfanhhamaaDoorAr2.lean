/- Contracts: difference, quotient and lowest terms, as the program and the model compute them. -/
import Derived.Test.YthdhkjfanhhamaaDoorArs
import Derived.Deep.RegionHeld3
namespace Go.Proofs.YthdhkjfanhhamaaDoor
open Go.RowKit

/-- The opposite of a numerator, as int64 has it. -/
theorem okF_wneg (m f : Int) (h1 : -9223372036854775808 ≤ m) (h2 : m ≤ 9223372036854775807) : okF (wrap64 (-m)) f = okF m f := by
  by_cases h : m = -9223372036854775808
  · subst h
    have e : wrap64 (-(-9223372036854775808)) = -9223372036854775808 := by decide +kernel
    rw [e]
  · rw [IntWalk.wrap64_in _ ⟨by omega, by omega⟩, Bool.eq_iff_iff, okF_iff, okF_iff, gc_neg_left]
    omega

theorem opposite (m f : Int) (w : World) :
    Calls Tryd.prog 35 #[.agg #[.int .i64 m, .int .i64 f]] w fun e w' => e = .returned (.agg #[.int .i64 (wrap64 (-m)), .int .i64 f]) ∧ Below w.heap.size w w' := by
  go_enter Tryd.func35, Tryd.ntmps35
  go_wp2
  refine bodyPost_ret (v := .agg #[.int .i64 (wrap64 (-m)), .int .i64 f]) (by simp [results, Tryd.results35, go_sem]) rfl ⟨rfl, ?_⟩
  exact (((Below.refl _ _).alloc (Nat.le_refl _) _).alloc (by simp) _)

set_option maxHeartbeats 400000 in
theorem implSub (n d m f : Int) (w : World) (h1 : -9223372036854775808 ≤ m) (h2 : m ≤ 9223372036854775807) :
    Calls Tryd.prog 12 #[.agg #[.int .i64 n, .int .i64 d], .agg #[.int .i64 m, .int .i64 f]] w fun e w' => e = .returned (tv (twoT n d m f (lowT (n * f - m * d) (d * f)))) ∧ Below w.heap.size w w' := by
  have e0 : twoT n d m f (lowT (n * f - m * d) (d * f)) = twoT n d (wrap64 (-m)) f (lowT (n * f + (wrap64 (-m)) * d) (d * f)) := by
    unfold twoT
    rw [okF_wneg m f h1 h2]
    cases ho : okF m f
    · simp
    · have := ok_bounds ho
      rw [IntWalk.wrap64_in _ ⟨by omega, by omega⟩]
      rw [Int.neg_mul, Int.sub_eq_add_neg]
  rw [e0]
  have CA := fun w => implAdd n d (wrap64 (-m)) f w
  generalize twoT n d (wrap64 (-m)) f (lowT (n * f + (wrap64 (-m)) * d) (d * f)) = t at CA ⊢
  clear e0
  have CO := fun w => opposite m f w
  generalize wrap64 (-m) = k at CA CO
  obtain ⟨x, y, c⟩ := t
  have HA := hid CA
  have HO := hid CO
  clear CA CO
  have n1 : w.heap.size + 1 + 1 ≠ w.heap.size := by omega
  have n2 : w.heap.size + 1 + 1 ≠ w.heap.size + 1 := by omega
  go_enter Tryd.func12, Tryd.ntmps12
  go_wp2_with (fail)
  go_region_held3 (fun w' => w'.cell? ⟨w.heap.size, 0, none⟩ = some (.int .i64 n) ∧ w'.cell? ⟨w.heap.size, 1, none⟩ = some (.int .i64 d) ∧ w'.cell? ⟨w.heap.size + 1, 0, none⟩ = some (.int .i64 m) ∧ w'.cell? ⟨w.heap.size + 1, 1, none⟩ = some (.int .i64 f))
    (((repeat' apply And.intro); all_goals (first | go_keep | (go_split_ands; rw [hb2.cell (by simp <;> omega)]; assumption) | (go_split_ands; rw [hb1.cell (by simp <;> omega)]; assumption))))
    (first | (go_at_call 35; refine (HO.out _).mono ?_; rintro e w1 ⟨rfl, hb1⟩; have hz1 := hb1.size; simp at hz1; have a0 : w1.cell? ⟨w.heap.size + 1 + 1, 0, none⟩ = some (.int .i64 0) := by { rw [hb1.cell (by simp)]; go_simp }; have a1 : w1.cell? ⟨w.heap.size + 1 + 1, 1, none⟩ = some (.int .i64 0) := by { rw [hb1.cell (by simp)]; go_simp }; have a2 : w1.frozen? ⟨w.heap.size + 1 + 1, 0, none⟩ = false := by { rw [hb1.frozen (by simp)]; go_simp }; have a3 : w1.frozen? ⟨w.heap.size + 1 + 1, 1, none⟩ = false := by { rw [hb1.frozen (by simp)]; go_simp }) | (go_at_call 11; refine (HA.out _).mono ?_; rintro e w2 ⟨rfl, hb2⟩; have hz2 := hb2.size; have b0 := (hb2.cell (p := ⟨w.heap.size + 1 + 1, 0, none⟩) (by simp; omega)).trans a0; have b1 := (hb2.cell (p := ⟨w.heap.size + 1 + 1, 1, none⟩) (by simp; omega)).trans a1; have b2 := (hb2.frozen (p := ⟨w.heap.size + 1 + 1, 0, none⟩) (by simp; omega)).trans a2; have b3 := (hb2.frozen (p := ⟨w.heap.size + 1 + 1, 1, none⟩) (by simp; omega)).trans a3; dsimp only [tv]))
  go_wp2
  refine bodyPost_ret (v := .tuple #[.agg #[.int .i64 x, .int .i64 y], .int .i64 c]) (by simp [results, Tryd.results12, go_sem, b0, b1]) rfl ⟨rfl, ?_⟩
  exact below_set (below_set (((alloc3 _ _ _ _).drew).trans ((hb1.trans (hb2.mono hb1.size)).mono (by simp; omega))) (by omega) _) (by omega) _

theorem lowT_neg {n d : Int} (h : 0 < d) : lowT (-n) (-d) = lowT n d := by
  have h1 := @lowN_negneg (-n) (-d) (by omega)
  have h2 := @lowD_negneg (-n) (-d) (by omega)
  rw [Int.neg_neg, Int.neg_neg] at h1 h2
  unfold lowT
  rw [h1, h2]

/-- The quotient of two fractions, and a code. -/
def divT (n d m f : Int) : Int × Int × Int := twoT n d m f (if m = 0 then (0, 0, 6) else lowT (n * f) (d * m))

/-- The inverse's numbers. -/
def invN (m f : Int) : Int := if m < 0 then -f else f
def invD (m : Int) : Int := if m < 0 then -m else m

theorem okF_inv {m f : Int} (h : okF m f = true) (h0 : m ≠ 0) : okF (invN m f) (invD m) = true := by
  rw [okF_iff] at h ⊢
  unfold invN invD
  split
  · rw [gc_neg_left, gc_neg_right, gc_comm]; omega
  · rw [gc_comm]; omega

theorem div_inv {n d m f : Int} (h : okF m f = true) (h2 : okF n d = true) (h0 : m ≠ 0) : twoT n d (invN m f) (invD m) (lowT (n * invN m f) (d * invD m)) = lowT (n * f) (d * m) := by
  have b1 := ok_bounds h
  have b2 := ok_bounds h2
  unfold twoT
  rw [okF_inv h h0, h2]
  simp only [Bool.and_self, if_true]
  unfold invN invD
  by_cases hm : m < 0
  · rw [if_pos hm, if_pos hm]
    rw [← lowT_neg (n := n * -f) (d := d * -m) (Int.mul_pos (by omega) (by omega))]
    rw [Int.mul_neg, Int.mul_neg, Int.neg_neg, Int.neg_neg]
  · rw [if_neg hm, if_neg hm]

theorem inverse (m f : Int) (w : World) (h1 : -1000000000 ≤ m) (h2 : m ≤ 1000000000) (h3 : 1 ≤ f) (h4 : f ≤ 1000000000) :
    Calls Tryd.prog 41 #[.agg #[.int .i64 m, .int .i64 f]] w fun e w' => e = .returned (.agg #[.int .i64 (invN m f), .int .i64 (invD m)]) ∧ Below w.heap.size w w' := by
  by_cases hm : m < 0
  · have e1 : invN m f = -f := by unfold invN; rw [if_pos hm]
    have e2 : invD m = -m := by unfold invD; rw [if_pos hm]
    rw [e1, e2]
    clear e1 e2
    go_enter Tryd.func41, Tryd.ntmps41
    go_wp2
    refine bodyPost_ret (v := .agg #[.int .i64 (-f), .int .i64 (-m)]) (by simp [results, Tryd.results41, go_sem]) rfl ⟨rfl, ?_⟩
    exact (((Below.refl _ _).alloc (Nat.le_refl _) _).alloc (by simp) _)
  · have e1 : invN m f = f := by unfold invN; rw [if_neg hm]
    have e2 : invD m = m := by unfold invD; rw [if_neg hm]
    rw [e1, e2]
    clear e1 e2
    go_enter Tryd.func41, Tryd.ntmps41
    go_wp2
    refine bodyPost_ret (v := .agg #[.int .i64 f, .int .i64 m]) (by simp [results, Tryd.results41, go_sem]) rfl ⟨rfl, ?_⟩
    exact (((Below.refl _ _).alloc (Nat.le_refl _) _).alloc (by simp) _)

end Go.Proofs.YthdhkjfanhhamaaDoor
