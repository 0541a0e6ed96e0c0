/- Contracts: the quotient of two fractions, as the program and the model compute it. -/
import Derived.Test.YthdhkjfanhhamaaDoorAr2
namespace Go.Proofs.YthdhkjfanhhamaaDoor
open Go.RowKit

set_option maxHeartbeats 800000 in
theorem implDiv (n d m f : Int) (w : World) :
    Calls Tryd.prog 20 #[.agg #[.int .i64 n, .int .i64 d], .agg #[.int .i64 m, .int .i64 f]] w fun e w' => e = .returned (tv (divT n d m f)) ∧ Below w.heap.size w w' := by
  cases h1 : okF n d with
  | false =>
    have e0 : divT n d m f = (0, 0, 1) := by simp [divT, twoT, h1]
    rw [e0]
    have H1 := hid h1
    clear h1 e0
    go_enter Tryd.func20, Tryd.ntmps20
    go_wp2_with (fail)
    refine (implValid _ _ _).mono ?_
    rintro e w1 ⟨rfl, hb1⟩
    rw [H1.out]
    obtain ⟨hc1, hf1⟩ := bcell hb1
    have c0 := below_someAt hb1 (b := w.heap.size + 2) (o := 0) (by simp) (by go_simp)
    have c1 := below_someAt hb1 (b := w.heap.size + 2) (o := 1) (by simp) (by go_simp)
    go_wp2
    refine bodyPost_ret (v := .tuple #[.agg #[.int .i64 0, .int .i64 0], .int .i64 1]) (by simp [results, Tryd.results20, go_sem, c0, c1]) rfl ⟨rfl, ?_⟩
    exact below_set (below_set ((alloc3 _ _ _ _).trans (hb1.mono (by simp; omega))) (by omega) _) (by omega) _
  | true =>
   cases h2 : okF m f with
   | false =>
    have e0 : divT n d m f = (0, 0, 1) := by simp [divT, twoT, h2]
    rw [e0]
    have H1 := hid h1
    have H2 := hid h2
    clear h1 h2 e0
    go_enter Tryd.func20, Tryd.ntmps20
    go_wp2_with (fail)
    refine (implValid _ _ _).mono ?_
    rintro e w1 ⟨rfl, hb1⟩
    rw [H1.out]
    obtain ⟨hc1, hf1⟩ := bcell hb1
    go_wp2_with (fail)
    refine (implValid _ _ _).mono ?_
    rintro e w2 ⟨rfl, hb2⟩
    rw [H2.out]
    have hB2 := hb1.trans (hb2.mono hb1.size)
    clear hc1 hf1
    obtain ⟨hc2, hf2⟩ := bcell hB2
    have c0 := below_someAt hB2 (b := w.heap.size + 2) (o := 0) (by simp) (by go_simp)
    have c1 := below_someAt hB2 (b := w.heap.size + 2) (o := 1) (by simp) (by go_simp)
    go_wp2
    refine bodyPost_ret (v := .tuple #[.agg #[.int .i64 0, .int .i64 0], .int .i64 1]) (by simp [results, Tryd.results20, go_sem, c0, c1]) rfl ⟨rfl, ?_⟩
    exact below_set (below_set ((alloc3 _ _ _ _).trans (hB2.mono (by simp; omega))) (by omega) _) (by omega) _
   | true =>
    by_cases h0 : m = 0
    · have e0 : divT n d m f = (0, 0, 6) := by unfold divT twoT; rw [h1, h2, if_pos h0]; rfl
      rw [e0]
      have H1 := hid h1
      have H2 := hid h2
      clear h1 h2 e0
      subst h0
      go_enter Tryd.func20, Tryd.ntmps20
      go_wp2_with (fail)
      refine (implValid _ _ _).mono ?_
      rintro e w1 ⟨rfl, hb1⟩
      rw [H1.out]
      obtain ⟨hc1, hf1⟩ := bcell hb1
      go_wp2_with (fail)
      refine (implValid _ _ _).mono ?_
      rintro e w2 ⟨rfl, hb2⟩
      rw [H2.out]
      have hB2 := hb1.trans (hb2.mono hb1.size)
      clear hc1 hf1
      obtain ⟨hc2, hf2⟩ := bcell hB2
      have c0 := below_someAt hB2 (b := w.heap.size + 2) (o := 0) (by simp) (by go_simp)
      have c1 := below_someAt hB2 (b := w.heap.size + 2) (o := 1) (by simp) (by go_simp)
      go_wp2
      refine bodyPost_ret (v := .tuple #[.agg #[.int .i64 0, .int .i64 0], .int .i64 6]) (by simp [results, Tryd.results20, go_sem, c0, c1]) rfl ⟨rfl, ?_⟩
      exact below_set (below_set ((alloc3 _ _ _ _).trans (hB2.mono (by simp; omega))) (by omega) _) (by omega) _
    · have e0 : divT n d m f = twoT n d (invN m f) (invD m) (lowT (n * invN m f) (d * invD m)) := by
        rw [div_inv h2 h1 h0]; simp [divT, twoT, h1, h2, h0]
      rw [e0]
      obtain ⟨x1, x2, x3, x4⟩ := ok_bounds h2
      have CA := fun w => implMul n d (invN m f) (invD m) w
      have CO := fun w => inverse m f w x3 x4 x1 x2
      generalize twoT n d (invN m f) (invD m) (lowT (n * invN m f) (d * invD m)) = t at CA ⊢
      generalize invN m f = k at CA CO
      generalize invD m = l at CA CO
      obtain ⟨x, y, c⟩ := t
      have hm0 : (m == 0) = false := by simpa using h0
      have HA := hid CA
      have HO := hid CO
      have H1 := hid h1
      have H2 := hid h2
      clear CA CO e0 h1 h2 h0
      have n1 : w.heap.size + 1 + 1 ≠ w.heap.size := by omega
      have n2 : w.heap.size + 1 + 1 ≠ w.heap.size + 1 := by omega
      go_enter Tryd.func20, Tryd.ntmps20
      go_wp2_with (fail)
      refine (implValid _ _ _).mono ?_
      rintro e w1 ⟨rfl, hb1⟩
      rw [H1.out]
      obtain ⟨hc1, hf1⟩ := bcell hb1
      go_wp2_with (fail)
      refine (implValid _ _ _).mono ?_
      rintro e w2 ⟨rfl, hb2⟩
      rw [H2.out]
      have hB2 := hb1.trans (hb2.mono hb1.size)
      clear hc1 hf1
      have hz2 := hB2.size
      simp at hz2
      have s0 : w2.cell? ⟨w.heap.size, 0, none⟩ = some (.int .i64 n) := by rw [hB2.cell (by simp <;> omega)]; go_simp
      have s1 : w2.cell? ⟨w.heap.size, 1, none⟩ = some (.int .i64 d) := by rw [hB2.cell (by simp <;> omega)]; go_simp
      have s2 : w2.cell? ⟨w.heap.size + 1, 0, none⟩ = some (.int .i64 m) := by rw [hB2.cell (by simp <;> omega)]; go_simp
      have s3 : w2.cell? ⟨w.heap.size + 1, 1, none⟩ = some (.int .i64 f) := by rw [hB2.cell (by simp <;> omega)]; go_simp
      have r0 : w2.cell? ⟨w.heap.size + 1 + 1, 0, none⟩ = some (.int .i64 0) := by rw [hB2.cell (by simp <;> omega)]; go_simp
      have r1 : w2.cell? ⟨w.heap.size + 1 + 1, 1, none⟩ = some (.int .i64 0) := by rw [hB2.cell (by simp <;> omega)]; go_simp
      have r2 : w2.frozen? ⟨w.heap.size + 1 + 1, 0, none⟩ = false := by rw [hB2.frozen (by simp <;> omega)]; go_simp
      have r3 : w2.frozen? ⟨w.heap.size + 1 + 1, 1, none⟩ = false := by rw [hB2.frozen (by simp <;> omega)]; go_simp
      go_wp2_with (fail)
      go_region_held3 (fun w' => w'.cell? ⟨w.heap.size, 0, none⟩ = some (.int .i64 n) ∧ w'.cell? ⟨w.heap.size, 1, none⟩ = some (.int .i64 d) ∧ w'.cell? ⟨w.heap.size + 1, 0, none⟩ = some (.int .i64 m) ∧ w'.cell? ⟨w.heap.size + 1, 1, none⟩ = some (.int .i64 f))
        (((repeat' apply And.intro); all_goals (first | go_keep | (go_split_ands; rw [hb4.cell (by simp <;> omega)]; assumption) | (go_split_ands; rw [hb3.cell (by simp <;> omega)]; assumption))))
        (first | (go_at_call 41; refine (HO.out _).mono ?_; rintro e w3 ⟨rfl, hb3⟩; have hz3 := hb3.size; simp at hz3; have a0 := (hb3.cell (p := ⟨w.heap.size + 1 + 1, 0, none⟩) (by simp <;> omega)).trans r0; have a1 := (hb3.cell (p := ⟨w.heap.size + 1 + 1, 1, none⟩) (by simp <;> omega)).trans r1; have a2 := (hb3.frozen (p := ⟨w.heap.size + 1 + 1, 0, none⟩) (by simp <;> omega)).trans r2; have a3 := (hb3.frozen (p := ⟨w.heap.size + 1 + 1, 1, none⟩) (by simp <;> omega)).trans r3) | (go_at_call 13; refine (HA.out _).mono ?_; rintro e w4 ⟨rfl, hb4⟩; have hz4 := hb4.size; have b0 := (hb4.cell (p := ⟨w.heap.size + 1 + 1, 0, none⟩) (by simp <;> omega)).trans a0; have b1 := (hb4.cell (p := ⟨w.heap.size + 1 + 1, 1, none⟩) (by simp <;> omega)).trans a1; have b2 := (hb4.frozen (p := ⟨w.heap.size + 1 + 1, 0, none⟩) (by simp <;> omega)).trans a2; have b3 := (hb4.frozen (p := ⟨w.heap.size + 1 + 1, 1, none⟩) (by simp <;> omega)).trans a3; dsimp only [tv]))
      go_wp2
      refine bodyPost_ret (v := .tuple #[.agg #[.int .i64 x, .int .i64 y], .int .i64 c]) (by simp [results, Tryd.results20, go_sem, b0, b1]) rfl ⟨rfl, ?_⟩
      exact below_set (below_set ((alloc3 _ _ _ _).trans (((hB2.drew.trans ((hb3.mono (by simp; omega)))).trans (hb4.mono (by simp; omega))).mono (by simp; omega))) (by omega) _) (by omega) _

end Go.Proofs.YthdhkjfanhhamaaDoor
