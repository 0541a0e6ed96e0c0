/- Contracts: the arithmetic of two fractions, as the model computes it. -/
import Derived.Test.YthdhkjfanhhamaaAri
namespace Go.Proofs.Ythdhkjfanhhamaa
open Go.RowKit

set_option maxHeartbeats 400000 in
theorem specAdd (n d m f : Int) (w : World) :
    Calls Try.prog 36 #[.agg #[.int .i64 n, .int .i64 d], .agg #[.int .i64 m, .int .i64 f]] w fun e w' => e = .returned (tv (twoT n d m f (lowT (n * f + m * d) (d * f)))) ∧ Below w.heap.size w w' := by
  cases h : (okF n d && okF m f) with
  | false =>
    have e0 : twoT n d m f (lowT (n * f + m * d) (d * f)) = (0, 0, 1) := by simp [twoT, h]
    rw [e0]
    have CT := fun w => specTwo n d m f w
    rw [h] at CT
    have HT := hid CT
    clear CT h e0
    go_enter Try.func36, Try.ntmps36
    go_wp2_with (fail)
    refine (HT.out _).mono ?_
    rintro e w1 ⟨rfl, hb1⟩
    obtain ⟨hc1, hf1⟩ := bcell hb1
    have c0 := below_someAt hb1 (b := w.heap.size + 2) (o := 0) (by simp) (by go_simp)
    have c1 := below_someAt hb1 (b := w.heap.size + 2) (o := 1) (by simp) (by go_simp)
    go_wp2
    refine bodyPost_ret (v := .tuple #[.agg #[.int .i64 0, .int .i64 0], .int .i64 1]) (by simp [results, Try.results36, go_sem, c0, c1]) rfl ⟨rfl, ?_⟩
    exact below_set (below_set ((alloc3 _ _ _ _).trans (hb1.mono (by simp; omega))) (by omega) _) (by omega) _
  | true =>
    have CT := fun w => specTwo n d m f w
    rw [h] at CT
    have HT := hid CT
    clear CT
    simp only [Bool.and_eq_true] at h
    obtain ⟨h1, h2⟩ := h
    obtain ⟨x1, x2, x3, x4⟩ := ok_bounds h1
    obtain ⟨y1, y2, y3, y4⟩ := ok_bounds h2
    have e0 : twoT n d m f (lowT (n * f + m * d) (d * f)) = lowT (n * f + m * d) (d * f) := by simp [twoT, h1, h2]
    rw [e0]
    have p1 := mul_bd (a := n) (b := f) (by omega) (by omega) (by omega) (by omega)
    have p2 := mul_bd (a := m) (b := d) (by omega) (by omega) (by omega) (by omega)
    have p3 := mul_bd (a := d) (b := f) (by omega) (by omega) (by omega) (by omega)
    have p4 := mul_pos1 (a := d) (b := f) (by omega) (by omega)
    have p5 := mul_bd (a := n) (b := m) (by omega) (by omega) (by omega) (by omega)
    have CL : ∀ w, Calls Try.prog 66 #[.int .i64 (n * f + m * d), .int .i64 (d * f)] w fun e w' => e = .returned (tv (lowT (n * f + m * d) (d * f))) ∧ Below w.heap.size w w' := by
      intro w; rw [← lowR_tv]; exact specFull _ _ _ (by omega) (by omega) (by omega) (by omega) (by omega)
    generalize lowT (n * f + m * d) (d * f) = t at CL
    obtain ⟨x, y, c⟩ := t
    have HL := hid CL
    clear CL e0
    clear h1 h2
    go_enter Try.func36, Try.ntmps36
    go_wp2_with (fail)
    refine (HT.out _).mono ?_
    rintro e w2 ⟨rfl, hB2⟩
    obtain ⟨hc2, hf2⟩ := bcell hB2
    go_wp2_with (fail)
    refine (HL.out _).mono ?_
    rintro e w3 ⟨rfl, hb3⟩
    dsimp only [tv]
    have hB3 := hB2.trans (hb3.mono hB2.size)
    clear hc2 hf2
    obtain ⟨hc3, hf3⟩ := bcell hB3
    have c0 := below_someAt hB3 (b := w.heap.size + 2) (o := 0) (by simp) (by go_simp)
    have c1 := below_someAt hB3 (b := w.heap.size + 2) (o := 1) (by simp) (by go_simp)
    go_wp2
    refine bodyPost_ret (v := .tuple #[.agg #[.int .i64 x, .int .i64 y], .int .i64 c]) (by simp [results, Try.results36, go_sem, c0, c1]) rfl ⟨rfl, ?_⟩
    exact below_set (below_set ((alloc3 _ _ _ _).trans (hB3.mono (by simp; omega))) (by omega) _) (by omega) _

set_option maxHeartbeats 400000 in
theorem specSub (n d m f : Int) (w : World) :
    Calls Try.prog 38 #[.agg #[.int .i64 n, .int .i64 d], .agg #[.int .i64 m, .int .i64 f]] w fun e w' => e = .returned (tv (twoT n d m f (lowT (n * f - m * d) (d * f)))) ∧ Below w.heap.size w w' := by
  cases h : (okF n d && okF m f) with
  | false =>
    have e0 : twoT n d m f (lowT (n * f - m * d) (d * f)) = (0, 0, 1) := by simp [twoT, h]
    rw [e0]
    have CT := fun w => specTwo n d m f w
    rw [h] at CT
    have HT := hid CT
    clear CT h e0
    go_enter Try.func38, Try.ntmps38
    go_wp2_with (fail)
    refine (HT.out _).mono ?_
    rintro e w1 ⟨rfl, hb1⟩
    obtain ⟨hc1, hf1⟩ := bcell hb1
    have c0 := below_someAt hb1 (b := w.heap.size + 2) (o := 0) (by simp) (by go_simp)
    have c1 := below_someAt hb1 (b := w.heap.size + 2) (o := 1) (by simp) (by go_simp)
    go_wp2
    refine bodyPost_ret (v := .tuple #[.agg #[.int .i64 0, .int .i64 0], .int .i64 1]) (by simp [results, Try.results38, go_sem, c0, c1]) rfl ⟨rfl, ?_⟩
    exact below_set (below_set ((alloc3 _ _ _ _).trans (hb1.mono (by simp; omega))) (by omega) _) (by omega) _
  | true =>
    have CT := fun w => specTwo n d m f w
    rw [h] at CT
    have HT := hid CT
    clear CT
    simp only [Bool.and_eq_true] at h
    obtain ⟨h1, h2⟩ := h
    obtain ⟨x1, x2, x3, x4⟩ := ok_bounds h1
    obtain ⟨y1, y2, y3, y4⟩ := ok_bounds h2
    have e0 : twoT n d m f (lowT (n * f - m * d) (d * f)) = lowT (n * f - m * d) (d * f) := by simp [twoT, h1, h2]
    rw [e0]
    have p1 := mul_bd (a := n) (b := f) (by omega) (by omega) (by omega) (by omega)
    have p2 := mul_bd (a := m) (b := d) (by omega) (by omega) (by omega) (by omega)
    have p3 := mul_bd (a := d) (b := f) (by omega) (by omega) (by omega) (by omega)
    have p4 := mul_pos1 (a := d) (b := f) (by omega) (by omega)
    have p5 := mul_bd (a := n) (b := m) (by omega) (by omega) (by omega) (by omega)
    have CL : ∀ w, Calls Try.prog 66 #[.int .i64 (n * f - m * d), .int .i64 (d * f)] w fun e w' => e = .returned (tv (lowT (n * f - m * d) (d * f))) ∧ Below w.heap.size w w' := by
      intro w; rw [← lowR_tv]; exact specFull _ _ _ (by omega) (by omega) (by omega) (by omega) (by omega)
    generalize lowT (n * f - m * d) (d * f) = t at CL
    obtain ⟨x, y, c⟩ := t
    have HL := hid CL
    clear CL e0
    clear h1 h2
    go_enter Try.func38, Try.ntmps38
    go_wp2_with (fail)
    refine (HT.out _).mono ?_
    rintro e w2 ⟨rfl, hB2⟩
    obtain ⟨hc2, hf2⟩ := bcell hB2
    go_wp2_with (fail)
    refine (HL.out _).mono ?_
    rintro e w3 ⟨rfl, hb3⟩
    dsimp only [tv]
    have hB3 := hB2.trans (hb3.mono hB2.size)
    clear hc2 hf2
    obtain ⟨hc3, hf3⟩ := bcell hB3
    have c0 := below_someAt hB3 (b := w.heap.size + 2) (o := 0) (by simp) (by go_simp)
    have c1 := below_someAt hB3 (b := w.heap.size + 2) (o := 1) (by simp) (by go_simp)
    go_wp2
    refine bodyPost_ret (v := .tuple #[.agg #[.int .i64 x, .int .i64 y], .int .i64 c]) (by simp [results, Try.results38, go_sem, c0, c1]) rfl ⟨rfl, ?_⟩
    exact below_set (below_set ((alloc3 _ _ _ _).trans (hB3.mono (by simp; omega))) (by omega) _) (by omega) _

set_option maxHeartbeats 400000 in
theorem specMul (n d m f : Int) (w : World) :
    Calls Try.prog 40 #[.agg #[.int .i64 n, .int .i64 d], .agg #[.int .i64 m, .int .i64 f]] w fun e w' => e = .returned (tv (twoT n d m f (lowT (n * m) (d * f)))) ∧ Below w.heap.size w w' := by
  cases h : (okF n d && okF m f) with
  | false =>
    have e0 : twoT n d m f (lowT (n * m) (d * f)) = (0, 0, 1) := by simp [twoT, h]
    rw [e0]
    have CT := fun w => specTwo n d m f w
    rw [h] at CT
    have HT := hid CT
    clear CT h e0
    go_enter Try.func40, Try.ntmps40
    go_wp2_with (fail)
    refine (HT.out _).mono ?_
    rintro e w1 ⟨rfl, hb1⟩
    obtain ⟨hc1, hf1⟩ := bcell hb1
    have c0 := below_someAt hb1 (b := w.heap.size + 2) (o := 0) (by simp) (by go_simp)
    have c1 := below_someAt hb1 (b := w.heap.size + 2) (o := 1) (by simp) (by go_simp)
    go_wp2
    refine bodyPost_ret (v := .tuple #[.agg #[.int .i64 0, .int .i64 0], .int .i64 1]) (by simp [results, Try.results40, go_sem, c0, c1]) rfl ⟨rfl, ?_⟩
    exact below_set (below_set ((alloc3 _ _ _ _).trans (hb1.mono (by simp; omega))) (by omega) _) (by omega) _
  | true =>
    have CT := fun w => specTwo n d m f w
    rw [h] at CT
    have HT := hid CT
    clear CT
    simp only [Bool.and_eq_true] at h
    obtain ⟨h1, h2⟩ := h
    obtain ⟨x1, x2, x3, x4⟩ := ok_bounds h1
    obtain ⟨y1, y2, y3, y4⟩ := ok_bounds h2
    have e0 : twoT n d m f (lowT (n * m) (d * f)) = lowT (n * m) (d * f) := by simp [twoT, h1, h2]
    rw [e0]
    have p1 := mul_bd (a := n) (b := f) (by omega) (by omega) (by omega) (by omega)
    have p2 := mul_bd (a := m) (b := d) (by omega) (by omega) (by omega) (by omega)
    have p3 := mul_bd (a := d) (b := f) (by omega) (by omega) (by omega) (by omega)
    have p4 := mul_pos1 (a := d) (b := f) (by omega) (by omega)
    have p5 := mul_bd (a := n) (b := m) (by omega) (by omega) (by omega) (by omega)
    have CL : ∀ w, Calls Try.prog 66 #[.int .i64 (n * m), .int .i64 (d * f)] w fun e w' => e = .returned (tv (lowT (n * m) (d * f))) ∧ Below w.heap.size w w' := by
      intro w; rw [← lowR_tv]; exact specFull _ _ _ (by omega) (by omega) (by omega) (by omega) (by omega)
    generalize lowT (n * m) (d * f) = t at CL
    obtain ⟨x, y, c⟩ := t
    have HL := hid CL
    clear CL e0
    clear h1 h2
    go_enter Try.func40, Try.ntmps40
    go_wp2_with (fail)
    refine (HT.out _).mono ?_
    rintro e w2 ⟨rfl, hB2⟩
    obtain ⟨hc2, hf2⟩ := bcell hB2
    go_wp2_with (fail)
    refine (HL.out _).mono ?_
    rintro e w3 ⟨rfl, hb3⟩
    dsimp only [tv]
    have hB3 := hB2.trans (hb3.mono hB2.size)
    clear hc2 hf2
    obtain ⟨hc3, hf3⟩ := bcell hB3
    have c0 := below_someAt hB3 (b := w.heap.size + 2) (o := 0) (by simp) (by go_simp)
    have c1 := below_someAt hB3 (b := w.heap.size + 2) (o := 1) (by simp) (by go_simp)
    go_wp2
    refine bodyPost_ret (v := .tuple #[.agg #[.int .i64 x, .int .i64 y], .int .i64 c]) (by simp [results, Try.results40, go_sem, c0, c1]) rfl ⟨rfl, ?_⟩
    exact below_set (below_set ((alloc3 _ _ _ _).trans (hB3.mono (by simp; omega))) (by omega) _) (by omega) _

set_option maxHeartbeats 400000 in
theorem specMed (n d m f : Int) (w : World) :
    Calls Try.prog 45 #[.agg #[.int .i64 n, .int .i64 d], .agg #[.int .i64 m, .int .i64 f]] w fun e w' => e = .returned (tv (twoT n d m f (lowT (n + m) (d + f)))) ∧ Below w.heap.size w w' := by
  cases h : (okF n d && okF m f) with
  | false =>
    have e0 : twoT n d m f (lowT (n + m) (d + f)) = (0, 0, 1) := by simp [twoT, h]
    rw [e0]
    have CT := fun w => specTwo n d m f w
    rw [h] at CT
    have HT := hid CT
    clear CT h e0
    go_enter Try.func45, Try.ntmps45
    go_wp2_with (fail)
    refine (HT.out _).mono ?_
    rintro e w1 ⟨rfl, hb1⟩
    obtain ⟨hc1, hf1⟩ := bcell hb1
    have c0 := below_someAt hb1 (b := w.heap.size + 2) (o := 0) (by simp) (by go_simp)
    have c1 := below_someAt hb1 (b := w.heap.size + 2) (o := 1) (by simp) (by go_simp)
    go_wp2
    refine bodyPost_ret (v := .tuple #[.agg #[.int .i64 0, .int .i64 0], .int .i64 1]) (by simp [results, Try.results45, go_sem, c0, c1]) rfl ⟨rfl, ?_⟩
    exact below_set (below_set ((alloc3 _ _ _ _).trans (hb1.mono (by simp; omega))) (by omega) _) (by omega) _
  | true =>
    have CT := fun w => specTwo n d m f w
    rw [h] at CT
    have HT := hid CT
    clear CT
    simp only [Bool.and_eq_true] at h
    obtain ⟨h1, h2⟩ := h
    obtain ⟨x1, x2, x3, x4⟩ := ok_bounds h1
    obtain ⟨y1, y2, y3, y4⟩ := ok_bounds h2
    have e0 : twoT n d m f (lowT (n + m) (d + f)) = lowT (n + m) (d + f) := by simp [twoT, h1, h2]
    rw [e0]
    have p1 := mul_bd (a := n) (b := f) (by omega) (by omega) (by omega) (by omega)
    have p2 := mul_bd (a := m) (b := d) (by omega) (by omega) (by omega) (by omega)
    have p3 := mul_bd (a := d) (b := f) (by omega) (by omega) (by omega) (by omega)
    have p4 := mul_pos1 (a := d) (b := f) (by omega) (by omega)
    have p5 := mul_bd (a := n) (b := m) (by omega) (by omega) (by omega) (by omega)
    have CL : ∀ w, Calls Try.prog 66 #[.int .i64 (n + m), .int .i64 (d + f)] w fun e w' => e = .returned (tv (lowT (n + m) (d + f))) ∧ Below w.heap.size w w' := by
      intro w; rw [← lowR_tv]; exact specFull _ _ _ (by omega) (by omega) (by omega) (by omega) (by omega)
    generalize lowT (n + m) (d + f) = t at CL
    obtain ⟨x, y, c⟩ := t
    have HL := hid CL
    clear CL e0
    clear h1 h2
    go_enter Try.func45, Try.ntmps45
    go_wp2_with (fail)
    refine (HT.out _).mono ?_
    rintro e w2 ⟨rfl, hB2⟩
    obtain ⟨hc2, hf2⟩ := bcell hB2
    go_wp2_with (fail)
    refine (HL.out _).mono ?_
    rintro e w3 ⟨rfl, hb3⟩
    dsimp only [tv]
    have hB3 := hB2.trans (hb3.mono hB2.size)
    clear hc2 hf2
    obtain ⟨hc3, hf3⟩ := bcell hB3
    have c0 := below_someAt hB3 (b := w.heap.size + 2) (o := 0) (by simp) (by go_simp)
    have c1 := below_someAt hB3 (b := w.heap.size + 2) (o := 1) (by simp) (by go_simp)
    go_wp2
    refine bodyPost_ret (v := .tuple #[.agg #[.int .i64 x, .int .i64 y], .int .i64 c]) (by simp [results, Try.results45, go_sem, c0, c1]) rfl ⟨rfl, ?_⟩
    exact below_set (below_set ((alloc3 _ _ _ _).trans (hB3.mono (by simp; omega))) (by omega) _) (by omega) _

end Go.Proofs.Ythdhkjfanhhamaa
