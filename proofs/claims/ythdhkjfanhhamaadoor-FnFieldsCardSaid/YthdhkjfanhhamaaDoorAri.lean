/- Contracts: the arithmetic of two fractions, as the program and the model compute it. -/
import Derived.Test.YthdhkjfanhhamaaDoorFull
namespace Go.Proofs.YthdhkjfanhhamaaDoor
open Go.RowKit

/-- A fraction and a code. -/
def tv (t : Int × Int × Int) : Value := .tuple #[.agg #[.int .i64 t.1, .int .i64 t.2.1], .int .i64 t.2.2]
def lowT (n d : Int) : Int × Int × Int := if okF (lowN n d) (lowD n d) then (lowN n d, lowD n d, 0) else (0, 0, 5)
theorem lowR_tv (n d : Int) : lowR n d = tv (lowT n d) := by
  unfold lowR fullR lowT tv; split <;> rfl
/-- Two fractions that must be plain. -/
def twoT (n d m f : Int) (t : Int × Int × Int) : Int × Int × Int := if okF n d && okF m f then t else (0, 0, 1)

theorem ok_bounds {n d : Int} (h : okF n d = true) : 1 ≤ d ∧ d ≤ 1000000000 ∧ -1000000000 ≤ n ∧ n ≤ 1000000000 := by
  rw [okF_iff] at h; omega

theorem mul_bd {a b : Int} (h1 : -1000000000 ≤ a) (h2 : a ≤ 1000000000) (h3 : -1000000000 ≤ b) (h4 : b ≤ 1000000000) : -1000000000000000000 ≤ a * b ∧ a * b ≤ 1000000000000000000 := by
  have h : (a * b).natAbs ≤ 1000000000 * 1000000000 := by
    rw [Int.natAbs_mul]; exact Nat.mul_le_mul (by omega) (by omega)
  omega
theorem mul_pos1 {a b : Int} (h1 : 1 ≤ a) (h3 : 1 ≤ b) : 1 ≤ a * b := Int.mul_pos h1 h3

theorem alloc3 (w : World) (a b c : Obj) : Below w.heap.size w (((w.alloc a).alloc b).alloc c) :=
  (((Below.refl _ _).alloc (Nat.le_refl _) _).alloc (by simp) _).alloc (by simp; omega) _

theorem specTwo (n d m f : Int) (w : World) :
    Calls Tryd.prog 38 #[.agg #[.int .i64 n, .int .i64 d], .agg #[.int .i64 m, .int .i64 f]] w fun e w' => e = .returned (.int .i64 (if okF n d && okF m f then 0 else 1)) ∧ Below w.heap.size w w' := by
  cases h1 : okF n d with
  | false =>
    have H1 := hid h1
    clear h1
    go_enter Tryd.func38, Tryd.ntmps38
    go_wp2_with (fail)
    refine (specOk _ _ _).mono ?_
    rintro e w1 ⟨rfl, hb1⟩
    rw [H1.out]
    obtain ⟨hc1, hf1⟩ := bcell hb1
    go_wp2
    go_ret
    exact ⟨rfl, (((Below.refl _ _).alloc (Nat.le_refl _) _).alloc (by simp) _).trans (hb1.mono (by simp; omega))⟩
  | true =>
    cases h2 : okF m f
    all_goals
      have H1 := hid h1
      have H2 := hid h2
      clear h1 h2
      go_enter Tryd.func38, Tryd.ntmps38
      go_wp2_with (fail)
      refine (specOk _ _ _).mono ?_
      rintro e w1 ⟨rfl, hb1⟩
      rw [H1.out]
      obtain ⟨hc1, hf1⟩ := bcell hb1
      go_wp2_with (fail)
      refine (specOk _ _ _).mono ?_
      rintro e w2 ⟨rfl, hb2⟩
      rw [H2.out]
      have hB2 := hb1.trans (hb2.mono hb1.size)
      go_wp2
      go_ret
      exact ⟨rfl, (((Below.refl _ _).alloc (Nat.le_refl _) _).alloc (by simp) _).trans (hB2.mono (by simp; omega))⟩

set_option maxHeartbeats 400000 in
theorem implAdd (n d m f : Int) (w : World) :
    Calls Tryd.prog 11 #[.agg #[.int .i64 n, .int .i64 d], .agg #[.int .i64 m, .int .i64 f]] w fun e w' => e = .returned (tv (twoT n d m f (lowT (n * f + m * d) (d * f)))) ∧ Below w.heap.size w w' := by
  cases h1 : okF n d with
  | false =>
    have e0 : twoT n d m f (lowT (n * f + m * d) (d * f)) = (0, 0, 1) := by simp [twoT, h1]
    rw [e0]
    have H1 := hid h1
    clear h1 e0
    go_enter Tryd.func11, Tryd.ntmps11
    go_wp2_with (fail)
    refine (implValid _ _ _).mono ?_
    rintro e w1 ⟨rfl, hb1⟩
    rw [H1.out]
    obtain ⟨hc1, hf1⟩ := bcell hb1
    have c0 := below_someAt hb1 (b := w.heap.size + 2) (o := 0) (by simp) (by go_simp)
    have c1 := below_someAt hb1 (b := w.heap.size + 2) (o := 1) (by simp) (by go_simp)
    go_wp2
    refine bodyPost_ret (v := .tuple #[.agg #[.int .i64 0, .int .i64 0], .int .i64 1]) (by simp [results, Tryd.results11, go_sem, c0, c1]) rfl ⟨rfl, ?_⟩
    exact below_set (below_set ((alloc3 _ _ _ _).trans (hb1.mono (by simp; omega))) (by omega) _) (by omega) _
  | true =>
   cases h2 : okF m f with
   | false =>
    have e0 : twoT n d m f (lowT (n * f + m * d) (d * f)) = (0, 0, 1) := by simp [twoT, h2]
    rw [e0]
    have H1 := hid h1
    have H2 := hid h2
    clear h1 h2 e0
    go_enter Tryd.func11, Tryd.ntmps11
    go_wp2_with (fail)
    refine (implValid _ _ _).mono ?_
    rintro e w1 ⟨rfl, hb1⟩
    rw [H1.out]
    obtain ⟨hc1, hf1⟩ := bcell hb1
    go_wp2_with (fail)
    refine (implValid _ _ _).mono ?_
    rintro e w2 ⟨rfl, hb2⟩
    rw [H2.out]
    have hB2 := hb1.trans (hb2.mono hb1.size)
    clear hc1 hf1
    obtain ⟨hc2, hf2⟩ := bcell hB2
    have c0 := below_someAt hB2 (b := w.heap.size + 2) (o := 0) (by simp) (by go_simp)
    have c1 := below_someAt hB2 (b := w.heap.size + 2) (o := 1) (by simp) (by go_simp)
    go_wp2
    refine bodyPost_ret (v := .tuple #[.agg #[.int .i64 0, .int .i64 0], .int .i64 1]) (by simp [results, Tryd.results11, go_sem, c0, c1]) rfl ⟨rfl, ?_⟩
    exact below_set (below_set ((alloc3 _ _ _ _).trans (hB2.mono (by simp; omega))) (by omega) _) (by omega) _
   | true =>
    obtain ⟨x1, x2, x3, x4⟩ := ok_bounds h1
    obtain ⟨y1, y2, y3, y4⟩ := ok_bounds h2
    have e0 : twoT n d m f (lowT (n * f + m * d) (d * f)) = lowT (n * f + m * d) (d * f) := by simp [twoT, h1, h2]
    rw [e0]
    have p1 := mul_bd (a := n) (b := f) (by omega) (by omega) (by omega) (by omega)
    have p2 := mul_bd (a := m) (b := d) (by omega) (by omega) (by omega) (by omega)
    have p3 := mul_bd (a := d) (b := f) (by omega) (by omega) (by omega) (by omega)
    have p4 := mul_pos1 (a := d) (b := f) (by omega) (by omega)
    have p5 := mul_bd (a := n) (b := m) (by omega) (by omega) (by omega) (by omega)
    have CL : ∀ w, Calls Tryd.prog 34 #[.int .i64 (n * f + m * d), .int .i64 (d * f)] w fun e w' => e = .returned (tv (lowT (n * f + m * d) (d * f))) ∧ Below w.heap.size w w' := by
      intro w; rw [← lowR_tv]; exact implLow _ _ _ (by omega) (by omega) (by omega) (by omega) (by omega)
    generalize lowT (n * f + m * d) (d * f) = t at CL
    obtain ⟨x, y, c⟩ := t
    have HL := hid CL
    clear CL e0
    have H1 := hid h1
    have H2 := hid h2
    clear h1 h2
    go_enter Tryd.func11, Tryd.ntmps11
    go_wp2_with (fail)
    refine (implValid _ _ _).mono ?_
    rintro e w1 ⟨rfl, hb1⟩
    rw [H1.out]
    obtain ⟨hc1, hf1⟩ := bcell hb1
    go_wp2_with (fail)
    refine (implValid _ _ _).mono ?_
    rintro e w2 ⟨rfl, hb2⟩
    rw [H2.out]
    have hB2 := hb1.trans (hb2.mono hb1.size)
    clear hc1 hf1
    obtain ⟨hc2, hf2⟩ := bcell hB2
    go_wp2_with (fail)
    refine (HL.out _).mono ?_
    rintro e w3 ⟨rfl, hb3⟩
    dsimp only [tv]
    have hB3 := hB2.trans (hb3.mono hB2.size)
    clear hc2 hf2
    obtain ⟨hc3, hf3⟩ := bcell hB3
    have c0 := below_someAt hB3 (b := w.heap.size + 2) (o := 0) (by simp) (by go_simp)
    have c1 := below_someAt hB3 (b := w.heap.size + 2) (o := 1) (by simp) (by go_simp)
    go_wp2
    refine bodyPost_ret (v := .tuple #[.agg #[.int .i64 x, .int .i64 y], .int .i64 c]) (by simp [results, Tryd.results11, go_sem, c0, c1]) rfl ⟨rfl, ?_⟩
    exact below_set (below_set ((alloc3 _ _ _ _).trans (hB3.mono (by simp; omega))) (by omega) _) (by omega) _

set_option maxHeartbeats 400000 in
theorem implMul (n d m f : Int) (w : World) :
    Calls Tryd.prog 13 #[.agg #[.int .i64 n, .int .i64 d], .agg #[.int .i64 m, .int .i64 f]] w fun e w' => e = .returned (tv (twoT n d m f (lowT (n * m) (d * f)))) ∧ Below w.heap.size w w' := by
  cases h1 : okF n d with
  | false =>
    have e0 : twoT n d m f (lowT (n * m) (d * f)) = (0, 0, 1) := by simp [twoT, h1]
    rw [e0]
    have H1 := hid h1
    clear h1 e0
    go_enter Tryd.func13, Tryd.ntmps13
    go_wp2_with (fail)
    refine (implValid _ _ _).mono ?_
    rintro e w1 ⟨rfl, hb1⟩
    rw [H1.out]
    obtain ⟨hc1, hf1⟩ := bcell hb1
    have c0 := below_someAt hb1 (b := w.heap.size + 2) (o := 0) (by simp) (by go_simp)
    have c1 := below_someAt hb1 (b := w.heap.size + 2) (o := 1) (by simp) (by go_simp)
    go_wp2
    refine bodyPost_ret (v := .tuple #[.agg #[.int .i64 0, .int .i64 0], .int .i64 1]) (by simp [results, Tryd.results13, go_sem, c0, c1]) rfl ⟨rfl, ?_⟩
    exact below_set (below_set ((alloc3 _ _ _ _).trans (hb1.mono (by simp; omega))) (by omega) _) (by omega) _
  | true =>
   cases h2 : okF m f with
   | false =>
    have e0 : twoT n d m f (lowT (n * m) (d * f)) = (0, 0, 1) := by simp [twoT, h2]
    rw [e0]
    have H1 := hid h1
    have H2 := hid h2
    clear h1 h2 e0
    go_enter Tryd.func13, Tryd.ntmps13
    go_wp2_with (fail)
    refine (implValid _ _ _).mono ?_
    rintro e w1 ⟨rfl, hb1⟩
    rw [H1.out]
    obtain ⟨hc1, hf1⟩ := bcell hb1
    go_wp2_with (fail)
    refine (implValid _ _ _).mono ?_
    rintro e w2 ⟨rfl, hb2⟩
    rw [H2.out]
    have hB2 := hb1.trans (hb2.mono hb1.size)
    clear hc1 hf1
    obtain ⟨hc2, hf2⟩ := bcell hB2
    have c0 := below_someAt hB2 (b := w.heap.size + 2) (o := 0) (by simp) (by go_simp)
    have c1 := below_someAt hB2 (b := w.heap.size + 2) (o := 1) (by simp) (by go_simp)
    go_wp2
    refine bodyPost_ret (v := .tuple #[.agg #[.int .i64 0, .int .i64 0], .int .i64 1]) (by simp [results, Tryd.results13, go_sem, c0, c1]) rfl ⟨rfl, ?_⟩
    exact below_set (below_set ((alloc3 _ _ _ _).trans (hB2.mono (by simp; omega))) (by omega) _) (by omega) _
   | true =>
    obtain ⟨x1, x2, x3, x4⟩ := ok_bounds h1
    obtain ⟨y1, y2, y3, y4⟩ := ok_bounds h2
    have e0 : twoT n d m f (lowT (n * m) (d * f)) = lowT (n * m) (d * f) := by simp [twoT, h1, h2]
    rw [e0]
    have p1 := mul_bd (a := n) (b := f) (by omega) (by omega) (by omega) (by omega)
    have p2 := mul_bd (a := m) (b := d) (by omega) (by omega) (by omega) (by omega)
    have p3 := mul_bd (a := d) (b := f) (by omega) (by omega) (by omega) (by omega)
    have p4 := mul_pos1 (a := d) (b := f) (by omega) (by omega)
    have p5 := mul_bd (a := n) (b := m) (by omega) (by omega) (by omega) (by omega)
    have CL : ∀ w, Calls Tryd.prog 34 #[.int .i64 (n * m), .int .i64 (d * f)] w fun e w' => e = .returned (tv (lowT (n * m) (d * f))) ∧ Below w.heap.size w w' := by
      intro w; rw [← lowR_tv]; exact implLow _ _ _ (by omega) (by omega) (by omega) (by omega) (by omega)
    generalize lowT (n * m) (d * f) = t at CL
    obtain ⟨x, y, c⟩ := t
    have HL := hid CL
    clear CL e0
    have H1 := hid h1
    have H2 := hid h2
    clear h1 h2
    go_enter Tryd.func13, Tryd.ntmps13
    go_wp2_with (fail)
    refine (implValid _ _ _).mono ?_
    rintro e w1 ⟨rfl, hb1⟩
    rw [H1.out]
    obtain ⟨hc1, hf1⟩ := bcell hb1
    go_wp2_with (fail)
    refine (implValid _ _ _).mono ?_
    rintro e w2 ⟨rfl, hb2⟩
    rw [H2.out]
    have hB2 := hb1.trans (hb2.mono hb1.size)
    clear hc1 hf1
    obtain ⟨hc2, hf2⟩ := bcell hB2
    go_wp2_with (fail)
    refine (HL.out _).mono ?_
    rintro e w3 ⟨rfl, hb3⟩
    dsimp only [tv]
    have hB3 := hB2.trans (hb3.mono hB2.size)
    clear hc2 hf2
    obtain ⟨hc3, hf3⟩ := bcell hB3
    have c0 := below_someAt hB3 (b := w.heap.size + 2) (o := 0) (by simp) (by go_simp)
    have c1 := below_someAt hB3 (b := w.heap.size + 2) (o := 1) (by simp) (by go_simp)
    go_wp2
    refine bodyPost_ret (v := .tuple #[.agg #[.int .i64 x, .int .i64 y], .int .i64 c]) (by simp [results, Tryd.results13, go_sem, c0, c1]) rfl ⟨rfl, ?_⟩
    exact below_set (below_set ((alloc3 _ _ _ _).trans (hB3.mono (by simp; omega))) (by omega) _) (by omega) _

set_option maxHeartbeats 400000 in
theorem implMed (n d m f : Int) (w : World) :
    Calls Tryd.prog 14 #[.agg #[.int .i64 n, .int .i64 d], .agg #[.int .i64 m, .int .i64 f]] w fun e w' => e = .returned (tv (twoT n d m f (lowT (n + m) (d + f)))) ∧ Below w.heap.size w w' := by
  cases h1 : okF n d with
  | false =>
    have e0 : twoT n d m f (lowT (n + m) (d + f)) = (0, 0, 1) := by simp [twoT, h1]
    rw [e0]
    have H1 := hid h1
    clear h1 e0
    go_enter Tryd.func14, Tryd.ntmps14
    go_wp2_with (fail)
    refine (implValid _ _ _).mono ?_
    rintro e w1 ⟨rfl, hb1⟩
    rw [H1.out]
    obtain ⟨hc1, hf1⟩ := bcell hb1
    have c0 := below_someAt hb1 (b := w.heap.size + 2) (o := 0) (by simp) (by go_simp)
    have c1 := below_someAt hb1 (b := w.heap.size + 2) (o := 1) (by simp) (by go_simp)
    go_wp2
    refine bodyPost_ret (v := .tuple #[.agg #[.int .i64 0, .int .i64 0], .int .i64 1]) (by simp [results, Tryd.results14, go_sem, c0, c1]) rfl ⟨rfl, ?_⟩
    exact below_set (below_set ((alloc3 _ _ _ _).trans (hb1.mono (by simp; omega))) (by omega) _) (by omega) _
  | true =>
   cases h2 : okF m f with
   | false =>
    have e0 : twoT n d m f (lowT (n + m) (d + f)) = (0, 0, 1) := by simp [twoT, h2]
    rw [e0]
    have H1 := hid h1
    have H2 := hid h2
    clear h1 h2 e0
    go_enter Tryd.func14, Tryd.ntmps14
    go_wp2_with (fail)
    refine (implValid _ _ _).mono ?_
    rintro e w1 ⟨rfl, hb1⟩
    rw [H1.out]
    obtain ⟨hc1, hf1⟩ := bcell hb1
    go_wp2_with (fail)
    refine (implValid _ _ _).mono ?_
    rintro e w2 ⟨rfl, hb2⟩
    rw [H2.out]
    have hB2 := hb1.trans (hb2.mono hb1.size)
    clear hc1 hf1
    obtain ⟨hc2, hf2⟩ := bcell hB2
    have c0 := below_someAt hB2 (b := w.heap.size + 2) (o := 0) (by simp) (by go_simp)
    have c1 := below_someAt hB2 (b := w.heap.size + 2) (o := 1) (by simp) (by go_simp)
    go_wp2
    refine bodyPost_ret (v := .tuple #[.agg #[.int .i64 0, .int .i64 0], .int .i64 1]) (by simp [results, Tryd.results14, go_sem, c0, c1]) rfl ⟨rfl, ?_⟩
    exact below_set (below_set ((alloc3 _ _ _ _).trans (hB2.mono (by simp; omega))) (by omega) _) (by omega) _
   | true =>
    obtain ⟨x1, x2, x3, x4⟩ := ok_bounds h1
    obtain ⟨y1, y2, y3, y4⟩ := ok_bounds h2
    have e0 : twoT n d m f (lowT (n + m) (d + f)) = lowT (n + m) (d + f) := by simp [twoT, h1, h2]
    rw [e0]
    have p1 := mul_bd (a := n) (b := f) (by omega) (by omega) (by omega) (by omega)
    have p2 := mul_bd (a := m) (b := d) (by omega) (by omega) (by omega) (by omega)
    have p3 := mul_bd (a := d) (b := f) (by omega) (by omega) (by omega) (by omega)
    have p4 := mul_pos1 (a := d) (b := f) (by omega) (by omega)
    have p5 := mul_bd (a := n) (b := m) (by omega) (by omega) (by omega) (by omega)
    have CL : ∀ w, Calls Tryd.prog 34 #[.int .i64 (n + m), .int .i64 (d + f)] w fun e w' => e = .returned (tv (lowT (n + m) (d + f))) ∧ Below w.heap.size w w' := by
      intro w; rw [← lowR_tv]; exact implLow _ _ _ (by omega) (by omega) (by omega) (by omega) (by omega)
    generalize lowT (n + m) (d + f) = t at CL
    obtain ⟨x, y, c⟩ := t
    have HL := hid CL
    clear CL e0
    have H1 := hid h1
    have H2 := hid h2
    clear h1 h2
    go_enter Tryd.func14, Tryd.ntmps14
    go_wp2_with (fail)
    refine (implValid _ _ _).mono ?_
    rintro e w1 ⟨rfl, hb1⟩
    rw [H1.out]
    obtain ⟨hc1, hf1⟩ := bcell hb1
    go_wp2_with (fail)
    refine (implValid _ _ _).mono ?_
    rintro e w2 ⟨rfl, hb2⟩
    rw [H2.out]
    have hB2 := hb1.trans (hb2.mono hb1.size)
    clear hc1 hf1
    obtain ⟨hc2, hf2⟩ := bcell hB2
    go_wp2_with (fail)
    refine (HL.out _).mono ?_
    rintro e w3 ⟨rfl, hb3⟩
    dsimp only [tv]
    have hB3 := hB2.trans (hb3.mono hB2.size)
    clear hc2 hf2
    obtain ⟨hc3, hf3⟩ := bcell hB3
    have c0 := below_someAt hB3 (b := w.heap.size + 2) (o := 0) (by simp) (by go_simp)
    have c1 := below_someAt hB3 (b := w.heap.size + 2) (o := 1) (by simp) (by go_simp)
    go_wp2
    refine bodyPost_ret (v := .tuple #[.agg #[.int .i64 x, .int .i64 y], .int .i64 c]) (by simp [results, Tryd.results14, go_sem, c0, c1]) rfl ⟨rfl, ?_⟩
    exact below_set (below_set ((alloc3 _ _ _ _).trans (hB3.mono (by simp; omega))) (by omega) _) (by omega) _

end Go.Proofs.YthdhkjfanhhamaaDoor
