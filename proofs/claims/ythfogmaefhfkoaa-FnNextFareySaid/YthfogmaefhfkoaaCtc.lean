/- Contracts: whether two circles touch, by the program and by the model. -/
import Derived.Test.YthfogmaefhfkoaaFy
namespace Go.Proofs.Ythfogmaefhfkoaa
open Go.RowKit

/-- Whether the circles touch, and a code. -/
def ctcT (n d m f : Int) : Bool × Int := if okF n d && okF m f then (nbB n d m f, 0) else (false, 1)
theorem ctcT_no {n d m f : Int} (h : (okF n d && okF m f) = false) : ctcT n d m f = (false, 1) := by unfold ctcT; rw [h]; rfl
theorem ctcT_ok {n d m f : Int} (h : (okF n d && okF m f) = true) : ctcT n d m f = (nbB n d m f, 0) := by unfold ctcT; rw [h]; rfl
theorem nb_abs {n d m f : Int} (h : (okF n d && okF m f) = true) : nbB n d m f = (((n * f - m * d).natAbs : Int) == 1) := by
  have e0 : nbB n d m f = (n * f - m * d == 1 || n * f - m * d == -1) := by unfold nbB; rw [h]; rfl
  rw [e0]
  generalize n * f - m * d = t
  rw [Bool.eq_iff_iff]
  simp
  omega

set_option maxHeartbeats 800000 in
theorem implCtc (n d m f : Int) (w : World) :
    Calls Try.prog 63 #[.agg #[.int .i64 n, .int .i64 d], .agg #[.int .i64 m, .int .i64 f]] w fun e w' => e = .returned (.tuple #[.bool (ctcT n d m f).1, .int .i64 (ctcT n d m f).2]) ∧ Below w.heap.size w w' := by
  cases h1 : okF n d with
  | false =>
    rw [ctcT_no (by rw [h1]; rfl)]
    have H1 := hid h1
    clear h1
    go_enter Try.func63, Try.ntmps63
    go_wp2_with (fail)
    refine (implValid _ _ _).mono ?_
    rintro e w1 ⟨rfl, hb1⟩
    rw [H1.out]
    go_wp2
    go_ret2
    exact ⟨rfl, (alloc2 _ _ _).trans (hb1.mono (by simp; omega))⟩
  | true =>
   cases h2 : okF m f with
   | false =>
    rw [ctcT_no (by rw [h1, h2]; rfl)]
    have H1 := hid h1
    have H2 := hid h2
    clear h1 h2
    go_enter Try.func63, Try.ntmps63
    go_wp2_with (fail)
    refine (implValid _ _ _).mono ?_
    rintro e w1 ⟨rfl, hb1⟩
    rw [H1.out]
    obtain ⟨hc1, hf1⟩ := bcell hb1
    go_wp2_with (fail)
    refine (implValid _ _ _).mono ?_
    rintro e w2 ⟨rfl, hb2⟩
    rw [H2.out]
    have hB2 := hb1.trans (hb2.mono hb1.size)
    clear hc1 hf1
    obtain ⟨hc2, hf2⟩ := bcell hB2
    go_wp2
    go_ret2
    exact ⟨rfl, (alloc2 _ _ _).trans (hB2.mono (by simp; omega))⟩
   | true =>
    rw [ctcT_ok (by rw [h1, h2]; rfl)]
    have CL := fun w => implNb n d m f w
    have H1 := hid h1
    have H2 := hid h2
    generalize nbB n d m f = t at CL ⊢
    have HL := hid CL
    clear h1 h2 CL
    go_enter Try.func63, Try.ntmps63
    go_wp2_with (fail)
    refine (implValid _ _ _).mono ?_
    rintro e w1 ⟨rfl, hb1⟩
    rw [H1.out]
    obtain ⟨hc1, hf1⟩ := bcell hb1
    go_wp2_with (fail)
    refine (implValid _ _ _).mono ?_
    rintro e w2 ⟨rfl, hb2⟩
    rw [H2.out]
    have hB2 := hb1.trans (hb2.mono hb1.size)
    clear hc1 hf1
    obtain ⟨hc2, hf2⟩ := bcell hB2
    go_wp2_with (fail)
    refine (HL.out _).mono ?_
    rintro e w3 ⟨rfl, hb3⟩
    have hB3 := hB2.trans (hb3.mono hB2.size)
    go_wp2
    go_ret2
    exact ⟨rfl, (alloc2 _ _ _).trans (hB3.mono (by simp; omega))⟩

theorem specTch (n d m f : Int) (w : World) (h1 : okF n d = true) (h2 : okF m f = true) :
    Calls Try.prog 127 #[.agg #[.int .i64 n, .int .i64 d], .agg #[.int .i64 m, .int .i64 f]] w fun e w' => e = .returned (.bool (nbB n d m f)) ∧ Below w.heap.size w w' := by
  obtain ⟨x1, x2, x3, x4⟩ := ok_bounds h1
  obtain ⟨y1, y2, y3, y4⟩ := ok_bounds h2
  have p1 := mul_bd (a := n) (b := f) (by omega) (by omega) (by omega) (by omega)
  have p2 := mul_bd (a := m) (b := d) (by omega) (by omega) (by omega) (by omega)
  have CL := fun w => specSize (n * f - m * d) w (by omega) (by omega)
  rw [nb_abs (by rw [h1, h2]; rfl)]
  generalize ((n * f - m * d).natAbs : Int) = t at CL ⊢
  have HL := hid CL
  clear h1 h2 CL
  go_enter Try.func127, Try.ntmps127
  go_wp2_with (fail)
  refine (HL.out _).mono ?_
  rintro e w2 ⟨rfl, rfl⟩
  go_wp2
  go_ret
  exact ⟨rfl, alloc2 _ _ _⟩

set_option maxHeartbeats 800000 in
theorem specCtc (n d m f : Int) (w : World) :
    Calls Try.prog 64 #[.agg #[.int .i64 n, .int .i64 d], .agg #[.int .i64 m, .int .i64 f]] w fun e w' => e = .returned (.tuple #[.bool (ctcT n d m f).1, .int .i64 (ctcT n d m f).2]) ∧ Below w.heap.size w w' := by
  have CT := fun w => specTwo n d m f w
  cases h : (okF n d && okF m f) with
  | false =>
    rw [ctcT_no h]
    rw [h] at CT
    have HT := hid CT
    clear CT h
    go_enter Try.func64, Try.ntmps64
    go_wp2_with (fail)
    refine (HT.out _).mono ?_
    rintro e w1 ⟨rfl, hb1⟩
    go_wp2
    go_ret2
    exact ⟨rfl, (alloc2 _ _ _).trans (hb1.mono (by simp; omega))⟩
  | true =>
    rw [ctcT_ok h]
    rw [h] at CT
    have HT := hid CT
    have h' := h
    simp only [Bool.and_eq_true] at h'
    obtain ⟨h1, h2⟩ := h'
    have CL := fun w => specTch n d m f w h1 h2
    generalize nbB n d m f = t at CL ⊢
    have HL := hid CL
    clear CT h h1 h2 CL
    go_enter Try.func64, Try.ntmps64
    go_wp2_with (fail)
    refine (HT.out _).mono ?_
    rintro e w1 ⟨rfl, hb1⟩
    obtain ⟨hc1, hf1⟩ := bcell hb1
    go_wp2_with (fail)
    refine (HL.out _).mono ?_
    rintro e w2 ⟨rfl, hb2⟩
    have hB2 := hb1.trans (hb2.mono hb1.size)
    go_wp2
    go_ret2
    exact ⟨rfl, (alloc2 _ _ _).trans (hB2.mono (by simp; omega))⟩

end Go.Proofs.Ythfogmaefhfkoaa
