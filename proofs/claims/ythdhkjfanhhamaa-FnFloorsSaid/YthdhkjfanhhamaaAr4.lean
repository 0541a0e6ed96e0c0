/- Contracts: the quotient by the model; lowest terms of any two numbers. -/
import Derived.Test.YthdhkjfanhhamaaAr3
namespace Go.Proofs.Ythdhkjfanhhamaa
open Go.RowKit

set_option maxHeartbeats 400000 in
theorem specDiv (n d m f : Int) (w : World) :
    Calls Try.prog 42 #[.agg #[.int .i64 n, .int .i64 d], .agg #[.int .i64 m, .int .i64 f]] w fun e w' => e = .returned (tv (divT n d m f)) ∧ Below w.heap.size w w' := by
  cases h : (okF n d && okF m f) with
  | false =>
    have e0 : divT n d m f = (0, 0, 1) := by unfold divT twoT; rw [h]; rfl
    rw [e0]
    have CT := fun w => specTwo n d m f w
    rw [h] at CT
    have HT := hid CT
    clear CT h e0
    go_enter Try.func42, Try.ntmps42
    go_wp2_with (fail)
    refine (HT.out _).mono ?_
    rintro e w1 ⟨rfl, hb1⟩
    obtain ⟨hc1, hf1⟩ := bcell hb1
    have c0 := below_someAt hb1 (b := w.heap.size + 2) (o := 0) (by simp) (by go_simp)
    have c1 := below_someAt hb1 (b := w.heap.size + 2) (o := 1) (by simp) (by go_simp)
    go_wp2
    refine bodyPost_ret (v := .tuple #[.agg #[.int .i64 0, .int .i64 0], .int .i64 1]) (by simp [results, Try.results42, go_sem, c0, c1]) rfl ⟨rfl, ?_⟩
    exact below_set (below_set ((alloc3 _ _ _ _).trans (hb1.mono (by simp; omega))) (by omega) _) (by omega) _
  | true =>
    have CT := fun w => specTwo n d m f w
    rw [h] at CT
    have HT := hid CT
    clear CT
    have h' := h
    simp only [Bool.and_eq_true] at h'
    obtain ⟨h1, h2⟩ := h'
    by_cases h0 : m = 0
    · have e0 : divT n d m f = (0, 0, 6) := by unfold divT twoT; rw [h, if_pos h0]; rfl
      rw [e0]
      clear e0 h1 h2 h
      subst h0
      go_enter Try.func42, Try.ntmps42
      go_wp2_with (fail)
      refine (HT.out _).mono ?_
      rintro e w1 ⟨rfl, hb1⟩
      obtain ⟨hc1, hf1⟩ := bcell hb1
      have c0 := below_someAt hb1 (b := w.heap.size + 2) (o := 0) (by simp) (by go_simp)
      have c1 := below_someAt hb1 (b := w.heap.size + 2) (o := 1) (by simp) (by go_simp)
      go_wp2
      refine bodyPost_ret (v := .tuple #[.agg #[.int .i64 0, .int .i64 0], .int .i64 6]) (by simp [results, Try.results42, go_sem, c0, c1]) rfl ⟨rfl, ?_⟩
      exact below_set (below_set ((alloc3 _ _ _ _).trans (hb1.mono (by simp; omega))) (by omega) _) (by omega) _
    · have e0 : divT n d m f = lowT (n * f) (d * m) := by unfold divT twoT; rw [h, if_neg h0]; rfl
      rw [e0]
      obtain ⟨x1, x2, x3, x4⟩ := ok_bounds h1
      obtain ⟨y1, y2, y3, y4⟩ := ok_bounds h2
      have p1 := mul_bd (a := n) (b := f) (by omega) (by omega) (by omega) (by omega)
      have p2 := mul_bd (a := d) (b := m) (by omega) (by omega) (by omega) (by omega)
      have p3 : d * m ≠ 0 := by
        intro e
        rcases Int.mul_eq_zero.1 e with e | e <;> omega
      have CL : ∀ w, Calls Try.prog 66 #[.int .i64 (n * f), .int .i64 (d * m)] w fun e w' => e = .returned (tv (lowT (n * f) (d * m))) ∧ Below w.heap.size w w' := by
        intro w; rw [← lowR_tv]; exact specFull _ _ _ (by omega) (by omega) (by omega) (by omega) p3
      generalize lowT (n * f) (d * m) = t at CL
      obtain ⟨x, y, c⟩ := t
      have hm0 : (m == 0) = false := by simpa using h0
      have HL := hid CL
      clear CL e0 h1 h2 h h0 p3
      go_enter Try.func42, Try.ntmps42
      go_wp2_with (fail)
      refine (HT.out _).mono ?_
      rintro e w2 ⟨rfl, hB2⟩
      obtain ⟨hc2, hf2⟩ := bcell hB2
      go_wp2_with (fail)
      refine (HL.out _).mono ?_
      rintro e w3 ⟨rfl, hb3⟩
      dsimp only [tv]
      have hB3 := hB2.trans (hb3.mono hB2.size)
      clear hc2 hf2
      obtain ⟨hc3, hf3⟩ := bcell hB3
      have c0 := below_someAt hB3 (b := w.heap.size + 2) (o := 0) (by simp) (by go_simp)
      have c1 := below_someAt hB3 (b := w.heap.size + 2) (o := 1) (by simp) (by go_simp)
      go_wp2
      refine bodyPost_ret (v := .tuple #[.agg #[.int .i64 x, .int .i64 y], .int .i64 c]) (by simp [results, Try.results42, go_sem, c0, c1]) rfl ⟨rfl, ?_⟩
      exact below_set (below_set ((alloc3 _ _ _ _).trans (hB3.mono (by simp; omega))) (by omega) _) (by omega) _

/-- May MakeFraction take these numbers? -/
def mkB (n d : Int) : Bool := decide (-1000000000000000000 ≤ n ∧ n ≤ 1000000000000000000 ∧ -1000000000000000000 ≤ d ∧ d ≤ 1000000000000000000 ∧ d ≠ 0)
def mkT (n d : Int) : Int × Int × Int := if mkB n d then lowT n d else (0, 0, 2)
theorem mkT_yes {n d : Int} (h : -1000000000000000000 ≤ n ∧ n ≤ 1000000000000000000 ∧ -1000000000000000000 ≤ d ∧ d ≤ 1000000000000000000 ∧ d ≠ 0) : mkT n d = lowT n d := by
  unfold mkT mkB; rw [decide_eq_true h]; rfl
theorem mkT_no {n d : Int} (h : ¬ (-1000000000000000000 ≤ n ∧ n ≤ 1000000000000000000 ∧ -1000000000000000000 ≤ d ∧ d ≤ 1000000000000000000 ∧ d ≠ 0)) : mkT n d = (0, 0, 2) := by
  unfold mkT mkB; rw [decide_eq_false h]; rfl

set_option maxHeartbeats 400000 in
theorem implMake (n d : Int) (w : World) :
    Calls Try.prog 20 #[.int .i64 n, .int .i64 d] w fun e w' => e = .returned (tv (mkT n d)) ∧ Below w.heap.size w w' := by
  by_cases h : -1000000000000000000 ≤ n ∧ n ≤ 1000000000000000000 ∧ -1000000000000000000 ≤ d ∧ d ≤ 1000000000000000000 ∧ d ≠ 0
  · rw [mkT_yes h]
    obtain ⟨x1, x2, x3, x4, x5⟩ := h
    have CL : ∀ w, Calls Try.prog 51 #[.int .i64 n, .int .i64 d] w fun e w' => e = .returned (tv (lowT n d)) ∧ Below w.heap.size w w' := by
      intro w; rw [← lowR_tv]; exact implLow _ _ _ (by omega) (by omega) (by omega) (by omega) x5
    generalize lowT n d = t at CL
    obtain ⟨x, y, c⟩ := t
    have hd0 : (d == 0) = false := by simpa using x5
    have HL := hid CL
    clear CL x5
    go_enter Try.func20, Try.ntmps20
    go_wp2_with (fail)
    refine (HL.out _).mono ?_
    rintro e w1 ⟨rfl, hb1⟩
    dsimp only [tv]
    obtain ⟨hc1, hf1⟩ := bcell hb1
    have c0 := below_someAt hb1 (b := w.heap.size) (o := 0) (by simp) (by go_simp)
    have c1 := below_someAt hb1 (b := w.heap.size) (o := 1) (by simp) (by go_simp)
    go_wp2
    refine bodyPost_ret (v := .tuple #[.agg #[.int .i64 x, .int .i64 y], .int .i64 c]) (by simp [results, Try.results20, go_sem, c0, c1]) rfl ⟨rfl, ?_⟩
    exact below_set (below_set (((Below.refl _ _).alloc (Nat.le_refl _) _).trans (hb1.mono (by simp))) (by omega) _) (by omega) _
  · rw [mkT_no h]
    by_cases a1 : n < -1000000000000000000
    · clear h
      go_enter Try.func20, Try.ntmps20
      go_wp2
      refine bodyPost_ret (v := .tuple #[.agg #[.int .i64 0, .int .i64 0], .int .i64 2]) (by simp [results, Try.results20, go_sem]) rfl ⟨rfl, ?_⟩
      exact (Below.refl _ _).alloc (Nat.le_refl _) _
    · by_cases a2 : 1000000000000000000 < n
      · clear h
        go_enter Try.func20, Try.ntmps20
        go_wp2
        refine bodyPost_ret (v := .tuple #[.agg #[.int .i64 0, .int .i64 0], .int .i64 2]) (by simp [results, Try.results20, go_sem]) rfl ⟨rfl, ?_⟩
        exact (Below.refl _ _).alloc (Nat.le_refl _) _
      · by_cases a3 : d < -1000000000000000000
        · clear h
          go_enter Try.func20, Try.ntmps20
          go_wp2
          refine bodyPost_ret (v := .tuple #[.agg #[.int .i64 0, .int .i64 0], .int .i64 2]) (by simp [results, Try.results20, go_sem]) rfl ⟨rfl, ?_⟩
          exact (Below.refl _ _).alloc (Nat.le_refl _) _
        · by_cases a4 : 1000000000000000000 < d
          · clear h
            go_enter Try.func20, Try.ntmps20
            go_wp2
            refine bodyPost_ret (v := .tuple #[.agg #[.int .i64 0, .int .i64 0], .int .i64 2]) (by simp [results, Try.results20, go_sem]) rfl ⟨rfl, ?_⟩
            exact (Below.refl _ _).alloc (Nat.le_refl _) _
          · have a5 : d = 0 := by omega
            clear h
            subst a5
            go_enter Try.func20, Try.ntmps20
            go_wp2
            refine bodyPost_ret (v := .tuple #[.agg #[.int .i64 0, .int .i64 0], .int .i64 2]) (by simp [results, Try.results20, go_sem]) rfl ⟨rfl, ?_⟩
            exact (Below.refl _ _).alloc (Nat.le_refl _) _

set_option maxHeartbeats 400000 in
theorem specMakeF (n d : Int) (w : World) :
    Calls Try.prog 32 #[.int .i64 n, .int .i64 d] w fun e w' => e = .returned (tv (mkT n d)) ∧ Below w.heap.size w w' := by
  by_cases h : -1000000000000000000 ≤ n ∧ n ≤ 1000000000000000000 ∧ -1000000000000000000 ≤ d ∧ d ≤ 1000000000000000000 ∧ d ≠ 0
  · rw [mkT_yes h]
    obtain ⟨x1, x2, x3, x4, x5⟩ := h
    have CL : ∀ w, Calls Try.prog 66 #[.int .i64 n, .int .i64 d] w fun e w' => e = .returned (tv (lowT n d)) ∧ Below w.heap.size w w' := by
      intro w; rw [← lowR_tv]; exact specFull _ _ _ (by omega) (by omega) (by omega) (by omega) x5
    generalize lowT n d = t at CL
    obtain ⟨x, y, c⟩ := t
    have hd0 : (d == 0) = false := by simpa using x5
    have HL := hid CL
    have I1 := hid (inB_yes ⟨x1, x2⟩)
    have I2 := hid (inB_yes ⟨x3, x4⟩)
    clear CL x5
    go_enter Try.func32, Try.ntmps32
    go_wp2_with (fail)
    refine (specIn _ _ _ _).mono ?_
    rintro e w0 ⟨rfl, rfl⟩
    rw [I1.out]
    go_wp2_with (fail)
    refine (specIn _ _ _ _).mono ?_
    rintro e w0 ⟨rfl, rfl⟩
    rw [I2.out]
    go_wp2_with (fail)
    refine (HL.out _).mono ?_
    rintro e w1 ⟨rfl, hb1⟩
    dsimp only [tv]
    obtain ⟨hc1, hf1⟩ := bcell hb1
    have c0 := below_someAt hb1 (b := w.heap.size) (o := 0) (by simp) (by go_simp)
    have c1 := below_someAt hb1 (b := w.heap.size) (o := 1) (by simp) (by go_simp)
    go_wp2
    refine bodyPost_ret (v := .tuple #[.agg #[.int .i64 x, .int .i64 y], .int .i64 c]) (by simp [results, Try.results32, go_sem, c0, c1]) rfl ⟨rfl, ?_⟩
    exact below_set (below_set (((Below.refl _ _).alloc (Nat.le_refl _) _).trans (hb1.mono (by simp))) (by omega) _) (by omega) _
  · rw [mkT_no h]
    cases i1 : inB (-1000000000000000000) 1000000000000000000 n with
    | false =>
      have I1 := hid i1
      clear i1 h
      go_enter Try.func32, Try.ntmps32
      go_wp2_with (fail)
      refine (specIn _ _ _ _).mono ?_
      rintro e w0 ⟨rfl, rfl⟩
      rw [I1.out]
      go_wp2
      refine bodyPost_ret (v := .tuple #[.agg #[.int .i64 0, .int .i64 0], .int .i64 2]) (by simp [results, Try.results32, go_sem]) rfl ⟨rfl, ?_⟩
      exact (Below.refl _ _).alloc (Nat.le_refl _) _
    | true =>
      cases i2 : inB (-1000000000000000000) 1000000000000000000 d with
      | false =>
        have I1 := hid i1
        have I2 := hid i2
        clear i1 i2 h
        go_enter Try.func32, Try.ntmps32
        go_wp2_with (fail)
        refine (specIn _ _ _ _).mono ?_
        rintro e w0 ⟨rfl, rfl⟩
        rw [I1.out]
        go_wp2_with (fail)
        refine (specIn _ _ _ _).mono ?_
        rintro e w0 ⟨rfl, rfl⟩
        rw [I2.out]
        go_wp2
        refine bodyPost_ret (v := .tuple #[.agg #[.int .i64 0, .int .i64 0], .int .i64 2]) (by simp [results, Try.results32, go_sem]) rfl ⟨rfl, ?_⟩
        exact (Below.refl _ _).alloc (Nat.le_refl _) _
      | true =>
        have a5 : d = 0 := by
          rw [inB_iff] at i1 i2
          omega
        have I1 := hid i1
        have I2 := hid i2
        clear i1 i2 h
        subst a5
        go_enter Try.func32, Try.ntmps32
        go_wp2_with (fail)
        refine (specIn _ _ _ _).mono ?_
        rintro e w0 ⟨rfl, rfl⟩
        rw [I1.out]
        go_wp2_with (fail)
        refine (specIn _ _ _ _).mono ?_
        rintro e w0 ⟨rfl, rfl⟩
        rw [I2.out]
        go_wp2
        refine bodyPost_ret (v := .tuple #[.agg #[.int .i64 0, .int .i64 0], .int .i64 2]) (by simp [results, Try.results32, go_sem]) rfl ⟨rfl, ?_⟩
        exact (Below.refl _ _).alloc (Nat.le_refl _) _

end Go.Proofs.Ythdhkjfanhhamaa
