/- Contracts: SimplestBetween, by the program and by the model. -/
import Derived.Test.YtjijabfamjhdjaaSpl
namespace Go.Proofs.Ytjijabfamjhdjaa
open Go.RowKit

theorem chk2_bad1 {lo n d m f : Int} (h : okF n d = false) : chkC lo [(n, d), (m, f)] = 1 := chk_bad (j := 0) (x := (n, d)) rfl h
theorem chk2_bad2 {lo n d m f : Int} (h : okF m f = false) : chkC lo [(n, d), (m, f)] = 1 := chk_bad (j := 1) (x := (m, f)) rfl h
theorem two_all {P : Int × Int → Prop} {n d m f : Int} (h1 : P (n, d)) (h2 : P (m, f)) : ∀ (j : Nat) (x : Int × Int), [(n, d), (m, f)][j]? = some x → P x := by
  intro j x hx
  cases j with
  | zero =>
    have : (n, d) = x := by simpa using hx
    subst this; exact h1
  | succ j =>
    cases j with
    | zero =>
      have : (m, f) = x := by simpa using hx
      subst this; exact h2
    | succ j => simp at hx
theorem chk2_low1 {lo n d m f : Int} (h1 : okF n d = true) (h2 : okF m f = true) (h : n < lo) : chkC lo [(n, d), (m, f)] = 2 := chk_low (j := 0) (x := (n, d)) (two_all h1 h2) rfl h
theorem chk2_low2 {lo n d m f : Int} (h1 : okF n d = true) (h2 : okF m f = true) (h : m < lo) : chkC lo [(n, d), (m, f)] = 2 := chk_low (j := 1) (x := (m, f)) (two_all h1 h2) rfl h
theorem chk2_ok {lo n d m f : Int} (h1 : okF n d = true) (h2 : okF m f = true) (h3 : lo ≤ n) (h4 : lo ≤ m) : chkC lo [(n, d), (m, f)] = 0 := chk_good (two_all h1 h2) (two_all h3 h4)
theorem chk2_zero {lo n d m f : Int} (h : chkC lo [(n, d), (m, f)] = 0) : okF n d = true ∧ okF m f = true ∧ lo ≤ n ∧ lo ≤ m := by
  cases h1 : okF n d
  · rw [chk2_bad1 h1] at h; simp at h
  · cases h2 : okF m f
    · rw [chk2_bad2 h2] at h; simp at h
    · by_cases h3 : n < lo
      · rw [chk2_low1 h1 h2 h3] at h; simp at h
      · by_cases h4 : m < lo
        · rw [chk2_low2 h1 h2 h4] at h; simp at h
        · exact ⟨rfl, rfl, by omega, by omega⟩

/-- Both arguments and the result in their blocks. -/
def Box3 (w0 w : World) (n d m f : Int) : Prop := w.heap[w0.heap.size]? = some (.cells #[.int .i64 n, .int .i64 d] 25 (0, 0)) ∧ w.heap[w0.heap.size + 1]? = some (.cells #[.int .i64 m, .int .i64 f] 25 (0, 0)) ∧ w.heap[w0.heap.size + 1 + 1]? = some (.cells #[.int .i64 0, .int .i64 0] 25 (0, 0)) ∧ Below w0.heap.size w0 w
theorem box3_below {w0 w w' : World} {n d m f : Int} (h : Box3 w0 w n d m f) (hb : Below w.heap.size w w') : Box3 w0 w' n d m f := by
  obtain ⟨h1, h2, h3, h4⟩ := h
  have l1 := (Array.getElem?_eq_some_iff.1 h1).1
  have l2 := (Array.getElem?_eq_some_iff.1 h2).1
  have l3 := (Array.getElem?_eq_some_iff.1 h3).1
  exact ⟨(hb.block _ l1).trans h1, (hb.block _ l2).trans h2, (hb.block _ l3).trans h3, h4.trans (hb.mono h4.size)⟩
theorem new_at (w : World) (A : Obj) : (w.alloc A).heap[w.heap.size]? = some A := by
  show (w.heap.push A)[w.heap.size]? = _
  rw [Array.getElem?_push_size]
theorem old_at {w : World} {b : Nat} {O : Obj} (h : w.heap[b]? = some O) (A : Obj) : (w.alloc A).heap[b]? = some O :=
  (((Below.refl w.heap.size w).alloc (Nat.le_refl _) A).block b (Array.getElem?_eq_some_iff.1 h).1).trans h
theorem box3_new (w : World) (n d m f : Int) : Box3 w (((w.alloc (.cells #[.int .i64 n, .int .i64 d] 25)).alloc (.cells #[.int .i64 m, .int .i64 f] 25)).alloc (.cells #[.int .i64 0, .int .i64 0] 25)) n d m f := by
  refine ⟨old_at (old_at (new_at _ _) _) _, old_at ?_ _, ?_, (((Below.refl w.heap.size w).alloc (Nat.le_refl _) _).alloc (by simp) _).alloc (by simp; omega) _⟩
  · have := new_at (w.alloc (.cells #[.int .i64 n, .int .i64 d] 25)) (.cells #[.int .i64 m, .int .i64 f] 25)
    rwa [World.size_alloc] at this
  · have := new_at ((w.alloc (.cells #[.int .i64 n, .int .i64 d] 25)).alloc (.cells #[.int .i64 m, .int .i64 f] 25)) (.cells #[.int .i64 0, .int .i64 0] 25)
    rwa [World.size_alloc, World.size_alloc] at this
theorem blk2 {w : World} {b : Nat} {x y : Value} {t : TypeId} (h : w.heap[b]? = some (.cells #[x, y] t (0, 0))) : w.cell? ⟨b, 0, none⟩ = some x ∧ w.cell? ⟨b, 1, none⟩ = some y ∧ w.frozen? ⟨b, 0, none⟩ = false ∧ w.frozen? ⟨b, 1, none⟩ = false ∧ b < w.heap.size := by
  refine ⟨?_, ?_, ?_, ?_, (Array.getElem?_eq_some_iff.1 h).1⟩
  · simp [World.cell?, h]
  · simp [World.cell?, h]
  · simp [World.frozen?, h]
  · simp [World.frozen?, h]
/-- The result is written and read back. -/
theorem box3_ret {w0 w : World} {n d m f : Int} (h : Box3 w0 w n d m f) (x y : Int) : ((w.setCell ⟨w0.heap.size + 1 + 1, 0, none⟩ (.int .i64 x)).setCell ⟨w0.heap.size + 1 + 1, 1, none⟩ (.int .i64 y)).cell? ⟨w0.heap.size + 1 + 1, 0, none⟩ = some (.int .i64 x) ∧ ((w.setCell ⟨w0.heap.size + 1 + 1, 0, none⟩ (.int .i64 x)).setCell ⟨w0.heap.size + 1 + 1, 1, none⟩ (.int .i64 y)).cell? ⟨w0.heap.size + 1 + 1, 1, none⟩ = some (.int .i64 y) ∧ Below w0.heap.size w0 ((w.setCell ⟨w0.heap.size + 1 + 1, 0, none⟩ (.int .i64 x)).setCell ⟨w0.heap.size + 1 + 1, 1, none⟩ (.int .i64 y)) := by
  obtain ⟨k0, k1, _⟩ := blk2 h.2.2.1
  obtain ⟨a, b⟩ := two_set (u := .int .i64 x) (v := .int .i64 y) k0 k1
  exact ⟨a, b, below_set (below_set h.2.2.2 (by omega) _) (by omega) _⟩
theorem chk2At (lo n d m f : Int) (w : World) :
    Calls Try.prog 47 #[.int .i64 lo, .slice (some ⟨w.heap.size + 1 + 1 + 1, 0, none⟩) 2 2] ((((w.alloc (.cells #[.int .i64 n, .int .i64 d] 25)).alloc (.cells #[.int .i64 m, .int .i64 f] 25)).alloc (.cells #[.int .i64 0, .int .i64 0] 25)).alloc (.cells #[.int .i64 n, .int .i64 d, .int .i64 m, .int .i64 f] 25)) fun e w' => e = .returned (.int .i64 (chkC lo [(n, d), (m, f)])) ∧ Box3 w w' n d m f := by
  have hf := frs_two (((w.alloc (.cells #[.int .i64 n, .int .i64 d] 25)).alloc (.cells #[.int .i64 m, .int .i64 f] 25)).alloc (.cells #[.int .i64 0, .int .i64 0] 25)) n d m f 25
  rw [World.size_alloc, World.size_alloc, World.size_alloc] at hf
  have hb := box3_new w n d m f
  generalize ((w.alloc (.cells #[.int .i64 n, .int .i64 d] 25)).alloc (.cells #[.int .i64 m, .int .i64 f] 25)).alloc (.cells #[.int .i64 0, .int .i64 0] 25) = V at *
  refine (implChk lo (w.heap.size + 1 + 1 + 1) 2 2 [(n, d), (m, f)] _ rfl (by simp) hf).mono ?_
  rintro e w1 ⟨rfl, b1⟩
  exact ⟨rfl, box3_below hb (((Below.refl V.heap.size V).alloc (Nat.le_refl _) _).trans (b1.mono (by simp)))⟩

/-- The simplest fraction between two, and a code. -/
def smpT (n d m f : Int) : Int × Int × Int := if chkC 0 [(n, d), (m, f)] = 0 then (if 0 ≤ n * f - m * d then (0, 0, 6) else if okF (spl n d m f).1 (spl n d m f).2 then ((spl n d m f).1, (spl n d m f).2, 0) else (0, 0, 5)) else (0, 0, chkC 0 [(n, d), (m, f)])
theorem smpT_no {n d m f : Int} (h : chkC 0 [(n, d), (m, f)] ≠ 0) : smpT n d m f = (0, 0, chkC 0 [(n, d), (m, f)]) := if_neg h
theorem smpT_state {n d m f : Int} (h : chkC 0 [(n, d), (m, f)] = 0) (h2 : 0 ≤ n * f - m * d) : smpT n d m f = (0, 0, 6) := by unfold smpT; rw [if_pos h, if_pos h2]
theorem smpT_full {n d m f : Int} (h : chkC 0 [(n, d), (m, f)] = 0) (h2 : ¬ 0 ≤ n * f - m * d) (h3 : okF (spl n d m f).1 (spl n d m f).2 = false) : smpT n d m f = (0, 0, 5) := by unfold smpT; rw [if_pos h, if_neg h2, h3]; rfl
theorem smpT_ok {n d m f : Int} (h : chkC 0 [(n, d), (m, f)] = 0) (h2 : ¬ 0 ≤ n * f - m * d) (h3 : okF (spl n d m f).1 (spl n d m f).2 = true) : smpT n d m f = ((spl n d m f).1, (spl n d m f).2, 0) := by unfold smpT; rw [if_pos h, if_neg h2, h3]; rfl
theorem si_of {n d m f : Int} (h : chkC 0 [(n, d), (m, f)] = 0) (h2 : ¬ 0 ≤ n * f - m * d) : SI n d m f := by
  obtain ⟨h1, h3, h4, h5⟩ := chk2_zero h
  obtain ⟨a1, a2, a3, a4⟩ := ok_bounds h1
  obtain ⟨b1, b2, b3, b4⟩ := ok_bounds h3
  have : 0 < m * d := by
    have : 0 ≤ n * f := Int.mul_nonneg h4 (by omega)
    omega
  have hm : 0 < m := Int.pos_of_mul_pos_left this (by omega)
  exact ⟨⟨h4, a4⟩, ⟨a1, a2⟩, ⟨by omega, b4⟩, ⟨by omega, b2⟩, by omega⟩
where
  Int.pos_of_mul_pos_left {a b : Int} (h : 0 < a * b) (hb : 0 < b) : 0 < a := by
    rcases Int.lt_trichotomy a 0 with h1 | h1 | h1
    · have := Int.mul_neg_of_neg_of_pos h1 hb; omega
    · rw [h1] at h; simp at h
    · exact h1

set_option maxHeartbeats 1600000 in
theorem implSmp (n d m f : Int) (w : World) :
    Calls Try.prog 25 #[.agg #[.int .i64 n, .int .i64 d], .agg #[.int .i64 m, .int .i64 f]] w fun e w' => e = .returned (tv (smpT n d m f)) ∧ Below w.heap.size w w' := by
  have HC := hid (chk2At 0 n d m f w)
  unfold tv
  by_cases hc : chkC 0 [(n, d), (m, f)] = 0
  · obtain ⟨ho1, ho2, hn, hm⟩ := chk2_zero hc
    rw [hc] at HC
    have HX := hid (fun w => cross n d m f w ho1 ho2)
    by_cases h2 : 0 ≤ n * f - m * d
    · rw [smpT_state hc h2]
      clear hc ho1 ho2
      generalize n * f - m * d = X at *
      go_enter Try.func25, Try.ntmps25
      go_wp2_with (fail)
      refine HC.out.mono ?_
      rintro e w1 ⟨rfl, bx⟩
      have BX := hid bx
      obtain ⟨a0, a1, _, _, _⟩ := blk2 bx.1
      obtain ⟨b0, b1, _, _, _⟩ := blk2 bx.2.1
      clear bx
      go_wp2_with (fail)
      refine (HX.out _).mono ?_
      rintro e w2 ⟨rfl, b2⟩
      have BX2 := hid (box3_below BX.out b2)
      obtain ⟨z0, z1, f0, f1, zl⟩ := blk2 BX2.out.2.2.1
      clear b2
      go_wp2_with (fail)
      obtain ⟨r0, r1, E⟩ := box3_ret BX2.out 0 0
      refine bodyPost_ret (v := .tuple #[.agg #[.int .i64 0, .int .i64 0], .int .i64 6]) (by simp [results, Try.results25, go_sem, r0, r1]) rfl ⟨rfl, E⟩
    · have hsi := si_of hc h2
      have HI := hid (fun w => implSimplest _ n d m f w (Nat.le_refl _) hsi)
      cases h3 : okF (spl n d m f).1 (spl n d m f).2
      · rw [smpT_full hc h2 h3]
        have HV := hid (fun w => implValid (spl n d m f).1 (spl n d m f).2 w)
        rw [h3] at HV
        clear hc ho1 ho2 hsi h3
        generalize n * f - m * d = X at *
        generalize spl n d m f = s at *
        obtain ⟨x, y⟩ := s
        dsimp only at HV HI
        go_enter Try.func25, Try.ntmps25
        go_wp2_with (fail)
        refine HC.out.mono ?_
        rintro e w1 ⟨rfl, bx⟩
        have BX := hid bx
        obtain ⟨a0, a1, _, _, _⟩ := blk2 bx.1
        obtain ⟨b0, b1, _, _, _⟩ := blk2 bx.2.1
        clear bx
        go_wp2_with (fail)
        refine (HX.out _).mono ?_
        rintro e w2 ⟨rfl, b2⟩
        have BX2 := hid (box3_below BX.out b2)
        obtain ⟨a0, a1, _, _, _⟩ := blk2 BX2.out.1
        obtain ⟨b0, b1, _, _, _⟩ := blk2 BX2.out.2.1
        clear b2
        go_wp2_with (fail)
        refine (HI.out _).mono ?_
        rintro e w3 ⟨rfl, b3⟩
        have BX3 := hid (box3_below BX2.out b3)
        clear b3
        go_wp2_with (fail)
        refine (HV.out _).mono ?_
        rintro e w4 ⟨rfl, b4⟩
        have BX4 := hid (box3_below (box3_below BX3.out ((Below.refl _ _).alloc (Nat.le_refl _) (.cells #[.int .i64 x, .int .i64 y] 25))) b4)
        obtain ⟨z0, z1, f0, f1, zl⟩ := blk2 BX4.out.2.2.1
        clear b4
        go_wp2_with (fail)
        obtain ⟨r0, r1, E⟩ := box3_ret BX4.out 0 0
        refine bodyPost_ret (v := .tuple #[.agg #[.int .i64 0, .int .i64 0], .int .i64 5]) (by simp [results, Try.results25, go_sem, r0, r1]) rfl ⟨rfl, E⟩
      · rw [smpT_ok hc h2 h3]
        have HV := hid (fun w => implValid (spl n d m f).1 (spl n d m f).2 w)
        rw [h3] at HV
        clear hc ho1 ho2 hsi h3
        generalize n * f - m * d = X at *
        generalize spl n d m f = s at *
        obtain ⟨x, y⟩ := s
        dsimp only at HV HI ⊢
        go_enter Try.func25, Try.ntmps25
        go_wp2_with (fail)
        refine HC.out.mono ?_
        rintro e w1 ⟨rfl, bx⟩
        have BX := hid bx
        obtain ⟨a0, a1, _, _, _⟩ := blk2 bx.1
        obtain ⟨b0, b1, _, _, _⟩ := blk2 bx.2.1
        clear bx
        go_wp2_with (fail)
        refine (HX.out _).mono ?_
        rintro e w2 ⟨rfl, b2⟩
        have BX2 := hid (box3_below BX.out b2)
        obtain ⟨a0, a1, _, _, _⟩ := blk2 BX2.out.1
        obtain ⟨b0, b1, _, _, _⟩ := blk2 BX2.out.2.1
        clear b2
        go_wp2_with (fail)
        refine (HI.out _).mono ?_
        rintro e w3 ⟨rfl, b3⟩
        have BX3 := hid (box3_below BX2.out b3)
        clear b3
        have y0 := (two_new w3 25 (.int .i64 x) (.int .i64 y)).1
        have y1 := (two_new w3 25 (.int .i64 x) (.int .i64 y)).2
        go_wp2_with (fail)
        refine (HV.out _).mono ?_
        rintro e w4 ⟨rfl, b4⟩
        have BX4 := hid (box3_below (box3_below BX3.out ((Below.refl _ _).alloc (Nat.le_refl _) (.cells #[.int .i64 x, .int .i64 y] 25))) b4)
        obtain ⟨z0, z1, f0, f1, zl⟩ := blk2 BX4.out.2.2.1
        have y2 := (b4.cell (p := ⟨w3.heap.size, 0, none⟩) (by simp)).trans y0
        have y3 := (b4.cell (p := ⟨w3.heap.size, 1, none⟩) (by simp)).trans y1
        clear b4 y0 y1
        go_wp2_with (fail)
        obtain ⟨r0, r1, E⟩ := box3_ret BX4.out x y
        refine bodyPost_ret (v := .tuple #[.agg #[.int .i64 x, .int .i64 y], .int .i64 0]) (by simp [results, Try.results25, go_sem, r0, r1]) rfl ⟨rfl, E⟩
  · rw [smpT_no hc]
    generalize chkC 0 [(n, d), (m, f)] = k at *
    have hk : (k != 0) = true := by simpa using hc
    go_enter Try.func25, Try.ntmps25
    go_wp2_with (fail)
    refine HC.out.mono ?_
    rintro e w1 ⟨rfl, bx⟩
    have BX := hid bx
    obtain ⟨z0, z1, f0, f1, zl⟩ := blk2 bx.2.2.1
    clear bx
    go_wp2_with (fail)
    obtain ⟨r0, r1, E⟩ := box3_ret BX.out 0 0
    refine bodyPost_ret (v := .tuple #[.agg #[.int .i64 0, .int .i64 0], .int .i64 k]) (by simp [results, Try.results25, go_sem, r0, r1]) rfl ⟨rfl, E⟩

theorem specLess (n d m f : Int) (w : World) (h1 : okF n d = true) (h2 : okF m f = true) :
    Calls Try.prog 69 #[.agg #[.int .i64 n, .int .i64 d], .agg #[.int .i64 m, .int .i64 f]] w fun e w' => e = .returned (.bool (decide (n * f - m * d < 0))) ∧ Below w.heap.size w w' := by
  have HS := hid (fun w => specSign n d m f w h1 h2)
  have HD := hid (show decide (sgn (n * f - m * d) < 0) = decide (n * f - m * d < 0) by
    generalize n * f - m * d = X
    unfold sgn
    by_cases h1 : X < 0
    · rw [if_pos h1]; simp [h1]
    · rw [if_neg h1]
      by_cases h2 : X = 0
      · rw [if_pos h2]; simp [h1]
      · rw [if_neg h2]; simp [h1])
  clear h1 h2
  go_enter Try.func69, Try.ntmps69
  go_wp2_with (fail)
  refine (HS.out _).mono ?_
  rintro e w1 ⟨rfl, b1⟩
  go_wp2_with (fail)
  go_ret
  exact ⟨by rw [← HD.out]; rfl, (alloc2 _ _ _).trans (b1.mono (by simp; omega))⟩

set_option maxHeartbeats 1600000 in
theorem specSmp (n d m f : Int) (w : World) :
    Calls Try.prog 26 #[.agg #[.int .i64 n, .int .i64 d], .agg #[.int .i64 m, .int .i64 f]] w fun e w' => e = .returned (tv (smpT n d m f)) ∧ Below w.heap.size w w' := by
  unfold tv
  have HB := hid (box3_new w n d m f)
  have HO1 := hid (fun w => specOk n d w)
  have HO2 := hid (fun w => specOk m f w)
  cases ho1 : okF n d
  · rw [smpT_no (by rw [chk2_bad1 ho1]; decide), chk2_bad1 ho1]
    rw [ho1] at HO1
    go_enter Try.func26, Try.ntmps26
    go_wp2_with (fail)
    refine (HO1.out _).mono ?_
    rintro e w1 ⟨rfl, b1⟩
    have BX := hid (box3_below HB.out b1)
    obtain ⟨z0, z1, f0, f1, zl⟩ := blk2 BX.out.2.2.1
    clear b1
    go_wp2_with (fail)
    obtain ⟨r0, r1, E⟩ := box3_ret BX.out 0 0
    refine bodyPost_ret (v := .tuple #[.agg #[.int .i64 0, .int .i64 0], .int .i64 1]) (by simp [results, Try.results26, go_sem, r0, r1]) rfl ⟨rfl, E⟩
  cases ho2 : okF m f
  · rw [smpT_no (by rw [chk2_bad2 ho2]; decide), chk2_bad2 ho2]
    rw [ho1] at HO1
    rw [ho2] at HO2
    go_enter Try.func26, Try.ntmps26
    go_wp2_with (fail)
    refine (HO1.out _).mono ?_
    rintro e w1 ⟨rfl, b1⟩
    have BX := hid (box3_below HB.out b1)
    obtain ⟨b0, b1', _, _, _⟩ := blk2 BX.out.2.1
    clear b1
    go_wp2_with (fail)
    refine (HO2.out _).mono ?_
    rintro e w2 ⟨rfl, b2⟩
    have BX2 := hid (box3_below BX.out b2)
    obtain ⟨z0, z1, f0, f1, zl⟩ := blk2 BX2.out.2.2.1
    clear b2
    go_wp2_with (fail)
    obtain ⟨r0, r1, E⟩ := box3_ret BX2.out 0 0
    refine bodyPost_ret (v := .tuple #[.agg #[.int .i64 0, .int .i64 0], .int .i64 1]) (by simp [results, Try.results26, go_sem, r0, r1]) rfl ⟨rfl, E⟩
  rw [ho1] at HO1
  rw [ho2] at HO2
  by_cases hn : n < 0
  · rw [smpT_no (by rw [chk2_low1 ho1 ho2 hn]; decide), chk2_low1 ho1 ho2 hn]
    clear ho1 ho2
    go_enter Try.func26, Try.ntmps26
    go_wp2_with (fail)
    refine (HO1.out _).mono ?_
    rintro e w1 ⟨rfl, b1⟩
    have BX := hid (box3_below HB.out b1)
    obtain ⟨b0, b1', _, _, _⟩ := blk2 BX.out.2.1
    clear b1
    go_wp2_with (fail)
    refine (HO2.out _).mono ?_
    rintro e w2 ⟨rfl, b2⟩
    have BX2 := hid (box3_below BX.out b2)
    obtain ⟨a0, a1, _, _, _⟩ := blk2 BX2.out.1
    obtain ⟨b0, b1, _, _, _⟩ := blk2 BX2.out.2.1
    obtain ⟨z0, z1, f0, f1, zl⟩ := blk2 BX2.out.2.2.1
    clear b2
    go_wp2_with (fail)
    obtain ⟨r0, r1, E⟩ := box3_ret BX2.out 0 0
    refine bodyPost_ret (v := .tuple #[.agg #[.int .i64 0, .int .i64 0], .int .i64 2]) (by simp [results, Try.results26, go_sem, r0, r1]) rfl ⟨rfl, E⟩
  by_cases hm : m < 0
  · rw [smpT_no (by rw [chk2_low2 ho1 ho2 hm]; decide), chk2_low2 ho1 ho2 hm]
    clear ho1 ho2
    go_enter Try.func26, Try.ntmps26
    go_wp2_with (fail)
    refine (HO1.out _).mono ?_
    rintro e w1 ⟨rfl, b1⟩
    have BX := hid (box3_below HB.out b1)
    obtain ⟨b0, b1', _, _, _⟩ := blk2 BX.out.2.1
    clear b1
    go_wp2_with (fail)
    refine (HO2.out _).mono ?_
    rintro e w2 ⟨rfl, b2⟩
    have BX2 := hid (box3_below BX.out b2)
    obtain ⟨a0, a1, _, _, _⟩ := blk2 BX2.out.1
    obtain ⟨b0, b1, _, _, _⟩ := blk2 BX2.out.2.1
    obtain ⟨z0, z1, f0, f1, zl⟩ := blk2 BX2.out.2.2.1
    clear b2
    go_wp2_with (fail)
    obtain ⟨r0, r1, E⟩ := box3_ret BX2.out 0 0
    refine bodyPost_ret (v := .tuple #[.agg #[.int .i64 0, .int .i64 0], .int .i64 2]) (by simp [results, Try.results26, go_sem, r0, r1]) rfl ⟨rfl, E⟩
  have hc := chk2_ok (lo := 0) ho1 ho2 (by omega) (by omega)
  have HL := hid (fun w => specLess n d m f w ho1 ho2)
  by_cases h2 : 0 ≤ n * f - m * d
  · rw [smpT_state hc h2]
    rw [decide_eq_false (show ¬ n * f - m * d < 0 by omega)] at HL
    clear hc ho1 ho2
    go_enter Try.func26, Try.ntmps26
    go_wp2_with (fail)
    refine (HO1.out _).mono ?_
    rintro e w1 ⟨rfl, b1⟩
    have BX := hid (box3_below HB.out b1)
    obtain ⟨b0, b1', _, _, _⟩ := blk2 BX.out.2.1
    clear b1
    go_wp2_with (fail)
    refine (HO2.out _).mono ?_
    rintro e w2 ⟨rfl, b2⟩
    have BX2 := hid (box3_below BX.out b2)
    obtain ⟨a0, a1, _, _, _⟩ := blk2 BX2.out.1
    obtain ⟨b0, b1, _, _, _⟩ := blk2 BX2.out.2.1
    obtain ⟨z0, z1, f0, f1, zl⟩ := blk2 BX2.out.2.2.1
    clear b2
    go_wp2_with (fail)
    refine (HL.out _).mono ?_
    rintro e w3 ⟨rfl, b3⟩
    have BX3 := hid (box3_below BX2.out b3)
    obtain ⟨z0, z1, f0, f1, zl⟩ := blk2 BX3.out.2.2.1
    clear b3
    go_wp2_with (fail)
    obtain ⟨r0, r1, E⟩ := box3_ret BX3.out 0 0
    refine bodyPost_ret (v := .tuple #[.agg #[.int .i64 0, .int .i64 0], .int .i64 6]) (by simp [results, Try.results26, go_sem, r0, r1]) rfl ⟨rfl, E⟩
  have hsi := si_of hc h2
  have HI := hid (fun w => specSimple _ n d m f w (Nat.le_refl _) hsi)
  have HV := hid (fun w => specOk (spl n d m f).1 (spl n d m f).2 w)
  rw [decide_eq_true (show n * f - m * d < 0 by omega)] at HL
  cases h3 : okF (spl n d m f).1 (spl n d m f).2
  · rw [smpT_full hc h2 h3]
    rw [h3] at HV
    clear hc ho1 ho2 hsi h3 h2
    generalize spl n d m f = s at *
    obtain ⟨x, y⟩ := s
    dsimp only at HV HI
    go_enter Try.func26, Try.ntmps26
    go_wp2_with (fail)
    refine (HO1.out _).mono ?_
    rintro e w1 ⟨rfl, b1⟩
    have BX := hid (box3_below HB.out b1)
    obtain ⟨b0, b1', _, _, _⟩ := blk2 BX.out.2.1
    clear b1
    go_wp2_with (fail)
    refine (HO2.out _).mono ?_
    rintro e w2 ⟨rfl, b2⟩
    have BX2 := hid (box3_below BX.out b2)
    obtain ⟨a0, a1, _, _, _⟩ := blk2 BX2.out.1
    obtain ⟨b0, b1, _, _, _⟩ := blk2 BX2.out.2.1
    obtain ⟨z0, z1, f0, f1, zl⟩ := blk2 BX2.out.2.2.1
    clear b2
    go_wp2_with (fail)
    refine (HL.out _).mono ?_
    rintro e w3 ⟨rfl, b3⟩
    have BX3 := hid (box3_below BX2.out b3)
    obtain ⟨a0, a1, _, _, _⟩ := blk2 BX3.out.1
    obtain ⟨b0, b1, _, _, _⟩ := blk2 BX3.out.2.1
    clear b3
    go_wp2_with (fail)
    refine (HI.out _).mono ?_
    rintro e w4 ⟨rfl, b4⟩
    have BX4 := hid (box3_below BX3.out b4)
    clear b4
    have y0 := (two_new w4 25 (.int .i64 x) (.int .i64 y)).1
    have y1 := (two_new w4 25 (.int .i64 x) (.int .i64 y)).2
    go_wp2_with (fail)
    refine (HV.out _).mono ?_
    rintro e w5 ⟨rfl, b5⟩
    have BX5 := hid (box3_below (box3_below BX4.out ((Below.refl _ _).alloc (Nat.le_refl _) (.cells #[.int .i64 x, .int .i64 y] 25))) b5)
    obtain ⟨z0, z1, f0, f1, zl⟩ := blk2 BX5.out.2.2.1
    have y2 := (b5.cell (p := ⟨w4.heap.size, 0, none⟩) (by simp)).trans y0
    have y3 := (b5.cell (p := ⟨w4.heap.size, 1, none⟩) (by simp)).trans y1
    clear b5 y0 y1
    go_wp2_with (fail)
    obtain ⟨r0, r1, E⟩ := box3_ret BX5.out 0 0
    refine bodyPost_ret (v := .tuple #[.agg #[.int .i64 0, .int .i64 0], .int .i64 5]) (by simp [results, Try.results26, go_sem, r0, r1]) rfl ⟨rfl, E⟩
  · rw [smpT_ok hc h2 h3]
    rw [h3] at HV
    clear hc ho1 ho2 hsi h3 h2
    generalize spl n d m f = s at *
    obtain ⟨x, y⟩ := s
    dsimp only at HV HI ⊢
    go_enter Try.func26, Try.ntmps26
    go_wp2_with (fail)
    refine (HO1.out _).mono ?_
    rintro e w1 ⟨rfl, b1⟩
    have BX := hid (box3_below HB.out b1)
    obtain ⟨b0, b1', _, _, _⟩ := blk2 BX.out.2.1
    clear b1
    go_wp2_with (fail)
    refine (HO2.out _).mono ?_
    rintro e w2 ⟨rfl, b2⟩
    have BX2 := hid (box3_below BX.out b2)
    obtain ⟨a0, a1, _, _, _⟩ := blk2 BX2.out.1
    obtain ⟨b0, b1, _, _, _⟩ := blk2 BX2.out.2.1
    obtain ⟨z0, z1, f0, f1, zl⟩ := blk2 BX2.out.2.2.1
    clear b2
    go_wp2_with (fail)
    refine (HL.out _).mono ?_
    rintro e w3 ⟨rfl, b3⟩
    have BX3 := hid (box3_below BX2.out b3)
    obtain ⟨a0, a1, _, _, _⟩ := blk2 BX3.out.1
    obtain ⟨b0, b1, _, _, _⟩ := blk2 BX3.out.2.1
    clear b3
    go_wp2_with (fail)
    refine (HI.out _).mono ?_
    rintro e w4 ⟨rfl, b4⟩
    have BX4 := hid (box3_below BX3.out b4)
    clear b4
    have y0 := (two_new w4 25 (.int .i64 x) (.int .i64 y)).1
    have y1 := (two_new w4 25 (.int .i64 x) (.int .i64 y)).2
    go_wp2_with (fail)
    refine (HV.out _).mono ?_
    rintro e w5 ⟨rfl, b5⟩
    have BX5 := hid (box3_below (box3_below BX4.out ((Below.refl _ _).alloc (Nat.le_refl _) (.cells #[.int .i64 x, .int .i64 y] 25))) b5)
    obtain ⟨z0, z1, f0, f1, zl⟩ := blk2 BX5.out.2.2.1
    have y2 := (b5.cell (p := ⟨w4.heap.size, 0, none⟩) (by simp)).trans y0
    have y3 := (b5.cell (p := ⟨w4.heap.size, 1, none⟩) (by simp)).trans y1
    clear b5 y0 y1
    go_wp2_with (fail)
    obtain ⟨r0, r1, E⟩ := box3_ret BX5.out x y
    refine bodyPost_ret (v := .tuple #[.agg #[.int .i64 x, .int .i64 y], .int .i64 0]) (by simp [results, Try.results26, go_sem, r0, r1]) rfl ⟨rfl, E⟩

end Go.Proofs.Ytjijabfamjhdjaa
