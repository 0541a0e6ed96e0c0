/- Contract: the model's fraction in lowest terms, with a code. -/
import Derived.Test.YtipegemhcmfnmaaDoorLow
namespace Go.Proofs.YtipegemhcmfnmaaDoor
open Go.RowKit

theorem below_someAt {B : Nat} {w w' : World} (h : Below B w w') {b o : Nat} (hb : b < B) (hs : (w.cell? ⟨b, o, none⟩).isSome = true) : (w'.cell? ⟨b, o, none⟩).isSome = true := by
  rw [h.cell (p := ⟨b, o, none⟩) hb]; exact hs

theorem below_set {B : Nat} {a w : World} (h : Below B a w) {b o : Nat} (hb : B ≤ b) (u : Value) : Below B a (w.setCell ⟨b, o, none⟩ u) := h.setCell (p := ⟨b, o, none⟩) hb u

theorem lowN_negneg {n d : Int} (h : d < 0) : lowN (-n) (-d) = lowN n d := by
  rw [← lowN_neg n d h, ← lowN_pos (-n) (-d) (by omega), gc_neg_left, gc_neg_right]
theorem lowD_negneg {n d : Int} (h : d < 0) : lowD (-n) (-d) = lowD n d := by
  rw [← lowD_neg n d h, ← lowD_pos (-n) (-d) (by omega), gc_neg_left, gc_neg_right]

set_option maxHeartbeats 400000 in
theorem specFull (n d : Int) (w : World) (ha : -2000000000000000000 ≤ n) (ha' : n ≤ 2000000000000000000) (hb : -2000000000000000000 ≤ d) (hb' : d ≤ 2000000000000000000) (h0 : d ≠ 0) :
    Calls Tryd.prog 97 #[.int .i64 n, .int .i64 d] w fun e w' => e = .returned (lowR n d) ∧ Below w.heap.size w w' := by
  unfold lowR
  by_cases hd : d < 0
  · have ex1 := @lowN_negneg n d hd
    have ex2 := @lowD_negneg n d hd
    obtain ⟨X, hX⟩ : ∃ X : Int, lowN n d = X := ⟨_, rfl⟩
    obtain ⟨Y, hY⟩ : ∃ Y : Int, lowD n d = Y := ⟨_, rfl⟩
    rw [hX] at ex1 ⊢
    rw [hY] at ex2 ⊢
    have EX1 := hid ex1
    have EX2 := hid ex2
    clear ex1 ex2 hX hY
    cases ho : okF X Y
    · have HO := hid ho
      clear ho
      go_enter Tryd.func97, Tryd.ntmps97
      go_wp2_with (fail)
      refine (specMake _ _ _ (by omega) (by omega) (by omega) (by omega)).mono ?_
      rintro e w1 ⟨rfl, hb1⟩
      rw [EX1.out, EX2.out]
      obtain ⟨hc, hf⟩ := bcell hb1
      have hz : w.heap.size < w1.heap.size := by have := hb1.size; simp at this; omega
      go_wp2_with (fail)
      refine (specOk _ _ _).mono ?_
      rintro e w2 ⟨rfl, hb2⟩
      rw [HO.out]
      obtain ⟨hc2, hf2⟩ := bcell hb2
      have hz2 : w1.heap.size < w2.heap.size := by have := hb2.size; simp at this; omega
      have hch : Below (w.heap.size + 1) (w.alloc (.cells #[.int .i64 0, .int .i64 0] 30)) w2 := by
        refine (hb1.mono (by simp)).trans ?_
        refine Below.trans ?_ (hb2.mono (by simp; omega))
        exact (Below.refl _ _).alloc (by omega) _
      have c0 := below_someAt hch (b := w.heap.size) (o := 0) (by omega) (by go_simp)
      have c1 := below_someAt hch (b := w.heap.size) (o := 1) (by omega) (by go_simp)
      go_wp2
      refine bodyPost_ret (v := .tuple #[.agg #[.int .i64 0, .int .i64 0], .int .i64 5]) (by simp [results, Tryd.results97, go_sem, c0, c1]) rfl ⟨rfl, ?_⟩
      refine below_set (below_set ?_ (Nat.le_refl _) _) (Nat.le_refl _) _
      exact ((Below.refl _ _).alloc (Nat.le_refl _) _).trans (hch.mono (by omega))
    · have HO := hid ho
      clear ho
      go_enter Tryd.func97, Tryd.ntmps97
      go_wp2_with (fail)
      refine (specMake _ _ _ (by omega) (by omega) (by omega) (by omega)).mono ?_
      rintro e w1 ⟨rfl, hb1⟩
      rw [EX1.out, EX2.out]
      obtain ⟨hc, hf⟩ := bcell hb1
      have hz : w.heap.size < w1.heap.size := by have := hb1.size; simp at this; omega
      go_wp2_with (fail)
      refine (specOk _ _ _).mono ?_
      rintro e w2 ⟨rfl, hb2⟩
      rw [HO.out]
      obtain ⟨hc2, hf2⟩ := bcell hb2
      have hz2 : w1.heap.size < w2.heap.size := by have := hb2.size; simp at this; omega
      have hch : Below (w.heap.size + 1) (w.alloc (.cells #[.int .i64 0, .int .i64 0] 30)) w2 := by
        refine (hb1.mono (by simp)).trans ?_
        refine Below.trans ?_ (hb2.mono (by simp; omega))
        exact (Below.refl _ _).alloc (by omega) _
      have c0 := below_someAt hch (b := w.heap.size) (o := 0) (by omega) (by go_simp)
      have c1 := below_someAt hch (b := w.heap.size) (o := 1) (by omega) (by go_simp)
      go_wp2
      refine bodyPost_ret (v := .tuple #[.agg #[.int .i64 X, .int .i64 Y], .int .i64 0]) (by simp [results, Tryd.results97, go_sem, c0, c1]) rfl ⟨rfl, ?_⟩
      refine below_set (below_set ?_ (Nat.le_refl _) _) (Nat.le_refl _) _
      exact ((Below.refl _ _).alloc (Nat.le_refl _) _).trans (hch.mono (by omega))
  · obtain ⟨X, hX⟩ : ∃ X : Int, lowN n d = X := ⟨_, rfl⟩
    obtain ⟨Y, hY⟩ : ∃ Y : Int, lowD n d = Y := ⟨_, rfl⟩
    have EX1 := hid hX
    have EX2 := hid hY
    rw [hX, hY]
    clear hX hY
    cases ho : okF X Y
    · have HO := hid ho
      clear ho
      go_enter Tryd.func97, Tryd.ntmps97
      go_wp2_with (fail)
      refine (specMake _ _ _ (by omega) (by omega) (by omega) (by omega)).mono ?_
      rintro e w1 ⟨rfl, hb1⟩
      rw [EX1.out, EX2.out]
      obtain ⟨hc, hf⟩ := bcell hb1
      have hz : w.heap.size < w1.heap.size := by have := hb1.size; simp at this; omega
      go_wp2_with (fail)
      refine (specOk _ _ _).mono ?_
      rintro e w2 ⟨rfl, hb2⟩
      rw [HO.out]
      obtain ⟨hc2, hf2⟩ := bcell hb2
      have hz2 : w1.heap.size < w2.heap.size := by have := hb2.size; simp at this; omega
      have hch : Below (w.heap.size + 1) (w.alloc (.cells #[.int .i64 0, .int .i64 0] 30)) w2 := by
        refine (hb1.mono (by simp)).trans ?_
        refine Below.trans ?_ (hb2.mono (by simp; omega))
        exact (Below.refl _ _).alloc (by omega) _
      have c0 := below_someAt hch (b := w.heap.size) (o := 0) (by omega) (by go_simp)
      have c1 := below_someAt hch (b := w.heap.size) (o := 1) (by omega) (by go_simp)
      go_wp2
      refine bodyPost_ret (v := .tuple #[.agg #[.int .i64 0, .int .i64 0], .int .i64 5]) (by simp [results, Tryd.results97, go_sem, c0, c1]) rfl ⟨rfl, ?_⟩
      refine below_set (below_set ?_ (Nat.le_refl _) _) (Nat.le_refl _) _
      exact ((Below.refl _ _).alloc (Nat.le_refl _) _).trans (hch.mono (by omega))
    · have HO := hid ho
      clear ho
      go_enter Tryd.func97, Tryd.ntmps97
      go_wp2_with (fail)
      refine (specMake _ _ _ (by omega) (by omega) (by omega) (by omega)).mono ?_
      rintro e w1 ⟨rfl, hb1⟩
      rw [EX1.out, EX2.out]
      obtain ⟨hc, hf⟩ := bcell hb1
      have hz : w.heap.size < w1.heap.size := by have := hb1.size; simp at this; omega
      go_wp2_with (fail)
      refine (specOk _ _ _).mono ?_
      rintro e w2 ⟨rfl, hb2⟩
      rw [HO.out]
      obtain ⟨hc2, hf2⟩ := bcell hb2
      have hz2 : w1.heap.size < w2.heap.size := by have := hb2.size; simp at this; omega
      have hch : Below (w.heap.size + 1) (w.alloc (.cells #[.int .i64 0, .int .i64 0] 30)) w2 := by
        refine (hb1.mono (by simp)).trans ?_
        refine Below.trans ?_ (hb2.mono (by simp; omega))
        exact (Below.refl _ _).alloc (by omega) _
      have c0 := below_someAt hch (b := w.heap.size) (o := 0) (by omega) (by go_simp)
      have c1 := below_someAt hch (b := w.heap.size) (o := 1) (by omega) (by go_simp)
      go_wp2
      refine bodyPost_ret (v := .tuple #[.agg #[.int .i64 X, .int .i64 Y], .int .i64 0]) (by simp [results, Tryd.results97, go_sem, c0, c1]) rfl ⟨rfl, ?_⟩
      refine below_set (below_set ?_ (Nat.le_refl _) _) (Nat.le_refl _) _
      exact ((Below.refl _ _).alloc (Nat.le_refl _) _).trans (hch.mono (by omega))

end Go.Proofs.YtipegemhcmfnmaaDoor
