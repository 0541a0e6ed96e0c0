/- Blocks of fractions, numbers within bounds, signs and floors of greater numbers: what chapter 6's contracts share. -/
import Derived.Test.YtjijabfamjhdjaaDoorVt
import Derived.Test.YtjijabfamjhdjaaDoorAr6
import Derived.Test.YtjijabfamjhdjaaDoorLv
namespace Go.Proofs.YtjijabfamjhdjaaDoor
open Go.RowKit

/-- Whether a number lies within bounds, by the program. -/
theorem within6 (lo hi x : Int) (w : World) :
    Calls Tryd.prog 41 #[.int .i64 lo, .int .i64 hi, .slice (some ⟨w.heap.size, 0, none⟩) 1 1] (w.alloc (.cells #[.int .i64 x] 2)) fun e w' => e = .returned (.bool (inB lo hi x)) ∧ Below w.heap.size w w' :=
  (allWithin lo hi w.heap.size 0 1 1 [x] (w.alloc (.cells #[.int .i64 x] 2)) rfl (by simp) (lit_one w x)).mono fun e w' ⟨he, hb⟩ =>
    ⟨by rw [he]; simp, ((Below.refl _ _).alloc (Nat.le_refl _) _).trans (hb.mono (by simp))⟩

theorem nw_at (w : World) (A : Obj) : (w.alloc A).heap[w.heap.size]? = some A := by
  show (w.heap.push A)[w.heap.size]? = _
  rw [Array.getElem?_push_size]
theorem od_at {w : World} {b : Nat} {O : Obj} (h : w.heap[b]? = some O) (A : Obj) : (w.alloc A).heap[b]? = some O :=
  (((Below.refl w.heap.size w).alloc (Nat.le_refl _) A).block b (Array.getElem?_eq_some_iff.1 h).1).trans h
theorem bk2 {w : World} {b : Nat} {x y : Value} {t : TypeId} (h : w.heap[b]? = some (.cells #[x, y] t (0, 0))) : w.cell? ⟨b, 0, none⟩ = some x ∧ w.cell? ⟨b, 1, none⟩ = some y ∧ w.frozen? ⟨b, 0, none⟩ = false ∧ w.frozen? ⟨b, 1, none⟩ = false ∧ b < w.heap.size := by
  refine ⟨?_, ?_, ?_, ?_, (Array.getElem?_eq_some_iff.1 h).1⟩
  · simp [World.cell?, h]
  · simp [World.cell?, h]
  · simp [World.frozen?, h]
  · simp [World.frozen?, h]
theorem bk_kept {B : Nat} {w w' : World} {b : Nat} {O : Obj} (h : w.heap[b]? = some O) (hb : Below B w w') (hB : w.heap.size ≤ B) : w'.heap[b]? = some O :=
  (hb.block _ (Nat.lt_of_lt_of_le (Array.getElem?_eq_some_iff.1 h).1 hB)).trans h
/-- An argument and a result in their blocks. -/
def Bo2 (w0 w : World) (n d : Int) : Prop := w.heap[w0.heap.size]? = some (.cells #[.int .i64 n, .int .i64 d] 32 (0, 0)) ∧ w.heap[w0.heap.size + 1]? = some (.cells #[.int .i64 0, .int .i64 0] 32 (0, 0)) ∧ Below w0.heap.size w0 w
theorem bo2_below {w0 w w' : World} {n d : Int} (h : Bo2 w0 w n d) (hb : Below w.heap.size w w') : Bo2 w0 w' n d :=
  ⟨(hb.block _ (Array.getElem?_eq_some_iff.1 h.1).1).trans h.1, (hb.block _ (Array.getElem?_eq_some_iff.1 h.2.1).1).trans h.2.1, h.2.2.trans (hb.mono h.2.2.size)⟩
theorem bo2_new (w : World) (n d : Int) : Bo2 w ((w.alloc (.cells #[.int .i64 n, .int .i64 d] 32)).alloc (.cells #[.int .i64 0, .int .i64 0] 32)) n d := by
  refine ⟨od_at (nw_at _ _) _, ?_, ((Below.refl w.heap.size w).alloc (Nat.le_refl _) _).alloc (by simp) _⟩
  have := nw_at (w.alloc (.cells #[.int .i64 n, .int .i64 d] 32)) (.cells #[.int .i64 0, .int .i64 0] 32)
  rwa [World.size_alloc] at this
theorem bo2_set {w0 w : World} {n d : Int} (h : Bo2 w0 w n d) {b k : Nat} (hb : w0.heap.size + 1 < b) (v : Value) : Bo2 w0 (w.setCell ⟨b, k, none⟩ v) n d :=
  ⟨by rw [heap_setCell_other _ ⟨b, k, none⟩ _ _ (by simp; omega)]; exact h.1, by rw [heap_setCell_other _ ⟨b, k, none⟩ _ _ (by simp; omega)]; exact h.2.1, h.2.2.setCell (p := ⟨b, k, none⟩) (by simp; omega) _⟩
theorem bo2_ret {w0 w : World} {n d : Int} (h : Bo2 w0 w n d) (x y : Int) : ((w.setCell ⟨w0.heap.size + 1, 0, none⟩ (.int .i64 x)).setCell ⟨w0.heap.size + 1, 1, none⟩ (.int .i64 y)).cell? ⟨w0.heap.size + 1, 0, none⟩ = some (.int .i64 x) ∧ ((w.setCell ⟨w0.heap.size + 1, 0, none⟩ (.int .i64 x)).setCell ⟨w0.heap.size + 1, 1, none⟩ (.int .i64 y)).cell? ⟨w0.heap.size + 1, 1, none⟩ = some (.int .i64 y) ∧ Below w0.heap.size w0 ((w.setCell ⟨w0.heap.size + 1, 0, none⟩ (.int .i64 x)).setCell ⟨w0.heap.size + 1, 1, none⟩ (.int .i64 y)) := by
  obtain ⟨k0, k1, _⟩ := bk2 h.2.1
  obtain ⟨a, b⟩ := two_set (u := .int .i64 x) (v := .int .i64 y) k0 k1
  exact ⟨a, b, below_set (below_set h.2.2 (by omega) _) (by omega) _⟩

theorem crossB (n d m f : Int) (w : World) (n1 : 0 ≤ n) (n2 : n ≤ 2000000000) (d1 : 0 ≤ d) (d2 : d ≤ 1000000000) (m1 : 0 ≤ m) (m2 : m ≤ 2000000000) (f1 : 0 ≤ f) (f2 : f ≤ 1000000000) :
    Calls Tryd.prog 57 #[.agg #[.int .i64 n, .int .i64 d], .agg #[.int .i64 m, .int .i64 f]] w fun e w' => e = .returned (.int .i64 (n * f - m * d)) ∧ Below w.heap.size w w' := by
  have a1 : n * f ≤ 2000000000 * 1000000000 := Int.mul_le_mul n2 f2 f1 (by omega)
  have a2 : m * d ≤ 2000000000 * 1000000000 := Int.mul_le_mul m2 d2 d1 (by omega)
  have a3 : 0 ≤ n * f := Int.mul_nonneg n1 f1
  have a4 : 0 ≤ m * d := Int.mul_nonneg m1 d1
  go_enter Tryd.func57, Tryd.ntmps57
  go_wp2
  go_ret
  exact ⟨rfl, alloc2 _ _ _⟩

theorem sgn_lt (X : Int) : decide (sgn X < 0) = decide (X < 0) := by
  unfold sgn
  by_cases h1 : X < 0
  · rw [if_pos h1]; simp [h1]
  · rw [if_neg h1]
    by_cases h2 : X = 0
    · rw [if_pos h2]; simp [h1]
    · rw [if_neg h2]; simp [h1]

end Go.Proofs.YtjijabfamjhdjaaDoor
