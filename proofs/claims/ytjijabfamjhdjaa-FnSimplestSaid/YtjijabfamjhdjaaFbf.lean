/- Blocks of fractions. -/
import Derived.Test.YtjijabfamjhdjaaOk
import Derived.Test.YtjijabfamjhdjaaLi
import Derived.RangeFuncRecord
namespace Go.Proofs.Ytjijabfamjhdjaa
open Go.RowKit

/-- A block of a fraction. -/
def FB (w : World) (b : Nat) (p q : Int) : Prop := w.heap[b]? = some (.cells #[.int .i64 p, .int .i64 q] 25 (0, 0))
theorem fb_cells {w : World} {b : Nat} {p q : Int} (h : FB w b p q) : w.cell? ⟨b, 0, none⟩ = some (.int .i64 p) ∧ w.cell? ⟨b, 1, none⟩ = some (.int .i64 q) ∧ w.frozen? ⟨b, 0, none⟩ = false ∧ w.frozen? ⟨b, 1, none⟩ = false ∧ b < w.heap.size := by
  unfold FB at h
  refine ⟨?_, ?_, ?_, ?_, (Array.getElem?_eq_some_iff.1 h).1⟩
  · simp [World.cell?, h]
  · simp [World.cell?, h]
  · simp [World.frozen?, h]
  · simp [World.frozen?, h]
theorem fb_lt {w : World} {b : Nat} {p q : Int} (h : FB w b p q) : b < w.heap.size := (fb_cells h).2.2.2.2
theorem fb_below {w w' : World} {b : Nat} {p q : Int} (h : FB w b p q) (hb : Below w.heap.size w w') : FB w' b p q := (hb.block b (fb_lt h)).trans h
theorem fb_new (w : World) (p q : Int) : FB (w.alloc (.cells #[.int .i64 p, .int .i64 q] 25)) w.heap.size p q := World.alloc_heap_new w _
theorem fb_set {w : World} {b : Nat} {p q : Int} (h : FB w b p q) (a c : Int) : FB ((w.setCell ⟨b, 0, none⟩ (.int .i64 a)).setCell ⟨b, 1, none⟩ (.int .i64 c)) b a c := by
  have h1 := heap_setCell_same w b 0 _ _ (.int .i64 a) h
  exact heap_setCell_same _ b 1 _ _ (.int .i64 c) h1
theorem fb_other {w : World} {b : Nat} {p q : Int} (h : FB w b p q) {x : Nat} (hx : x ≠ b) (u v : Value) : FB ((w.setCell ⟨x, 0, none⟩ u).setCell ⟨x, 1, none⟩ v) b p q := by
  have hne : b ≠ x := fun e => hx e.symm
  unfold FB
  rw [heap_setCell_other _ ⟨x, 1, none⟩ b _ hne, heap_setCell_other _ ⟨x, 0, none⟩ b _ hne]
  exact h
theorem fset_grown (w : World) (b : Nat) (x y : Value) : w.grownBy ((w.setCell ⟨b, 0, none⟩ x).setCell ⟨b, 1, none⟩ y) (some b) :=
  ⟨rfl, rfl, rfl, by simp, fun k _ hk => by
    have hne : k ≠ b := fun e => hk (by rw [e])
    rw [heap_setCell_other _ ⟨b, 1, none⟩ k y hne, heap_setCell_other _ ⟨b, 0, none⟩ k x hne]⟩
theorem fset_below {B : Nat} {u w : World} (h : Below B u w) {b : Nat} (hb : B ≤ b) (x y : Value) : Below B u ((w.setCell ⟨b, 0, none⟩ x).setCell ⟨b, 1, none⟩ y) :=
  (h.setCell (p := ⟨b, 0, none⟩) hb x).setCell (p := ⟨b, 1, none⟩) hb y

end Go.Proofs.Ytjijabfamjhdjaa
