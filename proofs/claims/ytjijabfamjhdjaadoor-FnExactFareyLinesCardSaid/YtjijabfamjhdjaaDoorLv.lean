/- Contracts of the laws' own helpers for fractions. -/
import Derived.Test.YtjijabfamjhdjaaDoorFull
import Derived.Deep.RegionHeld3
import Derived.Deep.DeepCutAuto
namespace Go.Proofs.YtjijabfamjhdjaaDoor
open Go.RowKit

/-- Some cells are as they were. -/
theorem four {B : Nat} {w w' : World} (h : Below B w w') {b : Nat} (hb : b + 1 < B) {n d m f : Value}
    (s : w.cell? ⟨b, 0, none⟩ = some n ∧ w.cell? ⟨b, 1, none⟩ = some d ∧ w.cell? ⟨b + 1, 0, none⟩ = some m ∧ w.cell? ⟨b + 1, 1, none⟩ = some f) :
    w'.cell? ⟨b, 0, none⟩ = some n ∧ w'.cell? ⟨b, 1, none⟩ = some d ∧ w'.cell? ⟨b + 1, 0, none⟩ = some m ∧ w'.cell? ⟨b + 1, 1, none⟩ = some f := by
  obtain ⟨s0, s1, s2, s3⟩ := s
  exact ⟨(h.cell (p := ⟨b, 0, none⟩) (by simp; omega)).trans s0, (h.cell (p := ⟨b, 1, none⟩) (by simp; omega)).trans s1, (h.cell (p := ⟨b + 1, 0, none⟩) (by simp; omega)).trans s2, (h.cell (p := ⟨b + 1, 1, none⟩) (by simp; omega)).trans s3⟩
theorem four_alloc {w : World} (o : Obj) {b : Nat} (hb : b + 1 < w.heap.size) {n d m f : Value}
    (s : w.cell? ⟨b, 0, none⟩ = some n ∧ w.cell? ⟨b, 1, none⟩ = some d ∧ w.cell? ⟨b + 1, 0, none⟩ = some m ∧ w.cell? ⟨b + 1, 1, none⟩ = some f) :
    (w.alloc o).cell? ⟨b, 0, none⟩ = some n ∧ (w.alloc o).cell? ⟨b, 1, none⟩ = some d ∧ (w.alloc o).cell? ⟨b + 1, 0, none⟩ = some m ∧ (w.alloc o).cell? ⟨b + 1, 1, none⟩ = some f :=
  four ((Below.refl w.heap.size w).alloc (Nat.le_refl _) o) hb s
theorem four_set {w : World} {b : Nat} {p : Nat} (u v : Value) (hb : b + 1 < p) {n d m f : Value}
    (s : w.cell? ⟨b, 0, none⟩ = some n ∧ w.cell? ⟨b, 1, none⟩ = some d ∧ w.cell? ⟨b + 1, 0, none⟩ = some m ∧ w.cell? ⟨b + 1, 1, none⟩ = some f) :
    ((w.setCell ⟨p, 0, none⟩ u).setCell ⟨p, 1, none⟩ v).cell? ⟨b, 0, none⟩ = some n ∧ ((w.setCell ⟨p, 0, none⟩ u).setCell ⟨p, 1, none⟩ v).cell? ⟨b, 1, none⟩ = some d ∧ ((w.setCell ⟨p, 0, none⟩ u).setCell ⟨p, 1, none⟩ v).cell? ⟨b + 1, 0, none⟩ = some m ∧ ((w.setCell ⟨p, 0, none⟩ u).setCell ⟨p, 1, none⟩ v).cell? ⟨b + 1, 1, none⟩ = some f := by
  obtain ⟨s0, s1, s2, s3⟩ := s
  refine ⟨?_, ?_, ?_, ?_⟩ <;> rw [World.cell?_setCell_far _ _ _ _ (by simp; omega), World.cell?_setCell_far _ _ _ _ (by simp; omega)] <;> assumption
/-- Some cells are as they were. -/
theorem six {B : Nat} {w w' : World} (h : Below B w w') {b g : Nat} (hb : b + 1 < B) (hg : g < B) {n d m f x y : Value}
    (s : w.cell? ⟨b, 0, none⟩ = some n ∧ w.cell? ⟨b, 1, none⟩ = some d ∧ w.cell? ⟨b + 1, 0, none⟩ = some m ∧ w.cell? ⟨b + 1, 1, none⟩ = some f ∧ w.cell? ⟨g, 0, none⟩ = some x ∧ w.cell? ⟨g, 1, none⟩ = some y) :
    w'.cell? ⟨b, 0, none⟩ = some n ∧ w'.cell? ⟨b, 1, none⟩ = some d ∧ w'.cell? ⟨b + 1, 0, none⟩ = some m ∧ w'.cell? ⟨b + 1, 1, none⟩ = some f ∧ w'.cell? ⟨g, 0, none⟩ = some x ∧ w'.cell? ⟨g, 1, none⟩ = some y := by
  obtain ⟨s0, s1, s2, s3, s4, s5⟩ := s
  exact ⟨(h.cell (p := ⟨b, 0, none⟩) (by simp; omega)).trans s0, (h.cell (p := ⟨b, 1, none⟩) (by simp; omega)).trans s1, (h.cell (p := ⟨b + 1, 0, none⟩) (by simp; omega)).trans s2, (h.cell (p := ⟨b + 1, 1, none⟩) (by simp; omega)).trans s3, (h.cell (p := ⟨g, 0, none⟩) (by simp; omega)).trans s4, (h.cell (p := ⟨g, 1, none⟩) (by simp; omega)).trans s5⟩
theorem six_alloc {w : World} (o : Obj) {b g : Nat} (hb : b + 1 < w.heap.size) (hg : g < w.heap.size) {n d m f x y : Value}
    (s : w.cell? ⟨b, 0, none⟩ = some n ∧ w.cell? ⟨b, 1, none⟩ = some d ∧ w.cell? ⟨b + 1, 0, none⟩ = some m ∧ w.cell? ⟨b + 1, 1, none⟩ = some f ∧ w.cell? ⟨g, 0, none⟩ = some x ∧ w.cell? ⟨g, 1, none⟩ = some y) :
    (w.alloc o).cell? ⟨b, 0, none⟩ = some n ∧ (w.alloc o).cell? ⟨b, 1, none⟩ = some d ∧ (w.alloc o).cell? ⟨b + 1, 0, none⟩ = some m ∧ (w.alloc o).cell? ⟨b + 1, 1, none⟩ = some f ∧ (w.alloc o).cell? ⟨g, 0, none⟩ = some x ∧ (w.alloc o).cell? ⟨g, 1, none⟩ = some y :=
  six ((Below.refl w.heap.size w).alloc (Nat.le_refl _) o) hb hg s
theorem six_set {w : World} {b g : Nat} {p : Nat} (u v : Value) (hb : b + 1 < p) (hg : g ≠ p) {n d m f x y : Value}
    (s : w.cell? ⟨b, 0, none⟩ = some n ∧ w.cell? ⟨b, 1, none⟩ = some d ∧ w.cell? ⟨b + 1, 0, none⟩ = some m ∧ w.cell? ⟨b + 1, 1, none⟩ = some f ∧ w.cell? ⟨g, 0, none⟩ = some x ∧ w.cell? ⟨g, 1, none⟩ = some y) :
    ((w.setCell ⟨p, 0, none⟩ u).setCell ⟨p, 1, none⟩ v).cell? ⟨b, 0, none⟩ = some n ∧ ((w.setCell ⟨p, 0, none⟩ u).setCell ⟨p, 1, none⟩ v).cell? ⟨b, 1, none⟩ = some d ∧ ((w.setCell ⟨p, 0, none⟩ u).setCell ⟨p, 1, none⟩ v).cell? ⟨b + 1, 0, none⟩ = some m ∧ ((w.setCell ⟨p, 0, none⟩ u).setCell ⟨p, 1, none⟩ v).cell? ⟨b + 1, 1, none⟩ = some f ∧ ((w.setCell ⟨p, 0, none⟩ u).setCell ⟨p, 1, none⟩ v).cell? ⟨g, 0, none⟩ = some x ∧ ((w.setCell ⟨p, 0, none⟩ u).setCell ⟨p, 1, none⟩ v).cell? ⟨g, 1, none⟩ = some y := by
  obtain ⟨s0, s1, s2, s3, s4, s5⟩ := s
  refine ⟨?_, ?_, ?_, ?_, ?_, ?_⟩ <;> rw [World.cell?_setCell_far _ _ _ _ (by simp; omega), World.cell?_setCell_far _ _ _ _ (by simp; omega)] <;> assumption

/-- A new block of two zeros, which may be written, is as it was. -/
theorem keep2 {B : Nat} {w w' : World} (h : Below B w w') {g : Nat} (hg : g < B)
    (s : w.cell? ⟨g, 0, none⟩ = some (.int .i64 0) ∧ w.cell? ⟨g, 1, none⟩ = some (.int .i64 0) ∧ w.frozen? ⟨g, 0, none⟩ = false ∧ w.frozen? ⟨g, 1, none⟩ = false) :
    w'.cell? ⟨g, 0, none⟩ = some (.int .i64 0) ∧ w'.cell? ⟨g, 1, none⟩ = some (.int .i64 0) ∧ w'.frozen? ⟨g, 0, none⟩ = false ∧ w'.frozen? ⟨g, 1, none⟩ = false := by
  obtain ⟨s1, s2, s3, s4⟩ := s
  exact ⟨(h.cell (p := ⟨g, 0, none⟩) hg).trans s1, (h.cell (p := ⟨g, 1, none⟩) hg).trans s2, (h.frozen (p := ⟨g, 0, none⟩) hg).trans s3, (h.frozen (p := ⟨g, 1, none⟩) hg).trans s4⟩

theorem keepI {P : Prop} {B : Nat} {w w' : World} (h : Below B w w') (g : Nat) (hg : g < B)
    (s : w.cell? ⟨g, 0, none⟩ = some (.int .i64 0) ∧ w.cell? ⟨g, 1, none⟩ = some (.int .i64 0) ∧ w.frozen? ⟨g, 0, none⟩ = false ∧ w.frozen? ⟨g, 1, none⟩ = false)
    (k : (w'.cell? ⟨g, 0, none⟩ = some (.int .i64 0) ∧ w'.cell? ⟨g, 1, none⟩ = some (.int .i64 0) ∧ w'.frozen? ⟨g, 0, none⟩ = false ∧ w'.frozen? ⟨g, 1, none⟩ = false) → P) : P := k (keep2 h hg s)

/-- What the first statement of a law leaves: the arguments' cells, the model's result in a block of its own. -/
def At6 (w : World) (B g : Nat) (n d m f x y : Int) (v : World) : Prop :=
  (v.cell? ⟨B, 0, none⟩ = some (.int .i64 n) ∧ v.cell? ⟨B, 1, none⟩ = some (.int .i64 d) ∧ v.cell? ⟨B + 1, 0, none⟩ = some (.int .i64 m) ∧ v.cell? ⟨B + 1, 1, none⟩ = some (.int .i64 f) ∧ v.cell? ⟨g, 0, none⟩ = some (.int .i64 x) ∧ v.cell? ⟨g, 1, none⟩ = some (.int .i64 y)) ∧ Below w.heap.size w v
/-- What the second one leaves: both results in blocks of their own. -/
def At4 (w : World) (g h : Nat) (x y : Int) (v : World) : Prop :=
  (v.cell? ⟨g, 0, none⟩ = some (.int .i64 x) ∧ v.cell? ⟨g, 1, none⟩ = some (.int .i64 y) ∧ v.cell? ⟨h, 0, none⟩ = some (.int .i64 x) ∧ v.cell? ⟨h, 1, none⟩ = some (.int .i64 y)) ∧ Below w.heap.size w v

theorem two_new (w : World) (t : TypeId) (x y : Value) : (w.alloc (.cells #[x, y] t)).cell? ⟨w.heap.size, 0, none⟩ = some x ∧ (w.alloc (.cells #[x, y] t)).cell? ⟨w.heap.size, 1, none⟩ = some y := by
  constructor <;> go_simp
theorem two_set {w : World} {p : Nat} {u v a b : Value} (h1 : w.cell? ⟨p, 0, none⟩ = some a) (h2 : w.cell? ⟨p, 1, none⟩ = some b) :
    ((w.setCell ⟨p, 0, none⟩ u).setCell ⟨p, 1, none⟩ v).cell? ⟨p, 0, none⟩ = some u ∧ ((w.setCell ⟨p, 0, none⟩ u).setCell ⟨p, 1, none⟩ v).cell? ⟨p, 1, none⟩ = some v := by
  constructor
  · rw [World.cell?_setCell_other _ _ _ _ (by simp), World.cell?_setCell_same _ _ _ h1]
  · rw [World.cell?_setCell_same (u := b)]
    rw [World.cell?_setCell_other _ _ _ _ (by simp)]; exact h2

theorem at6_alloc {w v : World} {B : Nat} {n d m f x y : Int} (t : TypeId) (e : Below w.heap.size w v) (hw : w.heap.size = B) (hB : B + 1 < v.heap.size)
    (k : v.cell? ⟨B, 0, none⟩ = some (.int .i64 n) ∧ v.cell? ⟨B, 1, none⟩ = some (.int .i64 d) ∧ v.cell? ⟨B + 1, 0, none⟩ = some (.int .i64 m) ∧ v.cell? ⟨B + 1, 1, none⟩ = some (.int .i64 f)) :
    At6 w B v.heap.size n d m f x y (v.alloc (.cells #[.int .i64 x, .int .i64 y] t)) := by
  have k' := four_alloc (.cells #[.int .i64 x, .int .i64 y] t) hB k
  obtain ⟨a, b⟩ := two_new v t (.int .i64 x) (.int .i64 y)
  exact ⟨⟨k'.1, k'.2.1, k'.2.2.1, k'.2.2.2, a, b⟩, e.alloc (by omega) _⟩
theorem at6_set {w v : World} {B g : Nat} {n d m f x y : Int} {a b : Value} (e : Below w.heap.size w v) (hw : w.heap.size = B) (hB : B + 1 < g)
    (k : v.cell? ⟨B, 0, none⟩ = some (.int .i64 n) ∧ v.cell? ⟨B, 1, none⟩ = some (.int .i64 d) ∧ v.cell? ⟨B + 1, 0, none⟩ = some (.int .i64 m) ∧ v.cell? ⟨B + 1, 1, none⟩ = some (.int .i64 f))
    (z1 : v.cell? ⟨g, 0, none⟩ = some a) (z2 : v.cell? ⟨g, 1, none⟩ = some b) :
    At6 w B g n d m f x y ((v.setCell ⟨g, 0, none⟩ (.int .i64 x)).setCell ⟨g, 1, none⟩ (.int .i64 y)) := by
  have k' := four_set (.int .i64 x) (.int .i64 y) hB k
  obtain ⟨p, q⟩ := two_set (u := .int .i64 x) (v := .int .i64 y) z1 z2
  exact ⟨⟨k'.1, k'.2.1, k'.2.2.1, k'.2.2.2, p, q⟩, below_set (below_set e (by omega) _) (by omega) _⟩
theorem at4_alloc {w v : World} {B g : Nat} {n d m f x y : Int} (t : TypeId) (e : Below w.heap.size w v) (hw : w.heap.size = B) (hB : B + 1 < v.heap.size) (hg : g < v.heap.size)
    (k : v.cell? ⟨B, 0, none⟩ = some (.int .i64 n) ∧ v.cell? ⟨B, 1, none⟩ = some (.int .i64 d) ∧ v.cell? ⟨B + 1, 0, none⟩ = some (.int .i64 m) ∧ v.cell? ⟨B + 1, 1, none⟩ = some (.int .i64 f) ∧ v.cell? ⟨g, 0, none⟩ = some (.int .i64 x) ∧ v.cell? ⟨g, 1, none⟩ = some (.int .i64 y)) :
    At4 w g v.heap.size x y (v.alloc (.cells #[.int .i64 x, .int .i64 y] t)) := by
  have k' := six_alloc (.cells #[.int .i64 x, .int .i64 y] t) hB hg k
  obtain ⟨a, b⟩ := two_new v t (.int .i64 x) (.int .i64 y)
  exact ⟨⟨k'.2.2.2.2.1, k'.2.2.2.2.2, a, b⟩, e.alloc (by omega) _⟩
theorem at4_set {w v : World} {B g p : Nat} {n d m f x y : Int} {a b : Value} (e : Below w.heap.size w v) (hw : w.heap.size = B) (hB : B + 1 < p) (hg : g ≠ p)
    (k : v.cell? ⟨B, 0, none⟩ = some (.int .i64 n) ∧ v.cell? ⟨B, 1, none⟩ = some (.int .i64 d) ∧ v.cell? ⟨B + 1, 0, none⟩ = some (.int .i64 m) ∧ v.cell? ⟨B + 1, 1, none⟩ = some (.int .i64 f) ∧ v.cell? ⟨g, 0, none⟩ = some (.int .i64 x) ∧ v.cell? ⟨g, 1, none⟩ = some (.int .i64 y))
    (z1 : v.cell? ⟨p, 0, none⟩ = some a) (z2 : v.cell? ⟨p, 1, none⟩ = some b) :
    At4 w g p x y ((v.setCell ⟨p, 0, none⟩ (.int .i64 x)).setCell ⟨p, 1, none⟩ (.int .i64 y)) := by
  have k' := six_set (.int .i64 x) (.int .i64 y) hB hg k
  obtain ⟨q, r⟩ := two_set (u := .int .i64 x) (v := .int .i64 y) z1 z2
  exact ⟨⟨k'.2.2.2.2.1, k'.2.2.2.2.2, q, r⟩, below_set (below_set e (by omega) _) (by omega) _⟩

end Go.Proofs.YtjijabfamjhdjaaDoor
