/- Where a loop over the program's own iterator stands that collects texts. -/
import Derived.Test.YtjijabfamjhdjaaDoorFap
import Derived.Test.YtjijabfamjhdjaaDoorSp
namespace Go.Proofs.YtjijabfamjhdjaaDoor
open Go.RowKit

def As (c d l D : Nat) (r : Loop) (w0 X : World) (v : Value) (pr : List ByteArray) (W : World) : Prop :=
  (W.heap[l]? = some (.loop r) ∧ W.heap[d]? = some (.deferred (some []))) ∧ W.heap[c]? = some (.cells #[v] 35 (0, 0)) ∧
  (W.heap[D]? = X.heap[D]? ∧ W.heap[D + 1]? = X.heap[D + 1]?) ∧ W.ownsRow (D + 2) 9 1 v pr.length (strCells pr) ∧ Below w0.heap.size w0 W ∧ D ≤ W.heap.size
theorem as_grown {c d l D : Nat} {r : Loop} {w0 X : World} {v : Value} {pr : List ByteArray} {W W' : World} {row : Option Nat} (h : As c d l D r w0 X v pr W) (ho : ApO w0 c d l D) (hg : W.grownBy W' row) (hs : D + 2 ≤ W.heap.size)
    (hr : ∀ i, row = some i → D + 2 ≤ i ∧ v.ownBlock ≠ some i) : As c d l D r w0 X v pr W' := by
  obtain ⟨⟨h1, h2⟩, h5, ⟨hx, hy⟩, h7, h8, h9⟩ := h
  have := ho.hc; have := ho.cd; have := ho.dl; have := ho.lD
  have k : ∀ b, b < D + 2 → W'.heap[b]? = W.heap[b]? := fun b hb => hg.block b (by omega) (fun e => by have := (hr b e.symm).1; omega)
  refine ⟨⟨(k _ (by omega)).trans h1, (k _ (by omega)).trans h2⟩, (k _ (by omega)).trans h5, ⟨(k _ (by omega)).trans hx, (k _ (by omega)).trans hy⟩, h7.kept hg ?_, h8.grown hg (by omega) (fun i e => by have := (hr i e).1; omega), by have := hg.size; omega⟩
  cases row with
  | none => exact Classical.em _
  | some i => exact .inr (hr i rfl).2
theorem as_it {c d l D : Nat} {r : Loop} {w0 : World} {v : Value} {pr : List ByteArray} {W W' : World} {row : Option Nat} (h : As c d l D r w0 W v pr W) (ho : ApO w0 c d l D) (hg : W.grownBy W' row)
    (hr : ∀ i, row = some i → i = D ∨ i = D + 1) : As c d l D r w0 W' v pr W' := by
  obtain ⟨⟨h1, h2⟩, h5, _, h7, h8, h9⟩ := h
  have := ho.hc; have := ho.cd; have := ho.dl; have := ho.lD
  have k : ∀ b, b < D → W'.heap[b]? = W.heap[b]? := fun b hb => hg.block b (by omega) (fun e => by have := hr b e.symm; omega)
  refine ⟨⟨(k _ (by omega)).trans h1, (k _ (by omega)).trans h2⟩, (k _ (by omega)).trans h5, ⟨rfl, rfl⟩, h7.kept hg ?_, h8.grown hg (by omega) (fun i e => by have := hr i e; omega), by have := hg.size; omega⟩
  cases row with
  | none => exact Classical.em _
  | some i => exact .inr (fun e => by have := (h7.lt i e).1; have := hr i rfl; omega)
theorem as_loop {c d l D : Nat} {r : Loop} {w0 X : World} {v : Value} {pr : List ByteArray} {W : World} (h : As c d l D r w0 X v pr W) (ho : ApO w0 c d l D) (r' : Loop) : As c d l D r' w0 X v pr (W.putObj l (.loop r')) := by
  obtain ⟨⟨h1, h2⟩, h5, ⟨hx, hy⟩, h7, h8, h9⟩ := h
  have := ho.hc; have := ho.cd; have := ho.dl; have := ho.lD
  have hg := grownBy_putObj' W l (.loop r')
  have k : ∀ b, b ≠ l → (W.putObj l (.loop r')).heap[b]? = W.heap[b]? := fun b hb => World.putObj_heap_other hb
  exact ⟨⟨World.putObj_heap_same (by omega), (k _ (by omega)).trans h2⟩, (k _ (by omega)).trans h5, ⟨(k _ (by omega)).trans hx, (k _ (by omega)).trans hy⟩, h7.kept hg (.inr (fun e => by have := (h7.lt _ e).1; omega)), h8.grown hg (by omega) (fun i e => by cases e; omega), by simpa using h9⟩
theorem as_app {c d l D : Nat} {r : Loop} {w0 X : World} {v v2 : Value} {pr : List ByteArray} {x : ByteArray} {W W' : World} (h : As c d l D r w0 X v pr W) (ho : ApO w0 c d l D) (hs : D + 2 ≤ W.heap.size) (hg : W.grownBy W' v.ownBlock)
    (hw : W'.ownsRow (D + 2) 9 1 v2 (pr ++ [x]).length (strCells (pr ++ [x]))) : As c d l D r w0 X v2 (pr ++ [x]) (W'.setCell ⟨c, 0, none⟩ v2) := by
  obtain ⟨⟨h1, h2⟩, h5, ⟨hx, hy⟩, h7, h8, h9⟩ := h
  have := ho.hc; have := ho.cd; have := ho.dl; have := ho.lD
  have kk : ∀ b, b < D + 2 → W'.heap[b]? = W.heap[b]? := fun b hb => hg.block b (by omega) (fun e => by have := (h7.lt b e.symm).1; omega)
  have k : ∀ b, b < D + 2 → b ≠ c → (W'.setCell ⟨c, 0, none⟩ v2).heap[b]? = W.heap[b]? := fun b hb hne => (heap_setCell_other W' ⟨c, 0, none⟩ b v2 hne).trans (kk b hb)
  have hg2 := grownBy_setCell' W' c v2
  have hsz := hg.size
  refine ⟨⟨(k _ (by omega) (by omega)).trans h1, (k _ (by omega) (by omega)).trans h2⟩, ?_, ⟨(k _ (by omega) (by omega)).trans hx, (k _ (by omega) (by omega)).trans hy⟩, hw.kept hg2 (.inr (fun e => by have := (hw.lt _ e).1; omega)), (h8.grown hg (by omega) (fun i e => by have := (h7.lt i e).1; omega)).grown hg2 (by omega) (fun i e => by cases e; omega), by have := hg2.size; omega⟩
  exact heap_setCell_same W' c 0 _ _ v2 ((kk c (by omega)).trans h5)
theorem as_ref {c d l D : Nat} {r : Loop} {w0 X Y : World} {v : Value} {pr : List ByteArray} (h : As c d l D r w0 X v pr Y) : As c d l D r w0 Y v pr Y := ⟨h.1, h.2.1, ⟨rfl, rfl⟩, h.2.2.2⟩

end Go.Proofs.YtjijabfamjhdjaaDoor
