/- Where a loop over the program's own iterator stands that collects fractions: the loop's record, the cell of the slice, its row. -/
import Derived.Test.YtjijabfamjhdjaaDoorFit
import Derived.RangeFuncBox
namespace Go.Proofs.YtjijabfamjhdjaaDoor
open Go.RowKit

structure ApO (w0 : World) (c d l D : Nat) : Prop where
  hc : w0.heap.size ≤ c
  cd : c < d
  dl : d < l
  lD : l < D
def Ap (c d l D : Nat) (r : Loop) (w0 X : World) (v : Value) (pr : List (Int × Int)) (W : World) : Prop :=
  (W.heap[l]? = some (.loop r) ∧ W.heap[d]? = some (.deferred (some []))) ∧ W.heap[c]? = some (.cells #[v] 25 (0, 0)) ∧
  (W.heap[D]? = X.heap[D]? ∧ W.heap[D + 1]? = X.heap[D + 1]?) ∧ W.ownsRow (D + 2) 32 2 v pr.length (frCells pr) ∧ Below w0.heap.size w0 W ∧ D ≤ W.heap.size
theorem ap_grown {c d l D : Nat} {r : Loop} {w0 X : World} {v : Value} {pr : List (Int × Int)} {W W' : World} {row : Option Nat} (h : Ap c d l D r w0 X v pr W) (ho : ApO w0 c d l D) (hg : W.grownBy W' row) (hs : D + 2 ≤ W.heap.size)
    (hr : ∀ i, row = some i → D + 2 ≤ i ∧ v.ownBlock ≠ some i) : Ap c d l D r w0 X v pr W' := by
  obtain ⟨⟨h1, h2⟩, h5, ⟨hx, hy⟩, h7, h8, h9⟩ := h
  have := ho.hc; have := ho.cd; have := ho.dl; have := ho.lD
  have k : ∀ b, b < D + 2 → W'.heap[b]? = W.heap[b]? := fun b hb => hg.block b (by omega) (fun e => by have := (hr b e.symm).1; omega)
  refine ⟨⟨(k _ (by omega)).trans h1, (k _ (by omega)).trans h2⟩, (k _ (by omega)).trans h5, ⟨(k _ (by omega)).trans hx, (k _ (by omega)).trans hy⟩, h7.kept hg ?_, h8.grown hg (by omega) (fun i e => by have := (hr i e).1; omega), by have := hg.size; omega⟩
  cases row with
  | none => exact Classical.em _
  | some i => exact .inr (hr i rfl).2
theorem ap_it {c d l D : Nat} {r : Loop} {w0 : World} {v : Value} {pr : List (Int × Int)} {W W' : World} {row : Option Nat} (h : Ap c d l D r w0 W v pr W) (ho : ApO w0 c d l D) (hg : W.grownBy W' row)
    (hr : ∀ i, row = some i → i = D ∨ i = D + 1) : Ap c d l D r w0 W' v pr W' := by
  obtain ⟨⟨h1, h2⟩, h5, _, h7, h8, h9⟩ := h
  have := ho.hc; have := ho.cd; have := ho.dl; have := ho.lD
  have k : ∀ b, b < D → W'.heap[b]? = W.heap[b]? := fun b hb => hg.block b (by omega) (fun e => by have := hr b e.symm; omega)
  refine ⟨⟨(k _ (by omega)).trans h1, (k _ (by omega)).trans h2⟩, (k _ (by omega)).trans h5, ⟨rfl, rfl⟩, h7.kept hg ?_, h8.grown hg (by omega) (fun i e => by have := hr i e; omega), by have := hg.size; omega⟩
  cases row with
  | none => exact Classical.em _
  | some i => exact .inr (fun e => by have := (h7.lt i e).1; have := hr i rfl; omega)
theorem ap_loop {c d l D : Nat} {r : Loop} {w0 X : World} {v : Value} {pr : List (Int × Int)} {W : World} (h : Ap c d l D r w0 X v pr W) (ho : ApO w0 c d l D) (r' : Loop) : Ap c d l D r' w0 X v pr (W.putObj l (.loop r')) := by
  obtain ⟨⟨h1, h2⟩, h5, ⟨hx, hy⟩, h7, h8, h9⟩ := h
  have := ho.hc; have := ho.cd; have := ho.dl; have := ho.lD
  have hg := grownBy_putObj' W l (.loop r')
  have k : ∀ b, b ≠ l → (W.putObj l (.loop r')).heap[b]? = W.heap[b]? := fun b hb => World.putObj_heap_other hb
  exact ⟨⟨World.putObj_heap_same (by omega), (k _ (by omega)).trans h2⟩, (k _ (by omega)).trans h5, ⟨(k _ (by omega)).trans hx, (k _ (by omega)).trans hy⟩, h7.kept hg (.inr (fun e => by have := (h7.lt _ e).1; omega)), h8.grown hg (by omega) (fun i e => by cases e; omega), by simpa using h9⟩
theorem ap_app {c d l D : Nat} {r : Loop} {w0 X : World} {v v2 : Value} {pr : List (Int × Int)} {x : Int × Int} {W W' : World} (h : Ap c d l D r w0 X v pr W) (ho : ApO w0 c d l D) (hs : D + 2 ≤ W.heap.size) (hg : W.grownBy W' v.ownBlock)
    (hw : W'.ownsRow (D + 2) 32 2 v2 (pr ++ [x]).length (frCells (pr ++ [x]))) : Ap c d l D r w0 X v2 (pr ++ [x]) (W'.setCell ⟨c, 0, none⟩ v2) := by
  obtain ⟨⟨h1, h2⟩, h5, ⟨hx, hy⟩, h7, h8, h9⟩ := h
  have := ho.hc; have := ho.cd; have := ho.dl; have := ho.lD
  have kk : ∀ b, b < D + 2 → W'.heap[b]? = W.heap[b]? := fun b hb => hg.block b (by omega) (fun e => by have := (h7.lt b e.symm).1; omega)
  have k : ∀ b, b < D + 2 → b ≠ c → (W'.setCell ⟨c, 0, none⟩ v2).heap[b]? = W.heap[b]? := fun b hb hne => (heap_setCell_other W' ⟨c, 0, none⟩ b v2 hne).trans (kk b hb)
  have hg2 := grownBy_setCell' W' c v2
  have hsz := hg.size
  refine ⟨⟨(k _ (by omega) (by omega)).trans h1, (k _ (by omega) (by omega)).trans h2⟩, ?_, ⟨(k _ (by omega) (by omega)).trans hx, (k _ (by omega) (by omega)).trans hy⟩, hw.kept hg2 (.inr (fun e => by have := (hw.lt _ e).1; omega)), (h8.grown hg (by omega) (fun i e => by have := (h7.lt i e).1; omega)).grown hg2 (by omega) (fun i e => by cases e; omega), by have := hg2.size; omega⟩
  exact heap_setCell_same W' c 0 _ _ v2 ((kk c (by omega)).trans h5)
theorem cell1 {W : World} {b : Nat} {x : Value} {t : TypeId} (h : W.heap[b]? = some (.cells #[x] t (0, 0))) : W.cell? ⟨b, 0, none⟩ = some x ∧ W.frozen? ⟨b, 0, none⟩ = false := by
  constructor
  · simp [World.cell?, h]
  · simp [World.frozen?, h]
theorem ap_ref {c d l D : Nat} {r : Loop} {w0 X Y : World} {v : Value} {pr : List (Int × Int)} (h : Ap c d l D r w0 X v pr Y) : Ap c d l D r w0 Y v pr Y := ⟨h.1, h.2.1, ⟨rfl, rfl⟩, h.2.2.2⟩
theorem loopAgain {r rb : Loop} (h : rb = { r with state := .busy }) (h1 : r.state = .ready) (h2 : r.pending = none) : ({ rb with state := if (none : Option Code).isNone then .ready else .done, pending := none } : Loop) = r := by
  subst h
  cases r
  simp at h1 h2
  subst h1 h2
  rfl

theorem implElems (o : Int) (w : World) : Calls Tryd.prog 43 #[.int .i64 o] w fun e w' => e = .returned (.func (.func 70) #[] #[.pointer (some ⟨w.heap.size, 0, none⟩)]) ∧ w' = w.alloc (.cells #[.int .i64 o] 2) := by
  have hmf : ∀ (fn : Fn) (first cap : Array Value) (w : World), (Instr.makeFunc fn first cap).run Tryd.prog w = .ok (.func fn first cap) w := fun _ _ _ _ => rfl
  go_enter Tryd.func43, Tryd.ntmps43
  go_wp2_with (fail)
  go_ret
  exact ⟨rfl, rfl⟩

end Go.Proofs.YtjijabfamjhdjaaDoor
