/- Where the loop over the program's own iterator stands: what the function's variables, the loop's record and the row of what has come hold. -/
import Derived.Test.YtipegemhcmfnmaaDoorCvj
import Derived.RangeFuncBox
namespace Go.Proofs.YtipegemhcmfnmaaDoor
open Go.RowKit

def Cvx (a s g n c : Nat) (r : Loop) (w0 X : World) (v : Value) (pr : List (Int × Int)) (W : World) : Prop :=
  (W.heap[s + 3]? = some (.loop r) ∧ W.heap[s + 2]? = some (.deferred (some []))) ∧
  (W.heap[a]? = some (.cells #[.slice none 0 0] 26 (0, 0)) ∧ W.heap[a + 1]? = some (.cells #[.int .i64 0] 2 (0, 0)) ∧ W.heap[s]? = some (.cells #[v] 26 (0, 0)) ∧ W.heap[s + 1]? = some (.cells #[.slice (some ⟨g, 0, none⟩) n c] 33 (0, 0))) ∧
  (W.heap[s + 4]? = X.heap[s + 4]? ∧ W.heap[s + 5]? = X.heap[s + 5]?) ∧
  W.ownsRow (s + 6) 30 2 v pr.length (frCells pr) ∧ Below a w0 W ∧ s + 4 ≤ W.heap.size
theorem cvx_grown {a s g n c : Nat} {r : Loop} {w0 X : World} {v : Value} {pr : List (Int × Int)} {W W' : World} {row : Option Nat} (h : Cvx a s g n c r w0 X v pr W) (hg : W.grownBy W' row) (ha : a + 2 ≤ s) (hs : s + 6 ≤ W.heap.size)
    (hr : ∀ i, row = some i → s + 6 ≤ i ∧ v.ownBlock ≠ some i) : Cvx a s g n c r w0 X v pr W' := by
  obtain ⟨⟨h1, h2⟩, ⟨h3, h4, h5, h6⟩, ⟨hx, hy⟩, h7, h8, h9⟩ := h
  have k : ∀ b, b < s + 6 → W'.heap[b]? = W.heap[b]? := fun b hb => hg.block b (by omega) (fun e => by have := (hr b e.symm).1; omega)
  refine ⟨⟨(k _ (by omega)).trans h1, (k _ (by omega)).trans h2⟩, ⟨(k _ (by omega)).trans h3, (k _ (by omega)).trans h4, (k _ (by omega)).trans h5, (k _ (by omega)).trans h6⟩, ⟨(k _ (by omega)).trans hx, (k _ (by omega)).trans hy⟩, h7.kept hg ?_, h8.grown hg (by omega) (fun i e => by have := (hr i e).1; omega), by have := hg.size; omega⟩
  cases row with
  | none => exact Classical.em _
  | some i => exact .inr (hr i rfl).2
theorem cvx_it {a s g n c : Nat} {r : Loop} {w0 : World} {v : Value} {pr : List (Int × Int)} {W W' : World} {row : Option Nat} (h : Cvx a s g n c r w0 W v pr W) (hg : W.grownBy W' row) (ha : a + 2 ≤ s)
    (hr : ∀ i, row = some i → i = s + 4 ∨ i = s + 5) : Cvx a s g n c r w0 W' v pr W' := by
  obtain ⟨⟨h1, h2⟩, ⟨h3, h4, h5, h6⟩, _, h7, h8, h9⟩ := h
  have k : ∀ b, b < s + 4 → W'.heap[b]? = W.heap[b]? := fun b hb => hg.block b (by omega) (fun e => by have := hr b e.symm; omega)
  refine ⟨⟨(k _ (by omega)).trans h1, (k _ (by omega)).trans h2⟩, ⟨(k _ (by omega)).trans h3, (k _ (by omega)).trans h4, (k _ (by omega)).trans h5, (k _ (by omega)).trans h6⟩, ⟨rfl, rfl⟩, h7.kept hg ?_, h8.grown hg (by omega) (fun i e => by have := hr i e; omega), by have := hg.size; omega⟩
  cases row with
  | none => exact Classical.em _
  | some i => exact .inr (fun e => by have := (h7.lt i e).1; have := hr i rfl; omega)
theorem cvx_loop {a s g n c : Nat} {r : Loop} {w0 X : World} {v : Value} {pr : List (Int × Int)} {W : World} (h : Cvx a s g n c r w0 X v pr W) (ha : a + 2 ≤ s) (r' : Loop) : Cvx a s g n c r' w0 X v pr (W.putObj (s + 3) (.loop r')) := by
  obtain ⟨⟨h1, h2⟩, ⟨h3, h4, h5, h6⟩, ⟨hx, hy⟩, h7, h8, h9⟩ := h
  have hg := grownBy_putObj' W (s + 3) (.loop r')
  have k : ∀ b, b ≠ s + 3 → (W.putObj (s + 3) (.loop r')).heap[b]? = W.heap[b]? := fun b hb => World.putObj_heap_other hb
  exact ⟨⟨World.putObj_heap_same (by omega), (k _ (by omega)).trans h2⟩, ⟨(k _ (by omega)).trans h3, (k _ (by omega)).trans h4, (k _ (by omega)).trans h5, (k _ (by omega)).trans h6⟩, ⟨(k _ (by omega)).trans hx, (k _ (by omega)).trans hy⟩, h7.kept hg (.inr (fun e => by have := (h7.lt _ e).1; omega)), h8.grown hg (by omega) (fun i e => by cases e; omega), by simpa using h9⟩
theorem cvx_app {a s g n c : Nat} {r : Loop} {w0 X : World} {v v2 : Value} {pr : List (Int × Int)} {x : Int × Int} {W W' : World} (h : Cvx a s g n c r w0 X v pr W) (ha : a + 2 ≤ s) (hs : s + 6 ≤ W.heap.size) (hg : W.grownBy W' v.ownBlock)
    (ho : W'.ownsRow (s + 6) 30 2 v2 (pr ++ [x]).length (frCells (pr ++ [x]))) : Cvx a s g n c r w0 X v2 (pr ++ [x]) (W'.setCell ⟨s, 0, none⟩ v2) := by
  obtain ⟨⟨h1, h2⟩, ⟨h3, h4, h5, h6⟩, ⟨hx, hy⟩, h7, h8, h9⟩ := h
  have kk : ∀ b, b < s + 6 → W'.heap[b]? = W.heap[b]? := fun b hb => hg.block b (by omega) (fun e => by have := (h7.lt b e.symm).1; omega)
  have k : ∀ b, b < s + 6 → b ≠ s → (W'.setCell ⟨s, 0, none⟩ v2).heap[b]? = W.heap[b]? := fun b hb hne => (heap_setCell_other W' ⟨s, 0, none⟩ b v2 hne).trans (kk b hb)
  have hg2 := grownBy_setCell' W' s v2
  have hsz := hg.size
  refine ⟨⟨(k _ (by omega) (by omega)).trans h1, (k _ (by omega) (by omega)).trans h2⟩, ⟨(k _ (by omega) (by omega)).trans h3, (k _ (by omega) (by omega)).trans h4, ?_, (k _ (by omega) (by omega)).trans h6⟩, ⟨(k _ (by omega) (by omega)).trans hx, (k _ (by omega) (by omega)).trans hy⟩, ho.kept hg2 (.inr (fun e => by have := (ho.lt _ e).1; omega)), (h8.grown hg (by omega) (fun i e => by have := (h7.lt i e).1; omega)).grown hg2 (by omega) (fun i e => by cases e; omega), by have := hg2.size; omega⟩
  exact heap_setCell_same W' s 0 _ _ v2 ((kk s (by omega)).trans h5)
theorem one_cell {W : World} {b : Nat} {x : Value} {t : TypeId} (h : W.heap[b]? = some (.cells #[x] t (0, 0))) : W.cell? ⟨b, 0, none⟩ = some x ∧ W.frozen? ⟨b, 0, none⟩ = false := by
  constructor
  · simp [World.cell?, h]
  · simp [World.frozen?, h]
theorem cvx_cells {a s g n c : Nat} {r : Loop} {w0 X : World} {v : Value} {pr : List (Int × Int)} {W : World} (h : Cvx a s g n c r w0 X v pr W) :
    (W.cell? ⟨a, 0, none⟩ = some (.slice none 0 0) ∧ W.frozen? ⟨a, 0, none⟩ = false) ∧ (W.cell? ⟨a + 1, 0, none⟩ = some (.int .i64 0) ∧ W.frozen? ⟨a + 1, 0, none⟩ = false) ∧ (W.cell? ⟨s, 0, none⟩ = some v ∧ W.frozen? ⟨s, 0, none⟩ = false) ∧ W.cell? ⟨s + 1, 0, none⟩ = some (.slice (some ⟨g, 0, none⟩) n c) :=
  ⟨one_cell h.2.1.1, one_cell h.2.1.2.1, one_cell h.2.1.2.2.1, (one_cell h.2.1.2.2.2).1⟩
/-- The loop is left by a return: the record and the function's results. -/
def Cxx (a s : Nat) (r : Loop) (w0 : World) (W : World) : Prop :=
  (W.heap[s + 3]? = some (.loop r) ∧ W.heap[s + 2]? = some (.deferred (some []))) ∧
  (W.heap[a]? = some (.cells #[.slice none 0 0] 26 (0, 0)) ∧ W.heap[a + 1]? = some (.cells #[.int .i64 5] 2 (0, 0))) ∧ Below a w0 W ∧ s + 4 ≤ W.heap.size
theorem cvx_exit {a s g n c : Nat} {r : Loop} {w0 X : World} {v : Value} {pr : List (Int × Int)} {W : World} (h : Cvx a s g n c r w0 X v pr W) (ha : a + 2 ≤ s) (r' : Loop) :
    Cxx a s r' w0 (((W.setCell ⟨a, 0, none⟩ (.slice none 0 0)).setCell ⟨a + 1, 0, none⟩ (.int .i64 5)).putObj (s + 3) (.loop r')) := by
  obtain ⟨⟨h1, h2⟩, ⟨h3, h4, h5, h6⟩, ⟨hx, hy⟩, h7, h8, h9⟩ := h
  have k : ∀ (Y : World) b, b ≠ s + 3 → (Y.putObj (s + 3) (.loop r')).heap[b]? = Y.heap[b]? := fun Y b hb => World.putObj_heap_other hb
  refine ⟨⟨World.putObj_heap_same (by simp; omega), ?_⟩, ⟨?_, ?_⟩, ?_, by simpa using h9⟩
  · rw [k _ _ (by omega), heap_setCell_other _ ⟨a + 1, 0, none⟩ _ _ (by show s + 2 ≠ a + 1; omega), heap_setCell_other _ ⟨a, 0, none⟩ _ _ (by show s + 2 ≠ a; omega)]; exact h2
  · rw [k _ _ (by omega), heap_setCell_other _ ⟨a + 1, 0, none⟩ _ _ (by show a ≠ a + 1; omega)]; exact heap_setCell_same W a 0 _ _ _ h3
  · rw [k _ _ (by omega)]
    exact heap_setCell_same _ (a + 1) 0 _ _ (.int .i64 5) ((heap_setCell_other _ ⟨a, 0, none⟩ _ _ (by show a + 1 ≠ a; omega)).trans h4)
  · exact ((h8.setCell (p := ⟨a, 0, none⟩) (Nat.le_refl _) _).setCell (p := ⟨a + 1, 0, none⟩) (by show a ≤ a + 1; omega) _).grown (grownBy_putObj' _ (s + 3) (.loop r')) (by simp; omega) (fun i e => by cases e; omega)

theorem leaveA {a s n : Nat} {w0 Z : World} {u0 u1 v c : Value} {t0 t1 : TypeId} {xs : List Value} (h0 : Z.heap[a]? = some (.cells #[u0] t0 (0, 0))) (h1 : Z.heap[a + 1]? = some (.cells #[u1] t1 (0, 0))) (h2 : Z.heap[s + 2]? = some (.deferred (some []))) (has : a + 2 ≤ s) (hb : Below a w0 Z)
    (ho : Z.ownsRow (s + 6) 30 2 v n xs) : ∀ Y, Y = (Z.setCell ⟨a, 0, none⟩ v).setCell ⟨a + 1, 0, none⟩ c → Y.heap[s + 2]? = some (.deferred (some [])) ∧ (Y.putObj (s + 2) (.deferred none)).cell? ⟨a, 0, none⟩ = some v ∧ (Y.putObj (s + 2) (.deferred none)).cell? ⟨a + 1, 0, none⟩ = some c ∧
      Below a w0 (Y.putObj (s + 2) (.deferred none)) ∧ (Y.putObj (s + 2) (.deferred none)).ownsRow (s + 6) 30 2 v n xs := by
  rintro Y rfl
  have hlt := (Array.getElem?_eq_some_iff.1 h2).1
  have g1 := grownBy_setCell' Z a v
  have g2 := grownBy_setCell' (Z.setCell ⟨a, 0, none⟩ v) (a + 1) c
  have g3 := grownBy_putObj' ((Z.setCell ⟨a, 0, none⟩ v).setCell ⟨a + 1, 0, none⟩ c) (s + 2) (.deferred none)
  have k : ∀ b, b ≠ s + 2 → (((Z.setCell ⟨a, 0, none⟩ v).setCell ⟨a + 1, 0, none⟩ c).putObj (s + 2) (.deferred none)).heap[b]? = ((Z.setCell ⟨a, 0, none⟩ v).setCell ⟨a + 1, 0, none⟩ c).heap[b]? := fun b hb => World.putObj_heap_other hb
  refine ⟨?_, ?_, ?_, ?_, ?_⟩
  · rw [heap_setCell_other _ ⟨a + 1, 0, none⟩ _ _ (by show s + 2 ≠ a + 1; omega), heap_setCell_other _ ⟨a, 0, none⟩ _ _ (by show s + 2 ≠ a; omega)]; exact h2
  · refine (one_cell (t := t0) ?_).1
    rw [k _ (by omega), heap_setCell_other _ ⟨a + 1, 0, none⟩ _ _ (by show a ≠ a + 1; omega)]; exact heap_setCell_same Z a 0 _ _ v h0
  · refine (one_cell (t := t1) ?_).1
    rw [k _ (by omega)]; exact heap_setCell_same _ (a + 1) 0 _ _ c ((heap_setCell_other _ ⟨a, 0, none⟩ _ _ (by show a + 1 ≠ a; omega)).trans h1)
  · exact ((hb.grown g1 (by omega) (fun i e => by cases e; omega)).grown g2 (by simp; omega) (fun i e => by cases e; omega)).grown g3 (by simp; omega) (fun i e => by cases e; omega)
  · have o1 := ho.kept g1 (.inr (fun e => by have := (ho.lt _ e).1; omega))
    have o2 := o1.kept g2 (.inr (fun e => by have := (ho.lt _ e).1; omega))
    exact o2.kept g3 (.inr (fun e => by have := (ho.lt _ e).1; omega))
theorem leaveB {a s : Nat} {r : Loop} {w0 W : World} (h : Cxx a s r w0 W) (has : a + 2 ≤ s) (r' : Loop) : ∀ Y, Y = W.putObj (s + 3) (.loop r') → Y.heap[s + 2]? = some (.deferred (some [])) ∧ (Y.putObj (s + 2) (.deferred none)).cell? ⟨a, 0, none⟩ = some (.slice none 0 0) ∧ (Y.putObj (s + 2) (.deferred none)).cell? ⟨a + 1, 0, none⟩ = some (.int .i64 5) ∧
    Below a w0 (Y.putObj (s + 2) (.deferred none)) := by
  rintro Y rfl
  obtain ⟨⟨_, h2⟩, ⟨h3, h4⟩, h5, h6⟩ := h
  have k : ∀ b, b ≠ s + 3 → (W.putObj (s + 3) (.loop r')).heap[b]? = W.heap[b]? := fun b hb => World.putObj_heap_other hb
  have k2 : ∀ b, b ≠ s + 2 → ((W.putObj (s + 3) (.loop r')).putObj (s + 2) (.deferred none)).heap[b]? = (W.putObj (s + 3) (.loop r')).heap[b]? := fun b hb => World.putObj_heap_other hb
  refine ⟨(k _ (by omega)).trans h2, ?_, ?_, ?_⟩
  · exact (one_cell ((k2 _ (by omega)).trans ((k _ (by omega)).trans h3))).1
  · exact (one_cell ((k2 _ (by omega)).trans ((k _ (by omega)).trans h4))).1
  · exact (h5.grown (grownBy_putObj' W (s + 3) (.loop r')) (by omega) (fun i e => by cases e; omega)).grown (grownBy_putObj' _ (s + 2) (.deferred none)) (by simp; omega) (fun i e => by cases e; omega)

theorem cvx_ref {a s g n c : Nat} {r : Loop} {w0 X Y : World} {v : Value} {pr : List (Int × Int)} (h : Cvx a s g n c r w0 X v pr Y) : Cvx a s g n c r w0 Y v pr Y := ⟨h.1, h.2.1, ⟨rfl, rfl⟩, h.2.2.2⟩
theorem loop_again {r rb : Loop} (h : rb = { r with state := .busy }) (h1 : r.state = .ready) (h2 : r.pending = none) : ({ rb with state := if (none : Option Code).isNone then .ready else .done, pending := none } : Loop) = r := by
  subst h
  cases r
  simp at h1 h2
  subst h1 h2
  rfl

theorem set_two_one {W : World} {a b : Nat} {x y u v : Value} (h0 : W.cell? ⟨a, 0, none⟩ = some x) (h1 : W.cell? ⟨b, 0, none⟩ = some y) (hab : a ≠ b) :
    ((W.setCell ⟨a, 0, none⟩ u).setCell ⟨b, 0, none⟩ v).cell? ⟨a, 0, none⟩ = some u ∧ ((W.setCell ⟨a, 0, none⟩ u).setCell ⟨b, 0, none⟩ v).cell? ⟨b, 0, none⟩ = some v := by
  have g1 : (W.setCell ⟨a, 0, none⟩ u).cell? ⟨a, 0, none⟩ = some u := World.cell?_setCell_same' _ _ _ (by rw [h0]; rfl)
  have g2 : (W.setCell ⟨a, 0, none⟩ u).cell? ⟨b, 0, none⟩ = some y := (World.cell?_of_block (heap_setCell_other W ⟨a, 0, none⟩ b u (fun e => hab e.symm))).trans h1
  exact ⟨(World.cell?_of_block (heap_setCell_other _ ⟨b, 0, none⟩ a v hab)).trans g1, World.cell?_setCell_same' _ _ _ (by rw [g2]; rfl)⟩

end Go.Proofs.YtipegemhcmfnmaaDoor
