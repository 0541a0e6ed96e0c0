/- Contract: ChildrenOf, by the program. -/
import Derived.Test.YtjijabfamjhdjaaChs
import Derived.Test.YtjijabfamjhdjaaRiv
namespace Go.Proofs.Ytjijabfamjhdjaa
open Go.RowKit

theorem zc_drew {X : World} {n : Nat} {O : Obj} : ((X.drewN n).alloc O).heap[X.heap.size]? = some O := by
  have h := new_at (X.drewN n) O
  simpa using h
theorem zc_dr {X : World} {O : Obj} : ((X.drew).alloc O).heap[X.heap.size]? = some O := by
  have h := new_at X.drew O
  simpa using h
theorem zc_2 {X : World} {O Q : Obj} : ((X.alloc O).alloc Q).heap[X.heap.size + 1]? = some Q := by
  have h := new_at (X.alloc O) Q
  rwa [World.size_alloc] at h
theorem zc_2dr {X : World} {O Q : Obj} : ((X.drew.alloc O).alloc Q).heap[X.heap.size + 1]? = some Q := by
  have h := new_at (X.drew.alloc O) Q
  rw [World.size_alloc] at h
  simpa using h
theorem zcc {P : Prop} {W w' : World} {z : Nat} {O : Obj} (hb : Below W.heap.size W w') (hlt : z < W.heap.size) (h : W.heap[z]? = some O) (k : Hid (w'.heap[z]? = some O) → P) : P := k (hid ((hb.block z hlt).trans h))
theorem stp {X W w' : World} (h1 : Below X.heap.size X W) (h2 : Below W.heap.size W w') : Below X.heap.size X w' := h1.trans (h2.mono h1.size)
theorem set2_at {w : World} {b : Nat} {x y : Value} {t : TypeId} (h : w.heap[b]? = some (.cells #[x, y] t (0, 0))) (u v : Value) : ((w.setCell ⟨b, 0, none⟩ u).setCell ⟨b, 1, none⟩ v).heap[b]? = some (.cells #[u, v] t (0, 0)) :=
  heap_setCell_same _ b 1 _ _ v (heap_setCell_same w b 0 _ _ u h)
theorem set2_other {w : World} {b z : Nat} {O : Obj} (h : w.heap[b]? = some O) (hz : b ≠ z) (u v : Value) : ((w.setCell ⟨z, 0, none⟩ u).setCell ⟨z, 1, none⟩ v).heap[b]? = some O := by
  rw [heap_setCell_other _ ⟨z, 1, none⟩ b _ hz, heap_setCell_other _ ⟨z, 0, none⟩ b _ hz]
  exact h
theorem box3_far {w0 w : World} {n d m f : Int} (h : Box3 w0 w n d m f) {b : Nat} (hb : w0.heap.size + 1 + 1 < b) (u v : Value) : Box3 w0 ((w.setCell ⟨b, 0, none⟩ u).setCell ⟨b, 1, none⟩ v) n d m f :=
  ⟨set2_other h.1 (by omega) _ _, set2_other h.2.1 (by omega) _ _, set2_other h.2.2.1 (by omega) _ _, below_set (below_set h.2.2.2 (by omega) _) (by omega) _⟩
theorem box3_alloc {w0 w : World} {n d m f : Int} (h : Box3 w0 w n d m f) (O : Obj) : Box3 w0 (w.alloc O) n d m f := box3_below h ((Below.refl _ _).alloc (Nat.le_refl _) O)
/-- What is there when both children have been made. -/
def Two (w0 W : World) (n d : Int) (z7 z8 : Nat) (a b c e : Int) : Prop := Box3 w0 W n d 0 0 ∧ W.heap[z7]? = some (.cells #[.int .i64 a, .int .i64 b] 25 (0, 0)) ∧ W.heap[z8]? = some (.cells #[.int .i64 c, .int .i64 e] 25 (0, 0)) ∧ w0.heap.size + 1 + 1 < z7 ∧ w0.heap.size + 1 + 1 < z8

/-- What is kept while both children are made: the function's own blocks, the bounds, and the zero blocks that are laid for the children. -/
def QC (w0 : World) (n d : Int) (b6 : Nat) (p q r t : Int) (zs : List Nat) (W : World) : Prop :=
  Box3 w0 W n d 0 0 ∧ W.heap[b6]? = some (.cells #[.int .i64 p, .int .i64 q, .int .i64 r, .int .i64 t] 66 (0, 0)) ∧
  (∀ z ∈ zs, W.heap[z]? = some (.cells #[.int .i64 0, .int .i64 0] 25 (0, 0)) ∧ w0.heap.size + 1 + 1 < z ∧ z < W.heap.size) ∧ w0.heap.size + 1 + 1 < W.heap.size
theorem qc_below {w0 : World} {n d : Int} {b6 : Nat} {p q r t : Int} {zs : List Nat} {W W' : World} (h : QC w0 n d b6 p q r t zs W) (hb : Below W.heap.size W W') : QC w0 n d b6 p q r t zs W' := by
  obtain ⟨h1, h2, h3, h4⟩ := h
  refine ⟨box3_below h1 hb, (hb.block _ (Array.getElem?_eq_some_iff.1 h2).1).trans h2, fun z hz => ?_, Nat.lt_of_lt_of_le h4 hb.size⟩
  obtain ⟨a, b, c⟩ := h3 z hz
  exact ⟨(hb.block _ c).trans a, b, Nat.lt_of_lt_of_le c hb.size⟩
theorem qc_zero {w0 : World} {n d : Int} {b6 : Nat} {p q r t : Int} {zs : List Nat} {W : World} (h : QC w0 n d b6 p q r t zs W) : QC w0 n d b6 p q r t (W.heap.size :: zs) (W.alloc (.cells #[.int .i64 0, .int .i64 0] 25)) := by
  obtain ⟨h1, h2, h3, h4⟩ := qc_below h ((Below.refl _ _).alloc (Nat.le_refl _) (.cells #[.int .i64 0, .int .i64 0] 25))
  refine ⟨h1, h2, fun z hz => ?_, h4⟩
  rcases List.mem_cons.1 hz with rfl | hz
  · exact ⟨new_at _ _, h.2.2.2, by simp⟩
  · exact h3 z hz
theorem qc_drew {w0 : World} {n d : Int} {b6 : Nat} {p q r t : Int} {zs : List Nat} {W : World} (h : QC w0 n d b6 p q r t zs W) : QC w0 n d b6 p q r t zs W.drew := qc_below h (Below.drew (Below.refl _ _))

/-- A zero block that has been laid, or filled. -/
def Zat (b6 : Nat) (W : World) (v : Value) (z : Nat) (x y : Int) : Prop := v = .pointer (some ⟨z, 0, none⟩) ∧ W.heap[z]? = some (.cells #[.int .i64 x, .int .i64 y] 25 (0, 0)) ∧ b6 < z
theorem zat_below {b6 : Nat} {W W' : World} {v : Value} {z : Nat} {x y : Int} (h : Zat b6 W v z x y) (hb : Below W.heap.size W W') : Zat b6 W' v z x y :=
  ⟨h.1, (hb.block _ (Array.getElem?_eq_some_iff.1 h.2.1).1).trans h.2.1, h.2.2⟩
theorem zat_set {b6 : Nat} {W : World} {v : Value} {z : Nat} {x y : Int} (h : Zat b6 W v z x y) {b : Nat} (hz : z ≠ b) (u u' : Value) : Zat b6 ((W.setCell ⟨b, 0, none⟩ u).setCell ⟨b, 1, none⟩ u') v z x y :=
  ⟨h.1, set2_other h.2.1 hz u u', h.2.2⟩
theorem zat_lt {b6 : Nat} {W : World} {v : Value} {z : Nat} {x y : Int} (h : Zat b6 W v z x y) : z < W.heap.size := (Array.getElem?_eq_some_iff.1 h.2.1).1
theorem set_size (W : World) (p : Addr) (u : Value) : (W.setCell p u).heap.size = W.heap.size := by simp
theorem qc_set {w0 : World} {n d : Int} {b6 : Nat} {p q r t : Int} {W : World} (h : QC w0 n d b6 p q r t [] W) (l2 : w0.heap.size + 1 + 1 < b6) {z : Nat} (hz : b6 < z) (u v : Value) : QC w0 n d b6 p q r t [] ((W.setCell ⟨z, 0, none⟩ u).setCell ⟨z, 1, none⟩ v) := by
  obtain ⟨h1, h2, h3, h4⟩ := h
  exact ⟨box3_far h1 (by omega) u v, set2_other h2 (by omega) u v, fun z hz => by simp at hz, by rw [set_size, set_size]; exact h4⟩
theorem qc_b6 {w0 : World} {n d : Int} {b6 : Nat} {p q r t : Int} {zs : List Nat} {W : World} (h : QC w0 n d b6 p q r t zs W) : b6 < W.heap.size := (Array.getElem?_eq_some_iff.1 h.2.1).1

/-- What holds while the region runs: by what has come up. -/
def JC (w0 : World) (n d : Int) (b6 : Nat) (p q r t l0 l1 m0 m1 : Int) (dd : Nat → Bool) (v7 v8 v19 v20 v21 v22 v23 v24 : Value) (z7 z8 : Nat) (W : World) : Prop :=
  QC w0 n d b6 p q r t [] W ∧ (dd 0 = true → v19 = .agg #[.int .i64 p, .int .i64 q, .int .i64 r, .int .i64 t]) ∧ (dd 1 = true → v20 = .agg #[.int .i64 p, .int .i64 q, .int .i64 (r + p), .int .i64 (t + q)]) ∧ (dd 2 = true → v21 = .agg #[.int .i64 l0, .int .i64 l1]) ∧
  (dd 3 = true → v22 = .agg #[.int .i64 p, .int .i64 q, .int .i64 r, .int .i64 t]) ∧ (dd 4 = true → v23 = .agg #[.int .i64 (p + r), .int .i64 (q + t), .int .i64 r, .int .i64 t]) ∧ (dd 5 = true → v24 = .agg #[.int .i64 m0, .int .i64 m1]) ∧
  (dd 6 = true → dd 8 = false → Zat b6 W v7 z7 0 0) ∧ (dd 8 = true → Zat b6 W v7 z7 l0 l1) ∧ (dd 7 = true → dd 9 = false → Zat b6 W v8 z8 0 0) ∧ (dd 9 = true → Zat b6 W v8 z8 m0 m1) ∧ (dd 6 = true → dd 7 = true → z7 ≠ z8) ∧ (dd 8 = true → dd 6 = true) ∧ (dd 9 = true → dd 7 = true)
theorem jc_below {w0 : World} {n d : Int} {b6 : Nat} {p q r t l0 l1 m0 m1 : Int} {dd : Nat → Bool} {v7 v8 v19 v20 v21 v22 v23 v24 : Value} {z7 z8 : Nat} {W : World} {W' : World} (h : JC w0 n d b6 p q r t l0 l1 m0 m1 dd v7 v8 v19 v20 v21 v22 v23 v24 z7 z8 W) (hb : Below W.heap.size W W') : JC w0 n d b6 p q r t l0 l1 m0 m1 dd v7 v8 v19 v20 v21 v22 v23 v24 z7 z8 W' := by
  obtain ⟨h0, h1, h2, h3, h4, h5, h6, h7, h8, h9, h10, h11, h12, h13⟩ := h
  exact ⟨qc_below h0 hb, h1, h2, h3, h4, h5, h6, fun a b => zat_below (h7 a b) hb, fun a => zat_below (h8 a) hb, fun a b => zat_below (h9 a b) hb, fun a => zat_below (h10 a) hb, h11, h12, h13⟩
theorem jc_0 {w0 : World} {n d : Int} {b6 : Nat} {p q r t l0 l1 m0 m1 : Int} {dd : Nat → Bool} {v7 v8 v19 v20 v21 v22 v23 v24 : Value} {z7 z8 : Nat} {W : World} (h : JC w0 n d b6 p q r t l0 l1 m0 m1 dd v7 v8 v19 v20 v21 v22 v23 v24 z7 z8 W) : JC w0 n d b6 p q r t l0 l1 m0 m1 (fun j => j == 0 || dd j) v7 v8 (.agg #[.int .i64 p, .int .i64 q, .int .i64 r, .int .i64 t]) v20 v21 v22 v23 v24 z7 z8 W := by
  obtain ⟨h0, h1, h2, h3, h4, h5, h6, h7, h8, h9, h10, h11, h12, h13⟩ := h
  exact ⟨h0, fun _ => rfl, h2, h3, h4, h5, h6, h7, h8, h9, h10, h11, h12, h13⟩
theorem jc_1 {w0 : World} {n d : Int} {b6 : Nat} {p q r t l0 l1 m0 m1 : Int} {dd : Nat → Bool} {v7 v8 v19 v20 v21 v22 v23 v24 : Value} {z7 z8 : Nat} {W : World} (h : JC w0 n d b6 p q r t l0 l1 m0 m1 dd v7 v8 v19 v20 v21 v22 v23 v24 z7 z8 W) : JC w0 n d b6 p q r t l0 l1 m0 m1 (fun j => j == 1 || dd j) v7 v8 v19 (.agg #[.int .i64 p, .int .i64 q, .int .i64 (r + p), .int .i64 (t + q)]) v21 v22 v23 v24 z7 z8 W := by
  obtain ⟨h0, h1, h2, h3, h4, h5, h6, h7, h8, h9, h10, h11, h12, h13⟩ := h
  exact ⟨h0, h1, fun _ => rfl, h3, h4, h5, h6, h7, h8, h9, h10, h11, h12, h13⟩
theorem jc_2 {w0 : World} {n d : Int} {b6 : Nat} {p q r t l0 l1 m0 m1 : Int} {dd : Nat → Bool} {v7 v8 v19 v20 v21 v22 v23 v24 : Value} {z7 z8 : Nat} {W : World} (h : JC w0 n d b6 p q r t l0 l1 m0 m1 dd v7 v8 v19 v20 v21 v22 v23 v24 z7 z8 W) : JC w0 n d b6 p q r t l0 l1 m0 m1 (fun j => j == 2 || dd j) v7 v8 v19 v20 (.agg #[.int .i64 l0, .int .i64 l1]) v22 v23 v24 z7 z8 W := by
  obtain ⟨h0, h1, h2, h3, h4, h5, h6, h7, h8, h9, h10, h11, h12, h13⟩ := h
  exact ⟨h0, h1, h2, fun _ => rfl, h4, h5, h6, h7, h8, h9, h10, h11, h12, h13⟩
theorem jc_3 {w0 : World} {n d : Int} {b6 : Nat} {p q r t l0 l1 m0 m1 : Int} {dd : Nat → Bool} {v7 v8 v19 v20 v21 v22 v23 v24 : Value} {z7 z8 : Nat} {W : World} (h : JC w0 n d b6 p q r t l0 l1 m0 m1 dd v7 v8 v19 v20 v21 v22 v23 v24 z7 z8 W) : JC w0 n d b6 p q r t l0 l1 m0 m1 (fun j => j == 3 || dd j) v7 v8 v19 v20 v21 (.agg #[.int .i64 p, .int .i64 q, .int .i64 r, .int .i64 t]) v23 v24 z7 z8 W := by
  obtain ⟨h0, h1, h2, h3, h4, h5, h6, h7, h8, h9, h10, h11, h12, h13⟩ := h
  exact ⟨h0, h1, h2, h3, fun _ => rfl, h5, h6, h7, h8, h9, h10, h11, h12, h13⟩
theorem jc_4 {w0 : World} {n d : Int} {b6 : Nat} {p q r t l0 l1 m0 m1 : Int} {dd : Nat → Bool} {v7 v8 v19 v20 v21 v22 v23 v24 : Value} {z7 z8 : Nat} {W : World} (h : JC w0 n d b6 p q r t l0 l1 m0 m1 dd v7 v8 v19 v20 v21 v22 v23 v24 z7 z8 W) : JC w0 n d b6 p q r t l0 l1 m0 m1 (fun j => j == 4 || dd j) v7 v8 v19 v20 v21 v22 (.agg #[.int .i64 (p + r), .int .i64 (q + t), .int .i64 r, .int .i64 t]) v24 z7 z8 W := by
  obtain ⟨h0, h1, h2, h3, h4, h5, h6, h7, h8, h9, h10, h11, h12, h13⟩ := h
  exact ⟨h0, h1, h2, h3, h4, fun _ => rfl, h6, h7, h8, h9, h10, h11, h12, h13⟩
theorem jc_5 {w0 : World} {n d : Int} {b6 : Nat} {p q r t l0 l1 m0 m1 : Int} {dd : Nat → Bool} {v7 v8 v19 v20 v21 v22 v23 v24 : Value} {z7 z8 : Nat} {W : World} (h : JC w0 n d b6 p q r t l0 l1 m0 m1 dd v7 v8 v19 v20 v21 v22 v23 v24 z7 z8 W) : JC w0 n d b6 p q r t l0 l1 m0 m1 (fun j => j == 5 || dd j) v7 v8 v19 v20 v21 v22 v23 (.agg #[.int .i64 m0, .int .i64 m1]) z7 z8 W := by
  obtain ⟨h0, h1, h2, h3, h4, h5, h6, h7, h8, h9, h10, h11, h12, h13⟩ := h
  exact ⟨h0, h1, h2, h3, h4, h5, fun _ => rfl, h7, h8, h9, h10, h11, h12, h13⟩
theorem jc_lt7 {w0 : World} {n d : Int} {b6 : Nat} {p q r t l0 l1 m0 m1 : Int} {dd : Nat → Bool} {v7 v8 v19 v20 v21 v22 v23 v24 : Value} {z7 z8 : Nat} {W : World} (h : JC w0 n d b6 p q r t l0 l1 m0 m1 dd v7 v8 v19 v20 v21 v22 v23 v24 z7 z8 W) (h6 : dd 6 = true) : z7 < W.heap.size := by
  cases e : dd 8
  · exact zat_lt (h.2.2.2.2.2.2.2.1 h6 e)
  · exact zat_lt (h.2.2.2.2.2.2.2.2.1 e)
theorem jc_lt8 {w0 : World} {n d : Int} {b6 : Nat} {p q r t l0 l1 m0 m1 : Int} {dd : Nat → Bool} {v7 v8 v19 v20 v21 v22 v23 v24 : Value} {z7 z8 : Nat} {W : World} (h : JC w0 n d b6 p q r t l0 l1 m0 m1 dd v7 v8 v19 v20 v21 v22 v23 v24 z7 z8 W) (h7 : dd 7 = true) : z8 < W.heap.size := by
  cases e : dd 9
  · exact zat_lt (h.2.2.2.2.2.2.2.2.2.1 h7 e)
  · exact zat_lt (h.2.2.2.2.2.2.2.2.2.2.1 e)
theorem jc_6 {w0 : World} {n d : Int} {b6 : Nat} {p q r t l0 l1 m0 m1 : Int} {dd : Nat → Bool} {v7 v8 v19 v20 v21 v22 v23 v24 : Value} {z7 z8 : Nat} {W : World} (h : JC w0 n d b6 p q r t l0 l1 m0 m1 dd v7 v8 v19 v20 v21 v22 v23 v24 z7 z8 W) (h6n : dd 6 = false) : JC w0 n d b6 p q r t l0 l1 m0 m1 (fun j => j == 6 || dd j) (.pointer (some ⟨W.heap.size, 0, none⟩)) v8 v19 v20 v21 v22 v23 v24 W.heap.size z8 (W.alloc (.cells #[.int .i64 0, .int .i64 0] 25)) := by
  have hl := fun e => jc_lt8 h e
  obtain ⟨h0, h1, h2, h3, h4, h5, h6, h7, h8, h9, h10, h11, h12, h13⟩ := jc_below h ((Below.refl W.heap.size W).alloc (Nat.le_refl _) (.cells #[.int .i64 0, .int .i64 0] 25))
  refine ⟨h0, h1, h2, h3, h4, h5, h6, fun _ _ => ⟨rfl, new_at _ _, ?_⟩, fun e => ?_, h9, h10, fun _ e => ?_, fun _ => rfl, h13⟩
  · exact qc_b6 h.1
  · exact absurd (h12 e) (by rw [h6n]; simp)
  · have := hl e
    omega
theorem jc_7 {w0 : World} {n d : Int} {b6 : Nat} {p q r t l0 l1 m0 m1 : Int} {dd : Nat → Bool} {v7 v8 v19 v20 v21 v22 v23 v24 : Value} {z7 z8 : Nat} {W : World} (h : JC w0 n d b6 p q r t l0 l1 m0 m1 dd v7 v8 v19 v20 v21 v22 v23 v24 z7 z8 W) (h7n : dd 7 = false) : JC w0 n d b6 p q r t l0 l1 m0 m1 (fun j => j == 7 || dd j) v7 (.pointer (some ⟨W.heap.size, 0, none⟩)) v19 v20 v21 v22 v23 v24 z7 W.heap.size (W.alloc (.cells #[.int .i64 0, .int .i64 0] 25)) := by
  have hl := fun e => jc_lt7 h e
  obtain ⟨h0, h1, h2, h3, h4, h5, h6, h7, h8, h9, h10, h11, h12, h13⟩ := jc_below h ((Below.refl W.heap.size W).alloc (Nat.le_refl _) (.cells #[.int .i64 0, .int .i64 0] 25))
  refine ⟨h0, h1, h2, h3, h4, h5, h6, h7, h8, fun _ _ => ⟨rfl, new_at _ _, ?_⟩, fun e => ?_, fun e _ => ?_, h12, fun _ => rfl⟩
  · exact qc_b6 h.1
  · exact absurd (h13 e) (by rw [h7n]; simp)
  · have := hl e
    omega
theorem jc_8 {w0 : World} {n d : Int} {b6 : Nat} {p q r t l0 l1 m0 m1 : Int} {dd : Nat → Bool} {v7 v8 v19 v20 v21 v22 v23 v24 : Value} {z7 z8 : Nat} {W : World} (h : JC w0 n d b6 p q r t l0 l1 m0 m1 dd v7 v8 v19 v20 v21 v22 v23 v24 z7 z8 W) (l2 : w0.heap.size + 1 + 1 < b6) (e6 : dd 6 = true) (e7 : dd 7 = true) (h8n : dd 8 = false) : JC w0 n d b6 p q r t l0 l1 m0 m1 (fun j => j == 8 || dd j) v7 v8 v19 v20 v21 v22 v23 v24 z7 z8 ((W.setCell ⟨z7, 0, none⟩ (.int .i64 l0)).setCell ⟨z7, 1, none⟩ (.int .i64 l1)) := by
  obtain ⟨h0, h1, h2, h3, h4, h5, h6, h7, h8, h9, h10, h11, h12, h13⟩ := h
  have hz := h7 e6 h8n
  have hne := h11 e6 e7
  exact ⟨qc_set h0 l2 hz.2.2 _ _, h1, h2, h3, h4, h5, h6, fun _ e => (by cases e), fun _ => ⟨hz.1, set2_at hz.2.1 _ _, hz.2.2⟩, fun a b => zat_set (h9 a b) (Ne.symm hne) _ _, fun a => zat_set (h10 a) (Ne.symm hne) _ _, h11, fun _ => e6, h13⟩
theorem jc_9 {w0 : World} {n d : Int} {b6 : Nat} {p q r t l0 l1 m0 m1 : Int} {dd : Nat → Bool} {v7 v8 v19 v20 v21 v22 v23 v24 : Value} {z7 z8 : Nat} {W : World} (h : JC w0 n d b6 p q r t l0 l1 m0 m1 dd v7 v8 v19 v20 v21 v22 v23 v24 z7 z8 W) (l2 : w0.heap.size + 1 + 1 < b6) (e6 : dd 6 = true) (e7 : dd 7 = true) (h9n : dd 9 = false) : JC w0 n d b6 p q r t l0 l1 m0 m1 (fun j => j == 9 || dd j) v7 v8 v19 v20 v21 v22 v23 v24 z7 z8 ((W.setCell ⟨z8, 0, none⟩ (.int .i64 m0)).setCell ⟨z8, 1, none⟩ (.int .i64 m1)) := by
  obtain ⟨h0, h1, h2, h3, h4, h5, h6, h7, h8, h9, h10, h11, h12, h13⟩ := h
  have hz := h9 e7 h9n
  have hne := h11 e6 e7
  exact ⟨qc_set h0 l2 hz.2.2 _ _, h1, h2, h3, h4, h5, h6, fun a b => zat_set (h7 a b) hne _ _, fun a => zat_set (h8 a) hne _ _, fun _ e => (by cases e), fun _ => ⟨hz.1, set2_at hz.2.1 _ _, hz.2.2⟩, h11, h12, fun _ => e7⟩

theorem jc_c {w0 : World} {n d : Int} {b6 : Nat} {p q r t l0 l1 m0 m1 : Int} {dd : Nat → Bool} {v7 v8 v19 v20 v21 v22 v23 v24 : Value} {z7 z8 : Nat} {W : World} (h : JC w0 n d b6 p q r t l0 l1 m0 m1 dd v7 v8 v19 v20 v21 v22 v23 v24 z7 z8 W) : W.cell? ⟨b6, 0, none⟩ = some (.int .i64 p) ∧ W.cell? ⟨b6, 1, none⟩ = some (.int .i64 q) ∧ W.cell? ⟨b6, 2, none⟩ = some (.int .i64 r) ∧ W.cell? ⟨b6, 3, none⟩ = some (.int .i64 t) := by
  have hb := h.1.2.1
  obtain ⟨a, b, c, e, _⟩ := blk4 hb
  exact ⟨a, b, c, e⟩
theorem jc_z7 {w0 : World} {n d : Int} {b6 : Nat} {p q r t l0 l1 m0 m1 : Int} {dd : Nat → Bool} {v7 v8 v19 v20 v21 v22 v23 v24 : Value} {z7 z8 : Nat} {W : World} (h : JC w0 n d b6 p q r t l0 l1 m0 m1 dd v7 v8 v19 v20 v21 v22 v23 v24 z7 z8 W) (e6 : dd 6 = true) (h8n : dd 8 = false) : v7 = .pointer (some ⟨z7, 0, none⟩) ∧ W.cell? ⟨z7, 0, none⟩ = some (.int .i64 0) ∧ W.cell? ⟨z7, 1, none⟩ = some (.int .i64 0) ∧ W.frozen? ⟨z7, 0, none⟩ = false ∧ W.frozen? ⟨z7, 1, none⟩ = false := by
  have hz := h.2.2.2.2.2.2.2.1 e6 h8n
  have hb := hz.2.1
  obtain ⟨a, b, c, e, _⟩ := blk2 hb
  exact ⟨hz.1, a, b, c, e⟩
theorem jc_z8 {w0 : World} {n d : Int} {b6 : Nat} {p q r t l0 l1 m0 m1 : Int} {dd : Nat → Bool} {v7 v8 v19 v20 v21 v22 v23 v24 : Value} {z7 z8 : Nat} {W : World} (h : JC w0 n d b6 p q r t l0 l1 m0 m1 dd v7 v8 v19 v20 v21 v22 v23 v24 z7 z8 W) (e7 : dd 7 = true) (h9n : dd 9 = false) : v8 = .pointer (some ⟨z8, 0, none⟩) ∧ W.cell? ⟨z8, 0, none⟩ = some (.int .i64 0) ∧ W.cell? ⟨z8, 1, none⟩ = some (.int .i64 0) ∧ W.frozen? ⟨z8, 0, none⟩ = false ∧ W.frozen? ⟨z8, 1, none⟩ = false := by
  have hz := h.2.2.2.2.2.2.2.2.2.1 e7 h9n
  have hb := hz.2.1
  obtain ⟨a, b, c, e, _⟩ := blk2 hb
  exact ⟨hz.1, a, b, c, e⟩

theorem chk1At (n d : Int) (w : World) :
    Calls Try.prog 47 #[.int .i64 1, .slice (some ⟨w.heap.size + 1 + 1 + 1, 0, none⟩) 1 1] ((((w.alloc (.cells #[.int .i64 n, .int .i64 d] 25)).alloc (.cells #[.int .i64 0, .int .i64 0] 25)).alloc (.cells #[.int .i64 0, .int .i64 0] 25)).alloc (.cells #[.int .i64 n, .int .i64 d] 25)) fun e w' => e = .returned (.int .i64 (code1 n d)) ∧ Box3 w w' n d 0 0 := by
  have hf := frs_one (((w.alloc (.cells #[.int .i64 n, .int .i64 d] 25)).alloc (.cells #[.int .i64 0, .int .i64 0] 25)).alloc (.cells #[.int .i64 0, .int .i64 0] 25)) n d 25
  rw [World.size_alloc, World.size_alloc, World.size_alloc] at hf
  have hb := box3_new w n d 0 0
  generalize ((w.alloc (.cells #[.int .i64 n, .int .i64 d] 25)).alloc (.cells #[.int .i64 0, .int .i64 0] 25)).alloc (.cells #[.int .i64 0, .int .i64 0] 25) = V at *
  have h := implChk 1 (w.heap.size + 1 + 1 + 1) 1 1 [(n, d)] _ rfl (by simp) hf
  rw [chk_one] at h
  refine h.mono ?_
  rintro e w1 ⟨rfl, b1⟩
  exact ⟨rfl, box3_below hb (((Below.refl V.heap.size V).alloc (Nat.le_refl _) _).trans (b1.mono (by simp)))⟩

set_option maxRecDepth 100000 in
set_option maxHeartbeats 100000000 in
theorem implChi (n d : Int) (w : World) :
    Calls Try.prog 13 #[.agg #[.int .i64 n, .int .i64 d]] w fun e w' => e = .returned (vC (chiT n d)) ∧ Below w.heap.size w w' := by
  have HC := hid (chk1At n d w)
  unfold vC
  by_cases hc : code1 n d = 0
  · obtain ⟨ho, hn⟩ := code1_zero hc
    obtain ⟨z1, z2, z3, z4, z5, z6⟩ := bnd_nums ho hn
    obtain ⟨y1, y2, y3, y4⟩ := ok_bounds ho
    rw [chiT_ok hc]
    rw [hc] at HC
    have HR := hid (fun w => implAround n d w ho hn)
    unfold bV at HR
    clear hc ho
    generalize bnd n d = b at *
    obtain ⟨p, q, r, t⟩ := b
    dsimp only at HR z1 z2 z3 z4 z5 z6
    have HL := hid (fun w => implLeft p q r t 1 w z1 (by omega) z2 (by omega) z3 (by omega) z4 (by omega) (by omega) (by omega))
    have HRT := hid (fun w => implRight p q r t 1 w z1 (by omega) z2 (by omega) z3 (by omega) z4 (by omega) (by omega) (by omega))
    rw [Int.one_mul, Int.one_mul] at HL HRT
    have HBL := hid (fun w => implBetween p q (r + p) (t + q) w z1 (by omega) z2 (by omega) (by omega) (by omega) (by omega) (by omega))
    have HBR := hid (fun w => implBetween (p + r) (q + t) r t w (by omega) (by omega) (by omega) (by omega) z3 (by omega) z4 (by omega))
    rw [show p + (r + p) = n + p by omega, show q + (t + q) = d + q by omega] at HBL
    rw [show p + r + r = n + r by omega, show q + t + t = d + t by omega] at HBR
    have HO1 := hid (fun w => implValid (n + p) (d + q) w)
    have HO2 := hid (fun w => implValid (n + r) (d + t) w)
    have HK := hid (show chiK n d (p, q, r, t) = if okF (n + p) (d + q) = true ∧ okF (n + r) (d + t) = true then (n + p, d + q, n + r, d + t, 0) else (0, 0, 0, 0, 5) from rfl)
    clear z1 z2 z3 z4 z5 z6 y1 y2 y3 y4 hn
    obtain ⟨K, hK⟩ : ∃ K, K = chiK n d (p, q, r, t) := ⟨_, rfl⟩
    rw [← hK] at HK ⊢
    clear hK
    generalize n + p = l0 at *
    generalize d + q = l1 at *
    generalize n + r = r0' at *
    generalize d + t = r1' at *
    go_enter Try.func13, Try.ntmps13
    go_wp2_with (fail)
    refine HC.out.mono ?_
    rintro e w1 ⟨rfl, bx⟩
    have BX := hid bx
    obtain ⟨a0, a1, _, _, _⟩ := blk2 bx.1
    clear bx
    go_wp2_with (fail)
    refine (HR.out _).mono ?_
    rintro e w2 ⟨rfl, v2⟩
    have BX2 := hid (box3_below BX.out v2)
    have l2 : w.heap.size + 1 + 1 < w2.heap.size := (blk2 BX2.out.2.2.1).2.2.2.2
    clear v2
    obtain ⟨V, hV⟩ : ∃ V : World, V = w2.alloc (.cells #[.int .i64 p, .int .i64 q, .int .i64 r, .int .i64 t] 66) := ⟨_, rfl⟩
    have T6 := hid (new_at w2 (.cells #[.int .i64 p, .int .i64 q, .int .i64 r, .int .i64 t] 66))
    have BXV := hid (box3_alloc BX2.out (.cells #[.int .i64 p, .int .i64 q, .int .i64 r, .int .i64 t] 66))
    rw [← hV] at T6 BXV
    have HV := hid hV
    have lV : w2.heap.size < V.heap.size := (Array.getElem?_eq_some_iff.1 T6.out).1
    clear hV
    go_upto_region 5 with fail
    rw [← HV.out]
    clear HV
    obtain ⟨b6, hb6⟩ : ∃ b6, b6 = w2.heap.size := ⟨_, rfl⟩
    rw [← hb6] at T6 l2 lV ⊢
    clear hb6 BX2 BX a0 a1
    obtain ⟨t0, t1, t2, t3, _⟩ := blk4 T6.out
    go_cut [7, 8] (fun s7 s8 wx => ∃ z7 z8, s7 = .pointer (some ⟨z7, 0, none⟩) ∧ s8 = .pointer (some ⟨z8, 0, none⟩) ∧ Hid (Two w wx n d z7 z8 l0 l1 r0' r1'))
    case first =>
      have Q0 := hid (show QC w n d b6 p q r t [] V.drew from qc_drew ⟨BXV.out, T6.out, fun z hz => by simp at hz, by omega⟩)
      have L2 := hid l2
      clear t0 t1 t2 t3
      refine wp_region_inv (by kernel_rfl) (by kernel_rfl) (fun a0 _ dd a' w' => ∃ v7 v8 v19 v20 v21 v22 v23 v24 z7 z8, a' = puts a0 [(7, v7), (8, v8), (19, v19), (20, v20), (21, v21), (22, v22), (23, v23), (24, v24)] ∧ JC w n d b6 p q r t l0 l1 r0' r1' dd v7 v8 v19 v20 v21 v22 v23 v24 z7 z8 w') ?_ ⟨?_, ?_, ?_, ?_, ?_, ?_, ?_, ?_, ?_, ?_, trivial⟩ ?_
      · exact ⟨undef, undef, undef, undef, undef, undef, undef, undef, 0, 0, (by simp only [puts, List.foldl, List.setIfInBounds_toArray, List.set_cons_zero, List.set_cons_succ]), Q0.out, by simp, by simp, by simp, by simp, by simp, by simp, by simp, by simp, by simp, by simp, by simp, by simp, by simp⟩
      · intro dd a w' hd hn ⟨v7, v8, v19, v20, v21, v22, v23, v24, z7, z8, e, hj⟩ K hK
        subst e
        have tt := jc_c hj
        have t0 := tt.1
        have t1 := tt.2.1
        have t2 := tt.2.2.1
        have t3 := tt.2.2.2
        clear tt
        have HJ := hid hj
        have HN := hid hn
        have HD := hid hd
        have HKK := hid hK
        clear hj hn hK hd
        simp only [puts, List.foldl, List.setIfInBounds_toArray, List.set_cons_zero, List.set_cons_succ]
        go_simp
        exact HKK.out _ _ ⟨v7, v8, (.agg #[.int .i64 p, .int .i64 q, .int .i64 r, .int .i64 t]), v20, v21, v22, v23, v24, z7, z8, (by simp only [puts, List.foldl, List.setIfInBounds_toArray, List.set_cons_zero, List.set_cons_succ]), jc_0 HJ.out⟩
      · intro dd a w' hd hn ⟨v7, v8, v19, v20, v21, v22, v23, v24, z7, z8, e, hj⟩ K hK
        subst e
        have e0 := hj.2.1 (hn 0 (by kernel_rfl))
        subst e0
        have HJ := hid hj
        have HN := hid hn
        have HD := hid hd
        have HKK := hid hK
        clear hj hn hK hd
        simp only [puts, List.foldl, List.setIfInBounds_toArray, List.set_cons_zero, List.set_cons_succ]
        go_simp
        go_wp2_with (refine (HL.out _).mono ?_; rintro e u1 ⟨rfl, v1⟩)
        exact HKK.out _ _ ⟨v7, v8, (.agg #[.int .i64 p, .int .i64 q, .int .i64 r, .int .i64 t]), (.agg #[.int .i64 p, .int .i64 q, .int .i64 (r + p), .int .i64 (t + q)]), v21, v22, v23, v24, z7, z8, (by simp only [puts, List.foldl, List.setIfInBounds_toArray, List.set_cons_zero, List.set_cons_succ]), jc_1 (jc_below HJ.out v1)⟩
      · intro dd a w' hd hn ⟨v7, v8, v19, v20, v21, v22, v23, v24, z7, z8, e, hj⟩ K hK
        subst e
        have e0 := hj.2.2.1 (hn 1 (by kernel_rfl))
        subst e0
        have HJ := hid hj
        have HN := hid hn
        have HD := hid hd
        have HKK := hid hK
        clear hj hn hK hd
        simp only [puts, List.foldl, List.setIfInBounds_toArray, List.set_cons_zero, List.set_cons_succ]
        go_simp
        go_wp2_with (refine (HBL.out _).mono ?_; rintro e u1 ⟨rfl, v1⟩)
        exact HKK.out _ _ ⟨v7, v8, v19, (.agg #[.int .i64 p, .int .i64 q, .int .i64 (r + p), .int .i64 (t + q)]), (.agg #[.int .i64 l0, .int .i64 l1]), v22, v23, v24, z7, z8, (by simp only [puts, List.foldl, List.setIfInBounds_toArray, List.set_cons_zero, List.set_cons_succ]), jc_2 (jc_below HJ.out v1)⟩
      · intro dd a w' hd hn ⟨v7, v8, v19, v20, v21, v22, v23, v24, z7, z8, e, hj⟩ K hK
        subst e
        have tt := jc_c hj
        have t0 := tt.1
        have t1 := tt.2.1
        have t2 := tt.2.2.1
        have t3 := tt.2.2.2
        clear tt
        have HJ := hid hj
        have HN := hid hn
        have HD := hid hd
        have HKK := hid hK
        clear hj hn hK hd
        simp only [puts, List.foldl, List.setIfInBounds_toArray, List.set_cons_zero, List.set_cons_succ]
        go_simp
        exact HKK.out _ _ ⟨v7, v8, v19, v20, v21, (.agg #[.int .i64 p, .int .i64 q, .int .i64 r, .int .i64 t]), v23, v24, z7, z8, (by simp only [puts, List.foldl, List.setIfInBounds_toArray, List.set_cons_zero, List.set_cons_succ]), jc_3 HJ.out⟩
      · intro dd a w' hd hn ⟨v7, v8, v19, v20, v21, v22, v23, v24, z7, z8, e, hj⟩ K hK
        subst e
        have e0 := hj.2.2.2.2.1 (hn 3 (by kernel_rfl))
        subst e0
        have HJ := hid hj
        have HN := hid hn
        have HD := hid hd
        have HKK := hid hK
        clear hj hn hK hd
        simp only [puts, List.foldl, List.setIfInBounds_toArray, List.set_cons_zero, List.set_cons_succ]
        go_simp
        go_wp2_with (refine (HRT.out _).mono ?_; rintro e u1 ⟨rfl, v1⟩)
        exact HKK.out _ _ ⟨v7, v8, v19, v20, v21, (.agg #[.int .i64 p, .int .i64 q, .int .i64 r, .int .i64 t]), (.agg #[.int .i64 (p + r), .int .i64 (q + t), .int .i64 r, .int .i64 t]), v24, z7, z8, (by simp only [puts, List.foldl, List.setIfInBounds_toArray, List.set_cons_zero, List.set_cons_succ]), jc_4 (jc_below HJ.out v1)⟩
      · intro dd a w' hd hn ⟨v7, v8, v19, v20, v21, v22, v23, v24, z7, z8, e, hj⟩ K hK
        subst e
        have e0 := hj.2.2.2.2.2.1 (hn 4 (by kernel_rfl))
        subst e0
        have HJ := hid hj
        have HN := hid hn
        have HD := hid hd
        have HKK := hid hK
        clear hj hn hK hd
        simp only [puts, List.foldl, List.setIfInBounds_toArray, List.set_cons_zero, List.set_cons_succ]
        go_simp
        go_wp2_with (refine (HBR.out _).mono ?_; rintro e u1 ⟨rfl, v1⟩)
        exact HKK.out _ _ ⟨v7, v8, v19, v20, v21, v22, (.agg #[.int .i64 (p + r), .int .i64 (q + t), .int .i64 r, .int .i64 t]), (.agg #[.int .i64 r0', .int .i64 r1']), z7, z8, (by simp only [puts, List.foldl, List.setIfInBounds_toArray, List.set_cons_zero, List.set_cons_succ]), jc_5 (jc_below HJ.out v1)⟩
      · intro dd a w' hd hn ⟨v7, v8, v19, v20, v21, v22, v23, v24, z7, z8, e, hj⟩ K hK
        subst e
        have HJ := hid hj
        have HN := hid hn
        have HD := hid hd
        have HKK := hid hK
        clear hj hn hK hd
        simp only [puts, List.foldl, List.setIfInBounds_toArray, List.set_cons_zero, List.set_cons_succ]
        go_simp
        exact HKK.out _ _ ⟨(.pointer (some ⟨w'.heap.size, 0, none⟩)), v8, v19, v20, v21, v22, v23, v24, w'.heap.size, z8, (by simp only [puts, List.foldl, List.setIfInBounds_toArray, List.set_cons_zero, List.set_cons_succ]), jc_6 HJ.out HD.out⟩
      · intro dd a w' hd hn ⟨v7, v8, v19, v20, v21, v22, v23, v24, z7, z8, e, hj⟩ K hK
        subst e
        have HJ := hid hj
        have HN := hid hn
        have HD := hid hd
        have HKK := hid hK
        clear hj hn hK hd
        simp only [puts, List.foldl, List.setIfInBounds_toArray, List.set_cons_zero, List.set_cons_succ]
        go_simp
        exact HKK.out _ _ ⟨v7, (.pointer (some ⟨w'.heap.size, 0, none⟩)), v19, v20, v21, v22, v23, v24, z7, w'.heap.size, (by simp only [puts, List.foldl, List.setIfInBounds_toArray, List.set_cons_zero, List.set_cons_succ]), jc_7 HJ.out HD.out⟩
      · intro dd a w' hd hn ⟨v7, v8, v19, v20, v21, v22, v23, v24, z7, z8, e, hj⟩ K hK
        subst e
        have e0 := hj.2.2.2.1 (hn 2 (by kernel_rfl))
        subst e0
        have tt := jc_z7 hj (hn 6 (by kernel_rfl)) hd
        have e1 := tt.1
        have c0 := tt.2.1
        have c1 := tt.2.2.1
        have f0 := tt.2.2.2.1
        have f1 := tt.2.2.2.2
        clear tt
        subst e1
        have HJ := hid hj
        have HN := hid hn
        have HD := hid hd
        have HKK := hid hK
        clear hj hn hK hd
        simp only [puts, List.foldl, List.setIfInBounds_toArray, List.set_cons_zero, List.set_cons_succ]
        go_simp
        exact HKK.out _ _ ⟨(.pointer (some ⟨z7, 0, none⟩)), v8, v19, v20, (.agg #[.int .i64 l0, .int .i64 l1]), v22, v23, v24, z7, z8, (by simp only [puts, List.foldl, List.setIfInBounds_toArray, List.set_cons_zero, List.set_cons_succ]), jc_8 HJ.out L2.out (HN.out 6 (by kernel_rfl)) (HN.out 7 (by kernel_rfl)) HD.out⟩
      · intro dd a w' hd hn ⟨v7, v8, v19, v20, v21, v22, v23, v24, z7, z8, e, hj⟩ K hK
        subst e
        have e0 := hj.2.2.2.2.2.2.1 (hn 5 (by kernel_rfl))
        subst e0
        have tt := jc_z8 hj (hn 7 (by kernel_rfl)) hd
        have e1 := tt.1
        have c0 := tt.2.1
        have c1 := tt.2.2.1
        have f0 := tt.2.2.2.1
        have f1 := tt.2.2.2.2
        clear tt
        subst e1
        have HJ := hid hj
        have HN := hid hn
        have HD := hid hd
        have HKK := hid hK
        clear hj hn hK hd
        simp only [puts, List.foldl, List.setIfInBounds_toArray, List.set_cons_zero, List.set_cons_succ]
        go_simp
        exact HKK.out _ _ ⟨v7, (.pointer (some ⟨z8, 0, none⟩)), v19, v20, v21, v22, v23, (.agg #[.int .i64 r0', .int .i64 r1']), z7, z8, (by simp only [puts, List.foldl, List.setIfInBounds_toArray, List.set_cons_zero, List.set_cons_succ]), jc_9 HJ.out L2.out (HN.out 6 (by kernel_rfl)) (HN.out 7 (by kernel_rfl)) HD.out⟩
      · intro dd a w' hd ⟨v7, v8, v19, v20, v21, v22, v23, v24, z7, z8, e, hj⟩
        subst e
        have hz7 := hj.2.2.2.2.2.2.2.2.1 (hd 8 (by decide))
        have hz8 := hj.2.2.2.2.2.2.2.2.2.2.1 (hd 9 (by decide))
        have HT := hid (show Two w w' n d z7 z8 l0 l1 r0' r1' from ⟨hj.1.1, hz7.2.1, hz8.2.1, by have := hz7.2.2; omega, by have := hz8.2.2; omega⟩)
        obtain ⟨e7, _⟩ := hz7
        obtain ⟨e8, _⟩ := hz8
        subst e7
        subst e8
        clear hj hd
        simp only [puts, List.foldl, List.setIfInBounds_toArray, List.set_cons_zero, List.set_cons_succ]
        go_wp2_with fail
        go_meet
        case rel => exact ⟨_, _, rfl, rfl, HT⟩
    case rest =>
      obtain ⟨z7, z8, rfl, rfl, hat⟩ := hcut
      obtain ⟨BX6, K7, K8, n7, n8⟩ := hat.out
      have n7a : w.heap.size + 1 < z7 := by omega
      have n8a : w.heap.size + 1 < z8 := by omega
      have BXC := hid BX6
      have HK7 := hid K7
      have HK8 := hid K8
      obtain ⟨s0, s1, _, _, _⟩ := blk2 K7
      clear hat BX6 K7 K8
      cases h1 : okF l0 l1
      · have HX := hid (show K = (0, 0, 0, 0, 5) by rw [HK.out, if_neg (fun h => by have := h.1; rw [h1] at this; simp at this)])
        rw [h1] at HO1
        go_wp2_with (fail)
        refine (HO1.out _).mono ?_
        rintro e w5 ⟨rfl, v5⟩
        have BX5 := hid (box3_below BXC.out v5)
        obtain ⟨u0, u1, f0, f1, _⟩ := blk2 BX5.out.2.1
        obtain ⟨u2, u3, f2, f3, _⟩ := blk2 BX5.out.2.2.1
        clear v5
        go_wp2_with (fail)
        obtain ⟨X, hX, r0, r1, r2, r3, E⟩ := box3_ret2 BX5.out 0 0 0 0
        rw [← hX]
        refine bodyPost_ret (v := .tuple #[.agg #[.int .i64 0, .int .i64 0], .agg #[.int .i64 0, .int .i64 0], .int .i64 5]) (by simp [results, Try.results13, go_sem, r0, r1, r2, r3]) rfl ⟨by rw [HX.out], E⟩
      rw [h1] at HO1
      cases h2 : okF r0' r1'
      · have HX := hid (show K = (0, 0, 0, 0, 5) by rw [HK.out, if_neg (fun h => by have := h.2; rw [h2] at this; simp at this)])
        rw [h2] at HO2
        go_wp2_with (fail)
        refine (HO1.out _).mono ?_
        rintro e w5 ⟨rfl, v5⟩
        have BX5 := hid (box3_below BXC.out v5)
        obtain ⟨k7, k8⟩ := keep_blk HK7.out HK8.out v5
        have T75 := hid k7
        have T85 := hid k8
        obtain ⟨s0, s1, _, _, _⟩ := blk2 k8
        clear v5 k7 k8
        go_wp2_with (fail)
        refine (HO2.out _).mono ?_
        rintro e w6 ⟨rfl, v6⟩
        have BX6 := hid (box3_below BX5.out v6)
        obtain ⟨k7, k8⟩ := keep_blk T75.out T85.out v6
        obtain ⟨s0, s1, _, _, _⟩ := blk2 k8
        obtain ⟨s2, s3, _, _, _⟩ := blk2 k7
        obtain ⟨u0, u1, f0, f1, _⟩ := blk2 BX6.out.2.1
        obtain ⟨u2, u3, f2, f3, _⟩ := blk2 BX6.out.2.2.1
        clear v6 k7 k8
        go_wp2_with (fail)
        obtain ⟨X, hX, r0, r1, r2, r3, E⟩ := box3_ret2 BX6.out 0 0 0 0
        rw [← hX]
        refine bodyPost_ret (v := .tuple #[.agg #[.int .i64 0, .int .i64 0], .agg #[.int .i64 0, .int .i64 0], .int .i64 5]) (by simp [results, Try.results13, go_sem, r0, r1, r2, r3]) rfl ⟨by rw [HX.out], E⟩
      · have HX := hid (show K = (l0, l1, r0', r1', 0) by rw [HK.out, if_pos ⟨h1, h2⟩])
        rw [h2] at HO2
        go_wp2_with (fail)
        refine (HO1.out _).mono ?_
        rintro e w5 ⟨rfl, v5⟩
        have BX5 := hid (box3_below BXC.out v5)
        obtain ⟨k7, k8⟩ := keep_blk HK7.out HK8.out v5
        have T75 := hid k7
        have T85 := hid k8
        obtain ⟨s0, s1, _, _, _⟩ := blk2 k8
        clear v5 k7 k8
        go_wp2_with (fail)
        refine (HO2.out _).mono ?_
        rintro e w6 ⟨rfl, v6⟩
        have BX6 := hid (box3_below BX5.out v6)
        obtain ⟨k7, k8⟩ := keep_blk T75.out T85.out v6
        obtain ⟨s0, s1, _, _, _⟩ := blk2 k8
        obtain ⟨s2, s3, _, _, _⟩ := blk2 k7
        obtain ⟨u0, u1, f0, f1, _⟩ := blk2 BX6.out.2.1
        obtain ⟨u2, u3, f2, f3, _⟩ := blk2 BX6.out.2.2.1
        clear v6 k7 k8
        go_wp2_with (fail)
        go_region
        go_wp2_with (fail)
        obtain ⟨X, hX, r0, r1, r2, r3, E⟩ := box3_ret2 BX6.out l0 l1 r0' r1'
        rw [← hX]
        refine bodyPost_ret (v := .tuple #[.agg #[.int .i64 l0, .int .i64 l1], .agg #[.int .i64 r0', .int .i64 r1'], .int .i64 0]) (by simp [results, Try.results13, go_sem, r0, r1, r2, r3]) rfl ⟨by rw [HX.out], Below.drew E⟩
  · rw [chiT_no hc]
    generalize code1 n d = k at *
    have hk : (k != 0) = true := by simpa using hc
    go_enter Try.func13, Try.ntmps13
    go_wp2_with (fail)
    refine HC.out.mono ?_
    rintro e w1 ⟨rfl, bx⟩
    have BX := hid bx
    obtain ⟨u0, u1, f0, f1, _⟩ := blk2 BX.out.2.1
    obtain ⟨u2, u3, f2, f3, _⟩ := blk2 BX.out.2.2.1
    clear bx
    go_wp2_with (fail)
    obtain ⟨X, hX, r0, r1, r2, r3, E⟩ := box3_ret2 BX.out 0 0 0 0
    rw [← hX]
    refine bodyPost_ret (v := .tuple #[.agg #[.int .i64 0, .int .i64 0], .agg #[.int .i64 0, .int .i64 0], .int .i64 k]) (by simp [results, Try.results13, go_sem, r0, r1, r2, r3]) rfl ⟨rfl, E⟩

end Go.Proofs.Ytjijabfamjhdjaa
