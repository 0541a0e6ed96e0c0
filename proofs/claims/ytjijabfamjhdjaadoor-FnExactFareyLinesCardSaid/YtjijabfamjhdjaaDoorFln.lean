/- Contract: a Farey sequence as a line, by the program. -/
import Derived.Test.YtjijabfamjhdjaaDoorFas
import Derived.Lib.Split
import Derived.Lib.Join
import Derived.Test.YtjijabfamjhdjaaDoorFls
import Derived.Test.YtjijabfamjhdjaaDoorShelfJ
import Derived.Shelf.RegionOpen
import Derived.Test.YtjijabfamjhdjaaDoorRvi
import Derived.Deep.AppendLies
namespace Go.Proofs.YtjijabfamjhdjaaDoor
open Go.RowKit Go.Shelf Go.Lib
attribute [local go_sem] Oper.semAt_some

/-- The texts of fractions. -/
def lnB (f : Int → Int → List UInt8) (xs : List (Int × Int)) : List ByteArray := xs.map fun x => ⟨(f x.1 x.2).toArray⟩

theorem lnB_len : ∀ (xs : List (Int × Int)) (tx : Int → Int → List UInt8), (∀ p q, (tx p q).length ≤ 100) → (join ((lnB tx xs).map (·.data.toList)) [32]).length ≤ 101 * xs.length := by
  intro xs tx h
  cases xs with
  | nil => simp [lnB, join_nil]
  | cons x r =>
    show (join (tx x.1 x.2 :: (lnB tx r).map (·.data.toList)) [32]).length ≤ _
    rw [join_cons, List.length_append]
    have h2 : ∀ (r : List (Int × Int)), (joinTail [32] ((lnB tx r).map (·.data.toList))).length ≤ 101 * r.length := by
      intro r
      induction r with
      | nil => simp [lnB, joinTail]
      | cons y r ih =>
        have := h y.1 y.2
        unfold joinTail lnB at ih ⊢
        simp only [List.map_cons, List.flatten_cons, List.length_append, List.length_cons, List.length_nil] at ih ⊢
        omega
    have := h2 r
    have := h x.1 x.2
    simp only [List.length_cons]
    omega
/-- Where the region of a round stands: what has come up, and the world. -/
structure JL (a : Nat) (rb : Loop) (w X : World) (v : Value) (ls : List ByteArray) (x : ByteArray) (f : Nat) (p q o : Int) (dd : Nat → Bool) (v8 v9 v10 v11 v12 : Value) (g : Nat) (W : World) : Prop where
  h0 : dd 0 = true → v8 = v
  h1 : dd 1 = true → v9 = .agg #[.int .i64 p, .int .i64 q]
  h2 : dd 2 = true → v10 = .string x
  h3 : dd 3 = true → v11 = .slice (some ⟨g, 0, none⟩) 1 1 ∧ (dd 4 = false → W.cell? ⟨g, 0, none⟩ = some (.string x))
  n4 : dd 4 = true → dd 0 = true ∧ dd 1 = true ∧ dd 2 = true ∧ dd 3 = true
  n5 : dd 5 = true → dd 4 = true
  n2 : dd 2 = true → dd 1 = true
  st : dd 4 = false → As a (a + 2) (a + 3) (a + 4) rb w X v ls W
  ap : dd 4 = true → dd 5 = false → ∃ W1, As a (a + 2) (a + 3) (a + 4) rb w X v ls W1 ∧ a + 4 + 2 ≤ W1.heap.size ∧ W1.grownBy W v.ownBlock ∧ W.ownsRow (a + 4 + 2) 9 1 v12 (ls ++ [x]).length (strCells (ls ++ [x]))
  ed : dd 5 = true → As a (a + 2) (a + 3) (a + 4) rb w X v12 (ls ++ [x]) W
  bo : W.cell? ⟨a + 1, 0, none⟩ = some (.int .i64 o)
  fr : dd 1 = false → ItF W f (p, q)
  sz : a + 4 + 2 ≤ W.heap.size
theorem jl_no5 {a : Nat} {rb : Loop} {w X : World} {v : Value} {ls : List ByteArray} {x : ByteArray} {f : Nat} {p q o : Int} {dd : Nat → Bool} {v8 v9 v10 v11 v12 : Value} {g : Nat} {W : World} (h : JL a rb w X v ls x f p q o dd v8 v9 v10 v11 v12 g W) (h4 : dd 4 = false) : dd 5 = false := by
  cases h5 : dd 5
  · rfl
  · rw [h.n5 h5] at h4; cases h4
theorem jl_no4 {a : Nat} {rb : Loop} {w X : World} {v : Value} {ls : List ByteArray} {x : ByteArray} {f : Nat} {p q o : Int} {dd : Nat → Bool} {v8 v9 v10 v11 v12 : Value} {g : Nat} {W : World} (h : JL a rb w X v ls x f p q o dd v8 v9 v10 v11 v12 g W) (hk : dd 0 = false ∨ dd 1 = false ∨ dd 2 = false ∨ dd 3 = false) : dd 4 = false := by
  cases h4 : dd 4
  · rfl
  · obtain ⟨a0, a1, a2, a3⟩ := h.n4 h4
    rcases hk with e | e | e | e
    · rw [a0] at e; cases e
    · rw [a1] at e; cases e
    · rw [a2] at e; cases e
    · rw [a3] at e; cases e
theorem jl_mk {a : Nat} {rb : Loop} {w X : World} {v : Value} {ls : List ByteArray} {x : ByteArray} {f : Nat} {p q o : Int} {dd : Nat → Bool} {v8 v9 v10 v11 v12 : Value} {g : Nat} {W : World} (h0 : dd 0 = true → v8 = v) (h1 : dd 1 = true → v9 = .agg #[.int .i64 p, .int .i64 q]) (h2 : dd 2 = true → v10 = .string x)
    (h3 : dd 3 = true → v11 = .slice (some ⟨g, 0, none⟩) 1 1 ∧ W.cell? ⟨g, 0, none⟩ = some (.string x)) (h4 : dd 4 = false) (h5 : dd 5 = false) (n2 : dd 2 = true → dd 1 = true) (st : As a (a + 2) (a + 3) (a + 4) rb w X v ls W) (bo : W.cell? ⟨a + 1, 0, none⟩ = some (.int .i64 o)) (fr : dd 1 = false → ItF W f (p, q)) (sz : a + 4 + 2 ≤ W.heap.size) :
    JL a rb w X v ls x f p q o dd v8 v9 v10 v11 v12 g W :=
  ⟨h0, h1, h2, fun e => ⟨(h3 e).1, fun _ => (h3 e).2⟩, (fun e => by rw [h4] at e; cases e), (fun e => by rw [h5] at e; cases e), n2, fun _ => st, (fun e => by rw [h4] at e; cases e), (fun e => by rw [h5] at e; cases e), bo, fr, sz⟩
theorem jl_0 {a : Nat} {rb : Loop} {w X : World} {v : Value} {ls : List ByteArray} {x : ByteArray} {f : Nat} {p q o : Int} {dd : Nat → Bool} {v8 v9 v10 v11 v12 : Value} {g : Nat} {W : World} (h : JL a rb w X v ls x f p q o dd v8 v9 v10 v11 v12 g W) (hd : dd 0 = false) :
    JL a rb w X v ls x f p q o (fun j => j == 0 || dd j) v v9 v10 v11 v12 g W := by
  have h4 := jl_no4 h (.inl hd)
  exact jl_mk (fun _ => rfl) (fun e => h.h1 (by simpa using e)) (fun e => h.h2 (by simpa using e)) (fun e => ⟨(h.h3 (by simpa using e)).1, (h.h3 (by simpa using e)).2 h4⟩) (by simpa using h4) (by simpa using jl_no5 h h4) (fun e => by have := h.n2 (by simpa using e); simpa using this) (h.st h4) h.bo (fun e => h.fr (by simpa using e)) h.sz
theorem jl_1 {a : Nat} {rb : Loop} {w X : World} {v : Value} {ls : List ByteArray} {x : ByteArray} {f : Nat} {p q o : Int} {dd : Nat → Bool} {v8 v9 v10 v11 v12 : Value} {g : Nat} {W : World} (h : JL a rb w X v ls x f p q o dd v8 v9 v10 v11 v12 g W) (hd : dd 1 = false) :
    JL a rb w X v ls x f p q o (fun j => j == 1 || dd j) v8 (.agg #[.int .i64 p, .int .i64 q]) v10 v11 v12 g W := by
  have h4 := jl_no4 h (.inr (.inl hd))
  exact jl_mk (fun e => h.h0 (by simpa using e)) (fun _ => rfl) (fun e => h.h2 (by simpa using e)) (fun e => ⟨(h.h3 (by simpa using e)).1, (h.h3 (by simpa using e)).2 h4⟩) (by simpa using h4) (by simpa using jl_no5 h h4) (fun _ => by simp) (h.st h4) h.bo (fun e => by simp at e) h.sz
theorem jl_2 {a : Nat} {rb : Loop} {w X : World} {v : Value} {ls : List ByteArray} {x : ByteArray} {f : Nat} {p q o : Int} {dd : Nat → Bool} {v8 v9 v10 v11 v12 : Value} {g : Nat} {W W' : World} (h : JL a rb w X v ls x f p q o dd v8 v9 v10 v11 v12 g W) (hO : ApO w a (a + 2) (a + 3) (a + 4)) (hd : dd 2 = false) (d1 : dd 1 = true) (hb : Below W.heap.size W W') :
    JL a rb w X v ls x f p q o (fun j => j == 2 || dd j) v8 v9 (.string x) v11 v12 g W' := by
  have h4 := jl_no4 h (.inr (.inr (.inl hd)))
  refine jl_mk (fun e => h.h0 (by simpa using e)) (fun _ => h.h1 d1) (fun _ => rfl) (fun e => ?_) (by simpa using h4) (by simpa using jl_no5 h h4) (fun _ => by simpa using d1) ?_ ?_ (fun e => by rw [d1] at e; simp at e) (Nat.le_trans h.sz hb.size)
  · obtain ⟨e1, e2⟩ := h.h3 (by simpa using e)
    exact ⟨e1, (hb.cell (p := ⟨g, 0, none⟩) (World.block_lt_of_cell? _ _ (e2 h4))).trans (e2 h4)⟩
  · exact as_grown (h.st h4) hO (below_grows hb) h.sz (fun i e => by cases e)
  · exact (hb.cell (p := ⟨a + 1, 0, none⟩) (by have := h.sz; show a + 1 < _; omega)).trans h.bo
theorem jl_3 {a : Nat} {rb : Loop} {w X : World} {v : Value} {ls : List ByteArray} {x : ByteArray} {f : Nat} {p q o : Int} {dd : Nat → Bool} {v8 v9 v10 v11 v12 : Value} {g : Nat} {W : World} (h : JL a rb w X v ls x f p q o dd v8 v9 v10 v11 v12 g W) (hO : ApO w a (a + 2) (a + 3) (a + 4)) (hd : dd 3 = false) (d1 : dd 1 = true) :
    JL a rb w X v ls x f p q o (fun j => j == 3 || dd j) v8 v9 v10 (.slice (some ⟨W.heap.size, 0, none⟩) 1 1) v12 W.heap.size (W.alloc (.cells #[.string x] 9)) := by
  have h4 := jl_no4 h (.inr (.inr (.inr hd)))
  have hb : Below W.heap.size W (W.alloc (.cells #[.string x] 9)) := (Below.refl _ _).alloc (Nat.le_refl _) _
  refine jl_mk (fun e => h.h0 (by simpa using e)) (fun _ => h.h1 d1) (fun e => h.h2 (by simpa using e)) (fun _ => ⟨rfl, ?_⟩) (by simpa using h4) (by simpa using jl_no5 h h4) (fun _ => by simpa using d1) ?_ ?_ (fun e => by rw [d1] at e; simp at e) (Nat.le_trans h.sz hb.size)
  · exact (cell1 (nw_at _ _)).1
  · exact as_grown (h.st h4) hO (below_grows hb) h.sz (fun i e => by cases e)
  · exact (hb.cell (p := ⟨a + 1, 0, none⟩) (by have := h.sz; show a + 1 < _; omega)).trans h.bo
theorem jl_4 {a : Nat} {rb : Loop} {w X : World} {v : Value} {ls : List ByteArray} {x : ByteArray} {f : Nat} {p q o : Int} {dd : Nat → Bool} {v8 v9 v10 v11 v12 v2 : Value} {g : Nat} {W W' : World} (h : JL a rb w X v ls x f p q o dd v8 v9 v10 v11 v12 g W) (hd : dd 4 = false) (d0 : dd 0 = true) (d1 : dd 1 = true) (d2 : dd 2 = true) (d3 : dd 3 = true)
    (hg : W.grownBy W' v.ownBlock) (hw : W'.ownsRow (a + 4 + 2) 9 1 v2 (ls ++ [x]).length (strCells (ls ++ [x]))) :
    JL a rb w X v ls x f p q o (fun j => j == 4 || dd j) v8 v9 v10 v11 v2 g W' := by
  have h5 := jl_no5 h hd
  have hA := h.st hd
  refine ⟨fun _ => h.h0 d0, fun _ => h.h1 d1, fun _ => h.h2 d2, fun _ => ⟨(h.h3 d3).1, fun e => by simp at e⟩, fun _ => ⟨by simpa using d0, by simpa using d1, by simpa using d2, by simpa using d3⟩, (fun e => by simp), (fun _ => by simpa using d1), (fun e => by simp at e), fun _ _ => ⟨W, hA, h.sz, hg, hw⟩, (fun e => by rw [h5] at e; simp at e), ?_, (fun e => by rw [d1] at e; simp at e), Nat.le_trans h.sz hg.size⟩
  refine (World.cell?_of_block (a := ⟨a + 1, 0, none⟩) (hg.block (a + 1) (by have := h.sz; omega) (fun e => ?_))).trans h.bo
  have := (hA.2.2.2.1.lt _ e.symm).1
  omega
theorem jl_5 {a : Nat} {rb : Loop} {w X : World} {v : Value} {ls : List ByteArray} {x : ByteArray} {f : Nat} {p q o : Int} {dd : Nat → Bool} {v8 v9 v10 v11 v12 : Value} {g : Nat} {W : World} (h : JL a rb w X v ls x f p q o dd v8 v9 v10 v11 v12 g W) (hO : ApO w a (a + 2) (a + 3) (a + 4)) (hd : dd 5 = false) (d4 : dd 4 = true) :
    JL a rb w X v ls x f p q o (fun j => j == 5 || dd j) v8 v9 v10 v11 v12 g (W.setCell ⟨a, 0, none⟩ v12) := by
  obtain ⟨a0, a1, a2, a3⟩ := h.n4 d4
  obtain ⟨W1, k1, k2, k3, k4⟩ := h.ap d4 hd
  refine ⟨fun _ => h.h0 a0, fun _ => h.h1 a1, fun _ => h.h2 a2, fun _ => ⟨(h.h3 a3).1, (fun e => by rw [d4] at e; simp at e)⟩, fun _ => ⟨by simpa using a0, by simpa using a1, by simpa using a2, by simpa using a3⟩, (fun _ => by simpa using d4), (fun _ => by simpa using a1), (fun e => by rw [d4] at e; simp at e), (fun _ e => by simp at e), fun _ => as_app k1 hO k2 k3 k4, ?_, (fun e => by rw [a1] at e; simp at e), by have := h.sz; simpa using this⟩
  refine (World.cell?_of_block (a := ⟨a + 1, 0, none⟩) (heap_setCell_other _ ⟨a, 0, none⟩ _ _ (by show a + 1 ≠ a; omega))).trans h.bo
theorem jl_v12 {a : Nat} {rb : Loop} {w X : World} {v : Value} {ls : List ByteArray} {x : ByteArray} {f : Nat} {p q o : Int} {dd : Nat → Bool} {v8 v9 v10 v11 v12 : Value} {g : Nat} {W : World} (h : JL a rb w X v ls x f p q o dd v8 v9 v10 v11 v12 g W) (h4 : dd 4 = true) (h5 : dd 5 = false) : ∃ g2 c2, v12 = .slice (some ⟨g2, 0, none⟩) (ls.length + 1) c2 := by
  obtain ⟨_, _, _, _, k4⟩ := h.ap h4 h5
  obtain ⟨g2, c2, e12, _⟩ := k4.form (by simp)
  exact ⟨g2, c2, by rw [e12, List.length_append]; rfl⟩
theorem jl_one {a : Nat} {rb : Loop} {w X : World} {v : Value} {ls : List ByteArray} {x : ByteArray} {f : Nat} {p q o : Int} {dd : Nat → Bool} {v8 v9 v10 v11 v12 : Value} {g : Nat} {W : World} (h : JL a rb w X v ls x f p q o dd v8 v9 v10 v11 v12 g W) (h2 : dd 2 = true) : dd 1 = true := h.n2 h2
/-- The cell of the row, before the append and before the store. -/
theorem jl_cell {a : Nat} {rb : Loop} {w X : World} {v : Value} {ls : List ByteArray} {x : ByteArray} {f : Nat} {p q o : Int} {dd : Nat → Bool} {v8 v9 v10 v11 v12 : Value} {g : Nat} {W : World} (h : JL a rb w X v ls x f p q o dd v8 v9 v10 v11 v12 g W) (hO : ApO w a (a + 2) (a + 3) (a + 4)) (hd : dd 5 = false) : W.cell? ⟨a, 0, none⟩ = some v ∧ W.frozen? ⟨a, 0, none⟩ = false := by
  cases h4 : dd 4
  · exact cell1 (h.st h4).2.1
  · obtain ⟨W1, k1, k2, k3, k4⟩ := h.ap h4 hd
    have : W.heap[a]? = W1.heap[a]? := k3.block a (by omega) (fun e => by have := (k1.2.2.2.1.lt _ e.symm).1; omega)
    exact cell1 (this.trans k1.2.1)

set_option maxRecDepth 100000 in
set_option maxHeartbeats 20000000 in
theorem implLine (o : Int) (w : World) (ho : 1 ≤ o) (ho1 : o ≤ 40) (tx : Int → Int → List UInt8) (Pw : World → Prop) (hP : ∀ w w', Pw w → Below w.heap.size w w' → Pw w') (hp : Pw w)
    (HT : ∀ (p q : Int) (w : World), Pw w → Calls Tryd.prog 72 #[.agg #[.int .i64 p, .int .i64 q]] w fun e w' => e = .returned (.string ⟨(tx p q).toArray⟩) ∧ Below w.heap.size w w')
    (htl : ∀ p q, (tx p q).length ≤ 100) :
    CallsIn Fence.wide 8 Tryd.prog 52 #[.int .i64 o] w fun e w' => e = .returned (.string ⟨(join ((lnB tx (far o)).map (·.data.toList)) [32]).toArray⟩) ∧ Below w.heap.size w w' := by
  have HTX := hid HT
  have HPP := hid hP
  have HPW := hid hp
  have HEL := hid (fun w => implElems o w)
  have f2 : Fence.wide.fn 43 := trivial
  clear HT hP hp
  refine callsIn_of_wp_marks Tryd.func52 rfl trivial ?_ rfl
  simp only [Tryd.ntmps52, List.size_toArray, List.length_cons, List.length_nil, Nat.reduceAdd, Nat.reduceSub, Array.replicate_succ, Array.replicate_zero, List.push_toArray, List.append_toArray, List.nil_append, List.cons_append]
  gi_wp2_with (gi_at_call 43; refine (callsIn_wide.2 (HEL.out _)).mono ?_; rintro e w2 ⟨rfl, rfl⟩)
  refine rangeStart rfl (by decide) rfl trivial (enters_of Tryd.func70 (by kernel_rfl) rfl) ?_
  intro fn hfn r W1 hr hW1
  obtain ⟨a, hae⟩ : ∃ a, a = w.heap.size := ⟨_, rfl⟩
  have hz : ((w.alloc (.cells #[.slice none 0 0] 35)).alloc (.cells #[.int .i64 o] 2)).heap.size = a + 2 := by simp [hae]
  rw [hz] at hr
  rw [hz]
  have hO : ApO w a (a + 2) (a + 3) (a + 4) := ⟨by omega, by omega, by omega, by omega⟩
  have HBXX : W1.cell? ⟨a + 1, 0, none⟩ = some (.int .i64 o) ∧ As a (a + 2) (a + 3) (a + 4) r w W1 (.slice none 0 0) [] W1 := by
    obtain ⟨t1, t2, t3⟩ := fit_two w (.cells #[.slice none 0 0] 35) (.cells #[.int .i64 o] 2)
    obtain ⟨u1, u2, u3⟩ := fit_two ((w.alloc (.cells #[.slice none 0 0] 35)).alloc (.cells #[.int .i64 o] 2)) (.deferred (some [])) (.loop r)
    rw [hz] at u1 u2 u3
    rw [← hW1] at u1 u2 u3
    rw [← hae] at t1 t2 t3
    refine ⟨(cell1 ((u3 _ (by omega)).trans t2)).1, ⟨u2, u1⟩, (u3 _ (by omega)).trans t1, ⟨rfl, rfl⟩, ⟨rfl, .inl ⟨rfl, rfl⟩⟩, ?_, ?_⟩
    · rw [hW1]
      exact ((((Below.refl _ _).alloc (Nat.le_refl _) _).alloc (by simp) _).alloc (by simp; omega) _).alloc (by simp; omega) _
    · rw [hW1]; simp; omega
  have hW1s : W1.heap.size = a + 4 := by rw [hW1]; simp [hae]
  have hst : r.state = .ready := by rw [hr]
  have hpe : r.pending = none := by rw [hr]
  obtain ⟨hbx, hC⟩ := HBXX
  have HC := hid hC
  obtain ⟨i0, hi, hz0, hz1, hz2⟩ := info_parts info9
  clear hC hW1 hz
  have hsz0 : w.heap.size = a := hae.symm
  have HAE := hid hae
  have key := fitRun 7 (by decide) (a + 3) (a + 1) (a + 4) o ho ho1 (fun pre X => X.cell? ⟨a + 1, 0, none⟩ = some (.int .i64 o) ∧ ∃ v, As a (a + 2) (a + 3) (a + 4) r w X v (lnB tx pre) X) ?hY ?hG ?hB W1 hW1s (by omega) ⟨hbx, _, HC.out⟩
  simp only [hsz0, List.append_toArray, List.cons_append, List.nil_append]
  rotate_left
  case hG =>
    rintro pre X Y row ⟨hb, v, h⟩ hg hrr
    refine ⟨?_, v, as_it h hO hg hrr⟩
    have hlt : a + 1 < X.heap.size := by have := h.2.2.2.2.2; omega
    exact (World.cell?_of_block (hg.block _ hlt (fun e => by have := hrr (a + 1) e.symm; omega))).trans hb
  case hB =>
    rintro pre X ⟨hb, v, h⟩
    exact hb
  case hY =>
    rintro pre p q post X hfar ⟨hb, v, h⟩ hXs
    obtain ⟨R, hR⟩ : ∃ R : Ending → World → Prop, R = fun e Y => e = .returned (.bool true) ∧ (Y.cell? ⟨a + 1, 0, none⟩ = some (.int .i64 o) ∧ ∃ v, As a (a + 2) (a + 3) (a + 4) r w Y v (lnB tx (pre ++ [(p, q)])) Y) ∧ Y.heap[a + 4]? = X.heap[a + 4]? ∧ Y.heap[a + 4 + 1]? = X.heap[a + 4 + 1]? := ⟨_, rfl⟩
    rw [← hR]
    have hll : (lnB tx pre).length ≤ 600 := by
      have h1 := far_len o
      rw [hfar] at h1
      simp at h1
      show (pre.map _).length ≤ 600
      rw [List.length_map]
      omega
    refine ⟨_, _, _, _, run_yield h.1.1 (by rw [hr]; rfl), roundIn_of_wpIn trivial ?_⟩
    have hr2 := hr
    rw [hsz0] at hr2
    rw [hr2]
    have HX := hid h
    have HR := hid hR
    have HBO := hid hb
    clear h hR hr2 hsz0 hfar hae hb
    simp only [Nat.reduceSub]
    gi_wp2_with (fail)
    have h1 := as_grown HX.out hO (World.grownBy_alloc X (.cells #[.int .i64 p, .int .i64 q] 32) none) (by omega) (fun i e => by cases e)
    obtain ⟨rb, hrb⟩ : ∃ rb : Loop, rb = { r with state := .busy } := ⟨_, rfl⟩
    have h2 := as_loop h1 hO rb
    have hbr : (Instr.beginRound (a + 3)).run Tryd.prog (X.alloc (.cells #[.int .i64 p, .int .i64 q] 32)) = .ok () ((X.alloc (.cells #[.int .i64 p, .int .i64 q] 32)).putObj (a + 3) (.loop rb)) := by rw [hrb]; exact run_beginRound h1.1.1 hst
    refine ⟨_, hbr, ?_⟩
    obtain ⟨Z, hZ⟩ : ∃ Z, Z = (X.alloc (.cells #[.int .i64 p, .int .i64 q] 32)).putObj (a + 3) (.loop rb) := ⟨_, rfl⟩
    have hf : ItF Z X.heap.size (p, q) := by rw [hZ]; exact (World.putObj_heap_other (by omega)).trans (World.alloc_heap_new X _)
    have hZs : a + 4 + 2 < Z.heap.size := by rw [hZ]; simp; omega
    have hbo : Z.cell? ⟨a + 1, 0, none⟩ = some (.int .i64 o) := by
      rw [hZ]
      refine (World.cell?_of_block (World.putObj_heap_other (by show a + 1 ≠ a + 3; omega))).trans ?_
      exact (World.cell?_alloc_lt _ _ _ (by show a + 1 < X.heap.size; omega)).trans HBO.out
    rw [← hZ] at h2 ⊢
    obtain ⟨f, hfe⟩ : ∃ f, f = X.heap.size := ⟨_, rfl⟩
    rw [← hfe] at hf ⊢
    have hfs : a + 4 + 2 ≤ f := by omega
    obtain ⟨y0, y1, _, _, hfl⟩ := bk2 hf
    have HF := hid hf
    have HZ := hid h2
    have HRB := hid hrb
    have HST := hid (And.intro hst hpe)
    have HBZ := hid hbo
    have HPZ := hid (HPP.out _ _ HPW.out h2.2.2.2.2.1)
    clear h1 h2 hbr hZ hf hrb hfe hXs hr hpe hst hW1s hbo
    obtain ⟨c0, c1⟩ := cell1 HZ.out.2.1
    gi_wp2_with (fail)
    obtain ⟨x, hxe⟩ : ∃ x : ByteArray, x = ⟨(tx p q).toArray⟩ := ⟨_, rfl⟩
    have HMORE := hid (show lnB tx (pre ++ [(p, q)]) = lnB tx pre ++ [x] by rw [hxe]; unfold lnB; rw [List.map_append]; rfl)
    have HXC := hid (fun w (h : Pw w) => show Calls Tryd.prog 72 #[.agg #[.int .i64 p, .int .i64 q]] w fun e w' => e = .returned (.string x) ∧ Below w.heap.size w w' by rw [hxe]; exact HTX.out p q w h)
    generalize lnB tx pre = ls at *
    clear hxe
    refine wp_region_invR (by kernel_rfl) (by kernel_rfl) (by kernel_rfl) (fun a0 _ dd a' w' => ∃ v8 v9 v10 v11 v12 g, a' = puts a0 [(8, v8), (9, v9), (10, v10), (11, v11), (12, v12)] ∧ JL a rb w X v ls x f p q o dd v8 v9 v10 v11 v12 g w') ?_ ⟨?_, ?_, ?_, ?_, ?_, ?_, trivial⟩ ?_
    · refine ⟨undef, undef, undef, undef, undef, 0, (by simp only [puts, List.foldl, List.setIfInBounds_toArray, List.set_cons_zero, List.set_cons_succ]), jl_mk (by simp) (by simp) (by simp) (by simp) rfl rfl (by simp) ?_ HBZ.out (fun _ => HF.out) (Nat.le_of_lt hZs)⟩
      exact as_grown HZ.out hO (grown_drew Z) (Nat.le_of_lt hZs) (fun i e => by cases e)
    · intro dd a9 w9 hd hn ⟨v8, v9, v10, v11, v12, g, e, hj⟩ K hK
      subst e
      have tt := (jl_cell hj hO (jl_no5 hj (jl_no4 hj (.inl hd)))).1
      have HJ := hid hj
      have HN := hid hn
      have HD := hid hd
      have HKK := hid hK
      clear hj hn hK hd
      simp only [puts, List.foldl, List.setIfInBounds_toArray, List.set_cons_zero, List.set_cons_succ]
      go_simp
      exact HKK.out _ _ ⟨v, v9, v10, v11, v12, g, (by simp only [puts, List.foldl, List.setIfInBounds_toArray, List.set_cons_zero, List.set_cons_succ]), jl_0 HJ.out HD.out⟩
    · intro dd a9 w9 hd hn ⟨v8, v9, v10, v11, v12, g, e, hj⟩ K hK
      subst e
      have t0 := (bk2 (hj.fr hd)).1
      have t1 := (bk2 (hj.fr hd)).2.1
      have HJ := hid hj
      have HN := hid hn
      have HD := hid hd
      have HKK := hid hK
      clear hj hn hK hd
      simp only [puts, List.foldl, List.setIfInBounds_toArray, List.set_cons_zero, List.set_cons_succ]
      go_simp
      exact HKK.out _ _ ⟨v8, (.agg #[.int .i64 p, .int .i64 q]), v10, v11, v12, g, (by simp only [puts, List.foldl, List.setIfInBounds_toArray, List.set_cons_zero, List.set_cons_succ]), jl_1 HJ.out HD.out⟩
    · intro dd a9 w9 hd hn ⟨v8, v9, v10, v11, v12, g, e, hj⟩ K hK
      subst e
      have e0 := hj.h1 (hn 1 (by kernel_rfl))
      subst e0
      have HPU := hid (HPP.out _ _ HPW.out (hj.st (jl_no4 hj (.inr (.inr (.inl hd))))).2.2.2.2.1)
      have HJ := hid hj
      have HN := hid hn
      have HD := hid hd
      have HKK := hid hK
      clear hj hn hK hd
      simp only [puts, List.foldl, List.setIfInBounds_toArray, List.set_cons_zero, List.set_cons_succ]
      go_simp
      go_wp2_with (refine (HXC.out _ HPU.out).mono ?_; rintro e u1 ⟨rfl, u2⟩)
      exact HKK.out _ _ ⟨v8, (.agg #[.int .i64 p, .int .i64 q]), (.string x), v11, v12, g, (by simp only [puts, List.foldl, List.setIfInBounds_toArray, List.set_cons_zero, List.set_cons_succ]), jl_2 HJ.out hO HD.out (HN.out 1 (by kernel_rfl)) u2⟩
    · intro dd a9 w9 hd hn ⟨v8, v9, v10, v11, v12, g, e, hj⟩ K hK
      subst e
      have e0 := hj.h2 (hn 2 (by kernel_rfl))
      subst e0
      have D1 := hid (show dd 1 = true from jl_one hj (hn 2 (by kernel_rfl)))
      have HJ := hid hj
      have HN := hid hn
      have HD := hid hd
      have HKK := hid hK
      clear hj hn hK hd
      simp only [puts, List.foldl, List.setIfInBounds_toArray, List.set_cons_zero, List.set_cons_succ]
      go_simp
      exact HKK.out _ _ ⟨v8, v9, (.string x), (.slice (some ⟨w9.heap.size, 0, none⟩) 1 1), v12, w9.heap.size, (by simp only [puts, List.foldl, List.setIfInBounds_toArray, List.set_cons_zero, List.set_cons_succ]), jl_3 HJ.out hO HD.out D1.out⟩
    · intro dd a9 w9 hd hn ⟨v8, v9, v10, v11, v12, g, e, hj⟩ K hK
      subst e
      have d0 := hn 0 (by kernel_rfl)
      have d3 := hn 3 (by kernel_rfl)
      have d2 := hn 2 (by kernel_rfl)
      have d1 := jl_one hj d2
      have e0 := hj.h0 d0
      have e1 := (hj.h3 d3).1
      have e2 := (hj.h3 d3).2
      subst e0
      subst e1
      have HC2 := hid (e2 hd)
      have HOW := hid ((hj.st hd).2.2.2.1)
      have hsz := hj.sz
      have HJ := hid hj
      have HD := hid hd
      have HKK := hid hK
      have HDD := hid (And.intro d0 (And.intro d1 (And.intro d2 d3)))
      clear hj hn hK hd d0 d1 d2 d3 e2
      simp only [puts, List.foldl, List.setIfInBounds_toArray, List.set_cons_zero, List.set_cons_succ]
      rw [if_pos (by simp [Region.wanted])]
      refine wp_append_lies w9 (.tmp 8) (.tmp 11) 35 (by rfl) (a + 4 + 2) 9 i0 (.string ByteArray.empty) 1 16 Tryd.underlying35 hi hz0 hz1 hz2 rfl (by decide) _ ls.length (strCells ls) (by rfl) HOW.out ⟨g, 0, none⟩ 1 1 [.string x] (by rfl) rfl ?_ ?_ (by decide) ?_ ?_ hsz _ rfl ?_
      · intro j u hj
        cases j with
        | zero => simp at hj; subst hj; exact HC2.out
        | succ j => simp at hj
      · intro u hu; obtain rfl := List.mem_singleton.1 hu; rfl
      · unfold maxLen; omega
      · omega
      · intro g4 c4 w4 hown4 hgrow4 _ _
        exact HKK.out _ _ ⟨_, v9, v10, _, (.slice (some ⟨g4, 0, none⟩) (ls.length + 1) c4), g, (by simp only [Act.put, puts, List.foldl, List.setIfInBounds_toArray, List.set_cons_zero, List.set_cons_succ]), jl_4 HJ.out HD.out HDD.out.1 HDD.out.2.1 HDD.out.2.2.1 HDD.out.2.2.2 hgrow4 (by rw [← strCells_more, List.length_append]; exact hown4)⟩
    · intro dd a9 w9 hd hn ⟨v8, v9, v10, v11, v12, g, e, hj⟩ K hK
      subst e
      have d4 := hn 4 (by kernel_rfl)
      have t0 := (jl_cell hj hO hd).1
      have t1 := (jl_cell hj hO hd).2
      refine Exists.elim (jl_v12 hj d4 hd) fun g2 h2 => Exists.elim h2 fun c2 e12 => ?_
      subst e12
      clear h2
      have HJ := hid hj
      have HD := hid hd
      have HKK := hid hK
      have D4 := hid d4
      clear hj hn hK hd d4
      simp only [puts, List.foldl, List.setIfInBounds_toArray, List.set_cons_zero, List.set_cons_succ]
      go_simp
      refine HKK.out _ _ ?_
      exact ⟨v8, v9, v10, v11, _, g, (by simp only [puts, List.foldl, List.setIfInBounds_toArray, List.set_cons_zero, List.set_cons_succ]), jl_5 HJ.out hO HD.out D4.out⟩
    · intro dd a9 w9 hall ⟨v8, v9, v10, v11, v12, g, e, hj⟩
      subst e
      have HED := hid (hj.ed (hall 5 (by decide)))
      have HBW := hid hj.bo
      clear hj hall
      simp only [puts, List.foldl, List.setIfInBounds_toArray, List.set_cons_zero, List.set_cons_succ]
      gi_wp2_with (fail)
      have her : (Instr.endRound (a + 3) none).run Tryd.prog w9 = .ok (.bool true) (w9.putObj (a + 3) (.loop r)) := by
        have := run_endRound (P := Tryd.prog) (r := rb) none HED.out.1.1
        rw [loopAgain HRB.out HST.out.1 HST.out.2] at this
        exact this
      refine ⟨_, _, her, ?_⟩
      rw [HR.out]
      have h6 := as_loop HED.out hO r
      refine ⟨rfl, ⟨(World.cell?_of_block (World.putObj_heap_other (by show a + 1 ≠ a + 3; omega))).trans HBW.out, v12, ?_⟩, h6.2.2.1.1, h6.2.2.1.2⟩
      rw [HMORE.out]
      exact as_ref h6
  have e3 : a + 2 + 1 = a + 3 := rfl
  rw [e3]
  simp only [Nat.reduceSub]
  refine key.mono ?_
  clear key
  rintro e Y ⟨⟨v, rfl⟩, _, v', hv⟩
  have HRS := hid (show ∀ ps, ps = lnB tx (far o) → 0 < ps.length ∧ ps.length ≤ 600 ∧ (join (ps.map (·.data.toList)) [32]).length ≤ 101 * 600 from by
    intro ps hps
    obtain ⟨fr, hfr⟩ := far_first ho ho1
    have h1 := lnB_len (far o) tx htl
    have h2 := far_len o
    refine ⟨by rw [hps, hfr]; unfold lnB; simp, by rw [hps]; unfold lnB; rw [List.length_map]; exact h2, by rw [hps]; omega⟩)
  obtain ⟨ps, hps⟩ : ∃ ps, ps = lnB tx (far o) := ⟨_, rfl⟩
  obtain ⟨hpos, hfl600, hjl⟩ := HRS.out ps hps
  have HPS := hid hps
  rw [← hps] at hv
  obtain ⟨JX, hJX⟩ : ∃ JX : ByteArray, JX = ⟨(join (ps.map (·.data.toList)) [32]).toArray⟩ := ⟨_, rfl⟩
  have HJX := hid hJX
  obtain ⟨rx, hrx⟩ : ∃ rx : Loop, rx = { r with state := .exhausted } := ⟨_, rfl⟩
  have hz := as_loop hv hO rx
  have hel : (Instr.endLoop (a + 3)).run Tryd.prog Y = .ok r.pending (Y.putObj (a + 3) (.loop rx)) := by rw [hrx]; exact run_endLoop hv.1.1 (by rw [hst]; decide)
  rw [hpe] at hel
  obtain ⟨Z, hZ⟩ : ∃ Z, Z = Y.putObj (a + 3) (.loop rx) := ⟨_, rfl⟩
  rw [← hZ] at hz hel
  refine ⟨none, _, hel, ?_⟩
  obtain ⟨z0, z1⟩ := cell1 hz.2.1
  have hdf := hz.1.2
  obtain ⟨g5, c5, rfl, hg5, own5⟩ := rowOf_own hz.2.2.2.1 rfl rfl hpos
  have hcap : ps.length ≤ c5 := by
    rcases own5.2 with ⟨h', _⟩ | ⟨g', cap', cur, h', _, _, hnc, _⟩
    · simp at h'
    · simp only [Value.slice.injEq] at h'; omega
  have hg6 : g5 < Z.heap.size := (own5.lt _ rfl).2
  have J0 := Tryd.strings_Join g5 0 c5 ps ⟨#[32]⟩ Z (fun j x hj => by rw [Nat.zero_add]; exact row_cells own5 j _ (by unfold strCells; rw [List.getElem?_map, hj]; rfl)) hg6 (by omega) hcap (by
    have e1 : (⟨#[32]⟩ : ByteArray).data.toList = [32] := rfl
    rw [e1]
    omega)
  have e32 : (⟨#[32]⟩ : ByteArray).data.toList = [32] := rfl
  rw [e32, ← hJX] at J0
  have J := hid J0
  have HZB := hid hz.2.2.2.2.1
  clear J0 hel hZ hrx hz hv hst hpe hr hW1s hae hsz0 hbx own5 e32 hps hJX hjl HRS hg5 hcap
  gi_wp2_with (fail)
  refine ⟨trivial, (callsIn_wide.2 J.out).mono ?_⟩
  rintro e Z2 ⟨rfl, b2⟩
  have hdf2 := (b2.block (a + 2) (Array.getElem?_eq_some_iff.1 hdf).1).trans hdf
  have HB2 := hid (HZB.out.trans (b2.mono HZB.out.size))
  clear b2 hdf
  gi_wp2_with (fail)
  refine ⟨by simp, .inl ⟨_, _, rfl, run_takeDeferred hdf2, ?_⟩⟩
  have hg := grownBy_putObj' Z2 (a + 2) (.deferred none)
  have haa := HAE.out
  have hs2 := HB2.out.size
  have hb := HB2.out.grown hg hs2 (fun i e => by cases e; omega)
  refine ⟨.string JX, ?_, ?_, hb⟩
  · simp [results, Tryd.results52, go_sem]
  · rw [HJX.out, HPS.out]

end Go.Proofs.YtjijabfamjhdjaaDoor
