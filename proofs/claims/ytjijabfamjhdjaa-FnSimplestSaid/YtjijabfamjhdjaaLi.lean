/- Contracts: rows of numbers: copied, compared, marked, and the marks looked for. -/
import Derived.Test.YtjijabfamjhdjaaFull
import Derived.Laws.AppendOwn
import Derived.Laws.OwnMore
import Derived.OwnWalk
import Derived.Deep.AppendLies
import Derived.Deep.OwnRows
import Derived.Deep.RegionHeld3
namespace Go.Proofs.Ytjijabfamjhdjaa
open Go.RowKit

theorem infoI : (Try.prog.info? 2).map (fun i => (i.zero, i.size, i.bytes)) = some (some (.int .i64 0), 1, 8) := by kernel_rfl

def intCells (xs : List Int) : List Value := xs.map (Value.int .i64)
theorem intCells_length (xs : List Int) : (intCells xs).length = xs.length := List.length_map ..
theorem intCells_more (xs : List Int) (x : Int) : intCells xs ++ [Value.int .i64 x] = intCells (xs ++ [x]) := by unfold intCells; rw [List.map_append]; rfl
theorem intCells_set (ys : List Int) (k : Nat) (x : Int) : intCells (ys.set k x) = (intCells ys).set k (.int .i64 x) := by unfold intCells; rw [List.map_set]
theorem intCells_append (xs ys : List Int) : intCells xs ++ intCells ys = intCells (xs ++ ys) := by unfold intCells; rw [List.map_append]
theorem intCells_take (n : Nat) (xs : List Int) : intCells (xs.take n) = (intCells xs).take n := by unfold intCells; rw [List.map_take]
theorem intCells_get {xs : List Int} {j : Nat} {x : Int} (h : xs[j]? = some x) : (intCells xs)[j]? = some (.int .i64 x) := by unfold intCells; rw [List.getElem?_map, h]; rfl

/-- The cells of a list of numbers. -/
def Ints (w : World) (g o : Nat) (xs : List Int) : Prop := ∀ j x, xs[j]? = some x → w.cell? ⟨g, o + j, none⟩ = some (.int .i64 x)
/-- A row of numbers that the call itself made. -/
def Own (B : Nat) (w : World) (g c : Nat) (xs : List Int) : Prop := B ≤ g ∧ w.ownsRow B 2 1 (.slice (some ⟨g, 0, none⟩) xs.length c) xs.length (intCells xs)

theorem below_grows {w w' : World} (h : Below w.heap.size w w') : w.grownBy w' none := ⟨h.os, h.tape, h.output, h.size, fun i hi _ => h.block i hi⟩
theorem ints_below {w w' : World} {g o : Nat} {xs : List Int} (h : Ints w g o xs) (hb : Below w.heap.size w w') : Ints w' g o xs :=
  fun j x hj => (hb.cell (p := ⟨g, o + j, none⟩) (World.block_lt_of_cell? _ _ (h j x hj))).trans (h j x hj)
theorem ints_kept {B : Nat} {w w' : World} {g o : Nat} {xs : List Int} (h : Ints w g o xs) (hg : g < B) (hb : Below B w w') : Ints w' g o xs :=
  fun j x hj => (hb.cell (p := ⟨g, o + j, none⟩) hg).trans (h j x hj)
theorem ints_at {w : World} {g : Nat} {xs : List Int} (h : Ints w g 0 xs) {j : Nat} {x : Int} (hj : xs[j]? = some x) : w.cell? ⟨g, j, none⟩ = some (.int .i64 x) := by
  have := h j x hj
  rwa [Nat.zero_add] at this
theorem ints_drop {w : World} {g o : Nat} {xs : List Int} (h : Ints w g o xs) (k : Nat) : Ints w g (o + k) (xs.drop k) := fun j x hj => by
  rw [List.getElem?_drop] at hj
  have := h (k + j) x hj
  rwa [← Nat.add_assoc] at this
theorem own_ints {B : Nat} {w : World} {g c : Nat} {xs : List Int} (h : Own B w g c xs) : Ints w g 0 xs := fun j x hj => by
  have h1 := h.2.cells (g := g) rfl j _ (intCells_get hj)
  have e : Addr.add ⟨g, 0, none⟩ j = ⟨g, 0 + j, none⟩ := by unfold Addr.add; split <;> simp_all
  rwa [e] at h1
theorem own_lt {B : Nat} {w : World} {g c : Nat} {xs : List Int} (h : Own B w g c xs) : g < w.heap.size := (h.2.lt _ rfl).2
theorem own_cap {B : Nat} {w : World} {g c : Nat} {xs : List Int} (h : Own B w g c xs) : xs.length ≤ c := by
  rcases h.2.2 with ⟨h', _⟩ | ⟨g', cap', cur, h', hb, hg, hnc, _⟩
  · simp at h'
  · simp only [Value.slice.injEq] at h'
    omega
theorem own_take {B : Nat} {w : World} {g c : Nat} {xs : List Int} (h : Own B w g c xs) (m : Nat) (hm : m ≤ xs.length) : B ≤ g ∧ w.ownsRow B 2 1 (.slice (some ⟨g, 0, none⟩) m c) m (intCells (xs.take m)) := by
  obtain ⟨hB, h1, h2⟩ := h
  refine ⟨hB, by rw [intCells_length, List.length_take]; omega, ?_⟩
  rcases h2 with ⟨h', _⟩ | ⟨g', cap', cur, h', hb, hg, hnc, hcm, hcs, htake⟩
  · simp at h'
  · simp only [Value.slice.injEq, Option.some.injEq, Addr.mk.injEq, and_true, true_and] at h'
    obtain ⟨rfl, rfl⟩ := h'
    refine .inr ⟨g, c, cur, rfl, hb, hg, by omega, hcm, hcs, ?_⟩
    rw [intCells_take, ← htake, List.take_take]
    congr 1
    omega
theorem own_below {B : Nat} {w w' : World} {g c : Nat} {xs : List Int} (h : Own B w g c xs) (hb : Below w.heap.size w w') : Own B w' g c xs := ⟨h.1, h.2.kept (below_grows hb) (.inr (by simp [Value.ownBlock]))⟩
theorem own_frozen {B : Nat} {w : World} {g c : Nat} {xs : List Int} (h : Own B w g c xs) (j : Nat) : w.frozen? ⟨g, j, none⟩ = false := h.2.frozenAt j

/-- A list that comes in: empty, or the cells of a block. -/
def Arg (w : World) (v : Value) (xs : List Int) : Prop := (∃ a c, v = .slice a 0 c ∧ xs = []) ∨ ∃ g o c, v = .slice (some ⟨g, o, none⟩) xs.length c ∧ Ints w g o xs
theorem arg_below {w w' : World} {v : Value} {xs : List Int} (h : Arg w v xs) (hb : Below w.heap.size w w') : Arg w' v xs := by
  rcases h with h | ⟨g, o, c, hv, h⟩
  · exact .inl h
  · exact .inr ⟨g, o, c, hv, ints_below h hb⟩
theorem arg_kept {w w' : World} {v : Value} {xs : List Int} (h : Arg w v xs) (hb : Below w.heap.size w w') : Arg w' v xs := arg_below h hb
theorem add_off (b off i : Nat) : Addr.add ⟨b, off, none⟩ i = ⟨b, off + i, none⟩ := by
  unfold Addr.add; split <;> simp_all
/-- The numbers of an argument that was opened. -/
theorem arg_row {w : World} {x : Addr} {len cap : Nat} {zs : List Int} (hl : len ≤ zs.length) (hc : ∀ i, i < zs.length → w.cell? (x.add i) = some (.int .i64 (zs.getD i 0))) : ∃ xs : List Int, len = xs.length ∧ Arg w (.slice (some x) len cap) xs := by
  by_cases h0 : len = 0
  · subst h0
    exact ⟨[], rfl, .inl ⟨_, _, rfl, rfl⟩⟩
  · obtain ⟨b, off, spot⟩ := x
    have h1 := hc 0 (by omega)
    have hspot : spot = none := by simpa [Addr.add] using World.cell?_spot h1
    subst hspot
    have hlt : (zs.take len).length = len := by rw [List.length_take]; omega
    refine ⟨zs.take len, hlt.symm, .inr ⟨b, off, cap, by rw [hlt], fun j y hj => ?_⟩⟩
    have h2 : j < len := by have := (List.getElem?_eq_some_iff.1 hj).1; omega
    have h3 := hc j (by omega)
    rw [add_off] at h3
    rw [List.getElem?_take_of_lt h2] at hj
    rw [h3, List.getD_eq_getElem?_getD, hj]; rfl
theorem own_arg {B : Nat} {w : World} {g c : Nat} {xs : List Int} (h : Own B w g c xs) : Arg w (.slice (some ⟨g, 0, none⟩) xs.length c) xs := .inr ⟨g, 0, c, rfl, own_ints h⟩

theorem arg_nil {w : World} {v : Value} (h : Arg w v []) : ∃ a c, v = .slice a 0 c := by
  rcases h with ⟨a, c, h, _⟩ | ⟨g, o, c, h, _⟩
  · exact ⟨a, c, h⟩
  · exact ⟨_, c, h⟩
theorem grown_trans {a b c : World} {g : Nat} (h : a.grownBy b (some g)) (k : b.grownBy c (some g)) : a.grownBy c (some g) :=
  ⟨k.os.trans h.os, k.tape.trans h.tape, k.output.trans h.output, Nat.le_trans h.size k.size, fun i hi hn => (k.block i (Nat.lt_of_lt_of_le hi h.size) hn).trans (h.block i hi hn)⟩
theorem grown_below {B : Nat} {a b : World} {g : Nat} (h : a.grownBy b (some g)) (hB : B ≤ a.heap.size) (hg : B ≤ g) : Below B a b := (Below.refl B a).grown h hB (fun k hk => by have e : g = k := Option.some.inj hk; omega)
/-- A row that is handed back: nil, or memory of its own. -/
def Back (B : Nat) (w : World) (v : Value) (xs : List Int) : Prop := (v = .slice none 0 0 ∧ xs = []) ∨ ∃ g c, v = .slice (some ⟨g, 0, none⟩) xs.length c ∧ Own B w g c xs
theorem back_arg {B : Nat} {w : World} {v : Value} {xs : List Int} (h : Back B w v xs) : Arg w v xs := by
  rcases h with ⟨h1, h2⟩ | ⟨g, c, rfl, h⟩
  · exact .inl ⟨none, 0, h1, h2⟩
  · exact own_arg h
theorem back_below {B : Nat} {w w' : World} {v : Value} {xs : List Int} (h : Back B w v xs) (hb : Below w.heap.size w w') : Back B w' v xs := by
  rcases h with h | ⟨g, c, rfl, h⟩
  · exact .inl h
  · exact .inr ⟨g, c, rfl, own_below h hb⟩
/-- A row lies on while another block is written. -/
theorem back_grown {B g : Nat} {w w' : World} {v : Value} {xs : List Int} (h : Back B w v xs) (hb : w.grownBy w' (some g)) (hg : g < B) : Back B w' v xs := by
  rcases h with h | ⟨g', c, rfl, h⟩
  · exact .inl h
  · exact .inr ⟨g', c, rfl, h.1, h.2.kept hb (.inr (by have := h.1; simp [Value.ownBlock]; omega))⟩
theorem back_lt {B : Nat} {w : World} {v : Value} {xs : List Int} (h : Back B w v xs) : ∀ g c n, v = .slice (some ⟨g, 0, none⟩) n c → g < w.heap.size := by
  rcases h with ⟨rfl, _⟩ | ⟨g', c', rfl, h⟩
  · intro g c n e; simp at e
  · intro g c n e
    have := own_lt h
    simp only [Value.slice.injEq, Option.some.injEq, Addr.mk.injEq] at e
    omega
theorem back_mono {A B : Nat} {w : World} {v : Value} {xs : List Int} (h : Back B w v xs) (hA : A ≤ B) : Back A w v xs := by
  rcases h with h | ⟨g', c, rfl, h⟩
  · exact .inl h
  · refine .inr ⟨g', c, rfl, Nat.le_trans hA h.1, h.2.1, ?_⟩
    rcases h.2.2 with h3 | ⟨a, b, d, h3, h4, h5⟩
    · exact .inl h3
    · exact .inr ⟨a, b, d, h3, Nat.le_trans hA h4, h5⟩
/-- The marks stand in the row. -/
def Marked (v : Value) (n : Nat) (w : World) : Prop := (v = .slice none 0 0 ∧ n = 0) ∨ ∃ ga ca, v = .slice (some ⟨ga, 0, none⟩) n ca ∧ ∀ j, j < n → w.cell? ⟨ga, j, none⟩ = some (.int .i64 (1 + (j : Int)))
theorem marked_below {v : Value} {n : Nat} {w w' : World} (h : Marked v n w) (hb : Below w.heap.size w w') : Marked v n w' := by
  rcases h with h | ⟨ga, ca, hv, h⟩
  · exact .inl h
  · exact .inr ⟨ga, ca, hv, fun j hj => (hb.cell (p := ⟨ga, j, none⟩) (World.block_lt_of_cell? _ _ (h j hj))).trans (h j hj)⟩
end Go.Proofs.Ytjijabfamjhdjaa
