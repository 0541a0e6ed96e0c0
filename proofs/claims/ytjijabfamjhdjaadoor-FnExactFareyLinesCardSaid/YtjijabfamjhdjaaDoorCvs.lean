/- Contracts: convergents, as the model tells them. -/
import Derived.Test.YtjijabfamjhdjaaDoorSh
import Derived.Test.YtjijabfamjhdjaaDoorOth
import Derived.Test.YtjijabfamjhdjaaDoorLv
import Derived.Test.YtjijabfamjhdjaaDoorKt
namespace Go.Proofs.YtjijabfamjhdjaaDoor
open Go.RowKit

theorem infoF : (Tryd.prog.info? 32).map (fun i => (i.zero, i.size, i.bytes)) = some (some (.agg #[.int .i64 0, .int .i64 0]), 2, 16) := by kernel_rfl
/-- Fractions as the cells of a row. -/
def frCells (xs : List (Int × Int)) : List Value := xs.flatMap fun x => [.int .i64 x.1, .int .i64 x.2]
theorem frCells_more (xs : List (Int × Int)) (x : Int × Int) : frCells xs ++ [Value.int .i64 x.1, .int .i64 x.2] = frCells (xs ++ [x]) := by unfold frCells; rw [List.flatMap_append]; simp
theorem frCells_length (xs : List (Int × Int)) : (frCells xs).length = xs.length * 2 := by
  induction xs with
  | nil => rfl
  | cons x xs ih => unfold frCells at ih ⊢; rw [List.flatMap_cons, List.length_append, ih]; simp; omega
theorem frCells_at : ∀ {xs : List (Int × Int)} {j : Nat} {x : Int × Int}, xs[j]? = some x → (frCells xs)[j * 2]? = some (.int .i64 x.1) ∧ (frCells xs)[j * 2 + 1]? = some (.int .i64 x.2)
  | [], j, x, h => by simp at h
  | y :: ys, 0, x, h => by
    have : y = x := by simpa using h
    subst this
    exact ⟨rfl, rfl⟩
  | y :: ys, j + 1, x, h => by
    have := frCells_at (xs := ys) (j := j) (x := x) (by simpa using h)
    have e : frCells (y :: ys) = .int .i64 y.1 :: .int .i64 y.2 :: frCells ys := rfl
    rw [e, show (j + 1) * 2 = j * 2 + 1 + 1 by omega, show j * 2 + 1 + 1 + 1 = (j * 2 + 1) + 1 + 1 by omega]
    exact this
def FOwn (B : Nat) (w : World) (g c : Nat) (xs : List (Int × Int)) : Prop := B ≤ g ∧ w.ownsRow B 32 2 (.slice (some ⟨g, 0, none⟩) xs.length c) xs.length (frCells xs)
def FBack (B : Nat) (w : World) (v : Value) (xs : List (Int × Int)) : Prop := (v = .slice none 0 0 ∧ xs = []) ∨ ∃ g c, v = .slice (some ⟨g, 0, none⟩) xs.length c ∧ FOwn B w g c xs
theorem fown_below {B : Nat} {w w' : World} {g c : Nat} {xs : List (Int × Int)} (h : FOwn B w g c xs) (hb : Below w.heap.size w w') : FOwn B w' g c xs := ⟨h.1, h.2.kept (below_grows hb) (.inr (by simp [Value.ownBlock]))⟩
theorem fback_below {B : Nat} {w w' : World} {v : Value} {xs : List (Int × Int)} (h : FBack B w v xs) (hb : Below w.heap.size w w') : FBack B w' v xs := by
  rcases h with h | ⟨g, c, rfl, h⟩
  · exact .inl h
  · exact .inr ⟨g, c, rfl, fown_below h hb⟩
theorem fown_cells {B : Nat} {w : World} {g c : Nat} {xs : List (Int × Int)} (h : FOwn B w g c xs) {j : Nat} {x : Int × Int} (hj : xs[j]? = some x) : w.cell? ⟨g, j * 2, none⟩ = some (.int .i64 x.1) ∧ w.cell? ⟨g, j * 2 + 1, none⟩ = some (.int .i64 x.2) := by
  obtain ⟨h1, h2⟩ := frCells_at hj
  have c1 := h.2.cells (g := g) rfl _ _ h1
  have c2 := h.2.cells (g := g) rfl _ _ h2
  rw [add_off, Nat.zero_add] at c1 c2
  exact ⟨c1, c2⟩
theorem frow_back {B : Nat} {w : World} {v : Value} {n : Nat} {xs : List (Int × Int)} (h : w.ownsRow B 32 2 v n (frCells xs)) (hn : n = xs.length) : FBack B w v xs := by
  subst hn
  rcases h.2 with ⟨h1, h2⟩ | ⟨g, cap, cur, rfl, hB, hr⟩
  · exact .inl ⟨h1, List.length_eq_zero_iff.1 h2⟩
  · exact .inr ⟨g, cap, rfl, hB, h⟩
theorem news2 (w : World) (x y : Value) (t : TypeId) : ∀ (j : Nat) (u : Value), [x, y][j]? = some u → (w.alloc (.cells #[x, y] t)).cell? ((⟨w.heap.size, 0, none⟩ : Addr).add j) = some u :=
  (World.ownsRow_lit (base := 0) (e := t) (size := 2) w #[x, y] 1 (Nat.zero_le _) (by decide) rfl).cells rfl

def Bd (x : Int) : Prop := -1000000000 ≤ x ∧ x ≤ 1000000000
theorem bd_mul {a b : Int} (h : Bd a) (k : Bd b) : -1000000000000000000 ≤ a * b ∧ a * b ≤ 1000000000000000000 := mul_bd9 h.1 h.2 k.1 k.2
where
  mul_bd9 {a b : Int} (h1 : -1000000000 ≤ a) (h2 : a ≤ 1000000000) (h3 : -1000000000 ≤ b) (h4 : b ≤ 1000000000) : -1000000000000000000 ≤ a * b ∧ a * b ≤ 1000000000000000000 := by
    have e : (a * b).natAbs ≤ 1000000000 * 1000000000 := by
      rw [Int.natAbs_mul]
      exact Nat.mul_le_mul (by omega) (by omega)
    omega

theorem bd_mul2 {a b : Int} (h : -2000000000 ≤ a ∧ a ≤ 2000000000) (k : Bd b) : -2000000000000000000 ≤ a * b ∧ a * b ≤ 2000000000000000000 := by
  have e : (a * b).natAbs ≤ 2000000000 * 1000000000 := by
    rw [Int.natAbs_mul]
    exact Nat.mul_le_mul (by omega) (by have := k.1; have := k.2; omega)
  omega

end Go.Proofs.YtjijabfamjhdjaaDoor
