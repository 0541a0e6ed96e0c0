/- Contract: the parts of a text without blanks, as the model parts it. -/
import Derived.Test.YtjijabfamjhdjaaDoorSp
import Derived.OneCell
import Derived.Deep.Onto
namespace Go.Proofs.YtjijabfamjhdjaaDoor
open Go.RowKit Go.Lib

/-- The parts that are not empty. -/
def wordsB (l : List UInt8) : List (List UInt8) := (splitB 32 l).filter fun p => !p.isEmpty

theorem add_zero_sw (g j : Nat) : Addr.add ⟨g, 0, none⟩ j = ⟨g, j, none⟩ := by
  unfold Addr.add; split <;> simp_all

theorem row_cell {B : Nat} {w : World} {xs : List ByteArray} {g cap : Nat} (h : w.ownsRow B 9 1 (.slice (some ⟨g, 0, none⟩) xs.length cap) xs.length (strCells xs)) (j : Nat) {x : ByteArray} (hj : xs[j]? = some x) : w.cell? ⟨g, j, none⟩ = some (.string x) := by
  have := h.cells (g := g) rfl j (.string x) (by unfold strCells; rw [List.getElem?_map, hj]; rfl)
  rwa [add_zero_sw] at this

theorem filter_more {xs : List ByteArray} {k : Nat} (h : k < xs.length) {q : List UInt8 → Bool} : ((xs.take (k + 1)).map (·.data.toList)).filter q = ((xs.take k).map (·.data.toList)).filter q ++ (if q (xs[k]'h).data.toList then [(xs[k]'h).data.toList] else []) := by
  rw [← List.take_append_getElem h, List.map_append, List.filter_append]
  cases hq : q (xs[k]'h).data.toList <;> simp [hq]

end Go.Proofs.YtjijabfamjhdjaaDoor
