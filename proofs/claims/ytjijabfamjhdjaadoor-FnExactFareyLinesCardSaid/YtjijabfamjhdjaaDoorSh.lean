/- Contracts: terms are copied, and brought into short form. -/
import Derived.Test.YtjijabfamjhdjaaDoorVt
import Derived.Lib.SliceRun
namespace Go.Proofs.YtjijabfamjhdjaaDoor
open Go.RowKit

theorem own_more {B : Nat} {w : World} {v : Value} {n : Nat} {cs : List Value} {xs : List Int} (h : w.ownsRow B 2 1 v n cs) (hn : n = xs.length) (hc : cs = intCells xs) (h0 : 0 < xs.length) : ∃ g c, v = .slice (some ⟨g, 0, none⟩) xs.length c ∧ Own B w g c xs := by
  subst hn hc
  obtain ⟨g, cap, rfl, hg, _⟩ := h.form h0
  exact ⟨g, cap, rfl, hg, h⟩
theorem int_cells_one (xs : List Int) : ∀ u ∈ intCells xs, u.oneCell' = true := by
  intro u hu
  obtain ⟨x, _, rfl⟩ := List.mem_map.1 hu
  rfl
theorem lit_none (w : World) (B : Nat) (hB : B ≤ w.heap.size) : (w.alloc (.cells #[] 2)).ownsRow B 2 1 (.slice (some ⟨w.heap.size, 0, none⟩) 0 0) 0 (intCells []) := World.ownsRow_lit w #[] 0 hB (by decide) rfl

end Go.Proofs.YtjijabfamjhdjaaDoor
