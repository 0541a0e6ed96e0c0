/- Contract: the model's fraction in lowest terms, with a code. -/
import Derived.Test.YtjijabfamjhdjaaDoorLow
namespace Go.Proofs.YtjijabfamjhdjaaDoor
open Go.RowKit

theorem below_someAt {B : Nat} {w w' : World} (h : Below B w w') {b o : Nat} (hb : b < B) (hs : (w.cell? ⟨b, o, none⟩).isSome = true) : (w'.cell? ⟨b, o, none⟩).isSome = true := by
  rw [h.cell (p := ⟨b, o, none⟩) hb]; exact hs

theorem below_set {B : Nat} {a w : World} (h : Below B a w) {b o : Nat} (hb : B ≤ b) (u : Value) : Below B a (w.setCell ⟨b, o, none⟩ u) := h.setCell (p := ⟨b, o, none⟩) hb u

theorem lowN_negneg {n d : Int} (h : d < 0) : lowN (-n) (-d) = lowN n d := by
  rw [← lowN_neg n d h, ← lowN_pos (-n) (-d) (by omega), gc_neg_left, gc_neg_right]
theorem lowD_negneg {n d : Int} (h : d < 0) : lowD (-n) (-d) = lowD n d := by
  rw [← lowD_neg n d h, ← lowD_pos (-n) (-d) (by omega), gc_neg_left, gc_neg_right]

end Go.Proofs.YtjijabfamjhdjaaDoor
