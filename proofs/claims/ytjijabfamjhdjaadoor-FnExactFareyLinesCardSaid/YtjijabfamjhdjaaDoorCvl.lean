/- Contract: all convergents, as the model tells them. -/
import Derived.Test.YtjijabfamjhdjaaDoorCvs
import Derived.Deep.RegionHeld3
namespace Go.Proofs.YtjijabfamjhdjaaDoor
open Go.RowKit

def convV (o : Option (List (Int × Int))) : Bool × List (Int × Int) := match o with | some l => (true, l) | none => (false, [])
theorem frow_other {B b : Nat} {w : World} {v : Value} {n : Nat} {xs : List Value} {cs : Array Value} {t : TypeId} {z : Nat × Nat} (h : w.ownsRow B 32 2 v n xs) (hb : w.heap[b]? = some (.cells cs t z)) (ht : t ≠ 32) : some b ≠ v.ownBlock := by
  rcases h.2 with ⟨rfl, h0⟩ | ⟨g, cap, cur, rfl, hB, hg, hr⟩
  · simp [Value.ownBlock]
  · intro e
    have e : b = g := by simpa [Value.ownBlock] using e
    subst e
    rw [hg] at hb
    injection hb with hb
    injection hb with _ h2 _
    exact ht h2.symm
theorem cset_grown (w : World) (b : Nat) (x y z u : Value) : w.grownBy ((((w.setCell ⟨b, 0, none⟩ x).setCell ⟨b, 1, none⟩ y).setCell ⟨b, 2, none⟩ z).setCell ⟨b, 3, none⟩ u) (some b) :=
  ⟨rfl, rfl, rfl, by simp, fun k _ hk => by
    have hne : k ≠ b := fun e => hk (by rw [e])
    rw [heap_setCell_other _ ⟨b, 3, none⟩ k u hne, heap_setCell_other _ ⟨b, 2, none⟩ k z hne, heap_setCell_other _ ⟨b, 1, none⟩ k y hne, heap_setCell_other _ ⟨b, 0, none⟩ k x hne]⟩

end Go.Proofs.YtjijabfamjhdjaaDoor
