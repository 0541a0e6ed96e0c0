/- Contracts: order, floor and neighbours, as the program and the model tell them. -/
import Derived.Test.YtipegemhcmfnmaaDoorAri
import Derived.Deep.RegionHeld3
namespace Go.Proofs.YtipegemhcmfnmaaDoor
open Go.RowKit

theorem alloc2 (w : World) (a b : Obj) : Below w.heap.size w ((w.alloc a).alloc b) :=
  ((Below.refl _ _).alloc (Nat.le_refl _) _).alloc (by simp) _

def sgn (x : Int) : Int := if x < 0 then -1 else if x = 0 then 0 else 1
/-- The order of two fractions, and a code. -/
def cmpT (n d m f : Int) : Int × Int := if okF n d && okF m f then (sgn (n * f - m * d), 0) else (0, 1)

end Go.Proofs.YtipegemhcmfnmaaDoor
