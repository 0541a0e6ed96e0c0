/- Contracts: order, floor and neighbours, as the program and the model tell them. -/
import Derived.Test.YtjijabfamjhdjaaDoorAri
import Derived.Deep.RegionHeld3
namespace Go.Proofs.YtjijabfamjhdjaaDoor
open Go.RowKit

theorem alloc2 (w : World) (a b : Obj) : Below w.heap.size w ((w.alloc a).alloc b) :=
  ((Below.refl _ _).alloc (Nat.le_refl _) _).alloc (by simp) _

def sgn (x : Int) : Int := if x < 0 then -1 else if x = 0 then 0 else 1
/-- The order of two fractions, and a code. -/
def cmpT (n d m f : Int) : Int × Int := if okF n d && okF m f then (sgn (n * f - m * d), 0) else (0, 1)

theorem cross (n d m f : Int) (w : World) (h1 : okF n d = true) (h2 : okF m f = true) :
    Calls Tryd.prog 57 #[.agg #[.int .i64 n, .int .i64 d], .agg #[.int .i64 m, .int .i64 f]] w fun e w' => e = .returned (.int .i64 (n * f - m * d)) ∧ Below w.heap.size w w' := by
  obtain ⟨x1, x2, x3, x4⟩ := ok_bounds h1
  obtain ⟨y1, y2, y3, y4⟩ := ok_bounds h2
  have p1 := mul_bd (a := n) (b := f) (by omega) (by omega) (by omega) (by omega)
  have p2 := mul_bd (a := m) (b := d) (by omega) (by omega) (by omega) (by omega)
  clear h1 h2
  go_enter Tryd.func57, Tryd.ntmps57
  go_wp2
  go_ret
  exact ⟨rfl, alloc2 _ _ _⟩

end Go.Proofs.YtjijabfamjhdjaaDoor
