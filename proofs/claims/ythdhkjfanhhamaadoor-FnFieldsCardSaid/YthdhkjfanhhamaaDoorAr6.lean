/- Contracts: floor and neighbours, as the program and the model tell them. -/
import Derived.Test.YthdhkjfanhhamaaDoorAr5
namespace Go.Proofs.YthdhkjfanhhamaaDoor
open Go.RowKit

/-- The floor of a fraction, and a code. -/
def floorT (n d : Int) : Int × Int := if okF n d then (n / d, 0) else (0, 1)

/-- Are two fractions neighbours? -/
def nbB (n d m f : Int) : Bool := okF n d && okF m f && (n * f - m * d == 1 || n * f - m * d == -1)

end Go.Proofs.YthdhkjfanhhamaaDoor
