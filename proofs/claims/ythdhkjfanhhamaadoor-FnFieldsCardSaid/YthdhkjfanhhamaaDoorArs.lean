/- Contracts: the arithmetic of two fractions, as the model computes it. -/
import Derived.Test.YthdhkjfanhhamaaDoorAri
namespace Go.Proofs.YthdhkjfanhhamaaDoor
open Go.RowKit

end Go.Proofs.YthdhkjfanhhamaaDoor
