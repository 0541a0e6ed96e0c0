/- Contracts: how many elements two lists have in common at the beginning. -/
import Derived.Test.YtjijabfamjhdjaaDoorLi
import Derived.Test.YtjijabfamjhdjaaDoorTm
namespace Go.Proofs.YtjijabfamjhdjaaDoor
open Go.RowKit

end Go.Proofs.YtjijabfamjhdjaaDoor
