/- Contracts: how many elements two lists have in common at the beginning. -/
import Derived.Test.YtbbgkflkabkoeaaDoorLi
import Derived.Test.YtbbgkflkabkoeaaDoorTm
namespace Go.Proofs.YtbbgkflkabkoeaaDoor
open Go.RowKit

end Go.Proofs.YtbbgkflkabkoeaaDoor
