/- Contracts: how many elements two lists have in common at the beginning. -/
import Derived.Test.YtipegemhcmfnmaaDoorLi
import Derived.Test.YtipegemhcmfnmaaDoorTm
namespace Go.Proofs.YtipegemhcmfnmaaDoor
open Go.RowKit

end Go.Proofs.YtipegemhcmfnmaaDoor
