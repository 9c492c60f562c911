/- Contracts: slices of nodes, and pipes, compared. -/
import Derived.Test.YtkkgpddpplokfaaNodeB
import Derived.Deep.RegionWith
namespace Go.Proofs.Ytkkgpddpplokfaa
open Go.RowKit

end Go.Proofs.Ytkkgpddpplokfaa
