/- Contracts of the functions on slices of nodes: copied, compared, counted. -/
import Derived.Test.YtkkgpddpplokfaaNodeA
import Derived.Test.YtkkgpddpplokfaaNodeM
namespace Go.Proofs.Ytkkgpddpplokfaa
open Go.RowKit

end Go.Proofs.Ytkkgpddpplokfaa
