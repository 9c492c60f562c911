/- Contracts of the functions on slices of nodes: copied, compared, counted. -/
import Derived.Test.YtebnpddgbmckcaaNodeA
import Derived.Test.YtebnpddgbmckcaaNodeM
namespace Go.Proofs.Ytebnpddgbmckcaa
open Go.RowKit

end Go.Proofs.Ytebnpddgbmckcaa
