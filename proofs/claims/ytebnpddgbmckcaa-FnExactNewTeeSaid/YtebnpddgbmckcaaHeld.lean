/- Contracts: marks in nodes are read again; marks in pipes. -/
import Derived.Test.YtebnpddgbmckcaaOwn
namespace Go.Proofs.Ytebnpddgbmckcaa
open Go.RowKit

end Go.Proofs.Ytebnpddgbmckcaa
