/- Contracts: marks in nodes are read again; marks in pipes. -/
import Derived.Test.YtkkgpddpplokfaaOwn
namespace Go.Proofs.Ytkkgpddpplokfaa
open Go.RowKit

end Go.Proofs.Ytkkgpddpplokfaa
