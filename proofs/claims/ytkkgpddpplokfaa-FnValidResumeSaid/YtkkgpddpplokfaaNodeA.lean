/- Contracts of the functions on one node. -/
import Derived.Test.YtkkgpddpplokfaaSrcA
import Derived.Deep.QuietTactic
import Derived.BigQuiet
namespace Go.Proofs.Ytkkgpddpplokfaa
open Go.RowKit

end Go.Proofs.Ytkkgpddpplokfaa
