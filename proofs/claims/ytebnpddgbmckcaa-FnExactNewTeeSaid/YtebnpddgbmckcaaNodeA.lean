/- Contracts of the functions on one node. -/
import Derived.Test.YtebnpddgbmckcaaSrcA
import Derived.Deep.QuietTactic
import Derived.BigQuiet
namespace Go.Proofs.Ytebnpddgbmckcaa
open Go.RowKit

end Go.Proofs.Ytebnpddgbmckcaa
