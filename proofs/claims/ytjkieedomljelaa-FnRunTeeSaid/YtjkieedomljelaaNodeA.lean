/- Contracts of the functions on one node. -/
import Derived.Test.YtjkieedomljelaaSrcA
import Derived.Deep.QuietTactic
import Derived.BigQuiet
namespace Go.Proofs.Ytjkieedomljelaa
open Go.RowKit

end Go.Proofs.Ytjkieedomljelaa
