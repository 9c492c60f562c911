/- Contracts of the functions on slices of nodes: copied, compared, counted. -/
import Derived.Test.YtjkieedomljelaaNodeA
import Derived.Test.YtjkieedomljelaaNodeM
namespace Go.Proofs.Ytjkieedomljelaa
open Go.RowKit

end Go.Proofs.Ytjkieedomljelaa
