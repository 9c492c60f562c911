/- Contracts: marks in nodes are read again; marks in pipes. -/
import Derived.Test.YtjkieedomljelaaOwn
namespace Go.Proofs.Ytjkieedomljelaa
open Go.RowKit

end Go.Proofs.Ytjkieedomljelaa
