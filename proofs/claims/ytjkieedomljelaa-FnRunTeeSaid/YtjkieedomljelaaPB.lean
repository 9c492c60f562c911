/- Boxes that hold pipes made by calls, through calls and through marks. -/
import Derived.Test.YtjkieedomljelaaHeld
import Derived.Test.YtjkieedomljelaaPost
namespace Go.Proofs.Ytjkieedomljelaa
open Go.RowKit

section
variable {w w' : World} {bx base c b0 : Nat} {A : Option Addr} {l : List Nd}
variable {bx2 base2 c2 : Nat} {A2 : Option Addr} {l2 : List Nd}
end

end Go.Proofs.Ytjkieedomljelaa
