/- Boxes that hold pipes made by calls, told by an interval of blocks; through calls and through marks. -/
import Derived.Test.YtjkieedomljelaaPB
namespace Go.Proofs.Ytjkieedomljelaa
open Go.RowKit

section
variable {w w' : World} {bx lo hi c : Nat} {A : Option Addr} {l : List Nd}
variable {bx2 lo2 hi2 c2 : Nat} {A2 : Option Addr} {l2 : List Nd}
end

end Go.Proofs.Ytjkieedomljelaa
