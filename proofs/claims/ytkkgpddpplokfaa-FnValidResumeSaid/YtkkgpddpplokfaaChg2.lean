/- More of what a world keeps. -/
import Derived.Test.YtkkgpddpplokfaaHld
namespace Go.Proofs.Ytkkgpddpplokfaa
open Go.RowKit
theorem Chg.setNew2 {lo hi b : Nat} {a w : World} (h : Chg lo hi a w) (hb : a.heap.size ≤ b) (i : Nat) (u : Value) : Chg lo hi a (w.setCell ⟨b, i, none⟩ u) :=
  ⟨h.os, h.tape, h.output, by simpa [World.setCell] using h.size, fun j hj ho => (Below.heap_setCell w _ u j (by show j ≠ b; omega)).trans (h.block j hj ho)⟩
end Go.Proofs.Ytkkgpddpplokfaa
