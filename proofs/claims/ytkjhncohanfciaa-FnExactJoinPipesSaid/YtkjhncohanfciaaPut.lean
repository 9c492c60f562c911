/- Contracts: a node put on a pipe, told by the reference and by the program. -/
import Derived.Test.YtkjhncohanfciaaOrd
import Derived.Test.YtkjhncohanfciaaClone
import Derived.Deep.RegionHeld3
import Derived.Deep.AppendLies
namespace Go.Proofs.Ytkjhncohanfciaa
open Go.RowKit

/-- Whether the node can be put on the pipe. -/
def putOk (l : List Nd) (x : Nd) : Bool := pipeOk l && ((arity x.k == 1) && (numsOk x && !(l.length == 12)))

/-- A node put on a pipe. -/
structure PutOf (l : List Nd) (x : Nd) (q : List Nd) (ok : Bool) : Prop where
  no : putOk l x = false → q = [] ∧ ok = false
  yes : putOk l x = true → q = l ++ [⟨x.k, (l.length : Int) - 1, -1, x.n, x.m⟩] ∧ ok = true

theorem known_of {k : Int} (h : (arity k == 1) = true) : known k = true := by
  rcases kinds k with (rfl | rfl | rfl | rfl | rfl | rfl | rfl | rfl | rfl | rfl | rfl | rfl | rfl | rfl) | ⟨e0, e1, e2, e3, e4, e5, e6, e7, e8, e9, e10, e11, e12, e13⟩
  all_goals first | rfl | exact absurd h (by decide) | (simp only [arity, e0, e1, e2, e3, e4, e5, e6, e7, e8, e9, e10, e11, e12, e13] at h; exact absurd h (by decide))

theorem Bk.drew_ {w : World} {g : Nat} {t : TypeId} {cs : List Value} (h : Bk w g t cs) : Bk w.drew g t cs := h

theorem arity_vals (k : Int) : arity k = 1 ∨ arity k = 0 ∨ arity k = 2 ∨ arity k = -1 := by
  unfold arity
  split
  · simp
  · split
    · simp
    · split <;> simp

end Go.Proofs.Ytkjhncohanfciaa
