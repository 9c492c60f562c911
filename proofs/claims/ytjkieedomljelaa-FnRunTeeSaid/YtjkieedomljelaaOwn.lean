/- Slices of nodes that the call itself made; the functions that write marks into them and read the marks again. -/
import Derived.Test.YtjkieedomljelaaNodeB
import Derived.Laws.OwnMore
import Derived.Laws.AppendOwn
namespace Go.Proofs.Ytjkieedomljelaa
open Go.RowKit

/-- The block of a slice. -/
def rowOf (A : Option Addr) : Option Nat := A.map (·.block)
theorem ownBlock_slice (A : Option Addr) (n c : Nat) : (Value.slice A n c).ownBlock = rowOf A := by cases A <;> rfl

section
variable {w w' : World} {base c : Nat} {A : Option Addr} {l : List Nd}
end

/-- n marked nodes, the first number of which is k. -/
def mkN (n : Nat) (k : Int) : List Nd := (List.range n).map fun i : Nat => ⟨k + 5 * i, k + 5 * i + 1, k + 5 * i + 2, k + 5 * i + 3, k + 5 * i + 4⟩
theorem mkN_len (n : Nat) (k : Int) : (mkN n k).length = n := by simp [mkN]
theorem mkN_get {n : Nat} {k : Int} {i : Nat} (h : i < n) : (mkN n k)[i]? = some ⟨k + 5 * i, k + 5 * i + 1, k + 5 * i + 2, k + 5 * i + 3, k + 5 * i + 4⟩ := by simp [mkN, h]
theorem mkN_succ (n : Nat) (k : Int) : mkN (n + 1) k = mkN n k ++ [⟨k + 5 * n, k + 5 * n + 1, k + 5 * n + 2, k + 5 * n + 3, k + 5 * n + 4⟩] := by simp [mkN, List.range_succ]
theorem mark_step {l : List Nd} {k : Int} {j : Nat} (hj : j < l.length) : (mkN j k ++ l.drop j).set j ⟨k + 5 * j, k + 5 * j + 1, k + 5 * j + 2, k + 5 * j + 3, k + 5 * j + 4⟩ = mkN (j + 1) k ++ l.drop (j + 1) := by
  rw [List.set_append_right _ _ (by rw [mkN_len]; omega), mkN_len, Nat.sub_self, mkN_succ]
  cases h : l.drop j with
  | nil => have := congrArg List.length h; simp at this; omega
  | cons x r =>
    have : l.drop (j + 1) = r := by rw [← List.drop_drop, h]; rfl
    rw [this]
    simp

theorem grown_one {a w : World} {g : Nat} (h : a.grownBy w (some g)) (i : Nat) (u : Value) : a.grownBy (w.setCell ⟨g, i, none⟩ u) (some g) :=
  ⟨h.os, h.tape, h.output, by simpa [World.setCell] using h.size, fun j hj hne => (Below.heap_setCell w ⟨g, i, none⟩ u j (by rintro rfl; exact hne rfl)).trans (h.block j hj hne)⟩

end Go.Proofs.Ytjkieedomljelaa
