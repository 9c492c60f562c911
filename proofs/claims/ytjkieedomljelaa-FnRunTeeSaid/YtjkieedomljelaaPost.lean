/- Contracts: the nodes of a tree, in order, behind others (the reference). -/
import Derived.Test.YtjkieedomljelaaAppN
import Derived.Test.YtjkieedomljelaaTree
import Derived.Deep.DeepMust
namespace Go.Proofs.Ytjkieedomljelaa
open Go.RowKit

/-- How many nodes a tree has. -/
def T.size : T → Nat
  | .leaf _ => 1
  | .stem _ t => t.size + 1
  | .fork _ a b => a.size + b.size + 1
/-- The nodes of a tree in order, when n are ahead of them. -/
def T.put : T → Nat → List Nd
  | .leaf x, _ => [x]
  | .stem x t, n => t.put n ++ [⟨x.k, (n : Int) + (t.size : Int) - 1, x.b, x.n, x.m⟩]
  | .fork x a b, n => a.put n ++ b.put (n + a.size) ++ [⟨x.k, (n : Int) + (a.size : Int) - 1, (n : Int) + (a.size : Int) + (b.size : Int) - 1, x.n, x.m⟩]
theorem T.put_len (t : T) : ∀ n, (t.put n).length = t.size := by
  induction t with
  | leaf => intro n; rfl
  | stem x t ih => intro n; simp [T.put, T.size, ih]
  | fork x a b iha ihb => intro n; simp [T.put, T.size, iha, ihb]; omega
theorem T.size_pos (t : T) : 1 ≤ t.size := by cases t <;> simp [T.size]

theorem grown_of {a b c : World} {row row2 : Option Nat} (h : a.grownBy b row) (k : b.grownBy c row2) (hr : row2 = row ∨ ∃ g, row2 = some g ∧ a.heap.size ≤ g) : a.grownBy c row :=
  ⟨k.os.trans h.os, k.tape.trans h.tape, k.output.trans h.output, Nat.le_trans h.size k.size, fun j hj hne => (k.block j (Nat.lt_of_lt_of_le hj h.size) (by
    rcases hr with rfl | ⟨g, rfl, hg⟩
    · exact hne
    · intro e; have := Option.some.inj e; omega)).trans (h.block j hj hne)⟩
theorem grown_below {a b : World} (h : Below a.heap.size a b) (row : Option Nat) : a.grownBy b row := ⟨h.os, h.tape, h.output, h.size, fun j hj _ => h.block j hj⟩

theorem at_trans {w W : World} {A A1 A2 : Option Addr} (hz : w.heap.size ≤ W.heap.size) (h : rowOf A1 = rowOf A ∨ ∃ g, rowOf A1 = some g ∧ w.heap.size ≤ g) (k : rowOf A2 = rowOf A1 ∨ ∃ g, rowOf A2 = some g ∧ W.heap.size ≤ g) : rowOf A2 = rowOf A ∨ ∃ g, rowOf A2 = some g ∧ w.heap.size ≤ g := by
  rcases k with e | ⟨g, e, hg⟩
  · rw [e]; exact h
  · exact .inr ⟨g, e, by omega⟩
theorem at_more {w W : World} {A A1 : Option Addr} (hz : w.heap.size ≤ W.heap.size) (h : rowOf A1 = rowOf A ∨ ∃ g, rowOf A1 = some g ∧ W.heap.size ≤ g) : rowOf A1 = rowOf A ∨ ∃ g, rowOf A1 = some g ∧ w.heap.size ≤ g := at_trans hz (.inl rfl) h
theorem Bk.grown {w w' : World} {g : Nat} {t : TypeId} {cs : List Value} {row : Option Nat} (h : Bk w g t cs) (hg : w.grownBy w' row) (hne : some g ≠ row) : Bk w' g t cs := (hg.block g h.lt hne).trans h

theorem ret_slice {A : Option Addr} {n m c : Nat} (h : n = m) : Ending.returned (.slice A n c) = .returned (.slice A m c) := by rw [h]

end Go.Proofs.Ytjkieedomljelaa
