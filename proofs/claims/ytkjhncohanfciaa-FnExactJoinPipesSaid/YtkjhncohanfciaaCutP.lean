/- What a statement leaves that keeps a pipe and a yes or no in variables, in whatever order it does so. -/
import Derived.Test.YtkjhncohanfciaaHld
namespace Go.Proofs.Ytkjhncohanfciaa
open Go.RowKit

/-- The box bx holds a pipe made since the world a. -/
structure CutP (a w : World) (bx : Nat) (A : Option Addr) (c : Nat) (q : List Nd) : Prop where
  box : Bk w bx 32 [.slice A q.length c]
  own : OwnN w a.heap.size A c q
  lo : a.heap.size ≤ bx
  bel : Below a.heap.size a w
  ne : ∀ g, rowOf A = some g → g ≠ bx

section
variable {a w : World} {bx b c : Nat} {A : Option Addr} {q : List Nd}
theorem CutP.new (hb : Below a.heap.size a w) (ho : OwnN w b A c q) (h1 : a.heap.size ≤ b) : CutP a (w.alloc (.cells #[.slice A q.length c] 32)) w.heap.size A c q :=
  ⟨Bk.new w _ [_], (ho.below ((Below.refl _ _).alloc (Nat.le_refl _) _) (Nat.le_refl _)).base_ h1, hb.size, hb.alloc hb.size _, fun g hg => by have := (ho.row_lt g hg).2; omega⟩
theorem CutP.set (hb : Below a.heap.size a w) (ho : OwnN w b A c q) (hx : Bk w bx 32 [.slice none 0 0]) (h1 : a.heap.size ≤ b) (h2 : a.heap.size ≤ bx) (hne : ∀ g, rowOf A = some g → g ≠ bx) :
    CutP a (w.setCell ⟨bx, 0, none⟩ (.slice A q.length c)) bx A c q :=
  ⟨hx.set_ 0 _, (ho.grown (grown_one (World.grownBy.refl w (some bx)) 0 _) (by
    cases hA : rowOf A with
    | none => exact .inl rfl
    | some g => exact .inr fun e => hne g hA (Option.some.inj e))).base_ h1, h2, hb.setCell (p := ⟨bx, 0, none⟩) h2 _, hne⟩
end

end Go.Proofs.Ytkjhncohanfciaa
