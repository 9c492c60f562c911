/- Boxes that hold pipes made by calls, through calls and through marks. -/
import Derived.Test.YtkjhncohanfciaaHeld
import Derived.Test.YtkjhncohanfciaaPost
namespace Go.Proofs.Ytkjhncohanfciaa
open Go.RowKit

/-- The box bx holds a pipe, whose nodes l lie in memory of its own, from block base on and before the box. -/
structure PB (w : World) (bx base : Nat) (A : Option Addr) (c : Nat) (l : List Nd) : Prop where
  box : Bk w bx 32 [.slice A l.length c]
  own : OwnN w base A c l
  lt : ∀ g, rowOf A = some g → g < bx

/-- The box b0 holds a pipe, whose nodes l lie before it. -/
structure AB (w : World) (b0 : Nat) (A : Option Addr) (c : Nat) (l : List Nd) : Prop where
  box : Bk w b0 24 [.slice A l.length c]
  rd : RdN w b0 A l

section
variable {w w' : World} {bx base c b0 : Nat} {A : Option Addr} {l : List Nd}
theorem PB.below {C : Nat} (h : PB w bx base A c l) (hb : Below C w w') (hC : w.heap.size ≤ C) : PB w' bx base A c l := ⟨h.box.below hb (by have := h.box.lt; omega), h.own.below hb hC, h.lt⟩
theorem PB.drewN (h : PB w bx base A c l) (n : Nat) : PB (w.drewN n) bx base A c l := ⟨h.box.drewN n, h.own.drewN n, h.lt⟩
theorem PB.cell (h : PB w bx base A c l) : w.cell? ⟨bx, 0, none⟩ = some (.slice A l.length c) := h.box.cell 0
theorem AB.below {C : Nat} (h : AB w b0 A c l) (hb : Below C w w') (hC : b0 < C) : AB w' b0 A c l := ⟨h.box.below hb hC, h.rd.below hb (by omega)⟩
theorem AB.drewN (h : AB w b0 A c l) (n : Nat) : AB (w.drewN n) b0 A c l := ⟨h.box.drewN n, h.rd.drewN n⟩
theorem AB.cell (h : AB w b0 A c l) : w.cell? ⟨b0, 0, none⟩ = some (.slice A l.length c) := h.box.cell 0
variable {bx2 base2 c2 : Nat} {A2 : Option Addr} {l2 : List Nd}
theorem PB.mark_left (h : PB w bx base A c l) (k : PB w bx2 base2 A2 c2 l2) (hlt : bx < base2) (hg : w.grownBy w' (rowOf A2)) : PB w' bx base A c l := by
  refine ⟨h.box.grown hg fun e => ?_, h.own.grown hg ?_, h.lt⟩
  · have := (k.own.row_lt _ e.symm).1; omega
  · cases hA : rowOf A with
    | none => exact .inl rfl
    | some g =>
      refine .inr fun e => ?_
      have := (k.own.row_lt _ e.symm).1
      have := h.lt g hA
      omega
theorem PB.mark_right (h : PB w bx base A c l) (k : PB w bx2 base2 A2 c2 l2) (hlt : bx2 ≤ base) (hle : base ≤ bx) (hg : w.grownBy w' (rowOf A2)) : PB w' bx base A c l := by
  refine ⟨h.box.grown hg fun e => ?_, h.own.grown hg ?_, h.lt⟩
  · have := k.lt _ e.symm; omega
  · cases hA : rowOf A with
    | none => exact .inl rfl
    | some g =>
      refine .inr fun e => ?_
      have := k.lt _ e.symm
      have := (h.own.row_lt g hA).1
      omega
theorem PB.mark_self {m : List Nd} (h : PB w bx base A c l) (ho : OwnN w' base A c m) (hm : m.length = l.length) (hg : w.grownBy w' (rowOf A)) : PB w' bx base A c m :=
  ⟨by rw [hm]; exact h.box.grown hg (fun e => by have := h.lt _ e.symm; omega), ho, h.lt⟩
theorem AB.mark (h : AB w b0 A c l) (k : PB w bx2 base2 A2 c2 l2) (hlt : b0 < base2) (hz : base2 ≤ w.heap.size) (hg : w.grownBy w' (rowOf A2)) : AB w' b0 A c l :=
  ⟨h.box.grown hg (fun e => by have := (k.own.row_lt _ e.symm).1; omega), h.rd.grown k.own (by omega) hz hg⟩
/-- A call's own result, boxed. -/
theorem PB.new (h : OwnN w base A c l) : PB (w.alloc (.cells #[.slice A l.length c] 32)) w.heap.size base A c l :=
  ⟨Bk.new w _ [_], h.below ((Below.refl _ _).alloc (Nat.le_refl _) _) (Nat.le_refl _), fun g hg => (h.row_lt g hg).2⟩
end

end Go.Proofs.Ytkjhncohanfciaa
