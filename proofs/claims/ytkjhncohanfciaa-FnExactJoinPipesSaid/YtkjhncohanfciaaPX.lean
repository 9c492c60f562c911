/- Boxes that hold pipes made by calls, told by an interval of blocks; through calls and through marks. -/
import Derived.Test.YtkjhncohanfciaaPB
namespace Go.Proofs.Ytkjhncohanfciaa
open Go.RowKit

/-- The box bx holds a pipe, whose nodes l lie in memory of its own; both lie in blocks from lo on and before hi. -/
structure PX (w : World) (bx lo hi : Nat) (A : Option Addr) (c : Nat) (l : List Nd) : Prop where
  box : Bk w bx 32 [.slice A l.length c]
  own : OwnN w lo A c l
  lo_ : lo ≤ bx
  hi_ : bx < hi
  top : hi ≤ w.heap.size
  lt : ∀ g, rowOf A = some g → g < hi
  ne : ∀ g, rowOf A = some g → g ≠ bx

section
variable {w w' : World} {bx lo hi c : Nat} {A : Option Addr} {l : List Nd}
theorem PX.below {C : Nat} (h : PX w bx lo hi A c l) (hb : Below C w w') (hC : w.heap.size ≤ C) : PX w' bx lo hi A c l :=
  ⟨h.box.below hb (by have := h.box.lt; omega), h.own.below hb hC, h.lo_, h.hi_, Nat.le_trans h.top hb.size, h.lt, h.ne⟩
theorem PX.drewN (h : PX w bx lo hi A c l) (n : Nat) : PX (w.drewN n) bx lo hi A c l := ⟨h.box.drewN n, h.own.drewN n, h.lo_, h.hi_, h.top, h.lt, h.ne⟩
theorem PX.cell (h : PX w bx lo hi A c l) : w.cell? ⟨bx, 0, none⟩ = some (.slice A l.length c) := h.box.cell 0
theorem PX.new {b : Nat} (h : OwnN w b A c l) (hb : lo ≤ b) (hz : lo ≤ w.heap.size) : PX (w.alloc (.cells #[.slice A l.length c] 32)) w.heap.size lo (w.heap.size + 1) A c l :=
  ⟨Bk.new w _ [_], (h.below ((Below.refl _ _).alloc (Nat.le_refl _) _) (Nat.le_refl _)).base_ hb, hz, Nat.lt_succ_self _, by simp, fun g hg => by have := (h.row_lt g hg).2; omega, fun g hg => by have := (h.row_lt g hg).2; omega⟩
theorem PX.set {b : Nat} (h : OwnN w b A c l) (hx : Bk w bx 32 [.slice none 0 0]) (hb : lo ≤ b) (h1 : lo ≤ bx) (hne : ∀ g, rowOf A = some g → g ≠ bx) : PX (w.setCell ⟨bx, 0, none⟩ (.slice A l.length c)) bx lo w.heap.size A c l :=
  ⟨hx.set_ 0 _, (h.grown (grown_one (World.grownBy.refl w (some bx)) 0 _) (by
    cases hA : rowOf A with
    | none => exact .inl rfl
    | some g => exact .inr fun e => hne g hA (Option.some.inj e))).base_ hb, h1, hx.lt, by simp [World.setCell], fun g hg => (h.row_lt g hg).2, hne⟩
theorem PX.end_set {a : World} {b : Nat} (hb0 : Below a.heap.size a w) (h : OwnN w b A c l) (hx : Bk w bx 32 [.slice none 0 0]) (hb : a.heap.size ≤ b) (h1 : a.heap.size ≤ bx) (hne : ∀ g, rowOf A = some g → g ≠ bx) :
    ∃ W : World, W = w.setCell ⟨bx, 0, none⟩ (.slice A l.length c) ∧ PX W bx a.heap.size w.heap.size A c l ∧ Below a.heap.size a W :=
  ⟨_, rfl, PX.set h hx hb h1 hne, hb0.setCell (p := ⟨bx, 0, none⟩) h1 _⟩
theorem PX.end_new {a : World} {b : Nat} (hb0 : Below a.heap.size a w) (h : OwnN w b A c l) (hb : a.heap.size ≤ b) :
    ∃ W : World, W = w.alloc (.cells #[.slice A l.length c] 32) ∧ PX W w.heap.size a.heap.size (w.heap.size + 1) A c l ∧ Below a.heap.size a W :=
  ⟨_, rfl, PX.new h hb hb0.size, hb0.alloc hb0.size _⟩
variable {bx2 lo2 hi2 c2 : Nat} {A2 : Option Addr} {l2 : List Nd}
theorem PX.row_lo (h : PX w bx lo hi A c l) : ∀ g, rowOf A = some g → lo ≤ g := fun g hg => (h.own.row_lt g hg).1
theorem PX.mark_other (h : PX w bx lo hi A c l) (k : PX w bx2 lo2 hi2 A2 c2 l2) (hd : hi ≤ lo2 ∨ hi2 ≤ lo) (hg : w.grownBy w' (rowOf A2)) : PX w' bx lo hi A c l := by
  refine ⟨h.box.grown hg fun e => ?_, h.own.grown hg ?_, h.lo_, h.hi_, Nat.le_trans h.top hg.size, h.lt, h.ne⟩
  · have h1 := k.row_lo _ e.symm
    have h2 := k.lt _ e.symm
    have h3 := h.lo_
    have h4 := h.hi_
    omega
  · cases hA : rowOf A with
    | none => exact .inl rfl
    | some g =>
      refine .inr fun e => ?_
      have h1 := k.row_lo _ e.symm
      have h2 := k.lt _ e.symm
      have h3 := h.row_lo g hA
      have h4 := h.lt g hA
      omega
theorem PX.mark_self {m : List Nd} (h : PX w bx lo hi A c l) (ho : OwnN w' lo A c m) (hm : m.length = l.length) (hg : w.grownBy w' (rowOf A)) : PX w' bx lo hi A c m :=
  ⟨by rw [hm]; exact h.box.grown hg (fun e => h.ne _ e.symm rfl), ho, h.lo_, h.hi_, Nat.le_trans h.top hg.size, h.lt, h.ne⟩
theorem AB.mark_px {b0 : Nat} (h : AB w b0 A c l) (k : PX w bx2 lo2 hi2 A2 c2 l2) (hlt : b0 < lo2) (hg : w.grownBy w' (rowOf A2)) : AB w' b0 A c l :=
  ⟨h.box.grown hg (fun e => by have := k.row_lo _ e.symm; omega), h.rd.grown k.own (by omega) (by have := k.lo_; have := k.hi_; have := k.top; omega) hg⟩
theorem Bk.mark_px {g : Nat} {t : TypeId} {cs : List Value} (h : Bk w g t cs) (k : PX w bx2 lo2 hi2 A2 c2 l2) (hlt : g < lo2) (hg : w.grownBy w' (rowOf A2)) : Bk w' g t cs :=
  h.grown hg (fun e => by have := k.row_lo _ e.symm; omega)
theorem PX.below_mark {B : Nat} {a : World} (k : PX w bx2 lo2 hi2 A2 c2 l2) (hb : Below B a w) (hB : B ≤ lo2) (hz : B ≤ w.heap.size) (hg : w.grownBy w' (rowOf A2)) : Below B a w' :=
  hb.grown hg hz (fun g h => by have := k.row_lo g h; omega)
end

end Go.Proofs.Ytkjhncohanfciaa
