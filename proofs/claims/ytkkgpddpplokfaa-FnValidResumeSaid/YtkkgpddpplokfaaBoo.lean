/- Slices of bools in memory: read, copied, compared, marked; bools appended to a slice of the call's own. -/
import Derived.Test.YtkkgpddpplokfaaHld
import Derived.Test.YtkkgpddpplokfaaIntA
import Derived.OwnWalk
namespace Go.Proofs.Ytkkgpddpplokfaa
open Go.RowKit

/-- The slice at A reads as the numbers l, below block B. -/
def RdB (w : World) (B : Nat) (A : Option Addr) (l : List Bool) : Prop :=
  0 < l.length → ∃ ad, A = some ad ∧ ad.block < B ∧ ∀ (k : Nat) (x : Bool), l[k]? = some x → w.cell? (ad.add k) = some (.bool x)

section
variable {w w' : World} {B B' : Nat} {A : Option Addr} {l : List Bool}
theorem RdB.at_ (h : RdB w B A l) {k : Nat} (hk : k < l.length) : ∃ ad x, A = some ad ∧ l[k]? = some x ∧ w.cell? (ad.add k) = some (.bool x) := by
  obtain ⟨ad, e, _, hc⟩ := h (by omega)
  obtain ⟨x, hx⟩ := get_of_lt l hk
  exact ⟨ad, x, e, hx, hc k x hx⟩
theorem RdB.keep (h : RdB w B A l) (hk : ∀ p : Addr, p.block < B → w'.cell? p = w.cell? p) : RdB w' B A l := fun hn => by
  obtain ⟨ad, e, hb, hc⟩ := h hn
  exact ⟨ad, e, hb, fun k x hx => (hk _ (by rw [add_block]; exact hb)).trans (hc k x hx)⟩
theorem RdB.more (h : RdB w B A l) (hB : B ≤ B') : RdB w B' A l := fun hn => by
  obtain ⟨ad, e, hb, hc⟩ := h hn
  exact ⟨ad, e, by omega, hc⟩
theorem RdB.below {C : Nat} (h : RdB w B A l) (hb : Below C w w') (hC : B ≤ C) : RdB w' B A l := h.keep fun _ hp => hb.cell (by omega)
theorem RdB.same (h : RdB w B A l) (s : Same w w') : RdB w' B A l := h.below (s.below B) (Nat.le_refl _)
theorem RdB.drewN (h : RdB w B A l) (n : Nat) : RdB (w.drewN n) B A l := h
end

/-- The cells of a list of numbers. -/
def bools (l : List Bool) : List Value := l.map (Value.bool)
theorem bools_get (l : List Bool) (k : Nat) : (bools l)[k]? = l[k]?.map (Value.bool) := by simp [bools]

theorem Bk.rdB {w : World} {g B : Nat} {l : List Bool} {t : TypeId} (h : Bk w g t (bools l)) (hB : g < B) : RdB w B (some ⟨g, 0, none⟩) l := fun _ => by
  refine ⟨_, rfl, hB, fun k x hx => ?_⟩
  rw [add_zero_row, h.cell, bools_get, hx]; rfl

theorem Try.infoBool : (Try.prog.info? 4).map (fun i => (i.zero, i.size, i.bytes)) = some (some (.bool false), 1, 1) := by kernel_rfl

theorem bk_madeB (w : World) (t : TypeId) (l : List Bool) (z : Value) {n : Nat} : Bk (w.alloc (.cells (madeCells #[z] n) t)) w.heap.size t (bools (l.take 0) ++ List.replicate (n - 0) z) := by
  have e : madeCells #[z] n = (List.replicate n z).toArray := by rw [← toList_madeCells_one]
  rw [e]
  have h := Bk.new w t (List.replicate n z)
  simpa [bools] using h
theorem fill_bools {w : World} {g k n : Nat} {t : TypeId} {l : List Bool} {x : Bool} (h : Bk w g t (bools (l.take k) ++ List.replicate (n - k) (.bool false))) (hx : l[k]? = some x) (hk : k < n) :
    Bk (w.setCell ⟨g, k, none⟩ (.bool x)) g t (bools (l.take (k + 1)) ++ List.replicate (n - (k + 1)) (.bool false)) := by
  have h2 := h.set_ k (.bool x)
  have hl : k < l.length := (List.getElem?_eq_some_iff.1 hx).1
  rw [fill_set _ _ _ (by simp [bools]; omega) hk] at h2
  rw [take_succ_of hx]
  simpa [bools] using h2

/-- Bools in memory of a call's own, wherever they begin in their block. -/
def OwnB (w : World) (lo hi : Nat) (A : Option Addr) (l : List Bool) : Prop :=
  0 < l.length → ∃ g o cs, A = some ⟨g, o, none⟩ ∧ lo ≤ g ∧ g < hi ∧ Bk w g 4 cs ∧ ∀ (k : Nat) (x : Bool), l[k]? = some x → cs[o + k]? = some (.bool x)

section
variable {w w' a : World} {lo hi c : Nat} {A : Option Addr} {l : List Bool}
theorem OwnB.rd (h : OwnB w lo hi A l) : RdB w hi A l := fun hn => by
  obtain ⟨g, o, cs, rfl, h1, h2, hb, hc⟩ := h hn
  refine ⟨_, rfl, h2, fun k x hx => ?_⟩
  rw [Addr.add_lit, hb.cell]
  exact hc k x hx
theorem OwnB.rdt (h : OwnB w lo hi A l) (hz : hi ≤ w.heap.size) : RdB w w.heap.size A l := h.rd.more hz
theorem OwnB.agree (h : OwnB w lo hi A l) (hag : ∀ b, lo ≤ b → b < hi → w'.heap[b]? = w.heap[b]?) : OwnB w' lo hi A l := fun hn => by
  obtain ⟨g, o, cs, rfl, h1, h2, hb, hc⟩ := h hn
  exact ⟨g, o, cs, rfl, h1, h2, (hag g h1 h2).trans hb, hc⟩
theorem OwnB.held (h : OwnB w lo hi A l) (h1 : lo ≤ hi) (h2 : hi ≤ w.heap.size) : Held w lo hi (fun v => OwnB v lo hi A l) := ⟨h1, h2, fun _ _ hag => h.agree hag⟩
theorem OwnB.wide {lo2 hi2 : Nat} (h : OwnB w lo hi A l) (h1 : lo2 ≤ lo) (h2 : hi ≤ hi2) : OwnB w lo2 hi2 A l := fun hn => by
  obtain ⟨g, o, cs, rfl, h3, h4, hb, hc⟩ := h hn
  exact ⟨g, o, cs, rfl, by omega, by omega, hb, hc⟩
theorem Bk.ownB {g : Nat} (h : Bk w g 4 (bools l)) (h1 : lo ≤ g) (h2 : g < hi) : OwnB w lo hi (some ⟨g, 0, none⟩) l := fun _ =>
  ⟨g, 0, bools l, rfl, h1, h2, h, fun k x hx => by rw [Nat.zero_add, bools_get, hx]; rfl⟩
end

/-- n marks, the first of which is told by k. -/
def mkB (n : Nat) (k : Int) : List Bool := (List.range n).map fun i : Nat => (k + i) % 3 == 0
theorem mkB_len (n : Nat) (k : Int) : (mkB n k).length = n := by simp [mkB]
theorem mkB_get {n : Nat} {k : Int} {i : Nat} (h : i < n) : (mkB n k)[i]? = some ((k + i) % 3 == 0) := by simp [mkB, h]

/-- The slice at A holds the numbers l in memory from block base on, from the beginning of its block. -/
def OwnBj (w : World) (base : Nat) (A : Option Addr) (c : Nat) (l : List Bool) : Prop := w.ownsRow base 4 1 (.slice A l.length c) l.length (bools l)

section
variable {w w' : World} {base c : Nat} {A : Option Addr} {l : List Bool}
theorem OwnBj.form (h : OwnBj w base A c l) (hl : 0 < l.length) : ∃ g, A = some ⟨g, 0, none⟩ ∧ base ≤ g ∧ g < w.heap.size := by
  obtain ⟨_, ⟨_, h0⟩ | ⟨g, cap, cur, hv, hb, hh, _⟩⟩ := h
  · omega
  · injection hv with hA
    exact ⟨g, hA, hb, lt_of_block hh⟩
theorem OwnBj.row_lt (h : OwnBj w base A c l) : ∀ g, rowOf A = some g → base ≤ g ∧ g < w.heap.size := fun g hg => by
  have := World.ownsRow.lt h g (by rw [ownBlock_slice]; exact hg)
  exact this
theorem OwnBj.grown {row : Option Nat} (h : OwnBj w base A c l) (hg : w.grownBy w' row) (hne : rowOf A = none ∨ rowOf A ≠ row) : OwnBj w' base A c l :=
  World.ownsRow.kept h hg (by rw [ownBlock_slice]; exact hne)
theorem OwnBj.below {C : Nat} (h : OwnBj w base A c l) (hb : Below C w w') (hC : w.heap.size ≤ C) : OwnBj w' base A c l :=
  h.grown (row := none) ⟨hb.os, hb.tape, hb.output, Nat.le_trans (Nat.le_refl _) hb.size, fun k hk _ => hb.block k (by omega)⟩ (by cases A <;> simp [rowOf])
theorem OwnBj.nil_ (w : World) (base : Nat) : OwnBj w base none 0 [] := World.ownsRow_nil w base _ 1
theorem OwnBj.bk (h : OwnBj w base A c l) (hl : 0 < l.length) : ∃ g cs, A = some ⟨g, 0, none⟩ ∧ base ≤ g ∧ Bk w g 4 cs ∧ l.length ≤ c ∧ ∀ (k : Nat) (x : Bool), l[k]? = some x → cs[k]? = some (.bool x) := by
  obtain ⟨h1, ⟨_, h0⟩ | ⟨g, cap, cur, hv, hb, hh, hn, _, _, ht⟩⟩ := h
  · omega
  · injection hv with hA _ hc
    subst hc
    refine ⟨g, cur.toList, hA, hb, by unfold Bk; simpa using hh, hn, fun k x hx => ?_⟩
    have hk : k < l.length := (List.getElem?_eq_some_iff.1 hx).1
    have : (cur.toList.take (l.length * 1))[k]? = some (.bool x) := by rw [ht, bools_get, hx]; rfl
    rwa [List.getElem?_take_of_lt (by omega)] at this
theorem OwnBj.ownB (h : OwnBj w base A c l) : OwnB w base w.heap.size A l := fun hl => by
  obtain ⟨g, cs, e, hb, hbk, _, hc⟩ := h.bk hl
  exact ⟨g, 0, cs, e, hb, hbk.lt, hbk, fun k x hx => by rw [Nat.zero_add]; exact hc k x hx⟩
end

theorem emptyBj (w : World) : OwnBj (w.alloc (.cells #[] 4)) w.heap.size (some ⟨w.heap.size, 0, none⟩) 0 [] :=
  ⟨rfl, .inr ⟨w.heap.size, 0, #[], rfl, Nat.le_refl _, heap_alloc_new w _, Nat.le_refl _, Nat.zero_le _, rfl, rfl⟩⟩

end Go.Proofs.Ytkkgpddpplokfaa
