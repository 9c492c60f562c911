/- Contracts: numbers of the call's own are sorted, and equal neighbours left out. -/
import Derived.Test.YtjfdbcbmpgnahaaIntA
import Derived.Test.YtjfdbcbmpgnahaaShelf
import Derived.Lib.RowBridge
import Derived.Sort.Grow
namespace Go.Proofs.Ytjfdbcbmpgnahaa
open Go.RowKit Go.Sort

/-- The slice at A holds the numbers l from the beginning of a block of the call's own, with room for c. -/
def RowJ (w : World) (base : Nat) (A : Option Addr) (c : Nat) (l : List Int) : Prop :=
  ∃ g cs, A = some ⟨g, 0, none⟩ ∧ base ≤ g ∧ Bk w g 3 cs ∧ l.length ≤ c ∧ ∀ (k : Nat) (x : Int), l[k]? = some x → cs[k]? = some (.int .i64 x)
theorem OwnJ.rowJ {w : World} {base c : Nat} {A : Option Addr} {l : List Int} (h : OwnJ w base A c l) (hl : 0 < l.length) : RowJ w base A c l := by
  obtain ⟨g, cs, e, h1, h2, h3, h4⟩ := h.bk hl
  exact ⟨g, cs, e, h1, h2, h3, h4⟩
theorem RowJ.ownI {w : World} {base c : Nat} {A : Option Addr} {l : List Int} (h : RowJ w base A c l) : OwnI w base w.heap.size A l := fun _ => by
  obtain ⟨g, cs, e, hb, hbk, _, hc⟩ := h
  exact ⟨g, 0, cs, e, hb, hbk.lt, hbk, fun k x hx => by rw [Nat.zero_add]; exact hc k x hx⟩
theorem RowJ.row {w : World} {base c : Nat} {A : Option Addr} {l : List Int} (h : RowJ w base A c l) : ∀ g, rowOf A = some g → base ≤ g := fun g hg => by
  obtain ⟨g', cs, e, hb, _⟩ := h
  subst e
  have : g' = g := Option.some.inj hg
  omega
theorem RowJ.holds {w : World} {g : Nat} {cs : List Value} {l : List Int} (hb : Bk w g 3 cs) (hc : ∀ (k : Nat) (x : Int), l[k]? = some x → cs[k]? = some (.int .i64 x)) : Holds (Value.int .i64) w g 0 l.toArray := fun j hj => by
  have hj' : j < l.length := by simpa using hj
  rw [Nat.zero_add]
  refine ⟨?_, hb.free j⟩
  rw [hb.cell, hc j l[j] (List.getElem?_eq_getElem hj')]
  simp [hj']

/-- The row after numbers were written over its first ones. -/
theorem put_row {w : World} {g : Nat} {cs : List Value} (hb : Bk w g 3 cs) (d : List Int) (hd : d.length ≤ cs.length) (n : Nat) (os : Array Obj) :
    (∃ cs', Bk (grow (putRow (Value.int .i64) (Go.Sort.ahead w n) g 0 d.toArray) os) g 3 cs' ∧ ∀ (k : Nat) (x : Int), d[k]? = some x → cs'[k]? = some (.int .i64 x)) ∧ w.grownBy (grow (putRow (Value.int .i64) (Go.Sort.ahead w n) g 0 d.toArray) os) (some g) := by
  have hlt := hb.lt
  have hh : w.heap[g]? = some (.cells cs.toArray 3 (0, 0)) := hb
  refine ⟨⟨(putCells (Value.int .i64) 0 d.toArray cs.toArray).toList, ?_, fun k x hx => ?_⟩, ⟨rfl, rfl, rfl, ?_, fun k hk hne => ?_⟩⟩
  · unfold Bk grow putRow mapBlock Go.Sort.ahead
    simp only
    rw [Array.getElem?_append_left (by simpa using hlt), Array.getElem?_modify, if_pos rfl, hh]
    simp [onCells]
  · have hk : k < d.length := (List.getElem?_eq_some_iff.1 hx).1
    simp only [putCells]
    rw [Array.getElem?_toList, Array.getElem?_mapIdx]
    have hk2 : k < cs.toArray.size := by simp; omega
    rw [Array.getElem?_eq_getElem hk2]
    simp only [Option.map_some]
    rw [if_pos (by simp; omega)]
    have : d[k] = x := (List.getElem?_eq_some_iff.1 hx).2
    simp [hk, this]
  · simp [grow, putRow, mapBlock, Go.Sort.ahead]
  · unfold grow putRow mapBlock Go.Sort.ahead
    simp only
    rw [Array.getElem?_append_left (by simpa using hk), Array.getElem?_modify, if_neg (fun e => hne (by rw [e]))]

theorem sort_any (A : Option Addr) (c : Nat) (l : List Int) (w : World) (base : Nat) (h : RowJ w base A c l) (hl : 0 < l.length) (hn : l.length ≤ 1048576) :
    Calls Try.prog 69 #[.slice A l.length c] w fun e w' => e = .returned (.tuple #[]) ∧ RowJ w' base A c (l.mergeSort fun x y => decide (x ≤ y)) ∧ w.grownBy w' (rowOf A) := by
  obtain ⟨g, cs, rfl, hb, hbk, hcap, hc⟩ := h
  have hlen : (l.mergeSort fun x y => decide (x ≤ y)).length = l.length := List.length_mergeSort l
  have hcs : l.length ≤ cs.length := by
    have := (List.getElem?_eq_some_iff.1 (hc (l.length - 1) _ (List.getElem?_eq_getElem (by omega)))).1
    omega
  refine (Try.slices_Sort_int g 0 c l w (RowJ.holds hbk hc) hbk.lt (by omega)).mono ?_
  rintro e w' ⟨he, n, os, rfl⟩
  obtain ⟨⟨cs', hb', hc'⟩, hg⟩ := put_row hbk (l.mergeSort fun x y => decide (x ≤ y)) (by omega) n os
  exact ⟨he, ⟨g, cs', rfl, hb, hb', by omega, hc'⟩, hg⟩

theorem compact_any (A : Option Addr) (c : Nat) (l : List Int) (w : World) (base : Nat) (h : RowJ w base A c l) (hl : 0 < l.length) (hn : l.length ≤ 1048576) :
    Calls Try.prog 70 #[.slice A l.length c] w fun e w' => e = .returned (.slice A (Lib.compact l).length c) ∧ RowJ w' base A c (Lib.compact l) ∧ w.grownBy w' (rowOf A) := by
  obtain ⟨g, cs, rfl, hb, hbk, hcap, hc⟩ := h
  have hcl := Lib.compact_length_le l
  have hcs : l.length ≤ cs.length := by
    have := (List.getElem?_eq_some_iff.1 (hc (l.length - 1) _ (List.getElem?_eq_getElem (by omega)))).1
    omega
  refine (Try.slices_Compact_int g 0 c l w (RowJ.holds hbk hc) (by omega) hcap).mono ?_
  rintro e w' ⟨he, n, rfl⟩
  obtain ⟨⟨cs', hb', hc'⟩, hg⟩ := put_row hbk (Lib.compact l ++ List.replicate (l.length - (Lib.compact l).length) 0) (by simp; omega) n #[]
  rw [grow_empty] at hb' hg
  exact ⟨he, ⟨g, cs', rfl, hb, hb', by omega, fun k x hx => hc' k x (by rw [List.getElem?_append_left (List.getElem?_eq_some_iff.1 hx).1]; exact hx)⟩, hg⟩

end Go.Proofs.Ytjfdbcbmpgnahaa
