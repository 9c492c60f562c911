/- Slices of nodes that the call itself made; the functions that write marks into them and read the marks again. -/
import Derived.Test.YtkjhncohanfciaaNodeB
import Derived.Laws.OwnMore
import Derived.Laws.AppendOwn
namespace Go.Proofs.Ytkjhncohanfciaa
open Go.RowKit

/-- The slice at A holds the nodes l in memory from block base on, which can be written. -/
def OwnN (w : World) (base : Nat) (A : Option Addr) (c : Nat) (l : List Nd) : Prop := w.ownsRow base 69 5 (.slice A l.length c) l.length (nds l)

/-- The block of a slice. -/
def rowOf (A : Option Addr) : Option Nat := A.map (·.block)
theorem ownBlock_slice (A : Option Addr) (n c : Nat) : (Value.slice A n c).ownBlock = rowOf A := by cases A <;> rfl

section
variable {w w' : World} {base c : Nat} {A : Option Addr} {l : List Nd}
theorem OwnN.form (h : OwnN w base A c l) (hl : 0 < l.length) : ∃ g, A = some ⟨g, 0, none⟩ ∧ base ≤ g ∧ g < w.heap.size := by
  obtain ⟨_, ⟨_, h0⟩ | ⟨g, cap, cur, hv, hb, hh, _⟩⟩ := h
  · omega
  · injection hv with hA
    exact ⟨g, hA, hb, lt_of_block hh⟩
theorem OwnN.rd (h : OwnN w base A c l) : RdN w w.heap.size A l := fun hn => by
  obtain ⟨g, rfl, _, hlt⟩ := h.form hn
  refine ⟨g, 0, rfl, hlt, fun k x hx => ?_⟩
  obtain ⟨h0, h1, h2, h3, h4⟩ := nds_at hx
  have hk : k < l.length := (List.getElem?_eq_some_iff.1 hx).1
  rw [Nat.zero_add]
  have hc : ∀ j, j < l.length * 5 → w.cell? ⟨g, j, none⟩ = (nds l)[j]? := fun j hj => World.ownsRow.cellAt h j hj
  exact ⟨(hc _ (by omega)).trans h0, (hc _ (by omega)).trans h1, (hc _ (by omega)).trans h2, (hc _ (by omega)).trans h3, (hc _ (by omega)).trans h4⟩
theorem OwnN.grown {row : Option Nat} (h : OwnN w base A c l) (hg : w.grownBy w' row) (hne : rowOf A = none ∨ rowOf A ≠ row) : OwnN w' base A c l :=
  World.ownsRow.kept h hg (by rw [ownBlock_slice]; exact hne)
theorem OwnN.below {C : Nat} (h : OwnN w base A c l) (hb : Below C w w') (hC : w.heap.size ≤ C) : OwnN w' base A c l :=
  h.grown (row := none) ⟨hb.os, hb.tape, hb.output, Nat.le_trans (Nat.le_refl _) hb.size, fun k hk _ => hb.block k (by omega)⟩ (by cases A <;> simp [rowOf])
theorem OwnN.drewN (h : OwnN w base A c l) (n : Nat) : OwnN (w.drewN n) base A c l := h
theorem OwnN.base_ {b2 : Nat} (h : OwnN w base A c l) (hb : b2 ≤ base) : OwnN w b2 A c l := by
  obtain ⟨h1, h2 | ⟨g, cap, cur, hv, hg, hh⟩⟩ := h
  · exact ⟨h1, .inl h2⟩
  · exact ⟨h1, .inr ⟨g, cap, cur, hv, by omega, hh⟩⟩
theorem Bk.own {g : Nat} (h : Bk w g 69 (nds l)) (hb : base ≤ g) (hl : l.length ≤ 1048576) : OwnN w base (some ⟨g, 0, none⟩) l.length l :=
  ⟨nds_len l, .inr ⟨g, l.length, (nds l).toArray, rfl, hb, h, Nat.le_refl _, by unfold maxLen; omega, by simp [nds_len], by simp [← nds_len]⟩⟩
end

/-- n marked nodes, the first number of which is k. -/
def mkN (n : Nat) (k : Int) : List Nd := (List.range n).map fun i : Nat => ⟨k + 5 * i, k + 5 * i + 1, k + 5 * i + 2, k + 5 * i + 3, k + 5 * i + 4⟩
theorem mkN_len (n : Nat) (k : Int) : (mkN n k).length = n := by simp [mkN]
theorem mkN_get {n : Nat} {k : Int} {i : Nat} (h : i < n) : (mkN n k)[i]? = some ⟨k + 5 * i, k + 5 * i + 1, k + 5 * i + 2, k + 5 * i + 3, k + 5 * i + 4⟩ := by simp [mkN, h]
theorem mkN_succ (n : Nat) (k : Int) : mkN (n + 1) k = mkN n k ++ [⟨k + 5 * n, k + 5 * n + 1, k + 5 * n + 2, k + 5 * n + 3, k + 5 * n + 4⟩] := by simp [mkN, List.range_succ]
theorem mark_step {l : List Nd} {k : Int} {j : Nat} (hj : j < l.length) : (mkN j k ++ l.drop j).set j ⟨k + 5 * j, k + 5 * j + 1, k + 5 * j + 2, k + 5 * j + 3, k + 5 * j + 4⟩ = mkN (j + 1) k ++ l.drop (j + 1) := by
  rw [List.set_append_right _ _ (by rw [mkN_len]; omega), mkN_len, Nat.sub_self, mkN_succ]
  cases h : l.drop j with
  | nil => have := congrArg List.length h; simp at this; omega
  | cons x r =>
    have : l.drop (j + 1) = r := by rw [← List.drop_drop, h]; rfl
    rw [this]
    simp

theorem own_set5 {w : World} {base g c n k : Nat} {l : List Nd} (h : w.ownsRow base 69 5 (.slice (some ⟨g, 0, none⟩) n c) n (nds l)) (x : Nd) (hk : k < l.length) :
    (((((w.setCell ⟨g, k * 5, none⟩ (.int .i64 x.k)).setCell ⟨g, k * 5 + 1, none⟩ (.int .i64 x.a)).setCell ⟨g, k * 5 + 2, none⟩ (.int .i64 x.b)).setCell ⟨g, k * 5 + 3, none⟩ (.int .i64 x.n)).setCell ⟨g, k * 5 + 4, none⟩ (.int .i64 x.m)).ownsRow base 69 5 (.slice (some ⟨g, 0, none⟩) n c) n (nds (l.set k x)) := by
  rw [← nds_set x hk]
  exact (((((h.stored _ _).1.stored _ _).1.stored _ _).1.stored _ _).1.stored _ _).1
theorem grown_one {a w : World} {g : Nat} (h : a.grownBy w (some g)) (i : Nat) (u : Value) : a.grownBy (w.setCell ⟨g, i, none⟩ u) (some g) :=
  ⟨h.os, h.tape, h.output, by simpa [World.setCell] using h.size, fun j hj hne => (Below.heap_setCell w ⟨g, i, none⟩ u j (by rintro rfl; exact hne rfl)).trans (h.block j hj hne)⟩

set_option maxHeartbeats 3200000 in
theorem markNodeS_any (A : Option Addr) (c : Nat) (l : List Nd) (k : Int) (w : World) (base : Nat) (h : OwnN w base A c l) (hn : l.length ≤ 1048576) (hk0 : 0 ≤ k) (hk1 : k ≤ 16777216) :
    Calls Try.prog 44 #[.slice A l.length c, .int .i64 k] w fun e w' => e = .returned (.int .i64 (k + 5 * l.length)) ∧ OwnN w' base A c (mkN l.length k) ∧ w.grownBy w' (rowOf A) := by
  by_cases hl : 0 < l.length
  · obtain ⟨g, rfl, hbg, hgl⟩ := h.form hl
    obtain ⟨n, hnl⟩ : ∃ n : Nat, n = l.length := ⟨_, rfl⟩
    have H0 : Hid (w.ownsRow base 69 5 (.slice (some ⟨g, 0, none⟩) n c) n (nds l)) := by rw [hnl]; exact h
    have Hn := Lib.hid hnl
    rw [← hnl]
    have hn2 : n ≤ 1048576 := by omega
    clear h hnl hl hn
    go_enter Try.func44, Try.ntmps44
    go_wp2
    go_loopw [1, 5] (fun s i wr => ∃ j : Nat, j ≤ n ∧ i = .int .i64 j ∧ (∃ m : Int, m = k + 5 * j ∧ s = .int .i64 m) ∧ wr.ownsRow base 69 5 (.slice (some ⟨g, 0, none⟩) n c) n (nds (mkN j k ++ l.drop j)) ∧ w.grownBy wr (some g)) (fun _ i _ => n - (intOf i).toNat)
    case atStart => exact ⟨0, Nat.zero_le _, rfl, ⟨k, by simp, rfl⟩, by simpa [mkN] using H0.out, World.grownBy.refl _ _⟩
    case round =>
      obtain ⟨j, hj, rfl, ⟨m, hm, rfl⟩, ho, hg⟩ := hrel
      have hm0 : 0 ≤ m := by omega
      have hm1 : m ≤ 33554432 := by omega
      by_cases hlt : j < n
      · have hlen : (nds (mkN j k ++ l.drop j)).length = n * 5 := ho.1
        have cells : ∀ i, i < n * 5 → ∃ u, wr.cell? ⟨g, i, none⟩ = some u := fun i hi => by rw [ho.cellAt i hi]; exact get_of_lt _ (by omega)
        obtain ⟨u0, e0⟩ := cells (j * 5) (by omega)
        obtain ⟨u1, e1⟩ := cells (j * 5 + 1) (by omega)
        obtain ⟨u2, e2⟩ := cells (j * 5 + 2) (by omega)
        obtain ⟨u3, e3⟩ := cells (j * 5 + 3) (by omega)
        obtain ⟨u4, e4⟩ := cells (j * 5 + 4) (by omega)
        have f0 := ho.frozenAt (j * 5)
        have f1 := ho.frozenAt (j * 5 + 1)
        have f2 := ho.frozenAt (j * 5 + 2)
        have f3 := ho.frozenAt (j * 5 + 3)
        have f4 := ho.frozenAt (j * 5 + 4)
        have Ho := Lib.hid ho
        have Hg := Lib.hid hg
        have Hm := Lib.hid hm
        clear ho hg hm cells hlen
        go_wp2
        go_roundw
        case rel =>
          refine ⟨j + 1, by omega, by go_num, ⟨_, by rw [Hm.out]; omega, rfl⟩, ?_, grown_one (grown_one (grown_one (grown_one (grown_one Hg.out _ _) _ _) _ _) _ _) _ _⟩
          have hjl : j < l.length := by rw [← Hn.out]; exact hlt
          rw [← mark_step hjl]
          have := own_set5 Ho.out ⟨k + 5 * j, k + 5 * j + 1, k + 5 * j + 2, k + 5 * j + 3, k + 5 * j + 4⟩ (by rw [List.length_append, mkN_len, List.length_drop]; omega : j < _)
          simpa [Hm.out, Int.add_assoc] using this
        case measure => simp [intOf]; omega
      · obtain rfl : j = n := by omega
        have Ho : Hid (OwnN wr base (some ⟨g, 0, none⟩) c (mkN j k)) := by
          unfold OwnN
          rw [mkN_len]
          have : mkN j k ++ l.drop j = mkN j k := by rw [Hn.out]; simp
          rw [this] at ho
          exact ho
        have Hg := Lib.hid hg
        have Hm := Lib.hid hm
        clear ho hg hm
        go_wp2
        go_ret
        exact ⟨ret_int (by rw [Hm.out]), Ho.out, Hg.out⟩
  · have hl0 : l = [] := List.eq_nil_of_length_eq_zero (by omega)
    subst hl0
    have H0 := Lib.hid h
    clear h
    go_enter Try.func44, Try.ntmps44
    go_wp2
    refine wp_loop_rounds 1 ?_
    rw [rounds_succ]
    go_wp2
    go_ret
    exact ⟨by simp, by simpa [mkN] using H0.out, World.grownBy.refl _ _⟩

end Go.Proofs.Ytkjhncohanfciaa
