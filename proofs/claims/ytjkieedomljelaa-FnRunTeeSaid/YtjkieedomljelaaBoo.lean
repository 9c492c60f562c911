/- Slices of bools in memory: read, copied, compared, marked; bools appended to a slice of the call's own. -/
import Derived.Test.YtjkieedomljelaaHld
import Derived.Test.YtjkieedomljelaaIntA
import Derived.OwnWalk
namespace Go.Proofs.Ytjkieedomljelaa
open Go.RowKit

/-- The slice at A reads as the numbers l, below block B. -/
def RdB (w : World) (B : Nat) (A : Option Addr) (l : List Bool) : Prop :=
  0 < l.length → ∃ ad, A = some ad ∧ ad.block < B ∧ ∀ (k : Nat) (x : Bool), l[k]? = some x → w.cell? (ad.add k) = some (.bool x)

section
variable {w w' : World} {B B' : Nat} {A : Option Addr} {l : List Bool}
theorem RdB.at_ (h : RdB w B A l) {k : Nat} (hk : k < l.length) : ∃ ad x, A = some ad ∧ l[k]? = some x ∧ w.cell? (ad.add k) = some (.bool x) := by
  obtain ⟨ad, e, _, hc⟩ := h (by omega)
  obtain ⟨x, hx⟩ := get_of_lt l hk
  exact ⟨ad, x, e, hx, hc k x hx⟩
theorem RdB.keep (h : RdB w B A l) (hk : ∀ p : Addr, p.block < B → w'.cell? p = w.cell? p) : RdB w' B A l := fun hn => by
  obtain ⟨ad, e, hb, hc⟩ := h hn
  exact ⟨ad, e, hb, fun k x hx => (hk _ (by rw [add_block]; exact hb)).trans (hc k x hx)⟩
theorem RdB.more (h : RdB w B A l) (hB : B ≤ B') : RdB w B' A l := fun hn => by
  obtain ⟨ad, e, hb, hc⟩ := h hn
  exact ⟨ad, e, by omega, hc⟩
theorem RdB.below {C : Nat} (h : RdB w B A l) (hb : Below C w w') (hC : B ≤ C) : RdB w' B A l := h.keep fun _ hp => hb.cell (by omega)
theorem RdB.same (h : RdB w B A l) (s : Same w w') : RdB w' B A l := h.below (s.below B) (Nat.le_refl _)
theorem RdB.drewN (h : RdB w B A l) (n : Nat) : RdB (w.drewN n) B A l := h
end

/-- The cells of a list of numbers. -/
def bools (l : List Bool) : List Value := l.map (Value.bool)
theorem bools_get (l : List Bool) (k : Nat) : (bools l)[k]? = l[k]?.map (Value.bool) := by simp [bools]

theorem Bk.rdB {w : World} {g B : Nat} {l : List Bool} {t : TypeId} (h : Bk w g t (bools l)) (hB : g < B) : RdB w B (some ⟨g, 0, none⟩) l := fun _ => by
  refine ⟨_, rfl, hB, fun k x hx => ?_⟩
  rw [add_zero_row, h.cell, bools_get, hx]; rfl

theorem Try.infoBool : (Try.prog.info? 4).map (fun i => (i.zero, i.size, i.bytes)) = some (some (.bool false), 1, 1) := by kernel_rfl

set_option maxHeartbeats 400000 in
theorem szBoolS_any (A : Option Addr) (n c : Nat) (left : Int) (w : World) (h0 : 0 ≤ left) (h1 : left ≤ 1048576) (hn : n ≤ maxLen) :
    Calls Try.prog 58 #[.slice A n c, .int .i64 left] w fun e w' => e = .returned (.int .i64 (szLeft left n)) ∧ w = w' := by
  unfold maxLen at hn
  by_cases h : left < n
  · rw [szLeft_no h]
    go_enter Try.func58, Try.ntmps58
    go_wp2
    go_ret
    exact ⟨rfl, rfl⟩
  · rw [szLeft_yes h]
    go_enter Try.func58, Try.ntmps58
    go_wp2
    go_ret
    exact ⟨rfl, rfl⟩

set_option maxHeartbeats 400000 in
theorem eqBoolS_any (A1 A2 : Option Addr) (c1 c2 : Nat) (l1 l2 : List Bool) (w : World) (B : Nat) (h1 : RdB w B A1 l1) (h2 : RdB w B A2 l2) (n1 : l1.length ≤ 1048576) :
    Calls Try.prog 67 #[.slice A1 l1.length c1, .slice A2 l2.length c2] w fun e w' => e = .returned (.bool (decide (l1 = l2))) ∧ Same w w' := by
  by_cases hl : l1.length = l2.length
  · have hb' : (l1.length != l2.length) = false := by simp [hl]
    have Hl := Lib.hid hl
    clear hl
    go_enter Try.func67, Try.ntmps67
    go_wp2
    go_loopw [5] (fun i wr => ∃ k : Nat, k ≤ l1.length ∧ i = .int .i64 k ∧ l1.take k = l2.take k ∧ Same w wr) (fun i _ => l1.length - (intOf i).toNat)
    case atStart => exact ⟨0, Nat.zero_le _, rfl, by simp, Same.refl _⟩
    case round =>
      obtain ⟨k, hk, rfl, hall, hs⟩ := hrel
      have Hall := Lib.hid hall
      clear hall
      by_cases hlt : k < l1.length
      · have hlt2 : k < l2.length := by rw [← Hl.out]; exact hlt
        obtain ⟨ad, x, rfl, hx, hc⟩ := (h1.same hs).at_ hlt
        obtain ⟨ad2, y, rfl, hy, hc2⟩ := (h2.same hs).at_ hlt2
        have Hx := Lib.hid hx
        have Hy := Lib.hid hy
        have Hs := Lib.hid hs
        clear hx hy h1 h2 hs
        by_cases hxy : x = y
        · subst hxy
          go_wp2
          go_quiet (fail)
          all_goals go_wp2
          go_roundw
          case rel => exact ⟨k + 1, by omega, by go_num, take_eq_succ Hall.out Hx.out Hy.out, Hs.out.drewN _⟩
          case measure => simp [intOf]; omega
        · have hb2 : (x != y) = true := by simp [hxy]
          have hb3 : (!(x == y)) = true := by simp [hxy]
          have Hxy : Hid (¬ x = y) := hxy
          clear hxy
          go_wp2
          go_quiet (fail)
          all_goals go_wp2
          go_ret
          exact ⟨ret_bool (decide_eq_false (ne_of_get Hx.out Hy.out Hxy.out)).symm, Hs.out.drewN _⟩
      · go_wp2
        go_ret
        exact ⟨ret_bool (decide_eq_true (eq_of_take (by omega) (by rw [← Hl.out]; omega) Hall.out)).symm, hs⟩
  · have hb' : (l1.length != l2.length) = true := by simp [hl]
    have Hl : Hid (¬ l1.length = l2.length) := hl
    clear hl
    go_enter Try.func67, Try.ntmps67
    go_wp2
    go_ret
    exact ⟨ret_bool (by rw [decide_eq_false]; intro e; exact Hl.out (by rw [e])), Same.refl _⟩

theorem bk_madeB (w : World) (t : TypeId) (l : List Bool) (z : Value) {n : Nat} : Bk (w.alloc (.cells (madeCells #[z] n) t)) w.heap.size t (bools (l.take 0) ++ List.replicate (n - 0) z) := by
  have e : madeCells #[z] n = (List.replicate n z).toArray := by rw [← toList_madeCells_one]
  rw [e]
  have h := Bk.new w t (List.replicate n z)
  simpa [bools] using h
theorem fill_bools {w : World} {g k n : Nat} {t : TypeId} {l : List Bool} {x : Bool} (h : Bk w g t (bools (l.take k) ++ List.replicate (n - k) (.bool false))) (hx : l[k]? = some x) (hk : k < n) :
    Bk (w.setCell ⟨g, k, none⟩ (.bool x)) g t (bools (l.take (k + 1)) ++ List.replicate (n - (k + 1)) (.bool false)) := by
  have h2 := h.set_ k (.bool x)
  have hl : k < l.length := (List.getElem?_eq_some_iff.1 hx).1
  rw [fill_set _ _ _ (by simp [bools]; omega) hk] at h2
  rw [take_succ_of hx]
  simpa [bools] using h2

set_option maxHeartbeats 400000 in
theorem toBoolS_any (A : Option Addr) (c : Nat) (l : List Bool) (w : World) (B : Nat) (h : RdB w B A l) (hB : B ≤ w.heap.size) (hn : l.length ≤ 1048576) :
    Calls Try.prog 63 #[.slice A l.length c] w fun e w' => e = .returned (.slice (some ⟨w.heap.size, 0, none⟩) l.length l.length) ∧ Bk w' w.heap.size 4 (bools l) ∧ Below w.heap.size w w' := by
  have hmk := run_make_row' (P := Try.prog) 23 4 (.bool false) 1 Try.underlying23 Try.infoBool rfl .i64 .i64 l.length (by omega) (by omega)
  go_enter Try.func63, Try.ntmps63
  go_wp2
  clear hmk
  go_loopw [4] (fun i wr => ∃ k : Nat, k ≤ l.length ∧ i = .int .i64 k ∧ Bk wr w.heap.size 4 (bools (l.take k) ++ List.replicate (l.length - k) (.bool false)) ∧ Below w.heap.size w wr) (fun i _ => l.length - (intOf i).toNat)
  case atStart => exact ⟨0, Nat.zero_le _, rfl, bk_madeB _ _ _ _, (Below.refl _ _).alloc (Nat.le_refl _) _⟩
  case round =>
    obtain ⟨k, hk, rfl, hbk, hbl⟩ := hrel
    have Hbl := Lib.hid hbl
    clear hbl
    by_cases hlt : k < l.length
    · obtain ⟨ad, x, rfl, hx, hc⟩ := (h.below Hbl.out hB).at_ hlt
      have hold : ∃ u, wr.cell? ⟨w.heap.size, k, none⟩ = some u := by
        rw [hbk.cell]; exact get_of_lt _ (by simp [bools]; omega)
      obtain ⟨u, hu⟩ := hold
      have hf := hbk.free k
      have Hx := Lib.hid hx
      have Hbk := Lib.hid hbk
      clear hx h hbk
      go_wp2
      go_roundw
      case rel => exact ⟨k + 1, by omega, by go_num, fill_bools Hbk.out Hx.out hlt, Hbl.out.setCell (Nat.le_refl _) _⟩
      case measure => simp [intOf]; omega
    · go_wp2
      go_ret
      obtain rfl : k = l.length := by omega
      exact ⟨rfl, by simpa using hbk, Hbl.out⟩

/-- Bools in memory of a call's own, wherever they begin in their block. -/
def OwnB (w : World) (lo hi : Nat) (A : Option Addr) (l : List Bool) : Prop :=
  0 < l.length → ∃ g o cs, A = some ⟨g, o, none⟩ ∧ lo ≤ g ∧ g < hi ∧ Bk w g 4 cs ∧ ∀ (k : Nat) (x : Bool), l[k]? = some x → cs[o + k]? = some (.bool x)

section
variable {w w' a : World} {lo hi c : Nat} {A : Option Addr} {l : List Bool}
theorem OwnB.rd (h : OwnB w lo hi A l) : RdB w hi A l := fun hn => by
  obtain ⟨g, o, cs, rfl, h1, h2, hb, hc⟩ := h hn
  refine ⟨_, rfl, h2, fun k x hx => ?_⟩
  rw [Addr.add_lit, hb.cell]
  exact hc k x hx
theorem OwnB.rdt (h : OwnB w lo hi A l) (hz : hi ≤ w.heap.size) : RdB w w.heap.size A l := h.rd.more hz
theorem OwnB.agree (h : OwnB w lo hi A l) (hag : ∀ b, lo ≤ b → b < hi → w'.heap[b]? = w.heap[b]?) : OwnB w' lo hi A l := fun hn => by
  obtain ⟨g, o, cs, rfl, h1, h2, hb, hc⟩ := h hn
  exact ⟨g, o, cs, rfl, h1, h2, (hag g h1 h2).trans hb, hc⟩
theorem OwnB.held (h : OwnB w lo hi A l) (h1 : lo ≤ hi) (h2 : hi ≤ w.heap.size) : Held w lo hi (fun v => OwnB v lo hi A l) := ⟨h1, h2, fun _ _ hag => h.agree hag⟩
theorem OwnB.wide {lo2 hi2 : Nat} (h : OwnB w lo hi A l) (h1 : lo2 ≤ lo) (h2 : hi ≤ hi2) : OwnB w lo2 hi2 A l := fun hn => by
  obtain ⟨g, o, cs, rfl, h3, h4, hb, hc⟩ := h hn
  exact ⟨g, o, cs, rfl, by omega, by omega, hb, hc⟩
theorem Bk.ownB {g : Nat} (h : Bk w g 4 (bools l)) (h1 : lo ≤ g) (h2 : g < hi) : OwnB w lo hi (some ⟨g, 0, none⟩) l := fun _ =>
  ⟨g, 0, bools l, rfl, h1, h2, h, fun k x hx => by rw [Nat.zero_add, bools_get, hx]; rfl⟩
end

/-- n marks, the first of which is told by k. -/
def mkB (n : Nat) (k : Int) : List Bool := (List.range n).map fun i : Nat => (k + i) % 3 == 0
theorem mkB_len (n : Nat) (k : Int) : (mkB n k).length = n := by simp [mkB]
theorem mkB_get {n : Nat} {k : Int} {i : Nat} (h : i < n) : (mkB n k)[i]? = some ((k + i) % 3 == 0) := by simp [mkB, h]

set_option maxHeartbeats 1600000 in
theorem markBoolS_h {lo hi : Nat} {A : Option Addr} {c : Nat} {l : List Bool} {w : World} (k : Int) (h : OwnB w lo hi A l) (hn : l.length ≤ 1048576) (hk0 : 0 ≤ k) (hk1 : k ≤ 16777216) :
    Calls Try.prog 68 #[.slice A l.length c, .int .i64 k] w fun e w' => e = .returned (.int .i64 (k + l.length)) ∧ OwnB w' lo hi A (mkB l.length k) ∧ Chg lo hi w w' := by
  by_cases hl : 0 < l.length
  · obtain ⟨g, o, cs, rfl, hlo, hhi, hb0, hc0⟩ := h hl
    obtain ⟨n, hnl⟩ : ∃ n : Nat, n = l.length := ⟨_, rfl⟩
    have hcs : o + n ≤ cs.length := by
      obtain ⟨x, hx⟩ := get_of_lt l (k := n - 1) (by omega)
      have := (List.getElem?_eq_some_iff.1 (hc0 (n - 1) x hx)).1
      omega
    have Hb0 := Lib.hid hb0
    have hn2 : n ≤ 1048576 := by omega
    rw [← hnl]
    clear h hb0 hc0 hnl hl hn
    go_enter Try.func68, Try.ntmps68
    go_wp2
    go_loopw [1, 5] (fun s i wr => ∃ j : Nat, j ≤ n ∧ i = .int .i64 j ∧ (∃ m : Int, m = k + j ∧ s = .int .i64 m) ∧ (∃ ds, Bk wr g 4 ds ∧ ds.length = cs.length ∧ ∀ i : Nat, i < j → ds[o + i]? = some (.bool ((k + i) % 3 == 0))) ∧ Chg lo hi w wr) (fun _ i _ => n - (intOf i).toNat)
    case atStart => exact ⟨0, Nat.zero_le _, rfl, ⟨k, by simp, rfl⟩, ⟨cs, Hb0.out, rfl, fun i hi => absurd hi (by omega)⟩, Chg.refl _ _ _⟩
    case round =>
      obtain ⟨j, hj, rfl, ⟨m, hm, rfl⟩, ⟨ds, hds, hdl, hdc⟩, hg⟩ := hrel
      have hm0 : 0 ≤ m := by omega
      have hm1 : m ≤ 33554432 := by omega
      by_cases hlt : j < n
      · obtain ⟨u, hu⟩ := get_of_lt ds (k := o + j) (by omega)
        have cu := (hds.cell (o + j)).trans hu
        have fu := hds.free (o + j)
        have Hds := Lib.hid hds
        have Hdl := Lib.hid hdl
        have Hdc := Lib.hid hdc
        have Hg := Lib.hid hg
        have Hm := Lib.hid hm
        clear hds hdl hdc hg hm hu
        go_wp2
        go_roundw
        case rel =>
          refine ⟨j + 1, by omega, by go_num, ⟨_, by rw [Hm.out]; omega, rfl⟩, ⟨_, Hds.out.set_ _ _, by rw [List.length_set]; exact Hdl.out, fun i hi => ?_⟩, Hg.out.set hlo hhi _ _⟩
          rw [List.getElem?_set]
          by_cases e : o + j = o + i
          · obtain rfl : i = j := by omega
            rw [if_pos rfl, if_pos (by have := Hdl.out; omega), Hm.out]
          · rw [if_neg e]
            exact Hdc.out i (by omega)
        case measure => simp [intOf]; omega
      · obtain rfl : j = n := by omega
        have Hds := Lib.hid hds
        have Hdc := Lib.hid hdc
        have Hg := Lib.hid hg
        have Hm := Lib.hid hm
        clear hds hdc hg hm hdl
        go_wp2
        go_ret
        refine ⟨ret_int (by rw [Hm.out]), fun _ => ⟨g, o, ds, rfl, hlo, hhi, Hds.out, fun i x hx => ?_⟩, Hg.out⟩
        have hi : i < j := by have := (List.getElem?_eq_some_iff.1 hx).1; rwa [mkB_len] at this
        rw [mkB_get hi] at hx
        rw [← Option.some.inj hx]
        exact Hdc.out i hi
  · have hl0 : l = [] := List.eq_nil_of_length_eq_zero (by omega)
    subst hl0
    clear h
    go_enter Try.func68, Try.ntmps68
    go_wp2
    refine wp_loop_rounds 1 ?_
    rw [rounds_succ]
    go_wp2
    go_ret
    exact ⟨by simp, fun h => absurd h (by simp [mkB]), Chg.refl _ _ _⟩

set_option maxHeartbeats 1600000 in
theorem heldBoolS_any (A : Option Addr) (c n : Nat) (k : Int) (w : World) (B : Nat) (h : RdB w B A (mkB n k)) (hn : n ≤ 1048576) (hk0 : 0 ≤ k) (hk1 : k ≤ 16777216) :
    Calls Try.prog 69 #[.slice A n c, .int .i64 k] w fun e w' => e = .returned (.int .i64 (k + n)) ∧ w = w' := by
  have Hh := Lib.hid h
  clear h
  go_enter Try.func69, Try.ntmps69
  go_wp2
  go_loop [1, 5] (fun s i => ∃ j : Nat, j ≤ n ∧ i = .int .i64 j ∧ ∃ m : Int, m = k + j ∧ s = .int .i64 m) (fun _ i => n - (intOf i).toNat)
  case atStart => exact ⟨0, Nat.zero_le _, rfl, k, by simp, rfl⟩
  case round =>
    obtain ⟨j, hj, rfl, m, hm, rfl⟩ := hrel
    have hm0 : 0 ≤ m := by omega
    have hm1 : m ≤ 33554432 := by omega
    by_cases hlt : j < n
    · obtain ⟨ad, x, rfl, hx, hc⟩ := Hh.out.at_ (k := j) (by rw [mkB_len]; exact hlt)
      rw [mkB_get hlt] at hx
      obtain rfl := Option.some.inj hx
      obtain ⟨b3, hb3⟩ : ∃ b3 : Bool, b3 = (m % 3 == 0) := ⟨_, rfl⟩
      rw [← hm, ← hb3] at hc
      have hb3' : (m % 3 == 0) = b3 := hb3.symm
      have Hm := Lib.hid hm
      have Hb3 := Lib.hid hb3
      clear hm hx hb3
      go_wp2
      go_round
      case rel => exact ⟨j + 1, by omega, by go_num, _, by rw [Hm.out]; omega, rfl⟩
      case measure => simp [intOf]; omega
    · obtain rfl : j = n := by omega
      have Hm := Lib.hid hm
      clear hm
      go_wp2
      go_ret
      exact ⟨ret_int (by rw [Hm.out]), rfl⟩

/-- The slice at A holds the numbers l in memory from block base on, from the beginning of its block. -/
def OwnBj (w : World) (base : Nat) (A : Option Addr) (c : Nat) (l : List Bool) : Prop := w.ownsRow base 4 1 (.slice A l.length c) l.length (bools l)

section
variable {w w' : World} {base c : Nat} {A : Option Addr} {l : List Bool}
theorem OwnBj.form (h : OwnBj w base A c l) (hl : 0 < l.length) : ∃ g, A = some ⟨g, 0, none⟩ ∧ base ≤ g ∧ g < w.heap.size := by
  obtain ⟨_, ⟨_, h0⟩ | ⟨g, cap, cur, hv, hb, hh, _⟩⟩ := h
  · omega
  · injection hv with hA
    exact ⟨g, hA, hb, lt_of_block hh⟩
theorem OwnBj.row_lt (h : OwnBj w base A c l) : ∀ g, rowOf A = some g → base ≤ g ∧ g < w.heap.size := fun g hg => by
  have := World.ownsRow.lt h g (by rw [ownBlock_slice]; exact hg)
  exact this
theorem OwnBj.grown {row : Option Nat} (h : OwnBj w base A c l) (hg : w.grownBy w' row) (hne : rowOf A = none ∨ rowOf A ≠ row) : OwnBj w' base A c l :=
  World.ownsRow.kept h hg (by rw [ownBlock_slice]; exact hne)
theorem OwnBj.below {C : Nat} (h : OwnBj w base A c l) (hb : Below C w w') (hC : w.heap.size ≤ C) : OwnBj w' base A c l :=
  h.grown (row := none) ⟨hb.os, hb.tape, hb.output, Nat.le_trans (Nat.le_refl _) hb.size, fun k hk _ => hb.block k (by omega)⟩ (by cases A <;> simp [rowOf])
theorem OwnBj.nil_ (w : World) (base : Nat) : OwnBj w base none 0 [] := World.ownsRow_nil w base _ 1
theorem OwnBj.bk (h : OwnBj w base A c l) (hl : 0 < l.length) : ∃ g cs, A = some ⟨g, 0, none⟩ ∧ base ≤ g ∧ Bk w g 4 cs ∧ l.length ≤ c ∧ ∀ (k : Nat) (x : Bool), l[k]? = some x → cs[k]? = some (.bool x) := by
  obtain ⟨h1, ⟨_, h0⟩ | ⟨g, cap, cur, hv, hb, hh, hn, _, _, ht⟩⟩ := h
  · omega
  · injection hv with hA _ hc
    subst hc
    refine ⟨g, cur.toList, hA, hb, by unfold Bk; simpa using hh, hn, fun k x hx => ?_⟩
    have hk : k < l.length := (List.getElem?_eq_some_iff.1 hx).1
    have : (cur.toList.take (l.length * 1))[k]? = some (.bool x) := by rw [ht, bools_get, hx]; rfl
    rwa [List.getElem?_take_of_lt (by omega)] at this
theorem OwnBj.ownB (h : OwnBj w base A c l) : OwnB w base w.heap.size A l := fun hl => by
  obtain ⟨g, cs, e, hb, hbk, _, hc⟩ := h.bk hl
  exact ⟨g, 0, cs, e, hb, hbk.lt, hbk, fun k x hx => by rw [Nat.zero_add]; exact hc k x hx⟩
end

theorem emptyBj (w : World) : OwnBj (w.alloc (.cells #[] 4)) w.heap.size (some ⟨w.heap.size, 0, none⟩) 0 [] :=
  ⟨rfl, .inr ⟨w.heap.size, 0, #[], rfl, Nat.le_refl _, heap_alloc_new w _, Nat.le_refl _, Nat.zero_le _, rfl, rfl⟩⟩

theorem wpList_append_bool {ops : Array Oper} {rest : List Oper} {o : Oper} {a : Act} {Q : Exit → Act → World → Prop} {w : World} (hgd : o.guard = none) (s y : Operand)
    (ho : o.op = .call { callee := .builtin .append, args := #[s, y], argTypes := #[23, 23] }) (base : Nat) (A : Option Addr) (c : Nat) (l : List Bool) (x : Bool) (n : Nat) (hnl : l.length = n) (hs : a.eval s = .slice A n c) (hown : OwnBj w base A c l)
    (g : Nat) (hx : a.eval y = .slice (some ⟨g, 0, none⟩) 1 1) (hg : g = w.heap.size) (hn : n ≤ 1048576) (hb : base ≤ w.heap.size)
    (h : ∀ (A' : Option Addr) (c' : Nat) (w' : World), OwnBj w' base A' c' (l ++ [x]) → (w.alloc (.cells #[.bool x] 4)).grownBy w' (rowOf A) → wpList Try.prog ops Q rest (a.put o.dst (.slice A' (n + 1) c')) w') :
    wpList Try.prog ops Q (o :: rest) a (w.alloc (.cells #[.bool x] 4)) := by
  subst hg
  subst hnl
  obtain ⟨i, hi, hz0, hz1, hz2⟩ := info_parts Try.infoBool
  have hown2 := hown.below ((Below.refl w.heap.size w).alloc (Nat.le_refl _) (.cells #[.bool x] 4)) (Nat.le_refl _)
  have hb1 : Bk (w.alloc (.cells #[.bool x] 4)) w.heap.size 4 [.bool x] := Bk.new w _ [_]
  have hread : ∀ (j : Nat) (u : Value), (bools [x])[j]? = some u → (w.alloc (.cells #[.bool x] 4)).cell? ((⟨w.heap.size, 0, none⟩ : Addr).add j) = some u := fun j u hj => by
    rw [add_zero_row, hb1.cell]
    exact hj
  have hone : ∀ u ∈ bools [x], u.oneCell' = true := by
    intro u hu
    simp [bools] at hu
    subst hu
    rfl
  refine wpList_plain hgd fun K hK => ?_
  obtain ⟨v', w', hr, h2, h3, _⟩ := run_append_own (P := Try.prog) (w.alloc (.cells #[.bool x] 4)) base 23 o.type 4 i _ 1 1 Try.underlying23 hi hz0 hz1 hz2 rfl (by decide)
    (.slice A l.length c) l.length (bools l) hown2 ⟨w.heap.size, 0, none⟩ 1 1 (bools [x]) rfl hread hone (by unfold maxLen; omega) (by omega) (by simp; omega)
  have hv : ∃ A' c', v' = .slice A' (l.length + 1) c' := by
    obtain ⟨_, ⟨_, h0⟩ | ⟨g, cap, cur, hv, _⟩⟩ := h2
    · omega
    · exact ⟨_, _, hv⟩
  obtain ⟨A', c', rfl⟩ := hv
  unfold Oper.wp execOp
  simp only [ho, resolve, invoke, builtin, Sem.run_bind, Sem.run_pure, Result.andThen_ok, List.map_toArray, List.map_cons, List.map_nil, hs, hx, hr]
  refine hK _ _ (h A' c' w' ?_ (by rw [← ownBlock_slice A l.length c]; exact h3))
  unfold OwnBj
  rw [List.length_append, show bools (l ++ [x]) = bools l ++ bools [x] from by simp [bools]]
  exact h2

end Go.Proofs.Ytjkieedomljelaa
