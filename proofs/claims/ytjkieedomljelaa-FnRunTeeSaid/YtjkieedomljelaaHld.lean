/- What a call made, told by an interval of blocks; kept over calls that make memory and over marks in other intervals. -/
import Derived.Test.YtjkieedomljelaaPX
import Derived.Test.YtjkieedomljelaaCopy
namespace Go.Proofs.Ytjkieedomljelaa
open Go.RowKit

/-- Only blocks from lo on and before hi, and new ones, have changed. -/
structure Chg (lo hi : Nat) (w w' : World) : Prop where
  os : w'.os = w.os
  tape : w'.tape = w.tape
  output : w'.output = w.output
  size : w.heap.size ≤ w'.heap.size
  block : ∀ j, j < w.heap.size → (j < lo ∨ hi ≤ j) → w'.heap[j]? = w.heap[j]?

/-- P holds in every world that agrees on the blocks from lo on and before hi. -/
structure Held (w : World) (lo hi : Nat) (P : World → Prop) : Prop where
  le : lo ≤ hi
  top : hi ≤ w.heap.size
  at_ : ∀ w' : World, hi ≤ w'.heap.size → (∀ b, lo ≤ b → b < hi → w'.heap[b]? = w.heap[b]?) → P w'

section
variable {w w' a : World} {lo hi lo2 hi2 : Nat} {P : World → Prop}
theorem Chg.refl (lo hi : Nat) (w : World) : Chg lo hi w w := ⟨rfl, rfl, rfl, Nat.le_refl _, fun _ _ _ => rfl⟩
theorem Chg.of_grown {row : Option Nat} (h : w.grownBy w' row) (hr : ∀ g, row = some g → lo ≤ g ∧ g < hi) : Chg lo hi w w' :=
  ⟨h.os, h.tape, h.output, h.size, fun j hj ho => h.block j hj (fun e => by have := hr j e.symm; omega)⟩
theorem Chg.of_below (h : Below w.heap.size w w') : Chg lo hi w w' := ⟨h.os, h.tape, h.output, h.size, fun j hj _ => h.block j hj⟩
theorem Chg.trans {v : World} (h : Chg lo hi a w) (k : Chg lo hi w v) : Chg lo hi a v :=
  ⟨k.os.trans h.os, k.tape.trans h.tape, k.output.trans h.output, Nat.le_trans h.size k.size, fun j hj ho => (k.block j (Nat.lt_of_lt_of_le hj h.size) ho).trans (h.block j hj ho)⟩
theorem Chg.wide (h : Chg lo hi w w') (h1 : lo2 ≤ lo) (h2 : hi ≤ hi2) : Chg lo2 hi2 w w' := ⟨h.os, h.tape, h.output, h.size, fun j hj ho => h.block j hj (by omega)⟩
theorem Chg.set {b : Nat} (h : Chg lo hi a w) (h1 : lo ≤ b) (h2 : b < hi) (i : Nat) (u : Value) : Chg lo hi a (w.setCell ⟨b, i, none⟩ u) :=
  ⟨h.os, h.tape, h.output, by simpa [World.setCell] using h.size, fun j hj ho => (Below.heap_setCell w ⟨b, i, none⟩ u j (by intro e; subst e; omega)).trans (h.block j hj ho)⟩
theorem Chg.below_ {B : Nat} (k : Chg lo hi w w') (h : Below B a w) (hB : B ≤ lo) (hz : B ≤ w.heap.size) : Below B a w' :=
  ⟨k.os.trans h.os, k.tape.trans h.tape, k.output.trans h.output, Nat.le_trans h.size k.size, fun j hj => (k.block j (by omega) (by omega)).trans (h.block j hj)⟩
theorem Held.out (h : Held w lo hi P) : P w := h.at_ w h.top fun _ _ _ => rfl
theorem Held.chg (h : Held w lo hi P) (k : Chg lo2 hi2 w w') (hd : hi ≤ lo2 ∨ hi2 ≤ lo) : Held w' lo hi P :=
  ⟨h.le, Nat.le_trans h.top k.size, fun v hv hag => h.at_ v hv fun b h1 h2 => (hag b h1 h2).trans (k.block b (by have := h.top; omega) (by omega))⟩
theorem Held.below {C : Nat} (h : Held w lo hi P) (hb : Below C w w') (hC : hi ≤ C) : Held w' lo hi P :=
  ⟨h.le, Nat.le_trans h.top hb.size, fun v hv hag => h.at_ v hv fun b h1 h2 => (hag b h1 h2).trans (hb.block b (by omega))⟩
theorem Held.drewN (h : Held w lo hi P) (n : Nat) : Held (w.drewN n) lo hi P := ⟨h.le, h.top, h.at_⟩
theorem Held.mono {Q : World → Prop} (h : Held w lo hi P) (hq : ∀ v, P v → Q v) : Held w lo hi Q := ⟨h.le, h.top, fun v hv hag => hq v (h.at_ v hv hag)⟩
theorem Bk.held {g : Nat} {t : TypeId} {cs : List Value} (h : Bk w g t cs) : Held w g (g + 1) (fun v => Bk v g t cs) :=
  ⟨by omega, h.lt, fun v _ hag => (hag g (Nat.le_refl _) (by omega)).trans h⟩
theorem cell_agree {p : Addr} (hag : ∀ b, lo ≤ b → b < hi → w'.heap[b]? = w.heap[b]?) (h1 : lo ≤ p.block) (h2 : p.block < hi) : w'.cell? p = w.cell? p := World.cell?_of_block (hag _ h1 h2)
theorem RdN.held {B : Nat} {A : Option Addr} {l : List Nd} (h : RdN w B A l) (hB : B ≤ w.heap.size) : Held w 0 B (fun v => RdN v B A l) :=
  ⟨Nat.zero_le _, hB, fun _ _ hag => h.keep fun _ hp => cell_agree hag (Nat.zero_le _) hp⟩
theorem RdI.held {B : Nat} {A : Option Addr} {l : List Int} (h : RdI w B A l) (hB : B ≤ w.heap.size) : Held w 0 B (fun v => RdI v B A l) :=
  ⟨Nat.zero_le _, hB, fun _ _ hag => h.keep fun _ hp => cell_agree hag (Nat.zero_le _) hp⟩
theorem RdR.held {B : Nat} {A : Option Addr} {rows : List (List Int)} (h : RdR w B A rows) (hB : B ≤ w.heap.size) : Held w 0 B (fun v => RdR v B A rows) :=
  ⟨Nat.zero_le _, hB, fun _ _ hag => h.keep fun _ hp => cell_agree hag (Nat.zero_le _) hp⟩
end

section
variable {w w' a : World} {lo hi c : Nat} {A : Option Addr} {l : List Nd}
end

/-- Numbers in memory of a call's own, wherever they begin in their block. -/
def OwnI (w : World) (lo hi : Nat) (A : Option Addr) (l : List Int) : Prop :=
  0 < l.length → ∃ g o cs, A = some ⟨g, o, none⟩ ∧ lo ≤ g ∧ g < hi ∧ Bk w g 3 cs ∧ ∀ (k : Nat) (x : Int), l[k]? = some x → cs[o + k]? = some (.int .i64 x)

section
variable {w w' a : World} {lo hi c : Nat} {A : Option Addr} {l : List Int}
theorem OwnI.rd (h : OwnI w lo hi A l) : RdI w hi A l := fun hn => by
  obtain ⟨g, o, cs, rfl, h1, h2, hb, hc⟩ := h hn
  refine ⟨_, rfl, h2, fun k x hx => ?_⟩
  rw [Addr.add_lit, hb.cell]
  exact hc k x hx
theorem OwnI.rdt (h : OwnI w lo hi A l) (hz : hi ≤ w.heap.size) : RdI w w.heap.size A l := h.rd.more hz
theorem OwnI.agree (h : OwnI w lo hi A l) (hag : ∀ b, lo ≤ b → b < hi → w'.heap[b]? = w.heap[b]?) : OwnI w' lo hi A l := fun hn => by
  obtain ⟨g, o, cs, rfl, h1, h2, hb, hc⟩ := h hn
  exact ⟨g, o, cs, rfl, h1, h2, (hag g h1 h2).trans hb, hc⟩
theorem OwnI.held (h : OwnI w lo hi A l) (h1 : lo ≤ hi) (h2 : hi ≤ w.heap.size) : Held w lo hi (fun v => OwnI v lo hi A l) := ⟨h1, h2, fun _ _ hag => h.agree hag⟩
theorem OwnI.wide {lo2 hi2 : Nat} (h : OwnI w lo hi A l) (h1 : lo2 ≤ lo) (h2 : hi ≤ hi2) : OwnI w lo2 hi2 A l := fun hn => by
  obtain ⟨g, o, cs, rfl, h3, h4, hb, hc⟩ := h hn
  exact ⟨g, o, cs, rfl, by omega, by omega, hb, hc⟩
theorem Bk.ownI {g : Nat} (h : Bk w g 3 (ints l)) (h1 : lo ≤ g) (h2 : g < hi) : OwnI w lo hi (some ⟨g, 0, none⟩) l := fun _ =>
  ⟨g, 0, ints l, rfl, h1, h2, h, fun k x hx => by rw [Nat.zero_add, ints_get, hx]; rfl⟩
end

/-- n marks, the first of which is k. -/
def mkI (n : Nat) (k : Int) : List Int := (List.range n).map fun i : Nat => k + i
theorem mkI_len (n : Nat) (k : Int) : (mkI n k).length = n := by simp [mkI]
theorem mkI_get {n : Nat} {k : Int} {i : Nat} (h : i < n) : (mkI n k)[i]? = some (k + i) := by simp [mkI, h]

set_option maxHeartbeats 1600000 in
theorem markIntS_h {lo hi : Nat} {A : Option Addr} {c : Nat} {l : List Int} {w : World} (k : Int) (h : OwnI w lo hi A l) (hn : l.length ≤ 1048576) (hk0 : 0 ≤ k) (hk1 : k ≤ 16777216) :
    Calls Try.prog 28 #[.slice A l.length c, .int .i64 k] w fun e w' => e = .returned (.int .i64 (k + l.length)) ∧ OwnI w' lo hi A (mkI l.length k) ∧ Chg lo hi w w' := by
  by_cases hl : 0 < l.length
  · obtain ⟨g, o, cs, rfl, hlo, hhi, hb0, hc0⟩ := h hl
    obtain ⟨n, hnl⟩ : ∃ n : Nat, n = l.length := ⟨_, rfl⟩
    have hcs : o + n ≤ cs.length := by
      obtain ⟨x, hx⟩ := get_of_lt l (k := n - 1) (by omega)
      have := (List.getElem?_eq_some_iff.1 (hc0 (n - 1) x hx)).1
      omega
    have Hb0 := Lib.hid hb0
    have hn2 : n ≤ 1048576 := by omega
    rw [← hnl]
    clear h hb0 hc0 hnl hl hn
    go_enter Try.func28, Try.ntmps28
    go_wp2
    go_loopw [1, 5] (fun s i wr => ∃ j : Nat, j ≤ n ∧ i = .int .i64 j ∧ (∃ m : Int, m = k + j ∧ s = .int .i64 m) ∧ (∃ ds, Bk wr g 3 ds ∧ ds.length = cs.length ∧ ∀ i : Nat, i < j → ds[o + i]? = some (.int .i64 (k + i))) ∧ Chg lo hi w wr) (fun _ i _ => n - (intOf i).toNat)
    case atStart => exact ⟨0, Nat.zero_le _, rfl, ⟨k, by simp, rfl⟩, ⟨cs, Hb0.out, rfl, fun i hi => absurd hi (by omega)⟩, Chg.refl _ _ _⟩
    case round =>
      obtain ⟨j, hj, rfl, ⟨m, hm, rfl⟩, ⟨ds, hds, hdl, hdc⟩, hg⟩ := hrel
      have hm0 : 0 ≤ m := by omega
      have hm1 : m ≤ 33554432 := by omega
      by_cases hlt : j < n
      · obtain ⟨u, hu⟩ := get_of_lt ds (k := o + j) (by omega)
        have cu := (hds.cell (o + j)).trans hu
        have fu := hds.free (o + j)
        have Hds := Lib.hid hds
        have Hdl := Lib.hid hdl
        have Hdc := Lib.hid hdc
        have Hg := Lib.hid hg
        have Hm := Lib.hid hm
        clear hds hdl hdc hg hm hu
        go_wp2
        go_roundw
        case rel =>
          refine ⟨j + 1, by omega, by go_num, ⟨_, by rw [Hm.out]; omega, rfl⟩, ⟨_, Hds.out.set_ _ _, by rw [List.length_set]; exact Hdl.out, fun i hi => ?_⟩, Hg.out.set hlo hhi _ _⟩
          rw [List.getElem?_set]
          by_cases e : o + j = o + i
          · obtain rfl : i = j := by omega
            rw [if_pos rfl, if_pos (by have := Hdl.out; omega), Hm.out]
          · rw [if_neg e]
            exact Hdc.out i (by omega)
        case measure => simp [intOf]; omega
      · obtain rfl : j = n := by omega
        have Hds := Lib.hid hds
        have Hdc := Lib.hid hdc
        have Hg := Lib.hid hg
        have Hm := Lib.hid hm
        clear hds hdc hg hm hdl
        go_wp2
        go_ret
        refine ⟨ret_int (by rw [Hm.out]), fun _ => ⟨g, o, ds, rfl, hlo, hhi, Hds.out, fun i x hx => ?_⟩, Hg.out⟩
        have hi : i < j := by have := (List.getElem?_eq_some_iff.1 hx).1; rwa [mkI_len] at this
        rw [mkI_get hi] at hx
        rw [← Option.some.inj hx]
        exact Hdc.out i hi
  · have hl0 : l = [] := List.eq_nil_of_length_eq_zero (by omega)
    subst hl0
    clear h
    go_enter Try.func28, Try.ntmps28
    go_wp2
    refine wp_loop_rounds 1 ?_
    rw [rounds_succ]
    go_wp2
    go_ret
    exact ⟨by simp, fun h => absurd h (by simp [mkI]), Chg.refl _ _ _⟩

set_option maxHeartbeats 1600000 in
theorem heldIntS_any (A : Option Addr) (c n : Nat) (k : Int) (w : World) (B : Nat) (h : RdI w B A (mkI n k)) (hn : n ≤ 1048576) (hk0 : 0 ≤ k) (hk1 : k ≤ 16777216) :
    Calls Try.prog 29 #[.slice A n c, .int .i64 k] w fun e w' => e = .returned (.int .i64 (k + n)) ∧ w = w' := by
  have Hh := Lib.hid h
  clear h
  go_enter Try.func29, Try.ntmps29
  go_wp2
  go_loop [1, 5] (fun s i => ∃ j : Nat, j ≤ n ∧ i = .int .i64 j ∧ ∃ m : Int, m = k + j ∧ s = .int .i64 m) (fun _ i => n - (intOf i).toNat)
  case atStart => exact ⟨0, Nat.zero_le _, rfl, k, by simp, rfl⟩
  case round =>
    obtain ⟨j, hj, rfl, m, hm, rfl⟩ := hrel
    have hm0 : 0 ≤ m := by omega
    have hm1 : m ≤ 33554432 := by omega
    by_cases hlt : j < n
    · obtain ⟨ad, x, rfl, hx, hc⟩ := Hh.out.at_ (k := j) (by rw [mkI_len]; exact hlt)
      rw [mkI_get hlt] at hx
      obtain rfl := Option.some.inj hx
      rw [← hm] at hc
      have Hm := Lib.hid hm
      clear hm hx
      go_wp2
      go_round
      case rel => exact ⟨j + 1, by omega, by go_num, _, by rw [Hm.out]; omega, rfl⟩
      case measure => simp [intOf]; omega
    · obtain rfl : j = n := by omega
      have Hm := Lib.hid hm
      clear hm
      go_wp2
      go_ret
      exact ⟨ret_int (by rw [Hm.out]), rfl⟩

end Go.Proofs.Ytjkieedomljelaa
