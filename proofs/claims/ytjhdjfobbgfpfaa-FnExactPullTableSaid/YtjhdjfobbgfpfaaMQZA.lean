/- Texts on the program and its reference, put together (PwB, PwC, PwD, PwE, PwN, Any). -/
import Derived.Test.YtjhdjfobbgfpfaaMQZ
import Derived.Test.YtjhdjfobbgfpfaaMQC
import Derived.Deep.RegionHeld3
import Derived.Test.YtjhdjfobbgfpfaaMQP
import Derived.Laws.LoneSync
import Derived.Deep.CutRange
import Derived.OrdersHeld
/- Contracts: pulls by the program: costs: counts and reached of the reference. -/
namespace Go.Proofs.Ytjhdjfobbgfpfaa
open Go.RowKit

/-- One item more of its source. -/
def bumpC (cs : List Int) (p : Pl) : List Int := if 0 ≤ p.i then cs.set p.s.toNat (cs.getD p.s.toNat 0 + 1) else cs
/-- How far a source was looked at. -/
def bumpR (cs : List Int) (p : Pl) : List Int := cs.set p.s.toNat (max (cs.getD p.s.toNat 0) (p.i + 1))
def cntOf (lg : List Pl) : List Int := lg.foldl bumpC [0, 0, 0]
def rchOf (lg : List Pl) : List Int := lg.foldl bumpR [0, 0, 0]
theorem bumpC_len (cs : List Int) (p : Pl) : (bumpC cs p).length = cs.length := by unfold bumpC; split <;> simp
theorem bumpR_len (cs : List Int) (p : Pl) : (bumpR cs p).length = cs.length := by simp [bumpR]
theorem foldC_len : ∀ (lg : List Pl) (cs : List Int), (lg.foldl bumpC cs).length = cs.length
  | [], _ => rfl
  | p :: lg, cs => by rw [List.foldl_cons, foldC_len lg, bumpC_len]
theorem foldR_len : ∀ (lg : List Pl) (cs : List Int), (lg.foldl bumpR cs).length = cs.length
  | [], _ => rfl
  | p :: lg, cs => by rw [List.foldl_cons, foldR_len lg, bumpR_len]
theorem cntOf_len (lg : List Pl) : (cntOf lg).length = 3 := foldC_len lg _
theorem rchOf_len (lg : List Pl) : (rchOf lg).length = 3 := foldR_len lg _
theorem cntOf_snoc (lg : List Pl) (p : Pl) : cntOf (lg ++ [p]) = bumpC (cntOf lg) p := by simp [cntOf]
theorem rchOf_snoc (lg : List Pl) (p : Pl) : rchOf (lg ++ [p]) = bumpR (rchOf lg) p := by simp [rchOf]
theorem cntOf_take {lg : List Pl} {j : Nat} {p : Pl} (h : lg[j]? = some p) : cntOf (lg.take (j + 1)) = bumpC (cntOf (lg.take j)) p := by rw [take_succ_of h, cntOf_snoc]
theorem rchOf_take {lg : List Pl} {j : Nat} {p : Pl} (h : lg[j]? = some p) : rchOf (lg.take (j + 1)) = bumpR (rchOf (lg.take j)) p := by rw [take_succ_of h, rchOf_snoc]
/-- Counts are at most as many as pulls. -/
theorem cntOf_le : ∀ (lg : List Pl) (cs : List Int) (B : Int), (∀ v ∈ cs, 0 ≤ v ∧ v ≤ B) → ∀ v ∈ lg.foldl bumpC cs, 0 ≤ v ∧ v ≤ B + lg.length
  | [], cs, B, h, v, hv => by have := h v hv; simp; exact this
  | p :: lg, cs, B, h, v, hv => by
    rw [List.foldl_cons] at hv
    have h2 : ∀ v ∈ bumpC cs p, 0 ≤ v ∧ v ≤ B + 1 := fun u hu => by
      unfold bumpC at hu
      split at hu
      · rcases List.mem_or_eq_of_mem_set hu with hu | rfl
        · have := h u hu; omega
        · rw [List.getD_eq_getElem?_getD]
          cases e : cs[p.s.toNat]? with
          | none =>
            rw [List.set_eq_of_length_le (by rw [List.getElem?_eq_none_iff] at e; exact e)] at hu
            have := h _ hu
            rw [List.getD_eq_getElem?_getD, e] at this
            simp only [Option.getD_none] at this ⊢
            omega
          | some w => have := h w (List.mem_of_getElem? e); simp only [Option.getD_some]; omega
      · have := h u hu; omega
    have := cntOf_le lg _ _ h2 v hv
    simp only [List.length_cons]
    omega
theorem cntOf_bd (lg : List Pl) : ∀ v ∈ cntOf lg, 0 ≤ v ∧ v ≤ lg.length := fun v hv => by
  have := cntOf_le lg [0, 0, 0] 0 (by simp) v hv
  omega
theorem rchOf_le {B : Int} (hB : 0 ≤ B) : ∀ (lg : List Pl) (cs : List Int), (∀ p ∈ lg, p.i + 1 ≤ B) → (∀ v ∈ cs, 0 ≤ v ∧ v ≤ B) → ∀ v ∈ lg.foldl bumpR cs, 0 ≤ v ∧ v ≤ B
  | [], cs, _, h, v, hv => h v hv
  | p :: lg, cs, hp, h, v, hv => by
    rw [List.foldl_cons] at hv
    refine rchOf_le hB lg _ (fun q hq => hp q (List.mem_cons_of_mem _ hq)) (fun u hu => ?_) v hv
    unfold bumpR at hu
    have h1 := hp p (List.mem_cons_self ..)
    rcases List.mem_or_eq_of_mem_set hu with hu | rfl
    · exact h u hu
    · rw [List.getD_eq_getElem?_getD]
      cases e : cs[p.s.toNat]? with
      | none => simp only [Option.getD_none]; omega
      | some w => have := h w (List.mem_of_getElem? e); simp only [Option.getD_some]; omega
/-- Three numbers in a block of their own. -/
theorem row_cell {w : World} {g : Nat} {cs : List Int} {q : Nat} (h : Bk w g 3 (ints cs)) (hq : q < cs.length) : w.cell? ⟨g, q, none⟩ = some (.int .i64 (cs.getD q 0)) := by
  rw [h.cell, ints_get, List.getD_eq_getElem?_getD, List.getElem?_eq_getElem hq]; rfl
theorem getD_mem {cs : List Int} {q : Nat} (hq : q < cs.length) : cs.getD q 0 ∈ cs := by
  rw [List.getD_eq_getElem?_getD, List.getElem?_eq_getElem hq]; exact List.getElem_mem hq
set_option maxRecDepth 100000 in
set_option maxHeartbeats 3200000 in
theorem specCounts_any {R : Option Addr} {c : Nat} {lg : List Pl} {src : List (List Int)} (hg : Hid (∀ p ∈ lg, GoodPl src p)) (h12 : Hid (∀ r ∈ src, r.length ≤ 12)) (hl : lg.length ≤ 65536) (w : World) (B : Nat) (hr : RdPl w B R lg) (hB : B ≤ w.heap.size) :
    Calls Try.prog 68 #[.slice R lg.length c] w fun e w' => e = .returned (.slice (some ⟨w.heap.size, 0, none⟩) 3 3) ∧ Bk w' w.heap.size 3 (ints (cntOf lg)) ∧ Below w.heap.size w w' := by
  have hmk := run_make_row' (P := Try.prog) 28 3 (.int .i64 0) 8 Try.underlying28 Try.infoInt rfl .i64 .i64 3 (by omega) (by omega)
  have hmk : ∀ w : World, (Instr.makeSlice 28 (.int .i64 3) (.int .i64 3)).run Try.prog w = .ok (.slice (some ⟨w.heap.size, 0, none⟩) 3 3) (w.alloc (.cells #[.int .i64 0, .int .i64 0, .int .i64 0] 3)) := fun w => by
    have e : madeCells #[.int .i64 0] 3 = (List.replicate 3 (.int .i64 0)).toArray := by rw [← toList_madeCells_one]
    have h := hmk w
    rw [e] at h
    exact h
  have Hr := Lib.hid hr
  clear hr
  go_enter Try.func68, Try.ntmps68
  go_wp2
  clear hmk
  go_loopw [4] (fun i wr => ∃ j : Nat, j ≤ lg.length ∧ i = .int .i64 j ∧ Bk wr w.heap.size 3 (ints (cntOf (lg.take j))) ∧ Below w.heap.size w wr) (fun i _ => lg.length - (intOf i).toNat)
  case atStart => exact ⟨0, Nat.zero_le _, rfl, Bk.new _ _ _, (Below.refl _ _).alloc (Nat.le_refl _) _⟩
  case round =>
    obtain ⟨j, hj, rfl, hbk, hbl⟩ := hrel
    have Hbl := Lib.hid hbl
    have hz := hbl.size
    clear hbl
    by_cases hlt : j < lg.length
    · obtain ⟨b, o, p, rfl, hbB, hpx, hp⟩ := (Hr.out.below Hbl.out hB).at_ hlt
      obtain ⟨p0, p1⟩ := hp
      obtain ⟨⟨s0, s1⟩, i0, i1⟩ := hg.out p (List.mem_of_getElem? hpx)
      obtain ⟨q, hq⟩ : ∃ q : Nat, p.s = (q : Int) := ⟨p.s.toNat, by omega⟩
      have hi12 : p.i < 12 := by
        have : (src.getD p.s.toNat []).length ≤ 12 := by
          rw [List.getD_eq_getElem?_getD]
          cases e : src[p.s.toNat]? with
          | none => simp
          | some r => exact h12.out r (List.mem_of_getElem? e)
        omega
      clear i1
      obtain ⟨pi, hpi⟩ : ∃ pi, p.i = pi := ⟨_, rfl⟩
      rw [hq] at p0 s0 s1
      rw [hpi] at p1 i0 hi12
      have hq3 : q < 3 := by omega
      have hlen := cntOf_len (lg.take j)
      have hcq := row_cell hbk (q := q) (by omega)
      have hmem := getD_mem (cs := cntOf (lg.take j)) (q := q) (by omega)
      obtain ⟨v, hv⟩ : ∃ v, (cntOf (lg.take j)).getD q 0 = v := ⟨_, rfl⟩
      rw [hv] at hcq hmem
      have hvb := cntOf_bd _ v hmem
      have hv1 : v ≤ 65536 := by have h1 := hvb.2; rw [List.length_take] at h1; omega
      have hv0 := hvb.1
      clear hvb
      have hw1 : IntKind.i64.wrap (v + 1) = v + 1 := IntWalk.i64_in _ (by omega)
      have hnx := cntOf_take hpx
      have hfz := hbk.free q
      have Hbk := Lib.hid hbk
      have Hnx := Lib.hid hnx
      have Hv := Lib.hid hv
      have Hq := Lib.hid hq
      have Hpi := Lib.hid hpi
      have Hp := Lib.hid hpx
      have hjl : (j : Int) < lg.length := by omega
      have hblk : b ≠ w.heap.size := by omega
      clear hbk hnx hv hq hpi hpx hmem
      by_cases hpos : (0 : Int) ≤ pi
      · go_wp2_with fail
        go_region
        all_goals go_wp2_with fail
        go_roundw
        case rel => exact ⟨j + 1, by omega, by go_num, by rw [Hnx.out]; unfold bumpC; rw [if_pos (by rw [Hpi.out]; exact hpos), Hq.out, Int.toNat_natCast, Hv.out, ← ints_set]; exact Hbk.out.set_ q _, by exact (Hbl.out.drew).setCell (Nat.le_refl _) _⟩
        case measure => simp [intOf]; omega
      · go_wp2_with fail
        go_roundw
        case rel => exact ⟨j + 1, by omega, by go_num, by rw [Hnx.out]; unfold bumpC; rw [if_neg (by rw [Hpi.out]; exact hpos)]; exact Hbk.out, Hbl.out⟩
        case measure => simp [intOf]; omega
    · obtain rfl : j = lg.length := by omega
      go_wp2_with fail
      refine bodyPost_ret (v := .slice (some ⟨w.heap.size, 0, none⟩) 3 3) (by simp [results, Try.results68, go_sem]) rfl ⟨rfl, by rw [List.take_length] at hbk; exact hbk, Hbl.out⟩

set_option maxRecDepth 100000 in
set_option maxHeartbeats 3200000 in
theorem specReached_any {R : Option Addr} {c : Nat} {lg : List Pl} {src : List (List Int)} (hg : Hid (∀ p ∈ lg, GoodPl src p)) (h12 : Hid (∀ r ∈ src, r.length ≤ 12)) (hl : lg.length ≤ 65536) (w : World) (B : Nat) (hr : RdPl w B R lg) (hB : B ≤ w.heap.size) :
    Calls Try.prog 71 #[.slice R lg.length c] w fun e w' => e = .returned (.slice (some ⟨w.heap.size, 0, none⟩) 3 3) ∧ Bk w' w.heap.size 3 (ints (rchOf lg)) ∧ Below w.heap.size w w' := by
  have hmk := run_make_row' (P := Try.prog) 28 3 (.int .i64 0) 8 Try.underlying28 Try.infoInt rfl .i64 .i64 3 (by omega) (by omega)
  have hmk : ∀ w : World, (Instr.makeSlice 28 (.int .i64 3) (.int .i64 3)).run Try.prog w = .ok (.slice (some ⟨w.heap.size, 0, none⟩) 3 3) (w.alloc (.cells #[.int .i64 0, .int .i64 0, .int .i64 0] 3)) := fun w => by
    have e : madeCells #[.int .i64 0] 3 = (List.replicate 3 (.int .i64 0)).toArray := by rw [← toList_madeCells_one]
    have h := hmk w
    rw [e] at h
    exact h
  have Hr := Lib.hid hr
  clear hr
  go_enter Try.func71, Try.ntmps71
  go_wp2
  clear hmk
  go_loopw [4] (fun i wr => ∃ j : Nat, j ≤ lg.length ∧ i = .int .i64 j ∧ Bk wr w.heap.size 3 (ints (rchOf (lg.take j))) ∧ Below w.heap.size w wr) (fun i _ => lg.length - (intOf i).toNat)
  case atStart => exact ⟨0, Nat.zero_le _, rfl, Bk.new _ _ _, (Below.refl _ _).alloc (Nat.le_refl _) _⟩
  case round =>
    obtain ⟨j, hj, rfl, hbk, hbl⟩ := hrel
    have Hbl := Lib.hid hbl
    have hz := hbl.size
    clear hbl
    by_cases hlt : j < lg.length
    · obtain ⟨b, o, p, rfl, hbB, hpx, hp⟩ := (Hr.out.below Hbl.out hB).at_ hlt
      obtain ⟨p0, p1⟩ := hp
      obtain ⟨⟨s0, s1⟩, i0, i1⟩ := hg.out p (List.mem_of_getElem? hpx)
      obtain ⟨q, hq⟩ : ∃ q : Nat, p.s = (q : Int) := ⟨p.s.toNat, by omega⟩
      have hi12 : p.i < 12 := by
        have : (src.getD p.s.toNat []).length ≤ 12 := by
          rw [List.getD_eq_getElem?_getD]
          cases e : src[p.s.toNat]? with
          | none => simp
          | some r => exact h12.out r (List.mem_of_getElem? e)
        omega
      clear i1
      obtain ⟨pi, hpi⟩ : ∃ pi, p.i = pi := ⟨_, rfl⟩
      rw [hq] at p0 s0 s1
      rw [hpi] at p1 i0 hi12
      have hq3 : q < 3 := by omega
      have hlen := rchOf_len (lg.take j)
      have hcq := row_cell hbk (q := q) (by omega)
      have hmem := getD_mem (cs := rchOf (lg.take j)) (q := q) (by omega)
      obtain ⟨v, hv⟩ : ∃ v, (rchOf (lg.take j)).getD q 0 = v := ⟨_, rfl⟩
      rw [hv] at hcq hmem
      have hw1 : IntKind.i64.wrap (pi + 1) = pi + 1 := IntWalk.i64_in _ (by omega)
      have hnx := rchOf_take hpx
      have hfz := hbk.free q
      have Hbk := Lib.hid hbk
      have Hnx := Lib.hid hnx
      have Hv := Lib.hid hv
      have Hq := Lib.hid hq
      have Hpi := Lib.hid hpi
      have Hp := Lib.hid hpx
      have hjl : (j : Int) < lg.length := by omega
      have hblk : b ≠ w.heap.size := by omega
      clear hbk hnx hv hq hpi hpx hmem
      by_cases hgt : v < pi + 1
      · have hmx : max v (pi + 1) = pi + 1 := by omega
        go_wp2_with fail
        go_region
        all_goals go_wp2_with fail
        go_roundw
        case rel => exact ⟨j + 1, by omega, by go_num, by rw [Hnx.out]; unfold bumpR; rw [Hpi.out, Hq.out, Int.toNat_natCast, Hv.out, hmx, ← ints_set]; exact Hbk.out.set_ q _, by exact (Hbl.out.drew).setCell (Nat.le_refl _) _⟩
        case measure => simp [intOf]; omega
      · have hmx : max v (pi + 1) = v := by omega
        go_wp2_with fail
        go_region
        all_goals go_wp2_with fail
        go_roundw
        case rel => exact ⟨j + 1, by omega, by go_num, by rw [Hnx.out]; unfold bumpR; rw [Hpi.out, Hq.out, Int.toNat_natCast, Hv.out, hmx, ← ints_set]; exact Hbk.out.set_ q _, by exact (Hbl.out.drew).setCell (Nat.le_refl _) _⟩
        case measure => simp [intOf]; omega
    · obtain rfl : j = lg.length := by omega
      go_wp2_with fail
      refine bodyPost_ret (v := .slice (some ⟨w.heap.size, 0, none⟩) 3 3) (by simp [results, Try.results71, go_sem]) rfl ⟨rfl, by rw [List.take_length] at hbk; exact hbk, Hbl.out⟩


end Go.Proofs.Ytjhdjfobbgfpfaa

/- Contracts: pulls by the program: costs: one pull is accounted for. -/
namespace Go.Proofs.Ytjhdjfobbgfpfaa
open Go.RowKit

def bools (l : List Bool) : List Value := l.map Value.bool
theorem bools_set (l : List Bool) (k : Nat) (x : Bool) : (bools l).set k (.bool x) = bools (l.set k x) := by simp [bools, List.map_set]
/-- Whether a pull gave none. -/
def bumpE (cs : List Bool) (p : Pl) : List Bool := if p.i = -1 then cs.set p.s.toNat true else cs
def endOf (lg : List Pl) : List Bool := lg.foldl bumpE [false, false, false]
theorem bumpE_len (cs : List Bool) (p : Pl) : (bumpE cs p).length = cs.length := by unfold bumpE; split <;> simp
theorem foldE_len : ∀ (lg : List Pl) (cs : List Bool), (lg.foldl bumpE cs).length = cs.length
  | [], _ => rfl
  | p :: lg, cs => by rw [List.foldl_cons, foldE_len lg, bumpE_len]
theorem endOf_len (lg : List Pl) : (endOf lg).length = 3 := foldE_len lg _
theorem endOf_snoc (lg : List Pl) (p : Pl) : endOf (lg ++ [p]) = bumpE (endOf lg) p := by simp [endOf]
/-- What is accounted for, in memory: the box of the watched end, and its three lists. -/
structure WR (wb gb hb eb rb : Nat) (lg : List Pl) (W : World) : Prop where
  bx : Bk W wb 91 [.pointer (some ⟨rb, 0, none⟩), .int .i64 lg.length, .slice (some ⟨gb, 0, none⟩) 3 3, .slice (some ⟨hb, 0, none⟩) 3 3, .slice (some ⟨eb, 0, none⟩) 3 3]
  g : Bk W gb 3 (ints (cntOf lg))
  h : Bk W hb 3 (ints (rchOf lg))
  e : Bk W eb 4 (bools (endOf lg))
  ne : gb ≠ hb
/-- What accounting may write. -/
structure FA (wb gb hb eb : Nat) (w w' : World) : Prop where
  os : w'.os = w.os
  tape : w'.tape = w.tape
  output : w'.output = w.output
  size : w.heap.size ≤ w'.heap.size
  block : ∀ b, b < w.heap.size → b ≠ wb → b ≠ gb → b ≠ hb → b ≠ eb → w'.heap[b]? = w.heap[b]?
section
variable {wb gb hb eb rb : Nat} {lg : List Pl} {w w' v : World}
theorem FA.refl (w : World) : FA wb gb hb eb w w := ⟨rfl, rfl, rfl, Nat.le_refl _, fun _ _ _ _ _ _ => rfl⟩
theorem FA.trans (h : FA wb gb hb eb w w') (k : FA wb gb hb eb w' v) : FA wb gb hb eb w v :=
  ⟨k.os.trans h.os, k.tape.trans h.tape, k.output.trans h.output, Nat.le_trans h.size k.size, fun b hb h1 h2 h3 h4 => (k.block b (Nat.lt_of_lt_of_le hb h.size) h1 h2 h3 h4).trans (h.block b hb h1 h2 h3 h4)⟩
theorem FA.of_below (h : Below w.heap.size w w') : FA wb gb hb eb w w' := ⟨h.os, h.tape, h.output, h.size, fun b hb _ _ _ _ => h.block b hb⟩
theorem FA.alloc (h : FA wb gb hb eb w w') (o : Obj) : FA wb gb hb eb w (w'.alloc o) := h.trans (.of_below ((Below.refl _ _).alloc (Nat.le_refl _) o))
theorem FA.drew (h : FA wb gb hb eb w w') : FA wb gb hb eb w w'.drew := h.trans (.of_below (Below.refl _ _).drew)
theorem FA.set_ (h : FA wb gb hb eb w w') (b k : Nat) (u : Value) (hb' : b = wb ∨ b = gb ∨ b = hb ∨ b = eb) : FA wb gb hb eb w (w'.setCell ⟨b, k, none⟩ u) :=
  h.trans ⟨rfl, rfl, rfl, by simp [World.setCell], fun c _ h1 h2 h3 h4 => Below.heap_setCell _ _ _ _ (by simp only; intro e; subst e; rcases hb' with e | e | e | e <;> contradiction)⟩
theorem FA.bk (h : FA wb gb hb eb w w') {g : Nat} {t : TypeId} {cs : List Value} (hb' : Bk w g t cs) (h1 : g ≠ wb) (h2 : g ≠ gb) (h3 : g ≠ hb) (h4 : g ≠ eb) : Bk w' g t cs := (h.block g hb'.lt h1 h2 h3 h4).trans hb'
theorem WR.below (h : WR wb gb hb eb rb lg w) (hb' : Below w.heap.size w w') : WR wb gb hb eb rb lg w' := ⟨h.bx.below hb' h.bx.lt, h.g.below hb' h.g.lt, h.h.below hb' h.h.lt, h.e.below hb' h.e.lt, h.ne⟩
end
theorem load_cnt (wb : Nat) (t : Int) (w : World) (hc : w.cell? ⟨wb, 1, none⟩ = some (.int .i64 t)) :
    Calls Try.prog 70 #[.pointer (some ⟨wb, 1, none⟩)] w fun e w' => e = .returned (.int .i64 t) ∧ w' = w := by
  have hl := run_call_load (P := Try.prog) Try.func91 (by kernel_rfl) (by kernel_rfl) (by kernel_rfl) .i64 (by kernel_rfl) (a := ⟨wb, 1, none⟩) (x := t) (w := w) hc
  go_enter Try.func70, Try.ntmps70
  go_wp2
  go_ret
  exact ⟨rfl, rfl⟩
theorem add_cnt (wb : Nat) (t : Int) (w : World) (hc : w.cell? ⟨wb, 1, none⟩ = some (.int .i64 t)) (hz : w.frozen? ⟨wb, 1, none⟩ = false) (ht : 0 ≤ t ∧ t ≤ 65536) :
    Calls Try.prog 120 #[.pointer (some ⟨wb, 1, none⟩), .int .i64 1] w fun e w' => e = .returned (.int .i64 (t + 1)) ∧ w' = w.setCell ⟨wb, 1, none⟩ (.int .i64 (t + 1)) := by
  have hw : IntKind.i64.wrap (t + 1) = t + 1 := IntWalk.i64_in _ (by omega)
  have hl := run_call_add (P := Try.prog) Try.func139 (by kernel_rfl) (by kernel_rfl) (by kernel_rfl) .i64 (by kernel_rfl) (a := ⟨wb, 1, none⟩) (x := t) (y := 1) (s := t + 1) (w := w) hc hz (by simp [go_sem, hw])
  go_enter Try.func120, Try.ntmps120
  go_wp2
  go_ret
  exact ⟨rfl, rfl⟩

end Go.Proofs.Ytjhdjfobbgfpfaa

/- Contracts: pulls by the program: costs: one pull is accounted for: account. -/
namespace Go.Proofs.Ytjhdjfobbgfpfaa
open Go.RowKit

theorem bools_get (l : List Bool) (k : Nat) : (bools l)[k]? = l[k]?.map Value.bool := by simp [bools]
theorem row_cellB {w : World} {g : Nat} {cs : List Bool} {q : Nat} (h : Bk w g 4 (bools cs)) (hq : q < cs.length) : w.cell? ⟨g, q, none⟩ = some (.bool (cs.getD q false)) := by
  rw [h.cell, bools_get, List.getD_eq_getElem?_getD, List.getElem?_eq_getElem hq]; rfl
theorem foldR_pos : ∀ (lg : List Pl) (cs : List Int), (∀ v ∈ cs, 0 ≤ v) → ∀ v ∈ lg.foldl bumpR cs, 0 ≤ v
  | [], _, h, v, hv => h v hv
  | p :: lg, cs, h, v, hv => by
    rw [List.foldl_cons] at hv
    refine foldR_pos lg _ (fun u hu => ?_) v hv
    unfold bumpR at hu
    rcases List.mem_or_eq_of_mem_set hu with hu | rfl
    · exact h u hu
    · rw [List.getD_eq_getElem?_getD]
      cases e : cs[p.s.toNat]? with
      | none => simp only [Option.getD_none]; omega
      | some w => have := h w (List.mem_of_getElem? e); simp only [Option.getD_some]; omega
theorem set_same {cs : List Int} {q : Nat} {v : Int} (hq : q < cs.length) (hv : cs.getD q 0 = v) : cs.set q v = cs := by
  rw [← hv]
  apply List.ext_getElem?
  intro k
  by_cases e : q = k
  · subst e; rw [List.getElem?_set_self hq, List.getD_eq_getElem?_getD, List.getElem?_eq_getElem hq]; rfl
  · rw [List.getElem?_set_ne e]
set_option maxRecDepth 100000 in
set_option maxHeartbeats 3200000 in
theorem account_any {wb gb hb eb rb : Nat} {lg : List Pl} {src : List (List Int)} (h12 : Hid (∀ r ∈ src, r.length ≤ 12)) (hl : lg.length ≤ 65536) (p : Pl) (hp : GoodPl src p) (w : World) (h : WR wb gb hb eb rb lg w) :
    Calls Try.prog 107 #[.pointer (some ⟨wb, 0, none⟩), .agg #[.int .i64 p.s, .int .i64 p.i]] w fun e w' => e = .returned (.tuple #[]) ∧ WR wb gb hb eb rb (lg ++ [p]) w' ∧ FA wb gb hb eb w w' := by
  obtain ⟨⟨s0, s1⟩, i0, i1⟩ := hp
  have hi12 : p.i < 12 := by
    have : (src.getD p.s.toNat []).length ≤ 12 := by
      rw [List.getD_eq_getElem?_getD]
      cases e : src[p.s.toNat]? with
      | none => simp
      | some r => exact h12.out r (List.mem_of_getElem? e)
    omega
  clear i1 h12
  obtain ⟨q, hq⟩ : ∃ q : Nat, p.s = (q : Int) := ⟨p.s.toNat, by omega⟩
  obtain ⟨pi, hpi⟩ : ∃ pi, p.i = pi := ⟨_, rfl⟩
  rw [hq, hpi]
  rw [hq] at s0 s1
  rw [hpi] at i0 hi12
  have hq3 : q < 3 := by omega
  obtain ⟨W1, hW1⟩ : ∃ X : World, X = w.alloc (.cells #[.int .i64 q, .int .i64 pi] 76) := ⟨_, rfl⟩
  have hb1 : Below w.heap.size w W1 := by rw [hW1]; exact below1 w _
  have kP : Bk W1 w.heap.size 76 [.int .i64 q, .int .i64 pi] := by rw [hW1]; exact Bk.new _ _ [_, _]
  have h1 := h.below hb1
  have c1 := h1.bx.cell 1
  have z1 := h1.bx.free 1
  simp only [List.getElem?_cons_succ, List.getElem?_cons_zero] at c1
  have nPw : w.heap.size ≠ wb := fun e => by subst e; exact absurd h.bx.lt (Nat.lt_irrefl _)
  have nPg : w.heap.size ≠ gb := fun e => by subst e; exact absurd h.g.lt (Nat.lt_irrefl _)
  have nPh : w.heap.size ≠ hb := fun e => by subst e; exact absurd h.h.lt (Nat.lt_irrefl _)
  have nPe : w.heap.size ≠ eb := fun e => by subst e; exact absurd h.e.lt (Nat.lt_irrefl _)
  have nwg : wb ≠ gb := Bk.ne h.bx h.g (by decide)
  have nwh : wb ≠ hb := Bk.ne h.bx h.h (by decide)
  have nwe : wb ≠ eb := Bk.ne h.bx h.e (by decide)
  have nge : gb ≠ eb := Bk.ne h.g h.e (by decide)
  have nhe : hb ≠ eb := Bk.ne h.h h.e (by decide)
  have ngh := h.ne
  have hadd := add_cnt wb lg.length W1 c1 z1 ⟨by omega, by omega⟩
  obtain ⟨W2, hW2⟩ : ∃ X : World, X = W1.setCell ⟨wb, 1, none⟩ (.int .i64 ((lg.length : Int) + 1)) := ⟨_, rfl⟩
  have k2 : Bk W2 wb 91 [.pointer (some ⟨rb, 0, none⟩), .int .i64 ((lg.length : Int) + 1), .slice (some ⟨gb, 0, none⟩) 3 3, .slice (some ⟨hb, 0, none⟩) 3 3, .slice (some ⟨eb, 0, none⟩) 3 3] := by rw [hW2]; exact h1.bx.set_ 1 _
  have g2 : Bk W2 gb 3 (ints (cntOf lg)) := by rw [hW2]; exact h1.g.far (by simp only; omega) _
  have r2 : Bk W2 hb 3 (ints (rchOf lg)) := by rw [hW2]; exact h1.h.far (by simp only; omega) _
  have e2 : Bk W2 eb 4 (bools (endOf lg)) := by rw [hW2]; exact h1.e.far (by simp only; omega) _
  have kP2 : Bk W2 w.heap.size 76 [.int .i64 q, .int .i64 pi] := by rw [hW2]; exact kP.far (by simp only; omega) _
  have f2 : FA wb gb hb eb w W2 := by rw [hW2]; exact (FA.of_below hb1).set_ wb 1 _ (.inl rfl)
  have lP := kP2.lt
  have lW := k2.lt
  have lG := g2.lt
  have lH := r2.lt
  have lE := e2.lt
  have b0 := k2.cell 0
  have b2 := k2.cell 2
  have b3 := k2.cell 3
  have b4 := k2.cell 4
  have p0 := kP2.cell 0
  have p1 := kP2.cell 1
  simp only [List.getElem?_cons_succ, List.getElem?_cons_zero] at b0 b2 b3 b4 p0 p1
  have cg := row_cell g2 (q := q) (by rw [cntOf_len]; exact hq3)
  have cr := row_cell r2 (q := q) (by rw [rchOf_len]; exact hq3)
  have ce := row_cellB e2 (q := q) (by rw [endOf_len]; exact hq3)
  have hcb := cntOf_bd lg _ (getD_mem (cs := cntOf lg) (q := q) (by rw [cntOf_len]; exact hq3))
  obtain ⟨vg, hvg⟩ : ∃ v, (cntOf lg).getD q 0 = v := ⟨_, rfl⟩
  obtain ⟨vr, hvr⟩ : ∃ v, (rchOf lg).getD q 0 = v := ⟨_, rfl⟩
  obtain ⟨ve, hve⟩ : ∃ v, (endOf lg).getD q false = v := ⟨_, rfl⟩
  have hrp := foldR_pos lg [0, 0, 0] (by simp) _ (getD_mem (cs := rchOf lg) (q := q) (by rw [rchOf_len]; exact hq3))
  rw [hvr] at hrp
  have Hvp := Lib.hid hrp
  clear hrp
  rw [hvg] at cg hcb
  rw [hvr] at cr
  rw [hve] at ce
  have zg := g2.free q
  have zr := r2.free q
  have ze := e2.free q
  have hwg : IntKind.i64.wrap (vg + 1) = vg + 1 := IntWalk.i64_in _ (by omega)
  have hwp : IntKind.i64.wrap (pi + 1) = pi + 1 := IntWalk.i64_in _ (by omega)
  have Hadd := Lib.hid hadd
  have HW1 := Lib.hid hW1
  have HW2 := Lib.hid hW2
  have K2 := Lib.hid k2
  have G2 := Lib.hid g2
  have R2 := Lib.hid r2
  have E2 := Lib.hid e2
  have F2 := Lib.hid f2
  have Hvg := Lib.hid hvg
  have Hvr := Lib.hid hvr
  have Hve := Lib.hid hve
  have Hq := Lib.hid hq
  have Hpi := Lib.hid hpi
  have hlen : ((lg ++ [p]).length : Int) = (lg.length : Int) + 1 := by simp
  have Hlen := Lib.hid hlen
  clear hadd hW1 hW2 k2 g2 r2 e2 f2 hvg hvr hve hq hpi hlen h h1 hb1 kP kP2 c1 z1
  go_enter Try.func107, Try.ntmps107
  go_wp2_with fail
  rw [← HW1.out]
  refine Hadd.out.mono ?_
  rintro e w2 ⟨rfl, rfl⟩
  rw [← HW2.out]
  by_cases hneg : pi = -1
  · have hb' : (pi == -1) = true := by simp [hneg]
    have Hneg := Lib.hid hneg
    clear hneg
    go_wp2_with fail
    go_region
    all_goals go_wp2_with fail
    refine bodyPost_ret (results_none rfl _ _ _) rfl ⟨rfl, ?_, ?_⟩
    · refine ⟨by rw [Hlen.out]; exact K2.out.far (by simp only; omega) _, ?_, ?_, ?_, ngh⟩
      · rw [cntOf_snoc]; unfold bumpC; rw [if_neg (by rw [Hpi.out, Hneg.out]; decide)]; exact G2.out.far (by simp only; omega) _
      · rw [rchOf_snoc]; unfold bumpR; rw [Hpi.out, Hneg.out, Hq.out, Int.toNat_natCast, Hvr.out]
        have e : max vr (-1 + 1) = vr := by have := Hvp.out; omega
        rw [e, set_same (by rw [rchOf_len]; exact hq3) Hvr.out]; exact R2.out.far (by simp only; omega) _
      · rw [endOf_snoc]; unfold bumpE; rw [if_pos (by rw [Hpi.out]; exact Hneg.out), Hq.out, Int.toNat_natCast, ← bools_set]; exact E2.out.set_ q _
    · exact (F2.out.set_ eb q _ (.inr (.inr (.inr rfl)))).drew
  · have hb' : (pi == -1) = false := by simp [hneg]
    have hpos : 0 ≤ pi := by omega
    clear hneg
    have Hpos := Lib.hid hpos
    have mgh := ngh.symm
    have mwg := nwg.symm
    have mge := nge.symm
    have mPg := nPg.symm
    by_cases hgt : vr < pi + 1
    all_goals
      have hmx := hgt
      go_wp2_with fail
      go_region
      all_goals go_wp2_with fail
      go_region
      all_goals go_wp2_with fail
    all_goals go_end0
    all_goals refine ⟨rfl, ?_, ?_⟩
    all_goals first
      | exact (((F2.out.set_ gb q _ (.inr (.inl rfl))).drew).set_ hb q _ (.inr (.inr (.inl rfl)))).drew
      | skip
    all_goals
      refine ⟨by rw [Hlen.out]; exact ((K2.out.far (by simp only; omega) _).far (by simp only; omega) _), ?_, ?_, ?_, ngh⟩
    all_goals first
      | (rw [endOf_snoc]; unfold bumpE; rw [if_neg (by rw [Hpi.out]; omega)]; exact (E2.out.far (by simp only; omega) _).far (by simp only; omega) _)
      | (rw [cntOf_snoc]; unfold bumpC; rw [if_pos (by rw [Hpi.out]; exact Hpos.out), Hq.out, Int.toNat_natCast, Hvg.out, ← ints_set]; exact (G2.out.set_ q _).far (by simp only; omega) _)
      | (rw [rchOf_snoc]; unfold bumpR; rw [Hpi.out, Hq.out, Int.toNat_natCast, Hvr.out, show max vr (pi + 1) = pi + 1 by omega, ← ints_set]; exact (R2.out.far (by simp only; omega) _).set_ q _)
      | (rw [rchOf_snoc]; unfold bumpR; rw [Hpi.out, Hq.out, Int.toNat_natCast, Hvr.out, show max vr (pi + 1) = vr by omega, ← ints_set]; exact (R2.out.far (by simp only; omega) _).set_ q _)


end Go.Proofs.Ytjhdjfobbgfpfaa

/- Contracts: pulls by the program: costs: a watched pull. -/
namespace Go.Proofs.Ytjhdjfobbgfpfaa
open Go.RowKit

/-- What a watched pull may write. -/
structure FP (n0 rb cb wb gb hb eb : Nat) (w w' : World) : Prop where
  os : w'.os = w.os
  tape : w'.tape = w.tape
  output : w'.output = w.output
  size : w.heap.size ≤ w'.heap.size
  block : ∀ b, b < w.heap.size → b ≠ rb → b ≠ cb → b ≠ wb → b ≠ gb → b ≠ hb → b ≠ eb → (b < n0 ∨ ¬ IsPl w b) → w'.heap[b]? = w.heap[b]?
section
variable {n0 rb cb wb gb hb eb : Nat} {w w' v w1 : World}
theorem FP.of (h : Fr n0 rb cb w w') (k : FA wb gb hb eb w' v) : FP n0 rb cb wb gb hb eb w v :=
  ⟨k.os.trans h.os, k.tape.trans h.tape, k.output.trans h.output, Nat.le_trans h.size k.size, fun b hb h1 h2 h3 h4 h5 h6 h7 => (k.block b (Nat.lt_of_lt_of_le hb h.size) h3 h4 h5 h6).trans (h.block b hb h1 h2 h7)⟩
theorem FP.bk (h : FP n0 rb cb wb gb hb eb w w') {g : Nat} {t : TypeId} {cs : List Value} (hb' : Bk w g t cs) (ht : t ≠ 76) (h1 : g ≠ rb) (h2 : g ≠ cb) (h3 : g ≠ wb) (h4 : g ≠ gb) (h5 : g ≠ hb) (h6 : g ≠ eb) : Bk w' g t cs := (h.block g hb'.lt h1 h2 h3 h4 h5 h6 (.inr (IsPl.not hb' ht))).trans hb'
/-- A block that no closure of the run looks at. -/
def Aside (n0 rb : Nat) (w1 : World) (b : Nat) : Prop := n0 ≤ b ∧ (b < rb ∨ w1.heap.size ≤ b)
theorem Fi.fa (h : Fi n0 rb cb w1 w) (k : FA wb gb hb eb w w') (h1 : Aside n0 rb w1 wb) (h2 : Aside n0 rb w1 gb) (h3 : Aside n0 rb w1 hb) (h4 : Aside n0 rb w1 eb) : Fi n0 rb cb w1 w' := by
  obtain ⟨h1, k1⟩ := h1
  obtain ⟨h2, k2⟩ := h2
  obtain ⟨h3, k3⟩ := h3
  obtain ⟨h4, k4⟩ := h4
  exact ⟨k.os.trans h.os, k.tape.trans h.tape, k.output.trans h.output, Nat.le_trans h.size k.size, fun b hb h5 h6 h7 => (k.block b (Nat.lt_of_lt_of_le hb h.size) (by omega) (by omega) (by omega) (by omega)).trans (h.block b hb h5 h6 h7)⟩
theorem WR.fr {lg : List Pl} {rb' : Nat} {T : TypeId} {hd tl : List Value} {s : PS} (h : WR wb gb hb eb rb' lg w) (hr : RS n0 rb cb T hd tl s w) (h1 : T ≠ 91) (h2 : T ≠ 3) (h3 : T ≠ 4) (f : Fr n0 rb cb w w') : WR wb gb hb eb rb' lg w' := by
  obtain ⟨cs, hc, _⟩ := hr.cells
  obtain ⟨R, cR, hb, _⟩ := hr.box
  exact ⟨f.bk h.bx (by decide) (Bk.ne h.bx hb h1.symm) (Bk.ne h.bx hc (by decide)), f.bk h.g (by decide) (Bk.ne h.g hb h2.symm) (Bk.ne h.g hc (by decide)), f.bk h.h (by decide) (Bk.ne h.h hb h2.symm) (Bk.ne h.h hc (by decide)), f.bk h.e (by decide) (Bk.ne h.e hb h3.symm) (Bk.ne h.e hc (by decide)), h.ne⟩
theorem IsPl.ne {g b : Nat} {t : TypeId} {cs : List Value} (h : IsPl w g) (hb : Bk w b t cs) (ht : t ≠ 76) : g ≠ b := fun e => by subst e; exact IsPl.not hb ht h
theorem RS.fa {lg : List Pl} {rb' : Nat} {T : TypeId} {hd tl : List Value} {s : PS} (h : RS n0 rb cb T hd tl s w) (k : WR wb gb hb eb rb' lg w) (h1 : T ≠ 91) (h2 : T ≠ 3) (h3 : T ≠ 4) (f : FA wb gb hb eb w w') : RS n0 rb cb T hd tl s w' := by
  obtain ⟨cs, hc, hcs⟩ := h.cells
  obtain ⟨R, cR, hb, ho⟩ := h.box
  exact ⟨h.tp, h.tc, h.lop, h.loc, ⟨cs, f.bk hc (Bk.ne hc k.bx (by decide)) (Bk.ne hc k.g (by decide)) (Bk.ne hc k.h (by decide)) (Bk.ne hc k.e (by decide)), hcs⟩, ⟨R, cR, f.bk hb (Bk.ne hb k.bx h1) (Bk.ne hb k.g h2) (Bk.ne hb k.h h2) (Bk.ne hb k.e h3), ho.keep fun g hg hp => f.block g hg (hp.ne k.bx (by decide)) (hp.ne k.g (by decide)) (hp.ne k.h (by decide)) (hp.ne k.e (by decide))⟩⟩
end
/-- The pulls of a run, read where they lie. -/
theorem OwnG.rdg {w : World} {base c : Nat} {R : Option Addr} {l : List Pl} (h : OwnG w base R c l) (hl : 0 < l.length) : ∃ g cs, R = some ⟨g, 0, none⟩ ∧ Bk w g 76 cs ∧ l.length ≤ c ∧ ∀ (k : Nat) (x : Pl), l[k]? = some x → cs[k * 2]? = some (.int .i64 x.s) ∧ cs[k * 2 + 1]? = some (.int .i64 x.i) := by
  obtain ⟨_, ⟨_, h0⟩ | ⟨g, cap, cur, hv, hb, hh, hn, _, _, ht⟩⟩ := h
  · omega
  · injection hv with hA _ hc
    subst hc
    refine ⟨g, cur.toList, hA, by unfold Bk; simpa using hh, hn, fun k x hx => ?_⟩
    have hk : k < l.length := (List.getElem?_eq_some_iff.1 hx).1
    obtain ⟨p0, p1⟩ := pls_at hx
    have e : ∀ j, j < l.length * 2 → cur.toList[j]? = (pls l)[j]? := fun j hj => by rw [← ht, List.getElem?_take_of_lt (by omega)]
    exact ⟨by rw [e _ (by omega)]; exact p0, by rw [e _ (by omega)]; exact p1⟩
/-- A watched pull's premises. -/
structure Wat (n0 rb cb N : Nat) (l : List Nd) (src : List (List Int)) (w1 : World) (wb gb hb eb : Nat) (fe : Value) (s : PS) (W : World) : Prop where
  fr : Fi n0 rb cb w1 W
  iw : IW n0 rb cb N N fe s W
  wr : WR wb gb hb eb rb s.lg W
  ok : StOk l src s.cs
  lg : s.lg.length + s.W l src ≤ 65536
  si : SInv l src s
  b1 : Aside n0 rb w1 wb
  b2 : Aside n0 rb w1 gb
  b3 : Aside n0 rb w1 hb
  b4 : Aside n0 rb w1 eb

set_option maxRecDepth 100000 in
set_option maxHeartbeats 6400000 in
theorem wpull_any {n0 rb cb N : Nat} {l : List Nd} {src : List (List Int)} {j : Nat} {f : PF} (hF : Fine l src j f) (hG : GrowF l src f) {kf : FuncId} {lb : Array Value} (eg : ∀ (args : Array Value) (w : World), (callFunc kf args).run Try.prog w = .ok (.enter kf args) w) {w1 : World} (pu : Pulls n0 rb cb N N l src f kf lb w1) (h12 : Hid (∀ r ∈ src, r.length ≤ 12)) {wb gb hb eb : Nat} (s : PS) (W : World) (h : Wat n0 rb cb N l src w1 wb gb hb eb (.func (.func kf) #[] lb) s W) :
    Calls Try.prog 90 #[.pointer (some ⟨wb, 0, none⟩)] W fun e w' => e = .returned (tup (f s).2) ∧ Wat n0 rb cb N l src w1 wb gb hb eb (.func (.func kf) #[] lb) (f s).1 w' ∧ FP n0 rb cb wb gb hb eb W w' := by
  obtain ⟨s2, op, hfs⟩ : ∃ s2 o, f s = (s2, o) := ⟨_, _, rfl⟩
  have hcall := pu _ s W h.fr h.iw h.ok h.lg
  have hfine := hF s h.ok
  have hgrow := hG s h.si
  rw [hfs] at hcall hfine hgrow
  rw [hfs]
  obtain ⟨si2, more, elg, hgood⟩ := hgrow
  obtain ⟨xv, hxv⟩ : ∃ v, op.getD 0 = v := ⟨_, rfl⟩
  obtain ⟨bv, hbv⟩ : ∃ v, op.isSome = v := ⟨_, rfl⟩
  have ht : tup op = .tuple #[.int .i64 xv, .bool bv] := by unfold tup; rw [hxv, hbv]
  have c0 := h.wr.bx.cell 0
  obtain ⟨R1, cR1, kb1, _⟩ := RS.box h.iw
  have r2 := kb1.cell 2
  have l0 := h.wr.bx.lt
  have l1 := kb1.lt
  simp only [List.cons_append, List.nil_append, List.getElem?_cons_succ, List.getElem?_cons_zero] at c0 r2
  have H := Lib.hid h
  have Hcall := Lib.hid hcall
  have Hfine := Lib.hid hfine
  have Hsi2 := Lib.hid si2
  have Helg := Lib.hid elg
  have Hgood := Lib.hid hgood
  have Ht := Lib.hid ht
  clear h hcall hfine si2 elg hgood hF hG pu hfs ht kb1 hxv hbv
  go_enter Try.func90, Try.ntmps90
  go_wp2_with fail
  refine Hcall.out.mono ?_
  rintro e w2 ⟨rfl, iw2, fr2⟩
  rw [Ht.out]
  have wr2 := H.out.wr.fr H.out.iw (by decide) (by decide) (by decide) fr2
  obtain ⟨R2, cR2, kb2, og2⟩ := RS.box iw2
  have d0 := wr2.bx.cell 0
  have d1 := wr2.bx.cell 1
  have d2 := kb2.cell 1
  have m0 := wr2.bx.lt
  have m1 := kb2.lt
  simp only [List.cons_append, List.nil_append, List.getElem?_cons_succ, List.getElem?_cons_zero] at d0 d1 d2
  have Hwr2 := Lib.hid wr2
  have Hiw2 := Lib.hid iw2
  have Hfr2 := Lib.hid fr2
  have Hog2 := Lib.hid og2
  obtain ⟨t, htl⟩ : ∃ t, s.lg.length = t := ⟨_, rfl⟩
  obtain ⟨m, hml⟩ : ∃ m, more.length = m := ⟨_, rfl⟩
  have hl2 : s2.lg.length = t + m := by rw [Helg.out, List.length_append, htl, hml]
  have htm : t + m ≤ 65536 := by have := Hfine.out.wle; have := H.out.lg; simp only at *; omega
  rw [htl] at d1
  rw [hl2] at d2
  have Htl := Lib.hid htl
  have Hml := Lib.hid hml
  have Hl2 := Lib.hid hl2
  clear wr2 iw2 fr2 og2 kb2 c0 r2 l0 l1 htl hml hl2
  go_wp2_with fail
  go_cut [30, 31, 32] from 19 to 32 (fun s30 s31 s32 wx => ∃ ad cp, s30 = .slice ad m cp ∧ s31 = .int .i64 m ∧ s32 = .int .i64 0 ∧ (0 < m → ∃ g, R2 = some ⟨g, 0, none⟩ ∧ ad = some ⟨g, t * 2, none⟩) ∧ Below w2.heap.size w2 wx)
  case first =>
    have i0 : (0 : Int) ≤ (t : Int) := by omega
    have i1 : (t : Int) ≤ ((t + m : Nat) : Int) := by omega
    by_cases hm : 0 < m
    · obtain ⟨g, cs, hR, _, hcap, _⟩ := Hog2.out.rdg (by rw [Hl2.out]; omega)
      rw [Hl2.out] at hcap
      subst hR
      have i2 : ((t + m : Nat) : Int) ≤ (cR2 : Int) := by omega
      have i3 : (t : Int) ≤ (cR2 : Int) := by omega
      have i6 : (t : Int) ≤ (t : Int) + (m : Int) := by omega
      have i7 : (t : Int) + (m : Int) ≤ (cR2 : Int) := by omega
      have i4 : ¬ (cR2 : Int) = (t : Int) := by omega
      have i5 : cR2 ≠ t := by omega
      go_region_held3 (fun w' => w'.cell? ⟨wb, 0, none⟩ = some (.pointer (some ⟨rb, 0, none⟩)) ∧ w'.cell? ⟨rb, 1, none⟩ = some (.slice (some ⟨g, 0, none⟩) (t + m) cR2) ∧ w'.cell? ⟨wb, 1, none⟩ = some (.int .i64 t)) (first | exact ⟨d0, d2, d1⟩ | exact ks | go_keep)
        (first
          | (
            go_at_call 70
            refine (load_cnt wb t w2.drew d1).mono ?_
            rintro e w4 ⟨rfl, rfl⟩
            have ks := And.intro d0 (And.intro d2 d1))
        )
      go_wp2_with fail
      go_meet
      case rel => exact ⟨_, _, rfl, rfl, rfl, fun _ => ⟨g, rfl, rfl⟩, (Below.refl _ _).drew⟩
    · obtain rfl : m = 0 := by omega
      have hcap : t ≤ cR2 := by
        obtain ⟨_, ⟨hv, h0⟩ | ⟨g, cap, cur, hv, _, _, hn, _⟩⟩ := Hog2.out
        · rw [Hl2.out] at h0; omega
        · injection hv with _ _ hc; rw [Hl2.out] at hn; omega
      by_cases hct : cR2 = t
      · obtain rfl := hct.symm
        have i2 : (t : Int) ≤ (t : Int) := Int.le_refl _
        cases hR2 : R2 with
        | none =>
          rw [hR2] at d2
          go_region_held3 (fun w' => w'.cell? ⟨wb, 0, none⟩ = some (.pointer (some ⟨rb, 0, none⟩)) ∧ w'.cell? ⟨rb, 1, none⟩ = some (.slice none (t + 0) t) ∧ w'.cell? ⟨wb, 1, none⟩ = some (.int .i64 t)) (first | exact ⟨d0, d2, d1⟩ | exact ks | go_keep)
            (first
              | (
                go_at_call 70
                refine (load_cnt wb t w2.drew d1).mono ?_
                rintro e w4 ⟨rfl, rfl⟩
                have ks := And.intro d0 (And.intro d2 d1))
            )
          go_wp2_with fail
          go_meet
          case rel => exact ⟨_, _, rfl, rfl, rfl, fun h => absurd h (Nat.lt_irrefl _), (Below.refl _ _).drew⟩
        | some ad =>
          rw [hR2] at d2
          go_region_held3 (fun w' => w'.cell? ⟨wb, 0, none⟩ = some (.pointer (some ⟨rb, 0, none⟩)) ∧ w'.cell? ⟨rb, 1, none⟩ = some (.slice (some ad) (t + 0) t) ∧ w'.cell? ⟨wb, 1, none⟩ = some (.int .i64 t)) (first | exact ⟨d0, d2, d1⟩ | exact ks | go_keep)
            (first
              | (
                go_at_call 70
                refine (load_cnt wb t w2.drew d1).mono ?_
                rintro e w4 ⟨rfl, rfl⟩
                have ks := And.intro d0 (And.intro d2 d1))
            )
          go_wp2_with fail
          go_meet
          case rel => exact ⟨_, _, rfl, rfl, rfl, fun h => absurd h (Nat.lt_irrefl _), (Below.refl _ _).drew⟩
      · have i2 : (t : Int) ≤ (cR2 : Int) := by omega
        have i4 : ¬ (cR2 : Int) = (t : Int) := by omega
        obtain ⟨ad, hR2⟩ : ∃ ad, R2 = some ad := by
          obtain ⟨_, ⟨hv, h0⟩ | ⟨g, cap, cur, hv, _⟩⟩ := Hog2.out
          · injection hv with _ _ hc; omega
          · injection hv with hA; exact ⟨_, hA⟩
        rw [hR2] at d2
        go_region_held3 (fun w' => w'.cell? ⟨wb, 0, none⟩ = some (.pointer (some ⟨rb, 0, none⟩)) ∧ w'.cell? ⟨rb, 1, none⟩ = some (.slice (some ad) (t + 0) cR2) ∧ w'.cell? ⟨wb, 1, none⟩ = some (.int .i64 t)) (first | exact ⟨d0, d2, d1⟩ | exact ks | go_keep)
          (first
            | (
              go_at_call 70
              refine (load_cnt wb t w2.drew d1).mono ?_
              rintro e w4 ⟨rfl, rfl⟩
              have ks := And.intro d0 (And.intro d2 d1))
          )
        go_wp2_with fail
        go_meet
        case rel => exact ⟨_, _, rfl, rfl, rfl, fun h => absurd h (Nat.lt_irrefl _), (Below.refl _ _).drew⟩
  case rest =>
    obtain ⟨ad, cp, rfl, rfl, rfl, had, hbx⟩ := hcut
    have Had := Lib.hid had
    have Hbx := Lib.hid hbx
    clear had hbx d0 d1 d2 m0 m1
    go_wp2_with fail
    go_loopw [32] (fun iv wr => ∃ jj : Nat, jj ≤ m ∧ iv = .int .i64 jj ∧ WR wb gb hb eb rb (s.lg ++ more.take jj) wr ∧ FA wb gb hb eb w2 wr) (fun iv _ => m - (intOf iv).toNat)
    case atStart => exact ⟨0, Nat.zero_le _, rfl, by rw [List.take_zero, List.append_nil]; exact Hwr2.out.below Hbx.out, FA.of_below Hbx.out⟩
    case round =>
      obtain ⟨jj, hjj, rfl, hwr, hfa⟩ := hrel
      have Hwr := Lib.hid hwr
      have Hfa := Lib.hid hfa
      have hzf := hfa.size
      clear hwr hfa
      by_cases hlt : jj < m
      · obtain ⟨g, hR, rfl⟩ := Had.out (by omega)
        subst hR
        obtain ⟨g', cs, hg', hbg, hcap, hread⟩ := Hog2.out.rdg (by rw [Hl2.out]; omega)
        obtain rfl : g = g' := by injection hg' with e; injection e
        obtain ⟨p, hp⟩ : ∃ p, more[jj]? = some p := ⟨_, List.getElem?_eq_getElem (by rw [Hml.out]; exact hlt)⟩
        have hp2 : s2.lg[t + jj]? = some p := by rw [Helg.out, List.getElem?_append_right (by rw [Htl.out]; omega), Htl.out, show t + jj - t = jj by omega]; exact hp
        obtain ⟨q0, q1⟩ := hread _ _ hp2
        have hbgr : Bk wr g 76 cs := Hfa.out.bk hbg (Bk.ne hbg Hwr2.out.bx (by decide)) (Bk.ne hbg Hwr2.out.g (by decide)) (Bk.ne hbg Hwr2.out.h (by decide)) (Bk.ne hbg Hwr2.out.e (by decide))
        have y0 := hbgr.cell ((t + jj) * 2)
        have y1 := hbgr.cell ((t + jj) * 2 + 1)
        rw [q0] at y0
        rw [q1] at y1
        have lg0 := hbgr.lt
        have hj1 : (jj : Int) < (m : Int) := by omega
        have hj0 : (0 : Int) ≤ (jj : Int) := by omega
        have eoff : t * 2 + jj * 2 = (t + jj) * 2 := by omega
        rw [← eoff] at y0 y1
        have Hp := Lib.hid hp
        clear hg' hbg hcap hread hp2 q0 q1 hbgr eoff hp
        go_wp2_with fail
        have hlen : (s.lg ++ more.take jj).length ≤ 65536 := by
          rw [List.length_append, Htl.out, List.length_take, Hml.out]; omega
        refine (account_any h12 hlen p (Hgood.out p (List.mem_of_getElem? Hp.out)) (wr.alloc (.cells #[.int .i64 p.s, .int .i64 p.i] 76)) (Hwr.out.below ((Below.refl _ _).alloc (Nat.le_refl _) _))).mono ?_
        rintro e w5 ⟨rfl, wr5, fa5⟩
        have Hwr5 := Lib.hid wr5
        have Hfa5 := Lib.hid ((Hfa.out.alloc _).trans fa5)
        clear wr5 fa5 y0 y1 hlen
        go_wp2_with fail
        go_roundw
        case rel => exact ⟨jj + 1, by omega, by go_num, by rw [take_succ_of Hp.out, ← List.append_assoc]; exact Hwr5.out, Hfa5.out⟩
        case measure => simp [intOf]; omega
      · obtain rfl : jj = m := by omega
        go_wp2_with fail
        refine bodyPost_ret (v := .tuple #[.int .i64 xv, .bool bv]) (by simp [results, Try.results90, go_sem]) rfl ⟨by rw [Ht.out], ?_, FP.of Hfr2.out Hfa.out⟩
        have hall : s.lg ++ more.take jj = s2.lg := by rw [Helg.out, ← Hml.out, List.take_length]
        exact ⟨(H.out.fr.trans Hfr2.out).fa Hfa.out H.out.b1 H.out.b2 H.out.b3 H.out.b4, RS.fa Hiw2.out Hwr2.out (by decide) (by decide) (by decide) Hfa.out, by rw [← hall]; exact Hwr.out, Hfine.out.ok, Nat.le_trans Hfine.out.wle H.out.lg, Hsi2.out, H.out.b1, H.out.b2, H.out.b3, H.out.b4⟩


end Go.Proofs.Ytjhdjfobbgfpfaa

/- Contracts: pulls by the program: costs: a watched end, before the first pull. -/
namespace Go.Proofs.Ytjhdjfobbgfpfaa
open Go.RowKit

theorem Bk.newI {w : World} {g : Nat} (hg : g = w.heap.size) : Bk (w.alloc (.cells #[.int .i64 0, .int .i64 0, .int .i64 0] 3)) g 3 (ints (cntOf [])) := by subst hg; exact Bk.new w _ [_, _, _]
theorem Bk.newB {w : World} {g : Nat} (hg : g = w.heap.size) : Bk (w.alloc (.cells #[.bool false, .bool false, .bool false] 4)) g 4 (bools (endOf [])) := by subst hg; exact Bk.new w _ [_, _, _]
theorem CsAt.below {w w' : World} {n0 cb : Nat} {cs : List Cl} (h : CsAt w n0 cb cs) (hb : Below w.heap.size w w') : CsAt w' n0 cb cs := by
  obtain ⟨h1, vs, h2, h3⟩ := h
  exact ⟨h1, vs, h2.below hb h2.lt, h3⟩
/-- A watched end before the first pull. -/
def WatN (n0 : Nat) (l : List Nd) (src : List (List Int)) (G : PF) (wb : Nat) (W' : World) : Prop :=
  ∃ rb cb kf lb gb hb eb w1, (∀ (args : Array Value) (w : World), (callFunc kf args).run Try.prog w = .ok (.enter kf args) w) ∧ Pulls n0 rb cb l.length l.length l src G kf lb w1 ∧ Wat n0 rb cb l.length l src w1 wb gb hb eb (.func (.func kf) #[] lb) (newPS l.length) W'
theorem WatN.mk {n0 : Nat} {l : List Nd} {src : List (List Int)} {G : PF} {rb cb gb hb eb : Nat} {kf : FuncId} {lb : Array Value} {w1 W V : World} (eg : ∀ (args : Array Value) (w : World), (callFunc kf args).run Try.prog w = .ok (.enter kf args) w) (pu : Pulls n0 rb cb l.length l.length l src G kf lb w1) (iw : IW n0 rb cb l.length l.length (.func (.func kf) #[] lb) (newPS l.length) w1) (hW : Below w1.heap.size w1 W)
    (g : Bk W gb 3 (ints (cntOf []))) (h : Bk W hb 3 (ints (rchOf []))) (e : Bk W eb 4 (bools (endOf []))) (ne : gb ≠ hb) (a2 : Aside n0 rb w1 gb) (a3 : Aside n0 rb w1 hb) (a4 : Aside n0 rb w1 eb)
    (ok : StOk l src (newPS l.length).cs) (hw : (newPS l.length).W l src ≤ 65536) (hn : n0 ≤ w1.heap.size) (hV : V = W.alloc (.cells #[.pointer (some ⟨rb, 0, none⟩), .int .i64 0, .slice (some ⟨gb, 0, none⟩) 3 3, .slice (some ⟨hb, 0, none⟩) 3 3, .slice (some ⟨eb, 0, none⟩) 3 3] 91)) {wb : Nat} (hwb : wb = W.heap.size) : WatN n0 l src G wb V := by
  subst hV hwb
  have hal : Below W.heap.size W (W.alloc (.cells #[.pointer (some ⟨rb, 0, none⟩), .int .i64 0, .slice (some ⟨gb, 0, none⟩) 3 3, .slice (some ⟨hb, 0, none⟩) 3 3, .slice (some ⟨eb, 0, none⟩) 3 3] 91)) := (Below.refl _ _).alloc (Nat.le_refl _) _
  exact ⟨rb, cb, kf, lb, gb, hb, eb, w1, eg, pu, ⟨((Fr.of_below hW).trans (Fr.of_below hal)).fi, (RS.below iw hW).below hal, ⟨Bk.new _ _ [_, _, _, _, _], g.alloc _, h.alloc _, e.alloc _, ne⟩, ok, by simpa [newPS] using hw, newPS_sinv, ⟨Nat.le_trans hn hW.size, .inr hW.size⟩, a2, a3, a4⟩⟩

end Go.Proofs.Ytjhdjfobbgfpfaa

/- A region that draws its order, by what holds between its operations: each operation is shown once, whatever was done before it. -/
namespace Go.Proofs.Ytjhdjfobbgfpfaa

/-- Between two operations I holds, n operations being left. -/
theorem wpAny_inv {P : Program} {md : Region.Mode} {ops : Array Oper} {Q : Exit → Act → World → Prop} {I : Nat → Array Bool → Act → World → Prop}
    (h0 : ∀ listed a w, I 0 listed a w → Region.ready md ops listed = [])
    (hd : ∀ n listed a w, I n listed a w → Region.ready md ops listed = [] → Q .normal a w)
    (hs : ∀ n listed a w, I (n + 1) listed a w → ∀ i ∈ Region.ready md ops listed, wpOp P ops Q i (I n (listed.setIfInBounds i true)) a w) :
    ∀ n listed a w, I n listed a w → wpAny P md ops Q n listed a w
  | 0, _, _, _, h => ⟨h0 _ _ _ h, hd _ _ _ _ h (h0 _ _ _ h)⟩
  | n + 1, _, _, _, h => ⟨fun hr => hd _ _ _ _ h hr, fun i hi => wpOp_mono (fun a w hI => wpAny_inv h0 hd hs n _ a w hI) (hs n _ _ _ h i hi)⟩
/-- An operation without a guard. -/
theorem wpOp_of {P : Program} {ops : Array Oper} {Q : Exit → Act → World → Prop} {i : Nat} {o : Oper} {K : Act → World → Prop} {a : Act} {w : World} (ho : ops[i]? = some o) (hg : o.guard = none)
    (h : ∀ K' : Act → World → Prop, (∀ a w, K a w → K' a w) → o.wp P a w K' Q) : wpOp P ops Q i K a w := by
  unfold wpOp
  rw [ho]
  simp only [Region.wanted, hg, if_true]
  exact .inl (h K fun _ _ h => h)
/-- What is ready is not done yet, and all that it waits for is. -/
theorem ready_mem {md : Region.Mode} {ops : Array Oper} {listed : Array Bool} {i : Nat} (h : i ∈ Region.ready md ops listed) :
    i < ops.size ∧ listed.getD i true = false ∧ ((ops[i]?).map (·.after.all fun e => !Region.binds md e || listed.getD e.on false)).getD false = true := by
  unfold Region.ready at h
  rw [List.mem_filter, List.mem_range, Bool.and_eq_true] at h
  exact ⟨h.1, by simpa using h.2.1, h.2.2⟩

end Go.Proofs.Ytjhdjfobbgfpfaa
