/- Texts on the program and its reference, put together (LiE, LiF, LiG, LiH, LsI, LsJ, LsK, LiL, TA, LiM, LiN, LiO, LiP, ClM, NodeE, ClC, State, New, SrcB, VSa, VSb, VSc, LsL, LiQ, Rf, BatA, RowM, OpenN, Open). -/
import Derived.Test.YtnmekcifbmcdpaaGLawListB
import Derived.Lib.AppendZerosOnto
import Derived.Deep.QuietTactic
import Derived.BigQuiet
import Derived.Deep.RegionHeld3
import Derived.Laws.MakeOwn
import Derived.OwnWalk
import Derived.Deep.RegionWith
import Derived.Deep.DeepMust
import Derived.Lib.QuietBelow
import Derived.RangeFuncNested
import Derived.RangeFuncBound
import Derived.RangeFuncCalls
import Derived.RangeFuncLeaves
import Derived.Shelf.RegionOpen
import Derived.Shelf.Abstract
import Derived.TacticsInMore
import Derived.LoopNIn
import Derived.LoopIn
import Derived.OwnWalkIn
import Derived.ProofKit
import Derived.OpenShut
import Derived.ChangeOld
import Derived.Deep.Slices
import Derived.Deep.Fields
import Derived.ShutString
import Derived.Below
import Derived.Deep.Matrix
/- Contracts: slices put one behind the other (the library's function; what Grow gives is asked of it). -/
namespace Go.Proofs.Ytnmekcifbmcdpaa
open Go.RowKit

/-- What is asked of the library's Grow at a slice that is not there. -/
def GrowOk : Prop := ∀ (W : World) (n : Nat), n ≤ 1048576 → Calls Try.prog 139 #[.slice none 0 0, .int .i64 n] W fun e w' => ∃ R c, e = .returned (.slice R 0 c) ∧ OwnV w' W.heap.size R c [] ∧ Below W.heap.size W w'

theorem flat_succ {rows : List (List Int)} {k : Nat} {r : List Int} (h : rows[k]? = some r) : (rows.take (k + 1)).flatten = (rows.take k).flatten ++ r := by
  rw [take_succ_of h, List.flatten_append]; simp

set_option maxRecDepth 100000 in
set_option maxHeartbeats 3200000 in
theorem concat_any (hG : GrowOk) (A : Option Addr) (c : Nat) (rows : List (List Int)) (w : World) (B : Nat) (h : RdR w B A rows) (hB : B ≤ w.heap.size) (hn : rows.length ≤ 1048576) (hsz : (rows.map List.length).sum ≤ 1048576) :
    Calls Try.prog 121 #[.slice A rows.length c] w fun e w' => ∃ R cR, e = .returned (.slice R rows.flatten.length cR) ∧ OwnV w' w.heap.size R cR rows.flatten ∧ Below w.heap.size w w' := by
  have H := Lib.hid h
  have HG := Lib.hid hG
  have Hsz := Lib.hid hsz
  clear h hG hsz
  go_enter Try.func121, Try.ntmps121
  go_wp2_with fail
  go_loop [3, 11] (fun su i => ∃ j : Nat, j ≤ rows.length ∧ i = .int .i64 j ∧ su = .int .i64 (((rows.take j).map List.length).sum : Nat)) (fun _ i => rows.length - (intOf i).toNat)
  case atStart => exact ⟨0, Nat.zero_le _, rfl, rfl⟩
  case round =>
    obtain ⟨j, hj, rfl, rfl⟩ := hrel
    have hle := Nat.le_trans (sum_take_le rows j) Hsz.out
    by_cases hlt : j < rows.length
    · obtain ⟨ad, r, Ar, cr, rfl, hr, hc, _⟩ := H.out.at_ hlt
      have hs2 := sum_take_succ hr
      have hle2 := Nat.le_trans (sum_take_le rows (j + 1)) Hsz.out
      rw [hs2] at hle2
      have Hs2 := Lib.hid hs2
      clear hr hs2
      obtain ⟨s, hs⟩ : ∃ s, ((rows.take j).map List.length).sum = s := ⟨_, rfl⟩
      rw [hs] at hle hle2 Hs2
      rw [hs]
      clear hs
      go_wp2_with fail
      go_round
      case rel => exact ⟨j + 1, by omega, by go_num, by rw [Hs2.out]; go_num⟩
      case measure => simp [intOf]; omega
    · obtain rfl : j = rows.length := by omega
      rw [List.take_of_length_le (Nat.le_refl _)] at hle
      rw [List.take_of_length_le (Nat.le_refl _)]
      have HC := Lib.hid (HG.out w (rows.map List.length).sum Hsz.out)
      go_wp2_with fail
      refine HC.out.mono ?_
      rintro e w1 ⟨R0, c0, rfl, ho0, hb0⟩
      have Ho0 := Lib.hid ho0
      have Hb0 := Lib.hid hb0
      have hz0 := hb0.size
      clear ho0 hb0 HC
      go_wp2_with fail
      go_loopw [6, 27] (fun sl i wr => ∃ j : Nat, j ≤ rows.length ∧ i = .int .i64 j ∧ (∃ R cR, sl = .slice R (rows.take j).flatten.length cR ∧ OwnV wr w.heap.size R cR (rows.take j).flatten) ∧ Below w.heap.size w wr) (fun _ i _ => rows.length - (intOf i).toNat)
      case atStart => exact ⟨0, Nat.zero_le _, rfl, ⟨R0, c0, rfl, Ho0.out⟩, Hb0.out⟩
      case round =>
        obtain ⟨j, hj, rfl, ⟨R, cR, rfl, ho⟩, hb⟩ := hrel
        have hz := hb.size
        have hfl : (rows.take j).flatten.length ≤ 1048576 := by rw [List.length_flatten]; exact Nat.le_trans (sum_take_le rows j) Hsz.out
        have H2 := Lib.hid (H.out.below hb hB)
        have Ho := Lib.hid ho
        have Hbw := Lib.hid hb
        clear ho hb
        by_cases hlt : j < rows.length
        · obtain ⟨ad, r, Ar, cr, rfl, hr, hc, hri⟩ := H2.out.at_ hlt
          have HF := Lib.hid (flat_succ hr)
          have hfl2 : (rows.take j).flatten.length + r.length ≤ 1048576 := by
            have := Nat.le_trans (sum_take_le rows (j + 1)) Hsz.out
            rw [sum_take_succ hr] at this
            rw [List.length_flatten]
            exact this
          have Hri := Lib.hid hri
          clear hr hri
          obtain ⟨q, hq⟩ : ∃ q, (rows.take j).flatten = q := ⟨_, rfl⟩
          rw [hq] at Ho HF hfl hfl2
          rw [hq]
          clear hq
          go_wp2_with (at_builtin; go_must (refine wpList_append_ints rfl _ _ rfl w.heap.size R cR q q.length rfl rfl Ho.out Ar cr r r.length B rfl rfl Hri.out (by omega) hz ?_; intro R2 c2 w2 ho2 hg2); have Ho2 := Lib.hid ho2; have Hg2 := Lib.hid hg2; clear ho2 hg2)
          go_roundw
          case rel => exact ⟨j + 1, by omega, by go_num, ⟨R2, c2, by rw [HF.out, List.length_append], by rw [HF.out]; exact Ho2.out⟩, Hbw.out.grown Hg2.out hz (fun g hg => (Ho.out.row_lt g hg).1)⟩
          case measure => simp [intOf]; omega
        · obtain rfl : j = rows.length := by omega
          rw [List.take_of_length_le (Nat.le_refl _)] at Ho
          rw [List.take_of_length_le (Nat.le_refl _)]
          go_wp2_with fail
          go_ret
          exact ⟨R, cR, rfl, Ho.out, Hbw.out⟩

end Go.Proofs.Ytnmekcifbmcdpaa

/- Contracts: what the library's Grow gives at a slice that is not there. -/
namespace Go.Proofs.Ytnmekcifbmcdpaa
open Go.RowKit

theorem wpList_append_zeros {ops : Array Oper} {rest : List Oper} {o : Oper} {a : Act} {Q : Exit → Act → World → Prop} {w : World} (hgd : o.guard = none) (s y : Operand)
    (ho : o.op = .call { callee := .builtin .append, args := #[s, y], argTypes := #[28, 3] }) (n : Nat) (hs : a.eval s = .slice none 0 0) (hx : a.eval y = .int .i64 n) (G : Nat) (Z : Array Value)
    (hr : ∀ ty, (Builtin.append_ #[28, 3] ty #[.slice none 0 0, .int .i64 n]).run Try.prog w = .ok (.slice (some ⟨w.heap.size, 0, none⟩) n G) (w.drew.alloc (.cells Z 3)))
    (h : wpList Try.prog ops Q rest (a.put o.dst (.slice (some ⟨w.heap.size, 0, none⟩) n G)) (w.drew.alloc (.cells Z 3))) : wpList Try.prog ops Q (o :: rest) a w := by
  refine wpList_plain hgd fun K hK => ?_
  unfold Oper.wp execOp
  simp only [ho, resolve, invoke, builtin, Sem.run_bind, Sem.run_pure, Result.andThen_ok, List.map_toArray, List.map_cons, List.map_nil, hs, hx, hr]
  exact hK _ _ h

set_option maxRecDepth 100000 in
set_option maxHeartbeats 3200000 in
theorem growOk : GrowOk := fun w n hn => by
  obtain ⟨i, hi, hz0, hz1, hz2⟩ := info_parts Try.infoInt
  by_cases h0 : n = 0
  · subst h0
    clear hz2 hz1 hz0 hi
    go_enter Try.func139, Try.ntmps139
    go_wp2
    go_ret
    exact ⟨none, 0, rfl, .inl ⟨rfl, rfl, rfl⟩, Below.refl _ _⟩
  · have hpos : 0 < (n : Int) := by omega
    have hold : (Builtin.firstCells i.size 0 (.slice none 0 0)).run Try.prog w.drew = .ok (#[] : Array Value) w.drew := run_firstCells_none w.drew i.size 0 0 0
    have hrz : ∀ ty, (Builtin.append_ #[28, 3] ty #[.slice none 0 0, .int .i64 n]).run Try.prog w = .ok (.slice (some ⟨w.heap.size, 0, none⟩) n (grownCap w n 0 3)) (w.drew.alloc (.cells (Builtin.zeroCells (Value.cells (.int .i64 0)) n ++ Builtin.zeroCells (Value.cells (.int .i64 0)) (grownCap w n 0 3 - n)) 3)) := fun ty => by
      have h := Lib.run_append_grow_zeros (P := Try.prog) w 28 3 ty 3 i _ .i64 .i64 Try.underlying28 Try.underlying3 hi hz0 none 0 0 [] hold n (by omega) (by omega) (by omega) (by omega) (by rw [hz2]; omega) (by rw [hz2]; exact growslice_fits (by omega) (by omega))
      simpa using h
    have hge := grownCap_ge w n 0 3
    obtain ⟨G, hG⟩ : ∃ G, G = grownCap w n 0 3 := ⟨_, rfl⟩
    rw [← hG] at hrz hge
    obtain ⟨Z, hZ⟩ : ∃ Z, Z = Builtin.zeroCells (Value.cells (.int .i64 0)) n ++ Builtin.zeroCells (Value.cells (.int .i64 0)) (G - n) := ⟨_, rfl⟩
    have hZs : Z.size = G := by rw [hZ]; simp [size_zeroCells, Value.cells]; omega
    rw [← hZ] at hrz
    clear hG hZ hold hz2 hz1 hz0 hi
    go_enter Try.func139, Try.ntmps139
    have Hrz := Lib.hid hrz
    clear hrz
    go_wp2_with (at_builtin; go_must (refine wpList_append_zeros rfl _ _ rfl n rfl rfl G Z Hrz.out ?_))
    go_ret
    refine ⟨some ⟨w.heap.size, 0, none⟩, G, rfl, .inr ⟨w.heap.size, 0, Z.toList, rfl, Nat.le_refl _, ?_, by simp; omega, by simp, fun k x hx => by simp at hx⟩, ?_⟩
    · unfold Bk
      rw [Array.toArray_toList]
      exact heap_alloc_new w.drew _
    · exact (Below.refl _ _).drew.alloc (Nat.le_refl _) _

end Go.Proofs.Ytnmekcifbmcdpaa

/- Contracts: two lists merged, by the program. -/
namespace Go.Proofs.Ytnmekcifbmcdpaa
open Go.RowKit

/-- The length of a slice. -/
def slLen : Value → Nat
  | .slice _ n _ => n
  | _ => 0
theorem OwnV.form {w : World} {base c : Nat} {A : Option Addr} {x : Int} {l : List Int} (h : OwnV w base A c (x :: l)) : ∃ g o, A = some ⟨g, o, none⟩ ∧ w.cell? ⟨g, o, none⟩ = some (.int .i64 x) ∧ g < w.heap.size ∧ base ≤ g ∧ l.length + 1 ≤ c := by
  rcases h with ⟨_, _, h⟩ | ⟨g, o, cs, hA, hb, hbk, h1, h2, hc⟩
  · cases h
  · exact ⟨g, o, hA, by rw [hbk.cell]; exact hc 0 x rfl, hbk.lt, hb, h2⟩
theorem OwnV.cell0 {w : World} {base c g o : Nat} {x : Int} {l : List Int} (h : OwnV w base (some ⟨g, o, none⟩) c (x :: l)) : w.cell? ⟨g, o, none⟩ = some (.int .i64 x) := by
  obtain ⟨g', o', e, h2, _⟩ := h.form
  injection e with e
  injection e with e1 e2
  subst e1 e2
  exact h2
theorem OwnV.tail {w : World} {base c g o : Nat} {x : Int} {l : List Int} (h : OwnV w base (some ⟨g, o, none⟩) c (x :: l)) : OwnV w base (some ⟨g, o + 1, none⟩) (c - 1) l := h.drop 1 (by simp)
theorem OwnV.tail0 {w : World} {base g o : Nat} {x : Int} {l : List Int} (h : OwnV w base (some ⟨g, o, none⟩) 1 (x :: l)) : OwnV w base (some ⟨g, o, none⟩) 0 l := h.drop0 1 (by simp) (Nat.le_refl _)

set_option maxRecDepth 100000 in
set_option maxHeartbeats 12800000 in
theorem implMerged_any (A : Option Addr) (c : Nat) (a : List Int) (A2 : Option Addr) (c2 : Nat) (b : List Int) (w : World) (base : Nat) (ha : OwnV w base A c a) (hb : OwnV w base A2 c2 b) (hn : a.length ≤ 65536) (hn2 : b.length ≤ 65536) :
    Calls Try.prog 123 #[.slice A a.length c, .slice A2 b.length c2] w fun e w' => ∃ R cR, e = .returned (.slice R (mergeL a b).length cR) ∧ OwnV w' w.heap.size R cR (mergeL a b) ∧ Below w.heap.size w w' := by
  have Ha := Lib.hid ha
  have Hb := Lib.hid hb
  clear ha hb
  go_enter Try.func123, Try.ntmps123
  go_wp2_with fail
  go_loopw [0, 1, 5] (fun s0 s1 sl wr => ∃ (u v o : List Int), u.length ≤ 65536 ∧ v.length ≤ 65536 ∧ o.length + (u.length + v.length) ≤ 131072 ∧ (∃ Au cu, s0 = .slice Au u.length cu ∧ OwnV w base Au cu u) ∧ (∃ Av cv, s1 = .slice Av v.length cv ∧ OwnV w base Av cv v) ∧ (∃ R cR, sl = .slice R o.length cR ∧ OwnJ wr w.heap.size R cR o) ∧ mergeL a b = o ++ mergeL u v ∧ Below w.heap.size w wr) (fun s0 s1 _ _ => slLen s0 + slLen s1)
  case atStart => exact ⟨a, b, [], hn, hn2, by simp; omega, ⟨A, c, rfl, Ha.out⟩, ⟨A2, c2, rfl, Hb.out⟩, ⟨none, 0, rfl, OwnJ.nil_ _ _⟩, by simp, Below.refl _ _⟩
  case round =>
    obtain ⟨u, v, o, hu, hv, hsum, ⟨Au, cu, rfl, hou⟩, ⟨Av, cv, rfl, hov⟩, ⟨R, cR, rfl, ho⟩, hm, hb⟩ := hrel
    have hz := hb.size
    have HouW := Lib.hid hou
    have HovW := Lib.hid hov
    have Hou := Lib.hid (hou.below hb (Nat.le_refl _))
    have Hov := Lib.hid (hov.below hb (Nat.le_refl _))
    have Ho := Lib.hid ho
    have HoN : Hid (∀ n, OwnJ (wr.drewN n) w.heap.size R cR o) := Lib.hid (fun _ => ho)
    have HbN : Hid (∀ n, Below w.heap.size w (wr.drewN n)) := Lib.hid (fun n => hb.trans (((Same.refl wr).drewN n).below _))
    have Hbw := Lib.hid hb
    have Hm := Lib.hid hm
    clear hou hov ho hb hm
    cases u with
    | nil =>
      obtain ⟨W2, hW2⟩ : ∃ W2 : World, W2 = wr.alloc (.cells #[.slice R o.length cR, .slice Au 0 cu, .slice Av v.length cv] 28) := ⟨_, rfl⟩
      have hb2 : Below wr.heap.size wr W2 := by rw [hW2]; exact (Below.refl _ _).alloc (Nat.le_refl _) _
      have hbk : Bk W2 wr.heap.size 28 [.slice R o.length cR, .slice Au 0 cu, .slice Av v.length cv] := by rw [hW2]; exact Bk.new _ _ [_, _, _]
      have hz2 := hb2.size
      have hrows : RdR W2 W2.heap.size (some ⟨wr.heap.size, 0, none⟩) [o, ([] : List Int), v] := fun _ => by
        refine ⟨_, rfl, hbk.lt, fun k r hr => ?_⟩
        rw [add_zero_row, hbk.cell]
        match k, hr with
        | 0, hr => cases hr; exact ⟨R, cR, rfl, (Ho.out.ownV.below hb2 (Nat.le_refl _)).rd⟩
        | 1, hr => cases hr; exact ⟨Au, cu, rfl, (Hou.out.below hb2 (Nat.le_refl _)).rd⟩
        | 2, hr => cases hr; exact ⟨Av, cv, rfl, (Hov.out.below hb2 (Nat.le_refl _)).rd⟩
      have HC := Lib.hid (concat_any growOk (some ⟨wr.heap.size, 0, none⟩) 3 [o, ([] : List Int), v] W2 W2.heap.size hrows (Nat.le_refl _) (by simp) (by simp at hsum ⊢; omega))
      have hfl : Hid (([o, ([] : List Int), v] : List (List Int)).flatten = mergeL a b) := Lib.hid (by rw [Hm.out]; rw [nil_mergeL]; simp)
      have HW2 := Lib.hid hW2
      have Hb2 := Lib.hid (Hbw.out.trans (hb2.mono hz))
      clear hW2 hb2 hbk hrows
      go_wp2_with fail
      rw [← HW2.out]
      refine HC.out.mono ?_
      rintro e w3 ⟨R3, c3, rfl, ho3, hb3⟩
      have Ho3 := Lib.hid (ho3.base_ (Nat.le_trans hz hz2))
      have Hb3 := Lib.hid (Hb2.out.trans (hb3.mono (Nat.le_trans hz hz2)))
      clear ho3 hb3 HC
      go_wp2_with fail
      go_ret
      exact ⟨R3, c3, ret_slice (by rw [← hfl.out]; simp), by rw [← hfl.out]; exact Ho3.out, Hb3.out⟩
    | cons x u =>
      cases v with
      | nil =>
        obtain ⟨W2, hW2⟩ : ∃ W2 : World, W2 = wr.alloc (.cells #[.slice R o.length cR, .slice Au (u.length + 1) cu, .slice Av 0 cv] 28) := ⟨_, rfl⟩
        have hb2 : Below wr.heap.size wr W2 := by rw [hW2]; exact (Below.refl _ _).alloc (Nat.le_refl _) _
        have hbk : Bk W2 wr.heap.size 28 [.slice R o.length cR, .slice Au (u.length + 1) cu, .slice Av 0 cv] := by rw [hW2]; exact Bk.new _ _ [_, _, _]
        have hz2 := hb2.size
        have hrows : RdR W2 W2.heap.size (some ⟨wr.heap.size, 0, none⟩) [o, (x :: u), ([] : List Int)] := fun _ => by
          refine ⟨_, rfl, hbk.lt, fun k r hr => ?_⟩
          rw [add_zero_row, hbk.cell]
          match k, hr with
          | 0, hr => cases hr; exact ⟨R, cR, rfl, (Ho.out.ownV.below hb2 (Nat.le_refl _)).rd⟩
          | 1, hr => cases hr; exact ⟨Au, cu, rfl, (Hou.out.below hb2 (Nat.le_refl _)).rd⟩
          | 2, hr => cases hr; exact ⟨Av, cv, rfl, (Hov.out.below hb2 (Nat.le_refl _)).rd⟩
        have HC := Lib.hid (concat_any growOk (some ⟨wr.heap.size, 0, none⟩) 3 [o, (x :: u), ([] : List Int)] W2 W2.heap.size hrows (Nat.le_refl _) (by simp) (by simp at hsum ⊢; omega))
        have hfl : Hid (([o, (x :: u), ([] : List Int)] : List (List Int)).flatten = mergeL a b) := Lib.hid (by rw [Hm.out]; rw [mergeL_nil]; simp)
        have HW2 := Lib.hid hW2
        have Hb2 := Lib.hid (Hbw.out.trans (hb2.mono hz))
        clear hW2 hb2 hbk hrows
        go_wp2_with fail
        rw [← HW2.out]
        refine HC.out.mono ?_
        rintro e w3 ⟨R3, c3, rfl, ho3, hb3⟩
        have Ho3 := Lib.hid (ho3.base_ (Nat.le_trans hz hz2))
        have Hb3 := Lib.hid (Hb2.out.trans (hb3.mono (Nat.le_trans hz hz2)))
        clear ho3 hb3 HC
        go_wp2_with fail
        go_ret
        exact ⟨R3, c3, ret_slice (by rw [← hfl.out]; simp), by rw [← hfl.out]; exact Ho3.out, Hb3.out⟩
      | cons y v =>
        obtain ⟨gu, ou, rfl, hcx, hgu, hgu2, hlu⟩ := Hou.out.form
        obtain ⟨gv, ov, rfl, hcy, hgv, hgv2, hlv⟩ := Hov.out.form
        by_cases hxy : x ≤ y
        · by_cases hc1 : cu = 1
          · subst hc1
            have hq1 : (1 : Int) ≤ ((u.length + 1 : Nat) : Int) := by omega
            have hq2 : ((u.length + 1 : Nat) : Int) ≤ ((1 : Nat) : Int) := by omega
            have hq3 : (1 : Int) ≤ ((1 : Nat) : Int) := by omega
            have hq4 : (1 : Int) ≤ (u.length : Int) + 1 := by omega
            have hq5 : (u.length : Int) + 1 ≤ ((1 : Nat) : Int) := by omega
            have hq6 : 1 ≤ u.length + 1 := by omega
            have hq7 : 1 ≤ 1 := by omega
            go_wp2_with fail
            go_quiet (fail)
            go_wp2_with fail
            go_region_held3 (fun w' => w'.cell? ⟨gu, ou, none⟩ = some (.int .i64 x)) (go_keep)
              (first
                | (
                  refine step_append_int rfl _ _ rfl w.heap.size R cR o x o.length rfl rfl (HoN.out _) _ rfl rfl (by simp at hsum; omega) (by first | exact hz | (simp; omega)) ?_
                  intro R2 c2' w2 ho2 hg2
                  have hbb := ((HbN.out _).alloc (by first | exact hz | (simp; exact hz)) _).grown hg2 (by simp; omega) (fun g hg => (Ho.out.row_lt g hg).1)
                  have ks := (HouW.out.below hbb (Nat.le_refl _)).cell0
                  have Hbb := Lib.hid hbb
                  have Ho2 := Lib.hid ho2
                  clear ho2 hg2 hbb))
            all_goals
              go_wp2_with fail
              go_roundw
              case rel => exact ⟨u, y :: v, o ++ [x], by simp at hu ⊢; omega, by simp at hv ⊢; omega, by simp at hsum ⊢; omega, ⟨some ⟨gu, ou, none⟩, 0, by rw [show u.length = 0 by omega], HouW.out.tail0⟩, ⟨_, _, rfl, HovW.out⟩, ⟨R2, c2', by simp, Ho2.out⟩, by rw [Hm.out, mergeL_left hxy]; simp, Hbb.out⟩
              case measure => simp [slLen]
          · have hq1 : (1 : Int) ≤ ((u.length + 1 : Nat) : Int) := by omega
            have hq2 : ((u.length + 1 : Nat) : Int) ≤ ((cu : Nat) : Int) := by omega
            have hq3 : (1 : Int) ≤ ((cu : Nat) : Int) := by omega
            have hq4 : (1 : Int) ≤ (u.length : Int) + 1 := by omega
            have hq5 : (u.length : Int) + 1 ≤ ((cu : Nat) : Int) := by omega
            have hq6 : 1 ≤ u.length + 1 := by omega
            have hq7 : 1 ≤ cu := by omega
            go_wp2_with fail
            go_quiet (fail)
            go_wp2_with fail
            go_region_held3 (fun w' => w'.cell? ⟨gu, ou, none⟩ = some (.int .i64 x)) (go_keep)
              (first
                | (
                  refine step_append_int rfl _ _ rfl w.heap.size R cR o x o.length rfl rfl (HoN.out _) _ rfl rfl (by simp at hsum; omega) (by first | exact hz | (simp; omega)) ?_
                  intro R2 c2' w2 ho2 hg2
                  have hbb := ((HbN.out _).alloc (by first | exact hz | (simp; exact hz)) _).grown hg2 (by simp; omega) (fun g hg => (Ho.out.row_lt g hg).1)
                  have ks := (HouW.out.below hbb (Nat.le_refl _)).cell0
                  have Hbb := Lib.hid hbb
                  have Ho2 := Lib.hid ho2
                  clear ho2 hg2 hbb))
            all_goals
              go_wp2_with fail
              go_roundw
              case rel => exact ⟨u, y :: v, o ++ [x], by simp at hu ⊢; omega, by simp at hv ⊢; omega, by simp at hsum ⊢; omega, ⟨some ⟨gu, ou + 1, none⟩, cu - 1, rfl, HouW.out.tail⟩, ⟨_, _, rfl, HovW.out⟩, ⟨R2, c2', by simp, Ho2.out⟩, by rw [Hm.out, mergeL_left hxy]; simp, Hbb.out⟩
              case measure => simp [slLen]
        · by_cases hc1 : cv = 1
          · subst hc1
            have hq1 : (1 : Int) ≤ ((v.length + 1 : Nat) : Int) := by omega
            have hq2 : ((v.length + 1 : Nat) : Int) ≤ ((1 : Nat) : Int) := by omega
            have hq3 : (1 : Int) ≤ ((1 : Nat) : Int) := by omega
            have hq4 : (1 : Int) ≤ (v.length : Int) + 1 := by omega
            have hq5 : (v.length : Int) + 1 ≤ ((1 : Nat) : Int) := by omega
            have hq6 : 1 ≤ v.length + 1 := by omega
            have hq7 : 1 ≤ 1 := by omega
            go_wp2_with fail
            go_quiet (fail)
            go_wp2_with fail
            go_region_held3 (fun w' => w'.cell? ⟨gv, ov, none⟩ = some (.int .i64 y)) (go_keep)
              (first
                | (
                  refine step_append_int rfl _ _ rfl w.heap.size R cR o y o.length rfl rfl (HoN.out _) _ rfl rfl (by simp at hsum; omega) (by first | exact hz | (simp; omega)) ?_
                  intro R2 c2' w2 ho2 hg2
                  have hbb := ((HbN.out _).alloc (by first | exact hz | (simp; exact hz)) _).grown hg2 (by simp; omega) (fun g hg => (Ho.out.row_lt g hg).1)
                  have ks := (HovW.out.below hbb (Nat.le_refl _)).cell0
                  have Hbb := Lib.hid hbb
                  have Ho2 := Lib.hid ho2
                  clear ho2 hg2 hbb))
            all_goals
              go_wp2_with fail
              go_roundw
              case rel => exact ⟨x :: u, v, o ++ [y], by simp at hu ⊢; omega, by simp at hv ⊢; omega, by simp at hsum ⊢; omega, ⟨_, _, rfl, HouW.out⟩, ⟨some ⟨gv, ov, none⟩, 0, by rw [show v.length = 0 by omega], HovW.out.tail0⟩, ⟨R2, c2', by simp, Ho2.out⟩, by rw [Hm.out, mergeL_right (by omega)]; simp, Hbb.out⟩
              case measure => simp [slLen]
          · have hq1 : (1 : Int) ≤ ((v.length + 1 : Nat) : Int) := by omega
            have hq2 : ((v.length + 1 : Nat) : Int) ≤ ((cv : Nat) : Int) := by omega
            have hq3 : (1 : Int) ≤ ((cv : Nat) : Int) := by omega
            have hq4 : (1 : Int) ≤ (v.length : Int) + 1 := by omega
            have hq5 : (v.length : Int) + 1 ≤ ((cv : Nat) : Int) := by omega
            have hq6 : 1 ≤ v.length + 1 := by omega
            have hq7 : 1 ≤ cv := by omega
            go_wp2_with fail
            go_quiet (fail)
            go_wp2_with fail
            go_region_held3 (fun w' => w'.cell? ⟨gv, ov, none⟩ = some (.int .i64 y)) (go_keep)
              (first
                | (
                  refine step_append_int rfl _ _ rfl w.heap.size R cR o y o.length rfl rfl (HoN.out _) _ rfl rfl (by simp at hsum; omega) (by first | exact hz | (simp; omega)) ?_
                  intro R2 c2' w2 ho2 hg2
                  have hbb := ((HbN.out _).alloc (by first | exact hz | (simp; exact hz)) _).grown hg2 (by simp; omega) (fun g hg => (Ho.out.row_lt g hg).1)
                  have ks := (HovW.out.below hbb (Nat.le_refl _)).cell0
                  have Hbb := Lib.hid hbb
                  have Ho2 := Lib.hid ho2
                  clear ho2 hg2 hbb))
            all_goals
              go_wp2_with fail
              go_roundw
              case rel => exact ⟨x :: u, v, o ++ [y], by simp at hu ⊢; omega, by simp at hv ⊢; omega, by simp at hsum ⊢; omega, ⟨_, _, rfl, HouW.out⟩, ⟨some ⟨gv, ov + 1, none⟩, cv - 1, rfl, HovW.out.tail⟩, ⟨R2, c2', by simp, Ho2.out⟩, by rw [Hm.out, mergeL_right (by omega)]; simp, Hbb.out⟩
              case measure => simp [slLen]

end Go.Proofs.Ytnmekcifbmcdpaa

/- Contracts: the list of a node with two below, by the program. -/
namespace Go.Proofs.Ytnmekcifbmcdpaa
open Go.RowKit

set_option maxRecDepth 100000 in
set_option maxHeartbeats 3200000 in
theorem implFork_zip (A : Option Addr) (c : Nat) (a : List Int) (A2 : Option Addr) (c2 : Nat) (b z : List Int) (w : World) (base : Nat) (ha : OwnV w base A c a) (hb : OwnV w base A2 c2 b) (hn : a.length ≤ 65536) (hn2 : b.length ≤ 65536) (ia : Items a) (ib : Items b) (hF : Hid (z = zipL a b)) :
    Calls Try.prog 89 #[.int .i64 8, .slice A a.length c, .slice A2 b.length c2] w fun e w' => ∃ R cR, e = .returned (.slice R z.length cR) ∧ OwnV w' w.heap.size R cR z ∧ Below w.heap.size w w' := by
  have _u1 := hn
  have _u2 := hn2
  have _u3 := ia
  have _u4 := ib
  clear _u1 _u2 _u3 _u4
  have Ha := Lib.hid ha
  have Hb := Lib.hid hb
  have Ia := Lib.hid ia
  have Ib := Lib.hid ib
  clear ha hb ia ib
  go_enter Try.func89, Try.ntmps89
  go_wp2_with fail
  refine (implZipped_any A c a A2 c2 b w w.heap.size Ha.out.rd Hb.out.rd (Nat.le_refl _) hn hn2 Ia.out Ib.out).mono ?_
  rintro e w4 ⟨R4, c4, rfl, ho4, hb4⟩
  have Ho4 := Lib.hid ho4.ownV
  have Hb4 := Lib.hid hb4
  clear ho4 hb4
  go_wp2_with fail
  go_ret
  exact ⟨R4, c4, ret_slice (by rw [hF.out]), by rw [hF.out]; exact Ho4.out, Hb4.out⟩

set_option maxRecDepth 100000 in
set_option maxHeartbeats 3200000 in
theorem implFork_merge (A : Option Addr) (c : Nat) (a : List Int) (A2 : Option Addr) (c2 : Nat) (b z : List Int) (w : World) (base : Nat) (ha : OwnV w base A c a) (hb : OwnV w base A2 c2 b) (hn : a.length ≤ 65536) (hn2 : b.length ≤ 65536) (ia : Items a) (ib : Items b) (hF : Hid (z = mergeL a b)) :
    Calls Try.prog 89 #[.int .i64 9, .slice A a.length c, .slice A2 b.length c2] w fun e w' => ∃ R cR, e = .returned (.slice R z.length cR) ∧ OwnV w' w.heap.size R cR z ∧ Below w.heap.size w w' := by
  have _u1 := hn
  have _u2 := hn2
  have _u3 := ia
  have _u4 := ib
  clear _u1 _u2 _u3 _u4
  have Ha := Lib.hid ha
  have Hb := Lib.hid hb
  have Ia := Lib.hid ia
  have Ib := Lib.hid ib
  clear ha hb ia ib
  go_enter Try.func89, Try.ntmps89
  go_wp2_with fail
  refine (implMerged_any A c a A2 c2 b w base Ha.out Hb.out hn hn2).mono ?_
  rintro e w4 ⟨R4, c4, rfl, ho4, hb4⟩
  have Ho4 := Lib.hid ho4
  have Hb4 := Lib.hid hb4
  clear ho4 hb4
  go_wp2_with fail
  go_ret
  exact ⟨R4, c4, ret_slice (by rw [hF.out]), by rw [hF.out]; exact Ho4.out, Hb4.out⟩

set_option maxRecDepth 100000 in
set_option maxHeartbeats 3200000 in
theorem implFork_turn (A : Option Addr) (c : Nat) (a : List Int) (A2 : Option Addr) (c2 : Nat) (b z : List Int) (w : World) (base : Nat) (ha : OwnV w base A c a) (hb : OwnV w base A2 c2 b) (hn : a.length ≤ 65536) (hn2 : b.length ≤ 65536) (ia : Items a) (ib : Items b) (hF : Hid (z = turnL a b)) :
    Calls Try.prog 89 #[.int .i64 10, .slice A a.length c, .slice A2 b.length c2] w fun e w' => ∃ R cR, e = .returned (.slice R z.length cR) ∧ OwnV w' w.heap.size R cR z ∧ Below w.heap.size w w' := by
  have _u1 := hn
  have _u2 := hn2
  have _u3 := ia
  have _u4 := ib
  clear _u1 _u2 _u3 _u4
  have Ha := Lib.hid ha
  have Hb := Lib.hid hb
  have Ia := Lib.hid ia
  have Ib := Lib.hid ib
  clear ha hb ia ib
  go_enter Try.func89, Try.ntmps89
  go_wp2_with fail
  refine (implTurned_any A c a A2 c2 b w w.heap.size Ha.out.rd Hb.out.rd (Nat.le_refl _) hn hn2).mono ?_
  rintro e w4 ⟨R4, c4, rfl, ho4, hb4⟩
  have Ho4 := Lib.hid ho4.ownV
  have Hb4 := Lib.hid hb4
  clear ho4 hb4
  go_wp2_with fail
  go_ret
  exact ⟨R4, c4, ret_slice (by rw [hF.out]), by rw [hF.out]; exact Ho4.out, Hb4.out⟩

set_option maxRecDepth 100000 in
set_option maxHeartbeats 3200000 in
theorem implFork_chain (A : Option Addr) (c : Nat) (a : List Int) (A2 : Option Addr) (c2 : Nat) (b z : List Int) (w : World) (base : Nat) (ha : OwnV w base A c a) (hb : OwnV w base A2 c2 b) (hn : a.length ≤ 65536) (hn2 : b.length ≤ 65536) (ia : Items a) (ib : Items b) (hF : Hid (z = a ++ b)) :
    Calls Try.prog 89 #[.int .i64 7, .slice A a.length c, .slice A2 b.length c2] w fun e w' => ∃ R cR, e = .returned (.slice R z.length cR) ∧ OwnV w' w.heap.size R cR z ∧ Below w.heap.size w w' := by
  have _u1 := hn
  have _u2 := hn2
  have _u3 := ia
  have _u4 := ib
  clear _u1 _u2 _u3 _u4
  have Ha := Lib.hid ha
  have Hb := Lib.hid hb
  have Ia := Lib.hid ia
  have Ib := Lib.hid ib
  clear ha hb ia ib
  obtain ⟨W2, hW2⟩ : ∃ W2 : World, W2 = w.alloc (.cells #[.slice A a.length c, .slice A2 b.length c2] 28) := ⟨_, rfl⟩
  have hb2 : Below w.heap.size w W2 := by rw [hW2]; exact (Below.refl _ _).alloc (Nat.le_refl _) _
  have hbk : Bk W2 w.heap.size 28 [.slice A a.length c, .slice A2 b.length c2] := by rw [hW2]; exact Bk.new _ _ [_, _]
  have hz2 := hb2.size
  have hrows : RdR W2 W2.heap.size (some ⟨w.heap.size, 0, none⟩) [a, b] := fun _ => by
    refine ⟨_, rfl, hbk.lt, fun k r hr => ?_⟩
    rw [add_zero_row, hbk.cell]
    match k, hr with
    | 0, hr => cases hr; exact ⟨A, c, rfl, (Ha.out.below hb2 (Nat.le_refl _)).rd⟩
    | 1, hr => cases hr; exact ⟨A2, c2, rfl, (Hb.out.below hb2 (Nat.le_refl _)).rd⟩
  have HC := Lib.hid (concat_any growOk (some ⟨w.heap.size, 0, none⟩) 2 [a, b] W2 W2.heap.size hrows (Nat.le_refl _) (by simp) (by simp; omega))
  have hfl : Hid (([a, b] : List (List Int)).flatten = z) := Lib.hid (by rw [hF.out]; simp)
  have HW2 := Lib.hid hW2
  have Hb2 := Lib.hid hb2
  clear hW2 hb2 hbk hrows
  go_enter Try.func89, Try.ntmps89
  go_wp2_with fail
  rw [← HW2.out]
  refine HC.out.mono ?_
  rintro e w3 ⟨R3, c3, rfl, ho3, hb3⟩
  have Ho3 := Lib.hid (ho3.base_ hz2)
  have Hb3 := Lib.hid (Hb2.out.trans (hb3.mono hz2))
  clear ho3 hb3 HC
  go_wp2_with fail
  go_ret
  exact ⟨R3, c3, ret_slice (by rw [← hfl.out]; simp), by rw [← hfl.out]; exact Ho3.out, Hb3.out⟩

end Go.Proofs.Ytnmekcifbmcdpaa

/- Contracts: the list of a node, by the reference (item by item). -/
namespace Go.Proofs.Ytnmekcifbmcdpaa
open Go.RowKit

set_option maxRecDepth 100000 in
set_option maxHeartbeats 6400000 in
theorem lsMap {l : List Nd} {src : List (List Int)} {i j : Nat} {n m : Int} {q z : List Int} (A : Option Addr) (c : Nat) (As : Option Addr) (ca : Nat) (w : World) (B : Nat) (h : RdN w B A l) (hB : B ≤ w.heap.size) (hn : l.length ≤ 1048576)
    (hx : l[i]? = some ⟨1, (j : Int), -1, n, m⟩)
    (hi : ∀ W, Below w.heap.size w W → Calls Try.prog 80 #[.agg #[.slice A l.length c], .slice As src.length ca, .int .i64 (j : Int)] W fun e w' => ∃ R cR, e = .returned (.slice R q.length cR) ∧ OwnV w' W.heap.size R cR q ∧ Below W.heap.size W w')
    (iq : Items q) (lq : q.length ≤ 65536) (hnb : 0 ≤ n ∧ n ≤ 99) (hmb : 0 ≤ m ∧ m ≤ 99) (hF : Hid (z = mapL n m q)) :
    Calls Try.prog 80 #[.agg #[.slice A l.length c], .slice As src.length ca, .int .i64 i] w fun e w' => ∃ R cR, e = .returned (.slice R z.length cR) ∧ OwnV w' w.heap.size R cR z ∧ Below w.heap.size w w' := by
  have _u1 := hn
  have _u2 := lq
  have _u3 := iq
  clear _u1 _u2 _u3
  have hlt : i < l.length := (List.getElem?_eq_some_iff.1 hx).1
  have hb0 := (Below.refl w.heap.size w).alloc (Nat.le_refl _) (.cells #[.slice A l.length c] 32)
  obtain ⟨b, o, y, rfl, hbB, hy, hc⟩ := (h.below hb0 (by omega)).at_ hlt
  obtain rfl := Option.some.inj (hx.symm.trans hy)
  obtain ⟨c0, c1, c2, c3, c4⟩ := hc
  simp only at c0 c1 c2 c3 c4
  obtain ⟨W2, hW2⟩ : ∃ W2 : World, W2 = (w.alloc (.cells #[.slice (some ⟨b, o, none⟩) l.length c] 32)).alloc (.cells #[.int .i64 1, .int .i64 (j : Int), .int .i64 (-1), .int .i64 n, .int .i64 m] 102) := ⟨_, rfl⟩
  have hb2 : Below w.heap.size w W2 := by rw [hW2]; exact ((Below.refl _ _).alloc (Nat.le_refl _) _).alloc (by simp) _
  have hs2 : W2.heap.size = w.heap.size + 2 := by rw [hW2]; simp
  have hbox : Bk W2 w.heap.size 32 [.slice (some ⟨b, o, none⟩) l.length c] := by rw [hW2]; exact (Bk.new _ _ [_]).alloc _
  have hnode : Bk W2 (w.heap.size + 1) 102 [.int .i64 1, .int .i64 (j : Int), .int .i64 (-1), .int .i64 n, .int .i64 m] := by
    rw [hW2]
    have := Bk.new (w.alloc (.cells #[.slice (some ⟨b, o, none⟩) l.length c] 32)) 102 [.int .i64 1, .int .i64 (j : Int), .int .i64 (-1), .int .i64 n, .int .i64 m]
    simpa using this
  have HW2 := Lib.hid hW2
  have Hb2 := Lib.hid hb2
  have Hbox := Lib.hid hbox
  have Hnode := Lib.hid hnode
  have Hs2 := Lib.hid hs2
  have Hi := Lib.hid hi
  have Iq := Lib.hid iq
  clear hx hy h hb0 hi iq hW2 hb2 hbox hnode hs2
  go_enter Try.func80, Try.ntmps80
  go_wp2_with fail
  rw [← HW2.out]
  refine (Hi.out W2 Hb2.out).mono ?_
  rintro e w3 ⟨R, cR, rfl, ho3, hb3⟩
  have hbox3 := Hbox.out.below hb3 Hbox.out.lt
  have hnode3 := Hnode.out.below hb3 Hnode.out.lt
  have e0 : w3.cell? ⟨w.heap.size, 0, none⟩ = some (.slice (some ⟨b, o, none⟩) l.length c) := hbox3.cell 0
  have d0 : w3.cell? ⟨w.heap.size + 1, 0, none⟩ = some (.int .i64 1) := hnode3.cell 0
  have d1 : w3.cell? ⟨w.heap.size + 1, 1, none⟩ = some (.int .i64 (j : Int)) := hnode3.cell 1
  have d2 : w3.cell? ⟨w.heap.size + 1, 2, none⟩ = some (.int .i64 (-1)) := hnode3.cell 2
  have d3 : w3.cell? ⟨w.heap.size + 1, 3, none⟩ = some (.int .i64 n) := hnode3.cell 3
  have d4 : w3.cell? ⟨w.heap.size + 1, 4, none⟩ = some (.int .i64 m) := hnode3.cell 4
  have hz2 : w.heap.size ≤ W2.heap.size := by rw [Hs2.out]; omega
  have hz3 := hb3.size
  have hcap := ho3.len_le
  have Hb3 := Lib.hid (Hb2.out.trans (hb3.mono hz2))
  have Hb23 := Lib.hid hb3
  have Ho3 := Lib.hid (ho3.base_ hz2)
  clear ho3 hb3 hbox3 hnode3
  go_wp2_with fail
  refine (specSummed_map R cR q (j : Int) (-1) n m w3 w3.heap.size Ho3.out.rd (Nat.le_refl _) (by omega) Iq.out hnb hmb).mono ?_
  rintro e w4 ⟨R4, c4, rfl, ho4, hb4⟩
  have Ho4 := Lib.hid (ho4.ownV.base_ (Nat.le_trans hz2 hz3))
  have Hb4 := Lib.hid (Hb3.out.trans (hb4.mono (Nat.le_trans hz2 hz3)))
  clear ho4 hb4
  go_wp2_with fail
  go_ret
  exact ⟨R4, c4, ret_slice (by rw [hF.out]), by rw [hF.out]; exact Ho4.out, Hb4.out⟩

set_option maxRecDepth 100000 in
set_option maxHeartbeats 6400000 in
theorem lsFilter {l : List Nd} {src : List (List Int)} {i j : Nat} {n m : Int} {q z : List Int} (A : Option Addr) (c : Nat) (As : Option Addr) (ca : Nat) (w : World) (B : Nat) (h : RdN w B A l) (hB : B ≤ w.heap.size) (hn : l.length ≤ 1048576)
    (hx : l[i]? = some ⟨2, (j : Int), -1, n, m⟩)
    (hi : ∀ W, Below w.heap.size w W → Calls Try.prog 80 #[.agg #[.slice A l.length c], .slice As src.length ca, .int .i64 (j : Int)] W fun e w' => ∃ R cR, e = .returned (.slice R q.length cR) ∧ OwnV w' W.heap.size R cR q ∧ Below W.heap.size W w')
    (iq : Items q) (lq : q.length ≤ 65536) (hnb : 1 ≤ n ∧ n ≤ 99) (hF : Hid (z = filL n m q)) :
    Calls Try.prog 80 #[.agg #[.slice A l.length c], .slice As src.length ca, .int .i64 i] w fun e w' => ∃ R cR, e = .returned (.slice R z.length cR) ∧ OwnV w' w.heap.size R cR z ∧ Below w.heap.size w w' := by
  have _u1 := hn
  have _u2 := lq
  have _u3 := iq
  clear _u1 _u2 _u3
  have hlt : i < l.length := (List.getElem?_eq_some_iff.1 hx).1
  have hb0 := (Below.refl w.heap.size w).alloc (Nat.le_refl _) (.cells #[.slice A l.length c] 32)
  obtain ⟨b, o, y, rfl, hbB, hy, hc⟩ := (h.below hb0 (by omega)).at_ hlt
  obtain rfl := Option.some.inj (hx.symm.trans hy)
  obtain ⟨c0, c1, c2, c3, c4⟩ := hc
  simp only at c0 c1 c2 c3 c4
  obtain ⟨W2, hW2⟩ : ∃ W2 : World, W2 = (w.alloc (.cells #[.slice (some ⟨b, o, none⟩) l.length c] 32)).alloc (.cells #[.int .i64 2, .int .i64 (j : Int), .int .i64 (-1), .int .i64 n, .int .i64 m] 102) := ⟨_, rfl⟩
  have hb2 : Below w.heap.size w W2 := by rw [hW2]; exact ((Below.refl _ _).alloc (Nat.le_refl _) _).alloc (by simp) _
  have hs2 : W2.heap.size = w.heap.size + 2 := by rw [hW2]; simp
  have hbox : Bk W2 w.heap.size 32 [.slice (some ⟨b, o, none⟩) l.length c] := by rw [hW2]; exact (Bk.new _ _ [_]).alloc _
  have hnode : Bk W2 (w.heap.size + 1) 102 [.int .i64 2, .int .i64 (j : Int), .int .i64 (-1), .int .i64 n, .int .i64 m] := by
    rw [hW2]
    have := Bk.new (w.alloc (.cells #[.slice (some ⟨b, o, none⟩) l.length c] 32)) 102 [.int .i64 2, .int .i64 (j : Int), .int .i64 (-1), .int .i64 n, .int .i64 m]
    simpa using this
  have HW2 := Lib.hid hW2
  have Hb2 := Lib.hid hb2
  have Hbox := Lib.hid hbox
  have Hnode := Lib.hid hnode
  have Hs2 := Lib.hid hs2
  have Hi := Lib.hid hi
  have Iq := Lib.hid iq
  clear hx hy h hb0 hi iq hW2 hb2 hbox hnode hs2
  go_enter Try.func80, Try.ntmps80
  go_wp2_with fail
  rw [← HW2.out]
  refine (Hi.out W2 Hb2.out).mono ?_
  rintro e w3 ⟨R, cR, rfl, ho3, hb3⟩
  have hbox3 := Hbox.out.below hb3 Hbox.out.lt
  have hnode3 := Hnode.out.below hb3 Hnode.out.lt
  have e0 : w3.cell? ⟨w.heap.size, 0, none⟩ = some (.slice (some ⟨b, o, none⟩) l.length c) := hbox3.cell 0
  have d0 : w3.cell? ⟨w.heap.size + 1, 0, none⟩ = some (.int .i64 2) := hnode3.cell 0
  have d1 : w3.cell? ⟨w.heap.size + 1, 1, none⟩ = some (.int .i64 (j : Int)) := hnode3.cell 1
  have d2 : w3.cell? ⟨w.heap.size + 1, 2, none⟩ = some (.int .i64 (-1)) := hnode3.cell 2
  have d3 : w3.cell? ⟨w.heap.size + 1, 3, none⟩ = some (.int .i64 n) := hnode3.cell 3
  have d4 : w3.cell? ⟨w.heap.size + 1, 4, none⟩ = some (.int .i64 m) := hnode3.cell 4
  have hz2 : w.heap.size ≤ W2.heap.size := by rw [Hs2.out]; omega
  have hz3 := hb3.size
  have hcap := ho3.len_le
  have Hb3 := Lib.hid (Hb2.out.trans (hb3.mono hz2))
  have Hb23 := Lib.hid hb3
  have Ho3 := Lib.hid (ho3.base_ hz2)
  clear ho3 hb3 hbox3 hnode3
  go_wp2_with fail
  refine (specSummed_filter R cR q (j : Int) (-1) n m w3 w3.heap.size Ho3.out.rd (Nat.le_refl _) (by omega) Iq.out hnb).mono ?_
  rintro e w4 ⟨R4, c4, rfl, ho4, hb4⟩
  have Ho4 := Lib.hid (ho4.ownV.base_ (Nat.le_trans hz2 hz3))
  have Hb4 := Lib.hid (Hb3.out.trans (hb4.mono (Nat.le_trans hz2 hz3)))
  clear ho4 hb4
  go_wp2_with fail
  go_ret
  exact ⟨R4, c4, ret_slice (by rw [hF.out]), by rw [hF.out]; exact Ho4.out, Hb4.out⟩

set_option maxRecDepth 100000 in
set_option maxHeartbeats 6400000 in
theorem lsScan {l : List Nd} {src : List (List Int)} {i j : Nat} {n m : Int} {q z : List Int} (A : Option Addr) (c : Nat) (As : Option Addr) (ca : Nat) (w : World) (B : Nat) (h : RdN w B A l) (hB : B ≤ w.heap.size) (hn : l.length ≤ 1048576)
    (hx : l[i]? = some ⟨11, (j : Int), -1, n, m⟩)
    (hi : ∀ W, Below w.heap.size w W → Calls Try.prog 80 #[.agg #[.slice A l.length c], .slice As src.length ca, .int .i64 (j : Int)] W fun e w' => ∃ R cR, e = .returned (.slice R q.length cR) ∧ OwnV w' W.heap.size R cR q ∧ Below W.heap.size W w')
    (iq : Items q) (lq : q.length ≤ 65536) (hF : Hid (z = scanL 0 q)) :
    Calls Try.prog 80 #[.agg #[.slice A l.length c], .slice As src.length ca, .int .i64 i] w fun e w' => ∃ R cR, e = .returned (.slice R z.length cR) ∧ OwnV w' w.heap.size R cR z ∧ Below w.heap.size w w' := by
  have _u1 := hn
  have _u2 := lq
  have _u3 := iq
  clear _u1 _u2 _u3
  have hlt : i < l.length := (List.getElem?_eq_some_iff.1 hx).1
  have hb0 := (Below.refl w.heap.size w).alloc (Nat.le_refl _) (.cells #[.slice A l.length c] 32)
  obtain ⟨b, o, y, rfl, hbB, hy, hc⟩ := (h.below hb0 (by omega)).at_ hlt
  obtain rfl := Option.some.inj (hx.symm.trans hy)
  obtain ⟨c0, c1, c2, c3, c4⟩ := hc
  simp only at c0 c1 c2 c3 c4
  obtain ⟨W2, hW2⟩ : ∃ W2 : World, W2 = (w.alloc (.cells #[.slice (some ⟨b, o, none⟩) l.length c] 32)).alloc (.cells #[.int .i64 11, .int .i64 (j : Int), .int .i64 (-1), .int .i64 n, .int .i64 m] 102) := ⟨_, rfl⟩
  have hb2 : Below w.heap.size w W2 := by rw [hW2]; exact ((Below.refl _ _).alloc (Nat.le_refl _) _).alloc (by simp) _
  have hs2 : W2.heap.size = w.heap.size + 2 := by rw [hW2]; simp
  have hbox : Bk W2 w.heap.size 32 [.slice (some ⟨b, o, none⟩) l.length c] := by rw [hW2]; exact (Bk.new _ _ [_]).alloc _
  have hnode : Bk W2 (w.heap.size + 1) 102 [.int .i64 11, .int .i64 (j : Int), .int .i64 (-1), .int .i64 n, .int .i64 m] := by
    rw [hW2]
    have := Bk.new (w.alloc (.cells #[.slice (some ⟨b, o, none⟩) l.length c] 32)) 102 [.int .i64 11, .int .i64 (j : Int), .int .i64 (-1), .int .i64 n, .int .i64 m]
    simpa using this
  have HW2 := Lib.hid hW2
  have Hb2 := Lib.hid hb2
  have Hbox := Lib.hid hbox
  have Hnode := Lib.hid hnode
  have Hs2 := Lib.hid hs2
  have Hi := Lib.hid hi
  have Iq := Lib.hid iq
  clear hx hy h hb0 hi iq hW2 hb2 hbox hnode hs2
  go_enter Try.func80, Try.ntmps80
  go_wp2_with fail
  rw [← HW2.out]
  refine (Hi.out W2 Hb2.out).mono ?_
  rintro e w3 ⟨R, cR, rfl, ho3, hb3⟩
  have hbox3 := Hbox.out.below hb3 Hbox.out.lt
  have hnode3 := Hnode.out.below hb3 Hnode.out.lt
  have e0 : w3.cell? ⟨w.heap.size, 0, none⟩ = some (.slice (some ⟨b, o, none⟩) l.length c) := hbox3.cell 0
  have d0 : w3.cell? ⟨w.heap.size + 1, 0, none⟩ = some (.int .i64 11) := hnode3.cell 0
  have d1 : w3.cell? ⟨w.heap.size + 1, 1, none⟩ = some (.int .i64 (j : Int)) := hnode3.cell 1
  have d2 : w3.cell? ⟨w.heap.size + 1, 2, none⟩ = some (.int .i64 (-1)) := hnode3.cell 2
  have d3 : w3.cell? ⟨w.heap.size + 1, 3, none⟩ = some (.int .i64 n) := hnode3.cell 3
  have d4 : w3.cell? ⟨w.heap.size + 1, 4, none⟩ = some (.int .i64 m) := hnode3.cell 4
  have hz2 : w.heap.size ≤ W2.heap.size := by rw [Hs2.out]; omega
  have hz3 := hb3.size
  have hcap := ho3.len_le
  have Hb3 := Lib.hid (Hb2.out.trans (hb3.mono hz2))
  have Hb23 := Lib.hid hb3
  have Ho3 := Lib.hid (ho3.base_ hz2)
  clear ho3 hb3 hbox3 hnode3
  go_wp2_with fail
  refine (specSummed_scan R cR q (j : Int) (-1) n m w3 w3.heap.size Ho3.out.rd (Nat.le_refl _) (by omega) Iq.out).mono ?_
  rintro e w4 ⟨R4, c4, rfl, ho4, hb4⟩
  have Ho4 := Lib.hid (ho4.ownV.base_ (Nat.le_trans hz2 hz3))
  have Hb4 := Lib.hid (Hb3.out.trans (hb4.mono (Nat.le_trans hz2 hz3)))
  clear ho4 hb4
  go_wp2_with fail
  go_ret
  exact ⟨R4, c4, ret_slice (by rw [hF.out]), by rw [hF.out]; exact Ho4.out, Hb4.out⟩

set_option maxRecDepth 100000 in
set_option maxHeartbeats 6400000 in
theorem lsOnce {l : List Nd} {src : List (List Int)} {i j : Nat} {n m : Int} {q z : List Int} (A : Option Addr) (c : Nat) (As : Option Addr) (ca : Nat) (w : World) (B : Nat) (h : RdN w B A l) (hB : B ≤ w.heap.size) (hn : l.length ≤ 1048576)
    (hx : l[i]? = some ⟨13, (j : Int), -1, n, m⟩)
    (hi : ∀ W, Below w.heap.size w W → Calls Try.prog 80 #[.agg #[.slice A l.length c], .slice As src.length ca, .int .i64 (j : Int)] W fun e w' => ∃ R cR, e = .returned (.slice R q.length cR) ∧ OwnV w' W.heap.size R cR q ∧ Below W.heap.size W w')
    (iq : Items q) (lq : q.length ≤ 65536) (hF : Hid (z = Lib.compact q)) :
    Calls Try.prog 80 #[.agg #[.slice A l.length c], .slice As src.length ca, .int .i64 i] w fun e w' => ∃ R cR, e = .returned (.slice R z.length cR) ∧ OwnV w' w.heap.size R cR z ∧ Below w.heap.size w w' := by
  have _u1 := hn
  have _u2 := lq
  have _u3 := iq
  clear _u1 _u2 _u3
  have hlt : i < l.length := (List.getElem?_eq_some_iff.1 hx).1
  have hb0 := (Below.refl w.heap.size w).alloc (Nat.le_refl _) (.cells #[.slice A l.length c] 32)
  obtain ⟨b, o, y, rfl, hbB, hy, hc⟩ := (h.below hb0 (by omega)).at_ hlt
  obtain rfl := Option.some.inj (hx.symm.trans hy)
  obtain ⟨c0, c1, c2, c3, c4⟩ := hc
  simp only at c0 c1 c2 c3 c4
  obtain ⟨W2, hW2⟩ : ∃ W2 : World, W2 = (w.alloc (.cells #[.slice (some ⟨b, o, none⟩) l.length c] 32)).alloc (.cells #[.int .i64 13, .int .i64 (j : Int), .int .i64 (-1), .int .i64 n, .int .i64 m] 102) := ⟨_, rfl⟩
  have hb2 : Below w.heap.size w W2 := by rw [hW2]; exact ((Below.refl _ _).alloc (Nat.le_refl _) _).alloc (by simp) _
  have hs2 : W2.heap.size = w.heap.size + 2 := by rw [hW2]; simp
  have hbox : Bk W2 w.heap.size 32 [.slice (some ⟨b, o, none⟩) l.length c] := by rw [hW2]; exact (Bk.new _ _ [_]).alloc _
  have hnode : Bk W2 (w.heap.size + 1) 102 [.int .i64 13, .int .i64 (j : Int), .int .i64 (-1), .int .i64 n, .int .i64 m] := by
    rw [hW2]
    have := Bk.new (w.alloc (.cells #[.slice (some ⟨b, o, none⟩) l.length c] 32)) 102 [.int .i64 13, .int .i64 (j : Int), .int .i64 (-1), .int .i64 n, .int .i64 m]
    simpa using this
  have HW2 := Lib.hid hW2
  have Hb2 := Lib.hid hb2
  have Hbox := Lib.hid hbox
  have Hnode := Lib.hid hnode
  have Hs2 := Lib.hid hs2
  have Hi := Lib.hid hi
  have Iq := Lib.hid iq
  clear hx hy h hb0 hi iq hW2 hb2 hbox hnode hs2
  go_enter Try.func80, Try.ntmps80
  go_wp2_with fail
  rw [← HW2.out]
  refine (Hi.out W2 Hb2.out).mono ?_
  rintro e w3 ⟨R, cR, rfl, ho3, hb3⟩
  have hbox3 := Hbox.out.below hb3 Hbox.out.lt
  have hnode3 := Hnode.out.below hb3 Hnode.out.lt
  have e0 : w3.cell? ⟨w.heap.size, 0, none⟩ = some (.slice (some ⟨b, o, none⟩) l.length c) := hbox3.cell 0
  have d0 : w3.cell? ⟨w.heap.size + 1, 0, none⟩ = some (.int .i64 13) := hnode3.cell 0
  have d1 : w3.cell? ⟨w.heap.size + 1, 1, none⟩ = some (.int .i64 (j : Int)) := hnode3.cell 1
  have d2 : w3.cell? ⟨w.heap.size + 1, 2, none⟩ = some (.int .i64 (-1)) := hnode3.cell 2
  have d3 : w3.cell? ⟨w.heap.size + 1, 3, none⟩ = some (.int .i64 n) := hnode3.cell 3
  have d4 : w3.cell? ⟨w.heap.size + 1, 4, none⟩ = some (.int .i64 m) := hnode3.cell 4
  have hz2 : w.heap.size ≤ W2.heap.size := by rw [Hs2.out]; omega
  have hz3 := hb3.size
  have hcap := ho3.len_le
  have Hb3 := Lib.hid (Hb2.out.trans (hb3.mono hz2))
  have Hb23 := Lib.hid hb3
  have Ho3 := Lib.hid (ho3.base_ hz2)
  clear ho3 hb3 hbox3 hnode3
  go_wp2_with fail
  refine (specSummed_once R cR q (j : Int) (-1) n m w3 w3.heap.size Ho3.out.rd (Nat.le_refl _) (by omega) Iq.out).mono ?_
  rintro e w4 ⟨R4, c4, rfl, ho4, hb4⟩
  have Ho4 := Lib.hid (ho4.ownV.base_ (Nat.le_trans hz2 hz3))
  have Hb4 := Lib.hid (Hb3.out.trans (hb4.mono (Nat.le_trans hz2 hz3)))
  clear ho4 hb4
  go_wp2_with fail
  go_ret
  exact ⟨R4, c4, ret_slice (by rw [hF.out]), by rw [hF.out]; exact Ho4.out, Hb4.out⟩

set_option maxRecDepth 100000 in
set_option maxHeartbeats 6400000 in
theorem lsBatch {l : List Nd} {src : List (List Int)} {i j : Nat} {p : Nat} {m : Int} {q z : List Int} (A : Option Addr) (c : Nat) (As : Option Addr) (ca : Nat) (w : World) (B : Nat) (h : RdN w B A l) (hB : B ≤ w.heap.size) (hn : l.length ≤ 1048576)
    (hx : l[i]? = some ⟨12, (j : Int), -1, (p : Int), m⟩)
    (hi : ∀ W, Below w.heap.size w W → Calls Try.prog 80 #[.agg #[.slice A l.length c], .slice As src.length ca, .int .i64 (j : Int)] W fun e w' => ∃ R cR, e = .returned (.slice R q.length cR) ∧ OwnV w' W.heap.size R cR q ∧ Below W.heap.size W w')
    (iq : Items q) (lq : q.length ≤ 65536) (hp0 : 0 < p) (hp1 : p ≤ 65536) (hF : Hid (z = batL p q)) :
    Calls Try.prog 80 #[.agg #[.slice A l.length c], .slice As src.length ca, .int .i64 i] w fun e w' => ∃ R cR, e = .returned (.slice R z.length cR) ∧ OwnV w' w.heap.size R cR z ∧ Below w.heap.size w w' := by
  have _u1 := hn
  have _u2 := lq
  have _u3 := iq
  clear _u1 _u2 _u3
  have hlt : i < l.length := (List.getElem?_eq_some_iff.1 hx).1
  have hb0 := (Below.refl w.heap.size w).alloc (Nat.le_refl _) (.cells #[.slice A l.length c] 32)
  obtain ⟨b, o, y, rfl, hbB, hy, hc⟩ := (h.below hb0 (by omega)).at_ hlt
  obtain rfl := Option.some.inj (hx.symm.trans hy)
  obtain ⟨c0, c1, c2, c3, c4⟩ := hc
  simp only at c0 c1 c2 c3 c4
  obtain ⟨W2, hW2⟩ : ∃ W2 : World, W2 = (w.alloc (.cells #[.slice (some ⟨b, o, none⟩) l.length c] 32)).alloc (.cells #[.int .i64 12, .int .i64 (j : Int), .int .i64 (-1), .int .i64 (p : Int), .int .i64 m] 102) := ⟨_, rfl⟩
  have hb2 : Below w.heap.size w W2 := by rw [hW2]; exact ((Below.refl _ _).alloc (Nat.le_refl _) _).alloc (by simp) _
  have hs2 : W2.heap.size = w.heap.size + 2 := by rw [hW2]; simp
  have hbox : Bk W2 w.heap.size 32 [.slice (some ⟨b, o, none⟩) l.length c] := by rw [hW2]; exact (Bk.new _ _ [_]).alloc _
  have hnode : Bk W2 (w.heap.size + 1) 102 [.int .i64 12, .int .i64 (j : Int), .int .i64 (-1), .int .i64 (p : Int), .int .i64 m] := by
    rw [hW2]
    have := Bk.new (w.alloc (.cells #[.slice (some ⟨b, o, none⟩) l.length c] 32)) 102 [.int .i64 12, .int .i64 (j : Int), .int .i64 (-1), .int .i64 (p : Int), .int .i64 m]
    simpa using this
  have HW2 := Lib.hid hW2
  have Hb2 := Lib.hid hb2
  have Hbox := Lib.hid hbox
  have Hnode := Lib.hid hnode
  have Hs2 := Lib.hid hs2
  have Hi := Lib.hid hi
  have Iq := Lib.hid iq
  clear hx hy h hb0 hi iq hW2 hb2 hbox hnode hs2
  go_enter Try.func80, Try.ntmps80
  go_wp2_with fail
  rw [← HW2.out]
  refine (Hi.out W2 Hb2.out).mono ?_
  rintro e w3 ⟨R, cR, rfl, ho3, hb3⟩
  have hbox3 := Hbox.out.below hb3 Hbox.out.lt
  have hnode3 := Hnode.out.below hb3 Hnode.out.lt
  have e0 : w3.cell? ⟨w.heap.size, 0, none⟩ = some (.slice (some ⟨b, o, none⟩) l.length c) := hbox3.cell 0
  have d0 : w3.cell? ⟨w.heap.size + 1, 0, none⟩ = some (.int .i64 12) := hnode3.cell 0
  have d1 : w3.cell? ⟨w.heap.size + 1, 1, none⟩ = some (.int .i64 (j : Int)) := hnode3.cell 1
  have d2 : w3.cell? ⟨w.heap.size + 1, 2, none⟩ = some (.int .i64 (-1)) := hnode3.cell 2
  have d3 : w3.cell? ⟨w.heap.size + 1, 3, none⟩ = some (.int .i64 (p : Int)) := hnode3.cell 3
  have d4 : w3.cell? ⟨w.heap.size + 1, 4, none⟩ = some (.int .i64 m) := hnode3.cell 4
  have hz2 : w.heap.size ≤ W2.heap.size := by rw [Hs2.out]; omega
  have hz3 := hb3.size
  have hcap := ho3.len_le
  have Hb3 := Lib.hid (Hb2.out.trans (hb3.mono hz2))
  have Hb23 := Lib.hid hb3
  have Ho3 := Lib.hid (ho3.base_ hz2)
  clear ho3 hb3 hbox3 hnode3
  go_wp2_with fail
  refine (specBatched_any R cR q p w3 w3.heap.size Ho3.out.rd (Nat.le_refl _) (by omega) hp0 hp1 Iq.out).mono ?_
  rintro e w4 ⟨R4, c4, rfl, ho4, hb4⟩
  have Ho4 := Lib.hid (ho4.ownV.base_ (Nat.le_trans hz2 hz3))
  have Hb4 := Lib.hid (Hb3.out.trans (hb4.mono (Nat.le_trans hz2 hz3)))
  clear ho4 hb4
  go_wp2_with fail
  go_ret
  exact ⟨R4, c4, ret_slice (by rw [hF.out]), by rw [hF.out]; exact Ho4.out, Hb4.out⟩

end Go.Proofs.Ytnmekcifbmcdpaa

/- Contracts: the list of a node, by the reference (two below). -/
namespace Go.Proofs.Ytnmekcifbmcdpaa
open Go.RowKit

set_option maxRecDepth 100000 in
set_option maxHeartbeats 6400000 in
theorem lsChain {l : List Nd} {src : List (List Int)} {i j j2 : Nat} {n m : Int} {q r z : List Int} (A : Option Addr) (c : Nat) (As : Option Addr) (ca : Nat) (w : World) (B : Nat) (h : RdN w B A l) (hB : B ≤ w.heap.size) (hn : l.length ≤ 1048576)
    (hx : l[i]? = some ⟨7, (j : Int), (j2 : Int), n, m⟩)
    (hi : ∀ W, Below w.heap.size w W → Calls Try.prog 80 #[.agg #[.slice A l.length c], .slice As src.length ca, .int .i64 (j : Int)] W fun e w' => ∃ R cR, e = .returned (.slice R q.length cR) ∧ OwnV w' W.heap.size R cR q ∧ Below W.heap.size W w')
    (iq : Items q) (lq : q.length ≤ 65536)
    (hi2 : ∀ W, Below w.heap.size w W → Calls Try.prog 80 #[.agg #[.slice A l.length c], .slice As src.length ca, .int .i64 (j2 : Int)] W fun e w' => ∃ R cR, e = .returned (.slice R r.length cR) ∧ OwnV w' W.heap.size R cR r ∧ Below W.heap.size W w')
    (ir : Items r) (lr : r.length ≤ 65536) (hF : Hid (z = q ++ r)) :
    Calls Try.prog 80 #[.agg #[.slice A l.length c], .slice As src.length ca, .int .i64 i] w fun e w' => ∃ R cR, e = .returned (.slice R z.length cR) ∧ OwnV w' w.heap.size R cR z ∧ Below w.heap.size w w' := by
  have _u1 := hn
  have _u2 := lq
  have _u3 := iq
  clear _u1 _u2 _u3
  have hlt : i < l.length := (List.getElem?_eq_some_iff.1 hx).1
  have hb0 := (Below.refl w.heap.size w).alloc (Nat.le_refl _) (.cells #[.slice A l.length c] 32)
  obtain ⟨b, o, y, rfl, hbB, hy, hc⟩ := (h.below hb0 (by omega)).at_ hlt
  obtain rfl := Option.some.inj (hx.symm.trans hy)
  obtain ⟨c0, c1, c2, c3, c4⟩ := hc
  simp only at c0 c1 c2 c3 c4
  obtain ⟨W2, hW2⟩ : ∃ W2 : World, W2 = (w.alloc (.cells #[.slice (some ⟨b, o, none⟩) l.length c] 32)).alloc (.cells #[.int .i64 7, .int .i64 (j : Int), .int .i64 (j2 : Int), .int .i64 n, .int .i64 m] 102) := ⟨_, rfl⟩
  have hb2 : Below w.heap.size w W2 := by rw [hW2]; exact ((Below.refl _ _).alloc (Nat.le_refl _) _).alloc (by simp) _
  have hs2 : W2.heap.size = w.heap.size + 2 := by rw [hW2]; simp
  have hbox : Bk W2 w.heap.size 32 [.slice (some ⟨b, o, none⟩) l.length c] := by rw [hW2]; exact (Bk.new _ _ [_]).alloc _
  have hnode : Bk W2 (w.heap.size + 1) 102 [.int .i64 7, .int .i64 (j : Int), .int .i64 (j2 : Int), .int .i64 n, .int .i64 m] := by
    rw [hW2]
    have := Bk.new (w.alloc (.cells #[.slice (some ⟨b, o, none⟩) l.length c] 32)) 102 [.int .i64 7, .int .i64 (j : Int), .int .i64 (j2 : Int), .int .i64 n, .int .i64 m]
    simpa using this
  have HW2 := Lib.hid hW2
  have Hb2 := Lib.hid hb2
  have Hbox := Lib.hid hbox
  have Hnode := Lib.hid hnode
  have Hs2 := Lib.hid hs2
  have Hi := Lib.hid hi
  have Iq := Lib.hid iq
  have _u4 := lr
  clear _u4
  have Hi2 := Lib.hid hi2
  have Ir := Lib.hid ir
  clear hx hy h hb0 hi iq hW2 hb2 hbox hnode hs2 hi2 ir
  go_enter Try.func80, Try.ntmps80
  go_wp2_with fail
  rw [← HW2.out]
  refine (Hi.out W2 Hb2.out).mono ?_
  rintro e w3 ⟨R, cR, rfl, ho3, hb3⟩
  have hbox3 := Hbox.out.below hb3 Hbox.out.lt
  have hnode3 := Hnode.out.below hb3 Hnode.out.lt
  have e0 : w3.cell? ⟨w.heap.size, 0, none⟩ = some (.slice (some ⟨b, o, none⟩) l.length c) := hbox3.cell 0
  have d0 : w3.cell? ⟨w.heap.size + 1, 0, none⟩ = some (.int .i64 7) := hnode3.cell 0
  have d1 : w3.cell? ⟨w.heap.size + 1, 1, none⟩ = some (.int .i64 (j : Int)) := hnode3.cell 1
  have d2 : w3.cell? ⟨w.heap.size + 1, 2, none⟩ = some (.int .i64 (j2 : Int)) := hnode3.cell 2
  have d3 : w3.cell? ⟨w.heap.size + 1, 3, none⟩ = some (.int .i64 n) := hnode3.cell 3
  have d4 : w3.cell? ⟨w.heap.size + 1, 4, none⟩ = some (.int .i64 m) := hnode3.cell 4
  have hz2 : w.heap.size ≤ W2.heap.size := by rw [Hs2.out]; omega
  have hz3 := hb3.size
  have hcap := ho3.len_le
  have Hb3 := Lib.hid (Hb2.out.trans (hb3.mono hz2))
  have Hb23 := Lib.hid hb3
  have Ho3 := Lib.hid (ho3.base_ hz2)
  clear ho3 hb3 hbox3 hnode3
  go_wp2_with fail
  refine (Hi2.out w3 Hb3.out).mono ?_
  rintro e w4 ⟨R4, c4, rfl, ho4, hb4⟩
  have hz4 := hb4.size
  have hz04 : w.heap.size ≤ w4.heap.size := by omega
  have hcap4 := ho4.len_le
  have Ho34 := Lib.hid (Ho3.out.below hb4 (Nat.le_refl _))
  have Ho4 := Lib.hid (ho4.base_ (Nat.le_trans hz2 hz3))
  have Hb4 := Lib.hid (Hb3.out.trans (hb4.mono (Nat.le_trans hz2 hz3)))
  clear ho4 hb4
  go_wp2_with (at_builtin; go_must (refine wpList_append_ints rfl _ _ rfl w.heap.size R cR q q.length rfl rfl Ho34.out R4 c4 r r.length w4.heap.size rfl rfl Ho4.out.rd (by omega) (by omega) ?_; intro R5 c5 w5 ho5 hg5); have Ho5 := Lib.hid ho5; have Hg5 := Lib.hid hg5; clear ho5 hg5)
  go_ret
  exact ⟨R5, c5, ret_slice (by rw [hF.out, List.length_append]), by rw [hF.out]; exact Ho5.out, Hb4.out.grown Hg5.out hz04 (fun g hg => (Ho34.out.row_lt g hg).1)⟩

set_option maxRecDepth 100000 in
set_option maxHeartbeats 6400000 in
theorem lsZip {l : List Nd} {src : List (List Int)} {i j j2 : Nat} {n m : Int} {q r z : List Int} (A : Option Addr) (c : Nat) (As : Option Addr) (ca : Nat) (w : World) (B : Nat) (h : RdN w B A l) (hB : B ≤ w.heap.size) (hn : l.length ≤ 1048576)
    (hx : l[i]? = some ⟨8, (j : Int), (j2 : Int), n, m⟩)
    (hi : ∀ W, Below w.heap.size w W → Calls Try.prog 80 #[.agg #[.slice A l.length c], .slice As src.length ca, .int .i64 (j : Int)] W fun e w' => ∃ R cR, e = .returned (.slice R q.length cR) ∧ OwnV w' W.heap.size R cR q ∧ Below W.heap.size W w')
    (iq : Items q) (lq : q.length ≤ 65536)
    (hi2 : ∀ W, Below w.heap.size w W → Calls Try.prog 80 #[.agg #[.slice A l.length c], .slice As src.length ca, .int .i64 (j2 : Int)] W fun e w' => ∃ R cR, e = .returned (.slice R r.length cR) ∧ OwnV w' W.heap.size R cR r ∧ Below W.heap.size W w')
    (ir : Items r) (lr : r.length ≤ 65536) (hF : Hid (z = zipL q r)) :
    Calls Try.prog 80 #[.agg #[.slice A l.length c], .slice As src.length ca, .int .i64 i] w fun e w' => ∃ R cR, e = .returned (.slice R z.length cR) ∧ OwnV w' w.heap.size R cR z ∧ Below w.heap.size w w' := by
  have _u1 := hn
  have _u2 := lq
  have _u3 := iq
  clear _u1 _u2 _u3
  have hlt : i < l.length := (List.getElem?_eq_some_iff.1 hx).1
  have hb0 := (Below.refl w.heap.size w).alloc (Nat.le_refl _) (.cells #[.slice A l.length c] 32)
  obtain ⟨b, o, y, rfl, hbB, hy, hc⟩ := (h.below hb0 (by omega)).at_ hlt
  obtain rfl := Option.some.inj (hx.symm.trans hy)
  obtain ⟨c0, c1, c2, c3, c4⟩ := hc
  simp only at c0 c1 c2 c3 c4
  obtain ⟨W2, hW2⟩ : ∃ W2 : World, W2 = (w.alloc (.cells #[.slice (some ⟨b, o, none⟩) l.length c] 32)).alloc (.cells #[.int .i64 8, .int .i64 (j : Int), .int .i64 (j2 : Int), .int .i64 n, .int .i64 m] 102) := ⟨_, rfl⟩
  have hb2 : Below w.heap.size w W2 := by rw [hW2]; exact ((Below.refl _ _).alloc (Nat.le_refl _) _).alloc (by simp) _
  have hs2 : W2.heap.size = w.heap.size + 2 := by rw [hW2]; simp
  have hbox : Bk W2 w.heap.size 32 [.slice (some ⟨b, o, none⟩) l.length c] := by rw [hW2]; exact (Bk.new _ _ [_]).alloc _
  have hnode : Bk W2 (w.heap.size + 1) 102 [.int .i64 8, .int .i64 (j : Int), .int .i64 (j2 : Int), .int .i64 n, .int .i64 m] := by
    rw [hW2]
    have := Bk.new (w.alloc (.cells #[.slice (some ⟨b, o, none⟩) l.length c] 32)) 102 [.int .i64 8, .int .i64 (j : Int), .int .i64 (j2 : Int), .int .i64 n, .int .i64 m]
    simpa using this
  have HW2 := Lib.hid hW2
  have Hb2 := Lib.hid hb2
  have Hbox := Lib.hid hbox
  have Hnode := Lib.hid hnode
  have Hs2 := Lib.hid hs2
  have Hi := Lib.hid hi
  have Iq := Lib.hid iq
  have _u4 := lr
  clear _u4
  have Hi2 := Lib.hid hi2
  have Ir := Lib.hid ir
  clear hx hy h hb0 hi iq hW2 hb2 hbox hnode hs2 hi2 ir
  go_enter Try.func80, Try.ntmps80
  go_wp2_with fail
  rw [← HW2.out]
  refine (Hi.out W2 Hb2.out).mono ?_
  rintro e w3 ⟨R, cR, rfl, ho3, hb3⟩
  have hbox3 := Hbox.out.below hb3 Hbox.out.lt
  have hnode3 := Hnode.out.below hb3 Hnode.out.lt
  have e0 : w3.cell? ⟨w.heap.size, 0, none⟩ = some (.slice (some ⟨b, o, none⟩) l.length c) := hbox3.cell 0
  have d0 : w3.cell? ⟨w.heap.size + 1, 0, none⟩ = some (.int .i64 8) := hnode3.cell 0
  have d1 : w3.cell? ⟨w.heap.size + 1, 1, none⟩ = some (.int .i64 (j : Int)) := hnode3.cell 1
  have d2 : w3.cell? ⟨w.heap.size + 1, 2, none⟩ = some (.int .i64 (j2 : Int)) := hnode3.cell 2
  have d3 : w3.cell? ⟨w.heap.size + 1, 3, none⟩ = some (.int .i64 n) := hnode3.cell 3
  have d4 : w3.cell? ⟨w.heap.size + 1, 4, none⟩ = some (.int .i64 m) := hnode3.cell 4
  have hz2 : w.heap.size ≤ W2.heap.size := by rw [Hs2.out]; omega
  have hz3 := hb3.size
  have hcap := ho3.len_le
  have Hb3 := Lib.hid (Hb2.out.trans (hb3.mono hz2))
  have Hb23 := Lib.hid hb3
  have Ho3 := Lib.hid (ho3.base_ hz2)
  clear ho3 hb3 hbox3 hnode3
  go_wp2_with fail
  refine (Hi2.out w3 Hb3.out).mono ?_
  rintro e w4 ⟨R4, c4, rfl, ho4, hb4⟩
  have hz4 := hb4.size
  have hz04 : w.heap.size ≤ w4.heap.size := by omega
  have hcap4 := ho4.len_le
  have Ho34 := Lib.hid (Ho3.out.below hb4 (Nat.le_refl _))
  have Ho4 := Lib.hid (ho4.base_ (Nat.le_trans hz2 hz3))
  have Hb4 := Lib.hid (Hb3.out.trans (hb4.mono (Nat.le_trans hz2 hz3)))
  clear ho4 hb4
  go_wp2_with fail
  refine (specZipped_any R cR q R4 c4 r w4 w4.heap.size Ho34.out.rd Ho4.out.rd (Nat.le_refl _) (by omega) Iq.out Ir.out).mono ?_
  rintro e w5 ⟨R5, c5, rfl, ho5, hb5⟩
  have Ho5 := Lib.hid (ho5.ownV.base_ hz04)
  have Hb5 := Lib.hid (Hb4.out.trans (hb5.mono hz04))
  clear ho5 hb5
  go_wp2_with fail
  go_ret
  exact ⟨R5, c5, ret_slice (by rw [hF.out]), by rw [hF.out]; exact Ho5.out, Hb5.out⟩

set_option maxRecDepth 100000 in
set_option maxHeartbeats 6400000 in
theorem lsMerge {l : List Nd} {src : List (List Int)} {i j j2 : Nat} {n m : Int} {q r z : List Int} (A : Option Addr) (c : Nat) (As : Option Addr) (ca : Nat) (w : World) (B : Nat) (h : RdN w B A l) (hB : B ≤ w.heap.size) (hn : l.length ≤ 1048576)
    (hx : l[i]? = some ⟨9, (j : Int), (j2 : Int), n, m⟩)
    (hi : ∀ W, Below w.heap.size w W → Calls Try.prog 80 #[.agg #[.slice A l.length c], .slice As src.length ca, .int .i64 (j : Int)] W fun e w' => ∃ R cR, e = .returned (.slice R q.length cR) ∧ OwnV w' W.heap.size R cR q ∧ Below W.heap.size W w')
    (iq : Items q) (lq : q.length ≤ 65536)
    (hi2 : ∀ W, Below w.heap.size w W → Calls Try.prog 80 #[.agg #[.slice A l.length c], .slice As src.length ca, .int .i64 (j2 : Int)] W fun e w' => ∃ R cR, e = .returned (.slice R r.length cR) ∧ OwnV w' W.heap.size R cR r ∧ Below W.heap.size W w')
    (ir : Items r) (lr : r.length ≤ 65536) (hF : Hid (z = mergeL q r)) :
    Calls Try.prog 80 #[.agg #[.slice A l.length c], .slice As src.length ca, .int .i64 i] w fun e w' => ∃ R cR, e = .returned (.slice R z.length cR) ∧ OwnV w' w.heap.size R cR z ∧ Below w.heap.size w w' := by
  have _u1 := hn
  have _u2 := lq
  have _u3 := iq
  clear _u1 _u2 _u3
  have hlt : i < l.length := (List.getElem?_eq_some_iff.1 hx).1
  have hb0 := (Below.refl w.heap.size w).alloc (Nat.le_refl _) (.cells #[.slice A l.length c] 32)
  obtain ⟨b, o, y, rfl, hbB, hy, hc⟩ := (h.below hb0 (by omega)).at_ hlt
  obtain rfl := Option.some.inj (hx.symm.trans hy)
  obtain ⟨c0, c1, c2, c3, c4⟩ := hc
  simp only at c0 c1 c2 c3 c4
  obtain ⟨W2, hW2⟩ : ∃ W2 : World, W2 = (w.alloc (.cells #[.slice (some ⟨b, o, none⟩) l.length c] 32)).alloc (.cells #[.int .i64 9, .int .i64 (j : Int), .int .i64 (j2 : Int), .int .i64 n, .int .i64 m] 102) := ⟨_, rfl⟩
  have hb2 : Below w.heap.size w W2 := by rw [hW2]; exact ((Below.refl _ _).alloc (Nat.le_refl _) _).alloc (by simp) _
  have hs2 : W2.heap.size = w.heap.size + 2 := by rw [hW2]; simp
  have hbox : Bk W2 w.heap.size 32 [.slice (some ⟨b, o, none⟩) l.length c] := by rw [hW2]; exact (Bk.new _ _ [_]).alloc _
  have hnode : Bk W2 (w.heap.size + 1) 102 [.int .i64 9, .int .i64 (j : Int), .int .i64 (j2 : Int), .int .i64 n, .int .i64 m] := by
    rw [hW2]
    have := Bk.new (w.alloc (.cells #[.slice (some ⟨b, o, none⟩) l.length c] 32)) 102 [.int .i64 9, .int .i64 (j : Int), .int .i64 (j2 : Int), .int .i64 n, .int .i64 m]
    simpa using this
  have HW2 := Lib.hid hW2
  have Hb2 := Lib.hid hb2
  have Hbox := Lib.hid hbox
  have Hnode := Lib.hid hnode
  have Hs2 := Lib.hid hs2
  have Hi := Lib.hid hi
  have Iq := Lib.hid iq
  have _u4 := lr
  clear _u4
  have Hi2 := Lib.hid hi2
  have Ir := Lib.hid ir
  clear hx hy h hb0 hi iq hW2 hb2 hbox hnode hs2 hi2 ir
  go_enter Try.func80, Try.ntmps80
  go_wp2_with fail
  rw [← HW2.out]
  refine (Hi.out W2 Hb2.out).mono ?_
  rintro e w3 ⟨R, cR, rfl, ho3, hb3⟩
  have hbox3 := Hbox.out.below hb3 Hbox.out.lt
  have hnode3 := Hnode.out.below hb3 Hnode.out.lt
  have e0 : w3.cell? ⟨w.heap.size, 0, none⟩ = some (.slice (some ⟨b, o, none⟩) l.length c) := hbox3.cell 0
  have d0 : w3.cell? ⟨w.heap.size + 1, 0, none⟩ = some (.int .i64 9) := hnode3.cell 0
  have d1 : w3.cell? ⟨w.heap.size + 1, 1, none⟩ = some (.int .i64 (j : Int)) := hnode3.cell 1
  have d2 : w3.cell? ⟨w.heap.size + 1, 2, none⟩ = some (.int .i64 (j2 : Int)) := hnode3.cell 2
  have d3 : w3.cell? ⟨w.heap.size + 1, 3, none⟩ = some (.int .i64 n) := hnode3.cell 3
  have d4 : w3.cell? ⟨w.heap.size + 1, 4, none⟩ = some (.int .i64 m) := hnode3.cell 4
  have hz2 : w.heap.size ≤ W2.heap.size := by rw [Hs2.out]; omega
  have hz3 := hb3.size
  have hcap := ho3.len_le
  have Hb3 := Lib.hid (Hb2.out.trans (hb3.mono hz2))
  have Hb23 := Lib.hid hb3
  have Ho3 := Lib.hid (ho3.base_ hz2)
  clear ho3 hb3 hbox3 hnode3
  go_wp2_with fail
  refine (Hi2.out w3 Hb3.out).mono ?_
  rintro e w4 ⟨R4, c4, rfl, ho4, hb4⟩
  have hz4 := hb4.size
  have hz04 : w.heap.size ≤ w4.heap.size := by omega
  have hcap4 := ho4.len_le
  have Ho34 := Lib.hid (Ho3.out.below hb4 (Nat.le_refl _))
  have Ho4 := Lib.hid (ho4.base_ (Nat.le_trans hz2 hz3))
  have Hb4 := Lib.hid (Hb3.out.trans (hb4.mono (Nat.le_trans hz2 hz3)))
  clear ho4 hb4
  go_wp2_with fail
  refine (specMerged_any R cR q R4 c4 r w4 w4.heap.size Ho34.out.rd Ho4.out.rd (Nat.le_refl _) (by omega) (by omega)).mono ?_
  rintro e w5 ⟨R5, c5, rfl, ho5, hb5⟩
  have Ho5 := Lib.hid (ho5.ownV.base_ hz04)
  have Hb5 := Lib.hid (Hb4.out.trans (hb5.mono hz04))
  clear ho5 hb5
  go_wp2_with fail
  go_ret
  exact ⟨R5, c5, ret_slice (by rw [hF.out]), by rw [hF.out]; exact Ho5.out, Hb5.out⟩

set_option maxRecDepth 100000 in
set_option maxHeartbeats 6400000 in
theorem lsTurn {l : List Nd} {src : List (List Int)} {i j j2 : Nat} {n m : Int} {q r z : List Int} (A : Option Addr) (c : Nat) (As : Option Addr) (ca : Nat) (w : World) (B : Nat) (h : RdN w B A l) (hB : B ≤ w.heap.size) (hn : l.length ≤ 1048576)
    (hx : l[i]? = some ⟨10, (j : Int), (j2 : Int), n, m⟩)
    (hi : ∀ W, Below w.heap.size w W → Calls Try.prog 80 #[.agg #[.slice A l.length c], .slice As src.length ca, .int .i64 (j : Int)] W fun e w' => ∃ R cR, e = .returned (.slice R q.length cR) ∧ OwnV w' W.heap.size R cR q ∧ Below W.heap.size W w')
    (iq : Items q) (lq : q.length ≤ 65536)
    (hi2 : ∀ W, Below w.heap.size w W → Calls Try.prog 80 #[.agg #[.slice A l.length c], .slice As src.length ca, .int .i64 (j2 : Int)] W fun e w' => ∃ R cR, e = .returned (.slice R r.length cR) ∧ OwnV w' W.heap.size R cR r ∧ Below W.heap.size W w')
    (ir : Items r) (lr : r.length ≤ 65536) (hF : Hid (z = turnL q r)) :
    Calls Try.prog 80 #[.agg #[.slice A l.length c], .slice As src.length ca, .int .i64 i] w fun e w' => ∃ R cR, e = .returned (.slice R z.length cR) ∧ OwnV w' w.heap.size R cR z ∧ Below w.heap.size w w' := by
  have _u1 := hn
  have _u2 := lq
  have _u3 := iq
  clear _u1 _u2 _u3
  have hlt : i < l.length := (List.getElem?_eq_some_iff.1 hx).1
  have hb0 := (Below.refl w.heap.size w).alloc (Nat.le_refl _) (.cells #[.slice A l.length c] 32)
  obtain ⟨b, o, y, rfl, hbB, hy, hc⟩ := (h.below hb0 (by omega)).at_ hlt
  obtain rfl := Option.some.inj (hx.symm.trans hy)
  obtain ⟨c0, c1, c2, c3, c4⟩ := hc
  simp only at c0 c1 c2 c3 c4
  obtain ⟨W2, hW2⟩ : ∃ W2 : World, W2 = (w.alloc (.cells #[.slice (some ⟨b, o, none⟩) l.length c] 32)).alloc (.cells #[.int .i64 10, .int .i64 (j : Int), .int .i64 (j2 : Int), .int .i64 n, .int .i64 m] 102) := ⟨_, rfl⟩
  have hb2 : Below w.heap.size w W2 := by rw [hW2]; exact ((Below.refl _ _).alloc (Nat.le_refl _) _).alloc (by simp) _
  have hs2 : W2.heap.size = w.heap.size + 2 := by rw [hW2]; simp
  have hbox : Bk W2 w.heap.size 32 [.slice (some ⟨b, o, none⟩) l.length c] := by rw [hW2]; exact (Bk.new _ _ [_]).alloc _
  have hnode : Bk W2 (w.heap.size + 1) 102 [.int .i64 10, .int .i64 (j : Int), .int .i64 (j2 : Int), .int .i64 n, .int .i64 m] := by
    rw [hW2]
    have := Bk.new (w.alloc (.cells #[.slice (some ⟨b, o, none⟩) l.length c] 32)) 102 [.int .i64 10, .int .i64 (j : Int), .int .i64 (j2 : Int), .int .i64 n, .int .i64 m]
    simpa using this
  have HW2 := Lib.hid hW2
  have Hb2 := Lib.hid hb2
  have Hbox := Lib.hid hbox
  have Hnode := Lib.hid hnode
  have Hs2 := Lib.hid hs2
  have Hi := Lib.hid hi
  have Iq := Lib.hid iq
  have _u4 := lr
  clear _u4
  have Hi2 := Lib.hid hi2
  have Ir := Lib.hid ir
  clear hx hy h hb0 hi iq hW2 hb2 hbox hnode hs2 hi2 ir
  go_enter Try.func80, Try.ntmps80
  go_wp2_with fail
  rw [← HW2.out]
  refine (Hi.out W2 Hb2.out).mono ?_
  rintro e w3 ⟨R, cR, rfl, ho3, hb3⟩
  have hbox3 := Hbox.out.below hb3 Hbox.out.lt
  have hnode3 := Hnode.out.below hb3 Hnode.out.lt
  have e0 : w3.cell? ⟨w.heap.size, 0, none⟩ = some (.slice (some ⟨b, o, none⟩) l.length c) := hbox3.cell 0
  have d0 : w3.cell? ⟨w.heap.size + 1, 0, none⟩ = some (.int .i64 10) := hnode3.cell 0
  have d1 : w3.cell? ⟨w.heap.size + 1, 1, none⟩ = some (.int .i64 (j : Int)) := hnode3.cell 1
  have d2 : w3.cell? ⟨w.heap.size + 1, 2, none⟩ = some (.int .i64 (j2 : Int)) := hnode3.cell 2
  have d3 : w3.cell? ⟨w.heap.size + 1, 3, none⟩ = some (.int .i64 n) := hnode3.cell 3
  have d4 : w3.cell? ⟨w.heap.size + 1, 4, none⟩ = some (.int .i64 m) := hnode3.cell 4
  have hz2 : w.heap.size ≤ W2.heap.size := by rw [Hs2.out]; omega
  have hz3 := hb3.size
  have hcap := ho3.len_le
  have Hb3 := Lib.hid (Hb2.out.trans (hb3.mono hz2))
  have Hb23 := Lib.hid hb3
  have Ho3 := Lib.hid (ho3.base_ hz2)
  clear ho3 hb3 hbox3 hnode3
  go_wp2_with fail
  refine (Hi2.out w3 Hb3.out).mono ?_
  rintro e w4 ⟨R4, c4, rfl, ho4, hb4⟩
  have hz4 := hb4.size
  have hz04 : w.heap.size ≤ w4.heap.size := by omega
  have hcap4 := ho4.len_le
  have Ho34 := Lib.hid (Ho3.out.below hb4 (Nat.le_refl _))
  have Ho4 := Lib.hid (ho4.base_ (Nat.le_trans hz2 hz3))
  have Hb4 := Lib.hid (Hb3.out.trans (hb4.mono (Nat.le_trans hz2 hz3)))
  clear ho4 hb4
  go_wp2_with fail
  refine (specTurned_any R cR q R4 c4 r w4 w4.heap.size Ho34.out.rd Ho4.out.rd (Nat.le_refl _) (by omega) (by omega)).mono ?_
  rintro e w5 ⟨R5, c5, rfl, ho5, hb5⟩
  have Ho5 := Lib.hid (ho5.ownV.base_ hz04)
  have Hb5 := Lib.hid (Hb4.out.trans (hb5.mono hz04))
  clear ho5 hb5
  go_wp2_with fail
  go_ret
  exact ⟨R5, c5, ret_slice (by rw [hF.out]), by rw [hF.out]; exact Ho5.out, Hb5.out⟩

end Go.Proofs.Ytnmekcifbmcdpaa

/- Contracts: the list of a node, by the reference (the tree). -/
namespace Go.Proofs.Ytnmekcifbmcdpaa
open Go.RowKit

set_option maxRecDepth 100000 in
set_option maxHeartbeats 3200000 in
theorem lsLeaf {l : List Nd} {src : List (List Int)} {i p : Nat} {m : Int} {z : List Int} (A : Option Addr) (c : Nat) (As : Option Addr) (ca : Nat) (w : World) (B : Nat) (h : RdN w B A l) (hs : RdR w B As src) (hB : B ≤ w.heap.size)
    (hx : l[i]? = some ⟨0, -1, -1, (p : Int), m⟩) (hp : p < src.length) (hr : src[p]? = some z) (hz : z.length ≤ 65536) :
    Calls Try.prog 80 #[.agg #[.slice A l.length c], .slice As src.length ca, .int .i64 i] w fun e w' => ∃ R cR, e = .returned (.slice R z.length cR) ∧ OwnV w' w.heap.size R cR z ∧ Below w.heap.size w w' := by
  have hlt : i < l.length := (List.getElem?_eq_some_iff.1 hx).1
  have hb0 := (Below.refl w.heap.size w).alloc (Nat.le_refl _) (.cells #[.slice A l.length c] 32)
  obtain ⟨ad, y2, Ar, cr, rfl, hy2, hcr, hri⟩ := hs.at_ hp
  obtain rfl := Option.some.inj (hr.symm.trans hy2)
  obtain ⟨_, e3, hadB, _⟩ := hs (by omega)
  obtain rfl := Option.some.inj e3
  obtain ⟨b, o, y, rfl, hbB, hy, hc⟩ := (h.below hb0 (by omega)).at_ hlt
  obtain rfl := Option.some.inj (hx.symm.trans hy)
  obtain ⟨c0, c1, c2, c3, c4⟩ := hc
  simp only at c0 c1 c2 c3 c4
  obtain ⟨W2, hW2⟩ : ∃ W2 : World, W2 = (w.alloc (.cells #[.slice (some ⟨b, o, none⟩) l.length c] 32)).alloc (.cells #[.int .i64 0, .int .i64 (-1), .int .i64 (-1), .int .i64 (p : Int), .int .i64 m] 102) := ⟨_, rfl⟩
  have hb2 : Below w.heap.size w W2 := by rw [hW2]; exact ((Below.refl _ _).alloc (Nat.le_refl _) _).alloc (by simp) _
  have hab : (ad.add p).block < w.heap.size := by rw [add_block]; omega
  have hcr2 : (w.alloc (.cells #[.slice (some ⟨b, o, none⟩) l.length c] 32)).cell? (ad.add p) = some (.slice Ar z.length cr) := (hb0.cell hab).trans hcr
  have hcr3 : ((w.alloc (.cells #[.slice (some ⟨b, o, none⟩) l.length c] 32)).alloc (.cells #[.int .i64 0, .int .i64 (-1), .int .i64 (-1), .int .i64 (p : Int), .int .i64 m] 102)).cell? (ad.add p) = some (.slice Ar z.length cr) := by rw [← hW2]; exact (hb2.cell hab).trans hcr
  have HW2 := Lib.hid hW2
  have Hb2 := Lib.hid hb2
  have Hri := Lib.hid (hri.below hb2 hB)
  have hz2 := hb2.size
  clear hx hy h hb0 hb2 hW2 hri hy2 hr hs
  go_enter Try.func80, Try.ntmps80
  go_wp2_with fail
  rw [← HW2.out]
  refine (specCopyInts_any Ar cr z W2 B Hri.out (by omega) hz).mono ?_
  rintro e w4 ⟨R4, c4, rfl, ho4, hb4⟩
  have Ho4 := Lib.hid (ho4.base_ hz2)
  have Hb4 := Lib.hid (Hb2.out.trans (hb4.mono hz2))
  clear ho4 hb4
  go_wp2_with fail
  go_ret
  exact ⟨R4, c4, rfl, Ho4.out, Hb4.out⟩

theorem arity_zero {k : Int} (h : arity k = 0) : k = 0 := by
  unfold arity at h
  split at h
  · rename_i e; simpa using e
  split at h
  · cases h
  split at h
  · cases h
  · cases h
theorem arity_two {k : Int} (h : arity k = 2) : k = 7 ∨ k = 8 ∨ k = 9 ∨ k = 10 := by
  unfold arity at h
  split at h
  · cases h
  split at h
  · rename_i e; simpa [or_assoc] using e
  split at h
  · cases h
  · cases h
theorem arity_one {k : Int} (h : arity k = 1) : k = 1 ∨ k = 2 ∨ k = 3 ∨ k = 4 ∨ k = 5 ∨ k = 6 ∨ k = 11 ∨ k = 12 ∨ k = 13 := by
  unfold arity at h
  split at h
  · cases h
  split at h
  · cases h
  split at h
  · rename_i e; simpa [or_assoc] using e
  · cases h

theorem specListOf_tree {l : List Nd} {src : List (List Int)} (hsrc : srcOk src = true) (h3 : src.length = 3) (A : Option Addr) (c : Nat) (As : Option Addr) (ca : Nat) (B : Nat) (hn : l.length ≤ 1048576) {i : Nat} {t : T} (ht : IsTree l i t) : t.nums → t.depth ≤ 12 → ∀ (w : World), RdN w B A l → RdR w B As src → B ≤ w.heap.size →
    Calls Try.prog 80 #[.agg #[.slice A l.length c], .slice As src.length ca, .int .i64 i] w fun e w' => ∃ R cR, e = .returned (.slice R (lst src t).length cR) ∧ OwnV w' w.heap.size R cR (lst src t) ∧ Below w.heap.size w w' := by
  induction ht with
  | @leaf i x hx ha h1 h2 =>
    intro hnum _ w h hs hB
    have hk := arity_zero ha
    obtain ⟨k, a, b, n, m⟩ := x
    simp only at hk h1 h2
    subst hk h1 h2
    simp [T.nums, numsOk, inR] at hnum
    obtain ⟨p, rfl⟩ : ∃ p : Nat, n = (p : Int) := ⟨n.toNat, by omega⟩
    obtain ⟨r, hr⟩ := get_of_lt src (k := p) (by omega)
    have hl : lst src (.leaf ⟨0, -1, -1, (p : Int), m⟩) = r := by
      simp only [lst, Int.toNat_natCast, List.getD_eq_getElem?_getD, hr]
      rfl
    rw [hl]
    exact lsLeaf A c As ca w B h hs hB hx (by omega) hr (by have := (src_items hsrc hr).2; omega)
  | @stem i j x t hx ha h1 hj h2 ht ih =>
    intro hnum hd w h hs hB
    have hdt : t.depth ≤ 12 := by simp only [T.depth] at hd; omega
    have hi : ∀ W, Below w.heap.size w W → _ := fun W hb => ih hnum.2 hdt W (h.below hb hB) (hs.below hb hB) (Nat.le_trans hB hb.size)
    have iq := lst_items hsrc hnum.2
    have lq : (lst src t).length ≤ 65536 := by have := lst_short hsrc hdt; omega
    have hnx := hnum.1
    have hk := arity_one ha
    obtain ⟨k, a, b, n, m⟩ := x
    simp only at hk h1 h2
    subst h1 h2
    rcases hk with rfl | rfl | rfl | rfl | rfl | rfl | rfl | rfl | rfl
    · simp [numsOk, inR] at hnx
      exact lsMap A c As ca w B h hB hn hx hi iq lq (by omega) (by omega) (Lib.hid (by simp [lst, stemL]))
    · simp [numsOk, inR] at hnx
      exact lsFilter A c As ca w B h hB hn hx hi iq lq (by omega) (Lib.hid (by simp [lst, stemL]))
    · simp [numsOk, inR] at hnx
      obtain ⟨p, rfl⟩ : ∃ p : Nat, n = (p : Int) := ⟨n.toNat, by omega⟩
      exact lsTake A c As ca w B h hB hn hx hi iq lq (Lib.hid (by simp [lst, stemL]))
    · simp [numsOk, inR] at hnx
      obtain ⟨p, rfl⟩ : ∃ p : Nat, n = (p : Int) := ⟨n.toNat, by omega⟩
      exact lsDrop A c As ca w B h hB hn hx hi iq lq (Lib.hid (by
        simp only [lst, stemL, Int.toNat_natCast]
        by_cases hp : p ≤ (lst src t).length
        · simp [Nat.min_eq_left hp]
        · simp [Nat.min_eq_right (show (lst src t).length ≤ p by omega), List.drop_eq_nil_of_le (show (lst src t).length ≤ p by omega)]))
    · exact lsWhile A c As ca w B h hB hn hx hi iq lq (Lib.hid (by simp [lst, stemL]))
    · exact lsSkip A c As ca w B h hB hn hx hi iq lq (Lib.hid (by simp [lst, stemL]))
    · exact lsScan A c As ca w B h hB hn hx hi iq lq (Lib.hid (by simp [lst, stemL]))
    · simp [numsOk, inR] at hnx
      obtain ⟨p, rfl⟩ : ∃ p : Nat, n = (p : Int) := ⟨n.toNat, by omega⟩
      exact lsBatch A c As ca w B h hB hn hx hi iq lq (by omega) (by omega) (Lib.hid (by simp [lst, stemL]))
    · exact lsOnce A c As ca w B h hB hn hx hi iq lq (Lib.hid (by simp [lst, stemL]))
  | @fork i j j2 x ta tb hx ha h1 hj h2 hj2 hta htb iha ihb =>
    intro hnum hd w h hs hB
    have hda : ta.depth ≤ 12 := by simp only [T.depth] at hd; omega
    have hdb : tb.depth ≤ 12 := by simp only [T.depth] at hd; omega
    have hi : ∀ W, Below w.heap.size w W → _ := fun W hb => iha hnum.2.1 hda W (h.below hb hB) (hs.below hb hB) (Nat.le_trans hB hb.size)
    have hi2 : ∀ W, Below w.heap.size w W → _ := fun W hb => ihb hnum.2.2 hdb W (h.below hb hB) (hs.below hb hB) (Nat.le_trans hB hb.size)
    have iq := lst_items hsrc hnum.2.1
    have lq : (lst src ta).length ≤ 65536 := by have := lst_short hsrc hda; omega
    have ir := lst_items hsrc hnum.2.2
    have lr : (lst src tb).length ≤ 65536 := by have := lst_short hsrc hdb; omega
    have hk := arity_two ha
    obtain ⟨k, a, b, n, m⟩ := x
    simp only at hk h1 h2
    subst h1 h2
    rcases hk with rfl | rfl | rfl | rfl
    · exact lsChain A c As ca w B h hB hn hx hi iq lq hi2 ir lr (Lib.hid (by simp [lst, forkL]))
    · exact lsZip A c As ca w B h hB hn hx hi iq lq hi2 ir lr (Lib.hid (by simp [lst, forkL]))
    · exact lsMerge A c As ca w B h hB hn hx hi iq lq hi2 ir lr (Lib.hid (by simp [lst, forkL]))
    · exact lsTurn A c As ca w B h hB hn hx hi iq lq hi2 ir lr (Lib.hid (by simp [lst, forkL]))

end Go.Proofs.Ytnmekcifbmcdpaa

/- Contracts: the list of a node with one below, and with two, by the program, all kinds. -/
namespace Go.Proofs.Ytnmekcifbmcdpaa
open Go.RowKit

/-- What is asked of the sums of groups. -/
def BatchOk : Prop := ∀ (A : Option Addr) (c : Nat) (a : List Int) (n : Nat) (w : World) (base : Nat), OwnV w base A c a → a.length ≤ 65536 → 0 < n → n ≤ 30 → Items a →
  Calls Try.prog 119 #[.slice A a.length c, .int .i64 n] w fun e w' => ∃ R cR, e = .returned (.slice R (batL n a).length cR) ∧ OwnV w' w.heap.size R cR (batL n a) ∧ Below w.heap.size w w'

set_option maxRecDepth 100000 in
set_option maxHeartbeats 6400000 in
theorem implStem_batch (R : Option Addr) (cR : Nat) (q z : List Int) (xa xb : Int) (p : Nat) (m : Int) (w : World) (base : Nat) (ha : OwnV w base R cR q) (hbase : base ≤ w.heap.size) (lq : q.length ≤ 65536) (iq : Items q) (hp0 : 0 < p) (hp1 : p ≤ 30) (hBat : BatchOk) (hF : Hid (z = batL p q)) :
    Calls Try.prog 88 #[.agg #[.int .i64 12, .int .i64 xa, .int .i64 xb, .int .i64 (p : Int), .int .i64 m], .slice R q.length cR] w fun e w' => ∃ R' c', e = .returned (.slice R' z.length c') ∧ OwnV w' base R' c' z ∧ w.grownBy w' (rowOf R) := by
  have _u1 := lq
  have _u2 := iq
  have _u3 := hbase
  clear _u1 _u2 _u3
  obtain ⟨w3, hW3⟩ : ∃ w3 : World, w3 = w.alloc (.cells #[.int .i64 12, .int .i64 xa, .int .i64 xb, .int .i64 (p : Int), .int .i64 m] 102) := ⟨_, rfl⟩
  have hb2 : Below w.heap.size w w3 := by rw [hW3]; exact (Below.refl _ _).alloc (Nat.le_refl _) _
  have Ho3 := Lib.hid (ha.below hb2 (Nat.le_refl _))
  have hcap := ha.len_le
  have Iq := Lib.hid iq
  have HW3 := Lib.hid hW3
  have hz3 := hb2.size
  have Hb2 := Lib.hid hb2
  have Hb3 := Lib.hid (grown_below hb2 (rowOf R))
  clear ha iq hW3 hb2
  go_enter Try.func88, Try.ntmps88
  go_wp2_with fail
  rw [← HW3.out]
  refine (hBat R cR q p w3 base Ho3.out lq hp0 hp1 Iq.out).mono ?_
  rintro e w4 ⟨R4, c4, rfl, ho4, hb4⟩
  have Ho4 := Lib.hid (ho4.base_ (Nat.le_trans hbase hz3))
  have Hb4 := Lib.hid (grown_below (Hb2.out.trans (hb4.mono hz3)) (rowOf R))
  clear ho4 hb4
  go_wp2_with fail
  go_ret
  exact ⟨R4, c4, ret_slice (by rw [hF.out]), by rw [hF.out]; exact Ho4.out, Hb4.out⟩

theorem implStem_any (hBat : BatchOk) (x : Nd) (hk : arity x.k = 1) (hx : numsOk x = true) (R : Option Addr) (cR : Nat) (q : List Int) (w : World) (base : Nat) (ha : OwnV w base R cR q) (hbase : base ≤ w.heap.size) (lq : q.length ≤ 65536) (iq : Items q) :
    Calls Try.prog 88 #[.agg #[.int .i64 x.k, .int .i64 x.a, .int .i64 x.b, .int .i64 x.n, .int .i64 x.m], .slice R q.length cR] w fun e w' => ∃ R' c', e = .returned (.slice R' (stemL x q).length c') ∧ OwnV w' base R' c' (stemL x q) ∧ w.grownBy w' (rowOf R) := by
  have hk := arity_one hk
  obtain ⟨k, xa, xb, n, m⟩ := x
  simp only at hk
  rcases hk with rfl | rfl | rfl | rfl | rfl | rfl | rfl | rfl | rfl
  · simp [numsOk, inR] at hx
    exact implStem_map R cR q _ xa xb n m w base ha hbase lq iq (by omega) (by omega) (Lib.hid (by simp [stemL]))
  · simp [numsOk, inR] at hx
    exact implStem_filter R cR q _ xa xb n m w base ha hbase lq iq (by omega) (Lib.hid (by simp [stemL]))
  · simp [numsOk, inR] at hx
    obtain ⟨p, rfl⟩ : ∃ p : Nat, n = (p : Int) := ⟨n.toNat, by omega⟩
    exact implStem_take R cR q _ xa xb p m w base ha hbase lq iq (Lib.hid (by simp [stemL]))
  · simp [numsOk, inR] at hx
    obtain ⟨p, rfl⟩ : ∃ p : Nat, n = (p : Int) := ⟨n.toNat, by omega⟩
    exact implStem_drop R cR q _ xa xb p m w base ha hbase lq iq (Lib.hid (by
      simp only [stemL, Int.toNat_natCast]
      by_cases hp : p ≤ q.length
      · simp [Nat.min_eq_left hp]
      · simp [Nat.min_eq_right (show q.length ≤ p by omega), List.drop_eq_nil_of_le (show q.length ≤ p by omega)]))
  · exact implStem_while R cR q _ xa xb n m w base ha hbase lq iq (Lib.hid (by simp [stemL]))
  · exact implStem_skip R cR q _ xa xb n m w base ha hbase lq iq (Lib.hid (by simp [stemL]))
  · exact implStem_scan R cR q _ xa xb n m w base ha hbase lq iq (Lib.hid (by simp [stemL]))
  · simp [numsOk, inR] at hx
    obtain ⟨p, rfl⟩ : ∃ p : Nat, n = (p : Int) := ⟨n.toNat, by omega⟩
    exact implStem_batch R cR q _ xa xb p m w base ha hbase lq iq (by omega) (by omega) hBat (Lib.hid (by simp [stemL]))
  · exact implStem_once R cR q _ xa xb n m w base ha hbase lq iq (Lib.hid (by simp [stemL]))

theorem implFork_any (x : Nd) (hk : arity x.k = 2) (A : Option Addr) (c : Nat) (a : List Int) (A2 : Option Addr) (c2 : Nat) (b : List Int) (w : World) (base : Nat) (ha : OwnV w base A c a) (hb : OwnV w base A2 c2 b) (hn : a.length ≤ 65536) (hn2 : b.length ≤ 65536) (ia : Items a) (ib : Items b) :
    Calls Try.prog 89 #[.int .i64 x.k, .slice A a.length c, .slice A2 b.length c2] w fun e w' => ∃ R cR, e = .returned (.slice R (forkL x a b).length cR) ∧ OwnV w' w.heap.size R cR (forkL x a b) ∧ Below w.heap.size w w' := by
  have hk := arity_two hk
  obtain ⟨k, xa, xb, n, m⟩ := x
  simp only at hk
  rcases hk with rfl | rfl | rfl | rfl
  · exact implFork_chain A c a A2 c2 b _ w base ha hb hn hn2 ia ib (Lib.hid (by simp [forkL]))
  · exact implFork_zip A c a A2 c2 b _ w base ha hb hn hn2 ia ib (Lib.hid (by simp [forkL]))
  · exact implFork_merge A c a A2 c2 b _ w base ha hb hn hn2 ia ib (Lib.hid (by simp [forkL]))
  · exact implFork_turn A c a A2 c2 b _ w base ha hb hn hn2 ia ib (Lib.hid (by simp [forkL]))

end Go.Proofs.Ytnmekcifbmcdpaa

/- What the type switch on a tree answers. -/
namespace Go.Proofs.Ytnmekcifbmcdpaa
theorem ta_leaf_leaf (v : Value) (w : World) : (Instr.typeAssert (.iface 111 v) 68 111 true).run Try.prog w = .ok (.tuple #[v, .bool true]) w := by kernel_rfl
theorem ta_stem_stem (v : Value) (w : World) : (Instr.typeAssert (.iface 113 v) 68 113 true).run Try.prog w = .ok (.tuple #[v, .bool true]) w := by kernel_rfl
theorem ta_fork_fork (v : Value) (w : World) : (Instr.typeAssert (.iface 116 v) 68 116 true).run Try.prog w = .ok (.tuple #[v, .bool true]) w := by kernel_rfl
theorem ta_stem_leaf (v : Value) (w : World) : (Instr.typeAssert (.iface 113 v) 68 111 true).run Try.prog w = .ok (.tuple #[.agg #[.int .i64 0, .int .i64 0, .int .i64 0, .int .i64 0, .int .i64 0], .bool false]) w := by kernel_rfl
theorem ta_fork_leaf (v : Value) (w : World) : (Instr.typeAssert (.iface 116 v) 68 111 true).run Try.prog w = .ok (.tuple #[.agg #[.int .i64 0, .int .i64 0, .int .i64 0, .int .i64 0, .int .i64 0], .bool false]) w := by kernel_rfl
theorem ta_fork_stem (v : Value) (w : World) : (Instr.typeAssert (.iface 116 v) 68 113 true).run Try.prog w = .ok (.tuple #[.agg #[.int .i64 0, .int .i64 0, .int .i64 0, .int .i64 0, .int .i64 0, .nilIface], .bool false]) w := by kernel_rfl
end Go.Proofs.Ytnmekcifbmcdpaa

/- Contracts: the list of a tree, by the program. -/
namespace Go.Proofs.Ytnmekcifbmcdpaa
open Go.RowKit Go.Sort

theorem cell_spot {w : World} {ad : Addr} {v : Value} (h : w.cell? ad = some v) : ad = ⟨ad.block, ad.off, none⟩ := by
  obtain ⟨b, o, s⟩ := ad
  cases s with
  | none => rfl
  | some s =>
    unfold World.cell? at h
    simp at h
    split at h <;> simp at h

theorem cloneR_any (A : Option Addr) (c : Nat) (l : List Int) (w : World) (B : Nat) (h : RdI w B A l) (hn : l.length ≤ 1048576) :
    Calls Try.prog 87 #[.slice A l.length c] w fun e w' => ∃ A' c', e = .returned (.slice A' l.length c') ∧ OwnV w' w.heap.size A' c' l ∧ Below w.heap.size w w' := by
  by_cases hl : 0 < l.length
  · obtain ⟨ad, rfl, _, hc⟩ := h hl
    obtain ⟨x, hx⟩ := get_of_lt l hl
    have h0 := hc 0 x hx
    rw [show ad.add 0 = ad from rfl] at h0
    have hs := cell_spot h0
    rw [hs] at hc ⊢
    refine cloneI_any _ _ c l w (fun k y hy => ?_) hn
    have := hc k y hy
    rwa [Addr.add_lit] at this
  · have hl0 : l = [] := List.eq_nil_of_length_eq_zero (by omega)
    subst hl0
    cases A with
    | none =>
      refine (Try.slices_Clone_int_nil 0 c w).mono ?_
      rintro e w' ⟨he, rfl⟩
      exact ⟨none, 0, he, .inl ⟨rfl, rfl, rfl⟩, Below.refl _ _⟩
    | some ad =>
      refine (Try.slices_Clone_int_zero ad c w).mono ?_
      rintro e w' ⟨v, rfl, ho, _, hb⟩
      have hv : ∃ A' c', v = .slice A' 0 c' := by
        obtain ⟨_, ⟨h1, h2⟩ | ⟨g', cap, cur, h1, _⟩⟩ := ho
        · exact ⟨none, 0, by rw [h1]⟩
        · exact ⟨_, _, h1⟩
      obtain ⟨A', c', rfl⟩ := hv
      exact ⟨A', c', rfl, OwnJ.ownV ho, hb⟩

set_option maxRecDepth 100000 in
set_option maxHeartbeats 3200000 in
theorem implLeaf_any {src : List (List Int)} {p : Nat} {m : Int} {z : List Int} (k xa xb : Int) (As : Option Addr) (ca : Nat) (w : World) (B : Nat) (hs : RdR w B As src) (hB : B ≤ w.heap.size) (hp : p < src.length) (hr : src[p]? = some z) (hz : z.length ≤ 65536) :
    Calls Try.prog 62 #[.iface 111 (.agg #[.int .i64 k, .int .i64 xa, .int .i64 xb, .int .i64 (p : Int), .int .i64 m]), .slice As src.length ca] w fun e w' => ∃ R cR, e = .returned (.slice R z.length cR) ∧ OwnV w' w.heap.size R cR z ∧ Below w.heap.size w w' := by
  obtain ⟨ad, y2, Ar, cr, rfl, hy2, hcr, hri⟩ := hs.at_ hp
  obtain rfl := Option.some.inj (hr.symm.trans hy2)
  obtain ⟨_, e3, hadB, _⟩ := hs (by omega)
  obtain rfl := Option.some.inj e3
  obtain ⟨W2, hW2⟩ : ∃ W2 : World, W2 = w.alloc (.cells #[.int .i64 k, .int .i64 xa, .int .i64 xb, .int .i64 (p : Int), .int .i64 m] 111) := ⟨_, rfl⟩
  have hb2 : Below w.heap.size w W2 := by rw [hW2]; exact (Below.refl _ _).alloc (Nat.le_refl _) _
  have hab : (ad.add p).block < w.heap.size := by rw [add_block]; omega
  have hcr3 : (w.alloc (.cells #[.int .i64 k, .int .i64 xa, .int .i64 xb, .int .i64 (p : Int), .int .i64 m] 111)).cell? (ad.add p) = some (.slice Ar z.length cr) := by rw [← hW2]; exact (hb2.cell hab).trans hcr
  have HW2 := Lib.hid hW2
  have Hb2 := Lib.hid hb2
  have Hri := Lib.hid (hri.below hb2 hB)
  have hz2 := hb2.size
  have hta : ∀ w, (Instr.typeAssert (.iface 111 (.agg #[.int .i64 k, .int .i64 xa, .int .i64 xb, .int .i64 (p : Int), .int .i64 m])) 68 111 true).run Try.prog w = .ok (.tuple #[.agg #[.int .i64 k, .int .i64 xa, .int .i64 xb, .int .i64 (p : Int), .int .i64 m], .bool true]) w := fun w => ta_leaf_leaf _ w
  clear hb2 hW2 hri hy2 hr hs
  go_enter Try.func62, Try.ntmps62
  go_wp2_with fail
  rw [← HW2.out]
  refine (cloneR_any Ar cr z W2 B Hri.out (by omega)).mono ?_
  rintro e w4 ⟨R4, c4, rfl, ho4, hb4⟩
  have Ho4 := Lib.hid (ho4.base_ hz2)
  have Hb4 := Lib.hid (Hb2.out.trans (hb4.mono hz2))
  clear ho4 hb4
  go_wp2_with fail
  go_ret
  exact ⟨R4, c4, rfl, Ho4.out, Hb4.out⟩

end Go.Proofs.Ytnmekcifbmcdpaa

/- Contracts: the list of a tree with one below its end, by the program. -/
namespace Go.Proofs.Ytnmekcifbmcdpaa
open Go.RowKit Go.Sort

set_option maxRecDepth 100000 in
set_option maxHeartbeats 6400000 in
theorem implStemTree (hBat : BatchOk) (x : Nd) (hk : arity x.k = 1) (hx : numsOk x = true) (ty : TypeId) (v : Value) (As : Option Addr) (ca n : Nat) (q : List Int) (w : World) (iq : Items q) (lq : q.length ≤ 65536)
    (hi : ∀ W, Below w.heap.size w W → Calls Try.prog 62 #[.iface ty v, .slice As n ca] W fun e w' => ∃ R cR, e = .returned (.slice R q.length cR) ∧ OwnV w' W.heap.size R cR q ∧ Below W.heap.size W w') :
    Calls Try.prog 62 #[.iface 113 (.agg #[.int .i64 x.k, .int .i64 x.a, .int .i64 x.b, .int .i64 x.n, .int .i64 x.m, .iface ty v]), .slice As n ca] w fun e w' => ∃ R cR, e = .returned (.slice R (stemL x q).length cR) ∧ OwnV w' w.heap.size R cR (stemL x q) ∧ Below w.heap.size w w' := by
  obtain ⟨W2, hW2⟩ : ∃ W2 : World, W2 = w.alloc (.cells #[.int .i64 x.k, .int .i64 x.a, .int .i64 x.b, .int .i64 x.n, .int .i64 x.m, .iface ty v] 113) := ⟨_, rfl⟩
  have hb2 : Below w.heap.size w W2 := by rw [hW2]; exact (Below.refl _ _).alloc (Nat.le_refl _) _
  have hx0 : Bk W2 w.heap.size 113 [.int .i64 x.k, .int .i64 x.a, .int .i64 x.b, .int .i64 x.n, .int .i64 x.m, .iface ty v] := by rw [hW2]; exact Bk.new _ _ [_, _, _, _, _, _]
  have hta : ∀ w, (Instr.typeAssert (.iface 113 (.agg #[.int .i64 x.k, .int .i64 x.a, .int .i64 x.b, .int .i64 x.n, .int .i64 x.m, .iface ty v])) 68 111 true).run Try.prog w = .ok (.tuple #[.agg #[.int .i64 0, .int .i64 0, .int .i64 0, .int .i64 0, .int .i64 0], .bool false]) w := fun w => ta_stem_leaf _ w
  have htb : ∀ w, (Instr.typeAssert (.iface 113 (.agg #[.int .i64 x.k, .int .i64 x.a, .int .i64 x.b, .int .i64 x.n, .int .i64 x.m, .iface ty v])) 68 113 true).run Try.prog w = .ok (.tuple #[.agg #[.int .i64 x.k, .int .i64 x.a, .int .i64 x.b, .int .i64 x.n, .int .i64 x.m, .iface ty v], .bool true]) w := fun w => ta_stem_stem _ w
  have Hi := Lib.hid hi
  have HW2 := Lib.hid hW2
  have Hb2 := Lib.hid hb2
  have Hx0 := Lib.hid hx0
  have Hk := Lib.hid hk
  have Hx := Lib.hid hx
  have Iq := Lib.hid iq
  have hz2 := hb2.size
  have hlt2 := hx0.lt
  have HBat := Lib.hid hBat
  have hs : ∀ i, W2.cell? ⟨w.heap.size, i, none⟩ = [Value.int .i64 x.k, .int .i64 x.a, .int .i64 x.b, .int .i64 x.n, .int .i64 x.m, .iface ty v][i]? := fun i => hx0.cell i
  have e0 := hs 0
  have e1 := hs 1
  have e2 := hs 2
  have e3 := hs 3
  have e4 := hs 4
  have e5 := hs 5
  simp only [List.getElem?_cons_zero, List.getElem?_cons_succ] at e0 e1 e2 e3 e4 e5
  clear hi hW2 hb2 hx0 hk hx iq hs hBat
  go_enter Try.func62, Try.ntmps62
  go_wp2_with fail
  rw [← HW2.out]
  go_region_held3 (fun w' => w'.cell? ⟨w.heap.size, 0, none⟩ = some (.int .i64 x.k) ∧ w'.cell? ⟨w.heap.size, 1, none⟩ = some (.int .i64 x.a) ∧ w'.cell? ⟨w.heap.size, 2, none⟩ = some (.int .i64 x.b) ∧ w'.cell? ⟨w.heap.size, 3, none⟩ = some (.int .i64 x.n) ∧ w'.cell? ⟨w.heap.size, 4, none⟩ = some (.int .i64 x.m) ∧ w'.cell? ⟨w.heap.size, 5, none⟩ = some (.iface ty v)) (go_keep)
    (first
      | (
        go_at_call 88
        go_loud (
          refine (implStem_any HBat.out x Hk.out Hx.out R cR q w3 w.heap.size Ho3.out (by omega) lq Iq.out).mono ?_
          rintro e w4 ⟨R4, c4, rfl, ho4, hg4⟩
          have hb40 : Below (w.heap.size + 1) W2 w4 := Below.grown (Hb23.out.mono (by omega)) hg4 (by omega) (fun g hg => by have := (Ho31.out.row_lt g hg).1; omega)
          have hx4 := Hx0.out.below hb40 (by omega)
          have ks := And.intro (hx4.cell 0) (And.intro (hx4.cell 1) (And.intro (hx4.cell 2) (And.intro (hx4.cell 3) (And.intro (hx4.cell 4) (hx4.cell 5)))))
          have Ho4 := Lib.hid ho4
          have Hb4 := Lib.hid (Hb3.out.grown hg4 (by omega) (fun g hg => (Ho3.out.row_lt g hg).1))
          clear ho4 hg4 hb40 hx4))
      | (
        go_at_call 62
        refine (Hi.out _ (by first | exact Hb2.out.drew | exact Hb2.out)).mono ?_
        rintro e w3 ⟨R, cR, rfl, ho3, hb3⟩
        have hb30 : Below W2.heap.size W2 w3 := ((Below.refl W2.heap.size W2).drew).trans (hb3.mono (by simp))
        have hx3 := Hx0.out.below hb30 Hx0.out.lt
        have ks := And.intro (hx3.cell 0) (And.intro (hx3.cell 1) (And.intro (hx3.cell 2) (And.intro (hx3.cell 3) (And.intro (hx3.cell 4) (hx3.cell 5)))))
        have hz3 := hb30.size
        have Ho31 : Hid (OwnV w3 W2.heap.size R cR q) := Lib.hid ho3
        have Ho3 := Lib.hid (ho3.base_ hz2)
        have Hb23 := Lib.hid hb30
        have Hb3 := Lib.hid (Hb2.out.trans (hb30.mono hz2))
        clear ho3 hb3 hb30 hx3))
  all_goals
    go_wp2_with fail
    go_ret
    exact ⟨R4, c4, rfl, Ho4.out, Hb4.out⟩

end Go.Proofs.Ytnmekcifbmcdpaa

/- Contracts: the list of a tree with two below its end, by the program. -/
namespace Go.Proofs.Ytnmekcifbmcdpaa
open Go.RowKit Go.Sort

set_option maxRecDepth 100000 in
set_option maxHeartbeats 6400000 in
theorem implForkTree (x : Nd) (hk : arity x.k = 2) (ty ty2 : TypeId) (v v2 : Value) (As : Option Addr) (ca n : Nat) (q r : List Int) (w : World) (iq : Items q) (lq : q.length ≤ 65536) (ir : Items r) (lr : r.length ≤ 65536)
    (hi : ∀ W, Below w.heap.size w W → Calls Try.prog 62 #[.iface ty v, .slice As n ca] W fun e w' => ∃ R cR, e = .returned (.slice R q.length cR) ∧ OwnV w' W.heap.size R cR q ∧ Below W.heap.size W w')
    (hi2 : ∀ W, Below w.heap.size w W → Calls Try.prog 62 #[.iface ty2 v2, .slice As n ca] W fun e w' => ∃ R cR, e = .returned (.slice R r.length cR) ∧ OwnV w' W.heap.size R cR r ∧ Below W.heap.size W w') :
    Calls Try.prog 62 #[(.iface 116 (.agg #[.int .i64 x.k, .int .i64 x.a, .int .i64 x.b, .int .i64 x.n, .int .i64 x.m, .iface ty v, .iface ty2 v2])), .slice As n ca] w fun e w' => ∃ R cR, e = .returned (.slice R (forkL x q r).length cR) ∧ OwnV w' w.heap.size R cR (forkL x q r) ∧ Below w.heap.size w w' := by
  obtain ⟨W2, hW2⟩ : ∃ W2 : World, W2 = w.alloc (.cells #[.int .i64 x.k, .int .i64 x.a, .int .i64 x.b, .int .i64 x.n, .int .i64 x.m, .iface ty v, .iface ty2 v2] 116) := ⟨_, rfl⟩
  have hb2 : Below w.heap.size w W2 := by rw [hW2]; exact (Below.refl _ _).alloc (Nat.le_refl _) _
  have hx0 : Bk W2 w.heap.size 116 [.int .i64 x.k, .int .i64 x.a, .int .i64 x.b, .int .i64 x.n, .int .i64 x.m, .iface ty v, .iface ty2 v2] := by rw [hW2]; exact Bk.new _ _ [_, _, _, _, _, _, _]
  have hta : ∀ w, (Instr.typeAssert (.iface 116 (.agg #[.int .i64 x.k, .int .i64 x.a, .int .i64 x.b, .int .i64 x.n, .int .i64 x.m, .iface ty v, .iface ty2 v2])) 68 111 true).run Try.prog w = .ok (.tuple #[.agg #[.int .i64 0, .int .i64 0, .int .i64 0, .int .i64 0, .int .i64 0], .bool false]) w := fun w => ta_fork_leaf _ w
  have htb : ∀ w, (Instr.typeAssert (.iface 116 (.agg #[.int .i64 x.k, .int .i64 x.a, .int .i64 x.b, .int .i64 x.n, .int .i64 x.m, .iface ty v, .iface ty2 v2])) 68 113 true).run Try.prog w = .ok (.tuple #[.agg #[.int .i64 0, .int .i64 0, .int .i64 0, .int .i64 0, .int .i64 0, .nilIface], .bool false]) w := fun w => ta_fork_stem _ w
  have htc : ∀ w, (Instr.typeAssert (.iface 116 (.agg #[.int .i64 x.k, .int .i64 x.a, .int .i64 x.b, .int .i64 x.n, .int .i64 x.m, .iface ty v, .iface ty2 v2])) 68 116 true).run Try.prog w = .ok (.tuple #[.agg #[.int .i64 x.k, .int .i64 x.a, .int .i64 x.b, .int .i64 x.n, .int .i64 x.m, .iface ty v, .iface ty2 v2], .bool true]) w := fun w => ta_fork_fork _ w
  have Hi := Lib.hid hi
  have Hi2 := Lib.hid hi2
  have HW2 := Lib.hid hW2
  have Hb2 := Lib.hid hb2
  have Hx0 := Lib.hid hx0
  have Hk := Lib.hid hk
  have Iq := Lib.hid iq
  have Ir := Lib.hid ir
  have hz2 := hb2.size
  have hlt2 := hx0.lt
  have hs : ∀ i, W2.cell? ⟨w.heap.size, i, none⟩ = [Value.int .i64 x.k, .int .i64 x.a, .int .i64 x.b, .int .i64 x.n, .int .i64 x.m, .iface ty v, .iface ty2 v2][i]? := fun i => hx0.cell i
  have e0 := hs 0
  have e1 := hs 1
  have e2 := hs 2
  have e3 := hs 3
  have e4 := hs 4
  have e5 := hs 5
  have e6 := hs 6
  simp only [List.getElem?_cons_zero, List.getElem?_cons_succ] at e0 e1 e2 e3 e4 e5 e6
  clear hi hi2 hW2 hb2 hx0 hk iq ir hs
  go_enter Try.func62, Try.ntmps62
  go_wp2_with fail
  rw [← HW2.out]
  go_region_held3 (fun w' => w'.cell? ⟨w.heap.size, 0, none⟩ = some (.int .i64 x.k) ∧ w'.cell? ⟨w.heap.size, 1, none⟩ = some (.int .i64 x.a) ∧ w'.cell? ⟨w.heap.size, 2, none⟩ = some (.int .i64 x.b) ∧ w'.cell? ⟨w.heap.size, 3, none⟩ = some (.int .i64 x.n) ∧ w'.cell? ⟨w.heap.size, 4, none⟩ = some (.int .i64 x.m) ∧ w'.cell? ⟨w.heap.size, 5, none⟩ = some (.iface ty v) ∧ w'.cell? ⟨w.heap.size, 6, none⟩ = some (.iface ty2 v2)) (go_keep)
    (first
      | (
        go_at_call 89
        refine (implFork_any x Hk.out R cR q R5 c5 r w5 w.heap.size Ho35.out Ho5.out lq lr Iq.out Ir.out).mono ?_
        rintro e w4 ⟨R4, c4, rfl, ho4, hb4⟩
        have hx4 := (Hx0.out.below Hb25.out Hx0.out.lt).below hb4 (by omega)
        have ks := And.intro (hx4.cell 0) (And.intro (hx4.cell 1) (And.intro (hx4.cell 2) (And.intro (hx4.cell 3) (And.intro (hx4.cell 4) (And.intro (hx4.cell 5) (hx4.cell 6))))))
        have Ho4 := Lib.hid (ho4.base_ (b2 := w.heap.size) (by omega))
        have Hb4 := Lib.hid (Hb5.out.trans (hb4.mono (by omega)))
        clear ho4 hb4 hx4)
      | (
        go_at_call 62
        refine (Hi2.out w3 Hb3.out).mono ?_
        rintro e w5 ⟨R5, c5, rfl, ho5, hb5⟩
        have Hb25 := Lib.hid (Hb23.out.trans (hb5.mono hz3))
        have hx5 := Hx0.out.below Hb25.out Hx0.out.lt
        have ks := And.intro (hx5.cell 0) (And.intro (hx5.cell 1) (And.intro (hx5.cell 2) (And.intro (hx5.cell 3) (And.intro (hx5.cell 4) (And.intro (hx5.cell 5) (hx5.cell 6))))))
        have hz5 := hb5.size
        have Ho5 := Lib.hid (ho5.base_ (b2 := w.heap.size) (by omega))
        have Ho35 := Lib.hid (Ho3.out.below hb5 (Nat.le_refl _))
        have Hb5 := Lib.hid (Hb3.out.trans (hb5.mono (by omega)))
        clear ho5 hb5 hx5)
      | (
        go_at_call 62
        refine (Hi.out _ (by first | exact Hb2.out.drew | exact Hb2.out)).mono ?_
        rintro e w3 ⟨R, cR, rfl, ho3, hb3⟩
        have hb30 : Below W2.heap.size W2 w3 := ((Below.refl W2.heap.size W2).drew).trans (hb3.mono (by simp))
        have hx3 := Hx0.out.below hb30 Hx0.out.lt
        have ks := And.intro (hx3.cell 0) (And.intro (hx3.cell 1) (And.intro (hx3.cell 2) (And.intro (hx3.cell 3) (And.intro (hx3.cell 4) (And.intro (hx3.cell 5) (hx3.cell 6))))))
        have hz3 := hb30.size
        have Ho3 := Lib.hid (ho3.base_ hz2)
        have Hb23 := Lib.hid hb30
        have Hb3 := Lib.hid (Hb2.out.trans (hb30.mono hz2))
        clear ho3 hb3 hb30 hx3))
  all_goals
    go_wp2_with fail
    go_ret
    exact ⟨R4, c4, rfl, Ho4.out, Hb4.out⟩

end Go.Proofs.Ytnmekcifbmcdpaa

/- Contracts: the list of a tree, by the program, whole. -/
namespace Go.Proofs.Ytnmekcifbmcdpaa
open Go.RowKit Go.Sort

theorem implListOf_tree (hBat : BatchOk) {l : List Nd} {src : List (List Int)} (hsrc : srcOk src = true) (h3 : src.length = 3) (As : Option Addr) (ca : Nat) (B : Nat) {i : Nat} {t : T} (ht : IsTree l i t) : t.nums → t.depth ≤ 12 → ∀ (w : World), RdR w B As src → B ≤ w.heap.size →
    Calls Try.prog 62 #[tv t, .slice As src.length ca] w fun e w' => ∃ R cR, e = .returned (.slice R (lst src t).length cR) ∧ OwnV w' w.heap.size R cR (lst src t) ∧ Below w.heap.size w w' := by
  induction ht with
  | @leaf i x hx ha h1 h2 =>
    intro hnum _ w hs hB
    have hk := arity_zero ha
    obtain ⟨k, a, b, n, m⟩ := x
    simp only at hk h1 h2
    subst hk h1 h2
    simp [T.nums, numsOk, inR] at hnum
    obtain ⟨p, rfl⟩ : ∃ p : Nat, n = (p : Int) := ⟨n.toNat, by omega⟩
    obtain ⟨r, hr⟩ := get_of_lt src (k := p) (by omega)
    have hl : lst src (.leaf ⟨0, -1, -1, (p : Int), m⟩) = r := by
      simp only [lst, Int.toNat_natCast, List.getD_eq_getElem?_getD, hr]
      rfl
    rw [hl]
    exact implLeaf_any 0 (-1) (-1) As ca w B hs hB (by omega) hr (by have := (src_items hsrc hr).2; omega)
  | @stem i j x t hx ha h1 hj h2 ht ih =>
    intro hnum hd w hs hB
    have hdt : t.depth ≤ 12 := by simp only [T.depth] at hd; omega
    obtain ⟨ty, v, hv⟩ := tv_iface t
    have hi : ∀ W, Below w.heap.size w W → _ := fun W hb => ih hnum.2 hdt W (hs.below hb hB) (Nat.le_trans hB hb.size)
    rw [hv] at hi
    have iq := lst_items hsrc hnum.2
    have lq : (lst src t).length ≤ 65536 := by have := lst_short hsrc hdt; omega
    simp only [tv, hv]
    exact implStemTree hBat x ha hnum.1 ty v As ca src.length (lst src t) w iq lq hi
  | @fork i j j2 x ta tb hx ha h1 hj h2 hj2 hta htb iha ihb =>
    intro hnum hd w hs hB
    have hda : ta.depth ≤ 12 := by simp only [T.depth] at hd; omega
    have hdb : tb.depth ≤ 12 := by simp only [T.depth] at hd; omega
    obtain ⟨ty, v, hv⟩ := tv_iface ta
    obtain ⟨ty2, v2, hv2⟩ := tv_iface tb
    have hi : ∀ W, Below w.heap.size w W → _ := fun W hb => iha hnum.2.1 hda W (hs.below hb hB) (Nat.le_trans hB hb.size)
    have hi2 : ∀ W, Below w.heap.size w W → _ := fun W hb => ihb hnum.2.2 hdb W (hs.below hb hB) (Nat.le_trans hB hb.size)
    rw [hv] at hi
    rw [hv2] at hi2
    have iq := lst_items hsrc hnum.2.1
    have lq : (lst src ta).length ≤ 65536 := by have := lst_short hsrc hda; omega
    have ir := lst_items hsrc hnum.2.2
    have lr : (lst src tb).length ≤ 65536 := by have := lst_short hsrc hdb; omega
    simp only [tv, hv, hv2]
    exact implForkTree x ha ty ty2 v v2 As ca src.length (lst src ta) (lst src tb) w iq lq ir lr hi hi2

end Go.Proofs.Ytnmekcifbmcdpaa

/- Cells of nodes in memory. -/
namespace Go.Proofs.Ytnmekcifbmcdpaa
open Go.RowKit

structure Cl where
  n : Int
  l : Int
  r : Int
  hl : Bool
  hr : Bool
  d : Bool
deriving DecidableEq

theorem Cl.ext_ {x y : Cl} (h0 : x.n = y.n) (h1 : x.l = y.l) (h2 : x.r = y.r) (h3 : x.hl = y.hl) (h4 : x.hr = y.hr) (h5 : x.d = y.d) : x = y := by
  cases x; cases y; simp at h0 h1 h2 h3 h4 h5; simp [h0, h1, h2, h3, h4, h5]
def clEq (x y : Cl) : Bool := decide (x = y)
theorem clEq_no0 {x y : Cl} (h : (x.n != y.n) = true) : clEq x y = false := by
  apply decide_eq_false
  intro e
  subst e
  simp at h
theorem clEq_no1 {x y : Cl} (h : (x.l != y.l) = true) : clEq x y = false := by
  apply decide_eq_false
  intro e
  subst e
  simp at h
theorem clEq_no2 {x y : Cl} (h : (x.r != y.r) = true) : clEq x y = false := by
  apply decide_eq_false
  intro e
  subst e
  simp at h
theorem clEq_no3 {x y : Cl} (h : (x.hl != y.hl) = true) : clEq x y = false := by
  apply decide_eq_false
  intro e
  subst e
  simp at h
theorem clEq_no4 {x y : Cl} (h : (x.hr != y.hr) = true) : clEq x y = false := by
  apply decide_eq_false
  intro e
  subst e
  simp at h
theorem clEq_no5 {x y : Cl} (h : (x.d != y.d) = true) : clEq x y = false := by
  apply decide_eq_false
  intro e
  subst e
  simp at h
theorem clEq_yes {x y : Cl} (h0 : (x.n != y.n) = false) (h1 : (x.l != y.l) = false) (h2 : (x.r != y.r) = false) (h3 : (x.hl != y.hl) = false) (h4 : (x.hr != y.hr) = false) (h5 : (x.d != y.d) = false) : clEq x y = true := by
  apply decide_eq_true
  simp at h0 h1 h2 h3 h4 h5
  exact Cl.ext_ h0 h1 h2 h3 h4 h5
theorem clEq_ne {x y : Cl} (h : clEq x y = false) : x ≠ y := of_decide_eq_false h
theorem clEq_eq {x y : Cl} (h : clEq x y = true) : x = y := of_decide_eq_true h

/-- The cells of x stand in cs from o on. -/
structure ClIn (cs : List Value) (o : Nat) (x : Cl) : Prop where
  c0 : cs[o]? = some (.int .i64 x.n)
  c1 : cs[o + 1]? = some (.int .i64 x.l)
  c2 : cs[o + 2]? = some (.int .i64 x.r)
  c3 : cs[o + 3]? = some (.bool x.hl)
  c4 : cs[o + 4]? = some (.bool x.hr)
  c5 : cs[o + 5]? = some (.bool x.d)
/-- .. in memory. -/
structure ClAt (w : World) (b o : Nat) (x : Cl) : Prop where
  c0 : w.cell? ⟨b, o, none⟩ = some (.int .i64 x.n)
  c1 : w.cell? ⟨b, o + 1, none⟩ = some (.int .i64 x.l)
  c2 : w.cell? ⟨b, o + 2, none⟩ = some (.int .i64 x.r)
  c3 : w.cell? ⟨b, o + 3, none⟩ = some (.bool x.hl)
  c4 : w.cell? ⟨b, o + 4, none⟩ = some (.bool x.hr)
  c5 : w.cell? ⟨b, o + 5, none⟩ = some (.bool x.d)
theorem ClIn.at_ {w : World} {g o : Nat} {t : TypeId} {cs : List Value} {x : Cl} (h : ClIn cs o x) (hb : Bk w g t cs) : ClAt w g o x :=
  ⟨(hb.cell _).trans h.c0, (hb.cell _).trans h.c1, (hb.cell _).trans h.c2, (hb.cell _).trans h.c3, (hb.cell _).trans h.c4, (hb.cell _).trans h.c5⟩
theorem ClAt.keep {w w' : World} {b o : Nat} {x : Cl} (h : ClAt w b o x) (hk : ∀ p : Addr, p.block = b → w'.cell? p = w.cell? p) : ClAt w' b o x :=
  ⟨(hk _ rfl).trans h.c0, (hk _ rfl).trans h.c1, (hk _ rfl).trans h.c2, (hk _ rfl).trans h.c3, (hk _ rfl).trans h.c4, (hk _ rfl).trans h.c5⟩

/-- The slice at A reads as the list l, below block B. -/
def RdCl (w : World) (B : Nat) (A : Option Addr) (l : List Cl) : Prop :=
  0 < l.length → ∃ b o, A = some ⟨b, o, none⟩ ∧ b < B ∧ ∀ (k : Nat) (x : Cl), l[k]? = some x → ClAt w b (o + k * 6) x
/-- .. in memory of a call's own, blocks lo to hi. -/
def OwnCl (w : World) (lo hi : Nat) (A : Option Addr) (l : List Cl) : Prop :=
  0 < l.length → ∃ g o cs, A = some ⟨g, o, none⟩ ∧ lo ≤ g ∧ g < hi ∧ Bk w g 86 cs ∧ ∀ (k : Nat) (x : Cl), l[k]? = some x → ClIn cs (o + k * 6) x

section
variable {w w' : World} {B B' lo hi : Nat} {A : Option Addr} {l : List Cl}
theorem RdCl.at_ (h : RdCl w B A l) {k : Nat} (hk : k < l.length) : ∃ b o x, A = some ⟨b, o, none⟩ ∧ b < B ∧ l[k]? = some x ∧ ClAt w b (o + k * 6) x := by
  obtain ⟨b, o, e, hb, hc⟩ := h (by omega)
  obtain ⟨x, hx⟩ := get_of_lt l hk
  exact ⟨b, o, x, e, hb, hx, hc k x hx⟩
theorem RdCl.keep (h : RdCl w B A l) (hk : ∀ p : Addr, p.block < B → w'.cell? p = w.cell? p) : RdCl w' B A l := fun hn => by
  obtain ⟨b, o, e, hb, hc⟩ := h hn
  exact ⟨b, o, e, hb, fun k x hx => (hc k x hx).keep fun p hp => hk p (by omega)⟩
theorem RdCl.more (h : RdCl w B A l) (hB : B ≤ B') : RdCl w B' A l := fun hn => by
  obtain ⟨b, o, e, hb, hc⟩ := h hn
  exact ⟨b, o, e, by omega, hc⟩
theorem RdCl.below {C : Nat} (h : RdCl w B A l) (hb : Below C w w') (hC : B ≤ C) : RdCl w' B A l := h.keep fun _ hp => hb.cell (by omega)
theorem RdCl.drewN (h : RdCl w B A l) (n : Nat) : RdCl (w.drewN n) B A l := h.below (Same.below ⟨n, rfl⟩ B) (Nat.le_refl _)
theorem RdCl.held (h : RdCl w B A l) (hB : B ≤ w.heap.size) : Held w 0 B (fun v => RdCl v B A l) :=
  ⟨Nat.zero_le _, hB, fun _ _ hag => h.keep fun _ hp => cell_agree hag (Nat.zero_le _) hp⟩
theorem OwnCl.rd (h : OwnCl w lo hi A l) : RdCl w hi A l := fun hn => by
  obtain ⟨g, o, cs, rfl, h1, h2, hb, hc⟩ := h hn
  exact ⟨g, o, rfl, h2, fun k x hx => (hc k x hx).at_ hb⟩
theorem OwnCl.rdt (h : OwnCl w lo hi A l) (hz : hi ≤ w.heap.size) : RdCl w w.heap.size A l := h.rd.more hz
theorem OwnCl.agree (h : OwnCl w lo hi A l) (hag : ∀ b, lo ≤ b → b < hi → w'.heap[b]? = w.heap[b]?) : OwnCl w' lo hi A l := fun hn => by
  obtain ⟨g, o, cs, rfl, h1, h2, hb, hc⟩ := h hn
  exact ⟨g, o, cs, rfl, h1, h2, (hag g h1 h2).trans hb, hc⟩
theorem OwnCl.held (h : OwnCl w lo hi A l) (h1 : lo ≤ hi) (h2 : hi ≤ w.heap.size) : Held w lo hi (fun v => OwnCl v lo hi A l) := ⟨h1, h2, fun _ _ hag => h.agree hag⟩
theorem OwnCl.wide {lo2 hi2 : Nat} (h : OwnCl w lo hi A l) (h1 : lo2 ≤ lo) (h2 : hi ≤ hi2) : OwnCl w lo2 hi2 A l := fun hn => by
  obtain ⟨g, o, cs, rfl, h3, h4, hb, hc⟩ := h hn
  exact ⟨g, o, cs, rfl, by omega, by omega, hb, hc⟩
theorem OwnCl.nil_ (w : World) (lo hi : Nat) (A : Option Addr) : OwnCl w lo hi A [] := fun h => absurd h (by simp)
end

theorem ClIn.set_self {cs : List Value} {o : Nat} (x : Cl) (h : o + 5 < cs.length) : ClIn ((((((cs.set o (.int .i64 x.n)).set (o + 1) (.int .i64 x.l)).set (o + 2) (.int .i64 x.r)).set (o + 3) (.bool x.hl)).set (o + 4) (.bool x.hr)).set (o + 5) (.bool x.d)) o x := by
  constructor <;> simp [List.getElem?_set] <;> omega
theorem ClIn.set_far {cs : List Value} {o j : Nat} {x : Cl} {u : Value} (h : ClIn cs o x) (hj : j < o ∨ o + 5 < j) : ClIn (cs.set j u) o x :=
  ⟨by rw [List.getElem?_set_ne (by omega)]; exact h.c0, by rw [List.getElem?_set_ne (by omega)]; exact h.c1, by rw [List.getElem?_set_ne (by omega)]; exact h.c2, by rw [List.getElem?_set_ne (by omega)]; exact h.c3, by rw [List.getElem?_set_ne (by omega)]; exact h.c4, by rw [List.getElem?_set_ne (by omega)]; exact h.c5⟩
/-- 6 cells that can be written. -/
structure ClOld (w : World) (b o : Nat) (u0 u1 u2 u3 u4 u5 : Value) : Prop where
  c0 : w.cell? ⟨b, o, none⟩ = some u0
  c1 : w.cell? ⟨b, o + 1, none⟩ = some u1
  c2 : w.cell? ⟨b, o + 2, none⟩ = some u2
  c3 : w.cell? ⟨b, o + 3, none⟩ = some u3
  c4 : w.cell? ⟨b, o + 4, none⟩ = some u4
  c5 : w.cell? ⟨b, o + 5, none⟩ = some u5
  f0 : w.frozen? ⟨b, o, none⟩ = false
  f1 : w.frozen? ⟨b, o + 1, none⟩ = false
  f2 : w.frozen? ⟨b, o + 2, none⟩ = false
  f3 : w.frozen? ⟨b, o + 3, none⟩ = false
  f4 : w.frozen? ⟨b, o + 4, none⟩ = false
  f5 : w.frozen? ⟨b, o + 5, none⟩ = false
theorem Bk.oldCl {w : World} {g o : Nat} {t : TypeId} {cs : List Value} (h : Bk w g t cs) (ho : o + 5 < cs.length) : ∃ u0 u1 u2 u3 u4 u5, ClOld w g o u0 u1 u2 u3 u4 u5 := by
  obtain ⟨u0, h0⟩ := get_of_lt cs (k := o) (by omega)
  obtain ⟨u1, h1⟩ := get_of_lt cs (k := o + 1) (by omega)
  obtain ⟨u2, h2⟩ := get_of_lt cs (k := o + 2) (by omega)
  obtain ⟨u3, h3⟩ := get_of_lt cs (k := o + 3) (by omega)
  obtain ⟨u4, h4⟩ := get_of_lt cs (k := o + 4) (by omega)
  obtain ⟨u5, h5⟩ := get_of_lt cs (k := o + 5) (by omega)
  exact ⟨u0, u1, u2, u3, u4, u5, (h.cell _).trans h0, (h.cell _).trans h1, (h.cell _).trans h2, (h.cell _).trans h3, (h.cell _).trans h4, (h.cell _).trans h5, h.free _, h.free _, h.free _, h.free _, h.free _, h.free _⟩
theorem ClOld.below {w w' : World} {b o C : Nat} {u0 u1 u2 u3 u4 u5 : Value} (h : ClOld w b o u0 u1 u2 u3 u4 u5) (hb : Below C w w') (hC : b < C) : ClOld w' b o u0 u1 u2 u3 u4 u5 := by
  have hc : ∀ i, w'.cell? ⟨b, i, none⟩ = w.cell? ⟨b, i, none⟩ := fun i => hb.cell (p := ⟨b, i, none⟩) hC
  have hf : ∀ i, w'.frozen? ⟨b, i, none⟩ = w.frozen? ⟨b, i, none⟩ := fun i => hb.frozen (p := ⟨b, i, none⟩) hC
  exact ⟨(hc _).trans h.c0, (hc _).trans h.c1, (hc _).trans h.c2, (hc _).trans h.c3, (hc _).trans h.c4, (hc _).trans h.c5, (hf _).trans h.f0, (hf _).trans h.f1, (hf _).trans h.f2, (hf _).trans h.f3, (hf _).trans h.f4, (hf _).trans h.f5⟩

theorem Try.infoCl : (Try.prog.info? 86).map (fun i => (i.zero, i.size, i.bytes)) = some (some (.agg #[.int .i64 0, .int .i64 0, .int .i64 0, .bool false, .bool false, .bool false]), 6, 32) := by kernel_rfl
/-- The cells of a new row. -/
def madeCl (n : Nat) : List Value := (madeCells #[.int .i64 0, .int .i64 0, .int .i64 0, .bool false, .bool false, .bool false] (n * 6)).toList
theorem madeCl_len (n : Nat) : (madeCl n).length = n * 6 := by simp [madeCl, size_madeCells]
def zeroCl : Cl := ⟨0, 0, 0, false, false, false⟩
theorem madeCl_get (n j : Nat) (hj : j < n * 6) : (madeCl n)[j]? = some ((#[.int .i64 0, .int .i64 0, .int .i64 0, .bool false, .bool false, .bool false])[j % 6]!) := by
  simp [madeCl, madeCells, hj]
theorem madeCl_in (n k : Nat) (hk : k < n) : ClIn (madeCl n) (k * 6) zeroCl := by
  constructor
  · rw [madeCl_get _ _ (by omega), show (k * 6) % 6 = 0 from by omega]; rfl
  · rw [madeCl_get _ _ (by omega), show (k * 6 + 1) % 6 = 1 from by omega]; rfl
  · rw [madeCl_get _ _ (by omega), show (k * 6 + 2) % 6 = 2 from by omega]; rfl
  · rw [madeCl_get _ _ (by omega), show (k * 6 + 3) % 6 = 3 from by omega]; rfl
  · rw [madeCl_get _ _ (by omega), show (k * 6 + 4) % 6 = 4 from by omega]; rfl
  · rw [madeCl_get _ _ (by omega), show (k * 6 + 5) % 6 = 5 from by omega]; rfl
theorem run_makeCl {P : Program} (t e : TypeId) (ht : P.underlying t = some (.slice e))
    (hinfo : (P.info? e).map (fun i => (i.zero, i.size, i.bytes)) = some (some (.agg #[.int .i64 0, .int .i64 0, .int .i64 0, .bool false, .bool false, .bool false]), 6, 32)) (n : Nat) (hn : n ≤ 1048576) (w : World) :
    (Instr.makeSlice t (.int .i64 (n : Int)) (.int .i64 (n : Int))).run P w = .ok (.slice (some ⟨w.heap.size, 0, none⟩) n n) (w.alloc (.cells (madeCl n).toArray e)) := by
  obtain ⟨i, hi, hz0, hz1, hz2⟩ := info_parts hinfo
  have hr := run_make (P := P) w t e i _ ht hi hz0 .i64 .i64 n n (by omega) (by omega) (by rw [hz2]; omega) (by omega)
  rw [hz1] at hr
  simp only [Int.toNat_natCast] at hr
  rw [hr]
  simp [madeCl, Value.cells]

end Go.Proofs.Ytnmekcifbmcdpaa

/- Contracts: slices of nodes, and pipes, compared. -/
namespace Go.Proofs.Ytnmekcifbmcdpaa
open Go.RowKit

set_option maxHeartbeats 800000 in
theorem eqNodeS_any (A1 A2 : Option Addr) (c1 c2 : Nat) (l1 l2 : List Nd) (w : World) (B : Nat) (h1 : RdN w B A1 l1) (h2 : RdN w B A2 l2) (hB : B ≤ w.heap.size) (n1 : l1.length ≤ 1048576) :
    Calls Try.prog 64 #[.slice A1 l1.length c1, .slice A2 l2.length c2] w fun e w' => e = .returned (.bool (decide (l1 = l2))) ∧ Below w.heap.size w w' := by
  by_cases hl : l1.length = l2.length
  · have hb : ((l1.length : Int) != (l2.length : Int)) = false := by simp [hl]
    have hb' : (l1.length != l2.length) = false := by simp [hl]
    have Hl := Lib.hid hl
    clear hl
    go_enter Try.func64, Try.ntmps64
    go_wp2
    go_loopw [5] (fun i wr => ∃ k : Nat, k ≤ l1.length ∧ i = .int .i64 k ∧ l1.take k = l2.take k ∧ Below w.heap.size w wr) (fun i _ => l1.length - (intOf i).toNat)
    case atStart => exact ⟨0, Nat.zero_le _, rfl, by simp, Below.refl _ _⟩
    case round =>
      obtain ⟨k, hk, rfl, hall, hs⟩ := hrel
      have Hall := Lib.hid hall
      clear hall
      by_cases hlt : k < l1.length
      · have hlt2 : k < l2.length := by rw [← Hl.out]; exact hlt
        obtain ⟨b, o, x, rfl, hbB, hx, hc⟩ := (h1.below hs hB).at_ hlt
        obtain ⟨b2, o2, y, rfl, hbB2, hy, hd⟩ := (h2.below hs hB).at_ hlt2
        obtain ⟨p0, p1, p2, p3, p4⟩ := hc
        obtain ⟨q0, q1, q2, q3, q4⟩ := hd
        have Hx := Lib.hid hx
        have Hy := Lib.hid hy
        have Hs := Lib.hid hs
        clear hx hy h1 h2 hs
        cases hxy : ndEq x y
        · have Hxy := Lib.hid hxy
          clear hxy
          go_wp2
          go_region_with (go_at_call 91; refine (eqNode_any x y _).mono ?_; rintro e w1 ⟨rfl, hb⟩; rw [Hxy.out]; have Hb := Lib.hid hb; clear hb)
          all_goals
            go_wp2
            go_ret
            exact ⟨ret_bool (decide_eq_false (ne_of_get Hx.out Hy.out (ndEq_ne Hxy.out))).symm, below_step Hs.out Hb.out⟩
        · have Hxy := Lib.hid hxy
          clear hxy
          go_wp2
          go_region_with (go_at_call 91; refine (eqNode_any x y _).mono ?_; rintro e w1 ⟨rfl, hb⟩; rw [Hxy.out]; have Hb := Lib.hid hb; clear hb)
          all_goals
            go_wp2
            go_roundw
            case rel => exact ⟨k + 1, by omega, by go_num, take_eq_succ Hall.out Hx.out (by rw [ndEq_eq Hxy.out]; exact Hy.out), below_step Hs.out Hb.out⟩
            case measure => simp [intOf]; omega
      · go_wp2
        go_ret
        exact ⟨ret_bool (decide_eq_true (eq_of_take (by omega) (by rw [← Hl.out]; omega) Hall.out)).symm, hs⟩
  · have hb' : (l1.length != l2.length) = true := by simp [hl]
    have Hl : Hid (¬ l1.length = l2.length) := hl
    clear hl
    go_enter Try.func64, Try.ntmps64
    go_wp2
    go_ret
    exact ⟨ret_bool (by rw [decide_eq_false]; intro e; exact Hl.out (by rw [e])), Below.refl _ _⟩

set_option maxHeartbeats 400000 in
theorem eqPipe_any (A1 A2 : Option Addr) (c1 c2 : Nat) (l1 l2 : List Nd) (w : World) (B : Nat) (h1 : RdN w B A1 l1) (h2 : RdN w B A2 l2) (hB : B ≤ w.heap.size) (n1 : l1.length ≤ 1048576) :
    Calls Try.prog 21 #[.agg #[.slice A1 l1.length c1], .agg #[.slice A2 l2.length c2]] w fun e w' => e = .returned (.bool (decide (l1 = l2))) ∧ Below w.heap.size w w' := by
  have hB0 := ((Below.refl w.heap.size w).alloc (Nat.le_refl _) (.cells #[.slice A1 l1.length c1] 32)).alloc (by simp) (.cells #[.slice A2 l2.length c2] 32)
  cases hd : decide (l1 = l2)
  all_goals
    have Hd := Lib.hid hd
    have Hh1 := Lib.hid h1
    have Hh2 := Lib.hid h2
    have HB0 := Lib.hid hB0
    clear hd h1 h2 hB0
    go_enter Try.func21, Try.ntmps21
    go_wp2_with fail
    refine (eqNodeS_any _ _ _ _ _ _ _ B (Hh1.out.below HB0.out hB) (Hh2.out.below HB0.out hB) (by simp; omega) n1).mono ?_
    rintro e w1 ⟨rfl, hb⟩
    rw [Hd.out]
    have Hb := Lib.hid hb
    clear hb
    go_wp2_with fail
    go_ret
    exact ⟨rfl, HB0.out.trans (Hb.out.mono (by simp; omega))⟩

end Go.Proofs.Ytnmekcifbmcdpaa

/- Contracts of the functions on cells of nodes. -/
namespace Go.Proofs.Ytnmekcifbmcdpaa
open Go.RowKit

set_option maxHeartbeats 800000 in
theorem eqCell_any (x y : Cl) (w : World) :
    Calls Try.prog 98 #[.agg #[.int .i64 x.n, .int .i64 x.l, .int .i64 x.r, .bool x.hl, .bool x.hr, .bool x.d], .agg #[.int .i64 y.n, .int .i64 y.l, .int .i64 y.r, .bool y.hl, .bool y.hr, .bool y.d]] w
      fun e w' => e = .returned (.bool (clEq x y)) ∧ Below w.heap.size w w' := by
  go_enter Try.func98, Try.ntmps98
  go_wp2
  all_goals
    go_ret
    refine ⟨ret_bool ?_, ((Below.refl _ _).alloc (Nat.le_refl _) _).alloc (by simp) _⟩
    first | exact (clEq_no0 (by assumption)).symm | exact (clEq_no1 (by assumption)).symm | exact (clEq_no2 (by assumption)).symm | exact (clEq_no3 (by assumption)).symm | exact (clEq_no4 (by assumption)).symm | exact (clEq_no5 (by assumption)).symm | exact (clEq_yes (by assumption) (by assumption) (by assumption) (by assumption) (by assumption) (by assumption)).symm

set_option maxHeartbeats 1600000 in
theorem eqCellS_any (A1 A2 : Option Addr) (c1 c2 : Nat) (l1 l2 : List Cl) (w : World) (B : Nat) (h1 : RdCl w B A1 l1) (h2 : RdCl w B A2 l2) (hB : B ≤ w.heap.size) (n1 : l1.length ≤ 1048576) :
    Calls Try.prog 69 #[.slice A1 l1.length c1, .slice A2 l2.length c2] w fun e w' => e = .returned (.bool (decide (l1 = l2))) ∧ Below w.heap.size w w' := by
  by_cases hl : l1.length = l2.length
  · have hb : ((l1.length : Int) != (l2.length : Int)) = false := by simp [hl]
    have hb' : (l1.length != l2.length) = false := by simp [hl]
    have Hl := Lib.hid hl
    clear hl
    go_enter Try.func69, Try.ntmps69
    go_wp2
    go_loopw [5] (fun i wr => ∃ k : Nat, k ≤ l1.length ∧ i = .int .i64 k ∧ l1.take k = l2.take k ∧ Below w.heap.size w wr) (fun i _ => l1.length - (intOf i).toNat)
    case atStart => exact ⟨0, Nat.zero_le _, rfl, by simp, Below.refl _ _⟩
    case round =>
      obtain ⟨k, hk, rfl, hall, hs⟩ := hrel
      have Hall := Lib.hid hall
      clear hall
      by_cases hlt : k < l1.length
      · have hlt2 : k < l2.length := by rw [← Hl.out]; exact hlt
        obtain ⟨b, o, x, rfl, hbB, hx, hc⟩ := (h1.below hs hB).at_ hlt
        obtain ⟨b2, o2, y, rfl, hbB2, hy, hd⟩ := (h2.below hs hB).at_ hlt2
        obtain ⟨p0, p1, p2, p3, p4, p5⟩ := hc
        obtain ⟨q0, q1, q2, q3, q4, q5⟩ := hd
        have Hx := Lib.hid hx
        have Hy := Lib.hid hy
        have Hs := Lib.hid hs
        clear hx hy h1 h2 hs
        cases hxy : clEq x y
        · have Hxy := Lib.hid hxy
          clear hxy
          go_wp2
          go_region_with (go_at_call 98; refine (eqCell_any x y _).mono ?_; rintro e w1 ⟨rfl, hb⟩; rw [Hxy.out]; have Hb := Lib.hid hb; clear hb)
          all_goals
            go_wp2
            go_ret
            exact ⟨ret_bool (decide_eq_false (ne_of_get Hx.out Hy.out (clEq_ne Hxy.out))).symm, below_step Hs.out Hb.out⟩
        · have Hxy := Lib.hid hxy
          clear hxy
          go_wp2
          go_region_with (go_at_call 98; refine (eqCell_any x y _).mono ?_; rintro e w1 ⟨rfl, hb⟩; rw [Hxy.out]; have Hb := Lib.hid hb; clear hb)
          all_goals
            go_wp2
            go_roundw
            case rel => exact ⟨k + 1, by omega, by go_num, take_eq_succ Hall.out Hx.out (by rw [clEq_eq Hxy.out]; exact Hy.out), below_step Hs.out Hb.out⟩
            case measure => simp [intOf]; omega
      · go_wp2
        go_ret
        exact ⟨ret_bool (decide_eq_true (eq_of_take (by omega) (by rw [← Hl.out]; omega) Hall.out)).symm, hs⟩
  · have hb' : (l1.length != l2.length) = true := by simp [hl]
    have Hl : Hid (¬ l1.length = l2.length) := hl
    clear hl
    go_enter Try.func69, Try.ntmps69
    go_wp2
    go_ret
    exact ⟨ret_bool (by rw [decide_eq_false]; intro e; exact Hl.out (by rw [e])), Below.refl _ _⟩

/-- n marks, the first number of which is k. -/
def mkCl (n : Nat) (k : Int) : List Cl := (List.range n).map fun i : Nat => ⟨k + 6 * i, k + 6 * i + 1, k + 6 * i + 2, (k + 6 * i + 3) % 3 == 0, (k + 6 * i + 4) % 3 == 0, (k + 6 * i + 5) % 3 == 0⟩
theorem mkCl_len (n : Nat) (k : Int) : (mkCl n k).length = n := by simp [mkCl]
theorem mkCl_get {n : Nat} {k : Int} {i : Nat} (h : i < n) : (mkCl n k)[i]? = some ⟨k + 6 * i, k + 6 * i + 1, k + 6 * i + 2, (k + 6 * i + 3) % 3 == 0, (k + 6 * i + 4) % 3 == 0, (k + 6 * i + 5) % 3 == 0⟩ := by simp [mkCl, h]
theorem mkCl_at {n : Nat} {k m : Int} {i : Nat} (h : i < n) (hm : m = k + 6 * i) : (mkCl n k)[i]? = some ⟨m, m + 1, m + 2, (m + 3) % 3 == 0, (m + 4) % 3 == 0, (m + 5) % 3 == 0⟩ := by rw [mkCl_get h, hm]

set_option maxHeartbeats 3200000 in
theorem markCellS_h {lo hi : Nat} {A : Option Addr} {c : Nat} {l : List Cl} {w : World} (k : Int) (h : OwnCl w lo hi A l) (hn : l.length ≤ 1048576) (hk0 : 0 ≤ k) (hk1 : k ≤ 16777216) :
    Calls Try.prog 70 #[.slice A l.length c, .int .i64 k] w fun e w' => e = .returned (.int .i64 (k + 6 * l.length)) ∧ OwnCl w' lo hi A (mkCl l.length k) ∧ Chg lo hi w w' := by
  by_cases hl : 0 < l.length
  · obtain ⟨g, o, cs, rfl, hlo, hhi, hb0, hc0⟩ := h hl
    obtain ⟨n, hnl⟩ : ∃ n : Nat, n = l.length := ⟨_, rfl⟩
    have hcs : o + n * 6 ≤ cs.length := by
      obtain ⟨x, hx⟩ := get_of_lt l (k := n - 1) (by omega)
      have := (List.getElem?_eq_some_iff.1 (hc0 (n - 1) x hx).c5).1
      omega
    have Hb0 := Lib.hid hb0
    have hn2 : n ≤ 1048576 := by omega
    rw [← hnl]
    clear h hb0 hc0 hnl hl hn
    go_enter Try.func70, Try.ntmps70
    go_wp2
    go_loopw [1, 5] (fun s i wr => ∃ j : Nat, j ≤ n ∧ i = .int .i64 j ∧ (∃ m : Int, m = k + 6 * j ∧ s = .int .i64 m) ∧ (∃ ds, Bk wr g 86 ds ∧ ds.length = cs.length ∧ ∀ (i : Nat) (x : Cl), i < j → (mkCl n k)[i]? = some x → ClIn ds (o + i * 6) x) ∧ Chg lo hi w wr) (fun _ i _ => n - (intOf i).toNat)
    case atStart => exact ⟨0, Nat.zero_le _, rfl, ⟨k, by simp, rfl⟩, ⟨cs, Hb0.out, rfl, fun i x hi => absurd hi (by omega)⟩, Chg.refl _ _ _⟩
    case round =>
      obtain ⟨j, hj, rfl, ⟨m, hm, rfl⟩, ⟨ds, hds, hdl, hdc⟩, hg⟩ := hrel
      have hm0 : 0 ≤ m := by omega
      have hm1 : m ≤ 33554432 := by omega
      by_cases hlt : j < n
      · obtain ⟨u0, u1, u2, u3, u4, u5, hold⟩ := hds.oldCl (o := o + j * 6) (by omega)
        obtain ⟨d0, d1, d2, d3, d4, d5, f0, f1, f2, f3, f4, f5⟩ := hold
        have Hds := Lib.hid hds
        have Hdl := Lib.hid hdl
        have Hdc := Lib.hid hdc
        have Hg := Lib.hid hg
        have Hm := Lib.hid hm
        clear hds hdl hdc hg hm
        go_wp2
        go_roundw
        case rel =>
          refine ⟨j + 1, by omega, by go_num, ⟨_, by rw [Hm.out]; omega, rfl⟩, ⟨_, ((((((Hds.out).set_ _ _).set_ _ _).set_ _ _).set_ _ _).set_ _ _).set_ _ _, by simp only [List.length_set]; exact Hdl.out, fun i y hi hy => ?_⟩, ((((((Hg.out).set hlo hhi _ _).set hlo hhi _ _).set hlo hhi _ _).set hlo hhi _ _).set hlo hhi _ _).set hlo hhi _ _⟩
          by_cases e : i = j
          · subst e
            obtain rfl := Option.some.inj ((mkCl_at hlt Hm.out).symm.trans hy)
            have := ClIn.set_self (cs := ds) (o := o + i * 6) ⟨m, m + 1, m + 2, (m + 3) % 3 == 0, (m + 4) % 3 == 0, (m + 5) % 3 == 0⟩ (by have := Hdl.out; omega)
            simpa [Nat.add_assoc, Int.add_assoc] using this
          · have hin := Hdc.out i y (by omega) hy
            exact ((((((hin).set_far (by omega)).set_far (by omega)).set_far (by omega)).set_far (by omega)).set_far (by omega)).set_far (by omega)
        case measure => simp [intOf]; omega
      · obtain rfl : j = n := by omega
        have Hds := Lib.hid hds
        have Hdc := Lib.hid hdc
        have Hg := Lib.hid hg
        have Hm := Lib.hid hm
        clear hds hdc hg hm hdl
        go_wp2
        go_ret
        refine ⟨ret_int (by rw [Hm.out]), fun _ => ⟨g, o, ds, rfl, hlo, hhi, Hds.out, fun i x hx => ?_⟩, Hg.out⟩
        exact Hdc.out i x (by have := (List.getElem?_eq_some_iff.1 hx).1; rwa [mkCl_len] at this) hx
  · have hl0 : l = [] := List.eq_nil_of_length_eq_zero (by omega)
    subst hl0
    clear h
    go_enter Try.func70, Try.ntmps70
    go_wp2
    refine wp_loop_rounds 1 ?_
    rw [rounds_succ]
    go_wp2
    go_ret
    exact ⟨by simp, fun h => absurd h (by simp [mkCl]), Chg.refl _ _ _⟩

set_option maxHeartbeats 3200000 in
theorem heldCellS_any (A : Option Addr) (c n : Nat) (k : Int) (w : World) (B : Nat) (h : RdCl w B A (mkCl n k)) (hn : n ≤ 1048576) (hk0 : 0 ≤ k) (hk1 : k ≤ 16777216) :
    Calls Try.prog 71 #[.slice A n c, .int .i64 k] w fun e w' => e = .returned (.int .i64 (k + 6 * n)) ∧ w = w' := by
  have Hh := Lib.hid h
  clear h
  go_enter Try.func71, Try.ntmps71
  go_wp2
  go_loop [1, 5] (fun s i => ∃ j : Nat, j ≤ n ∧ i = .int .i64 j ∧ ∃ m : Int, m = k + 6 * j ∧ s = .int .i64 m) (fun _ i => n - (intOf i).toNat)
  case atStart => exact ⟨0, Nat.zero_le _, rfl, k, by simp, rfl⟩
  case round =>
    obtain ⟨j, hj, rfl, m, hm, rfl⟩ := hrel
    have hm0 : 0 ≤ m := by omega
    have hm1 : m ≤ 33554432 := by omega
    by_cases hlt : j < n
    · obtain ⟨b, o, x, rfl, hbB, hx, hc⟩ := Hh.out.at_ (k := j) (by rw [mkCl_len]; exact hlt)
      rw [mkCl_at hlt hm] at hx
      obtain rfl := Option.some.inj hx
      obtain ⟨c0, c1, c2, c3, c4, c5⟩ := hc
      obtain ⟨B3, hB3⟩ : ∃ B : Bool, B = ((m + 3) % 3 == 0) := ⟨_, rfl⟩
      simp only [← hB3] at c3
      have hw3 : ((m + 1 + 1 + 1) % 3 == 0) = B3 := by rw [hB3, show m + 1 + 1 + 1 = m + 3 from by omega]
      clear hB3
      obtain ⟨B4, hB4⟩ : ∃ B : Bool, B = ((m + 4) % 3 == 0) := ⟨_, rfl⟩
      simp only [← hB4] at c4
      have hw4 : ((m + 1 + 1 + 1 + 1) % 3 == 0) = B4 := by rw [hB4, show m + 1 + 1 + 1 + 1 = m + 4 from by omega]
      clear hB4
      obtain ⟨B5, hB5⟩ : ∃ B : Bool, B = ((m + 5) % 3 == 0) := ⟨_, rfl⟩
      simp only [← hB5] at c5
      have hw5 : ((m + 1 + 1 + 1 + 1 + 1) % 3 == 0) = B5 := by rw [hB5, show m + 1 + 1 + 1 + 1 + 1 = m + 5 from by omega]
      clear hB5
      have Hm := Lib.hid hm
      clear hm hx
      go_wp2
      go_round
      case rel => exact ⟨j + 1, by omega, by go_num, _, by rw [Hm.out]; omega, rfl⟩
      case measure => simp [intOf]; omega
    · obtain rfl : j = n := by omega
      have Hm := Lib.hid hm
      clear hm
      go_wp2
      go_ret
      exact ⟨ret_int (by rw [Hm.out]), rfl⟩

end Go.Proofs.Ytnmekcifbmcdpaa

/- Contracts of the functions on states (a box of a slice of cells), and of those that make new ones. -/
namespace Go.Proofs.Ytnmekcifbmcdpaa
open Go.RowKit

set_option maxHeartbeats 800000 in
theorem eqState_any (A1 A2 : Option Addr) (c1 c2 : Nat) (l1 l2 : List Cl) (w : World) (B : Nat) (h1 : RdCl w B A1 l1) (h2 : RdCl w B A2 l2) (hB : B ≤ w.heap.size) (n1 : l1.length ≤ 1048576) :
    Calls Try.prog 33 #[.agg #[.slice A1 l1.length c1], .agg #[.slice A2 l2.length c2]] w fun e w' => e = .returned (.bool (decide (l1 = l2))) ∧ Below w.heap.size w w' := by
  have hB0 := ((Below.refl w.heap.size w).alloc (Nat.le_refl _) (.cells #[.slice A1 l1.length c1] 46)).alloc (by simp) (.cells #[.slice A2 l2.length c2] 46)
  cases hd : decide (l1 = l2)
  all_goals
    have Hd := Lib.hid hd
    have Hh1 := Lib.hid h1
    have Hh2 := Lib.hid h2
    have HB0 := Lib.hid hB0
    clear hd h1 h2 hB0
    go_enter Try.func33, Try.ntmps33
    go_wp2_with fail
    refine (eqCellS_any _ _ _ _ _ _ _ B (Hh1.out.below HB0.out hB) (Hh2.out.below HB0.out hB) (by simp; omega) n1).mono ?_
    rintro e w1 ⟨rfl, hb⟩
    rw [Hd.out]
    have Hb := Lib.hid hb
    clear hb
    go_wp2_with fail
    go_ret
    exact ⟨rfl, HB0.out.trans (Hb.out.mono (by simp; omega))⟩

set_option maxHeartbeats 800000 in
theorem heldState_any (A : Option Addr) (c n : Nat) (k : Int) (w : World) (B : Nat) (h : RdCl w B A (mkCl n k)) (hB : B ≤ w.heap.size) (hn : n ≤ 1048576) (hk0 : 0 ≤ k) (hk1 : k ≤ 16777216) :
    Calls Try.prog 35 #[.agg #[.slice A n c], .int .i64 k] w fun e w' => e = .returned (.int .i64 (k + 6 * n)) ∧ Below w.heap.size w w' := by
  have hb0 := (Below.refl w.heap.size w).alloc (Nat.le_refl _) (.cells #[.slice A n c] 46)
  have Hh := Lib.hid (h.below hb0 hB)
  have Hb0 := Lib.hid hb0
  have hpos : (0 : Int) ≤ k + 6 * n := by omega
  clear h hb0
  go_enter Try.func35, Try.ntmps35
  go_wp2_with fail
  refine (heldCellS_any A c n k _ B Hh.out hn hk0 hk1).mono ?_
  rintro e w1 ⟨rfl, rfl⟩
  go_wp2_with fail
  go_ret
  exact ⟨rfl, Hb0.out⟩

set_option maxHeartbeats 800000 in
theorem markState_h {lo hi : Nat} {A : Option Addr} {c : Nat} {l : List Cl} {w : World} (k : Int) (h : OwnCl w lo hi A l) (hn : l.length ≤ 1048576) (hk0 : 0 ≤ k) (hk1 : k ≤ 16777216) (hhi : hi ≤ w.heap.size) :
    Calls Try.prog 34 #[.agg #[.slice A l.length c], .int .i64 k] w fun e w' => e = .returned (.int .i64 (k + 6 * l.length)) ∧ OwnCl w' lo hi A (mkCl l.length k) ∧ Chg lo hi w w' := by
  have hb0 := (Below.refl w.heap.size w).alloc (Nat.le_refl _) (.cells #[.slice A l.length c] 46)
  have Hh : Hid (OwnCl (w.alloc (.cells #[.slice A l.length c] 46)) lo hi A l) := Lib.hid (h.agree fun b h1 h2 => hb0.block b (by omega))
  have Hb0 := Lib.hid hb0
  clear h hb0
  go_enter Try.func34, Try.ntmps34
  go_wp2_with fail
  refine (markCellS_h k Hh.out hn hk0 hk1).mono ?_
  rintro e w1 ⟨rfl, ho, hc⟩
  have Ho := Lib.hid ho
  have Hc := Lib.hid hc
  clear ho hc
  go_wp2_with fail
  go_ret
  exact ⟨rfl, Ho.out, (Chg.of_below Hb0.out).trans Hc.out⟩

end Go.Proofs.Ytnmekcifbmcdpaa

/- Contracts: the state of a pipe before the first pull, told by the reference and by the program. -/
namespace Go.Proofs.Ytnmekcifbmcdpaa
open Go.RowKit

/-- A new state. -/
structure NewOf (l : List Nd) (q : List Cl) : Prop where
  no : pipeOk l = false → q = []
  yes : pipeOk l = true → q = List.replicate l.length zeroCl
theorem Bk.newCl {w : World} {g n lo hi : Nat} (h : Bk w g 86 (madeCl n)) (h1 : lo ≤ g) (h2 : g < hi) : OwnCl w lo hi (some ⟨g, 0, none⟩) (List.replicate n zeroCl) := fun _ =>
  ⟨g, 0, madeCl n, rfl, h1, h2, h, fun k x hx => by
    have hk : k < n := by have := (List.getElem?_eq_some_iff.1 hx).1; simpa using this
    rw [List.getElem?_replicate, if_pos hk] at hx
    rw [← Option.some.inj hx, Nat.zero_add]
    exact madeCl_in n k hk⟩

set_option maxHeartbeats 1600000 in
theorem specnewState_any (A : Option Addr) (c n : Nat) (w : World) (hn : n ≤ 1048576) :
    Calls Try.prog 93 #[.agg #[.slice A n c]] w fun e w' => e = .returned (.agg #[.slice (some ⟨w.heap.size + 2, 0, none⟩) n n]) ∧ Bk w' (w.heap.size + 2) 86 (madeCl n) ∧ Below w.heap.size w w' := by
  have hmk := run_makeCl (P := Try.prog) 44 86 Try.underlying44 Try.infoCl n hn
  go_enter Try.func93, Try.ntmps93
  go_wp2
  refine bodyPost_ret (v := .agg #[.slice (some ⟨w.heap.size + 2, 0, none⟩) n n]) (by simp [results, Try.results93, go_sem]) rfl ⟨rfl, ?_, ?_⟩
  · have hs : ((w.alloc (.cells #[.slice A n c] 32)).alloc (.cells #[.slice (some ⟨w.heap.size + 2, 0, none⟩) n n] 46)).heap.size = w.heap.size + 2 := by simp
    have := Bk.new ((w.alloc (.cells #[.slice A n c] 32)).alloc (.cells #[.slice (some ⟨w.heap.size + 2, 0, none⟩) n n] 46)) 86 (madeCl n)
    rw [hs] at this
    exact this
  · exact (((Below.refl _ _).alloc (Nat.le_refl _) _).alloc (by simp) _).alloc (by simp; omega) _

set_option maxRecDepth 100000 in
set_option maxHeartbeats 1600000 in
theorem implNewState_any (A : Option Addr) (c : Nat) (l : List Nd) (w : World) (B : Nat) (q : List Cl) (hq : Hid (NewOf l q)) (h : RdN w B A l) (hB : B ≤ w.heap.size) (hn : l.length ≤ 1048576) :
    Calls Try.prog 96 #[.agg #[.slice A l.length c]] w fun e w' => ∃ A' c', e = .returned (.agg #[.slice A' q.length c']) ∧ OwnCl w' w.heap.size w'.heap.size A' q ∧ Below w.heap.size w w' := by
  obtain ⟨W0, hW0⟩ : ∃ W0 : World, W0 = (w.alloc (.cells #[.slice A l.length c] 32)).alloc (.cells #[.slice none 0 0] 46) := ⟨_, rfl⟩
  have hb0 : Below w.heap.size w W0 := by rw [hW0]; exact ((Below.refl w.heap.size w).alloc (Nat.le_refl _) _).alloc (by simp) _
  have hx0 : Bk W0 w.heap.size 32 [.slice A l.length c] := by rw [hW0]; exact (Bk.new _ _ [_]).alloc _
  have hr0 : Bk W0 (w.heap.size + 1) 46 [.slice none 0 0] := by
    rw [hW0]
    have := Bk.new (w.alloc (.cells #[.slice A l.length c] 32)) 46 [.slice none 0 0]
    simpa using this
  have H0 := Lib.hid (h.below hb0 hB)
  have Hb0 := Lib.hid hb0
  have Hx0 := Lib.hid hx0
  have Hr0 := Lib.hid hr0
  have HW0 := Lib.hid hW0
  have hz0 := hb0.size
  clear h hb0 hx0 hr0 hW0
  go_enter Try.func96, Try.ntmps96
  go_wp2_with fail
  rw [← HW0.out]
  refine (implValidPipe_any A c l W0 B H0.out (by omega) hn).mono ?_
  rintro e w1 ⟨rfl, hb1⟩
  have Hb1 := Lib.hid (Hb0.out.trans (hb1.mono hz0))
  have Hx1 := Lib.hid (Hx0.out.below hb1 Hx0.out.lt)
  have Hr1 := Lib.hid (Hr0.out.below hb1 Hr0.out.lt)
  have hc1 : w1.cell? ⟨w.heap.size, 0, none⟩ = some (.slice A l.length c) := Hx1.out.cell 0
  have d1 : w1.cell? ⟨w.heap.size + 1, 0, none⟩ = some (.slice none 0 0) := Hr1.out.cell 0
  have f1 := Hr1.out.free 0
  have hz1 := Hb1.out.size
  have hr1 := Hr1.out.lt
  clear hb1 HW0
  cases hv : pipeOk l
  · obtain rfl := hq.out.no hv
    have Hv := Lib.hid hv
    clear hv
    go_wp2_with fail
    refine bodyPost_ret (v := .agg #[.slice none 0 0]) (by simp [results, Try.results96, go_sem, d1]) rfl ⟨none, 0, rfl, OwnCl.nil_ _ _ _ _, ?_⟩
    exact Hb1.out.setCell (p := ⟨w.heap.size + 1, 0, none⟩) (by simp) _
  have hqq := hq.out.yes hv
  have hql : q.length = l.length := by rw [hqq]; simp
  have Hqq := Lib.hid hqq
  have Hql := Lib.hid hql
  have Hv := Lib.hid hv
  clear hv hqq hql hq
  have hmk := run_makeCl (P := Try.prog) 44 86 Try.underlying44 Try.infoCl l.length hn
  go_wp2_with fail
  have d2 : ((w1.setCell ⟨w.heap.size + 1, 0, none⟩ (.slice (some ⟨w1.heap.size, 0, none⟩) l.length l.length)).alloc (.cells (madeCl l.length).toArray 86)).cell? ⟨w.heap.size + 1, 0, none⟩ = some (.slice (some ⟨w1.heap.size, 0, none⟩) l.length l.length) := ((Hr1.out.set_ 0 _).alloc _).cell 0
  refine bodyPost_ret (v := .agg #[.slice (some ⟨w1.heap.size, 0, none⟩) l.length l.length]) (by simp [results, Try.results96, go_sem, d2]) rfl ⟨_, _, by rw [Hql.out], ?_, ?_⟩
  · rw [Hqq.out]
    have hsz : (w1.setCell ⟨w.heap.size + 1, 0, none⟩ (.slice (some ⟨w1.heap.size, 0, none⟩) l.length l.length)).heap.size = w1.heap.size := by simp [World.setCell]
    have hbn := Bk.new (w1.setCell ⟨w.heap.size + 1, 0, none⟩ (.slice (some ⟨w1.heap.size, 0, none⟩) l.length l.length)) 86 (madeCl l.length)
    rw [hsz] at hbn
    exact Bk.newCl hbn (by omega) (by simp [World.setCell])
  · exact (Hb1.out.setCell (p := ⟨w.heap.size + 1, 0, none⟩) (by simp) _).alloc (by simp [World.setCell]; omega) _

end Go.Proofs.Ytnmekcifbmcdpaa

/- Contracts of the functions that test whether lists are sources, the program's and the reference's. -/
namespace Go.Proofs.Ytnmekcifbmcdpaa
open Go.RowKit

set_option maxHeartbeats 400000 in
theorem validItems_any (A : Option Addr) (c : Nat) (l : List Int) (w : World) (B : Nat) (h : RdI w B A l) (hn : l.length ≤ 1048576) :
    Calls Try.prog 86 #[.slice A l.length c] w fun e w' => e = .returned (.bool (rowOk l)) ∧ w = w' := by
  unfold rowOk
  by_cases hlt : l.length ≤ 12
  · cases hb : allB l 0 99
    all_goals
      have Hb := Lib.hid hb
      clear hb
      go_enter Try.func86, Try.ntmps86
      go_wp2_with (go_at_call 114; refine (allWithin_any _ _ _ _ _ _ _ h hn).mono ?_; rintro e w' ⟨rfl, rfl⟩; rw [Hb.out])
      go_ret
      exact ⟨ret_bool (by simp [hlt]), rfl⟩
  · go_enter Try.func86, Try.ntmps86
    go_wp2
    go_ret
    exact ⟨rfl, rfl⟩

set_option maxHeartbeats 400000 in
theorem implValidSources_any (A : Option Addr) (c : Nat) (rows : List (List Int)) (w : World) (B : Nat) (h : RdR w B A rows) (hn : rows.length ≤ 1048576) (hr : ∀ r ∈ rows, r.length ≤ 1048576) :
    Calls Try.prog 61 #[.slice A rows.length c] w fun e w' => e = .returned (.bool (srcOk rows)) ∧ w = w' := by
  by_cases h3 : rows.length = 3
  · have h3' : ((rows.length : Int) != 3) = false := by simp [h3]
    have H3 := Lib.hid h3
    clear h3
    go_enter Try.func61, Try.ntmps61
    go_wp2
    go_loop [10] (fun i => ∃ k : Nat, k ≤ rows.length ∧ i = .int .i64 k ∧ (rows.take k).all rowOk = true) (fun i => rows.length - (intOf i).toNat)
    case atStart => exact ⟨0, Nat.zero_le _, rfl, by simp⟩
    case round =>
      obtain ⟨k, hk, rfl, hall⟩ := hrel
      have Hall := Lib.hid hall
      clear hall
      by_cases hlt : k < rows.length
      · obtain ⟨ad, r, Ar, cr, rfl, hx, hc, hrd⟩ := h.at_ hlt
        have hrn := hr r (List.mem_of_getElem? hx)
        have Hx := Lib.hid hx
        have Hrd := Lib.hid hrd
        clear hx h hr hrd
        cases hin : rowOk r
        · have Hin := Lib.hid hin
          clear hin
          go_wp2_with (go_at_call 86; refine (validItems_any _ _ _ _ _ Hrd.out hrn).mono ?_; rintro e w' ⟨rfl, rfl⟩; rw [Hin.out])
          go_ret
          exact ⟨ret_bool (by rw [srcOk, all_false_of Hx.out Hin.out]; rfl), rfl⟩
        · have Hin := Lib.hid hin
          clear hin
          go_wp2_with (go_at_call 86; refine (validItems_any _ _ _ _ _ Hrd.out hrn).mono ?_; rintro e w' ⟨rfl, rfl⟩; rw [Hin.out])
          go_round
          case rel => exact ⟨k + 1, by omega, by go_num, all_take_succ Hx.out Hin.out Hall.out⟩
          case measure => simp [intOf]; omega
      · go_wp2
        go_ret
        exact ⟨ret_bool (by rw [srcOk, all_of_take (by omega) Hall.out, H3.out]; rfl), rfl⟩
  · have h3' : ((rows.length : Int) != 3) = true := by simp; omega
    have H3 : Hid (rows.length ≠ 3) := h3
    clear h3
    go_enter Try.func61, Try.ntmps61
    go_wp2
    go_ret
    exact ⟨ret_bool (by simp [srcOk, H3.out]), rfl⟩

set_option maxHeartbeats 400000 in
theorem specvalidSources_any (A : Option Addr) (c : Nat) (rows : List (List Int)) (w : World) (B : Nat) (h : RdR w B A rows) (hn : rows.length ≤ 1048576) (hr : ∀ r ∈ rows, r.length ≤ 1048576) :
    Calls Try.prog 76 #[.slice A rows.length c] w fun e w' => e = .returned (.bool (srcOk rows)) ∧ w = w' := by
  go_enter Try.func76, Try.ntmps76
  go_wp2
  go_loop [3] (fun i => ∃ k : Nat, k ≤ rows.length ∧ i = .int .i64 k ∧ (rows.take k).all rowOk = true) (fun i => rows.length - (intOf i).toNat)
  case atStart => exact ⟨0, Nat.zero_le _, rfl, by simp⟩
  case round =>
    obtain ⟨k, hk, rfl, hall⟩ := hrel
    have Hall := Lib.hid hall
    clear hall
    by_cases hlt : k < rows.length
    · obtain ⟨ad, r, Ar, cr, rfl, hx, hc, hrd⟩ := h.at_ hlt
      have hrn := hr r (List.mem_of_getElem? hx)
      have Hx := Lib.hid hx
      have Hrd := Lib.hid hrd
      clear hx h hr hrd
      by_cases h12 : r.length ≤ 12
      · cases hb : allB r 0 99
        · have Hb := Lib.hid hb
          clear hb
          go_wp2_with (go_at_call 102; refine (allIn_any _ _ _ _ _ _ _ Hrd.out hrn).mono ?_; rintro e w' ⟨rfl, rfl⟩; rw [Hb.out])
          go_ret
          exact ⟨ret_bool (by rw [srcOk, all_false_of Hx.out (by rw [rowOk, Hb.out, Bool.and_false])]; rfl), rfl⟩
        · have Hb := Lib.hid hb
          clear hb
          go_wp2_with (go_at_call 102; refine (allIn_any _ _ _ _ _ _ _ Hrd.out hrn).mono ?_; rintro e w' ⟨rfl, rfl⟩; rw [Hb.out])
          go_round
          case rel => exact ⟨k + 1, by omega, by go_num, all_take_succ Hx.out (by rw [rowOk, Hb.out, decide_eq_true h12]; rfl) Hall.out⟩
          case measure => simp [intOf]; omega
      · go_wp2
        go_ret
        exact ⟨ret_bool (by rw [srcOk, all_false_of Hx.out (by rw [rowOk, decide_eq_false h12, Bool.false_and])]; rfl), rfl⟩
    · go_wp2
      go_ret
      exact ⟨ret_bool (by rw [srcOk, all_of_take (by omega) Hall.out, Bool.true_and]; exact beq_three _), rfl⟩

end Go.Proofs.Ytnmekcifbmcdpaa

/- Contracts: whether a state is one of a pipe and sources, told by the reference and by the program. -/
namespace Go.Proofs.Ytnmekcifbmcdpaa
open Go.RowKit

/-- The greatest count of a node. -/
def mostOf (x : Nd) (src : List (List Int)) : Int :=
  if x.k = 0 then ((src.getD x.n.toNat []).length : Int) else if x.k = 3 then x.n else if x.k = 4 then x.n else if x.k = 6 then 1 else if x.k = 10 then 1 else if x.k = 11 then 99 else 0
/-- Whether a cell can be that of a node. -/
def cellOk (src : List (List Int)) (p : Nd × Cl) : Bool := inR p.2.n 0 (mostOf p.1 src) && (inR p.2.l 0 99 && inR p.2.r 0 99)
/-- Whether there are a cell for each node, and each one can be that. -/
def cellsOk (l : List Nd) (src : List (List Int)) (cs : List Cl) : Bool := decide (cs.length = l.length) && (l.zip cs).all (cellOk src)
def stateOk (l : List Nd) (src : List (List Int)) (cs : List Cl) : Bool := pipeOk l && (srcOk src && cellsOk l src cs)
theorem zip_get {l : List Nd} {cs : List Cl} {k : Nat} {x : Nd} {c : Cl} (hx : l[k]? = some x) (hc : cs[k]? = some c) : (l.zip cs)[k]? = some (x, c) := by
  rw [List.getElem?_zip_eq_some]; exact ⟨hx, hc⟩
theorem src_rows {src : List (List Int)} (h : srcOk src = true) : src.length = 3 ∧ ∀ r ∈ src, r.length ≤ 12 := by
  simp only [srcOk, Bool.and_eq_true, decide_eq_true_eq, List.all_eq_true, rowOk] at h
  exact ⟨h.2, fun r hr => (h.1 r hr).1⟩
theorem mostOf_bd {x : Nd} {src : List (List Int)} (h : srcOk src = true) (hn : numsOk x = true) : 0 ≤ mostOf x src ∧ mostOf x src ≤ 1000 := by
  obtain ⟨h3, hr⟩ := src_rows h
  unfold mostOf
  split
  · rename_i hk
    refine ⟨by omega, ?_⟩
    have : (src.getD x.n.toNat []).length ≤ 12 := by
      rw [List.getD_eq_getElem?_getD]
      cases e : src[x.n.toNat]? with
      | none => simp
      | some r => exact hr r (List.mem_of_getElem? e)
    omega
  · split
    · rename_i hk; simp [numsOk, hk, inR] at hn; omega
    · split
      · rename_i hk; simp [numsOk, hk, inR] at hn; omega
      · split
        · omega
        · split
          · omega
          · split <;> omega

end Go.Proofs.Ytnmekcifbmcdpaa

/- Contracts: whether a state is one of a pipe and sources (the reference). -/
namespace Go.Proofs.Ytnmekcifbmcdpaa
open Go.RowKit Go.Sort

end Go.Proofs.Ytnmekcifbmcdpaa

/- Contracts: whether a state is one of a pipe and sources (the reference's and the program's doors). -/
namespace Go.Proofs.Ytnmekcifbmcdpaa
open Go.RowKit Go.Sort

set_option maxHeartbeats 1600000 in
theorem specvalidInput_any (A0 : Option Addr) (c0 : Nat) (l : List Nd) (As : Option Addr) (ca : Nat) (src : List (List Int)) (w : World) (B : Nat) (h0 : RdN w B A0 l) (hs : RdR w B As src) (hB : B ≤ w.heap.size) (hn0 : l.length ≤ 1048576) (hns : src.length ≤ 1048576) (hm : Hid (∀ r ∈ src, r.length ≤ 1048576)) :
    Calls Try.prog 57 #[.agg #[.slice A0 l.length c0], .slice As src.length ca] w fun e w' => e = .returned (.bool (pipeOk l && srcOk src)) ∧ Below w.heap.size w w' := by
  obtain ⟨W0, hW0⟩ : ∃ W0 : World, W0 = w.alloc (.cells #[.slice A0 l.length c0] 32) := ⟨_, rfl⟩
  have hb0 : Below w.heap.size w W0 := by rw [hW0]; exact (Below.refl w.heap.size w).alloc (Nat.le_refl _) _
  have H0 := Lib.hid (h0.below hb0 hB)
  have S0 := Lib.hid (hs.below hb0 hB)
  have Hb0 := Lib.hid hb0
  have HW0 := Lib.hid hW0
  have hz0 := hb0.size
  clear h0 hs hb0 hW0
  cases hv : pipeOk l
  · have Hv := Lib.hid hv
    clear hv
    go_enter Try.func57, Try.ntmps57
    go_wp2_with fail
    rw [← HW0.out]
    refine (specvalidPipe_any A0 c0 l W0 B H0.out (by omega) hn0).mono ?_
    rintro e w1 ⟨rfl, hb1⟩
    rw [Hv.out]
    have Hb1 := Lib.hid hb1
    clear hb1
    go_wp2_with fail
    go_ret
    exact ⟨rfl, Hb0.out.trans (Hb1.out.mono hz0)⟩
  · have Hv := Lib.hid hv
    clear hv
    go_enter Try.func57, Try.ntmps57
    go_wp2_with fail
    rw [← HW0.out]
    refine (specvalidPipe_any A0 c0 l W0 B H0.out (by omega) hn0).mono ?_
    rintro e w1 ⟨rfl, hb1⟩
    rw [Hv.out]
    have S1 := Lib.hid (S0.out.below hb1 (by omega))
    have Hb1 := Lib.hid (Hb0.out.trans (hb1.mono hz0))
    clear hb1
    go_wp2_with fail
    refine (specvalidSources_any As ca src w1 B S1.out hns hm.out).mono ?_
    rintro e w2 ⟨rfl, rfl⟩
    go_wp2_with fail
    go_ret
    exact ⟨by simp, Hb1.out⟩

end Go.Proofs.Ytnmekcifbmcdpaa

/- Contracts: the list of a pipe and its length, by the reference. -/
namespace Go.Proofs.Ytnmekcifbmcdpaa
open Go.RowKit

/-- The list of a pipe; none if the pipe or the sources are not valid. -/
structure ListOfq (l : List Nd) (src : List (List Int)) (q : List Int) : Prop where
  no : (pipeOk l && srcOk src) = false → q = []
  yes : ∀ {t : T}, (pipeOk l && srcOk src) = true → IsTree l (l.length - 1) t → q = lst src t
theorem ListOfq.ex (l : List Nd) (src : List (List Int)) : ∃ q, ListOfq l src q := by
  cases h : (pipeOk l && srcOk src)
  · refine ⟨[], ?_, ?_⟩
    · intro _; rfl
    · intro t h2
      rw [h] at h2
      cases h2
  · obtain ⟨t, ht⟩ := tree_of_pipe (Bool.and_eq_true_iff.1 h).1
    refine ⟨lst src t, ?_, ?_⟩
    · intro h2
      rw [h] at h2
      cases h2
    · intro u _ hu
      rw [ht.same hu]
theorem src_three {src : List (List Int)} (h : srcOk src = true) : src.length = 3 := by
  simp only [srcOk, Bool.and_eq_true] at h
  simpa using h.2

set_option maxRecDepth 100000 in
set_option maxHeartbeats 1600000 in
theorem specAll_any (A : Option Addr) (c : Nat) (l : List Nd) (As : Option Addr) (ca : Nat) (src : List (List Int)) (w : World) (B : Nat) {t : T} (hv : (pipeOk l && srcOk src) = true) (ht : IsTree l (l.length - 1) t) (h : RdN w B A l) (hs : RdR w B As src) (hB : B ≤ w.heap.size) (hn : l.length ≤ 1048576) :
    Calls Try.prog 58 #[.agg #[.slice A l.length c], .slice As src.length ca] w fun e w' => ∃ R cR, e = .returned (.slice R (lst src t).length cR) ∧ OwnV w' w.heap.size R cR (lst src t) ∧ Below w.heap.size w w' := by
  obtain ⟨hp, hsr⟩ := Bool.and_eq_true_iff.1 hv
  obtain ⟨W0, hW0⟩ : ∃ W0 : World, W0 = w.alloc (.cells #[.slice A l.length c] 32) := ⟨_, rfl⟩
  have hb0 : Below w.heap.size w W0 := by rw [hW0]; exact (Below.refl w.heap.size w).alloc (Nat.le_refl _) _
  have hlo := low_of hp
  have hhi := high_of hp
  have hdt : t.depth ≤ 12 := by have := ht.depth_le; omega
  have hsh := lst_short hsr hdt
  have HC := Lib.hid (specListOf_tree hsr (src_three hsr) A c As ca B hn ht (ht.nums (pipeOk_iff.1 hp)) hdt W0 (h.below hb0 hB) (hs.below hb0 hB) (Nat.le_trans hB hb0.size))
  have Hb0 := Lib.hid hb0
  have HW0 := Lib.hid hW0
  have hz0 := hb0.size
  have hi1 : ((l.length - 1 : Nat) : Int) = (l.length : Int) - 1 := by omega
  rw [hi1] at HC
  have hwr : IntKind.i64.wrap ((l.length : Int) - 1) = (l.length : Int) - 1 := IntWalk.i64_in _ (by omega)
  clear hb0 hW0 h hs hv hp hsr hi1
  go_enter Try.func58, Try.ntmps58
  go_wp2_with fail
  rw [← HW0.out]
  refine HC.out.mono ?_
  rintro e w1 ⟨R, cR, rfl, ho, hb1⟩
  have hz1 := hb1.size
  have Ho := Lib.hid ho
  have Hb1 := Lib.hid (Hb0.out.trans (hb1.mono hz0))
  clear ho hb1 HC
  go_wp2_with fail
  refine (specCopyInts_any R cR (lst src t) w1 w1.heap.size Ho.out.rd (Nat.le_refl _) (by omega)).mono ?_
  rintro e w2 ⟨R2, c2, rfl, ho2, hb2⟩
  have Ho2 := Lib.hid (ho2.base_ (Nat.le_trans hz0 hz1))
  have Hb2 := Lib.hid (Hb1.out.trans (hb2.mono (Nat.le_trans hz0 hz1)))
  clear ho2 hb2
  go_wp2_with fail
  go_ret
  exact ⟨R2, c2, rfl, Ho2.out, Hb2.out⟩

set_option maxRecDepth 100000 in
set_option maxHeartbeats 1600000 in
theorem specListOf_any (A : Option Addr) (c : Nat) (l : List Nd) (As : Option Addr) (ca : Nat) (src : List (List Int)) (w : World) (B : Nat) (q : List Int) (hq : Hid (ListOfq l src q)) (h : RdN w B A l) (hs : RdR w B As src) (hB : B ≤ w.heap.size) (hn : l.length ≤ 1048576) (hns : src.length ≤ 1048576) (hm : Hid (∀ r ∈ src, r.length ≤ 1048576)) :
    Calls Try.prog 16 #[.agg #[.slice A l.length c], .slice As src.length ca] w fun e w' => ∃ A' c', e = .returned (.slice A' q.length c') ∧ OwnI w' w.heap.size w'.heap.size A' q ∧ Below w.heap.size w w' := by
  obtain ⟨W0, hW0⟩ : ∃ W0 : World, W0 = w.alloc (.cells #[.slice A l.length c] 32) := ⟨_, rfl⟩
  have hb0 : Below w.heap.size w W0 := by rw [hW0]; exact (Below.refl w.heap.size w).alloc (Nat.le_refl _) _
  have hx0 : Bk W0 w.heap.size 32 [.slice A l.length c] := by rw [hW0]; exact Bk.new _ _ [_]
  have H0 := Lib.hid (h.below hb0 hB)
  have Hs0 := Lib.hid (hs.below hb0 hB)
  have Hb0 := Lib.hid hb0
  have Hx0 := Lib.hid hx0
  have HW0 := Lib.hid hW0
  have hz0 := hb0.size
  clear h hs hb0 hx0 hW0
  go_enter Try.func16, Try.ntmps16
  go_wp2_with fail
  rw [← HW0.out]
  refine (specvalidInput_any A c l As ca src W0 B H0.out Hs0.out (by omega) hn hns hm).mono ?_
  rintro e w1 ⟨rfl, hb1⟩
  have Hb1 := Lib.hid (Hb0.out.trans (hb1.mono hz0))
  have Hx1 := Lib.hid (Hx0.out.below hb1 Hx0.out.lt)
  have H1 := Lib.hid (H0.out.below hb1 (by omega))
  have Hs1 := Lib.hid (Hs0.out.below hb1 (by omega))
  have hc1 : w1.cell? ⟨w.heap.size, 0, none⟩ = some (.slice A l.length c) := Hx1.out.cell 0
  have hz1 := Hb1.out.size
  clear hb1
  cases hv : (pipeOk l && srcOk src)
  · obtain rfl := hq.out.no hv
    have Hv := Lib.hid hv
    clear hv
    go_wp2_with fail
    go_ret
    exact ⟨none, 0, rfl, fun h => absurd h (by simp), Hb1.out⟩
  obtain ⟨t, ht⟩ := tree_of_pipe (Bool.and_eq_true_iff.1 hv).1
  have hqq := hq.out.yes hv ht
  subst hqq
  have HC := Lib.hid (specAll_any A c l As ca src w1 B hv ht H1.out Hs1.out (by omega) hn)
  have Hv := Lib.hid hv
  clear hv ht hq
  go_wp2_with fail
  refine HC.out.mono ?_
  rintro e w2 ⟨R, cR, rfl, ho, hb2⟩
  have Ho := Lib.hid (ho.ownI.wide hz1 (Nat.le_refl _))
  have Hb2 := Lib.hid (Hb1.out.trans (hb2.mono hz1))
  clear ho hb2
  go_wp2_with fail
  go_ret
  exact ⟨R, cR, rfl, Ho.out, Hb2.out⟩

end Go.Proofs.Ytnmekcifbmcdpaa


/- Contracts: the list of a pipe, by the program. -/
namespace Go.Proofs.Ytnmekcifbmcdpaa
open Go.RowKit Go.Sort

set_option maxRecDepth 100000 in
set_option maxHeartbeats 1600000 in
theorem implListOf_any (hBat : BatchOk) (A : Option Addr) (c : Nat) (l : List Nd) (As : Option Addr) (ca : Nat) (src : List (List Int)) (w : World) (B : Nat) (q : List Int) (hq : Hid (ListOfq l src q)) (h : RdN w B A l) (hs : RdR w B As src) (hB : B ≤ w.heap.size) (hn : l.length ≤ 1048576) (hns : src.length ≤ 1048576) (hm : Hid (∀ r ∈ src, r.length ≤ 1048576)) :
    Calls Try.prog 19 #[.agg #[.slice A l.length c], .slice As src.length ca] w fun e w' => ∃ A' c', e = .returned (.slice A' q.length c') ∧ OwnI w' w.heap.size w'.heap.size A' q ∧ Below w.heap.size w w' := by
  obtain ⟨W0, hW0⟩ : ∃ W0 : World, W0 = w.alloc (.cells #[.slice A l.length c] 32) := ⟨_, rfl⟩
  have hb0 : Below w.heap.size w W0 := by rw [hW0]; exact (Below.refl w.heap.size w).alloc (Nat.le_refl _) _
  have hx0 : Bk W0 w.heap.size 32 [.slice A l.length c] := by rw [hW0]; exact Bk.new _ _ [_]
  have H0 := Lib.hid (h.below hb0 hB)
  have Hs0 := Lib.hid (hs.below hb0 hB)
  have Hb0 := Lib.hid hb0
  have Hx0 := Lib.hid hx0
  have HW0 := Lib.hid hW0
  have HBat := Lib.hid hBat
  have hz0 := hb0.size
  clear h hs hb0 hx0 hW0 hBat
  go_enter Try.func19, Try.ntmps19
  go_wp2_with fail
  rw [← HW0.out]
  refine (implValidPipe_any A c l W0 B H0.out (by omega) hn).mono ?_
  rintro e w1 ⟨rfl, hb1⟩
  have Hb1 := Lib.hid (Hb0.out.trans (hb1.mono hz0))
  have Hx1 := Lib.hid (Hx0.out.below hb1 Hx0.out.lt)
  have H1 := Lib.hid (H0.out.below hb1 (by omega))
  have Hs1 := Lib.hid (Hs0.out.below hb1 (by omega))
  have hc1 : w1.cell? ⟨w.heap.size, 0, none⟩ = some (.slice A l.length c) := Hx1.out.cell 0
  have hz1 := Hb1.out.size
  clear hb1
  cases hv : pipeOk l
  · obtain rfl := hq.out.no (by rw [hv]; rfl)
    have Hv := Lib.hid hv
    clear hv
    go_wp2_with fail
    go_ret
    exact ⟨none, 0, rfl, fun h => absurd h (by simp), Hb1.out⟩
  have Hv := Lib.hid hv
  clear hv
  go_wp2_with fail
  refine (implValidSources_any As ca src w1 B Hs1.out hns hm.out).mono ?_
  rintro e w2 ⟨rfl, rfl⟩
  cases hvs : srcOk src
  · obtain rfl := hq.out.no (by rw [hvs, Bool.and_false])
    have Hvs := Lib.hid hvs
    clear hvs
    go_wp2_with fail
    go_ret
    exact ⟨none, 0, rfl, fun h => absurd h (by simp), Hb1.out⟩
  obtain ⟨t, ht⟩ := tree_of_pipe Hv.out
  have hqq := hq.out.yes (by rw [Hv.out, hvs]; rfl) ht
  subst hqq
  have hlo := low_of Hv.out
  have hhi := high_of Hv.out
  have hdt : t.depth ≤ 12 := by have := ht.depth_le; omega
  have HT := Lib.hid (treeOf_any (Lib.hid ht) A c w1 B H1.out (by omega) hlo hn)
  have HL : Hid (∀ W, Below w1.heap.size w1 W → Calls Try.prog 62 #[tv t, .slice As src.length ca] W fun e w' => ∃ R cR, e = .returned (.slice R (lst src t).length cR) ∧ OwnV w' W.heap.size R cR (lst src t) ∧ Below W.heap.size W w') :=
    Lib.hid (fun W hb => implListOf_tree HBat.out hvs (src_three hvs) As ca B ht (ht.nums (pipeOk_iff.1 Hv.out)) hdt W (Hs1.out.below hb (by omega)) (by have := hb.size; omega))
  have Hvs := Lib.hid hvs
  obtain ⟨ty, v, htv⟩ := tv_iface t
  rw [htv] at HT HL
  clear hvs ht hq htv
  go_wp2_with fail
  refine HT.out.mono ?_
  rintro e w2 ⟨rfl, hb2⟩
  have Hb2 := Lib.hid hb2
  have hz2 := hb2.size
  clear hb2
  go_wp2_with fail
  refine (HL.out w2 Hb2.out).mono ?_
  rintro e w3 ⟨R, cR, rfl, ho, hb3⟩
  have Ho := Lib.hid (ho.ownI.wide (lo2 := w.heap.size) (by omega) (Nat.le_refl _))
  have Hb3 := Lib.hid (Hb1.out.trans ((Hb2.out.trans (hb3.mono hz2)).mono hz1))
  clear ho hb3
  go_wp2_with fail
  go_ret
  exact ⟨R, cR, rfl, Ho.out, Hb3.out⟩

end Go.Proofs.Ytnmekcifbmcdpaa

/- A range over a function, with no word on what the iterator may write: the iterator's run and the rounds are told together. -/
namespace Go.Proofs.Ytnmekcifbmcdpaa
open Go.RowKit

/-- How the body of a round may be left. -/
def freePost (l D : Nat) (Rdy : World → Prop) (Dn : Code → World → Prop) (R : Ending → World → Prop) (Wb : World) : Exit → Act → World → Prop
  | .normal, _, W' => W'.heap[l]? = Wb.heap[l]? ∧ W'.heap[D]? = Wb.heap[D]? ∧ ∀ o : Obj, o.isCells = false → Rdy (W'.putObj l o) → R (.returned (.bool true)) (W'.putObj l o)
  | .ret, _, W' => W'.heap[l]? = Wb.heap[l]? ∧ W'.heap[D]? = Wb.heap[D]? ∧ ∀ o : Obj, o.isCells = false → Dn .ret (W'.putObj l o) → R (.returned (.bool false)) (W'.putObj l o)
  | .exit id, _, W' => W'.heap[l]? = Wb.heap[l]? ∧ W'.heap[D]? = Wb.heap[D]? ∧ ∀ o : Obj, o.isCells = false → Dn (.exit id) (W'.putObj l o) → R (.returned (.bool false)) (W'.putObj l o)
  | .goto t, _, W' => W'.heap[l]? = Wb.heap[l]? ∧ W'.heap[D]? = Wb.heap[D]? ∧ ∀ o : Obj, o.isCells = false → Dn (.goto t) (W'.putObj l o) → R (.returned (.bool false)) (W'.putObj l o)
  | .panic _, _, _ => False
  | .outgrown, _, _ => False

/-- How the iterator may end. -/
def freeEnd (F : Fence) (n : Nat) (P : Program) (l D : Nat) (Q : Exit → Act → World → Prop) (a : Act) (Rdy : World → Prop) (Dn : Code → World → Prop) (e : Ending) (W' : World) : Prop :=
  (∃ v, e = .returned v) ∧
    ((Rdy W' ∧ ∀ o : Obj, o.isCells = false → (W'.putObj l o).heap[D]? = some (.deferred (some [])) → Q .normal { a with defers := { target := .collected D, args := #[] } :: a.defers } (W'.putObj l o)) ∨
     (∃ c, Dn c W' ∧ ∀ o : Obj, o.isCells = false → (W'.putObj l o).heap[D]? = some (.deferred (some [])) → c.wpIn F n P Q { a with defers := { target := .collected D, args := #[] } :: a.defers } (W'.putObj l o)))

theorem wpIn_rangeFunc_free {α : Type} {F : Fence} {n : Nat} {P : Program} {g : Operand} {ps : Array Tmp} {assign body : Code} {Q : Exit → Act → World → Prop} {a : Act} {w : World}
    (hro : F.round = none) (h1 : 1 ≤ n) {gf : Nat} {lb : Array Value} (hg : a.eval g = .func (.func gf) #[] lb) (hFg : F.fn gf) (eg : ∀ args w, (callFunc gf args).run P w = .ok (.enter gf args) w)
    {encs : α → Array Value} (hps : ∀ x, (encs x).size = ps.size) (a₁ : α → Act)
    (hassign : ∀ (l : Nat) (x : α) (W : World) (K : Act → World → Prop), K (a₁ x) W →
      assign.wpIn (F.inRound l) (n - 1 - 1) P (Exit.then K (fun _ _ _ => False)) { tmps := (ps.zip (encs x)).foldl (fun t (p, v) => t.setIfInBounds p v) a.tmps, defers := [] } W)
    (hiter : ∀ (l D : Nat) (W1 : World) (Rdy : World → Prop) (Dn : Code → World → Prop),
      D = w.heap.size → l = w.heap.size + 1 → W1.heap.size = w.heap.size + 2 → Below w.heap.size w W1 → Rdy W1 →
      (∀ W, Rdy W → (∃ o : Obj, W.heap[l]? = some o ∧ o.isCells = false) ∧ W.heap[D]? = some (.deferred (some []))) →
      (∀ W W', Rdy W → W'.heap[l]? = W.heap[l]? → W'.heap[D]? = W.heap[D]? → Rdy W') →
      (∀ c W W', Dn c W → W'.heap[l]? = W.heap[l]? → W'.heap[D]? = W.heap[D]? → Dn c W') →
      (∀ (x : α) (W : World) (R : Ending → World → Prop), Rdy W →
        (∀ o : Obj, o.isCells = false → (W.putObj l o).heap[l]? = some o → (W.putObj l o).heap[D]? = some (.deferred (some [])) → body.wpIn (F.inRound l) (n - 1 - 1) P (freePost l D Rdy Dn R (W.putObj l o)) (a₁ x) (W.putObj l o)) →
        YieldAt F (n - 1 - 1) P l (encs x) W R) →
      CallsIn F (n - 1) P gf (#[.func (.yield l) #[] #[]] ++ lb) W1 (freeEnd F n P l D Q a Rdy Dn)) :
    (Code.rangeFunc g ps assign body).wpIn F n P Q a w := by
  refine wpIn_rangeFunc ?_
  intro fn hfn
  rw [hro]
  obtain ⟨rec, hrec⟩ : ∃ rec : LoopState → Option Code → Loop, rec = fun st pe => { state := st, pending := pe, fn, tmps := a.tmps, params := ps, assign, body, defers := w.heap.size } := ⟨_, rfl⟩
  obtain ⟨W1, hW1⟩ : ∃ W1, (w.alloc (.deferred (some []))).alloc (.loop (rec .ready none)) = W1 := ⟨_, rfl⟩
  have hL1 : W1.heap[w.heap.size + 1]? = some (.loop (rec .ready none)) := by
    rw [← hW1]; have := World.alloc_heap_new (w.alloc (.deferred (some []))) (.loop (rec .ready none)); rwa [World.size_alloc] at this
  have hK1 : W1.heap[w.heap.size]? = some (.deferred (some [])) := by
    rw [← hW1]; exact (Below.heap_alloc _ _ _ (by simp)).trans (World.alloc_heap_new w _)
  have hb1 : Below w.heap.size w W1 := by
    rw [← hW1]; exact ((Below.refl _ w).alloc (Nat.le_refl _) _).alloc (by simp) _
  refine ⟨w.heap.size + 1, [{ target := .collected w.heap.size, args := #[] }], W1, { target := .fn (.func gf) lb, args := #[.func (.yield (w.heap.size + 1)) #[] #[]] }, W1, gf,
    #[.func (.yield (w.heap.size + 1)) #[] #[]] ++ lb, W1, ?_, ?_, ?_, ?_, fun _ => h1, ?_⟩
  · rw [← hW1, hrec]; exact run_enterLoop_outer _ _ _ _ _
  · simp only [resolve, hg]
    simp [go_sem]
  · intro f' hf'; simp [Target.leads] at hf'; subst hf'; exact hFg
  · simp [invoke, go_sem, eg]
  · refine (hiter (w.heap.size + 1) w.heap.size W1
      (fun W => W.heap[w.heap.size + 1]? = some (.loop (rec .ready none)) ∧ W.heap[w.heap.size]? = some (.deferred (some [])))
      (fun c W => W.heap[w.heap.size + 1]? = some (.loop (rec .done (some c))) ∧ W.heap[w.heap.size]? = some (.deferred (some [])))
      rfl rfl (by rw [← hW1]; simp) hb1 ⟨hL1, hK1⟩
      (fun W h => ⟨⟨_, h.1, rfl⟩, h.2⟩)
      (fun W W' h e1 e2 => ⟨e1.trans h.1, e2.trans h.2⟩)
      (fun c W W' h e1 e2 => ⟨e1.trans h.1, e2.trans h.2⟩)
      ?_).mono ?_
    · -- ONE ROUND
      rintro x W R ⟨hl, hk⟩ hbody
      have hlt : w.heap.size + 1 < W.heap.size := (Array.getElem?_eq_some_iff.1 hl).1
      have hy := run_yield (P := P) (args := encs x) hl (by rw [hrec]; exact hps x)
      rw [hrec] at hy
      refine ⟨fn, _, assign, body, hy, roundIn_of_wpIn hfn (hassign _ x W _ ⟨_, run_beginRound hl (by rw [hrec]), ?_⟩)⟩
      have hl2 : (W.putObj (w.heap.size + 1) (.loop { rec .ready none with state := .busy })).heap[w.heap.size + 1]? = some (.loop { rec .ready none with state := .busy }) := World.putObj_heap_same hlt
      have hk2 : (W.putObj (w.heap.size + 1) (.loop { rec .ready none with state := .busy })).heap[w.heap.size]? = some (.deferred (some [])) := (World.putObj_heap_other (by omega)).trans hk
      refine wpIn_mono (hbody _ rfl hl2 hk2) ?_
      have fin : ∀ (jump : Option Code) (W3 : World), W3.heap[w.heap.size + 1]? = (W.putObj (w.heap.size + 1) (.loop { rec .ready none with state := .busy })).heap[w.heap.size + 1]? →
          W3.heap[w.heap.size]? = (W.putObj (w.heap.size + 1) (.loop { rec .ready none with state := .busy })).heap[w.heap.size]? →
          (Instr.endRound (w.heap.size + 1) jump).run P W3 = .ok (.bool jump.isNone) (W3.putObj (w.heap.size + 1) (.loop (rec (if jump.isNone then .ready else .done) jump))) ∧
          (W3.putObj (w.heap.size + 1) (.loop (rec (if jump.isNone then .ready else .done) jump))).heap[w.heap.size + 1]? = some (.loop (rec (if jump.isNone then .ready else .done) jump)) ∧
          (W3.putObj (w.heap.size + 1) (.loop (rec (if jump.isNone then .ready else .done) jump))).heap[w.heap.size]? = some (.deferred (some [])) := fun jump W3 h3 h4 => by
        have hl3 := h3.trans hl2
        have := run_endRound (P := P) jump hl3
        rw [hrec] at this ⊢
        exact ⟨this, World.putObj_heap_same (Array.getElem?_eq_some_iff.1 hl3).1, (World.putObj_heap_other (by omega)).trans (h4.trans hk2)⟩
      rintro e a3 W3 hp
      cases e with
      | normal =>
        obtain ⟨h3, h4, hr3⟩ := hp
        obtain ⟨hr, hl4, hk4⟩ := fin none W3 h3 h4
        exact ⟨_, _, hr, hr3 _ rfl ⟨hl4, hk4⟩⟩
      | ret =>
        obtain ⟨h3, h4, hr3⟩ := hp
        obtain ⟨hr, hl4, hk4⟩ := fin (some .ret) W3 h3 h4
        exact ⟨_, _, hr, hr3 _ rfl ⟨hl4, hk4⟩⟩
      | exit id =>
        obtain ⟨h3, h4, hr3⟩ := hp
        obtain ⟨hr, hl4, hk4⟩ := fin (some (.exit id)) W3 h3 h4
        exact ⟨_, _, hr, hr3 _ rfl ⟨hl4, hk4⟩⟩
      | goto t =>
        obtain ⟨h3, h4, hr3⟩ := hp
        obtain ⟨hr, hl4, hk4⟩ := fin (some (.goto t)) W3 h3 h4
        exact ⟨_, _, hr, hr3 _ rfl ⟨hl4, hk4⟩⟩
      | panic ch => exact hp.elim
      | outgrown => exact hp.elim
    · -- BEHIND THE ITERATOR
      rintro e W2 ⟨⟨v, rfl⟩, (⟨⟨hl, hk⟩, hQ⟩ | ⟨c, ⟨hl, hk⟩, hQ⟩)⟩
      · have hend := run_endLoop (P := P) hl (by rw [hrec]; simp)
        refine ⟨none, _, by rw [hrec] at hend; exact hend, hQ _ rfl ?_⟩
        exact (World.putObj_heap_other (by omega)).trans hk
      · have hend := run_endLoop (P := P) hl (by rw [hrec]; simp)
        refine ⟨some c, _, by rw [hrec] at hend; exact hend, hQ _ rfl ?_⟩
        exact (World.putObj_heap_other (by omega)).trans hk

end Go.Proofs.Ytnmekcifbmcdpaa

/- Contracts: the library's Chunk, and the sums of groups by the program. -/
namespace Go.Proofs.Ytnmekcifbmcdpaa
open Go.RowKit Go.Shelf

attribute [local go_sem] Oper.semAt_some

theorem batTo_chunk {n : Nat} {a : List Int} {i : Nat} (hi : i % n = 0) : ∀ m : Nat, m < n → i + m < a.length → batTo n a (i + (m + 1)) = batTo n a i ++ [sumL 0 ((a.drop i).take (m + 1))]
  | 0, _, hl => by
    obtain ⟨x, hx⟩ := get_of_lt a hl
    have hd : (a.drop i)[0]? = some x := by rw [List.getElem?_drop]; exact hx
    rw [sumL_succ 0 hd]
    have h1 := batTo_app (n := n) (a := a) (j := i) (m := (batTo n a i).length) (o := batTo n a i ++ [0]) (x := x) (y := 0) (by rw [if_pos hi]) (by simp) (by simp) hx
    rw [Nat.zero_add, h1]
    simp [sumL]
  | m + 1, hm, hl => by
    have ih := batTo_chunk (a := a) hi m (by omega) (by omega)
    obtain ⟨x, hx⟩ := get_of_lt a (k := i + (m + 1)) hl
    have hd : (a.drop i)[m + 1]? = some x := by rw [List.getElem?_drop]; exact hx
    rw [sumL_succ 0 hd]
    have hne : (i + (m + 1)) % n ≠ 0 := by
      rw [Nat.add_mod, hi, Nat.zero_add, Nat.mod_mod, Nat.mod_eq_of_lt hm]; omega
    have h1 := batTo_app (n := n) (a := a) (j := i + (m + 1)) (m := (batTo n a i).length) (o := batTo n a i ++ [sumL 0 ((a.drop i).take (m + 1))]) (x := x) (y := sumL 0 ((a.drop i).take (m + 1)))
      (by rw [if_neg hne, ih]) (by simp) (by simp) hx
    rw [show i + (m + 1 + 1) = i + (m + 1) + 1 by omega, h1]
    simp

/-- The chunk that begins at i. -/
def chunkV (g o : Nat) (len n i : Nat) : Value := .slice (some ⟨g, o + i, none⟩) (min n (len - i)) (min n (len - i))

set_option maxHeartbeats 1600000 in
theorem chunk_in (A : Option Addr) (c : Nat) (len n : Nat) (hn : 0 < n) (hn1 : n ≤ 65536) (w : World) :
    Calls Try.prog 137 #[.slice A len c, .int .i64 n] w fun e w' => e = .returned (.func (.func 146) #[] #[.pointer (some ⟨w.heap.size, 0, none⟩), .pointer (some ⟨w.heap.size + 1, 0, none⟩)]) ∧ w' = (w.alloc (.cells #[.slice A len c] 28)).alloc (.cells #[.int .i64 n] 3) := by
  have h1 : ¬ ((n : Int) < 1) := by omega
  go_enter Try.func137, Try.ntmps137
  go_wp2
  go_ret
  exact ⟨rfl, rfl⟩

set_option maxRecDepth 100000 in
set_option maxHeartbeats 3200000 in
theorem chunk1_in (A : Option Addr) (g o c len n : Nat) (hA : 0 < len → A = some ⟨g, o, none⟩) (hn : 0 < n) (hn1 : n ≤ 65536) (hlen : len ≤ 65536) (hc : len ≤ c) (l : Nat) (Bs Bn : Nat) (J : Nat → World → Prop)
    (hJ : ∀ i W, J i W → W.cell? ⟨Bs, 0, none⟩ = some (.slice A len c) ∧ W.cell? ⟨Bn, 0, none⟩ = some (.int .i64 n))
    (hJd : ∀ i W, J i W → J i W.drew)
    (hY : ∀ i W, J i W → i < len → YieldAt Fence.wide 3 Try.prog l #[chunkV g o len n i] W fun e W' => e = .returned (.bool true) ∧ J (i + n) W')
    (W : World) (h0 : J 0 W) :
    CallsIn Fence.wide 4 Try.prog 146 #[.func (.yield l) #[] #[], .pointer (some ⟨Bs, 0, none⟩), .pointer (some ⟨Bn, 0, none⟩)] W fun e W' => (∃ v, e = .returned v) ∧ ∃ i, len ≤ i ∧ J i W' := by
  have HJ := Lib.hid hJ
  have HJd := Lib.hid hJd
  have HY := Lib.hid hY
  clear hJ hJd hY
  refine callsIn_of_wp Try.func146 rfl trivial ?_ rfl
  simp only [Try.ntmps146, List.size_toArray, List.length_cons, List.length_nil, Nat.reduceAdd, Nat.reduceSub, Array.replicate_succ, Array.replicate_zero, List.push_toArray, List.append_toArray, List.nil_append, List.cons_append]
  gi_wp2
  gi_loopw [4] (fun p wr => ∃ i : Nat, i ≤ 131072 ∧ p = .int .i64 i ∧ J i wr) (fun p _ => len - (intOf p).toNat)
  case atStart => exact ⟨0, by omega, rfl, h0⟩
  case round =>
    obtain ⟨i, hi, rfl, hJs⟩ := hrel
    obtain ⟨hs1, hs2⟩ := HJ.out i wr hJs
    have HJs := Lib.hid hJs
    clear hJs
    by_cases hlt : i < len
    · obtain rfl := hA (by omega)
      have hs3 : wr.drew.cell? ⟨Bs, 0, none⟩ = some (.slice (some ⟨g, o, none⟩) len c) := hs1
      have hs4 : wr.drew.cell? ⟨Bn, 0, none⟩ = some (.int .i64 n) := hs2
      have hi1 : (i : Int) < len := by omega
      have hi2 : (i : Int) ≤ len := by omega
      have hi3 : (len : Int) ≤ c := by omega
      obtain ⟨m, hm⟩ : ∃ m : Nat, m = min n (len - i) := ⟨_, rfl⟩
      have hmin : min (n : Int) ((len - i : Nat) : Int) = (m : Int) := by omega
      have hm1 : (m : Int) ≤ 65536 := by omega
      have hm0 : 0 < m := by omega
      have hw1 : IntKind.i64.wrap ((i : Int) + (m : Int)) = (i : Int) + m := IntWalk.i64_in _ (by omega)
      have hw2 : IntKind.i64.wrap ((i : Int) + (n : Int)) = (i : Int) + n := IntWalk.i64_in _ (by omega)
      have hb1 : (i : Int) ≤ (i : Int) + m := by omega
      have hb2 : (i : Int) + m ≤ c := by omega
      have hcv : chunkV g o len n i = .slice (some ⟨g, o + i, none⟩) m m := by unfold chunkV; rw [← hm]
      obtain ⟨fn, tmps, assign, body, hy, hR⟩ := HY.out i wr.drew (HJd.out _ _ HJs.out) hlt
      rw [hcv] at hy
      have hge : i + m - i = m := by omega
      clear hm hcv
      gi_wp2
      gi_region
      gi_wp2
      refine hR.mono ?_
      rintro e W3 ⟨rfl, hJ3⟩
      obtain ⟨hs5, hs6⟩ := HJ.out _ _ hJ3
      gi_wp2
      go_roundw
      case rel => exact ⟨i + n, by omega, by go_num, hJ3⟩
      case measure => simp [intOf]; omega
    · gi_wp2
      go_end0
      exact ⟨⟨_, rfl⟩, i, by omega, HJs.out⟩


theorem stepIn_append_int {F : Fence} {nn : Nat} {o : Oper} {a : Act} {K : Act → World → Prop} {Q : Exit → Act → World → Prop} {w : World} (s y : Operand)
    (ho : o.op = .call { callee := .builtin .append, args := #[s, y], argTypes := #[28, 28] }) (base : Nat) (A : Option Addr) (c : Nat) (l : List Int) (x : Int) (n : Nat) (hnl : l.length = n) (hs : a.eval s = .slice A n c) (hown : OwnJ w base A c l)
    (g : Nat) (hx : a.eval y = .slice (some ⟨g, 0, none⟩) 1 1) (hg : g = w.heap.size) (hn : n ≤ 1048576) (hb : base ≤ w.heap.size)
    (h : ∀ (A' : Option Addr) (c' : Nat) (w' : World), OwnJ w' base A' c' (l ++ [x]) → (w.alloc (.cells #[.int .i64 x] 3)).grownBy w' (rowOf A) → K (a.put o.dst (.slice A' (n + 1) c')) w') :
    Oper.wpIn F nn Try.prog o a (w.alloc (.cells #[.int .i64 x] 3)) K Q := by
  subst hg
  subst hnl
  obtain ⟨i, hi, hz0, hz1, hz2⟩ := info_parts Try.infoInt
  have hown2 := hown.below ((Below.refl w.heap.size w).alloc (Nat.le_refl _) (.cells #[.int .i64 x] 3)) (Nat.le_refl _)
  have hb1 : Bk (w.alloc (.cells #[.int .i64 x] 3)) w.heap.size 3 [.int .i64 x] := Bk.new w _ [_]
  have hread : ∀ (j : Nat) (u : Value), (ints [x])[j]? = some u → (w.alloc (.cells #[.int .i64 x] 3)).cell? ((⟨w.heap.size, 0, none⟩ : Addr).add j) = some u := fun j u hj => by
    rw [add_zero_row, hb1.cell]
    exact hj
  have hone : ∀ u ∈ ints [x], u.oneCell' = true := by
    intro u hu
    simp [ints] at hu
    subst hu
    rfl
  obtain ⟨v', w', hr, h2, h3, _⟩ := run_append_own (P := Try.prog) (w.alloc (.cells #[.int .i64 x] 3)) base 28 o.type 3 i _ 1 8 Try.underlying28 hi hz0 hz1 hz2 rfl (by decide)
    (.slice A l.length c) l.length (ints l) hown2 ⟨w.heap.size, 0, none⟩ 1 1 (ints [x]) rfl hread hone (by unfold maxLen; omega) (by omega) (by simp; omega)
  have hv : ∃ A' c', v' = .slice A' (l.length + 1) c' := by
    obtain ⟨_, ⟨_, h0⟩ | ⟨g, cap, cur, hv, _⟩⟩ := h2
    · omega
    · exact ⟨_, _, hv⟩
  obtain ⟨A', c', rfl⟩ := hv
  unfold Oper.wpIn
  refine ⟨?_, ?_⟩
  · simp [Oper.about, ho, resolve, Target.leads, Sem.run_pure]
  · rw [Oper.semAt_plain F _ _ (by rw [ho]; intro c hc'; cases hc')]
    simp only [execOp, ho, resolve, invoke, builtin, Sem.run_bind, Sem.run_pure, Result.andThen_ok, List.map_toArray, List.map_cons, List.map_nil, hs, hx, hr]
    refine (h A' c' w' ?_ (by rw [← ownBlock_slice A l.length c]; exact h3))
    unfold OwnJ
    rw [List.length_append, show ints (l ++ [x]) = ints l ++ ints [x] from by simp [ints]]
    exact h2

/-- Between two rounds. -/
structure BatJ (w : World) (A : Option Addr) (c : Nat) (a : List Int) (n : Nat) (i : Nat) (W : World) : Prop where
  mul : i % n = 0
  below : Below w.heap.size w W
  big : w.heap.size + 5 ≤ W.heap.size
  bs : Bk W (w.heap.size + 1) 28 [.slice A a.length c]
  bn : Bk W (w.heap.size + 2) 3 [.int .i64 n]
  out : ∃ R cR, Bk W w.heap.size 28 [.slice R (batTo n a (min i a.length)).length cR] ∧ OwnJ W (w.heap.size + 5) R cR (batTo n a (min i a.length))

set_option maxRecDepth 100000 in
set_option maxHeartbeats 3200000 in
theorem batched_any : BatchOk := by
  intro A c a n w base ha hlen hn0 hn1 ia
  have Ha := Lib.hid ha
  have Ia := Lib.hid ia
  clear ha ia
  refine (callsIn_wide (n := 5)).1 ?_
  refine callsIn_of_wp_marks Try.func119 rfl trivial ?_ rfl
  simp only [Try.ntmps119, List.size_toArray, List.length_cons, List.length_nil, Nat.reduceAdd, Nat.reduceSub, Array.replicate_succ, Array.replicate_zero, List.push_toArray, List.append_toArray, List.nil_append, List.cons_append]
  gi_wp2_with (refine ⟨trivial, ?_⟩; gi_at_call 137; refine (callsIn_wide.2 (chunk_in A c a.length n hn0 (by omega) _)).mono ?_; rintro e w' ⟨rfl, rfl⟩)
  obtain ⟨W0, hW0⟩ : ∃ W0, ((w.alloc (.cells #[.slice none 0 0] 28)).alloc (.cells #[.slice A a.length c] 28)).alloc (.cells #[.int .i64 n] 3) = W0 := ⟨_, rfl⟩
  have hz0 : W0.heap.size = w.heap.size + 3 := by rw [← hW0]; simp
  have hb0 : Below w.heap.size w W0 := by rw [← hW0]; exact (((Below.refl _ w).alloc (Nat.le_refl _) _).alloc (by simp) _).alloc (by simp; omega) _
  have k0 : Bk W0 w.heap.size 28 [.slice none 0 0] := by rw [← hW0]; exact ((Bk.new w _ [_]).alloc _).alloc _
  have k1 : Bk W0 (w.heap.size + 1) 28 [.slice A a.length c] := by
    rw [← hW0]
    have := Bk.new (w.alloc (.cells #[.slice none 0 0] 28)) 28 [.slice A a.length c]
    rw [World.size_alloc] at this
    exact this.alloc _
  have k2 : Bk W0 (w.heap.size + 2) 3 [.int .i64 n] := by
    rw [← hW0]
    have := Bk.new ((w.alloc (.cells #[.slice none 0 0] 28)).alloc (.cells #[.slice A a.length c] 28)) 3 [.int .i64 n]
    simpa using this
  rw [hW0]
  clear hW0
  obtain ⟨g, o, hA⟩ : ∃ g o, 0 < a.length → A = some ⟨g, o, none⟩ := by
    rcases Ha.out with ⟨_, _, rfl⟩ | ⟨g, o, cs, hA, _⟩
    · exact ⟨0, 0, fun h => absurd h (by simp)⟩
    · exact ⟨g, o, fun _ => hA⟩
  have hcap := Ha.out.len_le
  refine wpIn_rangeFunc_free (F := Fence.wide) (n := 5) rfl (by omega) (gf := 146) (lb := #[.pointer (some ⟨w.heap.size + 1, 0, none⟩), .pointer (some ⟨w.heap.size + 2, 0, none⟩)]) rfl trivial (enters_of Try.func146 (by kernel_rfl) rfl)
    (encs := fun i : Nat => #[chunkV g o a.length n i]) (fun _ => rfl)
    (fun i : Nat => { tmps := #[.slice A a.length c, .int .i64 n, undef, undef, .slice none 0 0, .pointer (some ⟨w.heap.size, 0, none⟩), chunkV g o a.length n i, .slice A a.length c, .int .i64 n, .func (.func 146) #[] #[.pointer (some ⟨w.heap.size + 1, 0, none⟩), .pointer (some ⟨w.heap.size + 2, 0, none⟩)], chunkV g o a.length n i, undef, undef, undef, undef, undef, undef], defers := [] }) ?assign ?iter
  case assign =>
    intro l x W K hK
    gi_wp2
    exact hK
  case iter =>
    intro l D W1 Rdy Dn hD hl hz1 hb1 hr1 hkind hst hstd hyld
    rw [hz0] at hD hl hz1
    have HY := Lib.hid hyld
    have HS := Lib.hid hst
    clear hyld hst hstd
    refine (chunk1_in A g o c a.length n hA hn0 (by omega) hlen hcap l (w.heap.size + 1) (w.heap.size + 2) (fun i W => BatJ w A c a n i W ∧ Rdy W) ?hJ ?hJd ?hY W1 ?h0).mono ?done
    case hJ => exact fun i W h => ⟨h.1.bs.cell 0, h.1.bn.cell 0⟩
    case hJd =>
      exact fun i W h => ⟨⟨h.1.mul, h.1.below.drew, h.1.big, h.1.bs, h.1.bn, h.1.out⟩, HS.out _ _ h.2 rfl rfl⟩
    case h0 =>
      have hb2 : Below W0.heap.size W0 W1 := hb1
      refine ⟨⟨Nat.zero_mod _, hb0.trans (hb1.mono hb0.size), by omega, k1.below hb1 k1.lt, k2.below hb1 k2.lt, ⟨none, 0, ?_, ?_⟩⟩, hr1⟩
      · have := k0.below hb1 k0.lt
        simpa [batTo] using this
      · have := OwnJ.nil_ W1 (w.heap.size + 5)
        simpa [batTo] using this
    case hY =>
      rintro i W ⟨hj, hrd⟩ hlt
      refine HY.out i W _ hrd fun ob hob hlo hDo => ?_
      obtain ⟨Wb, hWb⟩ : ∃ Wb, Wb = W.putObj l ob := ⟨_, rfl⟩
      rw [← hWb] at hlo hDo ⊢
      have hgb : W.grownBy Wb (some l) := by rw [hWb]; exact grownBy_putObj' W l ob
      have hll : l < W.heap.size := by have h1 := lt_of_block hlo; rw [hWb, World.putObj_size] at h1; exact h1
      have hne0 : w.heap.size ≠ l := by omega
      have hne1 : w.heap.size + 1 ≠ l := by omega
      have hne2 : w.heap.size + 2 ≠ l := by omega
      obtain ⟨R, cR, hout0, hown0⟩ := hj.out
      have ho0 : Bk Wb w.heap.size 28 [.slice R (batTo n a (min i a.length)).length cR] := by rw [hWb]; exact (World.putObj_heap_other hne0).trans hout0
      have ho1 : Bk Wb (w.heap.size + 1) 28 [.slice A a.length c] := by rw [hWb]; exact (World.putObj_heap_other hne1).trans hj.bs
      have ho2 : Bk Wb (w.heap.size + 2) 3 [.int .i64 n] := by rw [hWb]; exact (World.putObj_heap_other hne2).trans hj.bn
      have hown := hown0.grown hgb (by
        cases hR : rowOf R with
        | none => exact .inl rfl
        | some q => exact .inr (fun e => by have := hown0.row_lt q hR; injection e with e; omega))
      have hbel : Below w.heap.size w Wb := hj.below.grown hgb hj.below.size (fun k e => by injection e with e; omega)
      have hbig : w.heap.size + 5 ≤ Wb.heap.size := Nat.le_trans hj.big hgb.size
      have hmul := hj.mul
      have hmin : min i a.length = i := by omega
      rw [hmin] at ho0 hown
      obtain ⟨m, hm⟩ : ∃ m : Nat, m = min n (a.length - i) := ⟨_, rfl⟩
      have hnext := batTo_chunk (a := a) hmul (m - 1) (by omega) (by omega)
      rw [show m - 1 + 1 = m by omega] at hnext
      have hnext2 : batTo n a (min (i + n) a.length) = batTo n a i ++ [sumL 0 ((a.drop i).take m)] := by rw [← hnext]; congr 1; omega
      have hcv : chunkV g o a.length n i = .slice (some ⟨g, o + i, none⟩) m m := by unfold chunkV; rw [← hm]
      have hA1 := hA (by omega)
      have hsz : w.heap.size ≤ W.heap.size := hj.below.size
      have hrdI : RdI Wb w.heap.size (some ⟨g, o + i, none⟩) ((a.drop i).take m) := by
        have h1 := Ha.out
        rw [hA1] at h1
        exact ((h1.drop i (by omega)).take m).rd.below hbel (Nat.le_refl _)
      have hcl : ((a.drop i).take m).length = m := by rw [List.length_take, List.length_drop]; omega
      have hci : Items ((a.drop i).take m) := (Ia.out.drop i).take m
      obtain ⟨q, hq⟩ : ∃ q, (a.drop i).take m = q := ⟨_, rfl⟩
      obtain ⟨bo, hbo⟩ : ∃ bo, batTo n a i = bo := ⟨_, rfl⟩
      have hblen : bo.length ≤ 65536 := by rw [← hbo]; have := batTo_len n a i; omega
      rw [hq] at hrdI hcl hci hnext2
      rw [hbo] at hnext2 ho0 hown
      obtain ⟨m0, hm0⟩ : ∃ m0, bo.length = m0 := ⟨_, rfl⟩
      rw [hm0] at ho0 hblen
      have hcell := ho0.cell 0
      have hcell2 := (Bk.drewN ho0 1).cell 0
      have hfree := ho0.free 0
      simp only [List.getElem?_cons_zero] at hcell hcell2
      rw [hcv]
      have hqm : m ≤ 65536 := by omega
      clear hm hq hbo hcv hmin hnext
      subst hcl
      have HN := Lib.hid hnext2
      have HR := Lib.hid hrdI
      have Hm0 := Lib.hid hm0
      have Hci := Lib.hid hci
      have Hown := Lib.hid hown
      have Hbel := Lib.hid hbel
      have Hbig := Lib.hid hbig
      have Ho0 := Lib.hid ho0
      have Ho1 := Lib.hid ho1
      have Ho2 := Lib.hid ho2
      have Hlo := Lib.hid hlo
      have HDo := Lib.hid hDo
      have Hmul := Lib.hid hmul
      clear hnext2 hrdI hm0 hci hown hown0 hout0 hbel hbig ho0 ho1 ho2 hlo hDo HY hb1 hr1 hkind hb0 k0 k1 k2 hgb hA hA1 hWb hj hmul
      have HL := Lib.hid hl
      have hcell3 : ∀ z : Int, (Wb.alloc (.cells #[.int .i64 z] 3)).cell? ⟨w.heap.size, 0, none⟩ = some (.slice R m0 cR) := fun z => (Bk.alloc Ho0.out _).cell 0
      have HD := Lib.hid hD
      clear hl hD hz1 hne0 hne1 hne2
      have hmx : Try.prog.follows .mixedOrders = true := by kernel_rfl
      gi_wp2
      have Hfin : Hid (∀ (R2 : Option Addr) (c2 : Nat) (w2 : World), OwnJ w2 (w.heap.size + 5) R2 c2 (bo ++ [sumL 0 q]) → (Wb.drew.alloc (.cells #[.int .i64 (sumL 0 q)] 3)).grownBy w2 (rowOf R) →
          w2.cell? ⟨w.heap.size, 0, none⟩ = some (.slice R m0 cR) ∧ w2.frozen? ⟨w.heap.size, 0, none⟩ = false ∧ freePost l D Rdy Dn (fun e W' => e = .returned (.bool true) ∧ BatJ w A c a n (i + n) W' ∧ Rdy W') Wb .normal { tmps := #[], defers := [] } (w2.setCell ⟨w.heap.size, 0, none⟩ (.slice R2 (m0 + 1) c2))) := by
        intro R2 c2 w2 ho2 hg2
        have hl := HL.out
        have hD := HD.out
        have hbig := Hbig.out
        have hza : (Wb.drew.alloc (.cells #[.int .i64 (sumL 0 q)] 3)).heap.size = Wb.heap.size + 1 := by simp
        have hrow : ∀ k, rowOf R = some k → w.heap.size + 5 ≤ k := fun k hk => (Hown.out.row_lt k hk).1
        have hblk : ∀ k, k < w.heap.size + 5 → w2.heap[k]? = Wb.heap[k]? := fun k hk => by
          rw [hg2.block k (by rw [hza]; omega) (fun e => by have := hrow k e.symm; omega)]
          exact Below.heap_alloc _ _ _ (show k < Wb.heap.size by omega)
        have kb0 : Bk w2 w.heap.size 28 [.slice R m0 cR] := (hblk _ (by omega)).trans Ho0.out
        refine ⟨kb0.cell 0, kb0.free 0, ?_⟩
        obtain ⟨X1, hX1⟩ : ∃ X1, X1 = w2.setCell ⟨w.heap.size, 0, none⟩ (.slice R2 (m0 + 1) c2) := ⟨_, rfl⟩
        rw [← hX1]
        have hx1 : ∀ k, k ≠ w.heap.size → X1.heap[k]? = w2.heap[k]? := fun k hk => by rw [hX1]; exact Below.heap_setCell _ _ _ _ hk
        have hzx : X1.heap.size = w2.heap.size := by rw [hX1]; simp [World.setCell]
        have kx0 : Bk X1 w.heap.size 28 [.slice R2 (m0 + 1) c2] := by rw [hX1]; exact kb0.set_ 0 _
        have hox : OwnJ X1 (w.heap.size + 5) R2 c2 (bo ++ [sumL 0 q]) := by rw [hX1]; exact ownsRow_setCell_below ho2 (by simp) _
        have hbx : Below w.heap.size w X1 := by
          rw [hX1]
          exact (((Hbel.out.drew).alloc (show w.heap.size ≤ Wb.drew.heap.size from Hbel.out.size) _).grown hg2 (by rw [hza]; have := Hbel.out.size; omega) (fun k hk => by have := hrow k hk; omega)).setCell (p := ⟨w.heap.size, 0, none⟩) (Nat.le_refl _) _
        refine ⟨(hx1 l (by omega)).trans (hblk l (by omega)), (hx1 D (by omega)).trans (hblk D (by omega)), fun o2 ho2c hrd2 => ⟨rfl, ?_, hrd2⟩⟩
        have hpo : ∀ k, k ≠ l → (X1.putObj l o2).heap[k]? = X1.heap[k]? := fun k hk => World.putObj_heap_other hk
        have hgp := grownBy_putObj' X1 l o2
        refine ⟨by rw [Nat.add_mod_right]; exact Hmul.out, hbx.grown hgp hbx.size (fun k e => by injection e with e; omega), ?_, ?_, ?_, R2, c2, ?_, ?_⟩
        · rw [World.putObj_size, hzx]; have := hg2.size; rw [hza] at this; omega
        · exact (hpo _ (by omega)).trans ((hx1 _ (by omega)).trans ((hblk _ (by omega)).trans Ho1.out))
        · exact (hpo _ (by omega)).trans ((hx1 _ (by omega)).trans ((hblk _ (by omega)).trans Ho2.out))
        · rw [HN.out, List.length_append, Hm0.out]; exact (hpo _ (by omega)).trans kx0
        · rw [HN.out]
          exact hox.grown hgp (by
            cases hR : rowOf R2 with
            | none => exact .inl rfl
            | some q => exact .inr (fun e => by have := hox.row_lt q hR; injection e with e; omega))
      refine wpIn_region_any (by assumption) ?_
      change wpAnyIn _ _ _ _ _ _ _ _ _ (World.drew _)
      refine wpAnyIn_ready (rs := [0, 1]) (by kernel_rfl) (by simp) ?_
      refine AllReadyIn.cons rfl (fun K hK => ?_) ?_
      · go_simp
        refine hK _ _ ?_
        clear hK K
        refine wpAnyIn_ready (rs := [1]) (by kernel_rfl) (by simp) ?_
        refine AllReadyIn.cons rfl (fun K hK => ?_) ?_
        · go_simp
          refine hK _ _ ?_
          clear hK K
          refine wpAnyIn_ready (rs := [2]) (by kernel_rfl) (by simp) ?_
          refine AllReadyIn.cons rfl (fun K hK => ?_) ?_
          · go_simp
            refine ⟨trivial, ?_⟩
            refine (CallsIn.inRound l (callsIn_wide.2 (implSumOf_any _ _ q _ w.heap.size (show RdI Wb.drew w.heap.size _ q from HR.out) (by omega) Hci.out))).mono ?_
            rintro e w' ⟨rfl, rfl⟩
            refine hK _ _ ?_
            clear hK K
            refine wpAnyIn_ready (rs := [3]) (by kernel_rfl) (by simp) ?_
            refine AllReadyIn.cons rfl (fun K hK => ?_) ?_
            · go_simp
              refine hK _ _ ?_
              clear hK K
              refine wpAnyIn_ready (rs := [4]) (by kernel_rfl) (by simp) ?_
              refine AllReadyIn.cons rfl (fun K hK => ?_) ?_
              · refine stepIn_append_int _ _ rfl (w.heap.size + 5) R cR bo (sumL 0 q) m0 Hm0.out rfl (show OwnJ Wb.drew (w.heap.size + 5) R cR bo from Hown.out) _ rfl rfl (by omega) Hbig.out ?_
                intro R2 c2 w2 ho2 hg2
                refine hK _ _ ?_
                clear hK K
                obtain ⟨hbx, hfx, hrest⟩ := Hfin.out R2 c2 w2 ho2 hg2
                have Hrest := Lib.hid hrest
                clear hrest ho2 hg2
                refine wpAnyIn_ready (rs := [5]) (by kernel_rfl) (by simp) ?_
                refine AllReadyIn.cons rfl (fun K hK => ?_) ?_
                · go_simp
                  refine hK _ _ ?_
                  clear hK K
                  refine wpAnyIn_done (by kernel_rfl) ?_ _
                  exact Hrest.out
                exact AllReadyIn.nil
              exact AllReadyIn.nil
            exact AllReadyIn.nil
          exact AllReadyIn.nil
        exact AllReadyIn.nil
      refine AllReadyIn.cons rfl (fun K hK => ?_) ?_
      · go_simp
        refine hK _ _ ?_
        clear hK K
        refine wpAnyIn_ready (rs := [0, 2]) (by kernel_rfl) (by simp) ?_
        refine AllReadyIn.cons rfl (fun K hK => ?_) ?_
        · go_simp
          refine hK _ _ ?_
          clear hK K
          refine wpAnyIn_ready (rs := [2]) (by kernel_rfl) (by simp) ?_
          refine AllReadyIn.cons rfl (fun K hK => ?_) ?_
          · go_simp
            refine ⟨trivial, ?_⟩
            refine (CallsIn.inRound l (callsIn_wide.2 (implSumOf_any _ _ q _ w.heap.size (show RdI Wb.drew w.heap.size _ q from HR.out) (by omega) Hci.out))).mono ?_
            rintro e w' ⟨rfl, rfl⟩
            refine hK _ _ ?_
            clear hK K
            refine wpAnyIn_ready (rs := [3]) (by kernel_rfl) (by simp) ?_
            refine AllReadyIn.cons rfl (fun K hK => ?_) ?_
            · go_simp
              refine hK _ _ ?_
              clear hK K
              refine wpAnyIn_ready (rs := [4]) (by kernel_rfl) (by simp) ?_
              refine AllReadyIn.cons rfl (fun K hK => ?_) ?_
              · refine stepIn_append_int _ _ rfl (w.heap.size + 5) R cR bo (sumL 0 q) m0 Hm0.out rfl (show OwnJ Wb.drew (w.heap.size + 5) R cR bo from Hown.out) _ rfl rfl (by omega) Hbig.out ?_
                intro R2 c2 w2 ho2 hg2
                refine hK _ _ ?_
                clear hK K
                obtain ⟨hbx, hfx, hrest⟩ := Hfin.out R2 c2 w2 ho2 hg2
                have Hrest := Lib.hid hrest
                clear hrest ho2 hg2
                refine wpAnyIn_ready (rs := [5]) (by kernel_rfl) (by simp) ?_
                refine AllReadyIn.cons rfl (fun K hK => ?_) ?_
                · go_simp
                  refine hK _ _ ?_
                  clear hK K
                  refine wpAnyIn_done (by kernel_rfl) ?_ _
                  exact Hrest.out
                exact AllReadyIn.nil
              exact AllReadyIn.nil
            exact AllReadyIn.nil
          exact AllReadyIn.nil
        refine AllReadyIn.cons rfl (fun K hK => ?_) ?_
        · go_simp
          refine ⟨trivial, ?_⟩
          refine (CallsIn.inRound l (callsIn_wide.2 (implSumOf_any _ _ q _ w.heap.size (show RdI Wb.drew w.heap.size _ q from HR.out) (by omega) Hci.out))).mono ?_
          rintro e w' ⟨rfl, rfl⟩
          refine hK _ _ ?_
          clear hK K
          refine wpAnyIn_ready (rs := [0, 3]) (by kernel_rfl) (by simp) ?_
          refine AllReadyIn.cons rfl (fun K hK => ?_) ?_
          · go_simp
            refine hK _ _ ?_
            clear hK K
            refine wpAnyIn_ready (rs := [3]) (by kernel_rfl) (by simp) ?_
            refine AllReadyIn.cons rfl (fun K hK => ?_) ?_
            · go_simp
              refine hK _ _ ?_
              clear hK K
              refine wpAnyIn_ready (rs := [4]) (by kernel_rfl) (by simp) ?_
              refine AllReadyIn.cons rfl (fun K hK => ?_) ?_
              · refine stepIn_append_int _ _ rfl (w.heap.size + 5) R cR bo (sumL 0 q) m0 Hm0.out rfl (show OwnJ Wb.drew (w.heap.size + 5) R cR bo from Hown.out) _ rfl rfl (by omega) Hbig.out ?_
                intro R2 c2 w2 ho2 hg2
                refine hK _ _ ?_
                clear hK K
                obtain ⟨hbx, hfx, hrest⟩ := Hfin.out R2 c2 w2 ho2 hg2
                have Hrest := Lib.hid hrest
                clear hrest ho2 hg2
                refine wpAnyIn_ready (rs := [5]) (by kernel_rfl) (by simp) ?_
                refine AllReadyIn.cons rfl (fun K hK => ?_) ?_
                · go_simp
                  refine hK _ _ ?_
                  clear hK K
                  refine wpAnyIn_done (by kernel_rfl) ?_ _
                  exact Hrest.out
                exact AllReadyIn.nil
              exact AllReadyIn.nil
            exact AllReadyIn.nil
          refine AllReadyIn.cons rfl (fun K hK => ?_) ?_
          · go_simp
            refine hK _ _ ?_
            clear hK K
            refine wpAnyIn_ready (rs := [0]) (by kernel_rfl) (by simp) ?_
            refine AllReadyIn.cons rfl (fun K hK => ?_) ?_
            · go_simp
              refine hK _ _ ?_
              clear hK K
              refine wpAnyIn_ready (rs := [4]) (by kernel_rfl) (by simp) ?_
              refine AllReadyIn.cons rfl (fun K hK => ?_) ?_
              · refine stepIn_append_int _ _ rfl (w.heap.size + 5) R cR bo (sumL 0 q) m0 Hm0.out rfl (show OwnJ Wb.drew (w.heap.size + 5) R cR bo from Hown.out) _ rfl rfl (by omega) Hbig.out ?_
                intro R2 c2 w2 ho2 hg2
                refine hK _ _ ?_
                clear hK K
                obtain ⟨hbx, hfx, hrest⟩ := Hfin.out R2 c2 w2 ho2 hg2
                have Hrest := Lib.hid hrest
                clear hrest ho2 hg2
                refine wpAnyIn_ready (rs := [5]) (by kernel_rfl) (by simp) ?_
                refine AllReadyIn.cons rfl (fun K hK => ?_) ?_
                · go_simp
                  refine hK _ _ ?_
                  clear hK K
                  refine wpAnyIn_done (by kernel_rfl) ?_ _
                  exact Hrest.out
                exact AllReadyIn.nil
              exact AllReadyIn.nil
            exact AllReadyIn.nil
          exact AllReadyIn.nil
        exact AllReadyIn.nil
      exact AllReadyIn.nil

    case done =>
      rintro e W' ⟨hv, i, hi, hj, hrd⟩
      refine ⟨hv, .inl ⟨hrd, fun ob hob hDo => ?_⟩⟩
      obtain ⟨R, cR, hout, hown⟩ := hj.out
      have hmin : min i a.length = a.length := by omega
      rw [hmin] at hout hown
      have hne : w.heap.size ≠ l := by omega
      have hbk : Bk (W'.putObj l ob) w.heap.size 28 [.slice R (batTo n a a.length).length cR] := (World.putObj_heap_other hne).trans hout
      have hcell := hbk.cell 0
      have Hown := Lib.hid (hown.grown (grownBy_putObj' W' l ob) (by
        cases hR : rowOf R with
        | none => exact .inl rfl
        | some q => exact .inr (fun e => by have := hown.row_lt q hR; injection e with e; omega)))
      have Hb := Lib.hid (hj.below.grown (grownBy_putObj' W' l ob) hj.below.size (fun k e => by injection e with e; omega))
      have Hdo := Lib.hid hDo
      obtain ⟨W2, hW2⟩ : ∃ W2, W'.putObj l ob = W2 := ⟨_, rfl⟩
      rw [hW2] at hcell Hown Hb Hdo ⊢
      have HD := Lib.hid hD
      simp only [List.getElem?_cons_zero] at hcell
      clear hout hown hj hrd hDo hl hW2 hbk hz1 hD hne hmin HY HS hb1 hr1 hkind hb0 k0 k1 k2
      gi_wp2
      refine ⟨by simp, .inl ⟨_, _, rfl, run_takeDeferred Hdo.out, ?_⟩⟩
      refine ⟨_, results_tmp rfl _ _ _, R, cR, rfl, ?_, ?_⟩
      · have h1 := Hown.out.grown (grownBy_putObj' W2 D (.deferred none)) (by
          cases hR : rowOf R with
          | none => exact .inl rfl
          | some q => exact .inr (fun e => by have := Hown.out.row_lt q hR; have := HD.out; injection e with e; omega))
        have h2 := h1.ownV
        exact h2.base_ (by omega)
      · exact Hb.out.grown (grownBy_putObj' W2 D (.deferred none)) Hb.out.size (fun k e => by have := HD.out; injection e with e; omega)

end Go.Proofs.Ytnmekcifbmcdpaa

/- Slices of slices of numbers that a call made: kept, read and marked. -/
namespace Go.Proofs.Ytnmekcifbmcdpaa
open Go.RowKit

/-- Rows in memory of a call's own, blocks lo to hi. -/
def OwnS (w : World) (lo hi : Nat) (A : Option Addr) (rows : List (List Int)) : Prop :=
  ∃ g gs, A = some ⟨g, 0, none⟩ ∧ OwnR w 28 3 lo g gs rows ∧ g < hi ∧ ∀ x ∈ gs, x < hi

section
variable {w w' : World} {lo hi : Nat} {A : Option Addr} {rows : List (List Int)}
theorem OwnS.of {g : Nat} (h : ∃ gs, OwnR w 28 3 lo g gs rows) : OwnS w lo w.heap.size (some ⟨g, 0, none⟩) rows := by
  obtain ⟨gs, h⟩ := h
  exact ⟨g, gs, rfl, h, h.top.lt, h.lt_⟩
theorem OwnS.agree (h : OwnS w lo hi A rows) (hag : ∀ b, lo ≤ b → b < hi → w'.heap[b]? = w.heap[b]?) : OwnS w' lo hi A rows := by
  obtain ⟨g, gs, rfl, h, hg, hx⟩ := h
  refine ⟨g, gs, rfl, ⟨h.base_, h.len, h.up, h.asc, (hag g h.base_ hg).trans h.top, fun j x r hj hr => ?_⟩, hg, hx⟩
  have hm := List.mem_of_getElem? hj
  exact (hag x (by have := h.up x hm; have := h.base_; omega) (hx x hm)).trans (h.row j x r hj hr)
theorem OwnS.held (h : OwnS w lo hi A rows) (h1 : lo ≤ hi) (h2 : hi ≤ w.heap.size) : Held w lo hi (fun v => OwnS v lo hi A rows) := ⟨h1, h2, fun _ _ hag => h.agree hag⟩
theorem OwnS.rdt (h : OwnS w lo hi A rows) (_ : hi ≤ w.heap.size) : RdR w w.heap.size A rows := by
  obtain ⟨g, gs, rfl, h, _, _⟩ := h
  exact h.rd (Nat.le_refl _)
end

theorem bulk_len (rows : List (List Int)) : rows.length ≤ bulk rows := Nat.le_add_right _ _
theorem bulk_row {rows : List (List Int)} {r : List Int} (h : r ∈ rows) : r.length ≤ bulk rows := Nat.le_trans (len_le_bulk h) (Nat.le_add_left _ _)

/-- The rows are there, whatever numbers they hold. -/
structure Rowed (w : World) (g : Nat) (gs : List Nat) (rows : List (List Int)) : Prop where
  top : Bk w g 28 (List.zipWith (fun x (r : List Int) => Value.slice (some ⟨x, 0, none⟩) r.length r.length) gs rows)
  row : ∀ (j x : Nat) (r : List Int), gs[j]? = some x → rows[j]? = some r → ∃ r' : List Int, r'.length = r.length ∧ OwnI w x (x + 1) (some ⟨x, 0, none⟩) r'

set_option maxHeartbeats 1600000 in
theorem markIntSS_h {lo hi : Nat} {A : Option Addr} {c : Nat} {rows : List (List Int)} {w : World} (k : Int) (h : OwnS w lo hi A rows) (hn : rows.length ≤ 1048576) (hm : ∀ r ∈ rows, r.length ≤ 1048576) (hbk : bulk rows ≤ 1048576) (hk0 : 0 ≤ k) (hk1 : k ≤ 14680064) :
    Calls Try.prog 24 #[.slice A rows.length c, .int .i64 k] w fun e w' => e = .returned (.int .i64 (k + ((rows.map List.length).sum : Nat))) ∧ Chg lo hi w w' := by
  obtain ⟨g, gs, rfl, h, hg, hx⟩ := h
  have hR : Rowed w g gs rows := ⟨h.top, fun j x r hj hr => ⟨r, rfl, (h.row j x r hj hr).ownI (Nat.le_refl _) (Nat.lt_succ_self _)⟩⟩
  have hsum : (rows.map List.length).sum ≤ 1048576 := by unfold bulk at hbk; omega
  have HR := Lib.hid hR
  have Hh := Lib.hid h
  have Hx := Lib.hid hx
  have Hm := Lib.hid hm
  clear h hR hx hm
  go_enter Try.func24, Try.ntmps24
  go_wp2
  go_loopw [1, 5] (fun s i wr => ∃ j : Nat, j ≤ rows.length ∧ i = .int .i64 j ∧ (∃ m : Int, m = k + (((rows.take j).map List.length).sum : Nat) ∧ s = .int .i64 m) ∧ Rowed wr g gs rows ∧ Chg lo hi w wr) (fun _ i _ => rows.length - (intOf i).toNat)
  case atStart => exact ⟨0, Nat.zero_le _, rfl, ⟨k, by simp, rfl⟩, HR.out, Chg.refl _ _ _⟩
  case round =>
    obtain ⟨j, hj, rfl, ⟨m, hmm, rfl⟩, hR, hc⟩ := hrel
    have hle := sum_take_le rows j
    have hm0 : 0 ≤ m := by omega
    have hm1 : m ≤ 16777216 := by omega
    by_cases hlt : j < rows.length
    · obtain ⟨r, hr⟩ := get_of_lt rows hlt
      obtain ⟨x, hgx⟩ := get_of_lt gs (k := j) (by rw [Hh.out.len]; exact hlt)
      obtain ⟨r', hrl, hown⟩ := hR.row j x r hgx hr
      have htop : wr.cell? ⟨g, j, none⟩ = some (.slice (some ⟨x, 0, none⟩) r.length r.length) := by rw [hR.top.cell, List.getElem?_zipWith, hgx, hr]
      have hrn : r.length ≤ 1048576 := Hm.out r (List.mem_of_getElem? hr)
      have hsucc := sum_take_succ hr
      have HC := Lib.hid (markIntS_h (c := r.length) m hown (by rw [hrl]; exact hrn) hm0 hm1)
      rw [hrl] at HC
      have Hr := Lib.hid hr
      have Hgx := Lib.hid hgx
      have HR2 := Lib.hid hR
      have Hc := Lib.hid hc
      have Hmm := Lib.hid hmm
      have Hsu := Lib.hid hsucc
      have Hrl := Lib.hid hrl
      clear hr hgx hR hc hmm hown hsucc hrl
      go_wp2_with (go_at_call 25; refine HC.out.mono ?_; rintro e w1 ⟨rfl, ho1, hc1⟩; have Ho1 := Lib.hid ho1; have Hc1 := Lib.hid hc1; clear ho1 hc1)
      go_roundw
      case rel =>
        have hxg : g < x := Hh.out.up x (List.mem_of_getElem? Hgx.out)
        have hxl : lo ≤ x := by have := Hh.out.base_; omega
        have hxh : x < hi := Hx.out x (List.mem_of_getElem? Hgx.out)
        refine ⟨j + 1, by omega, by go_num, ⟨_, by rw [Hmm.out, Hsu.out]; omega, rfl⟩, ⟨?_, fun i y q hi hq => ?_⟩, Hc.out.trans (Hc1.out.wide hxl (by omega))⟩
        · exact (Hc1.out.block g HR2.out.top.lt (by omega)).trans HR2.out.top
        · by_cases e : i = j
          · subst e
            obtain rfl := Option.some.inj (Hgx.out.symm.trans hi)
            obtain rfl := Option.some.inj (Hr.out.symm.trans hq)
            exact ⟨mkI r'.length m, by rw [mkI_len]; exact Hrl.out, by rw [Hrl.out]; exact Ho1.out⟩
          · obtain ⟨q', hql, hqo⟩ := HR2.out.row i y q hi hq
            refine ⟨q', hql, fun hpos => ?_⟩
            obtain ⟨gg, oo, cs, hA, h1, h2, hb, hcc⟩ := hqo hpos
            have hne : y ≠ x := by
              intro e2
              subst e2
              have hil : i < gs.length := (List.getElem?_eq_some_iff.1 hi).1
              have hjl : j < gs.length := (List.getElem?_eq_some_iff.1 Hgx.out).1
              have hp := List.pairwise_iff_getElem.1 Hh.out.asc
              have e3 : gs[i] = y := (List.getElem?_eq_some_iff.1 hi).2
              have e4 : gs[j] = y := (List.getElem?_eq_some_iff.1 Hgx.out).2
              rcases Nat.lt_or_gt_of_ne e with h | h
              · have := hp i j hil hjl h; omega
              · have := hp j i hjl hil h; omega
            exact ⟨gg, oo, cs, hA, h1, h2, (Hc1.out.block gg hb.lt (by omega)).trans hb, hcc⟩
      case measure => simp [intOf]; omega
    · obtain rfl : j = rows.length := by omega
      have Hc := Lib.hid hc
      have Hmm := Lib.hid hmm
      clear hR hc hmm
      go_wp2
      go_ret
      exact ⟨ret_int (by rw [Hmm.out, List.take_length]), Hc.out⟩

end Go.Proofs.Ytnmekcifbmcdpaa

/- Arguments that came in, opened: a slice of nodes, and a pipe, read as a list of nodes. -/
namespace Go.Proofs.Ytnmekcifbmcdpaa
open Go.ChangeShapes Go.WideShapes Go.ChangeAt Go.RowKit Go.Deep

section
variable {H : Type} {enc : TypeId × Value → H} {P : Program} {W : World}
theorem five_cells {e q : TypeId} {fs : Array Field} {fuel : Nat} {cs : List Value} {x : DataW H × List MemPlace} (he : P.underlying e = some (.struct fs)) (h5 : fs.size = 5) (hone : oneCellFields P fs = true) (hall : fs.all (fun f => f.type == q) = true)
    (hq : P.underlying q = some (.int .i64)) (ce : P.cellsOf e = 5) (h : DataW.trod enc P W 0 (fun _ => true) true fuel e cs = some x) :
    ∃ k a b n m : Int, cs = [.int .i64 k, .int .i64 a, .int .i64 b, .int .i64 n, .int .i64 m] := by
  obtain ⟨xs, n, _, _, hl, hxl, hf⟩ := DataW.trod_struct he h
  rw [ce] at hl
  have one : ∀ j, j < 5 → ∃ v : Int, cs[j]? = some (.int .i64 v) := fun j hj => by
    have hjf : fs[j]? = some (fs[j]'(by omega)) := Array.getElem?_eq_getElem (by omega)
    obtain ⟨ho, hk⟩ := hone_of hone j _ hjf
    have ht : (fs[j]'(by omega)).type = q := by
      have := Array.all_eq_true.1 hall j (by omega)
      simpa using this
    have h1 := hf j _ hjf
    rw [ho, hk, ht] at h1
    have hx : xs[j]? = some (xs[j]'(by omega)) := List.getElem?_eq_getElem (by omega)
    rw [hx] at h1
    obtain ⟨v, hv, _, _⟩ := DataW.trod_int hq h1
    refine ⟨v, ?_⟩
    have : ((cs.drop j).take 1)[0]? = some (.int .i64 v) := by rw [hv]; rfl
    simpa using this
  obtain ⟨k, h0⟩ := one 0 (by omega)
  obtain ⟨a, h1⟩ := one 1 (by omega)
  obtain ⟨b, h2⟩ := one 2 (by omega)
  obtain ⟨n', h3⟩ := one 3 (by omega)
  obtain ⟨m, h4⟩ := one 4 (by omega)
  refine ⟨k, a, b, n', m, ?_⟩
  apply List.ext_getElem?
  intro i
  match i with
  | 0 => rw [h0]; rfl
  | 1 => rw [h1]; rfl
  | 2 => rw [h2]; rfl
  | 3 => rw [h3]; rfl
  | 4 => rw [h4]; rfl
  | i + 5 => rw [List.getElem?_eq_none (by omega), List.getElem?_eq_none (by simp)]

theorem open_nodes {t e q : TypeId} {fs : Array Field} {A : Option Addr} {len cap fuel : Nat} {x : DataW H × List MemPlace} (ht : P.underlying t = some (.slice e)) (he : P.underlying e = some (.struct fs)) (h5 : fs.size = 5) (hone : oneCellFields P fs = true)
    (hall : fs.all (fun f => f.type == q) = true) (hq : P.underlying q = some (.int .i64)) (ce : P.cellsOf e = 5) (h : DataW.trod enc P W 0 (fun _ => true) true fuel t [.slice A len cap] = some x) :
    ∃ l : List Nd, l.length = len ∧ len ≤ maxLen ∧ RdN W W.heap.size A l := by
  rcases open_slice ht h with ⟨hcs, _⟩ | ⟨a, l, c, m, n, D, Pl, hcs, _, hl, hm, hmm, _, hr⟩
  · simp at hcs
    obtain ⟨rfl, rfl, rfl⟩ := hcs
    exact ⟨[], rfl, Nat.zero_le _, fun h => absurd h (by simp)⟩
  · simp at hcs
    obtain ⟨rfl, rfl, rfl⟩ := hcs
    simp only [if_true] at hmm
    subst hmm
    have each : ∀ i, i < len → ∃ x : Nd, W.cell? (a.add (i * 5)) = some (.int .i64 x.k) ∧ W.cell? ((a.add (i * 5)).add 1) = some (.int .i64 x.a) ∧ W.cell? ((a.add (i * 5)).add 2) = some (.int .i64 x.b) ∧
        W.cell? ((a.add (i * 5)).add 3) = some (.int .i64 x.n) ∧ W.cell? ((a.add (i * 5)).add 4) = some (.int .i64 x.m) := fun i hi => by
      obtain ⟨cs', hc, htr⟩ := hr i (by omega)
      rw [ce] at hc
      obtain ⟨k, a', b, n', m', rfl⟩ := five_cells he h5 hone hall hq ce htr
      obtain ⟨_, _, hat⟩ := World.cells?_some hc
      exact ⟨⟨k, a', b, n', m'⟩, by simpa [Addr.add] using hat 0 (by omega), by simpa using hat 1 (by omega), by simpa using hat 2 (by omega), by simpa using hat 3 (by omega), by simpa using hat 4 (by omega)⟩
    have : Inhabited Nd := ⟨⟨0, 0, 0, 0, 0⟩⟩
    obtain ⟨f, hf⟩ := choose_lt each
    refine ⟨(List.range len).map f, by simp, by omega, fun hn => ?_⟩
    simp at hn
    have h00 := (hf 0 hn).1
    have hsp := World.cell?_spot h00
    have hbl := World.block_lt_of_cell? _ _ h00
    obtain ⟨b, o, s⟩ := a
    have hs : s = none := by simpa [Addr.add] using hsp
    subst hs
    refine ⟨b, o, rfl, by simpa [Addr.add] using hbl, fun k x hk => ?_⟩
    have hkl : k < len := by simpa using (List.getElem?_eq_some_iff.1 hk).1
    simp [hkl] at hk
    subst hk
    obtain ⟨c0, c1, c2, c3, c4⟩ := hf k hkl
    have e : ∀ j, (⟨b, o, none⟩ : Addr).add j = ⟨b, o + j, none⟩ := fun j => by
      unfold Addr.add
      split
      · rename_i h; subst h; rfl
      · rfl
    rw [e] at c0 c1 c2 c3 c4
    have e2 : ∀ j, (⟨b, o + k * 5, none⟩ : Addr).add j = ⟨b, o + k * 5 + j, none⟩ := fun j => by
      unfold Addr.add
      split
      · rename_i h; subst h; rfl
      · rfl
    rw [e2] at c1 c2 c3 c4
    exact ⟨c0, c1, c2, c3, c4⟩

theorem open_pipe {r : Reach} {b0 : Nat} {tp t e q : TypeId} {f0 : Field} {fs : Array Field} {v : Value} {d : DataW H} {p : List MemPlace} (hp : P.underlying tp = some (.struct #[f0])) (ho : oneCellFields P #[f0] = true) (hft : f0.type = t) (hc : P.cellsOf tp = 1)
    (ht : P.underlying t = some (.slice e)) (he : P.underlying e = some (.struct fs)) (h5 : fs.size = 5) (hone : oneCellFields P fs = true)
    (hall : fs.all (fun f => f.type == q) = true) (hq : P.underlying q = some (.int .i64)) (ce : P.cellsOf e = 5) (hval : Value.okWide P W r b0 tp v) (h : DataW.Trod enc P W 0 (fun _ => true) true tp v d p) :
    ∃ (A : Option Addr) (len cap : Nat) (l : List Nd), v = .agg #[.slice A len cap] ∧ l.length = len ∧ len ≤ maxLen ∧ RdN W W.heap.size A l := by
  obtain ⟨cs, rfl, hsz⟩ := okWide_struct hp hval
  rw [hc] at hsz
  obtain ⟨c0, rfl⟩ : ∃ c0, cs = #[c0] := by
    obtain ⟨m⟩ := cs
    match m, hsz with
    | [c0], _ => exact ⟨c0, rfl⟩
  obtain ⟨fuel, hf⟩ := h
  obtain ⟨xs, n, _, _, _, hxl, hg⟩ := DataW.trod_struct hp hf
  obtain ⟨o0, k0⟩ := hone_of ho 0 f0 rfl
  have h1 := hg 0 f0 rfl
  rw [hft] at h1 k0
  simp [Value.cells, o0, k0] at h1
  have hx : xs[0]? = some (xs[0]'(by simp [hxl])) := List.getElem?_eq_getElem _
  rw [hx] at h1
  rcases open_slice ht h1 with ⟨hcs, _⟩ | ⟨a, l, c, _, _, _, _, hcs, _⟩
  · simp at hcs
    subst hcs
    obtain ⟨l, h2, h3, h4⟩ := open_nodes ht he h5 hone hall hq ce h1
    exact ⟨_, _, _, l, rfl, h2, h3, h4⟩
  · simp at hcs
    subst hcs
    obtain ⟨l, h2, h3, h4⟩ := open_nodes ht he h5 hone hall hq ce h1
    exact ⟨_, _, _, l, rfl, h2, h3, h4⟩
end

end Go.Proofs.Ytnmekcifbmcdpaa

/- Arguments that came in, opened: a slice of slices of numbers reads as rows. -/
namespace Go.Proofs.Ytnmekcifbmcdpaa
open Go.ChangeShapes Go.WideShapes Go.ChangeAt Go.RowKit Go.Deep

section
variable {H : Type} {enc : TypeId × Value → H} {P : Program} {W : World}
theorem open_rows {t e q : TypeId} {A : Option Addr} {len cap : Nat} {d : DataW H} {p : List MemPlace} (ht : P.underlying t = some (.slice e)) (he : P.underlying e = some (.slice q)) (hq : P.underlying q = some (.int .i64)) (ce : P.cellsOf e = 1) (cq : P.cellsOf q = 1)
    (h0 : DataW.Trod enc P W 0 (fun _ => true) true t (.slice A len cap) d p) :
    ∃ rows : List (List Int), rows.length = len ∧ len ≤ maxLen ∧ (∀ r ∈ rows, r.length ≤ maxLen) ∧ RdR W W.heap.size A rows := by
  obtain ⟨fuel, hf⟩ := h0
  rcases open_int_rows ht he hq ce cq hf with ⟨hcs, _⟩ | ⟨a, l, c, Ad, L, C, Z, hcs, _, hl, hm, _, hr⟩
  · simp [Value.cells] at hcs
    obtain ⟨rfl, rfl, rfl⟩ := hcs
    exact ⟨[], rfl, Nat.zero_le _, fun _ h => absurd h (by simp), fun h => absurd h (by simp)⟩
  · simp [Value.cells] at hcs
    obtain ⟨rfl, rfl, rfl⟩ := hcs
    refine ⟨(List.range len).map fun r => (Z r).take (L r), by simp, by omega, fun r h => ?_, fun hn => ?_⟩
    · obtain ⟨i, hi, rfl⟩ := List.mem_map.1 h
      obtain ⟨_, h1, h2, h3, _⟩ := hr i (by have := List.mem_range.1 hi; omega)
      simp; omega
    · simp at hn
      have h00 := (hr 0 (by omega)).1
      refine ⟨a, rfl, by have := World.block_lt_of_cell? _ _ h00; rwa [add_block] at this, fun k r hk => ?_⟩
      have hkl : k < len := by simpa using (List.getElem?_eq_some_iff.1 hk).1
      simp [hkl] at hk
      subst hk
      obtain ⟨h1, h2, _, h4, _, _, h7⟩ := hr k (by omega)
      have e : ((Z k).take (L k)).length = L k := by simp; omega
      refine ⟨Ad k, C k, by rw [e]; exact h1, fun hn2 => ?_⟩
      rw [e] at hn2
      cases hA : Ad k with
      | none => have := (hr k (by omega)).2.2.2.2.2.1 hA; omega
      | some a' =>
        obtain ⟨_, hcell⟩ := h7 a' hA
        refine ⟨a', rfl, by have := World.block_lt_of_cell? _ _ (hcell 0 (by omega)); rwa [add_block] at this, fun j x hj => ?_⟩
        have hjl : j < L k := by have := (List.getElem?_eq_some_iff.1 hj).1; omega
        rw [hcell j (by omega)]
        rw [List.getElem?_take_of_lt hjl] at hj
        simp [List.getD, hj]
end

end Go.Proofs.Ytnmekcifbmcdpaa
