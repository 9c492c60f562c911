/- Texts on the program and its reference, put together (LiD, LiE, LiF, LiG, LiH, LsI). -/
import Derived.Test.YtkjhncohanfciaaMc5I
import Derived.Test.YtkjhncohanfciaaMc5J
import Derived.Lib.AppendZerosOnto
import Derived.Deep.QuietTactic
import Derived.BigQuiet
import Derived.Deep.RegionHeld3
import Derived.Test.YtkjhncohanfciaaMc5B
/- Contracts: lists out of lists, by the program (at equal places). -/
namespace Go.Proofs.Ytkjhncohanfciaa
open Go.RowKit
set_option maxRecDepth 100000 in
set_option maxHeartbeats 3200000 in
theorem implZipped_any (A : Option Addr) (c : Nat) (a : List Int) (A2 : Option Addr) (c2 : Nat) (b : List Int) (w : World) (B : Nat) (ha : RdI w B A a) (hb : RdI w B A2 b) (hB : B ≤ w.heap.size) (hn : a.length ≤ 65536) (hn2 : b.length ≤ 65536) (ia : Items a) (ib : Items b) :
    Calls Try.prog 89 #[.slice A a.length c, .slice A2 b.length c2] w fun e w' => ∃ R cR, e = .returned (.slice R (zipL a b).length cR) ∧ OwnJ w' w.heap.size R cR (zipL a b) ∧ Below w.heap.size w w' := by
  have Ha := Lib.hid ha
  have Hb := Lib.hid hb
  have Ia := Lib.hid ia
  have Ib := Lib.hid ib
  have hzl := zipL_len a b
  clear ha hb ia ib
  go_enter Try.func89, Try.ntmps89
  by_cases hab : b.length < a.length
  · have hmin : min (a.length : Int) (b.length : Int) = (b.length : Nat) := by omega
    go_wp2_with fail
    go_loopw [5, 12] (fun sl i wr => ∃ j : Nat, j ≤ b.length ∧ i = .int .i64 j ∧ (∃ R cR, sl = .slice R j cR ∧ OwnJ wr w.heap.size R cR ((zipL a b).take j)) ∧ Below w.heap.size w wr) (fun _ i _ => b.length - (intOf i).toNat)
    case atStart => exact ⟨0, Nat.zero_le _, rfl, ⟨none, 0, rfl, OwnJ.nil_ _ _⟩, Below.refl _ _⟩
    case round =>
      obtain ⟨j, hj, rfl, ⟨R, cR, rfl, ho⟩, hb⟩ := hrel
      have hz := hb.size
      have Ho := Lib.hid ho
      have Hbw := Lib.hid hb
      have Ha2 := Lib.hid (Ha.out.below hb hB)
      have Hb2 := Lib.hid (Hb.out.below hb hB)
      clear ho hb
      by_cases h0 : j < b.length
      · have h1 : j < a.length := by omega
        have h2 : j < b.length := by omega
        obtain ⟨ad, x, rfl, hx, hc⟩ := Ha2.out.at_ h1
        obtain ⟨ad2, y, rfl, hy, hc2⟩ := Hb2.out.at_ h2
        have hxi := Ia.out.get hx
        have hyi := Ib.out.get hy
        have hwr : IntKind.i64.wrap (x + y) = x + y := IntWalk.i64_in _ (by omega)
        have Hzg := Lib.hid (zipL_get hx hy)
        have Hx := Lib.hid hx
        have Hy := Lib.hid hy
        clear hx hy
        go_wp2_with fail
        have Ho' : Hid (OwnJ wr.drew w.heap.size R cR ((zipL a b).take j)) := Lib.hid Ho.out
        have hl2 : ((zipL a b).take j).length = j := by rw [List.length_take]; omega
        go_region_held3 (fun w' => w'.cell? (ad.add j) = some (.int .i64 x) ∧ w'.cell? (ad2.add j) = some (.int .i64 y)) (go_keep)
          (first
            | (
              refine step_append_int rfl _ _ rfl w.heap.size R cR ((zipL a b).take j) (rst (x + y)) j hl2 rfl Ho'.out _ rfl rfl (by omega) (by first | omega | (simp; omega)) ?_
              intro R2 c2' w2 ho2 hg2
              have hbb := (Hbw.out.drew.alloc hz _).grown hg2 (by simp; omega) (fun g hg => (Ho.out.row_lt g hg).1)
              have ks := And.intro ((Ha.out.below hbb hB).val Hx.out) ((Hb.out.below hbb hB).val Hy.out)
              have Hbb := Lib.hid hbb
              have Ho2 := Lib.hid ho2
              clear ho2 hg2 hbb)
            | (
              go_at_call 94
              refine (implRest_any (x + y) _ (by omega)).mono ?_
              rintro e w1 ⟨rfl, rfl⟩))
        all_goals
          go_wp2_with fail
          go_roundw
          case rel =>
            exact ⟨j + 1, by omega, by go_num, ⟨R2, c2', rfl, by rw [take_succ_of Hzg.out]; exact Ho2.out⟩, Hbb.out⟩
          case measure => simp [intOf]; omega
      · have hjm : j = b.length := by omega
        have HO := Ho.out
        rw [List.take_of_length_le (by omega)] at HO
        have HO := Lib.hid HO
        go_wp2_with fail
        go_ret
        exact ⟨R, cR, ret_slice (by omega), HO.out, Hbw.out⟩
  · have hmin : min (a.length : Int) (b.length : Int) = (a.length : Nat) := by omega
    go_wp2_with fail
    go_loopw [5, 12] (fun sl i wr => ∃ j : Nat, j ≤ a.length ∧ i = .int .i64 j ∧ (∃ R cR, sl = .slice R j cR ∧ OwnJ wr w.heap.size R cR ((zipL a b).take j)) ∧ Below w.heap.size w wr) (fun _ i _ => a.length - (intOf i).toNat)
    case atStart => exact ⟨0, Nat.zero_le _, rfl, ⟨none, 0, rfl, OwnJ.nil_ _ _⟩, Below.refl _ _⟩
    case round =>
      obtain ⟨j, hj, rfl, ⟨R, cR, rfl, ho⟩, hb⟩ := hrel
      have hz := hb.size
      have Ho := Lib.hid ho
      have Hbw := Lib.hid hb
      have Ha2 := Lib.hid (Ha.out.below hb hB)
      have Hb2 := Lib.hid (Hb.out.below hb hB)
      clear ho hb
      by_cases h0 : j < a.length
      · have h1 : j < a.length := by omega
        have h2 : j < b.length := by omega
        obtain ⟨ad, x, rfl, hx, hc⟩ := Ha2.out.at_ h1
        obtain ⟨ad2, y, rfl, hy, hc2⟩ := Hb2.out.at_ h2
        have hxi := Ia.out.get hx
        have hyi := Ib.out.get hy
        have hwr : IntKind.i64.wrap (x + y) = x + y := IntWalk.i64_in _ (by omega)
        have Hzg := Lib.hid (zipL_get hx hy)
        have Hx := Lib.hid hx
        have Hy := Lib.hid hy
        clear hx hy
        go_wp2_with fail
        have Ho' : Hid (OwnJ wr.drew w.heap.size R cR ((zipL a b).take j)) := Lib.hid Ho.out
        have hl2 : ((zipL a b).take j).length = j := by rw [List.length_take]; omega
        go_region_held3 (fun w' => w'.cell? (ad.add j) = some (.int .i64 x) ∧ w'.cell? (ad2.add j) = some (.int .i64 y)) (go_keep)
          (first
            | (
              refine step_append_int rfl _ _ rfl w.heap.size R cR ((zipL a b).take j) (rst (x + y)) j hl2 rfl Ho'.out _ rfl rfl (by omega) (by first | omega | (simp; omega)) ?_
              intro R2 c2' w2 ho2 hg2
              have hbb := (Hbw.out.drew.alloc hz _).grown hg2 (by simp; omega) (fun g hg => (Ho.out.row_lt g hg).1)
              have ks := And.intro ((Ha.out.below hbb hB).val Hx.out) ((Hb.out.below hbb hB).val Hy.out)
              have Hbb := Lib.hid hbb
              have Ho2 := Lib.hid ho2
              clear ho2 hg2 hbb)
            | (
              go_at_call 94
              refine (implRest_any (x + y) _ (by omega)).mono ?_
              rintro e w1 ⟨rfl, rfl⟩))
        all_goals
          go_wp2_with fail
          go_roundw
          case rel =>
            exact ⟨j + 1, by omega, by go_num, ⟨R2, c2', rfl, by rw [take_succ_of Hzg.out]; exact Ho2.out⟩, Hbb.out⟩
          case measure => simp [intOf]; omega
      · have hjm : j = a.length := by omega
        have HO := Ho.out
        rw [List.take_of_length_le (by omega)] at HO
        have HO := Lib.hid HO
        go_wp2_with fail
        go_ret
        exact ⟨R, cR, ret_slice (by omega), HO.out, Hbw.out⟩

end Go.Proofs.Ytkjhncohanfciaa

/- Contracts: slices put one behind the other (the library's function; what Grow gives is asked of it). -/
namespace Go.Proofs.Ytkjhncohanfciaa
open Go.RowKit

/-- What is asked of the library's Grow at a slice that is not there. -/
def GrowOk : Prop := ∀ (W : World) (n : Nat), n ≤ 1048576 → Calls Try.prog 97 #[.slice none 0 0, .int .i64 n] W fun e w' => ∃ R c, e = .returned (.slice R 0 c) ∧ OwnV w' W.heap.size R c [] ∧ Below W.heap.size W w'

theorem flat_succ {rows : List (List Int)} {k : Nat} {r : List Int} (h : rows[k]? = some r) : (rows.take (k + 1)).flatten = (rows.take k).flatten ++ r := by
  rw [take_succ_of h, List.flatten_append]; simp

set_option maxRecDepth 100000 in
set_option maxHeartbeats 3200000 in
theorem concat_any (hG : GrowOk) (A : Option Addr) (c : Nat) (rows : List (List Int)) (w : World) (B : Nat) (h : RdR w B A rows) (hB : B ≤ w.heap.size) (hn : rows.length ≤ 1048576) (hsz : (rows.map List.length).sum ≤ 1048576) :
    Calls Try.prog 88 #[.slice A rows.length c] w fun e w' => ∃ R cR, e = .returned (.slice R rows.flatten.length cR) ∧ OwnV w' w.heap.size R cR rows.flatten ∧ Below w.heap.size w w' := by
  have H := Lib.hid h
  have HG := Lib.hid hG
  have Hsz := Lib.hid hsz
  clear h hG hsz
  go_enter Try.func88, Try.ntmps88
  go_wp2_with fail
  go_loop [3, 11] (fun su i => ∃ j : Nat, j ≤ rows.length ∧ i = .int .i64 j ∧ su = .int .i64 (((rows.take j).map List.length).sum : Nat)) (fun _ i => rows.length - (intOf i).toNat)
  case atStart => exact ⟨0, Nat.zero_le _, rfl, rfl⟩
  case round =>
    obtain ⟨j, hj, rfl, rfl⟩ := hrel
    have hle := Nat.le_trans (sum_take_le rows j) Hsz.out
    by_cases hlt : j < rows.length
    · obtain ⟨ad, r, Ar, cr, rfl, hr, hc, _⟩ := H.out.at_ hlt
      have hs2 := sum_take_succ hr
      have hle2 := Nat.le_trans (sum_take_le rows (j + 1)) Hsz.out
      rw [hs2] at hle2
      have Hs2 := Lib.hid hs2
      clear hr hs2
      obtain ⟨s, hs⟩ : ∃ s, ((rows.take j).map List.length).sum = s := ⟨_, rfl⟩
      rw [hs] at hle hle2 Hs2
      rw [hs]
      clear hs
      go_wp2_with fail
      go_round
      case rel => exact ⟨j + 1, by omega, by go_num, by rw [Hs2.out]; go_num⟩
      case measure => simp [intOf]; omega
    · obtain rfl : j = rows.length := by omega
      rw [List.take_of_length_le (Nat.le_refl _)] at hle
      rw [List.take_of_length_le (Nat.le_refl _)]
      have HC := Lib.hid (HG.out w (rows.map List.length).sum Hsz.out)
      go_wp2_with fail
      refine HC.out.mono ?_
      rintro e w1 ⟨R0, c0, rfl, ho0, hb0⟩
      have Ho0 := Lib.hid ho0
      have Hb0 := Lib.hid hb0
      have hz0 := hb0.size
      clear ho0 hb0 HC
      go_wp2_with fail
      go_loopw [6, 27] (fun sl i wr => ∃ j : Nat, j ≤ rows.length ∧ i = .int .i64 j ∧ (∃ R cR, sl = .slice R (rows.take j).flatten.length cR ∧ OwnV wr w.heap.size R cR (rows.take j).flatten) ∧ Below w.heap.size w wr) (fun _ i _ => rows.length - (intOf i).toNat)
      case atStart => exact ⟨0, Nat.zero_le _, rfl, ⟨R0, c0, rfl, Ho0.out⟩, Hb0.out⟩
      case round =>
        obtain ⟨j, hj, rfl, ⟨R, cR, rfl, ho⟩, hb⟩ := hrel
        have hz := hb.size
        have hfl : (rows.take j).flatten.length ≤ 1048576 := by rw [List.length_flatten]; exact Nat.le_trans (sum_take_le rows j) Hsz.out
        have H2 := Lib.hid (H.out.below hb hB)
        have Ho := Lib.hid ho
        have Hbw := Lib.hid hb
        clear ho hb
        by_cases hlt : j < rows.length
        · obtain ⟨ad, r, Ar, cr, rfl, hr, hc, hri⟩ := H2.out.at_ hlt
          have HF := Lib.hid (flat_succ hr)
          have hfl2 : (rows.take j).flatten.length + r.length ≤ 1048576 := by
            have := Nat.le_trans (sum_take_le rows (j + 1)) Hsz.out
            rw [sum_take_succ hr] at this
            rw [List.length_flatten]
            exact this
          have Hri := Lib.hid hri
          clear hr hri
          obtain ⟨q, hq⟩ : ∃ q, (rows.take j).flatten = q := ⟨_, rfl⟩
          rw [hq] at Ho HF hfl hfl2
          rw [hq]
          clear hq
          go_wp2_with (at_builtin; go_must (refine wpList_append_ints rfl _ _ rfl w.heap.size R cR q q.length rfl rfl Ho.out Ar cr r r.length B rfl rfl Hri.out (by omega) hz ?_; intro R2 c2 w2 ho2 hg2); have Ho2 := Lib.hid ho2; have Hg2 := Lib.hid hg2; clear ho2 hg2)
          go_roundw
          case rel => exact ⟨j + 1, by omega, by go_num, ⟨R2, c2, by rw [HF.out, List.length_append], by rw [HF.out]; exact Ho2.out⟩, Hbw.out.grown Hg2.out hz (fun g hg => (Ho.out.row_lt g hg).1)⟩
          case measure => simp [intOf]; omega
        · obtain rfl : j = rows.length := by omega
          rw [List.take_of_length_le (Nat.le_refl _)] at Ho
          rw [List.take_of_length_le (Nat.le_refl _)]
          go_wp2_with fail
          go_ret
          exact ⟨R, cR, rfl, Ho.out, Hbw.out⟩

end Go.Proofs.Ytkjhncohanfciaa

/- Contracts: what the library's Grow gives at a slice that is not there. -/
namespace Go.Proofs.Ytkjhncohanfciaa
open Go.RowKit

theorem wpList_append_zeros {ops : Array Oper} {rest : List Oper} {o : Oper} {a : Act} {Q : Exit → Act → World → Prop} {w : World} (hgd : o.guard = none) (s y : Operand)
    (ho : o.op = .call { callee := .builtin .append, args := #[s, y], argTypes := #[28, 3] }) (n : Nat) (hs : a.eval s = .slice none 0 0) (hx : a.eval y = .int .i64 n) (G : Nat) (Z : Array Value)
    (hr : ∀ ty, (Builtin.append_ #[28, 3] ty #[.slice none 0 0, .int .i64 n]).run Try.prog w = .ok (.slice (some ⟨w.heap.size, 0, none⟩) n G) (w.drew.alloc (.cells Z 3)))
    (h : wpList Try.prog ops Q rest (a.put o.dst (.slice (some ⟨w.heap.size, 0, none⟩) n G)) (w.drew.alloc (.cells Z 3))) : wpList Try.prog ops Q (o :: rest) a w := by
  refine wpList_plain hgd fun K hK => ?_
  unfold Oper.wp execOp
  simp only [ho, resolve, invoke, builtin, Sem.run_bind, Sem.run_pure, Result.andThen_ok, List.map_toArray, List.map_cons, List.map_nil, hs, hx, hr]
  exact hK _ _ h

set_option maxRecDepth 100000 in
set_option maxHeartbeats 3200000 in
theorem growOk : GrowOk := fun w n hn => by
  obtain ⟨i, hi, hz0, hz1, hz2⟩ := info_parts Try.infoInt
  by_cases h0 : n = 0
  · subst h0
    clear hz2 hz1 hz0 hi
    go_enter Try.func97, Try.ntmps97
    go_wp2
    go_ret
    exact ⟨none, 0, rfl, .inl ⟨rfl, rfl, rfl⟩, Below.refl _ _⟩
  · have hpos : 0 < (n : Int) := by omega
    have hold : (Builtin.firstCells i.size 0 (.slice none 0 0)).run Try.prog w.drew = .ok (#[] : Array Value) w.drew := run_firstCells_none w.drew i.size 0 0 0
    have hrz : ∀ ty, (Builtin.append_ #[28, 3] ty #[.slice none 0 0, .int .i64 n]).run Try.prog w = .ok (.slice (some ⟨w.heap.size, 0, none⟩) n (grownCap w n 0 3)) (w.drew.alloc (.cells (Builtin.zeroCells (Value.cells (.int .i64 0)) n ++ Builtin.zeroCells (Value.cells (.int .i64 0)) (grownCap w n 0 3 - n)) 3)) := fun ty => by
      have h := Lib.run_append_grow_zeros (P := Try.prog) w 28 3 ty 3 i _ .i64 .i64 Try.underlying28 Try.underlying3 hi hz0 none 0 0 [] hold n (by omega) (by omega) (by omega) (by omega) (by rw [hz2]; omega) (by rw [hz2]; exact growslice_fits (by omega) (by omega))
      simpa using h
    have hge := grownCap_ge w n 0 3
    obtain ⟨G, hG⟩ : ∃ G, G = grownCap w n 0 3 := ⟨_, rfl⟩
    rw [← hG] at hrz hge
    obtain ⟨Z, hZ⟩ : ∃ Z, Z = Builtin.zeroCells (Value.cells (.int .i64 0)) n ++ Builtin.zeroCells (Value.cells (.int .i64 0)) (G - n) := ⟨_, rfl⟩
    have hZs : Z.size = G := by rw [hZ]; simp [size_zeroCells, Value.cells]; omega
    rw [← hZ] at hrz
    clear hG hZ hold hz2 hz1 hz0 hi
    go_enter Try.func97, Try.ntmps97
    have Hrz := Lib.hid hrz
    clear hrz
    go_wp2_with (at_builtin; go_must (refine wpList_append_zeros rfl _ _ rfl n rfl rfl G Z Hrz.out ?_))
    go_ret
    refine ⟨some ⟨w.heap.size, 0, none⟩, G, rfl, .inr ⟨w.heap.size, 0, Z.toList, rfl, Nat.le_refl _, ?_, by simp; omega, by simp, fun k x hx => by simp at hx⟩, ?_⟩
    · unfold Bk
      rw [Array.toArray_toList]
      exact heap_alloc_new w.drew _
    · exact (Below.refl _ _).drew.alloc (Nat.le_refl _) _

end Go.Proofs.Ytkjhncohanfciaa

/- Contracts: two lists merged, by the program. -/
namespace Go.Proofs.Ytkjhncohanfciaa
open Go.RowKit

/-- The length of a slice. -/
def slLen : Value → Nat
  | .slice _ n _ => n
  | _ => 0
theorem OwnV.form {w : World} {base c : Nat} {A : Option Addr} {x : Int} {l : List Int} (h : OwnV w base A c (x :: l)) : ∃ g o, A = some ⟨g, o, none⟩ ∧ w.cell? ⟨g, o, none⟩ = some (.int .i64 x) ∧ g < w.heap.size ∧ base ≤ g ∧ l.length + 1 ≤ c := by
  rcases h with ⟨_, _, h⟩ | ⟨g, o, cs, hA, hb, hbk, h1, h2, hc⟩
  · cases h
  · exact ⟨g, o, hA, by rw [hbk.cell]; exact hc 0 x rfl, hbk.lt, hb, h2⟩
theorem OwnV.cell0 {w : World} {base c g o : Nat} {x : Int} {l : List Int} (h : OwnV w base (some ⟨g, o, none⟩) c (x :: l)) : w.cell? ⟨g, o, none⟩ = some (.int .i64 x) := by
  obtain ⟨g', o', e, h2, _⟩ := h.form
  injection e with e
  injection e with e1 e2
  subst e1 e2
  exact h2
theorem OwnV.tail {w : World} {base c g o : Nat} {x : Int} {l : List Int} (h : OwnV w base (some ⟨g, o, none⟩) c (x :: l)) : OwnV w base (some ⟨g, o + 1, none⟩) (c - 1) l := h.drop 1 (by simp)
theorem OwnV.tail0 {w : World} {base g o : Nat} {x : Int} {l : List Int} (h : OwnV w base (some ⟨g, o, none⟩) 1 (x :: l)) : OwnV w base (some ⟨g, o, none⟩) 0 l := h.drop0 1 (by simp) (Nat.le_refl _)

set_option maxRecDepth 100000 in
set_option maxHeartbeats 12800000 in
theorem implMerged_any (A : Option Addr) (c : Nat) (a : List Int) (A2 : Option Addr) (c2 : Nat) (b : List Int) (w : World) (base : Nat) (ha : OwnV w base A c a) (hb : OwnV w base A2 c2 b) (hn : a.length ≤ 65536) (hn2 : b.length ≤ 65536) :
    Calls Try.prog 90 #[.slice A a.length c, .slice A2 b.length c2] w fun e w' => ∃ R cR, e = .returned (.slice R (mergeL a b).length cR) ∧ OwnV w' w.heap.size R cR (mergeL a b) ∧ Below w.heap.size w w' := by
  have Ha := Lib.hid ha
  have Hb := Lib.hid hb
  clear ha hb
  go_enter Try.func90, Try.ntmps90
  go_wp2_with fail
  go_loopw [0, 1, 5] (fun s0 s1 sl wr => ∃ (u v o : List Int), u.length ≤ 65536 ∧ v.length ≤ 65536 ∧ o.length + (u.length + v.length) ≤ 131072 ∧ (∃ Au cu, s0 = .slice Au u.length cu ∧ OwnV w base Au cu u) ∧ (∃ Av cv, s1 = .slice Av v.length cv ∧ OwnV w base Av cv v) ∧ (∃ R cR, sl = .slice R o.length cR ∧ OwnJ wr w.heap.size R cR o) ∧ mergeL a b = o ++ mergeL u v ∧ Below w.heap.size w wr) (fun s0 s1 _ _ => slLen s0 + slLen s1)
  case atStart => exact ⟨a, b, [], hn, hn2, by simp; omega, ⟨A, c, rfl, Ha.out⟩, ⟨A2, c2, rfl, Hb.out⟩, ⟨none, 0, rfl, OwnJ.nil_ _ _⟩, by simp, Below.refl _ _⟩
  case round =>
    obtain ⟨u, v, o, hu, hv, hsum, ⟨Au, cu, rfl, hou⟩, ⟨Av, cv, rfl, hov⟩, ⟨R, cR, rfl, ho⟩, hm, hb⟩ := hrel
    have hz := hb.size
    have HouW := Lib.hid hou
    have HovW := Lib.hid hov
    have Hou := Lib.hid (hou.below hb (Nat.le_refl _))
    have Hov := Lib.hid (hov.below hb (Nat.le_refl _))
    have Ho := Lib.hid ho
    have HoN : Hid (∀ n, OwnJ (wr.drewN n) w.heap.size R cR o) := Lib.hid (fun _ => ho)
    have HbN : Hid (∀ n, Below w.heap.size w (wr.drewN n)) := Lib.hid (fun n => hb.trans (((Same.refl wr).drewN n).below _))
    have Hbw := Lib.hid hb
    have Hm := Lib.hid hm
    clear hou hov ho hb hm
    cases u with
    | nil =>
      obtain ⟨W2, hW2⟩ : ∃ W2 : World, W2 = wr.alloc (.cells #[.slice R o.length cR, .slice Au 0 cu, .slice Av v.length cv] 28) := ⟨_, rfl⟩
      have hb2 : Below wr.heap.size wr W2 := by rw [hW2]; exact (Below.refl _ _).alloc (Nat.le_refl _) _
      have hbk : Bk W2 wr.heap.size 28 [.slice R o.length cR, .slice Au 0 cu, .slice Av v.length cv] := by rw [hW2]; exact Bk.new _ _ [_, _, _]
      have hz2 := hb2.size
      have hrows : RdR W2 W2.heap.size (some ⟨wr.heap.size, 0, none⟩) [o, ([] : List Int), v] := fun _ => by
        refine ⟨_, rfl, hbk.lt, fun k r hr => ?_⟩
        rw [add_zero_row, hbk.cell]
        match k, hr with
        | 0, hr => cases hr; exact ⟨R, cR, rfl, (Ho.out.ownV.below hb2 (Nat.le_refl _)).rd⟩
        | 1, hr => cases hr; exact ⟨Au, cu, rfl, (Hou.out.below hb2 (Nat.le_refl _)).rd⟩
        | 2, hr => cases hr; exact ⟨Av, cv, rfl, (Hov.out.below hb2 (Nat.le_refl _)).rd⟩
      have HC := Lib.hid (concat_any growOk (some ⟨wr.heap.size, 0, none⟩) 3 [o, ([] : List Int), v] W2 W2.heap.size hrows (Nat.le_refl _) (by simp) (by simp at hsum ⊢; omega))
      have hfl : Hid (([o, ([] : List Int), v] : List (List Int)).flatten = mergeL a b) := Lib.hid (by rw [Hm.out]; rw [nil_mergeL]; simp)
      have HW2 := Lib.hid hW2
      have Hb2 := Lib.hid (Hbw.out.trans (hb2.mono hz))
      clear hW2 hb2 hbk hrows
      go_wp2_with fail
      rw [← HW2.out]
      refine HC.out.mono ?_
      rintro e w3 ⟨R3, c3, rfl, ho3, hb3⟩
      have Ho3 := Lib.hid (ho3.base_ (Nat.le_trans hz hz2))
      have Hb3 := Lib.hid (Hb2.out.trans (hb3.mono (Nat.le_trans hz hz2)))
      clear ho3 hb3 HC
      go_wp2_with fail
      go_ret
      exact ⟨R3, c3, ret_slice (by rw [← hfl.out]; simp), by rw [← hfl.out]; exact Ho3.out, Hb3.out⟩
    | cons x u =>
      cases v with
      | nil =>
        obtain ⟨W2, hW2⟩ : ∃ W2 : World, W2 = wr.alloc (.cells #[.slice R o.length cR, .slice Au (u.length + 1) cu, .slice Av 0 cv] 28) := ⟨_, rfl⟩
        have hb2 : Below wr.heap.size wr W2 := by rw [hW2]; exact (Below.refl _ _).alloc (Nat.le_refl _) _
        have hbk : Bk W2 wr.heap.size 28 [.slice R o.length cR, .slice Au (u.length + 1) cu, .slice Av 0 cv] := by rw [hW2]; exact Bk.new _ _ [_, _, _]
        have hz2 := hb2.size
        have hrows : RdR W2 W2.heap.size (some ⟨wr.heap.size, 0, none⟩) [o, (x :: u), ([] : List Int)] := fun _ => by
          refine ⟨_, rfl, hbk.lt, fun k r hr => ?_⟩
          rw [add_zero_row, hbk.cell]
          match k, hr with
          | 0, hr => cases hr; exact ⟨R, cR, rfl, (Ho.out.ownV.below hb2 (Nat.le_refl _)).rd⟩
          | 1, hr => cases hr; exact ⟨Au, cu, rfl, (Hou.out.below hb2 (Nat.le_refl _)).rd⟩
          | 2, hr => cases hr; exact ⟨Av, cv, rfl, (Hov.out.below hb2 (Nat.le_refl _)).rd⟩
        have HC := Lib.hid (concat_any growOk (some ⟨wr.heap.size, 0, none⟩) 3 [o, (x :: u), ([] : List Int)] W2 W2.heap.size hrows (Nat.le_refl _) (by simp) (by simp at hsum ⊢; omega))
        have hfl : Hid (([o, (x :: u), ([] : List Int)] : List (List Int)).flatten = mergeL a b) := Lib.hid (by rw [Hm.out]; rw [mergeL_nil]; simp)
        have HW2 := Lib.hid hW2
        have Hb2 := Lib.hid (Hbw.out.trans (hb2.mono hz))
        clear hW2 hb2 hbk hrows
        go_wp2_with fail
        rw [← HW2.out]
        refine HC.out.mono ?_
        rintro e w3 ⟨R3, c3, rfl, ho3, hb3⟩
        have Ho3 := Lib.hid (ho3.base_ (Nat.le_trans hz hz2))
        have Hb3 := Lib.hid (Hb2.out.trans (hb3.mono (Nat.le_trans hz hz2)))
        clear ho3 hb3 HC
        go_wp2_with fail
        go_ret
        exact ⟨R3, c3, ret_slice (by rw [← hfl.out]; simp), by rw [← hfl.out]; exact Ho3.out, Hb3.out⟩
      | cons y v =>
        obtain ⟨gu, ou, rfl, hcx, hgu, hgu2, hlu⟩ := Hou.out.form
        obtain ⟨gv, ov, rfl, hcy, hgv, hgv2, hlv⟩ := Hov.out.form
        by_cases hxy : x ≤ y
        · by_cases hc1 : cu = 1
          · subst hc1
            have hq1 : (1 : Int) ≤ ((u.length + 1 : Nat) : Int) := by omega
            have hq2 : ((u.length + 1 : Nat) : Int) ≤ ((1 : Nat) : Int) := by omega
            have hq3 : (1 : Int) ≤ ((1 : Nat) : Int) := by omega
            have hq4 : (1 : Int) ≤ (u.length : Int) + 1 := by omega
            have hq5 : (u.length : Int) + 1 ≤ ((1 : Nat) : Int) := by omega
            have hq6 : 1 ≤ u.length + 1 := by omega
            have hq7 : 1 ≤ 1 := by omega
            go_wp2_with fail
            go_quiet (fail)
            go_wp2_with fail
            go_region_held3 (fun w' => w'.cell? ⟨gu, ou, none⟩ = some (.int .i64 x)) (go_keep)
              (first
                | (
                  refine step_append_int rfl _ _ rfl w.heap.size R cR o x o.length rfl rfl (HoN.out _) _ rfl rfl (by simp at hsum; omega) (by first | exact hz | (simp; omega)) ?_
                  intro R2 c2' w2 ho2 hg2
                  have hbb := ((HbN.out _).alloc (by first | exact hz | (simp; exact hz)) _).grown hg2 (by simp; omega) (fun g hg => (Ho.out.row_lt g hg).1)
                  have ks := (HouW.out.below hbb (Nat.le_refl _)).cell0
                  have Hbb := Lib.hid hbb
                  have Ho2 := Lib.hid ho2
                  clear ho2 hg2 hbb))
            all_goals
              go_wp2_with fail
              go_roundw
              case rel => exact ⟨u, y :: v, o ++ [x], by simp at hu ⊢; omega, by simp at hv ⊢; omega, by simp at hsum ⊢; omega, ⟨some ⟨gu, ou, none⟩, 0, by rw [show u.length = 0 by omega], HouW.out.tail0⟩, ⟨_, _, rfl, HovW.out⟩, ⟨R2, c2', by simp, Ho2.out⟩, by rw [Hm.out, mergeL_left hxy]; simp, Hbb.out⟩
              case measure => simp [slLen]
          · have hq1 : (1 : Int) ≤ ((u.length + 1 : Nat) : Int) := by omega
            have hq2 : ((u.length + 1 : Nat) : Int) ≤ ((cu : Nat) : Int) := by omega
            have hq3 : (1 : Int) ≤ ((cu : Nat) : Int) := by omega
            have hq4 : (1 : Int) ≤ (u.length : Int) + 1 := by omega
            have hq5 : (u.length : Int) + 1 ≤ ((cu : Nat) : Int) := by omega
            have hq6 : 1 ≤ u.length + 1 := by omega
            have hq7 : 1 ≤ cu := by omega
            go_wp2_with fail
            go_quiet (fail)
            go_wp2_with fail
            go_region_held3 (fun w' => w'.cell? ⟨gu, ou, none⟩ = some (.int .i64 x)) (go_keep)
              (first
                | (
                  refine step_append_int rfl _ _ rfl w.heap.size R cR o x o.length rfl rfl (HoN.out _) _ rfl rfl (by simp at hsum; omega) (by first | exact hz | (simp; omega)) ?_
                  intro R2 c2' w2 ho2 hg2
                  have hbb := ((HbN.out _).alloc (by first | exact hz | (simp; exact hz)) _).grown hg2 (by simp; omega) (fun g hg => (Ho.out.row_lt g hg).1)
                  have ks := (HouW.out.below hbb (Nat.le_refl _)).cell0
                  have Hbb := Lib.hid hbb
                  have Ho2 := Lib.hid ho2
                  clear ho2 hg2 hbb))
            all_goals
              go_wp2_with fail
              go_roundw
              case rel => exact ⟨u, y :: v, o ++ [x], by simp at hu ⊢; omega, by simp at hv ⊢; omega, by simp at hsum ⊢; omega, ⟨some ⟨gu, ou + 1, none⟩, cu - 1, rfl, HouW.out.tail⟩, ⟨_, _, rfl, HovW.out⟩, ⟨R2, c2', by simp, Ho2.out⟩, by rw [Hm.out, mergeL_left hxy]; simp, Hbb.out⟩
              case measure => simp [slLen]
        · by_cases hc1 : cv = 1
          · subst hc1
            have hq1 : (1 : Int) ≤ ((v.length + 1 : Nat) : Int) := by omega
            have hq2 : ((v.length + 1 : Nat) : Int) ≤ ((1 : Nat) : Int) := by omega
            have hq3 : (1 : Int) ≤ ((1 : Nat) : Int) := by omega
            have hq4 : (1 : Int) ≤ (v.length : Int) + 1 := by omega
            have hq5 : (v.length : Int) + 1 ≤ ((1 : Nat) : Int) := by omega
            have hq6 : 1 ≤ v.length + 1 := by omega
            have hq7 : 1 ≤ 1 := by omega
            go_wp2_with fail
            go_quiet (fail)
            go_wp2_with fail
            go_region_held3 (fun w' => w'.cell? ⟨gv, ov, none⟩ = some (.int .i64 y)) (go_keep)
              (first
                | (
                  refine step_append_int rfl _ _ rfl w.heap.size R cR o y o.length rfl rfl (HoN.out _) _ rfl rfl (by simp at hsum; omega) (by first | exact hz | (simp; omega)) ?_
                  intro R2 c2' w2 ho2 hg2
                  have hbb := ((HbN.out _).alloc (by first | exact hz | (simp; exact hz)) _).grown hg2 (by simp; omega) (fun g hg => (Ho.out.row_lt g hg).1)
                  have ks := (HovW.out.below hbb (Nat.le_refl _)).cell0
                  have Hbb := Lib.hid hbb
                  have Ho2 := Lib.hid ho2
                  clear ho2 hg2 hbb))
            all_goals
              go_wp2_with fail
              go_roundw
              case rel => exact ⟨x :: u, v, o ++ [y], by simp at hu ⊢; omega, by simp at hv ⊢; omega, by simp at hsum ⊢; omega, ⟨_, _, rfl, HouW.out⟩, ⟨some ⟨gv, ov, none⟩, 0, by rw [show v.length = 0 by omega], HovW.out.tail0⟩, ⟨R2, c2', by simp, Ho2.out⟩, by rw [Hm.out, mergeL_right (by omega)]; simp, Hbb.out⟩
              case measure => simp [slLen]
          · have hq1 : (1 : Int) ≤ ((v.length + 1 : Nat) : Int) := by omega
            have hq2 : ((v.length + 1 : Nat) : Int) ≤ ((cv : Nat) : Int) := by omega
            have hq3 : (1 : Int) ≤ ((cv : Nat) : Int) := by omega
            have hq4 : (1 : Int) ≤ (v.length : Int) + 1 := by omega
            have hq5 : (v.length : Int) + 1 ≤ ((cv : Nat) : Int) := by omega
            have hq6 : 1 ≤ v.length + 1 := by omega
            have hq7 : 1 ≤ cv := by omega
            go_wp2_with fail
            go_quiet (fail)
            go_wp2_with fail
            go_region_held3 (fun w' => w'.cell? ⟨gv, ov, none⟩ = some (.int .i64 y)) (go_keep)
              (first
                | (
                  refine step_append_int rfl _ _ rfl w.heap.size R cR o y o.length rfl rfl (HoN.out _) _ rfl rfl (by simp at hsum; omega) (by first | exact hz | (simp; omega)) ?_
                  intro R2 c2' w2 ho2 hg2
                  have hbb := ((HbN.out _).alloc (by first | exact hz | (simp; exact hz)) _).grown hg2 (by simp; omega) (fun g hg => (Ho.out.row_lt g hg).1)
                  have ks := (HovW.out.below hbb (Nat.le_refl _)).cell0
                  have Hbb := Lib.hid hbb
                  have Ho2 := Lib.hid ho2
                  clear ho2 hg2 hbb))
            all_goals
              go_wp2_with fail
              go_roundw
              case rel => exact ⟨x :: u, v, o ++ [y], by simp at hu ⊢; omega, by simp at hv ⊢; omega, by simp at hsum ⊢; omega, ⟨_, _, rfl, HouW.out⟩, ⟨some ⟨gv, ov + 1, none⟩, cv - 1, rfl, HovW.out.tail⟩, ⟨R2, c2', by simp, Ho2.out⟩, by rw [Hm.out, mergeL_right (by omega)]; simp, Hbb.out⟩
              case measure => simp [slLen]

end Go.Proofs.Ytkjhncohanfciaa

/- Contracts: the list of a node with two below, by the program. -/
namespace Go.Proofs.Ytkjhncohanfciaa
open Go.RowKit

set_option maxRecDepth 100000 in
set_option maxHeartbeats 3200000 in
theorem implFork_zip (A : Option Addr) (c : Nat) (a : List Int) (A2 : Option Addr) (c2 : Nat) (b z : List Int) (w : World) (base : Nat) (ha : OwnV w base A c a) (hb : OwnV w base A2 c2 b) (hn : a.length ≤ 65536) (hn2 : b.length ≤ 65536) (ia : Items a) (ib : Items b) (hF : Hid (z = zipL a b)) :
    Calls Try.prog 66 #[.int .i64 8, .slice A a.length c, .slice A2 b.length c2] w fun e w' => ∃ R cR, e = .returned (.slice R z.length cR) ∧ OwnV w' w.heap.size R cR z ∧ Below w.heap.size w w' := by
  have _u1 := hn
  have _u2 := hn2
  have _u3 := ia
  have _u4 := ib
  clear _u1 _u2 _u3 _u4
  have Ha := Lib.hid ha
  have Hb := Lib.hid hb
  have Ia := Lib.hid ia
  have Ib := Lib.hid ib
  clear ha hb ia ib
  go_enter Try.func66, Try.ntmps66
  go_wp2_with fail
  refine (implZipped_any A c a A2 c2 b w w.heap.size Ha.out.rd Hb.out.rd (Nat.le_refl _) hn hn2 Ia.out Ib.out).mono ?_
  rintro e w4 ⟨R4, c4, rfl, ho4, hb4⟩
  have Ho4 := Lib.hid ho4.ownV
  have Hb4 := Lib.hid hb4
  clear ho4 hb4
  go_wp2_with fail
  go_ret
  exact ⟨R4, c4, ret_slice (by rw [hF.out]), by rw [hF.out]; exact Ho4.out, Hb4.out⟩

set_option maxRecDepth 100000 in
set_option maxHeartbeats 3200000 in
theorem implFork_merge (A : Option Addr) (c : Nat) (a : List Int) (A2 : Option Addr) (c2 : Nat) (b z : List Int) (w : World) (base : Nat) (ha : OwnV w base A c a) (hb : OwnV w base A2 c2 b) (hn : a.length ≤ 65536) (hn2 : b.length ≤ 65536) (ia : Items a) (ib : Items b) (hF : Hid (z = mergeL a b)) :
    Calls Try.prog 66 #[.int .i64 9, .slice A a.length c, .slice A2 b.length c2] w fun e w' => ∃ R cR, e = .returned (.slice R z.length cR) ∧ OwnV w' w.heap.size R cR z ∧ Below w.heap.size w w' := by
  have _u1 := hn
  have _u2 := hn2
  have _u3 := ia
  have _u4 := ib
  clear _u1 _u2 _u3 _u4
  have Ha := Lib.hid ha
  have Hb := Lib.hid hb
  have Ia := Lib.hid ia
  have Ib := Lib.hid ib
  clear ha hb ia ib
  go_enter Try.func66, Try.ntmps66
  go_wp2_with fail
  refine (implMerged_any A c a A2 c2 b w base Ha.out Hb.out hn hn2).mono ?_
  rintro e w4 ⟨R4, c4, rfl, ho4, hb4⟩
  have Ho4 := Lib.hid ho4
  have Hb4 := Lib.hid hb4
  clear ho4 hb4
  go_wp2_with fail
  go_ret
  exact ⟨R4, c4, ret_slice (by rw [hF.out]), by rw [hF.out]; exact Ho4.out, Hb4.out⟩

set_option maxRecDepth 100000 in
set_option maxHeartbeats 3200000 in
theorem implFork_turn (A : Option Addr) (c : Nat) (a : List Int) (A2 : Option Addr) (c2 : Nat) (b z : List Int) (w : World) (base : Nat) (ha : OwnV w base A c a) (hb : OwnV w base A2 c2 b) (hn : a.length ≤ 65536) (hn2 : b.length ≤ 65536) (ia : Items a) (ib : Items b) (hF : Hid (z = turnL a b)) :
    Calls Try.prog 66 #[.int .i64 10, .slice A a.length c, .slice A2 b.length c2] w fun e w' => ∃ R cR, e = .returned (.slice R z.length cR) ∧ OwnV w' w.heap.size R cR z ∧ Below w.heap.size w w' := by
  have _u1 := hn
  have _u2 := hn2
  have _u3 := ia
  have _u4 := ib
  clear _u1 _u2 _u3 _u4
  have Ha := Lib.hid ha
  have Hb := Lib.hid hb
  have Ia := Lib.hid ia
  have Ib := Lib.hid ib
  clear ha hb ia ib
  go_enter Try.func66, Try.ntmps66
  go_wp2_with fail
  refine (implTurned_any A c a A2 c2 b w w.heap.size Ha.out.rd Hb.out.rd (Nat.le_refl _) hn hn2).mono ?_
  rintro e w4 ⟨R4, c4, rfl, ho4, hb4⟩
  have Ho4 := Lib.hid ho4.ownV
  have Hb4 := Lib.hid hb4
  clear ho4 hb4
  go_wp2_with fail
  go_ret
  exact ⟨R4, c4, ret_slice (by rw [hF.out]), by rw [hF.out]; exact Ho4.out, Hb4.out⟩

set_option maxRecDepth 100000 in
set_option maxHeartbeats 3200000 in
theorem implFork_chain (A : Option Addr) (c : Nat) (a : List Int) (A2 : Option Addr) (c2 : Nat) (b z : List Int) (w : World) (base : Nat) (ha : OwnV w base A c a) (hb : OwnV w base A2 c2 b) (hn : a.length ≤ 65536) (hn2 : b.length ≤ 65536) (ia : Items a) (ib : Items b) (hF : Hid (z = a ++ b)) :
    Calls Try.prog 66 #[.int .i64 7, .slice A a.length c, .slice A2 b.length c2] w fun e w' => ∃ R cR, e = .returned (.slice R z.length cR) ∧ OwnV w' w.heap.size R cR z ∧ Below w.heap.size w w' := by
  have _u1 := hn
  have _u2 := hn2
  have _u3 := ia
  have _u4 := ib
  clear _u1 _u2 _u3 _u4
  have Ha := Lib.hid ha
  have Hb := Lib.hid hb
  have Ia := Lib.hid ia
  have Ib := Lib.hid ib
  clear ha hb ia ib
  obtain ⟨W2, hW2⟩ : ∃ W2 : World, W2 = w.alloc (.cells #[.slice A a.length c, .slice A2 b.length c2] 28) := ⟨_, rfl⟩
  have hb2 : Below w.heap.size w W2 := by rw [hW2]; exact (Below.refl _ _).alloc (Nat.le_refl _) _
  have hbk : Bk W2 w.heap.size 28 [.slice A a.length c, .slice A2 b.length c2] := by rw [hW2]; exact Bk.new _ _ [_, _]
  have hz2 := hb2.size
  have hrows : RdR W2 W2.heap.size (some ⟨w.heap.size, 0, none⟩) [a, b] := fun _ => by
    refine ⟨_, rfl, hbk.lt, fun k r hr => ?_⟩
    rw [add_zero_row, hbk.cell]
    match k, hr with
    | 0, hr => cases hr; exact ⟨A, c, rfl, (Ha.out.below hb2 (Nat.le_refl _)).rd⟩
    | 1, hr => cases hr; exact ⟨A2, c2, rfl, (Hb.out.below hb2 (Nat.le_refl _)).rd⟩
  have HC := Lib.hid (concat_any growOk (some ⟨w.heap.size, 0, none⟩) 2 [a, b] W2 W2.heap.size hrows (Nat.le_refl _) (by simp) (by simp; omega))
  have hfl : Hid (([a, b] : List (List Int)).flatten = z) := Lib.hid (by rw [hF.out]; simp)
  have HW2 := Lib.hid hW2
  have Hb2 := Lib.hid hb2
  clear hW2 hb2 hbk hrows
  go_enter Try.func66, Try.ntmps66
  go_wp2_with fail
  rw [← HW2.out]
  refine HC.out.mono ?_
  rintro e w3 ⟨R3, c3, rfl, ho3, hb3⟩
  have Ho3 := Lib.hid (ho3.base_ hz2)
  have Hb3 := Lib.hid (Hb2.out.trans (hb3.mono hz2))
  clear ho3 hb3 HC
  go_wp2_with fail
  go_ret
  exact ⟨R3, c3, ret_slice (by rw [← hfl.out]; simp), by rw [← hfl.out]; exact Ho3.out, Hb3.out⟩

end Go.Proofs.Ytkjhncohanfciaa

/- Contracts: the list of a node, by the reference (item by item). -/
namespace Go.Proofs.Ytkjhncohanfciaa
open Go.RowKit

set_option maxRecDepth 100000 in
set_option maxHeartbeats 6400000 in
theorem lsMap {l : List Nd} {src : List (List Int)} {i j : Nat} {n m : Int} {q z : List Int} (A : Option Addr) (c : Nat) (As : Option Addr) (ca : Nat) (w : World) (B : Nat) (h : RdN w B A l) (hB : B ≤ w.heap.size) (hn : l.length ≤ 1048576)
    (hx : l[i]? = some ⟨1, (j : Int), -1, n, m⟩)
    (hi : ∀ W, Below w.heap.size w W → Calls Try.prog 57 #[.agg #[.slice A l.length c], .slice As src.length ca, .int .i64 (j : Int)] W fun e w' => ∃ R cR, e = .returned (.slice R q.length cR) ∧ OwnV w' W.heap.size R cR q ∧ Below W.heap.size W w')
    (iq : Items q) (lq : q.length ≤ 65536) (hnb : 0 ≤ n ∧ n ≤ 99) (hmb : 0 ≤ m ∧ m ≤ 99) (hF : Hid (z = mapL n m q)) :
    Calls Try.prog 57 #[.agg #[.slice A l.length c], .slice As src.length ca, .int .i64 i] w fun e w' => ∃ R cR, e = .returned (.slice R z.length cR) ∧ OwnV w' w.heap.size R cR z ∧ Below w.heap.size w w' := by
  have _u1 := hn
  have _u2 := lq
  have _u3 := iq
  clear _u1 _u2 _u3
  have hlt : i < l.length := (List.getElem?_eq_some_iff.1 hx).1
  have hb0 := (Below.refl w.heap.size w).alloc (Nat.le_refl _) (.cells #[.slice A l.length c] 32)
  obtain ⟨b, o, y, rfl, hbB, hy, hc⟩ := (h.below hb0 (by omega)).at_ hlt
  obtain rfl := Option.some.inj (hx.symm.trans hy)
  obtain ⟨c0, c1, c2, c3, c4⟩ := hc
  simp only at c0 c1 c2 c3 c4
  obtain ⟨W2, hW2⟩ : ∃ W2 : World, W2 = (w.alloc (.cells #[.slice (some ⟨b, o, none⟩) l.length c] 32)).alloc (.cells #[.int .i64 1, .int .i64 (j : Int), .int .i64 (-1), .int .i64 n, .int .i64 m] 69) := ⟨_, rfl⟩
  have hb2 : Below w.heap.size w W2 := by rw [hW2]; exact ((Below.refl _ _).alloc (Nat.le_refl _) _).alloc (by simp) _
  have hs2 : W2.heap.size = w.heap.size + 2 := by rw [hW2]; simp
  have hbox : Bk W2 w.heap.size 32 [.slice (some ⟨b, o, none⟩) l.length c] := by rw [hW2]; exact (Bk.new _ _ [_]).alloc _
  have hnode : Bk W2 (w.heap.size + 1) 69 [.int .i64 1, .int .i64 (j : Int), .int .i64 (-1), .int .i64 n, .int .i64 m] := by
    rw [hW2]
    have := Bk.new (w.alloc (.cells #[.slice (some ⟨b, o, none⟩) l.length c] 32)) 69 [.int .i64 1, .int .i64 (j : Int), .int .i64 (-1), .int .i64 n, .int .i64 m]
    simpa using this
  have HW2 := Lib.hid hW2
  have Hb2 := Lib.hid hb2
  have Hbox := Lib.hid hbox
  have Hnode := Lib.hid hnode
  have Hs2 := Lib.hid hs2
  have Hi := Lib.hid hi
  have Iq := Lib.hid iq
  clear hx hy h hb0 hi iq hW2 hb2 hbox hnode hs2
  go_enter Try.func57, Try.ntmps57
  go_wp2_with fail
  rw [← HW2.out]
  refine (Hi.out W2 Hb2.out).mono ?_
  rintro e w3 ⟨R, cR, rfl, ho3, hb3⟩
  have hbox3 := Hbox.out.below hb3 Hbox.out.lt
  have hnode3 := Hnode.out.below hb3 Hnode.out.lt
  have e0 : w3.cell? ⟨w.heap.size, 0, none⟩ = some (.slice (some ⟨b, o, none⟩) l.length c) := hbox3.cell 0
  have d0 : w3.cell? ⟨w.heap.size + 1, 0, none⟩ = some (.int .i64 1) := hnode3.cell 0
  have d1 : w3.cell? ⟨w.heap.size + 1, 1, none⟩ = some (.int .i64 (j : Int)) := hnode3.cell 1
  have d2 : w3.cell? ⟨w.heap.size + 1, 2, none⟩ = some (.int .i64 (-1)) := hnode3.cell 2
  have d3 : w3.cell? ⟨w.heap.size + 1, 3, none⟩ = some (.int .i64 n) := hnode3.cell 3
  have d4 : w3.cell? ⟨w.heap.size + 1, 4, none⟩ = some (.int .i64 m) := hnode3.cell 4
  have hz2 : w.heap.size ≤ W2.heap.size := by rw [Hs2.out]; omega
  have hz3 := hb3.size
  have hcap := ho3.len_le
  have Hb3 := Lib.hid (Hb2.out.trans (hb3.mono hz2))
  have Hb23 := Lib.hid hb3
  have Ho3 := Lib.hid (ho3.base_ hz2)
  clear ho3 hb3 hbox3 hnode3
  go_wp2_with fail
  refine (specSummed_map R cR q (j : Int) (-1) n m w3 w3.heap.size Ho3.out.rd (Nat.le_refl _) (by omega) Iq.out hnb hmb).mono ?_
  rintro e w4 ⟨R4, c4, rfl, ho4, hb4⟩
  have Ho4 := Lib.hid (ho4.ownV.base_ (Nat.le_trans hz2 hz3))
  have Hb4 := Lib.hid (Hb3.out.trans (hb4.mono (Nat.le_trans hz2 hz3)))
  clear ho4 hb4
  go_wp2_with fail
  go_ret
  exact ⟨R4, c4, ret_slice (by rw [hF.out]), by rw [hF.out]; exact Ho4.out, Hb4.out⟩

set_option maxRecDepth 100000 in
set_option maxHeartbeats 6400000 in
theorem lsFilter {l : List Nd} {src : List (List Int)} {i j : Nat} {n m : Int} {q z : List Int} (A : Option Addr) (c : Nat) (As : Option Addr) (ca : Nat) (w : World) (B : Nat) (h : RdN w B A l) (hB : B ≤ w.heap.size) (hn : l.length ≤ 1048576)
    (hx : l[i]? = some ⟨2, (j : Int), -1, n, m⟩)
    (hi : ∀ W, Below w.heap.size w W → Calls Try.prog 57 #[.agg #[.slice A l.length c], .slice As src.length ca, .int .i64 (j : Int)] W fun e w' => ∃ R cR, e = .returned (.slice R q.length cR) ∧ OwnV w' W.heap.size R cR q ∧ Below W.heap.size W w')
    (iq : Items q) (lq : q.length ≤ 65536) (hnb : 1 ≤ n ∧ n ≤ 99) (hF : Hid (z = filL n m q)) :
    Calls Try.prog 57 #[.agg #[.slice A l.length c], .slice As src.length ca, .int .i64 i] w fun e w' => ∃ R cR, e = .returned (.slice R z.length cR) ∧ OwnV w' w.heap.size R cR z ∧ Below w.heap.size w w' := by
  have _u1 := hn
  have _u2 := lq
  have _u3 := iq
  clear _u1 _u2 _u3
  have hlt : i < l.length := (List.getElem?_eq_some_iff.1 hx).1
  have hb0 := (Below.refl w.heap.size w).alloc (Nat.le_refl _) (.cells #[.slice A l.length c] 32)
  obtain ⟨b, o, y, rfl, hbB, hy, hc⟩ := (h.below hb0 (by omega)).at_ hlt
  obtain rfl := Option.some.inj (hx.symm.trans hy)
  obtain ⟨c0, c1, c2, c3, c4⟩ := hc
  simp only at c0 c1 c2 c3 c4
  obtain ⟨W2, hW2⟩ : ∃ W2 : World, W2 = (w.alloc (.cells #[.slice (some ⟨b, o, none⟩) l.length c] 32)).alloc (.cells #[.int .i64 2, .int .i64 (j : Int), .int .i64 (-1), .int .i64 n, .int .i64 m] 69) := ⟨_, rfl⟩
  have hb2 : Below w.heap.size w W2 := by rw [hW2]; exact ((Below.refl _ _).alloc (Nat.le_refl _) _).alloc (by simp) _
  have hs2 : W2.heap.size = w.heap.size + 2 := by rw [hW2]; simp
  have hbox : Bk W2 w.heap.size 32 [.slice (some ⟨b, o, none⟩) l.length c] := by rw [hW2]; exact (Bk.new _ _ [_]).alloc _
  have hnode : Bk W2 (w.heap.size + 1) 69 [.int .i64 2, .int .i64 (j : Int), .int .i64 (-1), .int .i64 n, .int .i64 m] := by
    rw [hW2]
    have := Bk.new (w.alloc (.cells #[.slice (some ⟨b, o, none⟩) l.length c] 32)) 69 [.int .i64 2, .int .i64 (j : Int), .int .i64 (-1), .int .i64 n, .int .i64 m]
    simpa using this
  have HW2 := Lib.hid hW2
  have Hb2 := Lib.hid hb2
  have Hbox := Lib.hid hbox
  have Hnode := Lib.hid hnode
  have Hs2 := Lib.hid hs2
  have Hi := Lib.hid hi
  have Iq := Lib.hid iq
  clear hx hy h hb0 hi iq hW2 hb2 hbox hnode hs2
  go_enter Try.func57, Try.ntmps57
  go_wp2_with fail
  rw [← HW2.out]
  refine (Hi.out W2 Hb2.out).mono ?_
  rintro e w3 ⟨R, cR, rfl, ho3, hb3⟩
  have hbox3 := Hbox.out.below hb3 Hbox.out.lt
  have hnode3 := Hnode.out.below hb3 Hnode.out.lt
  have e0 : w3.cell? ⟨w.heap.size, 0, none⟩ = some (.slice (some ⟨b, o, none⟩) l.length c) := hbox3.cell 0
  have d0 : w3.cell? ⟨w.heap.size + 1, 0, none⟩ = some (.int .i64 2) := hnode3.cell 0
  have d1 : w3.cell? ⟨w.heap.size + 1, 1, none⟩ = some (.int .i64 (j : Int)) := hnode3.cell 1
  have d2 : w3.cell? ⟨w.heap.size + 1, 2, none⟩ = some (.int .i64 (-1)) := hnode3.cell 2
  have d3 : w3.cell? ⟨w.heap.size + 1, 3, none⟩ = some (.int .i64 n) := hnode3.cell 3
  have d4 : w3.cell? ⟨w.heap.size + 1, 4, none⟩ = some (.int .i64 m) := hnode3.cell 4
  have hz2 : w.heap.size ≤ W2.heap.size := by rw [Hs2.out]; omega
  have hz3 := hb3.size
  have hcap := ho3.len_le
  have Hb3 := Lib.hid (Hb2.out.trans (hb3.mono hz2))
  have Hb23 := Lib.hid hb3
  have Ho3 := Lib.hid (ho3.base_ hz2)
  clear ho3 hb3 hbox3 hnode3
  go_wp2_with fail
  refine (specSummed_filter R cR q (j : Int) (-1) n m w3 w3.heap.size Ho3.out.rd (Nat.le_refl _) (by omega) Iq.out hnb).mono ?_
  rintro e w4 ⟨R4, c4, rfl, ho4, hb4⟩
  have Ho4 := Lib.hid (ho4.ownV.base_ (Nat.le_trans hz2 hz3))
  have Hb4 := Lib.hid (Hb3.out.trans (hb4.mono (Nat.le_trans hz2 hz3)))
  clear ho4 hb4
  go_wp2_with fail
  go_ret
  exact ⟨R4, c4, ret_slice (by rw [hF.out]), by rw [hF.out]; exact Ho4.out, Hb4.out⟩

set_option maxRecDepth 100000 in
set_option maxHeartbeats 6400000 in
theorem lsScan {l : List Nd} {src : List (List Int)} {i j : Nat} {n m : Int} {q z : List Int} (A : Option Addr) (c : Nat) (As : Option Addr) (ca : Nat) (w : World) (B : Nat) (h : RdN w B A l) (hB : B ≤ w.heap.size) (hn : l.length ≤ 1048576)
    (hx : l[i]? = some ⟨11, (j : Int), -1, n, m⟩)
    (hi : ∀ W, Below w.heap.size w W → Calls Try.prog 57 #[.agg #[.slice A l.length c], .slice As src.length ca, .int .i64 (j : Int)] W fun e w' => ∃ R cR, e = .returned (.slice R q.length cR) ∧ OwnV w' W.heap.size R cR q ∧ Below W.heap.size W w')
    (iq : Items q) (lq : q.length ≤ 65536) (hF : Hid (z = scanL 0 q)) :
    Calls Try.prog 57 #[.agg #[.slice A l.length c], .slice As src.length ca, .int .i64 i] w fun e w' => ∃ R cR, e = .returned (.slice R z.length cR) ∧ OwnV w' w.heap.size R cR z ∧ Below w.heap.size w w' := by
  have _u1 := hn
  have _u2 := lq
  have _u3 := iq
  clear _u1 _u2 _u3
  have hlt : i < l.length := (List.getElem?_eq_some_iff.1 hx).1
  have hb0 := (Below.refl w.heap.size w).alloc (Nat.le_refl _) (.cells #[.slice A l.length c] 32)
  obtain ⟨b, o, y, rfl, hbB, hy, hc⟩ := (h.below hb0 (by omega)).at_ hlt
  obtain rfl := Option.some.inj (hx.symm.trans hy)
  obtain ⟨c0, c1, c2, c3, c4⟩ := hc
  simp only at c0 c1 c2 c3 c4
  obtain ⟨W2, hW2⟩ : ∃ W2 : World, W2 = (w.alloc (.cells #[.slice (some ⟨b, o, none⟩) l.length c] 32)).alloc (.cells #[.int .i64 11, .int .i64 (j : Int), .int .i64 (-1), .int .i64 n, .int .i64 m] 69) := ⟨_, rfl⟩
  have hb2 : Below w.heap.size w W2 := by rw [hW2]; exact ((Below.refl _ _).alloc (Nat.le_refl _) _).alloc (by simp) _
  have hs2 : W2.heap.size = w.heap.size + 2 := by rw [hW2]; simp
  have hbox : Bk W2 w.heap.size 32 [.slice (some ⟨b, o, none⟩) l.length c] := by rw [hW2]; exact (Bk.new _ _ [_]).alloc _
  have hnode : Bk W2 (w.heap.size + 1) 69 [.int .i64 11, .int .i64 (j : Int), .int .i64 (-1), .int .i64 n, .int .i64 m] := by
    rw [hW2]
    have := Bk.new (w.alloc (.cells #[.slice (some ⟨b, o, none⟩) l.length c] 32)) 69 [.int .i64 11, .int .i64 (j : Int), .int .i64 (-1), .int .i64 n, .int .i64 m]
    simpa using this
  have HW2 := Lib.hid hW2
  have Hb2 := Lib.hid hb2
  have Hbox := Lib.hid hbox
  have Hnode := Lib.hid hnode
  have Hs2 := Lib.hid hs2
  have Hi := Lib.hid hi
  have Iq := Lib.hid iq
  clear hx hy h hb0 hi iq hW2 hb2 hbox hnode hs2
  go_enter Try.func57, Try.ntmps57
  go_wp2_with fail
  rw [← HW2.out]
  refine (Hi.out W2 Hb2.out).mono ?_
  rintro e w3 ⟨R, cR, rfl, ho3, hb3⟩
  have hbox3 := Hbox.out.below hb3 Hbox.out.lt
  have hnode3 := Hnode.out.below hb3 Hnode.out.lt
  have e0 : w3.cell? ⟨w.heap.size, 0, none⟩ = some (.slice (some ⟨b, o, none⟩) l.length c) := hbox3.cell 0
  have d0 : w3.cell? ⟨w.heap.size + 1, 0, none⟩ = some (.int .i64 11) := hnode3.cell 0
  have d1 : w3.cell? ⟨w.heap.size + 1, 1, none⟩ = some (.int .i64 (j : Int)) := hnode3.cell 1
  have d2 : w3.cell? ⟨w.heap.size + 1, 2, none⟩ = some (.int .i64 (-1)) := hnode3.cell 2
  have d3 : w3.cell? ⟨w.heap.size + 1, 3, none⟩ = some (.int .i64 n) := hnode3.cell 3
  have d4 : w3.cell? ⟨w.heap.size + 1, 4, none⟩ = some (.int .i64 m) := hnode3.cell 4
  have hz2 : w.heap.size ≤ W2.heap.size := by rw [Hs2.out]; omega
  have hz3 := hb3.size
  have hcap := ho3.len_le
  have Hb3 := Lib.hid (Hb2.out.trans (hb3.mono hz2))
  have Hb23 := Lib.hid hb3
  have Ho3 := Lib.hid (ho3.base_ hz2)
  clear ho3 hb3 hbox3 hnode3
  go_wp2_with fail
  refine (specSummed_scan R cR q (j : Int) (-1) n m w3 w3.heap.size Ho3.out.rd (Nat.le_refl _) (by omega) Iq.out).mono ?_
  rintro e w4 ⟨R4, c4, rfl, ho4, hb4⟩
  have Ho4 := Lib.hid (ho4.ownV.base_ (Nat.le_trans hz2 hz3))
  have Hb4 := Lib.hid (Hb3.out.trans (hb4.mono (Nat.le_trans hz2 hz3)))
  clear ho4 hb4
  go_wp2_with fail
  go_ret
  exact ⟨R4, c4, ret_slice (by rw [hF.out]), by rw [hF.out]; exact Ho4.out, Hb4.out⟩

set_option maxRecDepth 100000 in
set_option maxHeartbeats 6400000 in
theorem lsOnce {l : List Nd} {src : List (List Int)} {i j : Nat} {n m : Int} {q z : List Int} (A : Option Addr) (c : Nat) (As : Option Addr) (ca : Nat) (w : World) (B : Nat) (h : RdN w B A l) (hB : B ≤ w.heap.size) (hn : l.length ≤ 1048576)
    (hx : l[i]? = some ⟨13, (j : Int), -1, n, m⟩)
    (hi : ∀ W, Below w.heap.size w W → Calls Try.prog 57 #[.agg #[.slice A l.length c], .slice As src.length ca, .int .i64 (j : Int)] W fun e w' => ∃ R cR, e = .returned (.slice R q.length cR) ∧ OwnV w' W.heap.size R cR q ∧ Below W.heap.size W w')
    (iq : Items q) (lq : q.length ≤ 65536) (hF : Hid (z = Lib.compact q)) :
    Calls Try.prog 57 #[.agg #[.slice A l.length c], .slice As src.length ca, .int .i64 i] w fun e w' => ∃ R cR, e = .returned (.slice R z.length cR) ∧ OwnV w' w.heap.size R cR z ∧ Below w.heap.size w w' := by
  have _u1 := hn
  have _u2 := lq
  have _u3 := iq
  clear _u1 _u2 _u3
  have hlt : i < l.length := (List.getElem?_eq_some_iff.1 hx).1
  have hb0 := (Below.refl w.heap.size w).alloc (Nat.le_refl _) (.cells #[.slice A l.length c] 32)
  obtain ⟨b, o, y, rfl, hbB, hy, hc⟩ := (h.below hb0 (by omega)).at_ hlt
  obtain rfl := Option.some.inj (hx.symm.trans hy)
  obtain ⟨c0, c1, c2, c3, c4⟩ := hc
  simp only at c0 c1 c2 c3 c4
  obtain ⟨W2, hW2⟩ : ∃ W2 : World, W2 = (w.alloc (.cells #[.slice (some ⟨b, o, none⟩) l.length c] 32)).alloc (.cells #[.int .i64 13, .int .i64 (j : Int), .int .i64 (-1), .int .i64 n, .int .i64 m] 69) := ⟨_, rfl⟩
  have hb2 : Below w.heap.size w W2 := by rw [hW2]; exact ((Below.refl _ _).alloc (Nat.le_refl _) _).alloc (by simp) _
  have hs2 : W2.heap.size = w.heap.size + 2 := by rw [hW2]; simp
  have hbox : Bk W2 w.heap.size 32 [.slice (some ⟨b, o, none⟩) l.length c] := by rw [hW2]; exact (Bk.new _ _ [_]).alloc _
  have hnode : Bk W2 (w.heap.size + 1) 69 [.int .i64 13, .int .i64 (j : Int), .int .i64 (-1), .int .i64 n, .int .i64 m] := by
    rw [hW2]
    have := Bk.new (w.alloc (.cells #[.slice (some ⟨b, o, none⟩) l.length c] 32)) 69 [.int .i64 13, .int .i64 (j : Int), .int .i64 (-1), .int .i64 n, .int .i64 m]
    simpa using this
  have HW2 := Lib.hid hW2
  have Hb2 := Lib.hid hb2
  have Hbox := Lib.hid hbox
  have Hnode := Lib.hid hnode
  have Hs2 := Lib.hid hs2
  have Hi := Lib.hid hi
  have Iq := Lib.hid iq
  clear hx hy h hb0 hi iq hW2 hb2 hbox hnode hs2
  go_enter Try.func57, Try.ntmps57
  go_wp2_with fail
  rw [← HW2.out]
  refine (Hi.out W2 Hb2.out).mono ?_
  rintro e w3 ⟨R, cR, rfl, ho3, hb3⟩
  have hbox3 := Hbox.out.below hb3 Hbox.out.lt
  have hnode3 := Hnode.out.below hb3 Hnode.out.lt
  have e0 : w3.cell? ⟨w.heap.size, 0, none⟩ = some (.slice (some ⟨b, o, none⟩) l.length c) := hbox3.cell 0
  have d0 : w3.cell? ⟨w.heap.size + 1, 0, none⟩ = some (.int .i64 13) := hnode3.cell 0
  have d1 : w3.cell? ⟨w.heap.size + 1, 1, none⟩ = some (.int .i64 (j : Int)) := hnode3.cell 1
  have d2 : w3.cell? ⟨w.heap.size + 1, 2, none⟩ = some (.int .i64 (-1)) := hnode3.cell 2
  have d3 : w3.cell? ⟨w.heap.size + 1, 3, none⟩ = some (.int .i64 n) := hnode3.cell 3
  have d4 : w3.cell? ⟨w.heap.size + 1, 4, none⟩ = some (.int .i64 m) := hnode3.cell 4
  have hz2 : w.heap.size ≤ W2.heap.size := by rw [Hs2.out]; omega
  have hz3 := hb3.size
  have hcap := ho3.len_le
  have Hb3 := Lib.hid (Hb2.out.trans (hb3.mono hz2))
  have Hb23 := Lib.hid hb3
  have Ho3 := Lib.hid (ho3.base_ hz2)
  clear ho3 hb3 hbox3 hnode3
  go_wp2_with fail
  refine (specSummed_once R cR q (j : Int) (-1) n m w3 w3.heap.size Ho3.out.rd (Nat.le_refl _) (by omega) Iq.out).mono ?_
  rintro e w4 ⟨R4, c4, rfl, ho4, hb4⟩
  have Ho4 := Lib.hid (ho4.ownV.base_ (Nat.le_trans hz2 hz3))
  have Hb4 := Lib.hid (Hb3.out.trans (hb4.mono (Nat.le_trans hz2 hz3)))
  clear ho4 hb4
  go_wp2_with fail
  go_ret
  exact ⟨R4, c4, ret_slice (by rw [hF.out]), by rw [hF.out]; exact Ho4.out, Hb4.out⟩

set_option maxRecDepth 100000 in
set_option maxHeartbeats 6400000 in
theorem lsBatch {l : List Nd} {src : List (List Int)} {i j : Nat} {p : Nat} {m : Int} {q z : List Int} (A : Option Addr) (c : Nat) (As : Option Addr) (ca : Nat) (w : World) (B : Nat) (h : RdN w B A l) (hB : B ≤ w.heap.size) (hn : l.length ≤ 1048576)
    (hx : l[i]? = some ⟨12, (j : Int), -1, (p : Int), m⟩)
    (hi : ∀ W, Below w.heap.size w W → Calls Try.prog 57 #[.agg #[.slice A l.length c], .slice As src.length ca, .int .i64 (j : Int)] W fun e w' => ∃ R cR, e = .returned (.slice R q.length cR) ∧ OwnV w' W.heap.size R cR q ∧ Below W.heap.size W w')
    (iq : Items q) (lq : q.length ≤ 65536) (hp0 : 0 < p) (hp1 : p ≤ 65536) (hF : Hid (z = batL p q)) :
    Calls Try.prog 57 #[.agg #[.slice A l.length c], .slice As src.length ca, .int .i64 i] w fun e w' => ∃ R cR, e = .returned (.slice R z.length cR) ∧ OwnV w' w.heap.size R cR z ∧ Below w.heap.size w w' := by
  have _u1 := hn
  have _u2 := lq
  have _u3 := iq
  clear _u1 _u2 _u3
  have hlt : i < l.length := (List.getElem?_eq_some_iff.1 hx).1
  have hb0 := (Below.refl w.heap.size w).alloc (Nat.le_refl _) (.cells #[.slice A l.length c] 32)
  obtain ⟨b, o, y, rfl, hbB, hy, hc⟩ := (h.below hb0 (by omega)).at_ hlt
  obtain rfl := Option.some.inj (hx.symm.trans hy)
  obtain ⟨c0, c1, c2, c3, c4⟩ := hc
  simp only at c0 c1 c2 c3 c4
  obtain ⟨W2, hW2⟩ : ∃ W2 : World, W2 = (w.alloc (.cells #[.slice (some ⟨b, o, none⟩) l.length c] 32)).alloc (.cells #[.int .i64 12, .int .i64 (j : Int), .int .i64 (-1), .int .i64 (p : Int), .int .i64 m] 69) := ⟨_, rfl⟩
  have hb2 : Below w.heap.size w W2 := by rw [hW2]; exact ((Below.refl _ _).alloc (Nat.le_refl _) _).alloc (by simp) _
  have hs2 : W2.heap.size = w.heap.size + 2 := by rw [hW2]; simp
  have hbox : Bk W2 w.heap.size 32 [.slice (some ⟨b, o, none⟩) l.length c] := by rw [hW2]; exact (Bk.new _ _ [_]).alloc _
  have hnode : Bk W2 (w.heap.size + 1) 69 [.int .i64 12, .int .i64 (j : Int), .int .i64 (-1), .int .i64 (p : Int), .int .i64 m] := by
    rw [hW2]
    have := Bk.new (w.alloc (.cells #[.slice (some ⟨b, o, none⟩) l.length c] 32)) 69 [.int .i64 12, .int .i64 (j : Int), .int .i64 (-1), .int .i64 (p : Int), .int .i64 m]
    simpa using this
  have HW2 := Lib.hid hW2
  have Hb2 := Lib.hid hb2
  have Hbox := Lib.hid hbox
  have Hnode := Lib.hid hnode
  have Hs2 := Lib.hid hs2
  have Hi := Lib.hid hi
  have Iq := Lib.hid iq
  clear hx hy h hb0 hi iq hW2 hb2 hbox hnode hs2
  go_enter Try.func57, Try.ntmps57
  go_wp2_with fail
  rw [← HW2.out]
  refine (Hi.out W2 Hb2.out).mono ?_
  rintro e w3 ⟨R, cR, rfl, ho3, hb3⟩
  have hbox3 := Hbox.out.below hb3 Hbox.out.lt
  have hnode3 := Hnode.out.below hb3 Hnode.out.lt
  have e0 : w3.cell? ⟨w.heap.size, 0, none⟩ = some (.slice (some ⟨b, o, none⟩) l.length c) := hbox3.cell 0
  have d0 : w3.cell? ⟨w.heap.size + 1, 0, none⟩ = some (.int .i64 12) := hnode3.cell 0
  have d1 : w3.cell? ⟨w.heap.size + 1, 1, none⟩ = some (.int .i64 (j : Int)) := hnode3.cell 1
  have d2 : w3.cell? ⟨w.heap.size + 1, 2, none⟩ = some (.int .i64 (-1)) := hnode3.cell 2
  have d3 : w3.cell? ⟨w.heap.size + 1, 3, none⟩ = some (.int .i64 (p : Int)) := hnode3.cell 3
  have d4 : w3.cell? ⟨w.heap.size + 1, 4, none⟩ = some (.int .i64 m) := hnode3.cell 4
  have hz2 : w.heap.size ≤ W2.heap.size := by rw [Hs2.out]; omega
  have hz3 := hb3.size
  have hcap := ho3.len_le
  have Hb3 := Lib.hid (Hb2.out.trans (hb3.mono hz2))
  have Hb23 := Lib.hid hb3
  have Ho3 := Lib.hid (ho3.base_ hz2)
  clear ho3 hb3 hbox3 hnode3
  go_wp2_with fail
  refine (specBatched_any R cR q p w3 w3.heap.size Ho3.out.rd (Nat.le_refl _) (by omega) hp0 hp1 Iq.out).mono ?_
  rintro e w4 ⟨R4, c4, rfl, ho4, hb4⟩
  have Ho4 := Lib.hid (ho4.ownV.base_ (Nat.le_trans hz2 hz3))
  have Hb4 := Lib.hid (Hb3.out.trans (hb4.mono (Nat.le_trans hz2 hz3)))
  clear ho4 hb4
  go_wp2_with fail
  go_ret
  exact ⟨R4, c4, ret_slice (by rw [hF.out]), by rw [hF.out]; exact Ho4.out, Hb4.out⟩

end Go.Proofs.Ytkjhncohanfciaa
