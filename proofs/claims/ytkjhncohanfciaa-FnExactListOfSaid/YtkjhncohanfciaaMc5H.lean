/- Texts on the program and its reference, put together (LsA, LsB, LsD, LsE, LsF, LsG). -/
import Derived.Test.YtkjhncohanfciaaMc5G
import Derived.Deep.RegionHeld3
import Derived.IntWalk
import Derived.Deep.QuietTactic
import Derived.BigQuiet
import Derived.Lib.SlicesCompact
import Derived.Test.YtkjhncohanfciaaMc5E
/- Contracts: lists that the reference makes out of lists (the first great one, turns, sums at equal places). -/
namespace Go.Proofs.Ytkjhncohanfciaa
open Go.RowKit

theorem step_append_int {ops : Array Oper} {o : Oper} {a : Act} {K : Act → World → Prop} {Q : Exit → Act → World → Prop} {E : Prop} {w : World} (hgd : o.guard = none) (s y : Operand)
    (ho : o.op = .call { callee := .builtin .append, args := #[s, y], argTypes := #[28, 28] }) (base : Nat) (A : Option Addr) (c : Nat) (l : List Int) (x : Int) (n : Nat) (hnl : l.length = n) (hs : a.eval s = .slice A n c) (hown : OwnJ w base A c l)
    (g : Nat) (hx : a.eval y = .slice (some ⟨g, 0, none⟩) 1 1) (hg : g = w.heap.size) (hn : n ≤ 1048576) (hb : base ≤ w.heap.size)
    (h : ∀ (A' : Option Addr) (c' : Nat) (w' : World), OwnJ w' base A' c' (l ++ [x]) → (w.alloc (.cells #[.int .i64 x] 3)).grownBy w' (rowOf A) → K (a.put o.dst (.slice A' (n + 1) c')) w') :
    if Region.wanted o (yielded ops a.tmps) = true then Oper.wp Try.prog o a (w.alloc (.cells #[.int .i64 x] 3)) K Q else E := by
  have hw : Region.wanted o (yielded ops a.tmps) = true := by simp [Region.wanted, hgd]
  rw [if_pos hw]
  subst hg
  subst hnl
  obtain ⟨i, hi, hz0, hz1, hz2⟩ := info_parts Try.infoInt
  have hown2 := hown.below ((Below.refl w.heap.size w).alloc (Nat.le_refl _) (.cells #[.int .i64 x] 3)) (Nat.le_refl _)
  have hb1 : Bk (w.alloc (.cells #[.int .i64 x] 3)) w.heap.size 3 [.int .i64 x] := Bk.new w _ [_]
  have hread : ∀ (j : Nat) (u : Value), (ints [x])[j]? = some u → (w.alloc (.cells #[.int .i64 x] 3)).cell? ((⟨w.heap.size, 0, none⟩ : Addr).add j) = some u := fun j u hj => by
    rw [add_zero_row, hb1.cell]
    exact hj
  have hone : ∀ u ∈ ints [x], u.oneCell' = true := by
    intro u hu
    simp [ints] at hu
    subst hu
    rfl
  obtain ⟨v', w', hr, h2, h3, _⟩ := run_append_own (P := Try.prog) (w.alloc (.cells #[.int .i64 x] 3)) base 28 o.type 3 i _ 1 8 Try.underlying28 hi hz0 hz1 hz2 rfl (by decide)
    (.slice A l.length c) l.length (ints l) hown2 ⟨w.heap.size, 0, none⟩ 1 1 (ints [x]) rfl hread hone (by unfold maxLen; omega) (by omega) (by simp; omega)
  have hv : ∃ A' c', v' = .slice A' (l.length + 1) c' := by
    obtain ⟨_, ⟨_, h0⟩ | ⟨g, cap, cur, hv, _⟩⟩ := h2
    · omega
    · exact ⟨_, _, hv⟩
  obtain ⟨A', c', rfl⟩ := hv
  unfold Oper.wp execOp
  simp only [ho, resolve, invoke, builtin, Sem.run_bind, Sem.run_pure, Result.andThen_ok, List.map_toArray, List.map_cons, List.map_nil, hs, hx, hr]
  refine h A' c' w' ?_ (by rw [← ownBlock_slice A l.length c]; exact h3)
  unfold OwnJ
  rw [List.length_append, show ints (l ++ [x]) = ints l ++ ints [x] from by simp [ints]]
  exact h2

set_option maxRecDepth 100000 in
set_option maxHeartbeats 1600000 in
theorem specFirstAt_any (A : Option Addr) (c : Nat) (l : List Int) (n : Int) (w : World) (B : Nat) (h : RdI w B A l) (hn : l.length ≤ 1048576) :
    Calls Try.prog 73 #[.slice A l.length c, .int .i64 n] w fun e w' => e = .returned (.int .i64 (frst l n)) ∧ w = w' := by
  have H := Lib.hid h
  clear h
  go_enter Try.func73, Try.ntmps73
  go_wp2_with fail
  go_loop [5] (fun i => ∃ j : Nat, j ≤ l.length ∧ i = .int .i64 j ∧ frst l n = j + frst (l.drop j) n) (fun i => l.length - (intOf i).toNat)
  case atStart => exact ⟨0, Nat.zero_le _, rfl, by simp⟩
  case round =>
    obtain ⟨j, hj, rfl, hf⟩ := hrel
    have Hf := Lib.hid hf
    clear hf
    by_cases hlt : j < l.length
    · obtain ⟨ad, x, rfl, hx, hc⟩ := H.out.at_ hlt
      have Hx := Lib.hid hx
      clear hx
      by_cases hxn : x < n
      · go_wp2_with fail
        go_round
        case rel => exact ⟨j + 1, by omega, by go_num, by rw [Hf.out, frst_step Hx.out hxn]; omega⟩
        case measure => simp [intOf]; omega
      · go_wp2_with fail
        go_ret
        exact ⟨ret_int (by rw [Hf.out, frst_stop Hx.out (by omega)]; simp), rfl⟩
    · go_wp2_with fail
      go_ret
      exact ⟨ret_int (by rw [Hf.out, frst_end n (by omega)]; simp), rfl⟩

theorem RdI.val {w : World} {B : Nat} {ad : Addr} {l : List Int} (h : RdI w B (some ad) l) {k : Nat} {x : Int} (hx : l[k]? = some x) : w.cell? (ad.add k) = some (.int .i64 x) := by
  obtain ⟨ad', e, _, hc⟩ := h (by have := (List.getElem?_eq_some_iff.1 hx).1; omega)
  obtain rfl := Option.some.inj e
  exact hc k x hx

set_option maxRecDepth 100000 in
set_option maxHeartbeats 3200000 in
theorem specTurned_any (A : Option Addr) (c : Nat) (a : List Int) (A2 : Option Addr) (c2 : Nat) (b : List Int) (w : World) (B : Nat) (ha : RdI w B A a) (hb : RdI w B A2 b) (hB : B ≤ w.heap.size) (hn : a.length ≤ 65536) (hn2 : b.length ≤ 65536) :
    Calls Try.prog 77 #[.slice A a.length c, .slice A2 b.length c2] w fun e w' => ∃ R cR, e = .returned (.slice R (turnL a b).length cR) ∧ OwnJ w' w.heap.size R cR (turnL a b) ∧ Below w.heap.size w w' := by
  have Ha := Lib.hid ha
  have Hb := Lib.hid hb
  have hbe : Below w.heap.size w (w.alloc (.cells #[] 3)) := (Below.refl _ _).alloc (Nat.le_refl _) _
  have Hbe := Lib.hid hbe
  have He := Lib.hid (emptyJ w)
  clear ha hb hbe
  go_enter Try.func77, Try.ntmps77
  go_wp2_with fail
  go_loopw [5, 6] (fun sl i wr => ∃ j : Nat, j ≤ max a.length b.length ∧ i = .int .i64 j ∧ (∃ R cR, sl = .slice R (turnTo a b j).length cR ∧ OwnJ wr w.heap.size R cR (turnTo a b j)) ∧ Below w.heap.size w wr) (fun _ i _ => max a.length b.length - (intOf i).toNat)
  case atStart => exact ⟨0, Nat.zero_le _, rfl, ⟨_, _, rfl, He.out⟩, Hbe.out⟩
  case round =>
    obtain ⟨j, hj, rfl, ⟨R, cR, rfl, ho⟩, hb⟩ := hrel
    have hz := hb.size
    have hlen := turnTo_len a b j
    have Ho := Lib.hid ho
    have Hbw := Lib.hid hb
    have Ha2 := Lib.hid (Ha.out.below hb hB)
    have Hb2 := Lib.hid (Hb.out.below hb hB)
    clear ho hb
    by_cases h1 : j < a.length
    · obtain ⟨ad, x, rfl, hx, hc⟩ := Ha2.out.at_ h1
      have Hx := Lib.hid hx
      clear hx
      by_cases h2 : j < b.length
      · obtain ⟨ad2, y, rfl, hy, hc2⟩ := Hb2.out.at_ h2
        have Hy := Lib.hid hy
        clear hy hc2
        go_wp2_with (at_builtin; (first
          | (
            refine wpList_append_int rfl _ _ rfl w.heap.size R cR (turnTo a b j) x (turnTo a b j).length rfl rfl Ho.out _ rfl rfl (by omega) (by omega) ?_
            intro R2 c2' w2 ho2 hg2
            have hbb := (Hbw.out.alloc hz _).grown hg2 (by simp; omega) (fun g hg => (Ho.out.row_lt g hg).1)
            have hcy := (Hb.out.below hbb hB).val Hy.out
            have hz2 := hbb.size
            have Hbb := Lib.hid hbb
            have Ho2 := Lib.hid ho2
            clear ho2 hg2 hbb)
          | (
            refine wpList_append_int rfl _ _ rfl w.heap.size R2 c2' (turnTo a b j ++ [x]) y ((turnTo a b j).length + 1) (by simp) rfl Ho2.out _ rfl rfl (by omega) (by omega) ?_
            intro R3 c3' w3 ho3 hg3
            have Ho3 := Lib.hid ho3
            have Hg3 := Lib.hid hg3
            clear ho3 hg3)))
        go_roundw
        case rel =>
          have ht : turnTo a b (j + 1) = turnTo a b j ++ [x] ++ [y] := by simp only [turnTo, Hx.out, Hy.out]; rfl
          refine ⟨j + 1, by omega, by go_num, ⟨R3, c3', by rw [ht]; simp, by rw [ht]; exact Ho3.out⟩, ?_⟩
          exact (Hbb.out.alloc hz2 _).grown Hg3.out (by simp; omega) (fun g hg => (Ho2.out.row_lt g hg).1)
        case measure => simp [intOf]; omega
      · go_wp2_with (at_builtin; go_must (refine wpList_append_int rfl _ _ rfl w.heap.size R cR (turnTo a b j) x (turnTo a b j).length rfl rfl Ho.out _ rfl rfl (by omega) (by omega) ?_; intro R2 c2' w2 ho2 hg2); have hbb := (Hbw.out.alloc hz _).grown hg2 (by simp; omega) (fun g hg => (Ho.out.row_lt g hg).1); have hz2 := hbb.size; have Hbb := Lib.hid hbb; have Ho2 := Lib.hid ho2; clear ho2 hg2 hbb)
        go_roundw
        case rel =>
          have ht : turnTo a b (j + 1) = turnTo a b j ++ [x] := by simp only [turnTo, Hx.out, List.getElem?_eq_none (show b.length ≤ j by omega)]; simp
          exact ⟨j + 1, by omega, by go_num, ⟨R2, c2', by rw [ht]; simp, by rw [ht]; exact Ho2.out⟩, Hbb.out⟩
        case measure => simp [intOf]; omega
    · by_cases h2 : j < b.length
      · obtain ⟨ad2, y, rfl, hy, hc2⟩ := Hb2.out.at_ h2
        have Hy := Lib.hid hy
        clear hy
        go_wp2_with (at_builtin; go_must (refine wpList_append_int rfl _ _ rfl w.heap.size R cR (turnTo a b j) y (turnTo a b j).length rfl rfl Ho.out _ rfl rfl (by omega) (by omega) ?_; intro R2 c2' w2 ho2 hg2); have hbb := (Hbw.out.alloc hz _).grown hg2 (by simp; omega) (fun g hg => (Ho.out.row_lt g hg).1); have hz2 := hbb.size; have Hbb := Lib.hid hbb; have Ho2 := Lib.hid ho2; clear ho2 hg2 hbb)
        go_roundw
        case rel =>
          have ht : turnTo a b (j + 1) = turnTo a b j ++ [y] := by simp only [turnTo, Hy.out, List.getElem?_eq_none (show a.length ≤ j by omega)]; simp
          exact ⟨j + 1, by omega, by go_num, ⟨R2, c2', by rw [ht]; simp, by rw [ht]; exact Ho2.out⟩, Hbb.out⟩
        case measure => simp [intOf]; omega
      · obtain rfl : j = max a.length b.length := by omega
        go_wp2_with fail
        go_ret
        exact ⟨R, cR, rfl, Ho.out, Hbw.out⟩

set_option maxRecDepth 100000 in
set_option maxHeartbeats 3200000 in
theorem specZipped_any (A : Option Addr) (c : Nat) (a : List Int) (A2 : Option Addr) (c2 : Nat) (b : List Int) (w : World) (B : Nat) (ha : RdI w B A a) (hb : RdI w B A2 b) (hB : B ≤ w.heap.size) (hn : a.length ≤ 65536) (ia : Items a) (ib : Items b) :
    Calls Try.prog 75 #[.slice A a.length c, .slice A2 b.length c2] w fun e w' => ∃ R cR, e = .returned (.slice R (zipL a b).length cR) ∧ OwnJ w' w.heap.size R cR (zipL a b) ∧ Below w.heap.size w w' := by
  have Ha := Lib.hid ha
  have Hb := Lib.hid hb
  have hbe : Below w.heap.size w (w.alloc (.cells #[] 3)) := (Below.refl _ _).alloc (Nat.le_refl _) _
  have Hbe := Lib.hid hbe
  have He := Lib.hid (emptyJ w)
  have Ia := Lib.hid ia
  have Ib := Lib.hid ib
  have hzl := zipL_len a b
  clear ha hb hbe ia ib
  go_enter Try.func75, Try.ntmps75
  go_wp2_with fail
  go_loopw [5, 6] (fun sl i wr => ∃ j : Nat, j ≤ min a.length b.length ∧ i = .int .i64 j ∧ (∃ R cR, sl = .slice R j cR ∧ OwnJ wr w.heap.size R cR ((zipL a b).take j)) ∧ Below w.heap.size w wr) (fun _ i _ => min a.length b.length - (intOf i).toNat)
  case atStart => exact ⟨0, Nat.zero_le _, rfl, ⟨_, _, rfl, He.out⟩, Hbe.out⟩
  case round =>
    obtain ⟨j, hj, rfl, ⟨R, cR, rfl, ho⟩, hb⟩ := hrel
    have hz := hb.size
    have Ho := Lib.hid ho
    have Hbw := Lib.hid hb
    have Ha2 := Lib.hid (Ha.out.below hb hB)
    have Hb2 := Lib.hid (Hb.out.below hb hB)
    clear ho hb
    by_cases h1 : j < a.length
    · by_cases h2 : j < b.length
      · obtain ⟨ad, x, rfl, hx, hc⟩ := Ha2.out.at_ h1
        obtain ⟨ad2, y, rfl, hy, hc2⟩ := Hb2.out.at_ h2
        have hxi := Ia.out.get hx
        have hyi := Ib.out.get hy
        have hwr : IntKind.i64.wrap (x + y) = x + y := IntWalk.i64_in _ (by omega)
        have Hzg := Lib.hid (zipL_get hx hy)
        have Hx := Lib.hid hx
        have Hy := Lib.hid hy
        clear hx hy
        have Ho' : Hid (OwnJ wr.drew w.heap.size R cR ((zipL a b).take j)) := Lib.hid Ho.out
        have hl2 : ((zipL a b).take j).length = j := by rw [List.length_take]; omega
        have hsm : (Int.tmod (x + y) 100) = rst (x + y) := rfl
        go_wp2_with fail
        go_region_held3 (fun w' => w'.cell? (ad.add j) = some (.int .i64 x) ∧ w'.cell? (ad2.add j) = some (.int .i64 y)) (go_keep)
          (first
            | (
              refine step_append_int rfl _ _ rfl w.heap.size R cR ((zipL a b).take j) (rst (x + y)) j hl2 rfl Ho'.out _ rfl rfl (by omega) (by first | omega | (simp; omega)) ?_
              intro R2 c2' w2 ho2 hg2
              have hbb := (Hbw.out.drew.alloc hz _).grown hg2 (by simp; omega) (fun g hg => (Ho.out.row_lt g hg).1)
              have ks := And.intro ((Ha.out.below hbb hB).val Hx.out) ((Hb.out.below hbb hB).val Hy.out)
              have Hbb := Lib.hid hbb
              have Ho2 := Lib.hid ho2
              clear ho2 hg2 hbb))
        all_goals
          go_wp2_with fail
          go_roundw
          case rel =>
            exact ⟨j + 1, by omega, by go_num, ⟨R2, c2', rfl, by rw [take_succ_of Hzg.out]; exact Ho2.out⟩, Hbb.out⟩
          case measure => simp [intOf]; omega
      · obtain rfl : j = b.length := by omega
        go_wp2_with fail
        go_ret
        exact ⟨R, cR, ret_slice (by omega), by rw [List.take_of_length_le (by omega)] at Ho; exact Ho.out, Hbw.out⟩
    · obtain rfl : j = a.length := by omega
      go_wp2_with fail
      go_ret
      exact ⟨R, cR, ret_slice (by omega), by rw [List.take_of_length_le (by omega)] at Ho; exact Ho.out, Hbw.out⟩

end Go.Proofs.Ytkjhncohanfciaa

/- Contracts: two lists merged, and sums of groups, by the reference. -/
namespace Go.Proofs.Ytkjhncohanfciaa
open Go.RowKit

theorem mergeL_l {a b : List Int} {i k : Nat} {x : Int} (hx : a[i]? = some x) (hk : b.length ≤ k) : mergeL (a.drop i) (b.drop k) = x :: mergeL (a.drop (i + 1)) (b.drop k) := by
  rw [List.drop_eq_nil_of_le hk, mergeL_nil, mergeL_nil, drop_cons_of hx]
theorem mergeL_r {a b : List Int} {i k : Nat} {y : Int} (hi : a.length ≤ i) (hy : b[k]? = some y) : mergeL (a.drop i) (b.drop k) = y :: mergeL (a.drop i) (b.drop (k + 1)) := by
  rw [List.drop_eq_nil_of_le hi, nil_mergeL, nil_mergeL, drop_cons_of hy]
theorem mergeL_xl {a b : List Int} {i k : Nat} {x y : Int} (hx : a[i]? = some x) (hy : b[k]? = some y) (h : x ≤ y) : mergeL (a.drop i) (b.drop k) = x :: mergeL (a.drop (i + 1)) (b.drop k) := by
  rw [drop_cons_of hx, drop_cons_of hy, mergeL_left h]
theorem mergeL_xr {a b : List Int} {i k : Nat} {x y : Int} (hx : a[i]? = some x) (hy : b[k]? = some y) (h : ¬ x ≤ y) : mergeL (a.drop i) (b.drop k) = y :: mergeL (a.drop i) (b.drop (k + 1)) := by
  rw [drop_cons_of hx, drop_cons_of hy, mergeL_right h]
theorem mergeL_end {a b : List Int} {i k : Nat} (hi : a.length ≤ i) (hk : b.length ≤ k) : mergeL (a.drop i) (b.drop k) = [] := by
  rw [List.drop_eq_nil_of_le hi, List.drop_eq_nil_of_le hk, mergeL_nil]

set_option maxRecDepth 100000 in
set_option maxHeartbeats 6400000 in
theorem specMerged_any (A : Option Addr) (c : Nat) (a : List Int) (A2 : Option Addr) (c2 : Nat) (b : List Int) (w : World) (B : Nat) (ha : RdI w B A a) (hb : RdI w B A2 b) (hB : B ≤ w.heap.size) (hn : a.length ≤ 65536) (hn2 : b.length ≤ 65536) :
    Calls Try.prog 76 #[.slice A a.length c, .slice A2 b.length c2] w fun e w' => ∃ R cR, e = .returned (.slice R (mergeL a b).length cR) ∧ OwnJ w' w.heap.size R cR (mergeL a b) ∧ Below w.heap.size w w' := by
  have Ha := Lib.hid ha
  have Hb := Lib.hid hb
  have hbe : Below w.heap.size w (w.alloc (.cells #[] 3)) := (Below.refl _ _).alloc (Nat.le_refl _) _
  have Hbe := Lib.hid hbe
  have He := Lib.hid (emptyJ w)
  clear ha hb hbe
  go_enter Try.func76, Try.ntmps76
  go_wp2_with fail
  go_loopw [5, 6, 7] (fun sl i k wr => ∃ (p q : Nat) (o : List Int), p ≤ a.length ∧ q ≤ b.length ∧ o.length = p + q ∧ i = .int .i64 p ∧ k = .int .i64 q ∧ (∃ R cR, sl = .slice R o.length cR ∧ OwnJ wr w.heap.size R cR o) ∧ mergeL a b = o ++ mergeL (a.drop p) (b.drop q) ∧ Below w.heap.size w wr) (fun _ i k _ => a.length + b.length - (intOf i).toNat - (intOf k).toNat)
  case atStart => exact ⟨0, 0, [], Nat.zero_le _, Nat.zero_le _, rfl, rfl, rfl, ⟨_, _, rfl, He.out⟩, by simp, Hbe.out⟩
  case round =>
    obtain ⟨p, q, o, hp, hq, hol, rfl, rfl, ⟨R, cR, rfl, ho⟩, hm, hb⟩ := hrel
    have hz := hb.size
    have Ho := Lib.hid ho
    have Hbw := Lib.hid hb
    have HoN : Hid (∀ n, OwnJ (wr.drewN n) w.heap.size R cR o) := Lib.hid (fun _ => Ho.out)
    have HbN : Hid (∀ n, Below w.heap.size w (wr.drewN n)) := Lib.hid (fun n => hb.trans (((Same.refl wr).drewN n).below _))
    have Hm := Lib.hid hm
    have Hol := Lib.hid hol
    have hle : o.length ≤ 131072 := by omega
    have Ha2 := Lib.hid (Ha.out.below hb hB)
    have Hb2 := Lib.hid (Hb.out.below hb hB)
    clear ho hb hm hol
    by_cases h1 : p < a.length
    · obtain ⟨ad, x, rfl, hx, hc⟩ := Ha2.out.at_ h1
      have Hx := Lib.hid hx
      clear hx
      by_cases h2 : q < b.length
      · obtain ⟨ad2, y, rfl, hy, hc2⟩ := Hb2.out.at_ h2
        have Hy := Lib.hid hy
        clear hy
        by_cases hxy : x ≤ y
        · go_wp2_with fail
          have hd1 : ((q : Int) == (b.length : Int)) = false := by rw [beq_eq_false_iff_ne]; omega
          go_quiet (fail)
          go_wp2_with (at_builtin; go_must (refine wpList_append_int rfl _ _ rfl w.heap.size R cR o x o.length rfl rfl (HoN.out _) _ rfl rfl (by omega) (by first | omega | (simp; omega)) ?_; intro R2 c2' w2 ho2 hg2); have hbb := ((HbN.out _).alloc (by first | exact hz | (simp; omega)) _).grown hg2 (by simp; omega) (fun g hg => (Ho.out.row_lt g hg).1); have Hbb := Lib.hid hbb; have Ho2 := Lib.hid ho2; clear ho2 hg2 hbb)
          go_roundw
          case rel => exact ⟨p + 1, q, o ++ [x], by omega, by omega, by rw [List.length_append, Hol.out]; simp; omega, by go_num, by go_num, ⟨R2, c2', by simp, Ho2.out⟩, by rw [Hm.out, mergeL_xl Hx.out Hy.out hxy]; simp, Hbb.out⟩
          case measure => simp [intOf]; omega
        · go_wp2_with fail
          have hd1 : ((q : Int) == (b.length : Int)) = false := by rw [beq_eq_false_iff_ne]; omega
          go_quiet (fail)
          go_wp2_with (at_builtin; go_must (refine wpList_append_int rfl _ _ rfl w.heap.size R cR o y o.length rfl rfl (HoN.out _) _ rfl rfl (by omega) (by first | omega | (simp; omega)) ?_; intro R2 c2' w2 ho2 hg2); have hbb := ((HbN.out _).alloc (by first | exact hz | (simp; omega)) _).grown hg2 (by simp; omega) (fun g hg => (Ho.out.row_lt g hg).1); have Hbb := Lib.hid hbb; have Ho2 := Lib.hid ho2; clear ho2 hg2 hbb)
          go_roundw
          case rel => exact ⟨p, q + 1, o ++ [y], by omega, by omega, by rw [List.length_append, Hol.out]; simp; omega, by go_num, by go_num, ⟨R2, c2', by simp, Ho2.out⟩, by rw [Hm.out, mergeL_xr Hx.out Hy.out (by omega)]; simp, Hbb.out⟩
          case measure => simp [intOf]; omega
      · have hd1 : ((q : Int) == (b.length : Int)) = true := by rw [beq_iff_eq]; omega
        go_wp2_with fail
        go_quiet (fail)
        go_wp2_with (at_builtin; go_must (refine wpList_append_int rfl _ _ rfl w.heap.size R cR o x o.length rfl rfl (HoN.out _) _ rfl rfl (by omega) (by first | omega | (simp; omega)) ?_; intro R2 c2' w2 ho2 hg2); have hbb := ((HbN.out _).alloc (by first | exact hz | (simp; omega)) _).grown hg2 (by simp; omega) (fun g hg => (Ho.out.row_lt g hg).1); have Hbb := Lib.hid hbb; have Ho2 := Lib.hid ho2; clear ho2 hg2 hbb)
        go_roundw
        case rel => exact ⟨p + 1, q, o ++ [x], by omega, by omega, by rw [List.length_append, Hol.out]; simp; omega, by go_num, by go_num, ⟨R2, c2', by simp, Ho2.out⟩, by rw [Hm.out, mergeL_l Hx.out (by omega)]; simp, Hbb.out⟩
        case measure => simp [intOf]; omega
    · by_cases h2 : q < b.length
      · obtain ⟨ad2, y, rfl, hy, hc2⟩ := Hb2.out.at_ h2
        have Hy := Lib.hid hy
        clear hy
        go_wp2_with fail
        have hd1 : ((q : Int) == (b.length : Int)) = false := by rw [beq_eq_false_iff_ne]; omega
        have hd2 : decide ((p : Int) < a.length) = false := by simp; omega
        go_quiet (fail)
        go_wp2_with (at_builtin; go_must (refine wpList_append_int rfl _ _ rfl w.heap.size R cR o y o.length rfl rfl (HoN.out _) _ rfl rfl (by omega) (by first | omega | (simp; omega)) ?_; intro R2 c2' w2 ho2 hg2); have hbb := ((HbN.out _).alloc (by first | exact hz | (simp; omega)) _).grown hg2 (by simp; omega) (fun g hg => (Ho.out.row_lt g hg).1); have Hbb := Lib.hid hbb; have Ho2 := Lib.hid ho2; clear ho2 hg2 hbb)
        go_roundw
        case rel => exact ⟨p, q + 1, o ++ [y], by omega, by omega, by rw [List.length_append, Hol.out]; simp; omega, by go_num, by go_num, ⟨R2, c2', by simp, Ho2.out⟩, by rw [Hm.out, mergeL_r (by omega) Hy.out]; simp, Hbb.out⟩
        case measure => simp [intOf]; omega
      · have h3 : q = b.length := by omega
        have h4 : p = a.length := by omega
        have hmm := Hm.out
        rw [mergeL_end (by omega) (by omega), List.append_nil] at hmm
        have Hmm := Lib.hid hmm
        clear hmm
        go_wp2_with fail
        go_ret
        exact ⟨R, cR, ret_slice (by rw [Hmm.out]), by rw [Hmm.out]; exact Ho.out, Hbw.out⟩

end Go.Proofs.Ytkjhncohanfciaa

/- Contracts: lists made item by item, by the reference (running sums). -/
namespace Go.Proofs.Ytkjhncohanfciaa
open Go.RowKit

theorem OwnJ.base_ {w : World} {base b2 c : Nat} {A : Option Addr} {l : List Int} (h : OwnJ w base A c l) (hb : b2 ≤ base) : OwnJ w b2 A c l :=
  ⟨h.1, h.2.elim .inl fun ⟨g, cap, cur, hv, hbk, r⟩ => .inr ⟨g, cap, cur, hv, Nat.le_trans hb hbk, r⟩⟩

set_option maxRecDepth 100000 in
set_option maxHeartbeats 6400000 in
theorem specSummed_scan (A : Option Addr) (c : Nat) (a : List Int) (xa xb n m : Int) (w : World) (B : Nat) (ha : RdI w B A a) (hB : B ≤ w.heap.size) (hn : a.length ≤ 65536) (ia : Items a) :
    Calls Try.prog 78 #[.agg #[.int .i64 11, .int .i64 xa, .int .i64 xb, .int .i64 n, .int .i64 m], .slice A a.length c] w fun e w' => ∃ R cR, e = .returned (.slice R (scanL 0 a).length cR) ∧ OwnJ w' w.heap.size R cR (scanL 0 a) ∧ Below w.heap.size w w' := by
  obtain ⟨W0, hW0⟩ : ∃ W0 : World, W0 = w.alloc (.cells #[.int .i64 11, .int .i64 xa, .int .i64 xb, .int .i64 n, .int .i64 m] 69) := ⟨_, rfl⟩
  have hb0 : Below w.heap.size w W0 := by rw [hW0]; exact (Below.refl w.heap.size w).alloc (Nat.le_refl _) _
  have hx0 : Bk W0 w.heap.size 69 [.int .i64 11, .int .i64 xa, .int .i64 xb, .int .i64 n, .int .i64 m] := by rw [hW0]; exact Bk.new _ _ [_, _, _, _, _]
  have hs0 : W0.heap.size = w.heap.size + 1 := by rw [hW0]; simp
  have he : OwnJ (W0.alloc (.cells #[] 3)) (w.heap.size + 1) (some ⟨w.heap.size + 1, 0, none⟩) 0 [] := by have := emptyJ W0; rwa [hs0] at this
  have hbe : Below W0.heap.size W0 (W0.alloc (.cells #[] 3)) := (Below.refl _ _).alloc (Nat.le_refl _) _
  have Ha := Lib.hid (ha.below hb0 hB)
  have Hb0 := Lib.hid hb0
  have Hx0 := Lib.hid hx0
  have HW0 := Lib.hid hW0
  have Hs0 := Lib.hid hs0
  have He := Lib.hid he
  have Hbe := Lib.hid hbe
  have Ia := Lib.hid ia
  have hz0 : w.heap.size + 1 ≤ W0.heap.size := by omega
  clear ha hb0 hx0 hW0 hs0 he hbe ia
  go_enter Try.func78, Try.ntmps78
  go_wp2_with fail
  rw [← HW0.out]
  go_loopw [5, 6, 7] (fun sl su i wr => ∃ j : Nat, j ≤ a.length ∧ i = .int .i64 j ∧ (∃ s, s = sumL 0 (a.take j) ∧ su = .int .i64 s) ∧ (∃ R cR, sl = .slice R (scanL 0 (a.take j)).length cR ∧ OwnJ wr (w.heap.size + 1) R cR (scanL 0 (a.take j))) ∧ Below W0.heap.size W0 wr) (fun _ _ i _ => a.length - (intOf i).toNat)
  case atStart => exact ⟨0, Nat.zero_le _, rfl, ⟨0, rfl, rfl⟩, ⟨_, _, rfl, He.out⟩, Hbe.out⟩
  case round =>
    obtain ⟨j, hj, rfl, ⟨s, hs, rfl⟩, ⟨R, cR, rfl, ho⟩, hb⟩ := hrel
    have hz := Nat.le_trans hz0 hb.size
    obtain ⟨m0, hm0⟩ : ∃ m, (scanL 0 (a.take j)).length = m := ⟨_, rfl⟩
    have hmj : m0 ≤ j := by rw [← hm0]; exact Nat.le_trans (Nat.le_of_eq (scanL_len _ _)) (List.length_take_le _ _)
    have hsi : 0 ≤ s ∧ s ≤ 99 := by rw [hs]; exact sumL_in (by omega) (Ia.out.take j)
    rw [hm0]
    have Hm0 := Lib.hid hm0
    have Hs := Lib.hid hs
    have Ho := Lib.hid ho
    have Hbw := Lib.hid hb
    have HoN : Hid (∀ n, OwnJ (wr.drewN n) (w.heap.size + 1) R cR (scanL 0 (a.take j))) := Lib.hid (fun _ => Ho.out)
    have HbN : Hid (∀ n, Below W0.heap.size W0 (wr.drewN n)) := Lib.hid (fun n => Hbw.out.trans (((Same.refl wr).drewN n).below _))
    have Ha2 := Lib.hid (Ha.out.below hb (by omega))
    have hxw := Hx0.out.below hb Hx0.out.lt
    have c0 : wr.cell? ⟨w.heap.size, 0, none⟩ = some (.int .i64 11) := hxw.cell 0
    have c1 : wr.cell? ⟨w.heap.size, 1, none⟩ = some (.int .i64 xa) := hxw.cell 1
    have c2 : wr.cell? ⟨w.heap.size, 2, none⟩ = some (.int .i64 xb) := hxw.cell 2
    have c3 : wr.cell? ⟨w.heap.size, 3, none⟩ = some (.int .i64 n) := hxw.cell 3
    have c4 : wr.cell? ⟨w.heap.size, 4, none⟩ = some (.int .i64 m) := hxw.cell 4
    have Hxw := Lib.hid hxw
    clear ho hb hm0 hs hxw
    by_cases h1 : j < a.length
    · obtain ⟨ad, x, rfl, hx, hc⟩ := Ha2.out.at_ h1
      have hxi := Ia.out.get hx
      have hsw : IntKind.i64.wrap (s + x) = s + x := IntWalk.i64_in _ (by omega)
      have hsr : (s + x).tmod 100 = rst (s + x) := rfl
      have hss : sumL 0 (a.take (j + 1)) = rst (s + x) := by rw [sumL_succ 0 hx, Hs.out]
      have hri := rst_in (x := s + x) (by omega)
      have Hss := Lib.hid hss
      have Hx := Lib.hid hx
      clear hx hss
      go_wp2_with fail
      go_quiet (fail)
      go_wp2_with (at_builtin; go_must (refine wpList_append_int rfl _ _ rfl (w.heap.size + 1) R cR _ (rst (s + x)) m0 Hm0.out rfl (HoN.out _) _ rfl rfl (by omega) (by first | omega | (simp; omega)) ?_; intro R2 c2' w2 ho2 hg2); have hbb := ((HbN.out _).alloc (by first | exact Hbw.out.size | (simp; exact Hbw.out.size)) _).grown hg2 (by have := Hbw.out.size; simp; omega) (fun g hg => by have := (Ho.out.row_lt g hg).1; rw [Hs0.out]; exact this); have Hbb := Lib.hid hbb; have Ho2 := Lib.hid ho2; clear ho2 hg2 hbb)
      go_roundw
      case rel =>
        have hF : scanL 0 (a.take (j + 1)) = scanL 0 (a.take j) ++ [rst (s + x)] := by rw [scanL_succ 0 Hx.out, Hss.out]
        exact ⟨j + 1, by omega, by go_num, ⟨_, Hss.out.symm, rfl⟩, ⟨R2, c2', by rw [hF, List.length_append, Hm0.out]; rfl, by rw [hF]; exact Ho2.out⟩, Hbb.out⟩
      case measure => simp [intOf]; omega

    · obtain rfl : j = a.length := by omega
      go_wp2_with fail
      go_ret
      have Hm1 := Hm0.out
      have Ho1 := Ho.out
      rw [List.take_of_length_le (Nat.le_refl _)] at Hm1 Ho1
      exact ⟨R, cR, ret_slice (by rw [Hm1]), Ho1.base_ (by omega), Hb0.out.trans (Hbw.out.mono (by omega))⟩

end Go.Proofs.Ytkjhncohanfciaa

/- Contracts: lists made item by item, by the reference (equal neighbours once). -/
namespace Go.Proofs.Ytkjhncohanfciaa
open Go.RowKit

theorem compactUpTo_congr {d e : Array Int} : ∀ m, (∀ i, i < m → d[i]! = e[i]!) → Lib.compactUpTo d m = Lib.compactUpTo e m
  | 0, _ => rfl
  | m + 1, h => by
    have hk : Lib.keeps d m = Lib.keeps e m := by unfold Lib.keeps; rw [h m (by omega), h (m - 1) (by omega)]
    rw [Lib.compactUpTo_succ, Lib.compactUpTo_succ, compactUpTo_congr m (fun i hi => h i (by omega)), h m (by omega), hk]
theorem take_at {l : List Int} {n i : Nat} {x : Int} (h : l[i]? = some x) (hi : i < n) : (l.take n).toArray[i]! = x := by
  rw [List.getElem!_toArray, List.getElem!_eq_getElem?_getD, List.getElem?_take_of_lt hi, h]
  rfl
theorem compact_succ {l : List Int} {i : Nat} {x : Int} (h : l[i]? = some x) : Lib.compact (l.take (i + 1)) = Lib.compact (l.take i) ++ (if i = 0 ∨ l[i - 1]? ≠ some x then [x] else []) := by
  have hi := (List.getElem?_eq_some_iff.1 h).1
  unfold Lib.compact
  rw [List.length_take, List.length_take, Nat.min_eq_left (by omega), Nat.min_eq_left (by omega), Lib.compactUpTo_succ, take_at h (Nat.lt_succ_self i)]
  congr 1
  · refine compactUpTo_congr i fun k hk => ?_
    obtain ⟨y, hy⟩ := get_of_lt l (k := k) (by omega)
    rw [take_at hy (by omega), take_at hy hk]
  · obtain ⟨y, hy⟩ := get_of_lt l (k := i - 1) (by omega)
    unfold Lib.keeps
    rw [take_at h (Nat.lt_succ_self i), take_at hy (by omega), hy]
    by_cases h0 : i = 0
    · simp [h0]
    · by_cases e : y = x
      · subst e; simp [h0]
      · have e2 : ¬ x = y := fun q => e q.symm
        simp [h0, e, e2]
theorem compact_len (l : List Int) : (Lib.compact l).length ≤ l.length := by
  unfold Lib.compact Lib.compactUpTo
  rw [List.length_map]
  have := List.length_filter_le (Lib.keeps l.toArray) (List.range l.length)
  simpa using this
theorem compact_items {l : List Int} (h : Items l) : Items (Lib.compact l) := h.sub fun x hx => by
  unfold Lib.compact Lib.compactUpTo at hx
  obtain ⟨i, hi, rfl⟩ := List.mem_map.1 hx
  have hil : i < l.length := List.mem_range.1 (List.mem_filter.1 hi).1
  simp [hil]

set_option maxRecDepth 100000 in
set_option maxHeartbeats 6400000 in
theorem specSummed_once (A : Option Addr) (c : Nat) (a : List Int) (xa xb n m : Int) (w : World) (B : Nat) (ha : RdI w B A a) (hB : B ≤ w.heap.size) (hn : a.length ≤ 65536) (ia : Items a) :
    Calls Try.prog 78 #[.agg #[.int .i64 13, .int .i64 xa, .int .i64 xb, .int .i64 n, .int .i64 m], .slice A a.length c] w fun e w' => ∃ R cR, e = .returned (.slice R (Lib.compact a).length cR) ∧ OwnJ w' w.heap.size R cR (Lib.compact a) ∧ Below w.heap.size w w' := by
  obtain ⟨W0, hW0⟩ : ∃ W0 : World, W0 = w.alloc (.cells #[.int .i64 13, .int .i64 xa, .int .i64 xb, .int .i64 n, .int .i64 m] 69) := ⟨_, rfl⟩
  have hb0 : Below w.heap.size w W0 := by rw [hW0]; exact (Below.refl w.heap.size w).alloc (Nat.le_refl _) _
  have hx0 : Bk W0 w.heap.size 69 [.int .i64 13, .int .i64 xa, .int .i64 xb, .int .i64 n, .int .i64 m] := by rw [hW0]; exact Bk.new _ _ [_, _, _, _, _]
  have hs0 : W0.heap.size = w.heap.size + 1 := by rw [hW0]; simp
  have he : OwnJ (W0.alloc (.cells #[] 3)) (w.heap.size + 1) (some ⟨w.heap.size + 1, 0, none⟩) 0 [] := by have := emptyJ W0; rwa [hs0] at this
  have hbe : Below W0.heap.size W0 (W0.alloc (.cells #[] 3)) := (Below.refl _ _).alloc (Nat.le_refl _) _
  have Ha := Lib.hid (ha.below hb0 hB)
  have Hb0 := Lib.hid hb0
  have Hx0 := Lib.hid hx0
  have HW0 := Lib.hid hW0
  have Hs0 := Lib.hid hs0
  have He := Lib.hid he
  have Hbe := Lib.hid hbe
  have Ia := Lib.hid ia
  have hz0 : w.heap.size + 1 ≤ W0.heap.size := by omega
  clear ha hb0 hx0 hW0 hs0 he hbe ia
  go_enter Try.func78, Try.ntmps78
  go_wp2_with fail
  rw [← HW0.out]
  go_loopw [5, 6, 7] (fun sl su i wr => ∃ j : Nat, j ≤ a.length ∧ i = .int .i64 j ∧ (∃ s, s = sumL 0 (a.take j) ∧ su = .int .i64 s) ∧ (∃ R cR, sl = .slice R (Lib.compact (a.take j)).length cR ∧ OwnJ wr (w.heap.size + 1) R cR (Lib.compact (a.take j))) ∧ Below W0.heap.size W0 wr) (fun _ _ i _ => a.length - (intOf i).toNat)
  case atStart => exact ⟨0, Nat.zero_le _, rfl, ⟨0, rfl, rfl⟩, ⟨_, _, rfl, He.out⟩, Hbe.out⟩
  case round =>
    obtain ⟨j, hj, rfl, ⟨s, hs, rfl⟩, ⟨R, cR, rfl, ho⟩, hb⟩ := hrel
    have hz := Nat.le_trans hz0 hb.size
    obtain ⟨m0, hm0⟩ : ∃ m, (Lib.compact (a.take j)).length = m := ⟨_, rfl⟩
    have hmj : m0 ≤ j := by rw [← hm0]; exact Nat.le_trans (compact_len _) (List.length_take_le _ _)
    have hsi : 0 ≤ s ∧ s ≤ 99 := by rw [hs]; exact sumL_in (by omega) (Ia.out.take j)
    rw [hm0]
    have Hm0 := Lib.hid hm0
    have Hs := Lib.hid hs
    have Ho := Lib.hid ho
    have Hbw := Lib.hid hb
    have HoN : Hid (∀ n, OwnJ (wr.drewN n) (w.heap.size + 1) R cR (Lib.compact (a.take j))) := Lib.hid (fun _ => Ho.out)
    have HbN : Hid (∀ n, Below W0.heap.size W0 (wr.drewN n)) := Lib.hid (fun n => Hbw.out.trans (((Same.refl wr).drewN n).below _))
    have Ha2 := Lib.hid (Ha.out.below hb (by omega))
    have hxw := Hx0.out.below hb Hx0.out.lt
    have c0 : wr.cell? ⟨w.heap.size, 0, none⟩ = some (.int .i64 13) := hxw.cell 0
    have c1 : wr.cell? ⟨w.heap.size, 1, none⟩ = some (.int .i64 xa) := hxw.cell 1
    have c2 : wr.cell? ⟨w.heap.size, 2, none⟩ = some (.int .i64 xb) := hxw.cell 2
    have c3 : wr.cell? ⟨w.heap.size, 3, none⟩ = some (.int .i64 n) := hxw.cell 3
    have c4 : wr.cell? ⟨w.heap.size, 4, none⟩ = some (.int .i64 m) := hxw.cell 4
    have Hxw := Lib.hid hxw
    clear ho hb hm0 hs hxw
    by_cases h1 : j < a.length
    · obtain ⟨ad, x, rfl, hx, hc⟩ := Ha2.out.at_ h1
      have hxi := Ia.out.get hx
      have hsw : IntKind.i64.wrap (s + x) = s + x := IntWalk.i64_in _ (by omega)
      have hsr : (s + x).tmod 100 = rst (s + x) := rfl
      have hss : sumL 0 (a.take (j + 1)) = rst (s + x) := by rw [sumL_succ 0 hx, Hs.out]
      have hri := rst_in (x := s + x) (by omega)
      have Hss := Lib.hid hss
      have Hx := Lib.hid hx
      clear hx hss
      by_cases h0 : j = 0
      · have HF : Hid (Lib.compact (a.take (j + 1)) = Lib.compact (a.take j) ++ [x]) := Lib.hid (by rw [compact_succ Hx.out, if_pos (.inl h0)])
        have hj2 : ((j : Int) == 0) = true := by rw [beq_iff_eq]; omega
        clear h0
        go_wp2_with fail
        go_quiet (fail)
        go_wp2_with fail
        go_quiet (fail)
        go_wp2_with (at_builtin; go_must (refine wpList_append_int rfl _ _ rfl (w.heap.size + 1) R cR _ x m0 Hm0.out rfl (HoN.out _) _ rfl rfl (by omega) (by first | omega | (simp; omega)) ?_; intro R2 c2' w2 ho2 hg2); have hbb := ((HbN.out _).alloc (by first | exact Hbw.out.size | (simp; exact Hbw.out.size)) _).grown hg2 (by have := Hbw.out.size; simp; omega) (fun g hg => by have := (Ho.out.row_lt g hg).1; rw [Hs0.out]; exact this); have Hbb := Lib.hid hbb; have Ho2 := Lib.hid ho2; clear ho2 hg2 hbb)
        go_roundw
        case rel =>
          have hF : Lib.compact (a.take (j + 1)) = Lib.compact (a.take j) ++ [x] := HF.out
          exact ⟨j + 1, by omega, by go_num, ⟨_, Hss.out.symm, rfl⟩, ⟨R2, c2', by rw [hF, List.length_append, Hm0.out]; rfl, by rw [hF]; exact Ho2.out⟩, Hbb.out⟩
        case measure => simp [intOf]; omega
      · obtain ⟨y, hy⟩ := get_of_lt a (k := j - 1) (by omega)
        have hcy := Ha2.out.val hy
        have hj1 : IntKind.i64.wrap ((j : Int) - 1) = ((j - 1 : Nat) : Int) := by rw [show ((j - 1 : Nat) : Int) = (j : Int) - 1 by omega]; exact IntWalk.i64_in _ (by omega)
        have hj2 : ((j : Int) == 0) = false := by rw [beq_eq_false_iff_ne]; omega
        by_cases hxy : x = y
        · have hxy2 : (x != y) = false := by simp [hxy]
          have HF : Hid (Lib.compact (a.take (j + 1)) = Lib.compact (a.take j)) := Lib.hid (by rw [compact_succ Hx.out, if_neg (by rw [hy, hxy]; simp [h0]), List.append_nil])
          clear hy hxy
          go_wp2_with fail
          go_quiet (fail)
          go_wp2_with fail
          go_quiet (fail)
          go_wp2_with fail
          go_roundw
          case rel =>
            have hF : Lib.compact (a.take (j + 1)) = Lib.compact (a.take j) := HF.out
            exact ⟨j + 1, by omega, by go_num, ⟨_, Hss.out.symm, rfl⟩, ⟨R, cR, by rw [hF, Hm0.out], by rw [hF]; exact HoN.out _⟩, HbN.out _⟩
          case measure => simp [intOf]; omega
        · have hxy2 : (x != y) = true := by simp [hxy]
          have HF : Hid (Lib.compact (a.take (j + 1)) = Lib.compact (a.take j) ++ [x]) := Lib.hid (by rw [compact_succ Hx.out, if_pos (.inr (by rw [hy]; intro e; exact hxy (Option.some.inj e).symm))])
          clear hy hxy
          go_wp2_with fail
          go_quiet (fail)
          go_wp2_with fail
          go_quiet (fail)
          go_wp2_with (at_builtin; go_must (refine wpList_append_int rfl _ _ rfl (w.heap.size + 1) R cR _ x m0 Hm0.out rfl (HoN.out _) _ rfl rfl (by omega) (by first | omega | (simp; omega)) ?_; intro R2 c2' w2 ho2 hg2); have hbb := ((HbN.out _).alloc (by first | exact Hbw.out.size | (simp; exact Hbw.out.size)) _).grown hg2 (by have := Hbw.out.size; simp; omega) (fun g hg => by have := (Ho.out.row_lt g hg).1; rw [Hs0.out]; exact this); have Hbb := Lib.hid hbb; have Ho2 := Lib.hid ho2; clear ho2 hg2 hbb)
          go_roundw
          case rel =>
            have hF : Lib.compact (a.take (j + 1)) = Lib.compact (a.take j) ++ [x] := HF.out
            exact ⟨j + 1, by omega, by go_num, ⟨_, Hss.out.symm, rfl⟩, ⟨R2, c2', by rw [hF, List.length_append, Hm0.out]; rfl, by rw [hF]; exact Ho2.out⟩, Hbb.out⟩
          case measure => simp [intOf]; omega

    · obtain rfl : j = a.length := by omega
      go_wp2_with fail
      go_ret
      have Hm1 := Hm0.out
      have Ho1 := Ho.out
      rw [List.take_of_length_le (Nat.le_refl _)] at Hm1 Ho1
      exact ⟨R, cR, ret_slice (by rw [Hm1]), Ho1.base_ (by omega), Hb0.out.trans (Hbw.out.mono (by omega))⟩

end Go.Proofs.Ytkjhncohanfciaa

/- Contracts: lists made item by item, by the reference (each item another one, and items that are kept). -/
namespace Go.Proofs.Ytkjhncohanfciaa
open Go.RowKit

set_option maxHeartbeats 800000 in
theorem specMapped_any (k xa xb n m x : Int) (w : World) (hn : 0 ≤ n ∧ n ≤ 99) (hm : 0 ≤ m ∧ m ≤ 99) (hx : 0 ≤ x ∧ x ≤ 99) :
    Calls Try.prog 92 #[.agg #[.int .i64 k, .int .i64 xa, .int .i64 xb, .int .i64 n, .int .i64 m], .int .i64 x] w fun e w' => e = .returned (.int .i64 (rst (n * x + m))) ∧ Below w.heap.size w w' := by
  have h1 : 0 ≤ n * x := Int.mul_nonneg hn.1 hx.1
  have h2 : n * x ≤ 99 * 99 := Int.mul_le_mul hn.2 hx.2 hx.1 (by omega)
  have h3 : IntKind.i64.wrap (n * x) = n * x := IntWalk.i64_in _ (by omega)
  have h4 : IntKind.i64.wrap (n * x + m) = n * x + m := IntWalk.i64_in _ (by omega)
  have h5 : (n * x + m).tmod 100 = rst (n * x + m) := rfl
  have h6 := rst_in (x := n * x + m) (by omega)
  go_enter Try.func92, Try.ntmps92
  go_wp2_with fail
  go_ret
  exact ⟨rfl, (Below.refl _ _).alloc (Nat.le_refl _) _⟩

set_option maxHeartbeats 800000 in
theorem specKeeps_any (k xa xb n m x : Int) (w : World) (hn : 1 ≤ n ∧ n ≤ 99) (b : Bool) (hb : (x.tmod n == m) = b) (hx : 0 ≤ x ∧ x ≤ 99) :
    Calls Try.prog 93 #[.agg #[.int .i64 k, .int .i64 xa, .int .i64 xb, .int .i64 n, .int .i64 m], .int .i64 x] w fun e w' => e = .returned (.bool b) ∧ Below w.heap.size w w' := by
  have hz : n ≠ 0 := by omega
  obtain ⟨r, hr⟩ : ∃ r, x.tmod n = r := ⟨_, rfl⟩
  rw [hr] at hb
  have hr2 : IntKind.i64.wrap r = r := by
    rw [← hr, Int.tmod_eq_emod_of_nonneg hx.1]
    have h1 := Int.emod_nonneg x hz
    have h2 := Int.emod_lt_of_pos x (show 0 < n by omega)
    exact IntWalk.i64_in _ (by omega)
  go_enter Try.func93, Try.ntmps93
  go_wp2_with fail
  go_region
  go_wp2_with fail
  go_ret
  exact ⟨rfl, ((Below.refl _ _).alloc (Nat.le_refl _) _).drew⟩

end Go.Proofs.Ytkjhncohanfciaa

/- Contracts: lists made item by item, by the reference (other items, and items that are kept). -/
namespace Go.Proofs.Ytkjhncohanfciaa
open Go.RowKit Go.Sort

set_option maxRecDepth 100000 in
set_option maxHeartbeats 6400000 in
theorem specSummed_map (A : Option Addr) (c : Nat) (a : List Int) (xa xb n m : Int) (w : World) (B : Nat) (ha : RdI w B A a) (hB : B ≤ w.heap.size) (hn : a.length ≤ 65536) (ia : Items a) (hnb : 0 ≤ n ∧ n ≤ 99) (hmb : 0 ≤ m ∧ m ≤ 99) :
    Calls Try.prog 78 #[.agg #[.int .i64 1, .int .i64 xa, .int .i64 xb, .int .i64 n, .int .i64 m], .slice A a.length c] w fun e w' => ∃ R cR, e = .returned (.slice R (mapL n m a).length cR) ∧ OwnJ w' w.heap.size R cR (mapL n m a) ∧ Below w.heap.size w w' := by
  obtain ⟨W0, hW0⟩ : ∃ W0 : World, W0 = w.alloc (.cells #[.int .i64 1, .int .i64 xa, .int .i64 xb, .int .i64 n, .int .i64 m] 69) := ⟨_, rfl⟩
  have hb0 : Below w.heap.size w W0 := by rw [hW0]; exact (Below.refl w.heap.size w).alloc (Nat.le_refl _) _
  have hx0 : Bk W0 w.heap.size 69 [.int .i64 1, .int .i64 xa, .int .i64 xb, .int .i64 n, .int .i64 m] := by rw [hW0]; exact Bk.new _ _ [_, _, _, _, _]
  have hs0 : W0.heap.size = w.heap.size + 1 := by rw [hW0]; simp
  have he : OwnJ (W0.alloc (.cells #[] 3)) (w.heap.size + 1) (some ⟨w.heap.size + 1, 0, none⟩) 0 [] := by have := emptyJ W0; rwa [hs0] at this
  have hbe : Below W0.heap.size W0 (W0.alloc (.cells #[] 3)) := (Below.refl _ _).alloc (Nat.le_refl _) _
  have Ha := Lib.hid (ha.below hb0 hB)
  have Hb0 := Lib.hid hb0
  have Hx0 := Lib.hid hx0
  have HW0 := Lib.hid hW0
  have Hs0 := Lib.hid hs0
  have He := Lib.hid he
  have Hbe := Lib.hid hbe
  have Ia := Lib.hid ia
  have hz0 : w.heap.size + 1 ≤ W0.heap.size := by omega
  have Hnb := Lib.hid hnb
  have Hmb := Lib.hid hmb
  clear hnb hmb ha hb0 hx0 hW0 hs0 he hbe ia
  go_enter Try.func78, Try.ntmps78
  go_wp2_with fail
  rw [← HW0.out]
  go_loopw [5, 6, 7] (fun sl su i wr => ∃ j : Nat, j ≤ a.length ∧ i = .int .i64 j ∧ (∃ s, s = sumL 0 (a.take j) ∧ su = .int .i64 s) ∧ (∃ R cR, sl = .slice R (mapL n m (a.take j)).length cR ∧ OwnJ wr (w.heap.size + 1) R cR (mapL n m (a.take j))) ∧ Below W0.heap.size W0 wr) (fun _ _ i _ => a.length - (intOf i).toNat)
  case atStart => exact ⟨0, Nat.zero_le _, rfl, ⟨0, rfl, rfl⟩, ⟨_, _, rfl, He.out⟩, Hbe.out⟩
  case round =>
    obtain ⟨j, hj, rfl, ⟨s, hs, rfl⟩, ⟨R, cR, rfl, ho⟩, hb⟩ := hrel
    have hz := Nat.le_trans hz0 hb.size
    obtain ⟨m0, hm0⟩ : ∃ q0, (mapL n m (a.take j)).length = q0 := ⟨_, rfl⟩
    have hmj : m0 ≤ j := by rw [← hm0]; exact Nat.le_trans (Nat.le_of_eq (mapL_len n m _)) (List.length_take_le _ _)
    have hsi : 0 ≤ s ∧ s ≤ 99 := by rw [hs]; exact sumL_in (by omega) (Ia.out.take j)
    rw [hm0]
    have Hm0 := Lib.hid hm0
    have Hs := Lib.hid hs
    have Ho := Lib.hid ho
    have Hbw := Lib.hid hb
    have HoN : Hid (∀ dn, OwnJ (wr.drewN dn) (w.heap.size + 1) R cR (mapL n m (a.take j))) := Lib.hid (fun _ => Ho.out)
    have HbN : Hid (∀ n, Below W0.heap.size W0 (wr.drewN n)) := Lib.hid (fun n => Hbw.out.trans (((Same.refl wr).drewN n).below _))
    have Ha2 := Lib.hid (Ha.out.below hb (by omega))
    have hxw := Hx0.out.below hb Hx0.out.lt
    have c0 : wr.cell? ⟨w.heap.size, 0, none⟩ = some (.int .i64 1) := hxw.cell 0
    have c1 : wr.cell? ⟨w.heap.size, 1, none⟩ = some (.int .i64 xa) := hxw.cell 1
    have c2 : wr.cell? ⟨w.heap.size, 2, none⟩ = some (.int .i64 xb) := hxw.cell 2
    have c3 : wr.cell? ⟨w.heap.size, 3, none⟩ = some (.int .i64 n) := hxw.cell 3
    have c4 : wr.cell? ⟨w.heap.size, 4, none⟩ = some (.int .i64 m) := hxw.cell 4
    have Hxw := Lib.hid hxw
    clear ho hb hm0 hs hxw
    by_cases h1 : j < a.length
    · obtain ⟨ad, x, rfl, hx, hc⟩ := Ha2.out.at_ h1
      have hxi := Ia.out.get hx
      have hsw : IntKind.i64.wrap (s + x) = s + x := IntWalk.i64_in _ (by omega)
      have hsr : (s + x).tmod 100 = rst (s + x) := rfl
      have hss : sumL 0 (a.take (j + 1)) = rst (s + x) := by rw [sumL_succ 0 hx, Hs.out]
      have hri := rst_in (x := s + x) (by omega)
      have Hss := Lib.hid hss
      have Hx := Lib.hid hx
      clear hx hss
      have HF : Hid (mapL n m (a.take (j + 1)) = mapL n m (a.take j) ++ [rst (n * x + m)]) := Lib.hid (mapL_succ n m Hx.out)
      go_wp2_with fail
      go_region_held3 (fun w' => w'.cell? ⟨w.heap.size, 0, none⟩ = some (.int .i64 1) ∧ w'.cell? ⟨w.heap.size, 1, none⟩ = some (.int .i64 xa) ∧ w'.cell? ⟨w.heap.size, 2, none⟩ = some (.int .i64 xb) ∧ w'.cell? ⟨w.heap.size, 3, none⟩ = some (.int .i64 n) ∧ w'.cell? ⟨w.heap.size, 4, none⟩ = some (.int .i64 m) ∧ w'.cell? (ad.add j) = some (.int .i64 x)) (go_keep)
        (first
          | (
            refine step_append_int rfl _ _ rfl (w.heap.size + 1) R cR _ (rst (n * x + m)) m0 Hm0.out rfl (HoQ.out) _ rfl rfl (by omega) (by first | omega | (simp; omega)) ?_
            intro R2 c2' w2 ho2 hg2
            have hbb := (Hb6.out.alloc (by first | exact Hb6.out.size | (simp; exact Hb6.out.size)) _).grown hg2 (by have := Hb6.out.size; simp; omega) (fun g hg => by have := (Ho.out.row_lt g hg).1; rw [Hs0.out]; exact this)
            have hx2 := Hx0.out.below hbb Hx0.out.lt
            have ks := And.intro (hx2.cell 0) (And.intro (hx2.cell 1) (And.intro (hx2.cell 2) (And.intro (hx2.cell 3) (And.intro (hx2.cell 4) ((Ha.out.below hbb (by omega)).val Hx.out)))))
            have Hbb := Lib.hid hbb
            have Ho2 := Lib.hid ho2
            clear ho2 hg2 hbb hx2)
          | (
            go_at_call 92
            refine (specMapped_any 1 xa xb n m x _ Hnb.out Hmb.out hxi).mono ?_
            rintro e w5 ⟨rfl, hb5⟩
            have hb50 : Below wr.heap.size wr w5 := ((Below.refl wr.heap.size wr).drew).trans (hb5.mono (by simp))
            have hb6 := Hbw.out.trans (hb50.mono Hbw.out.size)
            have hx2 := Hx0.out.below hb6 Hx0.out.lt
            have ks := And.intro (hx2.cell 0) (And.intro (hx2.cell 1) (And.intro (hx2.cell 2) (And.intro (hx2.cell 3) (And.intro (hx2.cell 4) ((Ha.out.below hb6 (by omega)).val Hx.out)))))
            have hzq := Nat.le_trans hz hb50.size
            have Hb6 := Lib.hid hb6
            have HoQ := Lib.hid (Ho.out.below hb50 (Nat.le_refl _))
            clear hb5 hb50 hb6 hx2))
      all_goals
        go_wp2_with fail
        go_roundw
        case rel =>
          have hF : mapL n m (a.take (j + 1)) = mapL n m (a.take j) ++ [rst (n * x + m)] := HF.out
          exact ⟨j + 1, by omega, by go_num, ⟨_, Hss.out.symm, rfl⟩, ⟨R2, c2', by rw [hF, List.length_append, Hm0.out]; rfl, by rw [hF]; exact Ho2.out⟩, Hbb.out⟩
        case measure => simp [intOf]; omega

    · obtain rfl : j = a.length := by omega
      go_wp2_with fail
      go_ret
      have Hm1 := Hm0.out
      have Ho1 := Ho.out
      rw [List.take_of_length_le (Nat.le_refl _)] at Hm1 Ho1
      exact ⟨R, cR, ret_slice (by rw [Hm1]), Ho1.base_ (by omega), Hb0.out.trans (Hbw.out.mono (by omega))⟩

set_option maxRecDepth 100000 in
set_option maxHeartbeats 6400000 in
theorem specSummed_filter (A : Option Addr) (c : Nat) (a : List Int) (xa xb n m : Int) (w : World) (B : Nat) (ha : RdI w B A a) (hB : B ≤ w.heap.size) (hn : a.length ≤ 65536) (ia : Items a) (hnb : 1 ≤ n ∧ n ≤ 99) :
    Calls Try.prog 78 #[.agg #[.int .i64 2, .int .i64 xa, .int .i64 xb, .int .i64 n, .int .i64 m], .slice A a.length c] w fun e w' => ∃ R cR, e = .returned (.slice R (filL n m a).length cR) ∧ OwnJ w' w.heap.size R cR (filL n m a) ∧ Below w.heap.size w w' := by
  obtain ⟨W0, hW0⟩ : ∃ W0 : World, W0 = w.alloc (.cells #[.int .i64 2, .int .i64 xa, .int .i64 xb, .int .i64 n, .int .i64 m] 69) := ⟨_, rfl⟩
  have hb0 : Below w.heap.size w W0 := by rw [hW0]; exact (Below.refl w.heap.size w).alloc (Nat.le_refl _) _
  have hx0 : Bk W0 w.heap.size 69 [.int .i64 2, .int .i64 xa, .int .i64 xb, .int .i64 n, .int .i64 m] := by rw [hW0]; exact Bk.new _ _ [_, _, _, _, _]
  have hs0 : W0.heap.size = w.heap.size + 1 := by rw [hW0]; simp
  have he : OwnJ (W0.alloc (.cells #[] 3)) (w.heap.size + 1) (some ⟨w.heap.size + 1, 0, none⟩) 0 [] := by have := emptyJ W0; rwa [hs0] at this
  have hbe : Below W0.heap.size W0 (W0.alloc (.cells #[] 3)) := (Below.refl _ _).alloc (Nat.le_refl _) _
  have Ha := Lib.hid (ha.below hb0 hB)
  have Hb0 := Lib.hid hb0
  have Hx0 := Lib.hid hx0
  have HW0 := Lib.hid hW0
  have Hs0 := Lib.hid hs0
  have He := Lib.hid he
  have Hbe := Lib.hid hbe
  have Ia := Lib.hid ia
  have hz0 : w.heap.size + 1 ≤ W0.heap.size := by omega
  have Hnb := Lib.hid hnb
  clear hnb ha hb0 hx0 hW0 hs0 he hbe ia
  go_enter Try.func78, Try.ntmps78
  go_wp2_with fail
  rw [← HW0.out]
  go_loopw [5, 6, 7] (fun sl su i wr => ∃ j : Nat, j ≤ a.length ∧ i = .int .i64 j ∧ (∃ s, s = sumL 0 (a.take j) ∧ su = .int .i64 s) ∧ (∃ R cR, sl = .slice R (filL n m (a.take j)).length cR ∧ OwnJ wr (w.heap.size + 1) R cR (filL n m (a.take j))) ∧ Below W0.heap.size W0 wr) (fun _ _ i _ => a.length - (intOf i).toNat)
  case atStart => exact ⟨0, Nat.zero_le _, rfl, ⟨0, rfl, rfl⟩, ⟨_, _, rfl, He.out⟩, Hbe.out⟩
  case round =>
    obtain ⟨j, hj, rfl, ⟨s, hs, rfl⟩, ⟨R, cR, rfl, ho⟩, hb⟩ := hrel
    have hz := Nat.le_trans hz0 hb.size
    obtain ⟨m0, hm0⟩ : ∃ q0, (filL n m (a.take j)).length = q0 := ⟨_, rfl⟩
    have hmj : m0 ≤ j := by rw [← hm0]; exact Nat.le_trans (filL_len n m _) (List.length_take_le _ _)
    have hsi : 0 ≤ s ∧ s ≤ 99 := by rw [hs]; exact sumL_in (by omega) (Ia.out.take j)
    rw [hm0]
    have Hm0 := Lib.hid hm0
    have Hs := Lib.hid hs
    have Ho := Lib.hid ho
    have Hbw := Lib.hid hb
    have HoN : Hid (∀ dn, OwnJ (wr.drewN dn) (w.heap.size + 1) R cR (filL n m (a.take j))) := Lib.hid (fun _ => Ho.out)
    have HbN : Hid (∀ n, Below W0.heap.size W0 (wr.drewN n)) := Lib.hid (fun n => Hbw.out.trans (((Same.refl wr).drewN n).below _))
    have Ha2 := Lib.hid (Ha.out.below hb (by omega))
    have hxw := Hx0.out.below hb Hx0.out.lt
    have c0 : wr.cell? ⟨w.heap.size, 0, none⟩ = some (.int .i64 2) := hxw.cell 0
    have c1 : wr.cell? ⟨w.heap.size, 1, none⟩ = some (.int .i64 xa) := hxw.cell 1
    have c2 : wr.cell? ⟨w.heap.size, 2, none⟩ = some (.int .i64 xb) := hxw.cell 2
    have c3 : wr.cell? ⟨w.heap.size, 3, none⟩ = some (.int .i64 n) := hxw.cell 3
    have c4 : wr.cell? ⟨w.heap.size, 4, none⟩ = some (.int .i64 m) := hxw.cell 4
    have Hxw := Lib.hid hxw
    clear ho hb hm0 hs hxw
    by_cases h1 : j < a.length
    · obtain ⟨ad, x, rfl, hx, hc⟩ := Ha2.out.at_ h1
      have hxi := Ia.out.get hx
      have hsw : IntKind.i64.wrap (s + x) = s + x := IntWalk.i64_in _ (by omega)
      have hsr : (s + x).tmod 100 = rst (s + x) := rfl
      have hss : sumL 0 (a.take (j + 1)) = rst (s + x) := by rw [sumL_succ 0 hx, Hs.out]
      have hri := rst_in (x := s + x) (by omega)
      have Hss := Lib.hid hss
      have Hx := Lib.hid hx
      clear hx hss
      cases hk : (x.tmod n == m)
      · have HF : Hid (filL n m (a.take (j + 1)) = filL n m (a.take j)) := Lib.hid (by rw [filL_succ n m Hx.out, hk]; simp)
        have Hk := Lib.hid hk
        clear hk
        go_wp2_with fail
        have q0 : ∀ d os, (grow (redrawn wr d) os).cell? ⟨w.heap.size, 0, none⟩ = some (.int .i64 2) := fun d os => cell_regrown (Hxw.out.cell 0) d os
        have q1 : ∀ d os, (grow (redrawn wr d) os).cell? ⟨w.heap.size, 1, none⟩ = some (.int .i64 xa) := fun d os => cell_regrown (Hxw.out.cell 1) d os
        have q2 : ∀ d os, (grow (redrawn wr d) os).cell? ⟨w.heap.size, 2, none⟩ = some (.int .i64 xb) := fun d os => cell_regrown (Hxw.out.cell 2) d os
        have q3 : ∀ d os, (grow (redrawn wr d) os).cell? ⟨w.heap.size, 3, none⟩ = some (.int .i64 n) := fun d os => cell_regrown (Hxw.out.cell 3) d os
        have q4 : ∀ d os, (grow (redrawn wr d) os).cell? ⟨w.heap.size, 4, none⟩ = some (.int .i64 m) := fun d os => cell_regrown (Hxw.out.cell 4) d os
        have qx : ∀ d os, (grow (redrawn wr d) os).cell? (ad.add j) = some (.int .i64 x) := fun d os => cell_regrown hc d os
        have Hc := Lib.hid (fun d os => Calls.regrown_of (specKeeps_any 2 xa xb n m x (grow (redrawn wr d) os) Hnb.out false Hk.out hxi))
        refine wp_region_quiet_below (by kernel_rfl) (by kernel_rfl) ?_
        repeat (quiet_step ((first | (go_at_call 93; exact Hc.out _ _))))
        refine wpQuiet_nil ?_
        intro wq hwq
        obtain ⟨pq, hwq⟩ := hwq
        have hb5 : Below wr.heap.size wr wq := by rw [hwq]; exact below_regrown _ _ _
        have hb6 := Hbw.out.trans (hb5.mono Hbw.out.size)
        have d0 : wq.cell? ⟨w.heap.size, 0, none⟩ = some (.int .i64 2) := (Hx0.out.below hb6 Hx0.out.lt).cell 0
        have dx : wq.cell? (ad.add j) = some (.int .i64 x) := (Ha.out.below hb6 (by omega)).val Hx.out
        have hzq := Nat.le_trans hz hb5.size
        have Hb6 := Lib.hid hb6
        have HoQ := Lib.hid (Ho.out.below hb5 (Nat.le_refl _))
        have HbN : Hid (∀ n, Below W0.heap.size W0 (wq.drewN n)) := Lib.hid (fun n => Hb6.out.trans (((Same.refl wq).drewN n).below _))
        have HoN : Hid (∀ dn, OwnJ (wq.drewN dn) (w.heap.size + 1) R cR (filL n m (a.take j))) := Lib.hid (fun _ => HoQ.out)
        clear hwq q0 q1 q2 q3 q4 qx hb5 hb6 c0 c1 c2 c3 c4 hc
        go_wp2_with fail
        go_quiet (fail)
        go_wp2_with fail
        go_roundw
        case rel =>
          have hF : filL n m (a.take (j + 1)) = filL n m (a.take j) := HF.out
          exact ⟨j + 1, by omega, by go_num, ⟨_, Hss.out.symm, rfl⟩, ⟨R, cR, by rw [hF, Hm0.out], by rw [hF]; exact HoN.out _⟩, HbN.out _⟩
        case measure => simp [intOf]; omega
      · have HF : Hid (filL n m (a.take (j + 1)) = filL n m (a.take j) ++ [x]) := Lib.hid (by rw [filL_succ n m Hx.out, hk]; simp)
        have Hk := Lib.hid hk
        clear hk
        go_wp2_with fail
        have q0 : ∀ d os, (grow (redrawn wr d) os).cell? ⟨w.heap.size, 0, none⟩ = some (.int .i64 2) := fun d os => cell_regrown (Hxw.out.cell 0) d os
        have q1 : ∀ d os, (grow (redrawn wr d) os).cell? ⟨w.heap.size, 1, none⟩ = some (.int .i64 xa) := fun d os => cell_regrown (Hxw.out.cell 1) d os
        have q2 : ∀ d os, (grow (redrawn wr d) os).cell? ⟨w.heap.size, 2, none⟩ = some (.int .i64 xb) := fun d os => cell_regrown (Hxw.out.cell 2) d os
        have q3 : ∀ d os, (grow (redrawn wr d) os).cell? ⟨w.heap.size, 3, none⟩ = some (.int .i64 n) := fun d os => cell_regrown (Hxw.out.cell 3) d os
        have q4 : ∀ d os, (grow (redrawn wr d) os).cell? ⟨w.heap.size, 4, none⟩ = some (.int .i64 m) := fun d os => cell_regrown (Hxw.out.cell 4) d os
        have qx : ∀ d os, (grow (redrawn wr d) os).cell? (ad.add j) = some (.int .i64 x) := fun d os => cell_regrown hc d os
        have Hc := Lib.hid (fun d os => Calls.regrown_of (specKeeps_any 2 xa xb n m x (grow (redrawn wr d) os) Hnb.out true Hk.out hxi))
        refine wp_region_quiet_below (by kernel_rfl) (by kernel_rfl) ?_
        repeat (quiet_step ((first | (go_at_call 93; exact Hc.out _ _))))
        refine wpQuiet_nil ?_
        intro wq hwq
        obtain ⟨pq, hwq⟩ := hwq
        have hb5 : Below wr.heap.size wr wq := by rw [hwq]; exact below_regrown _ _ _
        have hb6 := Hbw.out.trans (hb5.mono Hbw.out.size)
        have d0 : wq.cell? ⟨w.heap.size, 0, none⟩ = some (.int .i64 2) := (Hx0.out.below hb6 Hx0.out.lt).cell 0
        have dx : wq.cell? (ad.add j) = some (.int .i64 x) := (Ha.out.below hb6 (by omega)).val Hx.out
        have hzq := Nat.le_trans hz hb5.size
        have Hb6 := Lib.hid hb6
        have HoQ := Lib.hid (Ho.out.below hb5 (Nat.le_refl _))
        have HbN : Hid (∀ n, Below W0.heap.size W0 (wq.drewN n)) := Lib.hid (fun n => Hb6.out.trans (((Same.refl wq).drewN n).below _))
        have HoN : Hid (∀ dn, OwnJ (wq.drewN dn) (w.heap.size + 1) R cR (filL n m (a.take j))) := Lib.hid (fun _ => HoQ.out)
        clear hwq q0 q1 q2 q3 q4 qx hb5 hb6 c0 c1 c2 c3 c4 hc
        go_wp2_with (at_builtin; go_must (refine wpList_append_int rfl _ _ rfl (w.heap.size + 1) R cR _ x m0 Hm0.out rfl (HoQ.out) _ rfl rfl (by omega) (by first | omega | (simp; omega)) ?_; intro R2 c2' w2 ho2 hg2); have hbb := ((Hb6.out).alloc (by first | exact Hb6.out.size | (simp; exact Hb6.out.size)) _).grown hg2 (by have := Hb6.out.size; simp; omega) (fun g hg => by have := (Ho.out.row_lt g hg).1; rw [Hs0.out]; exact this); have Hbb := Lib.hid hbb; have Ho2 := Lib.hid ho2; clear ho2 hg2 hbb)
        go_roundw
        case rel =>
          have hF : filL n m (a.take (j + 1)) = filL n m (a.take j) ++ [x] := HF.out
          exact ⟨j + 1, by omega, by go_num, ⟨_, Hss.out.symm, rfl⟩, ⟨R2, c2', by rw [hF, List.length_append, Hm0.out]; rfl, by rw [hF]; exact Ho2.out⟩, Hbb.out⟩
        case measure => simp [intOf]; omega

    · obtain rfl : j = a.length := by omega
      go_wp2_with fail
      go_ret
      have Hm1 := Hm0.out
      have Ho1 := Ho.out
      rw [List.take_of_length_le (Nat.le_refl _)] at Hm1 Ho1
      exact ⟨R, cR, ret_slice (by rw [Hm1]), Ho1.base_ (by omega), Hb0.out.trans (Hbw.out.mono (by omega))⟩

end Go.Proofs.Ytkjhncohanfciaa
