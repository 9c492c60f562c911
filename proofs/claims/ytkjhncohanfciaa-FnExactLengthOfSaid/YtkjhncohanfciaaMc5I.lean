/- Texts on the program and its reference, put together (LiA, LiB, LsC, ListT, OwnV). -/
import Derived.Test.YtkjhncohanfciaaMc5H
import Derived.Deep.QuietTactic
import Derived.BigQuiet
import Derived.Test.YtkjhncohanfciaaMc5B
import Derived.Test.YtkjhncohanfciaaMc5G
import Derived.Deep.AppendSrc
import Derived.Deep.Upon
/- Contracts: lists out of lists, by the program (one number out of a list). -/
namespace Go.Proofs.Ytkjhncohanfciaa
open Go.RowKit

theorem implRest_any (n : Int) (w : World) (h : 0 ≤ n) :
    Calls Try.prog 94 #[.int .i64 n] w fun e w' => e = .returned (.int .i64 (rst n)) ∧ w = w' := by
  have h5 : n.tmod 100 = rst n := rfl
  have h6 := rst_in h
  go_enter Try.func94, Try.ntmps94
  go_wp2
  go_ret
  exact ⟨rfl, rfl⟩

set_option maxHeartbeats 1600000 in
theorem implFirstGreat_any (A : Option Addr) (c : Nat) (l : List Int) (n : Int) (w : World) (B : Nat) (h : RdI w B A l) (hn : l.length ≤ 1048576) :
    Calls Try.prog 84 #[.slice A l.length c, .int .i64 n] w fun e w' => e = .returned (.int .i64 (frst l n)) ∧ w = w' := by
  have H := Lib.hid h
  clear h
  go_enter Try.func84, Try.ntmps84
  go_wp2_with fail
  go_loop [9] (fun i => ∃ j : Nat, j ≤ l.length ∧ i = .int .i64 j ∧ frst l n = j + frst (l.drop j) n) (fun i => l.length - (intOf i).toNat)
  case atStart => exact ⟨0, Nat.zero_le _, rfl, by simp⟩
  case round =>
    obtain ⟨j, hj, rfl, hf⟩ := hrel
    have Hf := Lib.hid hf
    clear hf
    by_cases hlt : j < l.length
    · obtain ⟨ad, x, rfl, hx, hc⟩ := H.out.at_ hlt
      have Hx := Lib.hid hx
      clear hx
      by_cases hxn : x < n
      · go_wp2_with fail
        go_round
        case rel => exact ⟨j + 1, by omega, by go_num, by rw [Hf.out, frst_step Hx.out hxn]; omega⟩
        case measure => simp [intOf]; omega
      · go_wp2_with fail
        go_ret
        exact ⟨ret_int (by rw [Hf.out, frst_stop Hx.out (by omega)]; simp), rfl⟩
    · go_wp2_with fail
      go_ret
      exact ⟨ret_int (by rw [Hf.out, frst_end n (by omega)]; simp; omega), rfl⟩

set_option maxHeartbeats 1600000 in
theorem implSumOf_any (A : Option Addr) (c : Nat) (l : List Int) (w : World) (B : Nat) (h : RdI w B A l) (hn : l.length ≤ 1048576) (il : Items l) :
    Calls Try.prog 96 #[.slice A l.length c] w fun e w' => e = .returned (.int .i64 (sumL 0 l)) ∧ w = w' := by
  have H := Lib.hid h
  have Il := Lib.hid il
  clear h il
  go_enter Try.func96, Try.ntmps96
  go_wp2_with fail
  go_loop [3, 8] (fun su i => ∃ j : Nat, j ≤ l.length ∧ i = .int .i64 j ∧ ∃ s, s = sumL 0 (l.take j) ∧ su = .int .i64 s) (fun _ i => l.length - (intOf i).toNat)
  case atStart => exact ⟨0, Nat.zero_le _, rfl, 0, rfl, rfl⟩
  case round =>
    obtain ⟨j, hj, rfl, s, hs, rfl⟩ := hrel
    have hsi : 0 ≤ s ∧ s ≤ 99 := by rw [hs]; exact sumL_in (by omega) (Il.out.take j)
    have Hs := Lib.hid hs
    clear hs
    by_cases hlt : j < l.length
    · obtain ⟨ad, x, rfl, hx, hc⟩ := H.out.at_ hlt
      have hxi := Il.out.get hx
      have hsw : IntKind.i64.wrap (s + x) = s + x := IntWalk.i64_in _ (by omega)
      have Hss : Hid (sumL 0 (l.take (j + 1)) = rst (s + x)) := Lib.hid (by rw [sumL_succ 0 hx, Hs.out])
      clear hx
      go_wp2_with fail
      refine (implRest_any (s + x) w (by omega)).mono ?_
      rintro e w1 ⟨rfl, rfl⟩
      go_wp2_with fail
      go_round
      case rel => exact ⟨j + 1, by omega, by go_num, _, Hss.out.symm, rfl⟩
      case measure => simp [intOf]; omega
    · obtain rfl : j = l.length := by omega
      rw [List.take_of_length_le (Nat.le_refl _)] at Hs
      go_wp2_with fail
      go_ret
      exact ⟨ret_int (by rw [Hs.out]), rfl⟩

end Go.Proofs.Ytkjhncohanfciaa

/- Contracts: lists out of lists, by the program (item by item). -/
namespace Go.Proofs.Ytkjhncohanfciaa
open Go.RowKit

set_option maxRecDepth 100000 in
set_option maxHeartbeats 3200000 in
theorem implMapped_any (A : Option Addr) (c : Nat) (a : List Int) (n m : Int) (w : World) (B : Nat) (ha : RdI w B A a) (hB : B ≤ w.heap.size) (hn : a.length ≤ 65536) (ia : Items a) (hnb : 0 ≤ n ∧ n ≤ 99) (hmb : 0 ≤ m ∧ m ≤ 99) :
    Calls Try.prog 82 #[.slice A a.length c, .int .i64 n, .int .i64 m] w fun e w' => ∃ R cR, e = .returned (.slice R (mapL n m a).length cR) ∧ OwnJ w' w.heap.size R cR (mapL n m a) ∧ Below w.heap.size w w' := by
  have Ha := Lib.hid ha
  have Ia := Lib.hid ia
  clear ha ia
  go_enter Try.func82, Try.ntmps82
  go_wp2_with fail
  go_loopw [7, 12] (fun sl i wr => ∃ j : Nat, j ≤ a.length ∧ i = .int .i64 j ∧ (∃ R cR, sl = .slice R (mapL n m (a.take j)).length cR ∧ OwnJ wr w.heap.size R cR (mapL n m (a.take j))) ∧ Below w.heap.size w wr) (fun sl i _ => a.length - (intOf i).toNat)
  case atStart => exact ⟨0, Nat.zero_le _, rfl, ⟨none, 0, rfl, OwnJ.nil_ _ _⟩, Below.refl _ _⟩
  case round =>
    obtain ⟨j, hj, rfl, ⟨R, cR, rfl, ho⟩, hb⟩ := hrel
    have hz := hb.size
    obtain ⟨m0, hm0⟩ : ∃ q0, (mapL n m (a.take j)).length = q0 := ⟨_, rfl⟩
    have hmj : m0 ≤ j := by rw [← hm0]; exact Nat.le_trans (Nat.le_of_eq (mapL_len n m _)) (List.length_take_le _ _)
    rw [hm0]
    have Hm0 := Lib.hid hm0
    have Ho := Lib.hid ho
    have Hbw := Lib.hid hb
    have Ha2 := Lib.hid (Ha.out.below hb hB)
    clear ho hb hm0
    by_cases h1 : j < a.length
    · obtain ⟨ad, x, rfl, hx, hc⟩ := Ha2.out.at_ h1
      have hxi := Ia.out.get hx
      have Hx := Lib.hid hx
      clear hx
      have h1' : 0 ≤ n * x := Int.mul_nonneg hnb.1 hxi.1
      have h2' : n * x ≤ 99 * 99 := Int.mul_le_mul hnb.2 hxi.2 hxi.1 (by omega)
      have h3 : IntKind.i64.wrap (n * x) = n * x := IntWalk.i64_in _ (by omega)
      have h4 : IntKind.i64.wrap (n * x + m) = n * x + m := IntWalk.i64_in _ (by omega)
      go_wp2_with fail
      refine (implRest_any (n * x + m) wr (by omega)).mono ?_
      rintro e w1 ⟨rfl, rfl⟩
      go_wp2_with (at_builtin; go_must (refine wpList_append_int rfl _ _ rfl w.heap.size R cR _ (rst (n * x + m)) m0 Hm0.out rfl Ho.out _ rfl rfl (by omega) (by omega) ?_; intro R2 c2' w2 ho2 hg2); have hbb := (Hbw.out.alloc hz _).grown hg2 (by simp; omega) (fun g hg => (Ho.out.row_lt g hg).1); have Hbb := Lib.hid hbb; have Ho2 := Lib.hid ho2; clear ho2 hg2 hbb)
      go_roundw
      case rel =>
        have hF : mapL n m (a.take (j + 1)) = mapL n m (a.take j) ++ [rst (n * x + m)] := mapL_succ n m Hx.out
        exact ⟨j + 1, by omega, by go_num, ⟨R2, c2', by rw [hF, List.length_append, Hm0.out]; rfl, by rw [hF]; exact Ho2.out⟩, Hbb.out⟩
      case measure => simp [intOf]; omega
    · obtain rfl : j = a.length := by omega
      have Hm1 := Hm0.out
      have Ho1 := Ho.out
      rw [List.take_of_length_le (Nat.le_refl _)] at Hm1 Ho1
      have HM := Lib.hid Hm1
      have HO := Lib.hid Ho1
      clear Hm1 Ho1
      go_wp2_with fail
      go_ret
      exact ⟨R, cR, ret_slice (by rw [HM.out]), HO.out, Hbw.out⟩

set_option maxRecDepth 100000 in
set_option maxHeartbeats 3200000 in
theorem implScanned_any (A : Option Addr) (c : Nat) (a : List Int) (w : World) (B : Nat) (ha : RdI w B A a) (hB : B ≤ w.heap.size) (hn : a.length ≤ 65536) (ia : Items a) :
    Calls Try.prog 85 #[.slice A a.length c] w fun e w' => ∃ R cR, e = .returned (.slice R (scanL 0 a).length cR) ∧ OwnJ w' w.heap.size R cR (scanL 0 a) ∧ Below w.heap.size w w' := by
  have Ha := Lib.hid ha
  have Ia := Lib.hid ia
  clear ha ia
  go_enter Try.func85, Try.ntmps85
  go_wp2_with fail
  go_loopw [3, 4, 9] (fun sl su i wr => ∃ j : Nat, j ≤ a.length ∧ i = .int .i64 j ∧ (∃ s, s = sumL 0 (a.take j) ∧ su = .int .i64 s) ∧ (∃ R cR, sl = .slice R (scanL 0 (a.take j)).length cR ∧ OwnJ wr w.heap.size R cR (scanL 0 (a.take j))) ∧ Below w.heap.size w wr) (fun sl su i _ => a.length - (intOf i).toNat)
  case atStart => exact ⟨0, Nat.zero_le _, rfl, ⟨0, rfl, rfl⟩, ⟨none, 0, rfl, OwnJ.nil_ _ _⟩, Below.refl _ _⟩
  case round =>
    obtain ⟨j, hj, rfl, ⟨s, hs, rfl⟩, ⟨R, cR, rfl, ho⟩, hb⟩ := hrel
    have hz := hb.size
    obtain ⟨m0, hm0⟩ : ∃ q0, (scanL 0 (a.take j)).length = q0 := ⟨_, rfl⟩
    have hmj : m0 ≤ j := by rw [← hm0]; exact Nat.le_trans (Nat.le_of_eq (scanL_len _ _)) (List.length_take_le _ _)
    have hsi : 0 ≤ s ∧ s ≤ 99 := by rw [hs]; exact sumL_in (by omega) (Ia.out.take j)
    have Hs := Lib.hid hs
    clear hs
    rw [hm0]
    have Hm0 := Lib.hid hm0
    have Ho := Lib.hid ho
    have Hbw := Lib.hid hb
    have Ha2 := Lib.hid (Ha.out.below hb hB)
    clear ho hb hm0
    by_cases h1 : j < a.length
    · obtain ⟨ad, x, rfl, hx, hc⟩ := Ha2.out.at_ h1
      have hxi := Ia.out.get hx
      have Hx := Lib.hid hx
      clear hx
      have hsw : IntKind.i64.wrap (s + x) = s + x := IntWalk.i64_in _ (by omega)
      have Hss : Hid (sumL 0 (a.take (j + 1)) = rst (s + x)) := Lib.hid (by rw [sumL_succ 0 Hx.out, Hs.out])
      go_wp2_with fail
      refine (implRest_any (s + x) wr (by omega)).mono ?_
      rintro e w1 ⟨rfl, rfl⟩
      go_wp2_with (at_builtin; go_must (refine wpList_append_int rfl _ _ rfl w.heap.size R cR _ (rst (s + x)) m0 Hm0.out rfl Ho.out _ rfl rfl (by omega) (by omega) ?_; intro R2 c2' w2 ho2 hg2); have hbb := (Hbw.out.alloc hz _).grown hg2 (by simp; omega) (fun g hg => (Ho.out.row_lt g hg).1); have Hbb := Lib.hid hbb; have Ho2 := Lib.hid ho2; clear ho2 hg2 hbb)
      go_roundw
      case rel =>
        have hF : scanL 0 (a.take (j + 1)) = scanL 0 (a.take j) ++ [rst (s + x)] := by rw [scanL_succ 0 Hx.out, Hss.out]
        exact ⟨j + 1, by omega, by go_num, ⟨_, Hss.out.symm, rfl⟩, ⟨R2, c2', by rw [hF, List.length_append, Hm0.out]; rfl, by rw [hF]; exact Ho2.out⟩, Hbb.out⟩
      case measure => simp [intOf]; omega
    · obtain rfl : j = a.length := by omega
      have Hm1 := Hm0.out
      have Ho1 := Ho.out
      rw [List.take_of_length_le (Nat.le_refl _)] at Hm1 Ho1
      have HM := Lib.hid Hm1
      have HO := Lib.hid Ho1
      clear Hm1 Ho1
      go_wp2_with fail
      go_ret
      exact ⟨R, cR, ret_slice (by rw [HM.out]), HO.out, Hbw.out⟩

set_option maxRecDepth 100000 in
set_option maxHeartbeats 3200000 in
theorem implFiltered_any (A : Option Addr) (c : Nat) (a : List Int) (n m : Int) (w : World) (B : Nat) (ha : RdI w B A a) (hB : B ≤ w.heap.size) (hn : a.length ≤ 65536) (ia : Items a) (hnb : 1 ≤ n ∧ n ≤ 99) :
    Calls Try.prog 83 #[.slice A a.length c, .int .i64 n, .int .i64 m] w fun e w' => ∃ R cR, e = .returned (.slice R (filL n m a).length cR) ∧ OwnJ w' w.heap.size R cR (filL n m a) ∧ Below w.heap.size w w' := by
  have Ha := Lib.hid ha
  have Ia := Lib.hid ia
  clear ha ia
  go_enter Try.func83, Try.ntmps83
  go_wp2_with fail
  go_loopw [7, 12] (fun sl i wr => ∃ j : Nat, j ≤ a.length ∧ i = .int .i64 j ∧ (∃ R cR, sl = .slice R (filL n m (a.take j)).length cR ∧ OwnJ wr w.heap.size R cR (filL n m (a.take j))) ∧ Below w.heap.size w wr) (fun sl i _ => a.length - (intOf i).toNat)
  case atStart => exact ⟨0, Nat.zero_le _, rfl, ⟨none, 0, rfl, OwnJ.nil_ _ _⟩, Below.refl _ _⟩
  case round =>
    obtain ⟨j, hj, rfl, ⟨R, cR, rfl, ho⟩, hb⟩ := hrel
    have hz := hb.size
    obtain ⟨m0, hm0⟩ : ∃ q0, (filL n m (a.take j)).length = q0 := ⟨_, rfl⟩
    have hmj : m0 ≤ j := by rw [← hm0]; exact Nat.le_trans (filL_len n m _) (List.length_take_le _ _)
    rw [hm0]
    have Hm0 := Lib.hid hm0
    have Ho := Lib.hid ho
    have Hbw := Lib.hid hb
    have Ha2 := Lib.hid (Ha.out.below hb hB)
    clear ho hb hm0
    by_cases h1 : j < a.length
    · obtain ⟨ad, x, rfl, hx, hc⟩ := Ha2.out.at_ h1
      have hxi := Ia.out.get hx
      have Hx := Lib.hid hx
      clear hx
      have hz : n ≠ 0 := by omega
      obtain ⟨r, hr⟩ : ∃ r, x.tmod n = r := ⟨_, rfl⟩
      have hr2 : IntKind.i64.wrap r = r := by
        rw [← hr, Int.tmod_eq_emod_of_nonneg hxi.1]
        have h1 := Int.emod_nonneg x hz
        have h2 := Int.emod_lt_of_pos x (show 0 < n by omega)
        exact IntWalk.i64_in _ (by omega)
      by_cases hk : r = m
      · have HF : Hid (filL n m (a.take (j + 1)) = filL n m (a.take j) ++ [x]) := Lib.hid (by rw [filL_succ n m Hx.out, hr, hk]; simp)
        have hkb : (r == m) = true := by rw [beq_iff_eq]; exact hk
        clear hk
        go_wp2_with (at_builtin; go_must (refine wpList_append_int rfl _ _ rfl w.heap.size R cR _ x m0 Hm0.out rfl Ho.out _ rfl rfl (by omega) Hbw.out.size ?_; intro R2 c2' w2 ho2 hg2); have hbb := (Hbw.out.alloc (Nat.le_trans (Nat.le_refl _) Hbw.out.size) _).grown hg2 (by have := Hbw.out.size; simp; omega) (fun g hg => (Ho.out.row_lt g hg).1); have Hbb := Lib.hid hbb; have Ho2 := Lib.hid ho2; clear ho2 hg2 hbb)
        go_roundw
        case rel =>
          have hF : filL n m (a.take (j + 1)) = filL n m (a.take j) ++ [x] := HF.out
          exact ⟨j + 1, by omega, by go_num, ⟨R2, c2', by rw [hF, List.length_append, Hm0.out]; rfl, by rw [hF]; exact Ho2.out⟩, Hbb.out⟩
        case measure => simp [intOf]; omega
      · have HF : Hid (filL n m (a.take (j + 1)) = filL n m (a.take j)) := Lib.hid (by rw [filL_succ n m Hx.out, hr]; simp [hk])
        have hkb : (r == m) = false := by rw [beq_eq_false_iff_ne]; exact hk
        clear hk
        go_wp2_with fail
        go_roundw
        case rel => exact ⟨j + 1, by omega, by go_num, ⟨R, cR, by rw [HF.out, Hm0.out], by rw [HF.out]; exact Ho.out⟩, Hbw.out⟩
        case measure => simp [intOf]; omega
    · obtain rfl : j = a.length := by omega
      have Hm1 := Hm0.out
      have Ho1 := Ho.out
      rw [List.take_of_length_le (Nat.le_refl _)] at Hm1 Ho1
      have HM := Lib.hid Hm1
      have HO := Lib.hid Ho1
      clear Hm1 Ho1
      go_wp2_with fail
      go_ret
      exact ⟨R, cR, ret_slice (by rw [HM.out]), HO.out, Hbw.out⟩

end Go.Proofs.Ytkjhncohanfciaa

/- Contracts: sums of groups, by the reference. -/
namespace Go.Proofs.Ytkjhncohanfciaa
open Go.RowKit

theorem OwnJ.stored {w : World} {base g c m k : Nat} {l : List Int} (h : OwnJ w base (some ⟨g, 0, none⟩) c l) (hl : l.length = m) (u : Int) :
    (w.setCell ⟨g, k, none⟩ (.int .i64 u)).ownsRow base 3 1 (.slice (some ⟨g, 0, none⟩) m c) m (ints (l.set k u)) := by
  subst hl
  have := (World.ownsRow.stored h k (.int .i64 u)).1
  rwa [show (ints l).set k (.int .i64 u) = ints (l.set k u) from by simp [ints, List.map_set]] at this
theorem batTo_app {n : Nat} {a : List Int} {j m : Nat} {o : List Int} {x y : Int} (ho : o = if j % n = 0 then batTo n a j ++ [0] else batTo n a j) (hm : o.length = m + 1) (hy : o[m]? = some y) (hx : a[j]? = some x) : batTo n a (j + 1) = o.set m (rst (y + x)) := by
  subst ho
  simp only [batTo]
  rw [hm, Nat.add_sub_cancel, List.getD_eq_getElem?_getD, List.getD_eq_getElem?_getD, hy, hx]
  rfl
theorem batTo_items {n : Nat} {a : List Int} (ha : Items a) : ∀ j, Items (batTo n a j)
  | 0 => Items.nil_
  | j + 1 => by
    have ih := batTo_items (n := n) ha j
    have h0 : Items (if j % n = 0 then batTo n a j ++ [0] else batTo n a j) := by
      split
      · exact ih.app (fun x hx => by simp at hx; omega)
      · exact ih
    intro z hz
    simp only [batTo] at hz
    rcases List.mem_or_eq_of_mem_set hz with e | e
    · exact h0 z e
    · subst e
      refine rst_in ?_
      have h1 : 0 ≤ (if j % n = 0 then batTo n a j ++ [0] else batTo n a j).getD ((if j % n = 0 then batTo n a j ++ [0] else batTo n a j).length - 1) 0 := by
        rw [List.getD_eq_getElem?_getD]
        cases e : (if j % n = 0 then batTo n a j ++ [0] else batTo n a j)[(if j % n = 0 then batTo n a j ++ [0] else batTo n a j).length - 1]? with
        | none => simp
        | some v => exact (h0.get e).1
      have h2 : 0 ≤ a.getD j 0 := by
        rw [List.getD_eq_getElem?_getD]
        cases e : a[j]? with
        | none => simp
        | some v => exact (ha.get e).1
      omega

set_option maxRecDepth 100000 in
set_option maxHeartbeats 6400000 in
theorem specBatched_any (A : Option Addr) (c : Nat) (a : List Int) (n : Nat) (w : World) (B : Nat) (ha : RdI w B A a) (hB : B ≤ w.heap.size) (hn : a.length ≤ 65536) (hn0 : 0 < n) (hn1 : n ≤ 65536) (ia : Items a) :
    Calls Try.prog 74 #[.slice A a.length c, .int .i64 n] w fun e w' => ∃ R cR, e = .returned (.slice R (batL n a).length cR) ∧ OwnJ w' w.heap.size R cR (batL n a) ∧ Below w.heap.size w w' := by
  have Ha := Lib.hid ha
  have hbe : Below w.heap.size w (w.alloc (.cells #[] 3)) := (Below.refl _ _).alloc (Nat.le_refl _) _
  have Hbe := Lib.hid hbe
  have He := Lib.hid (emptyJ w)
  have Ia := Lib.hid ia
  have hnz : (n : Int) ≠ 0 := by omega
  clear ha hbe ia
  go_enter Try.func74, Try.ntmps74
  go_wp2_with fail
  go_loopw [5, 6] (fun sl i wr => ∃ j : Nat, j ≤ a.length ∧ i = .int .i64 j ∧ (∃ R cR, sl = .slice R (batTo n a j).length cR ∧ OwnJ wr w.heap.size R cR (batTo n a j)) ∧ Below w.heap.size w wr) (fun _ i _ => a.length - (intOf i).toNat)
  case atStart => exact ⟨0, Nat.zero_le _, rfl, ⟨_, _, rfl, He.out⟩, Hbe.out⟩
  case round =>
    obtain ⟨j, hj, rfl, ⟨R, cR, rfl, ho⟩, hb⟩ := hrel
    have hz := hb.size
    have hlen := batTo_len n a j
    have hp := batTo_pos hn0 a j
    have Ib := Lib.hid (batTo_items (n := n) Ia.out j)
    have Ha2 := Lib.hid (Ha.out.below hb hB)
    have Ho := Lib.hid ho
    have Hbw := Lib.hid hb
    obtain ⟨m0, hm0⟩ : ∃ m, (batTo n a j).length = m := ⟨_, rfl⟩
    rw [hm0] at hlen hp
    rw [hm0]
    have Hm0 := Lib.hid hm0
    clear ho hb hm0
    by_cases h1 : j < a.length
    · obtain ⟨ad, x, rfl, hx, hc⟩ := Ha2.out.at_ h1
      have hxi := Ia.out.get hx
      have Hx := Lib.hid hx
      have htm : (j : Int).tmod (n : Int) = ((j % n : Nat) : Int) := (Int.ofNat_tmod j n).symm
      clear hx
      by_cases h0 : j % n = 0
      · have htm0 : (j : Int).tmod (n : Int) = 0 := by rw [htm, h0]; rfl
        clear htm
        go_wp2_with (at_builtin; go_must (refine wpList_append_int rfl _ _ rfl w.heap.size R cR (batTo n a j) 0 m0 Hm0.out rfl Ho.out _ rfl rfl (by omega) (by omega) ?_; intro R2 c2' w2 ho2 hg2); have hbb := (Hbw.out.alloc hz _).grown hg2 (by simp; omega) (fun g hg => (Ho.out.row_lt g hg).1); have hcx := (Ha.out.below hbb hB).val Hx.out; have hz2 := hbb.size; have Hbb := Lib.hid hbb; have Ho2 := Lib.hid ho2; clear ho2 hg2 hbb)
        have hl2 : Hid ((batTo n a j ++ [0]).length = m0 + 1) := Lib.hid (by rw [List.length_append, Hm0.out]; rfl)
        have hy2 : Hid ((batTo n a j ++ [0])[m0]? = some 0) := Lib.hid (by rw [← Hm0.out]; simp)
        obtain ⟨g, cs, rfl, hg0, hbk, _, hcs⟩ := Ho2.out.bk (by rw [hl2.out]; omega)
        have hcy : w2.cell? ⟨g, m0, none⟩ = some (.int .i64 0) := by rw [hbk.cell]; exact hcs m0 0 hy2.out
        have hfy : w2.frozen? ⟨g, m0, none⟩ = false := hbk.free m0
        have hgl := hbk.lt
        have hs1 : IntKind.i64.wrap ((m0 : Int) + 1 - 1) = m0 := by rw [show (m0 : Int) + 1 - 1 = m0 by omega]; exact IntWalk.i64_in _ (by omega)
        have hs2 : IntKind.i64.wrap (0 + x) = x := by rw [Int.zero_add]; exact IntWalk.i64_in _ (by omega)
        have hr : x.tmod 100 = rst (0 + x) := by rw [Int.zero_add]; rfl
        clear hbk hcs
        go_region
        go_wp2_with fail
        go_roundw
        case rel =>
          have hB1 : batTo n a (j + 1) = (batTo n a j ++ [0]).set m0 (rst x) := by rw [← Int.zero_add x]; exact batTo_app (by rw [if_pos h0]) hl2.out hy2.out Hx.out
          have hst := OwnJ.stored (k := m0) Ho2.out hl2.out (rst x)
          refine ⟨j + 1, by omega, by go_num, ⟨some ⟨g, 0, none⟩, c2', by rw [hB1, List.length_set, hl2.out], ?_⟩, (Hbb.out.setCell (p := ⟨g, m0, none⟩) hg0 _).drew⟩
          unfold OwnJ
          rw [hB1, List.length_set, hl2.out]
          exact hst
        case measure => simp [intOf]; omega
      · obtain ⟨m, rfl⟩ : ∃ m, m0 = m + 1 := ⟨m0 - 1, by have := hp (Nat.pos_of_ne_zero (fun e => h0 (by rw [e, Nat.zero_mod]))); omega⟩
        have htm0 : (j : Int).tmod (n : Int) ≠ 0 := by rw [htm]; omega
        obtain ⟨y, hy⟩ := get_of_lt (batTo n a j) (k := m) (by rw [Hm0.out]; omega)
        have hyi := Ib.out.get hy
        obtain ⟨g, cs, rfl, hg0, hbk, _, hcs⟩ := Ho.out.bk (by rw [Hm0.out]; omega)
        have hcy : wr.cell? ⟨g, m, none⟩ = some (.int .i64 y) := by rw [hbk.cell]; exact hcs m y hy
        have hfy : wr.frozen? ⟨g, m, none⟩ = false := hbk.free m
        have hgl := hbk.lt
        have hs1 : IntKind.i64.wrap ((m : Int) + 1 - 1) = m := by rw [show (m : Int) + 1 - 1 = m by omega]; exact IntWalk.i64_in _ (by omega)
        have hs2 : IntKind.i64.wrap (y + x) = y + x := IntWalk.i64_in _ (by omega)
        have hr : (y + x).tmod 100 = rst (y + x) := rfl
        have Hy := Lib.hid hy
        clear hbk hcs htm hy
        go_wp2_with fail
        go_region
        go_wp2_with fail
        go_roundw
        case rel =>
          have hB1 : batTo n a (j + 1) = (batTo n a j).set m (rst (y + x)) := batTo_app (by rw [if_neg h0]) Hm0.out Hy.out Hx.out
          have hst := OwnJ.stored (k := m) Ho.out Hm0.out (rst (y + x))
          refine ⟨j + 1, by omega, by go_num, ⟨some ⟨g, 0, none⟩, cR, by rw [hB1, List.length_set, Hm0.out], ?_⟩, (Hbw.out.setCell (p := ⟨g, m, none⟩) hg0 _).drew⟩
          unfold OwnJ
          rw [hB1, List.length_set, Hm0.out]
          exact hst
        case measure => simp [intOf]; omega
    · obtain rfl : j = a.length := by omega
      go_wp2_with fail
      go_ret
      exact ⟨R, cR, ret_slice (by rw [← Hm0.out]; rfl), Ho.out, Hbw.out⟩

end Go.Proofs.Ytkjhncohanfciaa

/- Plain mathematics: the list of the tree of a node. -/
namespace Go.Proofs.Ytkjhncohanfciaa

/-- What a node makes of the list below. -/
def stemL (x : Nd) (l : List Int) : List Int :=
  if x.k = 1 then mapL x.n x.m l else
  if x.k = 2 then filL x.n x.m l else
  if x.k = 3 then l.take x.n.toNat else
  if x.k = 4 then l.drop x.n.toNat else
  if x.k = 5 then l.take (frst l x.n) else
  if x.k = 6 then l.drop (frst l x.n) else
  if x.k = 11 then scanL 0 l else
  if x.k = 12 then batL x.n.toNat l else Lib.compact l
/-- What a node makes of the lists below. -/
def forkL (x : Nd) (a b : List Int) : List Int :=
  if x.k = 7 then a ++ b else if x.k = 8 then zipL a b else if x.k = 9 then mergeL a b else turnL a b
/-- The list of a tree. -/
def lst (src : List (List Int)) : T → List Int
  | .leaf x => src.getD x.n.toNat []
  | .stem x t => stemL x (lst src t)
  | .fork x a b => forkL x (lst src a) (lst src b)

/-- The numbers of each node of the tree are those of its kind. -/
def T.nums : T → Prop
  | .leaf x => numsOk x = true
  | .stem x t => numsOk x = true ∧ t.nums
  | .fork x a b => numsOk x = true ∧ a.nums ∧ b.nums
theorem IsTree.nums {l : List Nd} (hp : PipeOk l) {i : Nat} {t : T} (h : IsTree l i t) : t.nums := by
  have ok : ∀ (i : Nat) (x : Nd), l[i]? = some x → numsOk x = true := fun i x hx => by
    have h1 := hp.node i x hx
    simp only [nodeOk, Bool.and_eq_true] at h1
    exact h1.1
  induction h with
  | leaf hx => exact ok _ _ hx
  | stem hx _ _ _ _ _ ih => exact ⟨ok _ _ hx, ih⟩
  | fork hx _ _ _ _ _ _ _ iha ihb => exact ⟨ok _ _ hx, iha, ihb⟩

theorem stemL_len {x : Nd} {l : List Int} : (stemL x l).length ≤ l.length := by
  unfold stemL
  split
  · exact Nat.le_of_eq (mapL_len _ _ _)
  split
  · exact filL_len _ _ _
  split
  · rw [List.length_take]; omega
  split
  · rw [List.length_drop]; omega
  split
  · rw [List.length_take]; omega
  split
  · rw [List.length_drop]; omega
  split
  · exact Nat.le_of_eq (scanL_len _ _)
  split
  · exact batTo_len _ _ _
  · exact compact_len _
theorem forkL_len {x : Nd} {a b : List Int} : (forkL x a b).length ≤ a.length + b.length := by
  unfold forkL
  split
  · rw [List.length_append]; omega
  split
  · rw [zipL_len]; omega
  split
  · rw [mergeL_len]; omega
  · rw [turnL_len]; omega
theorem stemL_items {x : Nd} {l : List Int} (hx : numsOk x = true) (h : Items l) : Items (stemL x l) := by
  unfold stemL
  split
  · rename_i e
    simp [numsOk, e, inR] at hx
    exact mapL_items (by omega) (by omega) h
  split
  · exact filL_items h
  split
  · exact h.take _
  split
  · exact h.drop _
  split
  · exact h.take _
  split
  · exact h.drop _
  split
  · exact scanL_items (by omega) h
  split
  · exact batTo_items h _
  · exact compact_items h
theorem forkL_items {x : Nd} {a b : List Int} (ha : Items a) (hb : Items b) : Items (forkL x a b) := by
  unfold forkL
  split
  · exact ha.app hb
  split
  · exact zipL_items ha hb
  split
  · exact mergeL_items ha hb
  · exact turnTo_items ha hb _

theorem src_items {src : List (List Int)} (hs : srcOk src = true) {k : Nat} {r : List Int} (hr : src[k]? = some r) : Items r ∧ r.length ≤ 12 := by
  simp only [srcOk, Bool.and_eq_true] at hs
  have h1 := List.all_eq_true.1 hs.1 r (List.mem_of_getElem? hr)
  simp only [rowOk, Bool.and_eq_true, decide_eq_true_eq] at h1
  refine ⟨fun x hx => ?_, h1.1⟩
  have := List.all_eq_true.1 h1.2 x hx
  exact inR_iff.1 this
theorem lst_items {src : List (List Int)} (hs : srcOk src = true) : ∀ {t : T}, t.nums → Items (lst src t)
  | .leaf x, _ => by
    unfold lst
    rw [List.getD_eq_getElem?_getD]
    cases e : src[x.n.toNat]? with
    | none => exact Items.nil_
    | some r => exact (src_items hs e).1
  | .stem x t, h => stemL_items h.1 (lst_items hs h.2)
  | .fork x a b, h => forkL_items (lst_items hs h.2.1) (lst_items hs h.2.2)
theorem lst_len {src : List (List Int)} (hs : srcOk src = true) : ∀ (t : T), (lst src t).length ≤ 12 * 2 ^ (t.depth - 1)
  | .leaf x => by
    unfold lst
    rw [List.getD_eq_getElem?_getD]
    cases e : src[x.n.toNat]? with
    | none => simp
    | some r => have := (src_items hs e).2; simpa [T.depth] using this
  | .stem x t => by
    have h1 := lst_len hs t
    have h2 : (lst src (.stem x t)).length ≤ (lst src t).length := stemL_len
    have h3 : 2 ^ (t.depth - 1) ≤ 2 ^ ((T.stem x t).depth - 1) := Nat.pow_le_pow_right (by omega) (by simp only [T.depth]; omega)
    omega
  | .fork x a b => by
    have h1 := lst_len hs a
    have h2 := lst_len hs b
    have h3 : (lst src (.fork x a b)).length ≤ (lst src a).length + (lst src b).length := forkL_len
    have hp := T.depth_pos a
    have hq := T.depth_pos b
    have h4 : 2 ^ (a.depth - 1) ≤ 2 ^ (max a.depth b.depth - 1) := Nat.pow_le_pow_right (by omega) (by omega)
    have h5 : 2 ^ (b.depth - 1) ≤ 2 ^ (max a.depth b.depth - 1) := Nat.pow_le_pow_right (by omega) (by omega)
    have h6 : 2 ^ ((T.fork x a b).depth - 1) = 2 * 2 ^ (max a.depth b.depth - 1) := by
      rw [show (T.fork x a b).depth - 1 = (max a.depth b.depth - 1) + 1 by simp only [T.depth]; omega, Nat.pow_succ]
      omega
    omega
theorem lst_short {src : List (List Int)} (hs : srcOk src = true) {t : T} (ht : t.depth ≤ 12) : (lst src t).length ≤ 24576 := by
  have h1 := lst_len hs t
  have h2 : 2 ^ (t.depth - 1) ≤ 2 ^ 11 := Nat.pow_le_pow_right (by omega) (by omega)
  omega

end Go.Proofs.Ytkjhncohanfciaa

/- Slices of numbers of the call's own that begin anywhere in their block: cut, read, and appended to by other slices. -/
namespace Go.Proofs.Ytkjhncohanfciaa
open Go.RowKit

/-- The slice at A, with room for c, holds the numbers l in memory from block base on. -/
def OwnV (w : World) (base : Nat) (A : Option Addr) (c : Nat) (l : List Int) : Prop :=
  (A = none ∧ c = 0 ∧ l = []) ∨ ∃ g o cs, A = some ⟨g, o, none⟩ ∧ base ≤ g ∧ Bk w g 3 cs ∧ o + c ≤ cs.length ∧ l.length ≤ c ∧ ∀ (k : Nat) (x : Int), l[k]? = some x → cs[o + k]? = some (.int .i64 x)

section
variable {w w' : World} {base b2 c : Nat} {A : Option Addr} {l : List Int}
theorem OwnV.len_le (h : OwnV w base A c l) : l.length ≤ c := by
  rcases h with ⟨_, rfl, rfl⟩ | ⟨g, o, cs, _, _, _, _, h, _⟩
  · simp
  · exact h
theorem OwnV.base_ (h : OwnV w base A c l) (hb : b2 ≤ base) : OwnV w b2 A c l :=
  h.imp id fun ⟨g, o, cs, h1, h2, h3⟩ => ⟨g, o, cs, h1, Nat.le_trans hb h2, h3⟩
theorem OwnV.row_lt (h : OwnV w base A c l) : ∀ g, rowOf A = some g → base ≤ g ∧ g < w.heap.size := fun g hg => by
  rcases h with ⟨rfl, _, _⟩ | ⟨g', o, cs, rfl, hb, hbk, _⟩
  · cases hg
  · have : g' = g := Option.some.inj hg
    subst this
    exact ⟨hb, hbk.lt⟩
theorem OwnV.grown {row : Option Nat} (h : OwnV w base A c l) (hg : w.grownBy w' row) (hne : rowOf A = none ∨ rowOf A ≠ row) : OwnV w' base A c l := by
  rcases h with h | ⟨g, o, cs, rfl, hb, hbk, r⟩
  · exact .inl h
  · refine .inr ⟨g, o, cs, rfl, hb, ?_, r⟩
    have : some g ≠ row := hne.elim (fun e => by cases e) id
    exact (hg.block g hbk.lt this).trans hbk
theorem OwnV.below {C : Nat} (h : OwnV w base A c l) (hb : Below C w w') (hC : w.heap.size ≤ C) : OwnV w' base A c l :=
  h.imp id fun ⟨g, o, cs, h1, h2, h3, r⟩ => ⟨g, o, cs, h1, h2, h3.below hb (by have := h3.lt; omega), r⟩
theorem OwnV.rd (h : OwnV w base A c l) : RdI w w.heap.size A l := fun hn => by
  rcases h with ⟨_, _, rfl⟩ | ⟨g, o, cs, rfl, hb, hbk, _, _, hc⟩
  · exact absurd hn (by simp)
  · exact ⟨_, rfl, hbk.lt, fun k x hx => by rw [Addr.add_lit, hbk.cell]; exact hc k x hx⟩
theorem OwnV.ownI (h : OwnV w base A c l) : OwnI w base w.heap.size A l := fun hn => by
  rcases h with ⟨_, _, rfl⟩ | ⟨g, o, cs, rfl, hb, hbk, _, _, hc⟩
  · exact absurd hn (by simp)
  · exact ⟨g, o, cs, rfl, hb, hbk.lt, hbk, hc⟩
theorem OwnJ.ownV (h : OwnJ w base A c l) : OwnV w base A c l := by
  obtain ⟨h1, ⟨hv, h0⟩ | ⟨g, cap, cur, hv, hb, hh, hn, _, hcs, ht⟩⟩ := h
  · injection hv with hA _ hc
    exact .inl ⟨hA, hc, List.eq_nil_of_length_eq_zero h0⟩
  · injection hv with hA _ hc
    subst hc
    refine .inr ⟨g, 0, cur.toList, hA, hb, by unfold Bk; simpa using hh, by simp; omega, hn, fun k x hx => ?_⟩
    have hk : k < l.length := (List.getElem?_eq_some_iff.1 hx).1
    have : (cur.toList.take (l.length * 1))[k]? = some (.int .i64 x) := by rw [ht, ints_get, hx]; rfl
    rw [Nat.zero_add]
    rwa [List.getElem?_take_of_lt (by omega)] at this
theorem OwnV.take (h : OwnV w base A c l) (n : Nat) : OwnV w base A c (l.take n) := by
  rcases h with ⟨hA, hc, rfl⟩ | ⟨g, o, cs, hA, hb, hbk, h1, h2, hc⟩
  · exact .inl ⟨hA, hc, by simp⟩
  · refine .inr ⟨g, o, cs, hA, hb, hbk, h1, Nat.le_trans (List.length_take_le' _ _) h2, fun k x hx => hc k x ?_⟩
    rw [List.getElem?_take] at hx
    split at hx
    · exact hx
    · cases hx
theorem OwnV.drop {g o : Nat} (h : OwnV w base (some ⟨g, o, none⟩) c l) (n : Nat) (hn : n ≤ l.length) : OwnV w base (some ⟨g, o + n, none⟩) (c - n) (l.drop n) := by
  rcases h with ⟨hA, _, _⟩ | ⟨g', o', cs, hA, hb, hbk, h1, h2, hc⟩
  · cases hA
  · obtain ⟨rfl, rfl⟩ : g = g' ∧ o = o' := by injection hA with hA; injection hA with a b; exact ⟨a, b⟩
    refine .inr ⟨g, o + n, cs, rfl, hb, hbk, by omega, by rw [List.length_drop]; omega, fun k x hx => ?_⟩
    rw [List.getElem?_drop] at hx
    rw [Nat.add_assoc]
    exact hc (n + k) x hx
end

/-- Cells from o on are those of vs. -/
def setMany (cs : List Value) : Nat → List Value → List Value
  | _, [] => cs
  | o, v :: vs => setMany (cs.set o v) (o + 1) vs
theorem setMany_len : ∀ (vs cs : List Value) (o : Nat), (setMany cs o vs).length = cs.length
  | [], _, _ => rfl
  | v :: vs, cs, o => by rw [setMany, setMany_len vs]; simp
theorem setMany_low : ∀ (vs cs : List Value) (o k : Nat), k < o → (setMany cs o vs)[k]? = cs[k]?
  | [], _, _, _, _ => rfl
  | v :: vs, cs, o, k, h => by rw [setMany, setMany_low vs _ _ _ (by omega), List.getElem?_set_ne (by omega)]
theorem setMany_in : ∀ (vs cs : List Value) (o j : Nat), o + vs.length ≤ cs.length → j < vs.length → (setMany cs o vs)[o + j]? = vs[j]?
  | [], _, _, _, _, h => absurd h (by simp)
  | v :: vs, cs, o, 0, h1, h2 => by
    simp only [List.length_cons] at h1
    rw [setMany, setMany_low vs _ _ _ (by omega), Nat.add_zero, List.getElem?_set_self (by omega)]
    rfl
  | v :: vs, cs, o, j + 1, h1, h2 => by
    simp only [List.length_cons] at h1 h2
    rw [setMany, show o + (j + 1) = (o + 1) + j by omega, setMany_in vs _ _ _ (by simp; omega) (by omega)]
    rfl
theorem Bk.setCells {g : Nat} {t : TypeId} : ∀ (vs : List Value) {w : World} {cs : List Value} (o : Nat), Bk w g t cs → Bk (w.setCells g o vs) g t (setMany cs o vs)
  | [], _, _, _, h => h
  | v :: vs, w, cs, o, h => by rw [World.setCells, setMany]; exact Bk.setCells vs (o + 1) (h.set_ o v)

theorem setCells_grown {g : Nat} : ∀ (vs : List Value) {a w : World} (o : Nat), a.grownBy w (some g) → a.grownBy (w.setCells g o vs) (some g)
  | [], _, _, _, h => h
  | v :: vs, a, w, o, h => by rw [World.setCells]; exact setCells_grown vs (o + 1) (grown_one h o v)

/-- The numbers of one slice are appended to another one of the call's own. -/
theorem run_append_ints (w : World) (base : Nat) (A : Option Addr) (c : Nat) (l : List Int) (h : OwnV w base A c l) (A2 : Option Addr) (c2 : Nat) (b : List Int) (B : Nat) (hb : RdI w B A2 b) (hn : l.length + b.length ≤ 1048576) (hz : base ≤ w.heap.size) (ty : TypeId) :
    ∃ A' c' w', (Builtin.append_ #[28, 28] ty #[.slice A l.length c, .slice A2 b.length c2]).run Try.prog w = .ok (.slice A' (l.length + b.length) c') w' ∧ OwnV w' base A' c' (l ++ b) ∧ w.grownBy w' (rowOf A) := by
  obtain ⟨i, hi, hz0, hz1, hz2⟩ := info_parts Try.infoInt
  by_cases hb0 : 0 < b.length
  · obtain ⟨ad, rfl, hadB, hc⟩ := hb hb0
    have hsrc : Src Try.prog i.size 28 (.slice (some ad) b.length c2) b.length (ints b) w := Src.ofSlice w Try.underlying28 ad b.length c2 (ints b) (by rw [hz1]; simp [ints]) (fun j u hj => by
      rw [ints_get] at hj
      cases hx : b[j]? with
      | none => rw [hx] at hj; cases hj
      | some x => rw [hx] at hj; obtain rfl := Option.some.inj hj; exact hc j x hx) (fun u hu => by
      obtain ⟨x, _, rfl⟩ := List.mem_map.1 hu
      rfl)
    have hnl : (ints b).length = b.length := by simp [ints]
    by_cases hroom : l.length + b.length ≤ c
    · rcases h with ⟨_, hc0, _⟩ | ⟨g, o, cs, rfl, hbg, hbk, h1, h2, hcs⟩
      · omega
      have hr := run_append_room_src (P := Try.prog) w 28 28 ty 3 i Try.underlying28 hi g o l.length c _ b.length (ints b) hsrc hroom
        (fun j hj => by rw [hbk.cell, hz1, Nat.mul_one, List.getElem?_eq_getElem (by omega)]; rfl) (fun j hj => hbk.free _)
      refine ⟨_, c, _, hr, .inr ⟨g, o, _, rfl, hbg, Bk.setCells (ints b) _ hbk, by rw [setMany_len]; exact h1, by simp; omega, fun k x hx => ?_⟩, setCells_grown _ _ (World.grownBy.refl w _)⟩
      rw [hz1, Nat.mul_one]
      by_cases hk : k < l.length
      · rw [setMany_low _ _ _ _ (by omega)]
        rw [List.getElem?_append_left hk] at hx
        exact hcs k x hx
      · rw [List.getElem?_append_right (by omega)] at hx
        have hkb : k - l.length < b.length := (List.getElem?_eq_some_iff.1 hx).1
        rw [show o + k = o + l.length + (k - l.length) by omega, setMany_in _ _ _ _ (by omega) (by omega), ints_get, hx]
        rfl
    · have hold : (Builtin.firstCells i.size l.length (.slice A l.length c)).run Try.prog w.drew = .ok (ints l).toArray w.drew := by
        rcases h with ⟨rfl, rfl, rfl⟩ | ⟨g, o, cs, rfl, hbg, hbk, h1, h2, hcs⟩
        · exact run_firstCells_none w.drew i.size 0 0 0
        · refine run_firstCells_some w.drew i.size l.length ⟨g, o, none⟩ l.length c (ints l) (by rw [hz1]; simp [ints]) (fun j u hj => ?_)
          rw [ints_get] at hj
          cases hx : l[j]? with
          | none => rw [hx] at hj; cases hj
          | some x =>
            rw [hx] at hj
            obtain rfl := Option.some.inj hj
            rw [Addr.add_lit]
            exact (hbk.cell _).trans (hcs j x hx)
      have hr := run_append_grow_src (P := Try.prog) w 28 28 ty 3 i _ Try.underlying28 hi hz0 A l.length c (ints l) hold _ b.length (ints b) hsrc (by omega) (by omega) (growslice_fits (by omega) (by rw [hz2]; omega))
      have hge := grownCap_ge w (l.length + b.length) c 3
      refine ⟨_, _, _, hr, .inr ⟨w.heap.size, 0, ((ints l ++ ints b).toArray ++ Builtin.zeroCells (Value.cells (.int .i64 0)) (grownCap w (l.length + b.length) c 3 - (l.length + b.length))).toList, rfl, hz, ?_, ?_, by simpa using hge, fun k x hx => ?_⟩, ⟨rfl, rfl, rfl, by simp, fun k hk _ => Below.heap_alloc w.drew _ k hk⟩⟩
      · unfold Bk
        rw [Array.toArray_toList]
        exact heap_alloc_new w.drew _
      · simp [size_zeroCells, ints, Value.cells]
        omega
      · have hk : k < l.length + b.length := by have := (List.getElem?_eq_some_iff.1 hx).1; simpa using this
        rw [Nat.zero_add, Array.toList_append, List.getElem?_append_left (by simp [ints]; omega)]
        rw [show (ints l ++ ints b).toArray.toList = ints (l ++ b) from by simp [ints], ints_get, hx]
        rfl
  · have hb1 : b = [] := List.eq_nil_of_length_eq_zero (by omega)
    subst hb1
    have hsrc : Src Try.prog i.size 28 (.slice A2 0 c2) 0 [] w := by
      cases A2 with
      | none => exact Src.ofNil w Try.underlying28 c2
      | some ad => exact Src.ofSlice w Try.underlying28 ad 0 c2 [] (by simp) (fun j u hj => by simp at hj) (fun u hu => by cases hu)
    refine ⟨A, c, w, run_append_nothing w 28 28 ty 3 i Try.underlying28 hi A l.length c h.len_le _ hsrc, by rw [List.append_nil]; exact h, World.grownBy.refl w _⟩

end Go.Proofs.Ytkjhncohanfciaa
