/- Contracts: the sources of a pipe, told by the program. -/
import Derived.Test.YtjfdbcbmpgnahaaSrcsS
import Derived.Test.YtjfdbcbmpgnahaaSortJ
namespace Go.Proofs.Ytjfdbcbmpgnahaa
open Go.RowKit

set_option maxRecDepth 100000 in
set_option maxHeartbeats 3200000 in
theorem implSourcesOf_any (A : Option Addr) (c : Nat) (l : List Nd) (w : World) (B : Nat) (q : List Int) (hq : Hid (SrcsOf l q)) (h : RdN w B A l) (hB : B ≤ w.heap.size) (hn : l.length ≤ 1048576) :
    Calls Try.prog 30 #[.agg #[.slice A l.length c]] w fun e w' => ∃ A' c', e = .returned (.slice A' q.length c') ∧ OwnI w' w.heap.size w'.heap.size A' q ∧ Below w.heap.size w w' := by
  obtain ⟨W0, hW0⟩ : ∃ W0 : World, W0 = w.alloc (.cells #[.slice A l.length c] 32) := ⟨_, rfl⟩
  have hb0 : Below w.heap.size w W0 := by rw [hW0]; exact (Below.refl w.heap.size w).alloc (Nat.le_refl _) _
  have hx0 : Bk W0 w.heap.size 32 [.slice A l.length c] := by rw [hW0]; exact Bk.new _ _ [_]
  have H0 := Lib.hid (h.below hb0 hB)
  have Hb0 := Lib.hid hb0
  have Hx0 := Lib.hid hx0
  have HW0 := Lib.hid hW0
  have hz0 := hb0.size
  clear h hb0 hx0 hW0
  go_enter Try.func30, Try.ntmps30
  go_wp2_with fail
  rw [← HW0.out]
  refine (implValidPipe_any A c l W0 B H0.out (by omega) hn).mono ?_
  rintro e w1 ⟨rfl, hb1⟩
  have Hb1 := Lib.hid (Hb0.out.trans (hb1.mono hz0))
  have Hx1 := Lib.hid (Hx0.out.below hb1 Hx0.out.lt)
  have H1 := Lib.hid (H0.out.below hb1 (by omega))
  have hc1 : w1.cell? ⟨w.heap.size, 0, none⟩ = some (.slice A l.length c) := Hx1.out.cell 0
  have hz1 := Hb1.out.size
  have hx1 := Hx1.out.lt
  clear hb1 HW0
  cases hv : pipeOk l
  · obtain rfl := hq.out.no hv
    have Hv := Lib.hid hv
    clear hv
    go_wp2_with fail
    go_ret
    exact ⟨none, 0, rfl, fun h => absurd h (by simp), Hb1.out⟩
  have hlo := low_of hv
  have hhi := high_of hv
  have hqq := hq.out.yes hv
  have Hqq := Lib.hid hqq
  have Hv := Lib.hid hv
  clear hv hqq hq
  obtain ⟨x0, hx0⟩ := get_of_lt l (k := 0) (by omega)
  have hk0 : x0.k = 0 := by
    have h1 := (pipeOk_iff.1 Hv.out).node 0 x0 hx0
    have h2 := (Bool.and_eq_true_iff.1 h1).2
    have h3 := known_kids h2
    rcases kinds x0.k with (e | e | e | e | e | e | e | e | e | e | e | e | e | e) | ⟨e0, e1, e2, e3, e4, e5, e6, e7, e8, e9, e10, e11, e12, e13⟩
    · exact e
    iterate 13
      · simp [kidsOk, arity, e, inR] at h2
        try omega
    · simp [known, e0, e1, e2, e3, e4, e5, e6, e7, e8, e9, e10, e11, e12, e13] at h3
  have hpos : 0 < (nsOf l).length := by
    have hm : x0.n ∈ nsOf l := by
      simp only [nsOf, List.mem_map, List.mem_filter, beq_iff_eq]
      exact ⟨x0, ⟨List.mem_of_getElem? hx0, hk0⟩, rfl⟩
    exact List.length_pos_of_mem hm
  have Hpos := Lib.hid hpos
  clear hx0 hk0 hpos
  go_wp2_with fail
  go_loopw [3, 12] (fun sl i wr => ∃ j : Nat, j ≤ l.length ∧ i = .int .i64 j ∧ (∃ A' c', sl = .slice A' (nsOf (l.take j)).length c' ∧ OwnJ wr w1.heap.size A' c' (nsOf (l.take j))) ∧ Below w1.heap.size w1 wr) (fun _ i _ => l.length - (intOf i).toNat)
  case atStart => exact ⟨0, Nat.zero_le _, rfl, ⟨none, 0, rfl, OwnJ.nil_ _ _⟩, Below.refl _ _⟩
  case round =>
    obtain ⟨j, hj, rfl, ⟨A', c', rfl, ho⟩, hb⟩ := hrel
    have hz2 := hb.size
    have hnl := nsOf_len l j
    have hne : rowOf A' ≠ some wr.heap.size := fun e => by have := (ho.row_lt _ e).2; omega
    have HoA : Hid (∀ o, OwnJ (wr.alloc o) w1.heap.size A' c' (nsOf (l.take j))) := Lib.hid (fun o => ho.below ((Below.refl _ _).alloc (Nat.le_refl _) _) (Nat.le_refl _))
    have Ho := Lib.hid ho
    have Hb := Lib.hid hb
    have Hr := Lib.hid (H1.out.below hb (by omega))
    clear ho hc1 hne
    by_cases hlt : j < l.length
    · obtain ⟨b, o, x, rfl, hbB, hx, c0, c1, c2, c3, c4⟩ := Hr.out.at_ hlt
      have hbw : b < wr.heap.size := by omega
      have Hx := Lib.hid hx
      clear hx hb
      by_cases hk : x.k = 0
      · rw [hk] at c0
        have Hk := Lib.hid hk
        clear hk
        go_wp2_with (at_builtin; go_must (refine wpList_append_int rfl _ _ rfl w1.heap.size A' c' (nsOf (l.take j)) x.n (nsOf (l.take j)).length rfl rfl (HoA.out _) _ rfl (by simp) (by omega) (by simp; omega) ?_; intro A2 c2' w2 ho2 hg2; have Ho2 := Lib.hid ho2; have Hg2 := Lib.hid hg2; clear ho2 hg2))
        go_roundw
        case rel =>
          have hs2 := nsOf_succ Hx.out
          rw [Hk.out] at hs2
          simp only [beq_self_eq_true, if_true] at hs2
          have hl2 : (nsOf (l.take (j + 1))).length = (nsOf (l.take j)).length + 1 := by rw [hs2]; simp
          refine ⟨j + 1, by omega, by go_num, ⟨A2, c2', by rw [hl2], by rw [hs2]; exact Ho2.out⟩, ?_⟩
          exact ((Hb.out.alloc hz2 _).alloc (by simp; omega) _).grown Hg2.out (by simp; omega) (fun g hg => (Ho.out.row_lt g hg).1)
        case measure => simp [intOf]; omega
      · have hk0 : (x.k == 0) = false := by simpa using hk
        have Hk := Lib.hid hk0
        clear hk
        go_wp2_with fail
        go_roundw
        case rel =>
          have hs2 : nsOf (l.take (j + 1)) = nsOf (l.take j) := by rw [nsOf_succ Hx.out, Hk.out]; simp
          exact ⟨j + 1, by omega, by go_num, ⟨A', c', by rw [hs2], by rw [hs2]; exact HoA.out _⟩, Hb.out.alloc hz2 _⟩
        case measure => simp [intOf]; omega
    · obtain rfl : j = l.length := by omega
      have hfull : nsOf (l.take l.length) = nsOf l := by rw [List.take_length]
      rw [hfull] at Ho HoA hnl
      rw [hfull]
      have hrow := Ho.out.rowJ Hpos.out
      have Hrow := Lib.hid hrow
      clear hb hrow hfull
      go_wp2_with fail
      refine (sort_any A' c' (nsOf l) wr w1.heap.size Hrow.out Hpos.out (by omega)).mono ?_
      rintro e w2 ⟨rfl, hr2, hg2⟩
      have hb2 := Hb.out.grown hg2 hz2 (fun g hg => Hrow.out.row g hg)
      have hlen : ((nsOf l).mergeSort fun x y => decide (x ≤ y)).length = (nsOf l).length := List.length_mergeSort _
      have Hr2 := Lib.hid hr2
      have Hb2 := Lib.hid hb2
      have Hlen := Lib.hid hlen
      clear hr2 hg2 hb2 hlen
      go_wp2_with fail
      have HC := compact_any A' c' ((nsOf l).mergeSort fun x y => decide (x ≤ y)) w2 w1.heap.size Hr2.out (by rw [Hlen.out]; exact Hpos.out) (by rw [Hlen.out]; omega)
      rw [Hlen.out] at HC
      refine HC.mono ?_
      rintro e w3 ⟨rfl, hr3, hg3⟩
      have hb3 := Hb2.out.grown hg3 Hb2.out.size (fun g hg => Hr2.out.row g hg)
      rw [srcs_of_ns Hv.out] at hr3
      have Hr3 := Lib.hid hr3
      have Hb3 := Lib.hid hb3
      clear hr3 hg3 hb3 HC
      go_wp2_with fail
      go_ret
      exact ⟨A', c', ret_slice (by rw [Hqq.out, srcs_of_ns Hv.out]), by rw [Hqq.out]; exact Hr3.out.ownI.wide hz1 (Nat.le_refl _), Hb1.out.trans (Hb3.out.mono hz1)⟩

end Go.Proofs.Ytjfdbcbmpgnahaa
