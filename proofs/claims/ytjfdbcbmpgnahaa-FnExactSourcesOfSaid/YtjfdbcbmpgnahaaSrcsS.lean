/- Contracts: the sources of a pipe, told by the reference. -/
import Derived.Test.YtjfdbcbmpgnahaaSrcsM
import Derived.Test.YtjfdbcbmpgnahaaIntA
import Derived.Test.YtjfdbcbmpgnahaaDepth
import Derived.Deep.DeepMust
namespace Go.Proofs.Ytjfdbcbmpgnahaa
open Go.RowKit

set_option maxRecDepth 100000 in
set_option maxHeartbeats 3200000 in
theorem specSourcesOf_any (A : Option Addr) (c : Nat) (l : List Nd) (w : World) (B : Nat) (q : List Int) (hq : Hid (SrcsOf l q)) (h : RdN w B A l) (hB : B ≤ w.heap.size) (hn : l.length ≤ 1048576) :
    Calls Try.prog 29 #[.agg #[.slice A l.length c]] w fun e w' => ∃ A' c', e = .returned (.slice A' q.length c') ∧ OwnI w' w.heap.size w'.heap.size A' q ∧ Below w.heap.size w w' := by
  obtain ⟨W0, hW0⟩ : ∃ W0 : World, W0 = w.alloc (.cells #[.slice A l.length c] 32) := ⟨_, rfl⟩
  have hb0 : Below w.heap.size w W0 := by rw [hW0]; exact (Below.refl w.heap.size w).alloc (Nat.le_refl _) _
  have hx0 : Bk W0 w.heap.size 32 [.slice A l.length c] := by rw [hW0]; exact Bk.new _ _ [_]
  have H0 := Lib.hid (h.below hb0 hB)
  have Hb0 := Lib.hid hb0
  have Hx0 := Lib.hid hx0
  have HW0 := Lib.hid hW0
  have hz0 := hb0.size
  clear h hb0 hx0 hW0
  go_enter Try.func29, Try.ntmps29
  go_wp2_with fail
  rw [← HW0.out]
  refine (specvalidPipe_any A c l W0 B H0.out (by omega) hn).mono ?_
  rintro e w1 ⟨rfl, hb1⟩
  have Hb1 := Lib.hid (Hb0.out.trans (hb1.mono hz0))
  have Hx1 := Lib.hid (Hx0.out.below hb1 Hx0.out.lt)
  have H1 := Lib.hid (H0.out.below hb1 (by omega))
  have hc1 : w1.cell? ⟨w.heap.size, 0, none⟩ = some (.slice A l.length c) := Hx1.out.cell 0
  have hz1 := Hb1.out.size
  have hx1 := Hx1.out.lt
  clear hb1 HW0
  cases hv : pipeOk l
  · obtain rfl := hq.out.no hv
    have Hv := Lib.hid hv
    clear hv
    go_wp2_with fail
    go_ret
    exact ⟨none, 0, rfl, fun h => absurd h (by simp), Hb1.out⟩
  have hlo := low_of hv
  have hhi := high_of hv
  have hqq := hq.out.yes hv
  have Hqq := Lib.hid hqq
  have Hv := Lib.hid hv
  clear hv hqq hq
  have hbe : Below w1.heap.size w1 (w1.alloc (.cells #[] 3)) := (Below.refl _ _).alloc (Nat.le_refl _) _
  have Hbe := Lib.hid hbe
  have He := Lib.hid (emptyJ w1)
  clear hbe
  go_wp2_with fail
  go_loopw [3, 4] (fun sl i wr => ∃ s : Nat, s ≤ 3 ∧ i = .int .i64 s ∧ (∃ A' c', sl = .slice A' (srcs l s).length c' ∧ OwnJ wr w1.heap.size A' c' (srcs l s)) ∧ Below w1.heap.size w1 wr) (fun _ i _ => 3 - (intOf i).toNat)
  case atStart => exact ⟨0, by omega, rfl, ⟨_, _, rfl, He.out⟩, Hbe.out⟩
  case round =>
    obtain ⟨s, hs, rfl, ⟨A', c', rfl, ho⟩, hb⟩ := hrel
    have hz2 := hb.size
    have hsl := srcs_len l s
    have Ho := Lib.hid ho
    have Hb := Lib.hid hb
    have hcr : wr.cell? ⟨w.heap.size, 0, none⟩ = some (.slice A l.length c) := (Hx1.out.below hb hx1).cell 0
    have hx2 : w.heap.size < wr.heap.size := by omega
    have Hr := Lib.hid (H1.out.below hb (by omega))
    clear ho hb hc1
    by_cases h3 : s < 3
    · go_wp2_with fail
      go_loop [3, 5] (fun sl i => ∃ j : Nat, j ≤ l.length ∧ i = .int .i64 j ∧ sl = .slice A' (srcs l s).length c' ∧ (l.take j).any (fun x => x.k == 0 && x.n == (s : Int)) = false) (fun _ i => l.length - (intOf i).toNat)
      case atStart => exact ⟨0, Nat.zero_le _, rfl, rfl, by simp⟩
      case round =>
        obtain ⟨j, hj, rfl, rfl, hno⟩ := hrel
        have Hno := Lib.hid hno
        clear hno
        by_cases hlt : j < l.length
        · obtain ⟨b, o, x, rfl, hbB, hx, c0, c1, c2, c3, c4⟩ := Hr.out.at_ hlt
          have Hx := Lib.hid hx
          clear hx c1 c2 c4
          by_cases hk : x.k = 0
          · rw [hk] at c0
            have Hk := Lib.hid hk
            clear hk
            by_cases hn2 : x.n = (s : Int)
            · rw [hn2] at c3
              have hin : srcIn l (s : Int) = true := by
                rw [srcIn, List.any_eq_true]
                exact ⟨x, List.mem_of_getElem? Hx.out, by simp [Hk.out, hn2]⟩
              have Hin := Lib.hid hin
              clear hn2 hin
              go_wp2_with (at_builtin; go_must (refine wpList_append_int rfl _ _ rfl w1.heap.size A' c' (srcs l s) (s : Int) (srcs l s).length rfl rfl Ho.out _ rfl rfl (by omega) (by omega) ?_; intro A2 c2 w2 ho2 hg2); have Ho2 := Lib.hid ho2; have Hg2 := Lib.hid hg2; clear ho2 hg2)
              go_roundw
              case rel =>
                have hl2 : (srcs l (s + 1)).length = (srcs l s).length + 1 := by rw [srcs_succ, Hin.out]; simp
                refine ⟨s + 1, by omega, by go_num, ⟨A2, c2, by rw [hl2], ?_⟩, ?_⟩
                · rw [srcs_succ, Hin.out]
                  exact Ho2.out
                · exact (Hb.out.alloc hz2 _).grown Hg2.out (by simp; omega) (fun g hg => (Ho.out.row_lt g hg).1)
              case measure => simp [intOf]; omega
            · have hne : (x.n == (s : Int)) = false := by simpa using hn2
              have hstep : (l.take (j + 1)).any (fun x => x.k == 0 && x.n == (s : Int)) = false := by
                rw [take_succ_of Hx.out, List.any_append, Hno.out]; simp [hn2]
              have Hstep := Lib.hid hstep
              clear hn2 hstep
              go_wp2_with fail
              go_round
              case rel => exact ⟨j + 1, by omega, by go_num, rfl, Hstep.out⟩
              case measure => simp [intOf]; omega
          · have hk0 : (x.k == 0) = false := by simpa using hk
            have hstep : (l.take (j + 1)).any (fun x => x.k == 0 && x.n == (s : Int)) = false := by
              rw [take_succ_of Hx.out, List.any_append, Hno.out]; simp [hk]
            have Hstep := Lib.hid hstep
            clear hk hstep
            go_wp2_with fail
            go_round
            case rel => exact ⟨j + 1, by omega, by go_num, rfl, Hstep.out⟩
            case measure => simp [intOf]; omega
        · have hin : srcIn l (s : Int) = false := by
            have := Hno.out
            rw [List.take_of_length_le (by omega)] at this
            exact this
          have Hin := Lib.hid hin
          clear hin
          go_wp2_with fail
          go_roundw
          case rel =>
            have h2 : srcs l (s + 1) = srcs l s := by rw [srcs_succ, Hin.out]; simp
            exact ⟨s + 1, by omega, by go_num, ⟨A', c', by rw [h2], by rw [h2]; exact Ho.out⟩, Hb.out⟩
          case measure => simp [intOf]; omega
    · obtain rfl : s = 3 := by omega
      go_wp2_with fail
      go_ret
      exact ⟨A', c', ret_slice (by rw [Hqq.out]), by rw [Hqq.out]; exact Ho.out.ownI.wide hz1 (Nat.le_refl _), Hb1.out.trans (Hb.out.mono hz1)⟩

end Go.Proofs.Ytjfdbcbmpgnahaa
