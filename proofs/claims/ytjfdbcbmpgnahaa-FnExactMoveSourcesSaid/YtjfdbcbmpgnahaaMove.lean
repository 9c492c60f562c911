/- Contracts: a pipe with its sources moved, told by the reference and by the program. -/
import Derived.Test.YtjfdbcbmpgnahaaJoinM
import Derived.RegionTactic
import Derived.ChangeAlike
namespace Go.Proofs.Ytjfdbcbmpgnahaa
open Go.RowKit

/-- One number of a node is stored in a row of the call's own. -/
theorem own_set_n {w : World} {base g c n k : Nat} {l : List Nd} {x : Nd} (h : w.ownsRow base 84 5 (.slice (some ⟨g, 0, none⟩) n c) n (nds l)) (hx : l[k]? = some x) (v : Int) :
    (w.setCell ⟨g, k * 5 + 3, none⟩ (.int .i64 v)).ownsRow base 84 5 (.slice (some ⟨g, 0, none⟩) n c) n (nds (l.set k ⟨x.k, x.a, x.b, v, x.m⟩)) := by
  rw [← nds_set_n hx]
  exact (h.stored _ _).1
theorem mv_at {l : List Nd} {to : List Int} {j : Nat} {x : Nd} (hx : l[j]? = some x) : ((l.take j).map (mvNd to) ++ l.drop j)[j]? = some x := by
  have hj : j < l.length := (List.getElem?_eq_some_iff.1 hx).1
  rw [List.getElem?_append_right (by simp; omega)]
  have e : j - ((l.take j).map (mvNd to)).length = 0 := by simp; omega
  rw [e, List.getElem?_drop]
  simpa using hx
theorem mv_len (l : List Nd) (to : List Int) (j : Nat) : ((l.take j).map (mvNd to) ++ l.drop j).length = l.length := by
  simp
  omega
theorem mv_src {to : List Int} {x : Nd} {s : Nat} {v : Int} (hk : x.k = 0) (hs : x.n = (s : Int)) (hv : to[s]? = some v) : mvNd to x = ⟨x.k, x.a, x.b, v, x.m⟩ := by
  simp [mvNd, hk, hs, hv]

set_option maxRecDepth 100000 in
set_option maxHeartbeats 3200000 in
theorem specMoveSources_any (A : Option Addr) (c : Nat) (l : List Nd) (At : Option Addr) (ct : Nat) (to : List Int) (w : World) (B : Nat) (q : List Nd) (hq : Hid (MoveOf l to q)) (h : RdN w B A l) (ht : RdI w B At to) (hB : B ≤ w.heap.size) (hn : l.length ≤ 1048576) (hnt : to.length ≤ 1048576) :
    Calls Try.prog 31 #[.agg #[.slice A l.length c], .slice At to.length ct] w fun e w' => ∃ A' c', e = .returned (.agg #[.slice A' q.length c']) ∧ OwnN w' w.heap.size A' c' q ∧ Below w.heap.size w w' := by
  obtain ⟨W0, hW0⟩ : ∃ W0 : World, W0 = (w.alloc (.cells #[.slice A l.length c] 32)).alloc (.cells #[.slice none 0 0] 32) := ⟨_, rfl⟩
  have hb0 : Below w.heap.size w W0 := by rw [hW0]; exact ((Below.refl w.heap.size w).alloc (Nat.le_refl _) _).alloc (by simp) _
  have hx0 : Bk W0 w.heap.size 32 [.slice A l.length c] := by rw [hW0]; exact (Bk.new _ _ [_]).alloc _
  have hr0 : Bk W0 (w.heap.size + 1) 32 [.slice none 0 0] := by
    rw [hW0]
    have := Bk.new (w.alloc (.cells #[.slice A l.length c] 32)) 32 [.slice none 0 0]
    simpa using this
  have H0 := Lib.hid (h.below hb0 hB)
  have T0 := Lib.hid (ht.below hb0 hB)
  have Hb0 := Lib.hid hb0
  have Hx0 := Lib.hid hx0
  have Hr0 := Lib.hid hr0
  have HW0 := Lib.hid hW0
  have hz0 := hb0.size
  clear h ht hb0 hx0 hr0 hW0
  go_enter Try.func31, Try.ntmps31
  go_wp2_with fail
  rw [← HW0.out]
  refine (specvalidPipe_any A c l W0 B H0.out (by omega) hn).mono ?_
  rintro e w1 ⟨rfl, hb1⟩
  have Hb1 := Lib.hid (Hb0.out.trans (hb1.mono hz0))
  have Hx1 := Lib.hid (Hx0.out.below hb1 Hx0.out.lt)
  have Hr1 := Lib.hid (Hr0.out.below hb1 Hr0.out.lt)
  have H1 := Lib.hid (H0.out.below hb1 (by omega))
  have T1 := Lib.hid (T0.out.below hb1 (by omega))
  have hc1 : w1.cell? ⟨w.heap.size, 0, none⟩ = some (.slice A l.length c) := Hx1.out.cell 0
  have d1 : w1.cell? ⟨w.heap.size + 1, 0, none⟩ = some (.slice none 0 0) := Hr1.out.cell 0
  have f1 := Hr1.out.free 0
  have hz1 := Hb1.out.size
  have hr1 := Hr1.out.lt
  have hx1 := Hx1.out.lt
  clear hb1 HW0
  cases hv : pipeOk l
  · obtain rfl := hq.out.no (by rw [moveOk, hv]; rfl)
    have Hv := Lib.hid hv
    clear hv
    go_wp2_with fail
    refine bodyPost_ret (v := .agg #[.slice none 0 0]) (by simp [results, Try.results31, go_sem, d1]) rfl ⟨none, 0, rfl, own_nil _ _, ?_⟩
    exact Hb1.out.setCell (p := ⟨w.heap.size + 1, 0, none⟩) (by simp) _
  have hlo := low_of hv
  have hhi := high_of hv
  have Hv := Lib.hid hv
  clear hv
  by_cases h3 : to.length = 3
  case neg =>
    obtain rfl := hq.out.no (by simp [moveOk, h3])
    have i3 : (to.length : Int) ≠ 3 := by omega
    go_wp2_with fail
    refine bodyPost_ret (v := .agg #[.slice none 0 0]) (by simp [results, Try.results31, go_sem, d1]) rfl ⟨none, 0, rfl, own_nil _ _, ?_⟩
    exact Hb1.out.setCell (p := ⟨w.heap.size + 1, 0, none⟩) (by simp) _
  have i3 : (to.length : Int) = 3 := by omega
  cases ha : allB to 0 2
  · obtain rfl := hq.out.no (by simp [moveOk, ha])
    have Ha := Lib.hid ha
    have Hh3 := Lib.hid h3
    clear ha h3
    go_wp2_with (go_at_call 71; refine (allIn_any At ct to 0 2 _ B T1.out hnt).mono ?_; rintro e w2 ⟨rfl, rfl⟩; rw [Ha.out])
    refine bodyPost_ret (v := .agg #[.slice none 0 0]) (by simp [results, Try.results31, go_sem, d1]) rfl ⟨none, 0, rfl, own_nil _ _, ?_⟩
    exact Hb1.out.setCell (p := ⟨w.heap.size + 1, 0, none⟩) (by simp) _
  have hqq := hq.out.yes (by simp [moveOk, Hv.out, h3, ha])
  have Hqq := Lib.hid hqq
  have Ha := Lib.hid ha
  have Hh3 := Lib.hid h3
  clear ha h3 hqq hq
  have hll : 0 < l.length := by omega
  have hbe : Below w1.heap.size w1 (w1.alloc (.cells #[] 84)) := (Below.refl _ _).alloc (Nat.le_refl _) _
  obtain ⟨b, o, rfl, hbB, hcc⟩ := (H1.out.below hbe (by omega)) hll
  have Hfl := Lib.hid (rd_flat hcc)
  have Ho := Lib.hid (own_empty w1)
  have Hbe := Lib.hid hbe
  clear hcc hbe
  go_wp2_with (first | (go_at_call 71; refine (allIn_any At ct to 0 2 _ B T1.out hnt).mono ?_; rintro e w2 ⟨rfl, rfl⟩; rw [Ha.out]) | (at_builtin; refine wpList_append_nodes rfl _ _ rfl w1.heap.size _ 0 [] l 0 rfl rfl Ho.out _ _ _ rfl rfl Hfl.out hll (by omega) (by simp) ?_; intro A2 c2 w2 happ; have Happ := Lib.hid happ; clear happ))
  obtain ⟨g, rfl, hgw, hgl⟩ := Happ.out.own.form (by simpa using hll)
  have hb2 : Below w1.heap.size w1 w2 := Hbe.out.grown Happ.out.grown (by simp) (fun k hk => by simp [rowOf] at hk; omega)
  have ho2 : OwnN w2 w1.heap.size (some ⟨g, 0, none⟩) c2 l := by simpa using Happ.out.own
  obtain ⟨W3, hW3⟩ : ∃ W3 : World, W3 = w2.alloc (.cells #[.slice (some ⟨g, 0, none⟩) l.length c2] 32) := ⟨_, rfl⟩
  have hb23 : Below w2.heap.size w2 W3 := by rw [hW3]; exact (Below.refl _ _).alloc (Nat.le_refl _) _
  have hx3 : Bk W3 w2.heap.size 32 [.slice (some ⟨g, 0, none⟩) l.length c2] := by rw [hW3]; exact Bk.new _ _ [_]
  have ho3 : W3.ownsRow w1.heap.size 84 5 (.slice (some ⟨g, 0, none⟩) l.length c2) l.length (nds l) := ho2.below hb23 (Nat.le_refl _)
  have hz2 := hb2.size
  have Hb3 := Lib.hid (hb2.trans (hb23.mono hz2))
  have Hx3 := Lib.hid hx3
  have Ho3 := Lib.hid ho3
  have HW3 := Lib.hid hW3
  have hne : g ≠ w2.heap.size := by omega
  clear hb2 ho2 hb23 hx3 ho3 hW3 hc1 d1 f1
  rw [← HW3.out]
  go_loopw [6] (fun i wr => ∃ j : Nat, j ≤ l.length ∧ i = .int .i64 j ∧ wr.ownsRow w1.heap.size 84 5 (.slice (some ⟨g, 0, none⟩) l.length c2) l.length (nds ((l.take j).map (mvNd to) ++ l.drop j)) ∧ Bk wr w2.heap.size 32 [.slice (some ⟨g, 0, none⟩) l.length c2] ∧ Below w1.heap.size w1 wr) (fun i _ => l.length - (intOf i).toNat)
  case atStart => exact ⟨0, Nat.zero_le _, rfl, by simpa using Ho3.out, Hx3.out, Hb3.out⟩
  case round =>
    obtain ⟨j, hj, rfl, ho, hx, hb⟩ := hrel
    have cb : wr.cell? ⟨w2.heap.size, 0, none⟩ = some (.slice (some ⟨g, 0, none⟩) l.length c2) := hx.cell 0
    have Ho := Lib.hid ho
    have Hx := Lib.hid hx
    have Hb := Lib.hid hb
    by_cases hlt : j < l.length
    · obtain ⟨x, hxj⟩ := get_of_lt l hlt
      obtain ⟨e0, _, _, e3, _⟩ := nds_at (mv_at (to := to) hxj)
      have c0 := (ho.cellAt (j * 5) (by omega)).trans e0
      have c3 := (ho.cellAt (j * 5 + 3) (by omega)).trans e3
      have f3 := ho.frozenAt (j * 5 + 3)
      have Hxj := Lib.hid hxj
      by_cases hk : x.k = 0
      · obtain ⟨s, hs, hs3⟩ := source_n Hv.out hxj hk
        obtain ⟨ad, v, rfl, hv, hcv⟩ := (T1.out.below hb (by omega)).at_ (k := s) (by have := Hh3.out; omega)
        rw [hk] at c0
        rw [hs] at c3
        have hst : s < to.length := by have := Hh3.out; omega
        have Hk := Lib.hid hk
        have Hs := Lib.hid hs
        have Hvv := Lib.hid hv
        clear ho hx hb e0 e3 hxj hk hs hv
        go_wp2_with fail
        go_region
        all_goals
          go_wp2_with fail
          go_roundw
          case rel =>
            refine ⟨j + 1, by omega, by go_num, ?_, Hx.out.far (p := ⟨g, j * 5 + 3, none⟩) (Ne.symm hne) _, (Hb.out.setCell (p := ⟨g, j * 5 + 3, none⟩) hgw _).drew⟩
            rw [← mv_step Hxj.out, mv_src Hk.out Hs.out Hvv.out]
            exact own_set_n Ho.out (mv_at Hxj.out) v
          case measure => simp [intOf]; omega
      · have Hk := Lib.hid hk
        have hk0 : (x.k == 0) = false := by simpa using hk
        clear ho hx hb e0 e3 hxj hk
        go_wp2_with fail
        go_roundw
        case rel => exact ⟨j + 1, by omega, by go_num, by rw [← mv_same Hxj.out Hk.out]; exact Ho.out, Hx.out, Hb.out⟩
        case measure => simp [intOf]; omega
    · obtain rfl : j = l.length := by omega
      have d4 : wr.cell? ⟨w.heap.size + 1, 0, none⟩ = some (.slice none 0 0) := (Hr1.out.below hb (by omega)).cell 0
      have f4 := (Hr1.out.below hb (by omega)).free 0
      have hoq : OwnN wr w1.heap.size (some ⟨g, 0, none⟩) c2 q := by
        unfold OwnN
        rw [Hqq.out, List.length_map]
        simpa using ho
      have Hoq := Lib.hid hoq
      have hql : q.length = l.length := by rw [Hqq.out, List.length_map]
      have Hql := Lib.hid hql
      clear ho hx hb hoq hql
      go_wp2_with fail
      refine bodyPost_ret (v := .agg #[.slice (some ⟨g, 0, none⟩) l.length c2]) (by simp [results, Try.results31, go_sem, d4]) rfl ⟨some ⟨g, 0, none⟩, c2, by rw [Hql.out], ?_, ?_⟩
      · exact (Hoq.out.base_ (by omega)).grown (grown_one (World.grownBy.refl wr (some (w.heap.size + 1))) 0 _) (.inr (by simp [rowOf]; omega))
      · exact (Hb1.out.trans (Hb.out.mono hz1)).setCell (p := ⟨w.heap.size + 1, 0, none⟩) (by simp) _


set_option maxRecDepth 100000 in
set_option maxHeartbeats 3200000 in
theorem implMoveSources_any (A : Option Addr) (c : Nat) (l : List Nd) (At : Option Addr) (ct : Nat) (to : List Int) (w : World) (B : Nat) (q : List Nd) (hq : Hid (MoveOf l to q)) (h : RdN w B A l) (ht : RdI w B At to) (hB : B ≤ w.heap.size) (hn : l.length ≤ 1048576) (hnt : to.length ≤ 1048576) :
    Calls Try.prog 33 #[.agg #[.slice A l.length c], .slice At to.length ct] w fun e w' => ∃ A' c', e = .returned (.agg #[.slice A' q.length c']) ∧ OwnN w' w.heap.size A' c' q ∧ Below w.heap.size w w' := by
  obtain ⟨W0, hW0⟩ : ∃ W0 : World, W0 = (w.alloc (.cells #[.slice A l.length c] 32)).alloc (.cells #[.slice none 0 0] 32) := ⟨_, rfl⟩
  have hb0 : Below w.heap.size w W0 := by rw [hW0]; exact ((Below.refl w.heap.size w).alloc (Nat.le_refl _) _).alloc (by simp) _
  have hx0 : Bk W0 w.heap.size 32 [.slice A l.length c] := by rw [hW0]; exact (Bk.new _ _ [_]).alloc _
  have hr0 : Bk W0 (w.heap.size + 1) 32 [.slice none 0 0] := by
    rw [hW0]
    have := Bk.new (w.alloc (.cells #[.slice A l.length c] 32)) 32 [.slice none 0 0]
    simpa using this
  have H0 := Lib.hid (h.below hb0 hB)
  have T0 := Lib.hid (ht.below hb0 hB)
  have Hb0 := Lib.hid hb0
  have Hx0 := Lib.hid hx0
  have Hr0 := Lib.hid hr0
  have HW0 := Lib.hid hW0
  have hz0 := hb0.size
  clear h ht hb0 hx0 hr0 hW0
  go_enter Try.func33, Try.ntmps33
  go_wp2_with fail
  rw [← HW0.out]
  refine (implValidPipe_any A c l W0 B H0.out (by omega) hn).mono ?_
  rintro e w1 ⟨rfl, hb1⟩
  have Hb1 := Lib.hid (Hb0.out.trans (hb1.mono hz0))
  have Hx1 := Lib.hid (Hx0.out.below hb1 Hx0.out.lt)
  have Hr1 := Lib.hid (Hr0.out.below hb1 Hr0.out.lt)
  have H1 := Lib.hid (H0.out.below hb1 (by omega))
  have T1 := Lib.hid (T0.out.below hb1 (by omega))
  have hc1 : w1.cell? ⟨w.heap.size, 0, none⟩ = some (.slice A l.length c) := Hx1.out.cell 0
  have d1 : w1.cell? ⟨w.heap.size + 1, 0, none⟩ = some (.slice none 0 0) := Hr1.out.cell 0
  have f1 := Hr1.out.free 0
  have hz1 := Hb1.out.size
  have hr1 := Hr1.out.lt
  have hx1 := Hx1.out.lt
  clear hb1 HW0
  cases hv : pipeOk l
  · obtain rfl := hq.out.no (by rw [moveOk, hv]; rfl)
    have Hv := Lib.hid hv
    clear hv
    go_wp2_with fail
    refine bodyPost_ret (v := .agg #[.slice none 0 0]) (by simp [results, Try.results33, go_sem, d1]) rfl ⟨none, 0, rfl, own_nil _ _, ?_⟩
    exact Hb1.out.setCell (p := ⟨w.heap.size + 1, 0, none⟩) (by simp) _
  have hlo := low_of hv
  have hhi := high_of hv
  have Hv := Lib.hid hv
  clear hv
  by_cases h3 : to.length = 3
  case neg =>
    obtain rfl := hq.out.no (by simp [moveOk, h3])
    have i3 : (to.length : Int) ≠ 3 := by omega
    go_wp2_with fail
    refine bodyPost_ret (v := .agg #[.slice none 0 0]) (by simp [results, Try.results33, go_sem, d1]) rfl ⟨none, 0, rfl, own_nil _ _, ?_⟩
    exact Hb1.out.setCell (p := ⟨w.heap.size + 1, 0, none⟩) (by simp) _
  have i3 : (to.length : Int) = 3 := by omega
  cases ha : allB to 0 2
  · obtain rfl := hq.out.no (by simp [moveOk, ha])
    have Ha := Lib.hid ha
    have Hh3 := Lib.hid h3
    clear ha h3
    go_wp2_with (go_at_call 72; refine (allWithin_any At ct to 0 2 _ B T1.out hnt).mono ?_; rintro e w2 ⟨rfl, rfl⟩; rw [Ha.out])
    refine bodyPost_ret (v := .agg #[.slice none 0 0]) (by simp [results, Try.results33, go_sem, d1]) rfl ⟨none, 0, rfl, own_nil _ _, ?_⟩
    exact Hb1.out.setCell (p := ⟨w.heap.size + 1, 0, none⟩) (by simp) _
  have hqq := hq.out.yes (by simp [moveOk, Hv.out, h3, ha])
  have Hqq := Lib.hid hqq
  have Ha := Lib.hid ha
  have Hh3 := Lib.hid h3
  clear ha h3 hqq hq
  have hll : 0 < l.length := by omega
  go_wp2_with (go_at_call 72; refine (allWithin_any At ct to 0 2 _ B T1.out hnt).mono ?_; rintro e w2 ⟨rfl, rfl⟩; rw [Ha.out])
  refine (cloneN_any A c l _ B H1.out (by omega) hll hn).mono ?_
  rintro e w2 ⟨A2, c2, rfl, ho2, hb2⟩
  obtain ⟨g, rfl, hgw, hgl⟩ := ho2.form hll
  have ho3 : w2.ownsRow w1.heap.size 84 5 (.slice (some ⟨g, 0, none⟩) l.length c2) l.length (nds l) := ho2
  have hz2 := hb2.size
  have Hb3 := Lib.hid hb2
  have Ho3 := Lib.hid ho3
  clear hb2 ho2 ho3 hc1 d1 f1
  go_wp2_with fail
  go_loopw [27] (fun i wr => ∃ j : Nat, j ≤ l.length ∧ i = .int .i64 j ∧ wr.ownsRow w1.heap.size 84 5 (.slice (some ⟨g, 0, none⟩) l.length c2) l.length (nds ((l.take j).map (mvNd to) ++ l.drop j)) ∧ Below w1.heap.size w1 wr) (fun i _ => l.length - (intOf i).toNat)
  case atStart => exact ⟨0, Nat.zero_le _, rfl, by simpa using Ho3.out, Hb3.out⟩
  case round =>
    obtain ⟨j, hj, rfl, ho, hb⟩ := hrel
    have Ho := Lib.hid ho
    have Hb := Lib.hid hb
    have hgr : g < wr.heap.size := (OwnN.row_lt (l := (l.take j).map (mvNd to) ++ l.drop j) (by unfold OwnN; rw [mv_len]; exact ho) g rfl).2
    by_cases hlt : j < l.length
    · obtain ⟨x, hxj⟩ := get_of_lt l hlt
      obtain ⟨e0, e1, e2, e3, e4⟩ := nds_at (mv_at (to := to) hxj)
      have c0 := (ho.cellAt (j * 5) (by omega)).trans e0
      have c1 := (ho.cellAt (j * 5 + 1) (by omega)).trans e1
      have c2 := (ho.cellAt (j * 5 + 2) (by omega)).trans e2
      have c3 := (ho.cellAt (j * 5 + 3) (by omega)).trans e3
      have c4 := (ho.cellAt (j * 5 + 4) (by omega)).trans e4
      have f3 := ho.frozenAt (j * 5 + 3)
      have Hxj := Lib.hid hxj
      have Hoa : Hid (∀ o, (wr.alloc o).ownsRow w1.heap.size 84 5 (.slice (some ⟨g, 0, none⟩) l.length _) l.length (nds ((l.take j).map (mvNd to) ++ l.drop j))) := Lib.hid (fun o => World.ownsRow.kept ho (World.grownBy_alloc wr o none) (.inr (by simp [Value.ownBlock])))
      have hz3 := hb.size
      by_cases hk : x.k = 0
      · obtain ⟨s, hs, hs3⟩ := source_n Hv.out hxj hk
        obtain ⟨ad, er, hadB, hall⟩ := (T1.out.below hb (by omega)) (by have := Hh3.out; omega)
        obtain ⟨v, hv⟩ := get_of_lt to (k := s) (by have := Hh3.out; omega)
        subst er
        have hcv := hall s v hv
        have had : ad.block < wr.heap.size := by omega
        have hads : (ad.add s).block < wr.heap.size := by rw [add_block]; exact had
        clear hall
        rw [hk] at c0
        rw [hs] at c3
        have hst : s < to.length := by have := Hh3.out; omega
        have Hk := Lib.hid hk
        have Hs := Lib.hid hs
        have Hvv := Lib.hid hv
        clear ho hb e0 e1 e2 e3 e4 hxj hk hs hv
        go_wp2_with fail
        go_roundw
        case rel =>
          refine ⟨j + 1, by omega, by go_num, ?_, (Hb.out.setCell (p := ⟨g, j * 5 + 3, none⟩) hgw _).alloc (by simpa [World.setCell] using hz3) _⟩
          rw [← mv_step Hxj.out, mv_src Hk.out Hs.out Hvv.out]
          exact World.ownsRow.kept (own_set_n Ho.out (mv_at Hxj.out) v) (World.grownBy_alloc _ _ none) (.inr (by simp [Value.ownBlock]))
        case measure => simp [intOf]; omega
      · have Hk := Lib.hid hk
        have hk0 : (x.k == 0) = false := by simpa using hk
        clear ho hb e0 e1 e2 e3 e4 hxj hk
        go_wp2_with fail
        exact ⟨⟨j + 1, by omega, by go_num, by rw [← mv_same Hxj.out Hk.out]; exact Hoa.out _, Hb.out.alloc hz3 _⟩, by simp [intOf]; omega⟩
    · obtain rfl : j = l.length := by omega
      have d4 : wr.cell? ⟨w.heap.size + 1, 0, none⟩ = some (.slice none 0 0) := (Hr1.out.below hb (by omega)).cell 0
      have f4 := (Hr1.out.below hb (by omega)).free 0
      have hoq : OwnN wr w1.heap.size (some ⟨g, 0, none⟩) c2 q := by
        unfold OwnN
        rw [Hqq.out, List.length_map]
        simpa using ho
      have Hoq := Lib.hid hoq
      have hql : q.length = l.length := by rw [Hqq.out, List.length_map]
      have Hql := Lib.hid hql
      clear ho hb hoq hql
      go_wp2_with fail
      refine bodyPost_ret (v := .agg #[.slice (some ⟨g, 0, none⟩) l.length c2]) (by simp [results, Try.results33, go_sem, d4]) rfl ⟨some ⟨g, 0, none⟩, c2, by rw [Hql.out], ?_, ?_⟩
      · exact (Hoq.out.base_ (by omega)).grown (grown_one (World.grownBy.refl wr (some (w.heap.size + 1))) 0 _) (.inr (by simp [rowOf]; omega))
      · exact (Hb1.out.trans (Hb.out.mono hz1)).setCell (p := ⟨w.heap.size + 1, 0, none⟩) (by simp) _

end Go.Proofs.Ytjfdbcbmpgnahaa
