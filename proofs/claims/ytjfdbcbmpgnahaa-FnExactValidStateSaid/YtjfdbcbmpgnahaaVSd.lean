/- Contracts: whether a state is one of a pipe and sources (the program). -/
import Derived.Test.YtjfdbcbmpgnahaaVSb
namespace Go.Proofs.Ytjfdbcbmpgnahaa
open Go.RowKit Go.Sort

set_option maxRecDepth 100000 in
set_option maxHeartbeats 6400000 in
theorem implValidState_any (A0 : Option Addr) (c0 : Nat) (l : List Nd) (As : Option Addr) (ca : Nat) (src : List (List Int)) (A2 : Option Addr) (c2 : Nat) (cs : List Cl) (w : World) (B : Nat) (h0 : RdN w B A0 l) (hs : RdR w B As src) (h2 : RdCl w B A2 cs) (hB : B ≤ w.heap.size) (hn0 : l.length ≤ 1048576) (hns : src.length ≤ 1048576) (hm : Hid (∀ r ∈ src, r.length ≤ 1048576)) :
    Calls Try.prog 40 #[.agg #[.slice A0 l.length c0], .slice As src.length ca, .agg #[.slice A2 cs.length c2]] w fun e w' => e = .returned (.bool (stateOk l src cs)) ∧ Below w.heap.size w w' := by
  obtain ⟨W0, hW0⟩ : ∃ W0 : World, W0 = (w.alloc (.cells #[.slice A0 l.length c0] 32)).alloc (.cells #[.slice A2 cs.length c2] 57) := ⟨_, rfl⟩
  have hb0 : Below w.heap.size w W0 := by rw [hW0]; exact ((Below.refl w.heap.size w).alloc (Nat.le_refl _) _).alloc (by simp) _
  have hx0 : Bk W0 w.heap.size 32 [.slice A0 l.length c0] := by rw [hW0]; exact (Bk.new _ _ [_]).alloc _
  have hy0 : Bk W0 (w.heap.size + 1) 57 [.slice A2 cs.length c2] := by
    rw [hW0]
    have := Bk.new (w.alloc (.cells #[.slice A0 l.length c0] 32)) 57 [.slice A2 cs.length c2]
    simpa using this
  have H0 := Lib.hid (h0.below hb0 hB)
  have S0 := Lib.hid (hs.below hb0 hB)
  have C0 := Lib.hid (h2.below hb0 hB)
  have Hb0 := Lib.hid hb0
  have Hx0 := Lib.hid hx0
  have Hy0 := Lib.hid hy0
  have HW0 := Lib.hid hW0
  have hz0 := hb0.size
  have hsz0 : w.heap.size + 2 ≤ W0.heap.size := hy0.lt
  clear h0 hs h2 hb0 hx0 hy0 hW0
  go_enter Try.func40, Try.ntmps40
  go_wp2_with fail
  rw [← HW0.out]
  refine (implValidPipe_any A0 c0 l W0 B H0.out (by omega) hn0).mono ?_
  rintro e w1 ⟨rfl, hb1⟩
  have Hx1 := Lib.hid (Hx0.out.below hb1 Hx0.out.lt)
  have Hy1 := Lib.hid (Hy0.out.below hb1 Hy0.out.lt)
  have H1 := Lib.hid (H0.out.below hb1 (by omega))
  have S1 := Lib.hid (S0.out.below hb1 (by omega))
  have C1 := Lib.hid (C0.out.below hb1 (by omega))
  have hz1 := hb1.size
  have Hb1 := Lib.hid (Hb0.out.trans (hb1.mono hz0))
  have cx1 : w1.cell? ⟨w.heap.size, 0, none⟩ = some (.slice A0 l.length c0) := Hx1.out.cell 0
  have cy1 : w1.cell? ⟨w.heap.size + 1, 0, none⟩ = some (.slice A2 cs.length c2) := Hy1.out.cell 0
  clear hb1
  cases hv : pipeOk l
  · have hno : stateOk l src cs = false := by rw [stateOk, hv]; rfl
    have Hno := Lib.hid hno
    clear hv hno
    go_wp2_with fail
    go_ret
    exact ⟨ret_bool Hno.out.symm, Hb1.out⟩
  have Hv := Lib.hid hv
  clear hv
  cases hvs : srcOk src
  · have hno : stateOk l src cs = false := by rw [stateOk, hvs, Bool.false_and, Bool.and_false]
    have Hno := Lib.hid hno
    have Hvs := Lib.hid hvs
    clear hvs hno
    go_wp2_with fail
    refine (implValidSources_any As ca src w1 B S1.out hns hm.out).mono ?_
    rintro e w2 ⟨rfl, rfl⟩
    rw [Hvs.out]
    go_wp2_with fail
    go_ret
    exact ⟨ret_bool Hno.out.symm, Hb1.out⟩
  have Hvs := Lib.hid hvs
  clear hvs
  by_cases hlen : cs.length = l.length
  case neg =>
    have hb' : (cs.length != l.length) = true := by simp [hlen]
    have hb : ((cs.length : Int) != (l.length : Int)) = true := by simp; omega
    have hno : stateOk l src cs = false := by simp [stateOk, cellsOk, hlen]
    have Hno := Lib.hid hno
    clear hlen hno
    go_wp2_with fail
    refine (implValidSources_any As ca src w1 B S1.out hns hm.out).mono ?_
    rintro e w2 ⟨rfl, rfl⟩
    rw [Hvs.out]
    go_wp2_with fail
    go_ret
    exact ⟨ret_bool Hno.out.symm, Hb1.out⟩
  have hb' : (cs.length != l.length) = false := by simp [hlen]
  have hb : ((cs.length : Int) != (l.length : Int)) = false := by simp; omega
  have hlow := low_of Hv.out
  have hhigh := high_of Hv.out
  have hc12 : cs.length ≤ 12 := by omega
  have Hlen := Lib.hid hlen
  clear hlen
  go_wp2_with fail
  refine (implValidSources_any As ca src w1 B S1.out hns hm.out).mono ?_
  rintro e w2 ⟨rfl, rfl⟩
  rw [Hvs.out]
  go_wp2_with fail
  go_loopw [29] (fun i wr => ∃ k : Nat, k ≤ cs.length ∧ i = .int .i64 k ∧ ((l.zip cs).take k).all (cellOk src) = true ∧ Below w.heap.size w wr ∧ Below w1.heap.size w1 wr) (fun i _ => cs.length - (intOf i).toNat)
  case atStart => exact ⟨0, Nat.zero_le _, rfl, by simp, Hb1.out, Below.refl _ _⟩
  case round =>
    obtain ⟨k, hk, rfl, hall, hbw, hbl⟩ := hrel
    have hzr := hbl.size
    have hx := Hx1.out.below hbl Hx1.out.lt
    have hy := Hy1.out.below hbl Hy1.out.lt
    have cx : wr.cell? ⟨w.heap.size, 0, none⟩ = some (.slice A0 l.length c0) := hx.cell 0
    have cy : wr.cell? ⟨w.heap.size + 1, 0, none⟩ = some (.slice A2 cs.length c2) := hy.cell 0
    have Hall := Lib.hid hall
    have Hbw := Lib.hid hbw
    have Hbl := Lib.hid hbl
    clear hall
    by_cases hlt : k < cs.length
    · have hlt2 : k < l.length := by have := Hlen.out; omega
      have hr0 := H1.out.below hbl (by omega)
      have hr2 := C1.out.below hbl (by omega)
      have hrs := S1.out.below hbl (by omega)
      obtain ⟨b, o, x, rfl, hbB, hxk, hc⟩ := hr0.at_ hlt2
      obtain ⟨b2, o2, c, rfl, hbB2, hck, hd⟩ := hr2.at_ hlt
      obtain ⟨p0, p1, p2, p3, p4⟩ := hc
      obtain ⟨d0, d1, d2, d3, d4, d5⟩ := hd
      have hok := (pipeOk_iff.1 Hv.out).node k x hxk
      have hnum : numsOk x = true := (Bool.and_eq_true_iff.1 hok).1
      have hbd := mostOf_bd Hvs.out hnum
      have hkk : Hid (x.k = 0 → ∃ s : Nat, x.n = (s : Int) ∧ s < src.length) := Lib.hid (fun e => by
        obtain ⟨s, h1, h2⟩ := source_n Hv.out hxk e
        exact ⟨s, h1, by have := (src_rows Hvs.out).1; omega⟩)
      have hpair := zip_get hxk hck
      have Hpair := Lib.hid hpair
      have hlx : w.heap.size < wr.heap.size := hx.lt
      have hly : w.heap.size + 1 < wr.heap.size := hy.lt
      have hlb : b < wr.heap.size := by omega
      have Hx := Lib.hid hx
      have Hr0 := Lib.hid hr0
      have Hrs := Lib.hid hrs
      have hneq : wr.heap.size ≠ w.heap.size := by omega
      have hneb : wr.heap.size ≠ b := by omega
      obtain ⟨m, hmm⟩ : ∃ m, m = mostOf x src := ⟨_, rfl⟩
      rw [← hmm] at hbd
      have hbd0 := hbd.1
      have hbd1 := hbd.2
      have Hmm := Lib.hid hmm
      obtain ⟨t0, ht0⟩ : ∃ t, inR c.n 0 m = t := ⟨_, rfl⟩
      obtain ⟨t1, ht1⟩ : ∃ t, inR c.l 0 99 = t := ⟨_, rfl⟩
      obtain ⟨t2, ht2⟩ : ∃ t, inR c.r 0 99 = t := ⟨_, rfl⟩
      have hcell : cellOk src (x, c) = (t0 && (t1 && t2)) := by rw [cellOk, ← hmm, ht0, ht1, ht2]
      have Hcell := Lib.hid hcell
      have T0 := Lib.hid ht0
      have T1 := Lib.hid ht1
      have T2 := Lib.hid ht2
      obtain ⟨V, hV⟩ : ∃ V : World, V = wr.alloc (.cells #[.int .i64 c.n, .int .i64 c.l, .int .i64 c.r, .bool c.hl, .bool c.hr, .bool c.d] 96) := ⟨_, rfl⟩
      have hbV : Below wr.heap.size wr V := by rw [hV]; exact (Below.refl _ _).alloc (Nat.le_refl _) _
      have hcV : Bk V wr.heap.size 96 [.int .i64 c.n, .int .i64 c.l, .int .i64 c.r, .bool c.hl, .bool c.hr, .bool c.d] := by rw [hV]; exact Bk.new _ _ [_, _, _, _, _, _]
      have HV := Lib.hid hV
      have HbV := Lib.hid hbV
      have HcV := Lib.hid hcV
      have hzV := hbV.size
      have hzV1 : wr.heap.size < V.heap.size := hcV.lt
      have HNode : Hid (∀ W' : World, Below V.heap.size V W' → At5 W' b (o + k * 5) x) := Lib.hid (fun W' hb => by
        obtain ⟨b', o', x', e, _, hx', hc'⟩ := ((hr0.below hbV (by omega)).below hb (by omega)).at_ hlt2
        cases e
        obtain rfl := Option.some.inj (hxk.symm.trans hx')
        exact hc')
      clear hok hnum hbd hpair hx hy hr0 hr2 hrs hmm ht0 ht1 ht2 hcell hV hbV hcV hxk hck hbw hbl
      cases t0
      · simp only [Bool.false_and] at Hcell
        go_wp2_with fail
        rw [← HV.out]
        clear p0 p1 p2 p3 p4 d0 d1 d2 d3 d4 d5 cx cy
        have q0 : ∀ d os, (grow (redrawn V d) os).cell? ⟨wr.heap.size, 0, none⟩ = some (.int .i64 c.n) := fun d os => cell_regrown (HcV.out.cell 0) d os
        have q1 : ∀ d os, (grow (redrawn V d) os).cell? ⟨w.heap.size, 0, none⟩ = some (.slice (some ⟨b, o, none⟩) l.length c0) := fun d os => cell_regrown ((Hx.out.below HbV.out hlx).cell 0) d os
        have q2 : ∀ d os, (grow (redrawn V d) os).cell? ⟨b, o + k * 5, none⟩ = some (.int .i64 x.k) := fun d os => cell_regrown ((HNode.out V (Below.refl _ _)).c0) d os
        have q3 : ∀ d os, (grow (redrawn V d) os).cell? ⟨b, o + k * 5 + 1, none⟩ = some (.int .i64 x.a) := fun d os => cell_regrown ((HNode.out V (Below.refl _ _)).c1) d os
        have q4 : ∀ d os, (grow (redrawn V d) os).cell? ⟨b, o + k * 5 + 2, none⟩ = some (.int .i64 x.b) := fun d os => cell_regrown ((HNode.out V (Below.refl _ _)).c2) d os
        have q5 : ∀ d os, (grow (redrawn V d) os).cell? ⟨b, o + k * 5 + 3, none⟩ = some (.int .i64 x.n) := fun d os => cell_regrown ((HNode.out V (Below.refl _ _)).c3) d os
        have q6 : ∀ d os, (grow (redrawn V d) os).cell? ⟨b, o + k * 5 + 4, none⟩ = some (.int .i64 x.m) := fun d os => cell_regrown ((HNode.out V (Below.refl _ _)).c4) d os
        have Hc := Lib.hid (fun d os => Calls.regrown_of (implMost_any x As ca src (grow (redrawn V d) os) B (Hrs.out.below (HbV.out.trans ((below_regrown V d os).mono hzV)) (by omega)) (by have := (below_regrown V d os).size; omega) hns hm hkk))
        rw [← Hmm.out] at Hc
        have Hi0 := Lib.hid (fun d os => Calls.regrown_of ((within_any c.n 0 m (grow (redrawn V d) os)).mono fun e w9 h => (⟨by rw [h.1, T0.out], by rw [← h.2]; exact Below.refl _ _⟩ : e = .returned (.bool false) ∧ Below (grow (redrawn V d) os).heap.size (grow (redrawn V d) os) w9)))
        refine wp_region_quiet_below (by kernel_rfl) (by kernel_rfl) ?_
        repeat (quiet_step ((first | (go_at_call 83; exact Hc.out _ _) | (go_at_call 82; exact Hi0.out _ _))))
        refine wpQuiet_nil ?_
        intro wq hwq
        obtain ⟨pq, hwq⟩ := hwq
        have Hb5 : Hid (Below V.heap.size V wq) := by rw [hwq]; exact below_regrown _ _ _
        have e1 : wq.cell? ⟨wr.heap.size, 1, none⟩ = some (.int .i64 c.l) := (HcV.out.below Hb5.out HcV.out.lt).cell 1
        have e2 : wq.cell? ⟨wr.heap.size, 2, none⟩ = some (.int .i64 c.r) := (HcV.out.below Hb5.out HcV.out.lt).cell 2
        clear hwq q0 q1 q2 q3 q4 q5 q6
        go_wp2_with (go_at_call 82; refine (within_any _ _ _ _).mono ?_; rintro e w9 ⟨rfl, rfl⟩; first | rw [T1.out] | rw [T2.out])
        go_ret
        exact ⟨ret_bool (by rw [stateOk, cellsOk, all_false_of Hpair.out Hcell.out, Bool.and_false, Bool.and_false, Bool.and_false]), Hbw.out.trans ((HbV.out.trans (Hb5.out.mono HbV.out.size)).mono Hbw.out.size)⟩
      cases t1
      · simp only [Bool.false_and, Bool.and_false] at Hcell
        go_wp2_with fail
        rw [← HV.out]
        clear p0 p1 p2 p3 p4 d0 d1 d2 d3 d4 d5 cx cy
        have q0 : ∀ d os, (grow (redrawn V d) os).cell? ⟨wr.heap.size, 0, none⟩ = some (.int .i64 c.n) := fun d os => cell_regrown (HcV.out.cell 0) d os
        have q1 : ∀ d os, (grow (redrawn V d) os).cell? ⟨w.heap.size, 0, none⟩ = some (.slice (some ⟨b, o, none⟩) l.length c0) := fun d os => cell_regrown ((Hx.out.below HbV.out hlx).cell 0) d os
        have q2 : ∀ d os, (grow (redrawn V d) os).cell? ⟨b, o + k * 5, none⟩ = some (.int .i64 x.k) := fun d os => cell_regrown ((HNode.out V (Below.refl _ _)).c0) d os
        have q3 : ∀ d os, (grow (redrawn V d) os).cell? ⟨b, o + k * 5 + 1, none⟩ = some (.int .i64 x.a) := fun d os => cell_regrown ((HNode.out V (Below.refl _ _)).c1) d os
        have q4 : ∀ d os, (grow (redrawn V d) os).cell? ⟨b, o + k * 5 + 2, none⟩ = some (.int .i64 x.b) := fun d os => cell_regrown ((HNode.out V (Below.refl _ _)).c2) d os
        have q5 : ∀ d os, (grow (redrawn V d) os).cell? ⟨b, o + k * 5 + 3, none⟩ = some (.int .i64 x.n) := fun d os => cell_regrown ((HNode.out V (Below.refl _ _)).c3) d os
        have q6 : ∀ d os, (grow (redrawn V d) os).cell? ⟨b, o + k * 5 + 4, none⟩ = some (.int .i64 x.m) := fun d os => cell_regrown ((HNode.out V (Below.refl _ _)).c4) d os
        have Hc := Lib.hid (fun d os => Calls.regrown_of (implMost_any x As ca src (grow (redrawn V d) os) B (Hrs.out.below (HbV.out.trans ((below_regrown V d os).mono hzV)) (by omega)) (by have := (below_regrown V d os).size; omega) hns hm hkk))
        rw [← Hmm.out] at Hc
        have Hi0 := Lib.hid (fun d os => Calls.regrown_of ((within_any c.n 0 m (grow (redrawn V d) os)).mono fun e w9 h => (⟨by rw [h.1, T0.out], by rw [← h.2]; exact Below.refl _ _⟩ : e = .returned (.bool true) ∧ Below (grow (redrawn V d) os).heap.size (grow (redrawn V d) os) w9)))
        refine wp_region_quiet_below (by kernel_rfl) (by kernel_rfl) ?_
        repeat (quiet_step ((first | (go_at_call 83; exact Hc.out _ _) | (go_at_call 82; exact Hi0.out _ _))))
        refine wpQuiet_nil ?_
        intro wq hwq
        obtain ⟨pq, hwq⟩ := hwq
        have Hb5 : Hid (Below V.heap.size V wq) := by rw [hwq]; exact below_regrown _ _ _
        have e1 : wq.cell? ⟨wr.heap.size, 1, none⟩ = some (.int .i64 c.l) := (HcV.out.below Hb5.out HcV.out.lt).cell 1
        have e2 : wq.cell? ⟨wr.heap.size, 2, none⟩ = some (.int .i64 c.r) := (HcV.out.below Hb5.out HcV.out.lt).cell 2
        clear hwq q0 q1 q2 q3 q4 q5 q6
        go_wp2_with (go_at_call 82; refine (within_any _ _ _ _).mono ?_; rintro e w9 ⟨rfl, rfl⟩; first | rw [T1.out] | rw [T2.out])
        go_ret
        exact ⟨ret_bool (by rw [stateOk, cellsOk, all_false_of Hpair.out Hcell.out, Bool.and_false, Bool.and_false, Bool.and_false]), Hbw.out.trans ((HbV.out.trans (Hb5.out.mono HbV.out.size)).mono Hbw.out.size)⟩
      cases t2
      · simp only [Bool.and_false] at Hcell
        go_wp2_with fail
        rw [← HV.out]
        clear p0 p1 p2 p3 p4 d0 d1 d2 d3 d4 d5 cx cy
        have q0 : ∀ d os, (grow (redrawn V d) os).cell? ⟨wr.heap.size, 0, none⟩ = some (.int .i64 c.n) := fun d os => cell_regrown (HcV.out.cell 0) d os
        have q1 : ∀ d os, (grow (redrawn V d) os).cell? ⟨w.heap.size, 0, none⟩ = some (.slice (some ⟨b, o, none⟩) l.length c0) := fun d os => cell_regrown ((Hx.out.below HbV.out hlx).cell 0) d os
        have q2 : ∀ d os, (grow (redrawn V d) os).cell? ⟨b, o + k * 5, none⟩ = some (.int .i64 x.k) := fun d os => cell_regrown ((HNode.out V (Below.refl _ _)).c0) d os
        have q3 : ∀ d os, (grow (redrawn V d) os).cell? ⟨b, o + k * 5 + 1, none⟩ = some (.int .i64 x.a) := fun d os => cell_regrown ((HNode.out V (Below.refl _ _)).c1) d os
        have q4 : ∀ d os, (grow (redrawn V d) os).cell? ⟨b, o + k * 5 + 2, none⟩ = some (.int .i64 x.b) := fun d os => cell_regrown ((HNode.out V (Below.refl _ _)).c2) d os
        have q5 : ∀ d os, (grow (redrawn V d) os).cell? ⟨b, o + k * 5 + 3, none⟩ = some (.int .i64 x.n) := fun d os => cell_regrown ((HNode.out V (Below.refl _ _)).c3) d os
        have q6 : ∀ d os, (grow (redrawn V d) os).cell? ⟨b, o + k * 5 + 4, none⟩ = some (.int .i64 x.m) := fun d os => cell_regrown ((HNode.out V (Below.refl _ _)).c4) d os
        have Hc := Lib.hid (fun d os => Calls.regrown_of (implMost_any x As ca src (grow (redrawn V d) os) B (Hrs.out.below (HbV.out.trans ((below_regrown V d os).mono hzV)) (by omega)) (by have := (below_regrown V d os).size; omega) hns hm hkk))
        rw [← Hmm.out] at Hc
        have Hi0 := Lib.hid (fun d os => Calls.regrown_of ((within_any c.n 0 m (grow (redrawn V d) os)).mono fun e w9 h => (⟨by rw [h.1, T0.out], by rw [← h.2]; exact Below.refl _ _⟩ : e = .returned (.bool true) ∧ Below (grow (redrawn V d) os).heap.size (grow (redrawn V d) os) w9)))
        refine wp_region_quiet_below (by kernel_rfl) (by kernel_rfl) ?_
        repeat (quiet_step ((first | (go_at_call 83; exact Hc.out _ _) | (go_at_call 82; exact Hi0.out _ _))))
        refine wpQuiet_nil ?_
        intro wq hwq
        obtain ⟨pq, hwq⟩ := hwq
        have Hb5 : Hid (Below V.heap.size V wq) := by rw [hwq]; exact below_regrown _ _ _
        have e1 : wq.cell? ⟨wr.heap.size, 1, none⟩ = some (.int .i64 c.l) := (HcV.out.below Hb5.out HcV.out.lt).cell 1
        have e2 : wq.cell? ⟨wr.heap.size, 2, none⟩ = some (.int .i64 c.r) := (HcV.out.below Hb5.out HcV.out.lt).cell 2
        clear hwq q0 q1 q2 q3 q4 q5 q6
        go_wp2_with (go_at_call 82; refine (within_any _ _ _ _).mono ?_; rintro e w9 ⟨rfl, rfl⟩; first | rw [T1.out] | rw [T2.out])
        go_ret
        exact ⟨ret_bool (by rw [stateOk, cellsOk, all_false_of Hpair.out Hcell.out, Bool.and_false, Bool.and_false, Bool.and_false]), Hbw.out.trans ((HbV.out.trans (Hb5.out.mono HbV.out.size)).mono Hbw.out.size)⟩
      go_wp2_with fail
      rw [← HV.out]
      clear p0 p1 p2 p3 p4 d0 d1 d2 d3 d4 d5 cx cy
      have q0 : ∀ d os, (grow (redrawn V d) os).cell? ⟨wr.heap.size, 0, none⟩ = some (.int .i64 c.n) := fun d os => cell_regrown (HcV.out.cell 0) d os
      have q1 : ∀ d os, (grow (redrawn V d) os).cell? ⟨w.heap.size, 0, none⟩ = some (.slice (some ⟨b, o, none⟩) l.length c0) := fun d os => cell_regrown ((Hx.out.below HbV.out hlx).cell 0) d os
      have q2 : ∀ d os, (grow (redrawn V d) os).cell? ⟨b, o + k * 5, none⟩ = some (.int .i64 x.k) := fun d os => cell_regrown ((HNode.out V (Below.refl _ _)).c0) d os
      have q3 : ∀ d os, (grow (redrawn V d) os).cell? ⟨b, o + k * 5 + 1, none⟩ = some (.int .i64 x.a) := fun d os => cell_regrown ((HNode.out V (Below.refl _ _)).c1) d os
      have q4 : ∀ d os, (grow (redrawn V d) os).cell? ⟨b, o + k * 5 + 2, none⟩ = some (.int .i64 x.b) := fun d os => cell_regrown ((HNode.out V (Below.refl _ _)).c2) d os
      have q5 : ∀ d os, (grow (redrawn V d) os).cell? ⟨b, o + k * 5 + 3, none⟩ = some (.int .i64 x.n) := fun d os => cell_regrown ((HNode.out V (Below.refl _ _)).c3) d os
      have q6 : ∀ d os, (grow (redrawn V d) os).cell? ⟨b, o + k * 5 + 4, none⟩ = some (.int .i64 x.m) := fun d os => cell_regrown ((HNode.out V (Below.refl _ _)).c4) d os
      have Hc := Lib.hid (fun d os => Calls.regrown_of (implMost_any x As ca src (grow (redrawn V d) os) B (Hrs.out.below (HbV.out.trans ((below_regrown V d os).mono hzV)) (by omega)) (by have := (below_regrown V d os).size; omega) hns hm hkk))
      rw [← Hmm.out] at Hc
      have Hi0 := Lib.hid (fun d os => Calls.regrown_of ((within_any c.n 0 m (grow (redrawn V d) os)).mono fun e w9 h => (⟨by rw [h.1, T0.out], by rw [← h.2]; exact Below.refl _ _⟩ : e = .returned (.bool true) ∧ Below (grow (redrawn V d) os).heap.size (grow (redrawn V d) os) w9)))
      refine wp_region_quiet_below (by kernel_rfl) (by kernel_rfl) ?_
      repeat (quiet_step ((first | (go_at_call 83; exact Hc.out _ _) | (go_at_call 82; exact Hi0.out _ _))))
      refine wpQuiet_nil ?_
      intro wq hwq
      obtain ⟨pq, hwq⟩ := hwq
      have Hb5 : Hid (Below V.heap.size V wq) := by rw [hwq]; exact below_regrown _ _ _
      have e1 : wq.cell? ⟨wr.heap.size, 1, none⟩ = some (.int .i64 c.l) := (HcV.out.below Hb5.out HcV.out.lt).cell 1
      have e2 : wq.cell? ⟨wr.heap.size, 2, none⟩ = some (.int .i64 c.r) := (HcV.out.below Hb5.out HcV.out.lt).cell 2
      clear hwq q0 q1 q2 q3 q4 q5 q6
      go_wp2_with (go_at_call 82; refine (within_any _ _ _ _).mono ?_; rintro e w9 ⟨rfl, rfl⟩; first | rw [T1.out] | rw [T2.out])
      go_roundw
      case rel => exact ⟨k + 1, by omega, by go_num, all_take_succ Hpair.out Hcell.out Hall.out, Hbw.out.trans ((HbV.out.trans (Hb5.out.mono HbV.out.size)).mono Hbw.out.size), Hbl.out.trans ((HbV.out.trans (Hb5.out.mono HbV.out.size)).mono hzr)⟩
      case measure => simp [intOf]; omega
    · obtain rfl : k = cs.length := by omega
      have hfin : stateOk l src cs = true := by
        rw [stateOk, Hv.out, Hvs.out, cellsOk, Hlen.out, decide_eq_true rfl, Bool.true_and, Bool.true_and, Bool.true_and]
        exact all_of_take (by rw [List.length_zip]; omega) Hall.out
      have Hfin := Lib.hid hfin
      clear hfin hbw hbl hx hy
      go_wp2_with fail
      go_ret
      exact ⟨ret_bool Hfin.out.symm, Hbw.out⟩

end Go.Proofs.Ytjfdbcbmpgnahaa
