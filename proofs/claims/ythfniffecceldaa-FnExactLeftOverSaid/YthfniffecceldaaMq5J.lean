/- Texts on the program and its reference, put together (PsF). -/
import Derived.Test.YthfniffecceldaaMq5I
import Derived.Test.YthfniffecceldaaMq5F
/- Contracts: pulls by the reference: merges. -/
namespace Go.Proofs.Ythfniffecceldaa
open Go.RowKit

theorem fork9 {i : Nat} {a b n m : Int} {fa fb : PF} : forkP i ⟨9, a, b, n, m⟩ fa fb = mergeP i fa fb := by simp [forkP]

set_option maxRecDepth 100000 in
set_option maxHeartbeats 25600000 in
theorem next_merge {n0 pb cb : Nat} {A : Option Addr} {c : Nat} {l : List Nd} {As : Option Addr} {ca : Nat} {src : List (List Int)} {cc : Nat} (hs : srcOk src = true) {i j j2 : Nat} {n m : Int} (hx : l[i]? = some ⟨9, (j : Int), (j2 : Int), n, m⟩) (hj : j < i) (hj2 : j2 < i) {fa fb : PF} (hF : Fine l src j fa) (hN : NextOk n0 pb cb A c l As ca src cc fa j) (hF2 : Fine l src j2 fb) (hN2 : NextOk n0 pb cb A c l As ca src cc fb j2)
    (s : PS) (w : World) (h : SW n0 pb cb A c l As ca src cc s w) (ok : StOk l src s.cs) (hlg : s.lg.length + s.W l src ≤ 65536) (hd : (s.at_ i).d = false) :
    Calls Try.prog 68 #[.pointer (some ⟨pb, 0, none⟩), .int .i64 i] w fun e w' => NPost n0 pb cb A c l As ca src cc w (doneP i (forkP i ⟨9, (j : Int), (j2 : Int), n, m⟩ fa fb) s) e w' := by
  have _u1 := hj
  have _u2 := hj2
  clear _u1 _u2
  have hi : i < l.length := (List.getElem?_eq_some_iff.1 hx).1
  have hil : i < s.cs.length := by rw [ok.len]; exact hi
  obtain ⟨b0, b1, b2⟩ := h.bx
  obtain ⟨nb, no, rfl, hnb, y0, y1, y2, y3, y4⟩ := h.nodes.at2 hx
  simp only at y0 y1 y2 y3 y4
  obtain ⟨W1, hW1⟩ : ∃ W1 : World, W1 = w.alloc (.cells #[.int .i64 9, .int .i64 (j : Int), .int .i64 (j2 : Int), .int .i64 n, .int .i64 m] 97) := ⟨_, rfl⟩
  have hb1 : Below w.heap.size w W1 := by rw [hW1]; exact (Below.refl _ _).alloc (Nat.le_refl _) _
  have kn1 : Bk W1 w.heap.size 97 [.int .i64 9, .int .i64 (j : Int), .int .i64 (j2 : Int), .int .i64 n, .int .i64 m] := by rw [hW1]; exact Bk.new _ _ [_, _, _, _, _]
  have h1 := h.below hb1
  have hpw := h.rs.ltp
  have hcw := h.rs.ltc
  have H := Lib.hid h
  have H1 := Lib.hid h1
  have Hb1 := Lib.hid hb1
  have HW1 := Lib.hid hW1
  have Hkn := Lib.hid kn1
  have Hok := Lib.hid ok
  have Hd := Lib.hid hd
  have Hx := Lib.hid hx
  have HN := Lib.hid hN
  have HF := Lib.hid hF
  have HN2 := Lib.hid hN2
  have HF2 := Lib.hid hF2
  have Hs := Lib.hid hs
  clear h h1 hb1 hW1 kn1 ok hd hx hN hF hN2 hF2 hs
  obtain ⟨x0, x1, x2, x3, x4⟩ : (W1.cell? ⟨w.heap.size, 0, none⟩ = some (.int .i64 9)) ∧ (W1.cell? ⟨w.heap.size, 1, none⟩ = some (.int .i64 (j : Int))) ∧ (W1.cell? ⟨w.heap.size, 2, none⟩ = some (.int .i64 (j2 : Int))) ∧ (W1.cell? ⟨w.heap.size, 3, none⟩ = some (.int .i64 n)) ∧ (W1.cell? ⟨w.heap.size, 4, none⟩ = some (.int .i64 m)) := ⟨Hkn.out.cell 0, Hkn.out.cell 1, Hkn.out.cell 2, Hkn.out.cell 3, Hkn.out.cell 4⟩
  have g3 := H1.out.rs.free (i * 6 + 3)
  obtain ⟨hl0, hhl0⟩ : ∃ b, (s.at_ i).hl = b := ⟨_, rfl⟩
  have Hhl0 := Lib.hid hhl0
  clear hhl0
  cases hl0 with
  | true =>
    have hfA : fetchL i fa s = s := by unfold fetchL; rw [if_pos Hhl0.out]
    have HfA := Lib.hid hfA
    clear hfA
    have cH := (H.out.rs.cl (i := i) hil).c3
    rw [Hhl0.out] at cH
    go_enter Try.func68, Try.ntmps68
    have hlA : i < s.cs.length := by rw [Hok.out.len]; exact hi
    obtain ⟨cA0, cA1, cA2, cA3, cA4, cA5⟩ := H.out.rs.cl (i := i) hlA
    obtain ⟨bA0, bA1, bA2⟩ := H.out.bx
    obtain ⟨hrA, HrA⟩ : ∃ b, (s.at_ i).hr = b := ⟨_, rfl⟩
    rw [HrA] at cA4
    have HHrA := Lib.hid HrA
    clear HrA
    cases hrA with
    | true =>
      have hlS := hlA
      obtain ⟨qn, hqn⟩ : ∃ b, (s.at_ i).n = b := ⟨_, rfl⟩
      obtain ⟨ql, hql⟩ : ∃ b, (s.at_ i).l = b := ⟨_, rfl⟩
      obtain ⟨qr, hqr⟩ : ∃ b, (s.at_ i).r = b := ⟨_, rfl⟩
      obtain ⟨bl, hbl⟩ : ∃ b, (s.at_ i).hl = b := ⟨_, rfl⟩
      obtain ⟨qd, hqd⟩ : ∃ b, (s.at_ i).d = b := ⟨_, rfl⟩
      rw [hqn] at cA0
      rw [hql] at cA1
      rw [hqr] at cA2
      rw [hbl] at cA3
      rw [hqd] at cA5
      have Hql := Lib.hid hql
      have Hqr := Lib.hid hqr
      have Hbl := Lib.hid hbl
      have Hblt : Hid (bl = true) := Lib.hid (hbl.symm.trans Hhl0.out)
      have Hbr := HHrA
      have gS3 := H.out.rs.free (i * 6 + 3)
      have gS1 := H.out.rs.free (i * 6 + 1)
      have gS4 := H.out.rs.free (i * 6 + 4)
      have gS2 := H.out.rs.free (i * 6 + 2)
      have Hmer : Hid (mergeP i fa fb s = pickP i s) := Lib.hid (by unfold mergeP; rw [HfA.out]; unfold fetchR; rw [if_pos HHrA.out])
      clear hqn hql hqr hbl hqd
      have hbl1 : bl = true := Hblt.out
      subst hbl1
      by_cases hle : ql ≤ qr
      · have q1 := H.out.rs.setHL (i := i) hlS false
        have q1b := q1.setL (i := i) (by simp only [PS.put, List.length_set]; exact hlS) 0
        rw [PS.at_put hlS, PS.put_put] at q1b
        simp only at q1b
        have q2a := (Fr.refl n0 pb cb w).setc (i * 6 + 3) (.bool false)
        have q2 := q2a.setc (i * 6 + 1) (.int .i64 0)
        have q3 := ((H.out.next q1b q2).below ((Below.refl _ _).alloc (Nat.le_refl _) (.cells #[.int .i64 9, .int .i64 (j : Int), .int .i64 (j2 : Int), .int .i64 n, .int .i64 m] 97))).below ((Below.refl _ _).alloc (Nat.le_refl _) (.cells #[.int .i64 qn, .int .i64 ql, .int .i64 qr, .bool true, .bool true, .bool qd] 66))
        have q4 := (q2.alloc (.cells #[.int .i64 9, .int .i64 (j : Int), .int .i64 (j2 : Int), .int .i64 n, .int .i64 m] 97)).alloc (.cells #[.int .i64 qn, .int .i64 ql, .int .i64 qr, .bool true, .bool true, .bool qd] 66)
        obtain ⟨z0, z1, z2⟩ := (((H.out.next q1 q2a).below ((Below.refl _ _).alloc (Nat.le_refl _) (.cells #[.int .i64 9, .int .i64 (j : Int), .int .i64 (j2 : Int), .int .i64 n, .int .i64 m] 97))).below ((Below.refl _ _).alloc (Nat.le_refl _) (.cells #[.int .i64 qn, .int .i64 ql, .int .i64 qr, .bool true, .bool true, .bool qd] 66))).bx
        have tcl := ((q1.alloc (.cells #[.int .i64 9, .int .i64 (j : Int), .int .i64 (j2 : Int), .int .i64 n, .int .i64 m] 97)).alloc (.cells #[.int .i64 qn, .int .i64 ql, .int .i64 qr, .bool true, .bool true, .bool qd] 66)).cl (i := i) (by simp only [PS.put, List.length_set]; exact hlS)
        rw [PS.at_put hlS] at tcl
        have t1 := tcl.c1
        simp only at t1
        rw [Hql.out] at t1
        have u1 := ((q1.alloc (.cells #[.int .i64 9, .int .i64 (j : Int), .int .i64 (j2 : Int), .int .i64 n, .int .i64 m] 97)).alloc (.cells #[.int .i64 qn, .int .i64 ql, .int .i64 qr, .bool true, .bool true, .bool qd] 66)).free (i * 6 + 1)
        have Hq3 := Lib.hid q3
        have Hq4 := Lib.hid (((Fr.refl n0 pb cb w)).trans q4)
        clear q1 q1b q2a q2 q3 q4 tcl
        go_wp2_with fail
        refine bodyPost_ret (v := .tuple #[.int .i64 ql, .bool true]) (by simp [results, Try.results68, go_sem]) rfl ?_
        have hm : doneP i (forkP i ⟨9, (j : Int), (j2 : Int), n, m⟩ fa fb) s = (s.put i { s.at_ i with l := 0, hl := false }, some ql) := doneP_some Hd.out (by rw [fork9, Hmer.out]; simp [pickP, Hbl.out, Hbr.out, Hql.out, Hqr.out, hle])
        rw [hm]
        exact ⟨rfl, Hq3.out, Hq4.out⟩
      · have q1 := H.out.rs.setHR (i := i) hlS false
        have q1b := q1.setR (i := i) (by simp only [PS.put, List.length_set]; exact hlS) 0
        rw [PS.at_put hlS, PS.put_put] at q1b
        simp only at q1b
        have q2a := (Fr.refl n0 pb cb w).setc (i * 6 + 4) (.bool false)
        have q2 := q2a.setc (i * 6 + 2) (.int .i64 0)
        have q3 := ((H.out.next q1b q2).below ((Below.refl _ _).alloc (Nat.le_refl _) (.cells #[.int .i64 9, .int .i64 (j : Int), .int .i64 (j2 : Int), .int .i64 n, .int .i64 m] 97))).below ((Below.refl _ _).alloc (Nat.le_refl _) (.cells #[.int .i64 qn, .int .i64 ql, .int .i64 qr, .bool true, .bool true, .bool qd] 66))
        have q4 := (q2.alloc (.cells #[.int .i64 9, .int .i64 (j : Int), .int .i64 (j2 : Int), .int .i64 n, .int .i64 m] 97)).alloc (.cells #[.int .i64 qn, .int .i64 ql, .int .i64 qr, .bool true, .bool true, .bool qd] 66)
        obtain ⟨z0, z1, z2⟩ := (((H.out.next q1 q2a).below ((Below.refl _ _).alloc (Nat.le_refl _) (.cells #[.int .i64 9, .int .i64 (j : Int), .int .i64 (j2 : Int), .int .i64 n, .int .i64 m] 97))).below ((Below.refl _ _).alloc (Nat.le_refl _) (.cells #[.int .i64 qn, .int .i64 ql, .int .i64 qr, .bool true, .bool true, .bool qd] 66))).bx
        have tcl := ((q1.alloc (.cells #[.int .i64 9, .int .i64 (j : Int), .int .i64 (j2 : Int), .int .i64 n, .int .i64 m] 97)).alloc (.cells #[.int .i64 qn, .int .i64 ql, .int .i64 qr, .bool true, .bool true, .bool qd] 66)).cl (i := i) (by simp only [PS.put, List.length_set]; exact hlS)
        rw [PS.at_put hlS] at tcl
        have t1 := tcl.c2
        simp only at t1
        rw [Hqr.out] at t1
        have u1 := ((q1.alloc (.cells #[.int .i64 9, .int .i64 (j : Int), .int .i64 (j2 : Int), .int .i64 n, .int .i64 m] 97)).alloc (.cells #[.int .i64 qn, .int .i64 ql, .int .i64 qr, .bool true, .bool true, .bool qd] 66)).free (i * 6 + 2)
        have Hq3 := Lib.hid q3
        have Hq4 := Lib.hid (((Fr.refl n0 pb cb w)).trans q4)
        clear q1 q1b q2a q2 q3 q4 tcl
        go_wp2_with fail
        refine bodyPost_ret (v := .tuple #[.int .i64 qr, .bool true]) (by simp [results, Try.results68, go_sem]) rfl ?_
        have hm : doneP i (forkP i ⟨9, (j : Int), (j2 : Int), n, m⟩ fa fb) s = (s.put i { s.at_ i with r := 0, hr := false }, some qr) := doneP_some Hd.out (by rw [fork9, Hmer.out]; simp [pickP, Hbl.out, Hbr.out, Hql.out, Hqr.out, (show ¬ ql ≤ qr by omega)])
        rw [hm]
        exact ⟨rfl, Hq3.out, Hq4.out⟩
    | false =>
      rcases hfsb : fb s with ⟨sb, ob⟩
      have hfineb := HF2.out s Hok.out
      rw [hfsb] at hfineb
      have Hfineb := Lib.hid hfineb
      have hcallb := HN2.out s W1 H1.out Hok.out hlg
      rw [hfsb] at hcallb
      have Hcallb := Lib.hid hcallb
      have Hfsb := Lib.hid hfsb
      clear hfineb hfsb hcallb
      go_wp2_with fail
      rw [← HW1.out]
      refine Hcallb.out.mono ?_
      rintro e wb ⟨rfl, swb, frb⟩
      have knb := frb.bk Hkn.out (by decide) (by omega) (by omega)
      obtain ⟨xb0, xb1, xb2, xb3, xb4⟩ : (wb.cell? ⟨w.heap.size, 0, none⟩ = some (.int .i64 9)) ∧ (wb.cell? ⟨w.heap.size, 1, none⟩ = some (.int .i64 (j : Int))) ∧ (wb.cell? ⟨w.heap.size, 2, none⟩ = some (.int .i64 (j2 : Int))) ∧ (wb.cell? ⟨w.heap.size, 3, none⟩ = some (.int .i64 n)) ∧ (wb.cell? ⟨w.heap.size, 4, none⟩ = some (.int .i64 m)) := ⟨knb.cell 0, knb.cell 1, knb.cell 2, knb.cell 3, knb.cell 4⟩
      obtain ⟨b0b, b1b, b2b⟩ := swb.bx
      have hlb : i < sb.cs.length := by rw [Hfineb.out.ok.len]; exact hi
      have lt0b := knb.lt
      have lt1b := swb.rs.ltp
      have lt2b := swb.rs.ltc
      have Hswb := Lib.hid swb
      have Hfrb := Lib.hid (((Fr.of_below Hb1.out)).trans frb)
      have Hknb := Lib.hid knb
      clear swb frb knb
      obtain ⟨vb, hvb⟩ : ∃ v, ob.getD 0 = v := ⟨_, rfl⟩
      obtain ⟨bb, hbb⟩ : ∃ b, ob.isSome = b := ⟨_, rfl⟩
      have htb : tup ob = .tuple #[.int .i64 vb, .bool bb] := by unfold tup; rw [hvb, hbb]
      have Hvb := Lib.hid hvb
      have Hbb := Lib.hid hbb
      have Hr0 : Hid (bb = false → vb = 0) := Lib.hid (by intro e; rw [← hvb]; rw [← hbb] at e; cases ob with | none => rfl | some v => simp at e)
      have hatb := Hfineb.out.at_ hj2
      have Hatb := Lib.hid hatb
      have p1 := Hswb.out.rs.setHR (i := i) hlb bb
      have p1b := p1.setR (i := i) (by simp only [PS.put, List.length_set]; exact hlb) vb
      rw [PS.at_put hlb, PS.put_put] at p1b
      simp only at p1b
      have p2a := (Fr.refl n0 pb cb wb).setc (i * 6 + 4) (.bool bb)
      have p2 := p2a.setc (i * 6 + 2) (.int .i64 vb)
      have p3 := Hswb.out.next p1b p2
      obtain ⟨y0, y1, y2⟩ := (Hswb.out.next p1 p2a).bx
      have pcl := p1.cl (i := i) (by simp only [PS.put, List.length_set]; exact hlb)
      rw [PS.at_put hlb] at pcl
      have pc2 := pcl.c2
      simp only at pc2
      have pu2 := p1.free (i * 6 + 2)
      have cb4 := (Hswb.out.rs.cl (i := i) hlb).c4
      have gb4 := Hswb.out.rs.free (i * 6 + 4)
      obtain ⟨SB, hSB⟩ : ∃ S, sb.put i { sb.at_ i with r := vb, hr := bb } = S := ⟨_, rfl⟩
      have hfB : fetchR i fb s = SB := by unfold fetchR; rw [if_neg (by rw [HHrA.out]; decide), Hfsb.out, ← hSB]; simp only; rw [hvb, hbb]
      have hokB := (fetchR_fine Hx.out rfl hj2 HF2.out s Hok.out).ok
      rw [hfB] at hokB
      rw [hSB] at p3
      have HokS := Lib.hid hokB
      have hlS : i < SB.cs.length := by rw [hokB.len]; exact hi
      have hatS : SB.at_ i = { s.at_ i with r := vb, hr := bb } := by rw [← hSB, PS.at_put hlb, Hatb.out]
      obtain ⟨cS0, cS1, cS2, cS3, cS4, cS5⟩ := p3.rs.cl (i := i) hlS
      rw [hatS] at cS0 cS1 cS2 cS3 cS4 cS5
      simp only at cS0 cS1 cS2 cS3 cS4 cS5
      obtain ⟨bS0, bS1, bS2⟩ := p3.bx
      obtain ⟨qn, hqn⟩ : ∃ b, (s.at_ i).n = b := ⟨_, rfl⟩
      obtain ⟨ql, hql⟩ : ∃ b, (s.at_ i).l = b := ⟨_, rfl⟩
      obtain ⟨bl, hbl⟩ : ∃ b, (s.at_ i).hl = b := ⟨_, rfl⟩
      obtain ⟨qd, hqd⟩ : ∃ b, (s.at_ i).d = b := ⟨_, rfl⟩
      rw [hqn] at cS0
      rw [hql] at cS1
      rw [hbl] at cS3
      rw [hqd] at cS5
      have Hql : Hid ((SB.at_ i).l = ql) := Lib.hid (by rw [hatS]; exact hql)
      have Hqr : Hid ((SB.at_ i).r = vb) := Lib.hid (by rw [hatS])
      have Hblt : Hid (bl = true) := Lib.hid (hbl.symm.trans Hhl0.out)
      have Hbl : Hid ((SB.at_ i).hl = bl) := Lib.hid (by rw [hatS]; exact hbl)
      have Hbr : Hid ((SB.at_ i).hr = bb) := Lib.hid (by rw [hatS])
      have Hmer : Hid (mergeP i fa fb s = pickP i SB) := Lib.hid (by unfold mergeP; rw [HfA.out, hfB])
      have Hp3 := Lib.hid p3
      have Hp2 := Lib.hid (Hfrb.out.trans p2)
      have gS3 := p3.rs.free (i * 6 + 3)
      have gS1 := p3.rs.free (i * 6 + 1)
      have gS4 := p3.rs.free (i * 6 + 4)
      have gS2 := p3.rs.free (i * 6 + 2)
      have ltS1 : cb < ((wb.setCell ⟨cb, i * 6 + 4, none⟩ (.bool bb)).setCell ⟨cb, i * 6 + 2, none⟩ (.int .i64 vb)).heap.size := p3.rs.ltc
      have ltS2 : pb < ((wb.setCell ⟨cb, i * 6 + 4, none⟩ (.bool bb)).setCell ⟨cb, i * 6 + 2, none⟩ (.int .i64 vb)).heap.size := p3.rs.ltp
      clear hvb hbb hatb p1 p1b p2a p2 p3 pcl hSB hfB hokB hatS hqn hql hbl hqd
      have hbl1 : bl = true := Hblt.out
      subst hbl1
      cases bb with
      | false =>
        have q1 := Hp3.out.rs.setHL (i := i) hlS false
        have q1b := q1.setL (i := i) (by simp only [PS.put, List.length_set]; exact hlS) 0
        rw [PS.at_put hlS, PS.put_put] at q1b
        simp only at q1b
        have q2a := (Fr.refl n0 pb cb ((wb.setCell ⟨cb, i * 6 + 4, none⟩ (.bool false)).setCell ⟨cb, i * 6 + 2, none⟩ (.int .i64 vb))).setc (i * 6 + 3) (.bool false)
        have q2 := q2a.setc (i * 6 + 1) (.int .i64 0)
        have q3 := (Hp3.out.next q1b q2).below ((Below.refl _ _).alloc (Nat.le_refl _) (.cells #[.int .i64 qn, .int .i64 ql, .int .i64 vb, .bool true, .bool false, .bool qd] 66))
        have q4 := q2.alloc (.cells #[.int .i64 qn, .int .i64 ql, .int .i64 vb, .bool true, .bool false, .bool qd] 66)
        obtain ⟨z0, z1, z2⟩ := ((Hp3.out.next q1 q2a).below ((Below.refl _ _).alloc (Nat.le_refl _) (.cells #[.int .i64 qn, .int .i64 ql, .int .i64 vb, .bool true, .bool false, .bool qd] 66))).bx
        have tcl := (q1.alloc (.cells #[.int .i64 qn, .int .i64 ql, .int .i64 vb, .bool true, .bool false, .bool qd] 66)).cl (i := i) (by simp only [PS.put, List.length_set]; exact hlS)
        rw [PS.at_put hlS] at tcl
        have t1 := tcl.c1
        simp only at t1
        rw [Hql.out] at t1
        have u1 := (q1.alloc (.cells #[.int .i64 qn, .int .i64 ql, .int .i64 vb, .bool true, .bool false, .bool qd] 66)).free (i * 6 + 1)
        have Hq3 := Lib.hid q3
        have Hq4 := Lib.hid ((Hp2.out).trans q4)
        clear q1 q1b q2a q2 q3 q4 tcl
        go_wp2_with fail
        refine bodyPost_ret (v := .tuple #[.int .i64 ql, .bool true]) (by simp [results, Try.results68, go_sem]) rfl ?_
        have hm : doneP i (forkP i ⟨9, (j : Int), (j2 : Int), n, m⟩ fa fb) s = (SB.put i { SB.at_ i with l := 0, hl := false }, some ql) := doneP_some Hd.out (by rw [fork9, Hmer.out]; simp [pickP, Hbl.out, Hbr.out, Hql.out])
        rw [hm]
        exact ⟨rfl, Hq3.out, Hq4.out⟩
      | true =>
        by_cases hle : ql ≤ vb
        · have q1 := Hp3.out.rs.setHL (i := i) hlS false
          have q1b := q1.setL (i := i) (by simp only [PS.put, List.length_set]; exact hlS) 0
          rw [PS.at_put hlS, PS.put_put] at q1b
          simp only at q1b
          have q2a := (Fr.refl n0 pb cb ((wb.setCell ⟨cb, i * 6 + 4, none⟩ (.bool true)).setCell ⟨cb, i * 6 + 2, none⟩ (.int .i64 vb))).setc (i * 6 + 3) (.bool false)
          have q2 := q2a.setc (i * 6 + 1) (.int .i64 0)
          have q3 := (Hp3.out.next q1b q2).below ((Below.refl _ _).alloc (Nat.le_refl _) (.cells #[.int .i64 qn, .int .i64 ql, .int .i64 vb, .bool true, .bool true, .bool qd] 66))
          have q4 := q2.alloc (.cells #[.int .i64 qn, .int .i64 ql, .int .i64 vb, .bool true, .bool true, .bool qd] 66)
          obtain ⟨z0, z1, z2⟩ := ((Hp3.out.next q1 q2a).below ((Below.refl _ _).alloc (Nat.le_refl _) (.cells #[.int .i64 qn, .int .i64 ql, .int .i64 vb, .bool true, .bool true, .bool qd] 66))).bx
          have tcl := (q1.alloc (.cells #[.int .i64 qn, .int .i64 ql, .int .i64 vb, .bool true, .bool true, .bool qd] 66)).cl (i := i) (by simp only [PS.put, List.length_set]; exact hlS)
          rw [PS.at_put hlS] at tcl
          have t1 := tcl.c1
          simp only at t1
          rw [Hql.out] at t1
          have u1 := (q1.alloc (.cells #[.int .i64 qn, .int .i64 ql, .int .i64 vb, .bool true, .bool true, .bool qd] 66)).free (i * 6 + 1)
          have Hq3 := Lib.hid q3
          have Hq4 := Lib.hid ((Hp2.out).trans q4)
          clear q1 q1b q2a q2 q3 q4 tcl
          go_wp2_with fail
          refine bodyPost_ret (v := .tuple #[.int .i64 ql, .bool true]) (by simp [results, Try.results68, go_sem]) rfl ?_
          have hm : doneP i (forkP i ⟨9, (j : Int), (j2 : Int), n, m⟩ fa fb) s = (SB.put i { SB.at_ i with l := 0, hl := false }, some ql) := doneP_some Hd.out (by rw [fork9, Hmer.out]; simp [pickP, Hbl.out, Hbr.out, Hql.out, Hqr.out, hle])
          rw [hm]
          exact ⟨rfl, Hq3.out, Hq4.out⟩
        · have q1 := Hp3.out.rs.setHR (i := i) hlS false
          have q1b := q1.setR (i := i) (by simp only [PS.put, List.length_set]; exact hlS) 0
          rw [PS.at_put hlS, PS.put_put] at q1b
          simp only at q1b
          have q2a := (Fr.refl n0 pb cb ((wb.setCell ⟨cb, i * 6 + 4, none⟩ (.bool true)).setCell ⟨cb, i * 6 + 2, none⟩ (.int .i64 vb))).setc (i * 6 + 4) (.bool false)
          have q2 := q2a.setc (i * 6 + 2) (.int .i64 0)
          have q3 := (Hp3.out.next q1b q2).below ((Below.refl _ _).alloc (Nat.le_refl _) (.cells #[.int .i64 qn, .int .i64 ql, .int .i64 vb, .bool true, .bool true, .bool qd] 66))
          have q4 := q2.alloc (.cells #[.int .i64 qn, .int .i64 ql, .int .i64 vb, .bool true, .bool true, .bool qd] 66)
          obtain ⟨z0, z1, z2⟩ := ((Hp3.out.next q1 q2a).below ((Below.refl _ _).alloc (Nat.le_refl _) (.cells #[.int .i64 qn, .int .i64 ql, .int .i64 vb, .bool true, .bool true, .bool qd] 66))).bx
          have tcl := (q1.alloc (.cells #[.int .i64 qn, .int .i64 ql, .int .i64 vb, .bool true, .bool true, .bool qd] 66)).cl (i := i) (by simp only [PS.put, List.length_set]; exact hlS)
          rw [PS.at_put hlS] at tcl
          have t1 := tcl.c2
          simp only at t1
          rw [Hqr.out] at t1
          have u1 := (q1.alloc (.cells #[.int .i64 qn, .int .i64 ql, .int .i64 vb, .bool true, .bool true, .bool qd] 66)).free (i * 6 + 2)
          have Hq3 := Lib.hid q3
          have Hq4 := Lib.hid ((Hp2.out).trans q4)
          clear q1 q1b q2a q2 q3 q4 tcl
          go_wp2_with fail
          refine bodyPost_ret (v := .tuple #[.int .i64 vb, .bool true]) (by simp [results, Try.results68, go_sem]) rfl ?_
          have hm : doneP i (forkP i ⟨9, (j : Int), (j2 : Int), n, m⟩ fa fb) s = (SB.put i { SB.at_ i with r := 0, hr := false }, some vb) := doneP_some Hd.out (by rw [fork9, Hmer.out]; simp [pickP, Hbl.out, Hbr.out, Hql.out, Hqr.out, (show ¬ ql ≤ vb by omega)])
          rw [hm]
          exact ⟨rfl, Hq3.out, Hq4.out⟩
  | false =>
    have cH := (H.out.rs.cl (i := i) hil).c3
    rw [Hhl0.out] at cH
    rcases hfsa : fa s with ⟨sa, oa⟩
    have hfinea := HF.out s Hok.out
    rw [hfsa] at hfinea
    have Hfinea := Lib.hid hfinea
    have hcalla := HN.out s W1 H1.out Hok.out hlg
    rw [hfsa] at hcalla
    have Hcalla := Lib.hid hcalla
    have Hfsa := Lib.hid hfsa
    clear hfinea hfsa hcalla
    go_enter Try.func68, Try.ntmps68
    go_wp2_with fail
    rw [← HW1.out]
    refine Hcalla.out.mono ?_
    rintro e wa ⟨rfl, swa, fra⟩
    have kna := fra.bk Hkn.out (by decide) (by omega) (by omega)
    obtain ⟨xa0, xa1, xa2, xa3, xa4⟩ : (wa.cell? ⟨w.heap.size, 0, none⟩ = some (.int .i64 9)) ∧ (wa.cell? ⟨w.heap.size, 1, none⟩ = some (.int .i64 (j : Int))) ∧ (wa.cell? ⟨w.heap.size, 2, none⟩ = some (.int .i64 (j2 : Int))) ∧ (wa.cell? ⟨w.heap.size, 3, none⟩ = some (.int .i64 n)) ∧ (wa.cell? ⟨w.heap.size, 4, none⟩ = some (.int .i64 m)) := ⟨kna.cell 0, kna.cell 1, kna.cell 2, kna.cell 3, kna.cell 4⟩
    obtain ⟨b0a, b1a, b2a⟩ := swa.bx
    have hla : i < sa.cs.length := by rw [Hfinea.out.ok.len]; exact hi
    have lt0a := kna.lt
    have lt1a := swa.rs.ltp
    have lt2a := swa.rs.ltc
    have Hswa := Lib.hid swa
    have Hfra := Lib.hid (((Fr.of_below Hb1.out)).trans fra)
    have Hkna := Lib.hid kna
    clear swa fra kna
    obtain ⟨va, hva⟩ : ∃ v, oa.getD 0 = v := ⟨_, rfl⟩
    obtain ⟨ba, hba⟩ : ∃ b, oa.isSome = b := ⟨_, rfl⟩
    have hta : tup oa = .tuple #[.int .i64 va, .bool ba] := by unfold tup; rw [hva, hba]
    have hata := Hfinea.out.at_ hj
    have p1 := Hswa.out.rs.setHL (i := i) hla ba
    have p1b := p1.setL (i := i) (by simp only [PS.put, List.length_set]; exact hla) va
    rw [PS.at_put hla, PS.put_put] at p1b
    simp only at p1b
    have p2a := (Fr.refl n0 pb cb wa).setc (i * 6 + 3) (.bool ba)
    have p2 := p2a.setc (i * 6 + 1) (.int .i64 va)
    have p3 := Hswa.out.next p1b p2
    obtain ⟨v0, v1, v2⟩ := (Hswa.out.next p1 p2a).bx
    have pcl := p1.cl (i := i) (by simp only [PS.put, List.length_set]; exact hla)
    rw [PS.at_put hla] at pcl
    have pa1 := pcl.c1
    simp only at pa1
    have pa2 := p1.free (i * 6 + 1)
    have ca3 := (Hswa.out.rs.cl (i := i) hla).c3
    have ga3 := Hswa.out.rs.free (i * 6 + 3)
    obtain ⟨SA, hSA⟩ : ∃ S, sa.put i { sa.at_ i with l := va, hl := ba } = S := ⟨_, rfl⟩
    have hfA : fetchL i fa s = SA := by unfold fetchL; rw [if_neg (by rw [Hhl0.out]; decide), Hfsa.out, ← hSA]; simp only; rw [hva, hba]
    have hfineA := fetchL_fine Hx.out rfl hj HF.out s Hok.out
    rw [hfA] at hfineA
    rw [hSA] at p3
    have HokA := Lib.hid hfineA.ok
    have HlgA : Hid (SA.lg.length + SA.W l src ≤ 65536) := Lib.hid (Nat.le_trans hfineA.wle hlg)
    have HfA := Lib.hid hfA
    have HpA := Lib.hid p3
    have HfrA := Lib.hid (Hfra.out.trans p2)
    have HknA : Hid (Bk ((wa.setCell ⟨cb, i * 6 + 3, none⟩ (.bool ba)).setCell ⟨cb, i * 6 + 1, none⟩ (.int .i64 va)) w.heap.size 97 [.int .i64 9, .int .i64 (j : Int), .int .i64 (j2 : Int), .int .i64 n, .int .i64 m]) := Lib.hid ((Hkna.out.far (by simp; omega) _).far (by simp; omega) _)
    have ltA0 : w.heap.size < ((wa.setCell ⟨cb, i * 6 + 3, none⟩ (.bool ba)).setCell ⟨cb, i * 6 + 1, none⟩ (.int .i64 va)).heap.size := HknA.out.lt
    have ltA1 : cb < ((wa.setCell ⟨cb, i * 6 + 3, none⟩ (.bool ba)).setCell ⟨cb, i * 6 + 1, none⟩ (.int .i64 va)).heap.size := p3.rs.ltc
    have ltA2 : pb < ((wa.setCell ⟨cb, i * 6 + 3, none⟩ (.bool ba)).setCell ⟨cb, i * 6 + 1, none⟩ (.int .i64 va)).heap.size := p3.rs.ltp
    clear hva hba hata p1 p1b p2a p2 p3 pcl hSA hfA hfineA
    have hlA : i < SA.cs.length := by rw [HokA.out.len]; exact hi
    obtain ⟨cA0, cA1, cA2, cA3, cA4, cA5⟩ := HpA.out.rs.cl (i := i) hlA
    obtain ⟨bA0, bA1, bA2⟩ := HpA.out.bx
    obtain ⟨hrA, HrA⟩ : ∃ b, (SA.at_ i).hr = b := ⟨_, rfl⟩
    rw [HrA] at cA4
    have HHrA := Lib.hid HrA
    clear HrA
    cases hrA with
    | true =>
      have hlS := hlA
      obtain ⟨qn, hqn⟩ : ∃ b, (SA.at_ i).n = b := ⟨_, rfl⟩
      obtain ⟨ql, hql⟩ : ∃ b, (SA.at_ i).l = b := ⟨_, rfl⟩
      obtain ⟨qr, hqr⟩ : ∃ b, (SA.at_ i).r = b := ⟨_, rfl⟩
      obtain ⟨bl, hbl⟩ : ∃ b, (SA.at_ i).hl = b := ⟨_, rfl⟩
      obtain ⟨qd, hqd⟩ : ∃ b, (SA.at_ i).d = b := ⟨_, rfl⟩
      rw [hqn] at cA0
      rw [hql] at cA1
      rw [hqr] at cA2
      rw [hbl] at cA3
      rw [hqd] at cA5
      have Hql := Lib.hid hql
      have Hqr := Lib.hid hqr
      have Hbl := Lib.hid hbl
      have Hbr := HHrA
      have gS3 := HpA.out.rs.free (i * 6 + 3)
      have gS1 := HpA.out.rs.free (i * 6 + 1)
      have gS4 := HpA.out.rs.free (i * 6 + 4)
      have gS2 := HpA.out.rs.free (i * 6 + 2)
      have Hmer : Hid (mergeP i fa fb s = pickP i SA) := Lib.hid (by unfold mergeP; rw [HfA.out]; unfold fetchR; rw [if_pos HHrA.out])
      clear hqn hql hqr hbl hqd
      cases bl with
      | true =>
        by_cases hle : ql ≤ qr
        · have q1 := HpA.out.rs.setHL (i := i) hlS false
          have q1b := q1.setL (i := i) (by simp only [PS.put, List.length_set]; exact hlS) 0
          rw [PS.at_put hlS, PS.put_put] at q1b
          simp only at q1b
          have q2a := (Fr.refl n0 pb cb ((wa.setCell ⟨cb, i * 6 + 3, none⟩ (.bool ba)).setCell ⟨cb, i * 6 + 1, none⟩ (.int .i64 va))).setc (i * 6 + 3) (.bool false)
          have q2 := q2a.setc (i * 6 + 1) (.int .i64 0)
          have q3 := (HpA.out.next q1b q2).below ((Below.refl _ _).alloc (Nat.le_refl _) (.cells #[.int .i64 qn, .int .i64 ql, .int .i64 qr, .bool true, .bool true, .bool qd] 66))
          have q4 := q2.alloc (.cells #[.int .i64 qn, .int .i64 ql, .int .i64 qr, .bool true, .bool true, .bool qd] 66)
          obtain ⟨z0, z1, z2⟩ := ((HpA.out.next q1 q2a).below ((Below.refl _ _).alloc (Nat.le_refl _) (.cells #[.int .i64 qn, .int .i64 ql, .int .i64 qr, .bool true, .bool true, .bool qd] 66))).bx
          have tcl := (q1.alloc (.cells #[.int .i64 qn, .int .i64 ql, .int .i64 qr, .bool true, .bool true, .bool qd] 66)).cl (i := i) (by simp only [PS.put, List.length_set]; exact hlS)
          rw [PS.at_put hlS] at tcl
          have t1 := tcl.c1
          simp only at t1
          rw [Hql.out] at t1
          have u1 := (q1.alloc (.cells #[.int .i64 qn, .int .i64 ql, .int .i64 qr, .bool true, .bool true, .bool qd] 66)).free (i * 6 + 1)
          have Hq3 := Lib.hid q3
          have Hq4 := Lib.hid ((HfrA.out).trans q4)
          clear q1 q1b q2a q2 q3 q4 tcl
          go_wp2_with fail
          refine bodyPost_ret (v := .tuple #[.int .i64 ql, .bool true]) (by simp [results, Try.results68, go_sem]) rfl ?_
          have hm : doneP i (forkP i ⟨9, (j : Int), (j2 : Int), n, m⟩ fa fb) s = (SA.put i { SA.at_ i with l := 0, hl := false }, some ql) := doneP_some Hd.out (by rw [fork9, Hmer.out]; simp [pickP, Hbl.out, Hbr.out, Hql.out, Hqr.out, hle])
          rw [hm]
          exact ⟨rfl, Hq3.out, Hq4.out⟩
        · have q1 := HpA.out.rs.setHR (i := i) hlS false
          have q1b := q1.setR (i := i) (by simp only [PS.put, List.length_set]; exact hlS) 0
          rw [PS.at_put hlS, PS.put_put] at q1b
          simp only at q1b
          have q2a := (Fr.refl n0 pb cb ((wa.setCell ⟨cb, i * 6 + 3, none⟩ (.bool ba)).setCell ⟨cb, i * 6 + 1, none⟩ (.int .i64 va))).setc (i * 6 + 4) (.bool false)
          have q2 := q2a.setc (i * 6 + 2) (.int .i64 0)
          have q3 := (HpA.out.next q1b q2).below ((Below.refl _ _).alloc (Nat.le_refl _) (.cells #[.int .i64 qn, .int .i64 ql, .int .i64 qr, .bool true, .bool true, .bool qd] 66))
          have q4 := q2.alloc (.cells #[.int .i64 qn, .int .i64 ql, .int .i64 qr, .bool true, .bool true, .bool qd] 66)
          obtain ⟨z0, z1, z2⟩ := ((HpA.out.next q1 q2a).below ((Below.refl _ _).alloc (Nat.le_refl _) (.cells #[.int .i64 qn, .int .i64 ql, .int .i64 qr, .bool true, .bool true, .bool qd] 66))).bx
          have tcl := (q1.alloc (.cells #[.int .i64 qn, .int .i64 ql, .int .i64 qr, .bool true, .bool true, .bool qd] 66)).cl (i := i) (by simp only [PS.put, List.length_set]; exact hlS)
          rw [PS.at_put hlS] at tcl
          have t1 := tcl.c2
          simp only at t1
          rw [Hqr.out] at t1
          have u1 := (q1.alloc (.cells #[.int .i64 qn, .int .i64 ql, .int .i64 qr, .bool true, .bool true, .bool qd] 66)).free (i * 6 + 2)
          have Hq3 := Lib.hid q3
          have Hq4 := Lib.hid ((HfrA.out).trans q4)
          clear q1 q1b q2a q2 q3 q4 tcl
          go_wp2_with fail
          refine bodyPost_ret (v := .tuple #[.int .i64 qr, .bool true]) (by simp [results, Try.results68, go_sem]) rfl ?_
          have hm : doneP i (forkP i ⟨9, (j : Int), (j2 : Int), n, m⟩ fa fb) s = (SA.put i { SA.at_ i with r := 0, hr := false }, some qr) := doneP_some Hd.out (by rw [fork9, Hmer.out]; simp [pickP, Hbl.out, Hbr.out, Hql.out, Hqr.out, (show ¬ ql ≤ qr by omega)])
          rw [hm]
          exact ⟨rfl, Hq3.out, Hq4.out⟩
      | false =>
        have q1 := HpA.out.rs.setHR (i := i) hlS false
        have q1b := q1.setR (i := i) (by simp only [PS.put, List.length_set]; exact hlS) 0
        rw [PS.at_put hlS, PS.put_put] at q1b
        simp only at q1b
        have q2a := (Fr.refl n0 pb cb ((wa.setCell ⟨cb, i * 6 + 3, none⟩ (.bool ba)).setCell ⟨cb, i * 6 + 1, none⟩ (.int .i64 va))).setc (i * 6 + 4) (.bool false)
        have q2 := q2a.setc (i * 6 + 2) (.int .i64 0)
        have q3 := (HpA.out.next q1b q2).below ((Below.refl _ _).alloc (Nat.le_refl _) (.cells #[.int .i64 qn, .int .i64 ql, .int .i64 qr, .bool false, .bool true, .bool qd] 66))
        have q4 := q2.alloc (.cells #[.int .i64 qn, .int .i64 ql, .int .i64 qr, .bool false, .bool true, .bool qd] 66)
        obtain ⟨z0, z1, z2⟩ := ((HpA.out.next q1 q2a).below ((Below.refl _ _).alloc (Nat.le_refl _) (.cells #[.int .i64 qn, .int .i64 ql, .int .i64 qr, .bool false, .bool true, .bool qd] 66))).bx
        have tcl := (q1.alloc (.cells #[.int .i64 qn, .int .i64 ql, .int .i64 qr, .bool false, .bool true, .bool qd] 66)).cl (i := i) (by simp only [PS.put, List.length_set]; exact hlS)
        rw [PS.at_put hlS] at tcl
        have t1 := tcl.c2
        simp only at t1
        rw [Hqr.out] at t1
        have u1 := (q1.alloc (.cells #[.int .i64 qn, .int .i64 ql, .int .i64 qr, .bool false, .bool true, .bool qd] 66)).free (i * 6 + 2)
        have Hq3 := Lib.hid q3
        have Hq4 := Lib.hid ((HfrA.out).trans q4)
        clear q1 q1b q2a q2 q3 q4 tcl
        go_wp2_with fail
        refine bodyPost_ret (v := .tuple #[.int .i64 qr, .bool true]) (by simp [results, Try.results68, go_sem]) rfl ?_
        have hm : doneP i (forkP i ⟨9, (j : Int), (j2 : Int), n, m⟩ fa fb) s = (SA.put i { SA.at_ i with r := 0, hr := false }, some qr) := doneP_some Hd.out (by rw [fork9, Hmer.out]; simp [pickP, Hbl.out, Hbr.out, Hqr.out])
        rw [hm]
        exact ⟨rfl, Hq3.out, Hq4.out⟩
    | false =>
      rcases hfsb : fb SA with ⟨sb, ob⟩
      have hfineb := HF2.out SA HokA.out
      rw [hfsb] at hfineb
      have Hfineb := Lib.hid hfineb
      have hcallb := HN2.out SA ((wa.setCell ⟨cb, i * 6 + 3, none⟩ (.bool ba)).setCell ⟨cb, i * 6 + 1, none⟩ (.int .i64 va)) HpA.out HokA.out HlgA.out
      rw [hfsb] at hcallb
      have Hcallb := Lib.hid hcallb
      have Hfsb := Lib.hid hfsb
      clear hfineb hfsb hcallb
      go_wp2_with fail
      refine Hcallb.out.mono ?_
      rintro e wb ⟨rfl, swb, frb⟩
      have knb := frb.bk HknA.out (by decide) (by omega) (by omega)
      obtain ⟨xb0, xb1, xb2, xb3, xb4⟩ : (wb.cell? ⟨w.heap.size, 0, none⟩ = some (.int .i64 9)) ∧ (wb.cell? ⟨w.heap.size, 1, none⟩ = some (.int .i64 (j : Int))) ∧ (wb.cell? ⟨w.heap.size, 2, none⟩ = some (.int .i64 (j2 : Int))) ∧ (wb.cell? ⟨w.heap.size, 3, none⟩ = some (.int .i64 n)) ∧ (wb.cell? ⟨w.heap.size, 4, none⟩ = some (.int .i64 m)) := ⟨knb.cell 0, knb.cell 1, knb.cell 2, knb.cell 3, knb.cell 4⟩
      obtain ⟨b0b, b1b, b2b⟩ := swb.bx
      have hlb : i < sb.cs.length := by rw [Hfineb.out.ok.len]; exact hi
      have lt0b := knb.lt
      have lt1b := swb.rs.ltp
      have lt2b := swb.rs.ltc
      have Hswb := Lib.hid swb
      have Hfrb := Lib.hid ((HfrA.out).trans frb)
      have Hknb := Lib.hid knb
      clear swb frb knb
      obtain ⟨vb, hvb⟩ : ∃ v, ob.getD 0 = v := ⟨_, rfl⟩
      obtain ⟨bb, hbb⟩ : ∃ b, ob.isSome = b := ⟨_, rfl⟩
      have htb : tup ob = .tuple #[.int .i64 vb, .bool bb] := by unfold tup; rw [hvb, hbb]
      have Hvb := Lib.hid hvb
      have Hbb := Lib.hid hbb
      have Hr0 : Hid (bb = false → vb = 0) := Lib.hid (by intro e; rw [← hvb]; rw [← hbb] at e; cases ob with | none => rfl | some v => simp at e)
      have hatb := Hfineb.out.at_ hj2
      have Hatb := Lib.hid hatb
      have p1 := Hswb.out.rs.setHR (i := i) hlb bb
      have p1b := p1.setR (i := i) (by simp only [PS.put, List.length_set]; exact hlb) vb
      rw [PS.at_put hlb, PS.put_put] at p1b
      simp only at p1b
      have p2a := (Fr.refl n0 pb cb wb).setc (i * 6 + 4) (.bool bb)
      have p2 := p2a.setc (i * 6 + 2) (.int .i64 vb)
      have p3 := Hswb.out.next p1b p2
      obtain ⟨y0, y1, y2⟩ := (Hswb.out.next p1 p2a).bx
      have pcl := p1.cl (i := i) (by simp only [PS.put, List.length_set]; exact hlb)
      rw [PS.at_put hlb] at pcl
      have pc2 := pcl.c2
      simp only at pc2
      have pu2 := p1.free (i * 6 + 2)
      have cb4 := (Hswb.out.rs.cl (i := i) hlb).c4
      have gb4 := Hswb.out.rs.free (i * 6 + 4)
      obtain ⟨SB, hSB⟩ : ∃ S, sb.put i { sb.at_ i with r := vb, hr := bb } = S := ⟨_, rfl⟩
      have hfB : fetchR i fb SA = SB := by unfold fetchR; rw [if_neg (by rw [HHrA.out]; decide), Hfsb.out, ← hSB]; simp only; rw [hvb, hbb]
      have hokB := (fetchR_fine Hx.out rfl hj2 HF2.out SA HokA.out).ok
      rw [hfB] at hokB
      rw [hSB] at p3
      have HokS := Lib.hid hokB
      have hlS : i < SB.cs.length := by rw [hokB.len]; exact hi
      have hatS : SB.at_ i = { SA.at_ i with r := vb, hr := bb } := by rw [← hSB, PS.at_put hlb, Hatb.out]
      obtain ⟨cS0, cS1, cS2, cS3, cS4, cS5⟩ := p3.rs.cl (i := i) hlS
      rw [hatS] at cS0 cS1 cS2 cS3 cS4 cS5
      simp only at cS0 cS1 cS2 cS3 cS4 cS5
      obtain ⟨bS0, bS1, bS2⟩ := p3.bx
      obtain ⟨qn, hqn⟩ : ∃ b, (SA.at_ i).n = b := ⟨_, rfl⟩
      obtain ⟨ql, hql⟩ : ∃ b, (SA.at_ i).l = b := ⟨_, rfl⟩
      obtain ⟨bl, hbl⟩ : ∃ b, (SA.at_ i).hl = b := ⟨_, rfl⟩
      obtain ⟨qd, hqd⟩ : ∃ b, (SA.at_ i).d = b := ⟨_, rfl⟩
      rw [hqn] at cS0
      rw [hql] at cS1
      rw [hbl] at cS3
      rw [hqd] at cS5
      have Hql : Hid ((SB.at_ i).l = ql) := Lib.hid (by rw [hatS]; exact hql)
      have Hqr : Hid ((SB.at_ i).r = vb) := Lib.hid (by rw [hatS])
      have Hbl : Hid ((SB.at_ i).hl = bl) := Lib.hid (by rw [hatS]; exact hbl)
      have Hbr : Hid ((SB.at_ i).hr = bb) := Lib.hid (by rw [hatS])
      have Hmer : Hid (mergeP i fa fb s = pickP i SB) := Lib.hid (by unfold mergeP; rw [HfA.out, hfB])
      have Hp3 := Lib.hid p3
      have Hp2 := Lib.hid (Hfrb.out.trans p2)
      have gS3 := p3.rs.free (i * 6 + 3)
      have gS1 := p3.rs.free (i * 6 + 1)
      have gS4 := p3.rs.free (i * 6 + 4)
      have gS2 := p3.rs.free (i * 6 + 2)
      have ltS1 : cb < ((wb.setCell ⟨cb, i * 6 + 4, none⟩ (.bool bb)).setCell ⟨cb, i * 6 + 2, none⟩ (.int .i64 vb)).heap.size := p3.rs.ltc
      have ltS2 : pb < ((wb.setCell ⟨cb, i * 6 + 4, none⟩ (.bool bb)).setCell ⟨cb, i * 6 + 2, none⟩ (.int .i64 vb)).heap.size := p3.rs.ltp
      clear hvb hbb hatb p1 p1b p2a p2 p3 pcl hSB hfB hokB hatS hqn hql hbl hqd
      cases bl with
      | true =>
        cases bb with
        | false =>
          have q1 := Hp3.out.rs.setHL (i := i) hlS false
          have q1b := q1.setL (i := i) (by simp only [PS.put, List.length_set]; exact hlS) 0
          rw [PS.at_put hlS, PS.put_put] at q1b
          simp only at q1b
          have q2a := (Fr.refl n0 pb cb ((wb.setCell ⟨cb, i * 6 + 4, none⟩ (.bool false)).setCell ⟨cb, i * 6 + 2, none⟩ (.int .i64 vb))).setc (i * 6 + 3) (.bool false)
          have q2 := q2a.setc (i * 6 + 1) (.int .i64 0)
          have q3 := (Hp3.out.next q1b q2).below ((Below.refl _ _).alloc (Nat.le_refl _) (.cells #[.int .i64 qn, .int .i64 ql, .int .i64 vb, .bool true, .bool false, .bool qd] 66))
          have q4 := q2.alloc (.cells #[.int .i64 qn, .int .i64 ql, .int .i64 vb, .bool true, .bool false, .bool qd] 66)
          obtain ⟨z0, z1, z2⟩ := ((Hp3.out.next q1 q2a).below ((Below.refl _ _).alloc (Nat.le_refl _) (.cells #[.int .i64 qn, .int .i64 ql, .int .i64 vb, .bool true, .bool false, .bool qd] 66))).bx
          have tcl := (q1.alloc (.cells #[.int .i64 qn, .int .i64 ql, .int .i64 vb, .bool true, .bool false, .bool qd] 66)).cl (i := i) (by simp only [PS.put, List.length_set]; exact hlS)
          rw [PS.at_put hlS] at tcl
          have t1 := tcl.c1
          simp only at t1
          rw [Hql.out] at t1
          have u1 := (q1.alloc (.cells #[.int .i64 qn, .int .i64 ql, .int .i64 vb, .bool true, .bool false, .bool qd] 66)).free (i * 6 + 1)
          have Hq3 := Lib.hid q3
          have Hq4 := Lib.hid ((Hp2.out).trans q4)
          clear q1 q1b q2a q2 q3 q4 tcl
          go_wp2_with fail
          refine bodyPost_ret (v := .tuple #[.int .i64 ql, .bool true]) (by simp [results, Try.results68, go_sem]) rfl ?_
          have hm : doneP i (forkP i ⟨9, (j : Int), (j2 : Int), n, m⟩ fa fb) s = (SB.put i { SB.at_ i with l := 0, hl := false }, some ql) := doneP_some Hd.out (by rw [fork9, Hmer.out]; simp [pickP, Hbl.out, Hbr.out, Hql.out])
          rw [hm]
          exact ⟨rfl, Hq3.out, Hq4.out⟩
        | true =>
          by_cases hle : ql ≤ vb
          · have q1 := Hp3.out.rs.setHL (i := i) hlS false
            have q1b := q1.setL (i := i) (by simp only [PS.put, List.length_set]; exact hlS) 0
            rw [PS.at_put hlS, PS.put_put] at q1b
            simp only at q1b
            have q2a := (Fr.refl n0 pb cb ((wb.setCell ⟨cb, i * 6 + 4, none⟩ (.bool true)).setCell ⟨cb, i * 6 + 2, none⟩ (.int .i64 vb))).setc (i * 6 + 3) (.bool false)
            have q2 := q2a.setc (i * 6 + 1) (.int .i64 0)
            have q3 := (Hp3.out.next q1b q2).below ((Below.refl _ _).alloc (Nat.le_refl _) (.cells #[.int .i64 qn, .int .i64 ql, .int .i64 vb, .bool true, .bool true, .bool qd] 66))
            have q4 := q2.alloc (.cells #[.int .i64 qn, .int .i64 ql, .int .i64 vb, .bool true, .bool true, .bool qd] 66)
            obtain ⟨z0, z1, z2⟩ := ((Hp3.out.next q1 q2a).below ((Below.refl _ _).alloc (Nat.le_refl _) (.cells #[.int .i64 qn, .int .i64 ql, .int .i64 vb, .bool true, .bool true, .bool qd] 66))).bx
            have tcl := (q1.alloc (.cells #[.int .i64 qn, .int .i64 ql, .int .i64 vb, .bool true, .bool true, .bool qd] 66)).cl (i := i) (by simp only [PS.put, List.length_set]; exact hlS)
            rw [PS.at_put hlS] at tcl
            have t1 := tcl.c1
            simp only at t1
            rw [Hql.out] at t1
            have u1 := (q1.alloc (.cells #[.int .i64 qn, .int .i64 ql, .int .i64 vb, .bool true, .bool true, .bool qd] 66)).free (i * 6 + 1)
            have Hq3 := Lib.hid q3
            have Hq4 := Lib.hid ((Hp2.out).trans q4)
            clear q1 q1b q2a q2 q3 q4 tcl
            go_wp2_with fail
            refine bodyPost_ret (v := .tuple #[.int .i64 ql, .bool true]) (by simp [results, Try.results68, go_sem]) rfl ?_
            have hm : doneP i (forkP i ⟨9, (j : Int), (j2 : Int), n, m⟩ fa fb) s = (SB.put i { SB.at_ i with l := 0, hl := false }, some ql) := doneP_some Hd.out (by rw [fork9, Hmer.out]; simp [pickP, Hbl.out, Hbr.out, Hql.out, Hqr.out, hle])
            rw [hm]
            exact ⟨rfl, Hq3.out, Hq4.out⟩
          · have q1 := Hp3.out.rs.setHR (i := i) hlS false
            have q1b := q1.setR (i := i) (by simp only [PS.put, List.length_set]; exact hlS) 0
            rw [PS.at_put hlS, PS.put_put] at q1b
            simp only at q1b
            have q2a := (Fr.refl n0 pb cb ((wb.setCell ⟨cb, i * 6 + 4, none⟩ (.bool true)).setCell ⟨cb, i * 6 + 2, none⟩ (.int .i64 vb))).setc (i * 6 + 4) (.bool false)
            have q2 := q2a.setc (i * 6 + 2) (.int .i64 0)
            have q3 := (Hp3.out.next q1b q2).below ((Below.refl _ _).alloc (Nat.le_refl _) (.cells #[.int .i64 qn, .int .i64 ql, .int .i64 vb, .bool true, .bool true, .bool qd] 66))
            have q4 := q2.alloc (.cells #[.int .i64 qn, .int .i64 ql, .int .i64 vb, .bool true, .bool true, .bool qd] 66)
            obtain ⟨z0, z1, z2⟩ := ((Hp3.out.next q1 q2a).below ((Below.refl _ _).alloc (Nat.le_refl _) (.cells #[.int .i64 qn, .int .i64 ql, .int .i64 vb, .bool true, .bool true, .bool qd] 66))).bx
            have tcl := (q1.alloc (.cells #[.int .i64 qn, .int .i64 ql, .int .i64 vb, .bool true, .bool true, .bool qd] 66)).cl (i := i) (by simp only [PS.put, List.length_set]; exact hlS)
            rw [PS.at_put hlS] at tcl
            have t1 := tcl.c2
            simp only at t1
            rw [Hqr.out] at t1
            have u1 := (q1.alloc (.cells #[.int .i64 qn, .int .i64 ql, .int .i64 vb, .bool true, .bool true, .bool qd] 66)).free (i * 6 + 2)
            have Hq3 := Lib.hid q3
            have Hq4 := Lib.hid ((Hp2.out).trans q4)
            clear q1 q1b q2a q2 q3 q4 tcl
            go_wp2_with fail
            refine bodyPost_ret (v := .tuple #[.int .i64 vb, .bool true]) (by simp [results, Try.results68, go_sem]) rfl ?_
            have hm : doneP i (forkP i ⟨9, (j : Int), (j2 : Int), n, m⟩ fa fb) s = (SB.put i { SB.at_ i with r := 0, hr := false }, some vb) := doneP_some Hd.out (by rw [fork9, Hmer.out]; simp [pickP, Hbl.out, Hbr.out, Hql.out, Hqr.out, (show ¬ ql ≤ vb by omega)])
            rw [hm]
            exact ⟨rfl, Hq3.out, Hq4.out⟩
      | false =>
        cases bb with
        | true =>
          have q1 := Hp3.out.rs.setHR (i := i) hlS false
          have q1b := q1.setR (i := i) (by simp only [PS.put, List.length_set]; exact hlS) 0
          rw [PS.at_put hlS, PS.put_put] at q1b
          simp only at q1b
          have q2a := (Fr.refl n0 pb cb ((wb.setCell ⟨cb, i * 6 + 4, none⟩ (.bool true)).setCell ⟨cb, i * 6 + 2, none⟩ (.int .i64 vb))).setc (i * 6 + 4) (.bool false)
          have q2 := q2a.setc (i * 6 + 2) (.int .i64 0)
          have q3 := (Hp3.out.next q1b q2).below ((Below.refl _ _).alloc (Nat.le_refl _) (.cells #[.int .i64 qn, .int .i64 ql, .int .i64 vb, .bool false, .bool true, .bool qd] 66))
          have q4 := q2.alloc (.cells #[.int .i64 qn, .int .i64 ql, .int .i64 vb, .bool false, .bool true, .bool qd] 66)
          obtain ⟨z0, z1, z2⟩ := ((Hp3.out.next q1 q2a).below ((Below.refl _ _).alloc (Nat.le_refl _) (.cells #[.int .i64 qn, .int .i64 ql, .int .i64 vb, .bool false, .bool true, .bool qd] 66))).bx
          have tcl := (q1.alloc (.cells #[.int .i64 qn, .int .i64 ql, .int .i64 vb, .bool false, .bool true, .bool qd] 66)).cl (i := i) (by simp only [PS.put, List.length_set]; exact hlS)
          rw [PS.at_put hlS] at tcl
          have t1 := tcl.c2
          simp only at t1
          rw [Hqr.out] at t1
          have u1 := (q1.alloc (.cells #[.int .i64 qn, .int .i64 ql, .int .i64 vb, .bool false, .bool true, .bool qd] 66)).free (i * 6 + 2)
          have Hq3 := Lib.hid q3
          have Hq4 := Lib.hid ((Hp2.out).trans q4)
          clear q1 q1b q2a q2 q3 q4 tcl
          go_wp2_with fail
          refine bodyPost_ret (v := .tuple #[.int .i64 vb, .bool true]) (by simp [results, Try.results68, go_sem]) rfl ?_
          have hm : doneP i (forkP i ⟨9, (j : Int), (j2 : Int), n, m⟩ fa fb) s = (SB.put i { SB.at_ i with r := 0, hr := false }, some vb) := doneP_some Hd.out (by rw [fork9, Hmer.out]; simp [pickP, Hbl.out, Hbr.out, Hqr.out])
          rw [hm]
          exact ⟨rfl, Hq3.out, Hq4.out⟩
        | false =>
          have hr0 : vb = 0 := Hr0.out rfl
          subst hr0
          go_wp2_with fail
          refine (ended_any ((Hp3.out.below ((Below.refl _ _).alloc (Nat.le_refl _) _))) HokS.out.len i hi).mono ?_
          rintro e wz ⟨rfl, swz, frz⟩
          have Hswz := Lib.hid swz
          have Hfrz := Lib.hid (((Hp2.out).alloc _).trans frz)
          clear swz frz
          go_wp2_with fail
          refine bodyPost_ret (v := .tuple #[.int .i64 0, .bool false]) (by simp [results, Try.results68, go_sem]) rfl ?_
          have hm : doneP i (forkP i ⟨9, (j : Int), (j2 : Int), n, m⟩ fa fb) s = (SB.put i { SB.at_ i with d := true }, none) := doneP_none Hd.out (by rw [fork9, Hmer.out]; unfold pickP; rw [if_neg (by simp [Hbl.out]), if_neg (by simp [Hbr.out]), PS.put_same hlS (by rw [← Hqr.out, ← Hbr.out])])
          rw [hm]
          exact ⟨rfl, Hswz.out, Hfrz.out⟩

end Go.Proofs.Ythfniffecceldaa
