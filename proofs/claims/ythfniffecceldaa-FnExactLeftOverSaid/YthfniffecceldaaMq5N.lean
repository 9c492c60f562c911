/- Texts on the program and its reference, put together (PiF). -/
import Derived.Test.YthfniffecceldaaMq5L
import Derived.Deep.RegionHeld3
import Derived.Test.YthfniffecceldaaMq5K
/- Contracts: pulls by the program: merges. -/
namespace Go.Proofs.Ythfniffecceldaa
open Go.RowKit

set_option maxRecDepth 100000 in
set_option maxHeartbeats 25600000 in
theorem i_merge {n0 rb cb N cc : Nat} {l : List Nd} {src : List (List Int)} {i : Nat} {w1 : World} {bc : Nat} {ba : Nat} {bb0 : Nat} {va : Value} {fa : PF} {ja : Nat} (hja : ja < i) (hFa : Fine l src ja fa) (hPa : Puller n0 rb cb N cc l src fa va w1) {vb : Value} {fb : PF} {jb : Nat} (hjb : jb < i) (hFb : Fine l src jb fb) (hPb : Puller n0 rb cb N cc l src fb vb w1) (kxc : Bx rb cb w1 bc 122 (.pointer (some ⟨cb, i * 6, none⟩))) (kxa : Bx rb cb w1 ba 114 (va)) (kxb : Bx rb cb w1 bb0 114 (vb)) {x : Nd} (hx : l[i]? = some x) (hk9 : x.k = 9) :
    Pulls n0 rb cb N cc l src (mergeP i fa fb) 126 #[.pointer (some ⟨bc, 0, none⟩), .pointer (some ⟨ba, 0, none⟩), .pointer (some ⟨bb0, 0, none⟩)] w1 := by
  intro fe s W hfr hiw ok hlg
  have _ua := hja
  clear _ua
  have _ub := hjb
  clear _ub
  obtain ⟨ka, lba, rfl, ega, hpa⟩ := hPa
  obtain ⟨kb, lbb, rfl, egb, hpb⟩ := hPb
  have cec := (kxc.fr hfr (by decide)).cell
  have cea := (kxa.fr hfr (by decide)).cell
  have ceb := (kxb.fr hfr (by decide)).cell
  have hi : i < l.length := (List.getElem?_eq_some_iff.1 hx).1
  have Hx := Lib.hid hx
  have Hk9 := Lib.hid hk9
  clear hx hk9
  have Hfr := Lib.hid hfr
  have Hiw := Lib.hid hiw
  have Hok := Lib.hid ok
  have HPa := Lib.hid hpa
  have HFa := Lib.hid hFa
  have HPb := Lib.hid hpb
  have HFb := Lib.hid hFb
  have Kxc := Lib.hid kxc
  have Kxa := Lib.hid kxa
  have Kxb := Lib.hid kxb
  clear hfr hiw ok hpa hpb hFa hFb kxc kxa kxb
  have hil : i < s.cs.length := by rw [Hok.out.len]; exact hi
  obtain ⟨d0, d1, d2, d3, d4, d5⟩ := Hiw.out.cl (i := i) hil
  clear d0 d1 d2 d4 d5
  cases hhl0 : (s.at_ i).hl with
  | true =>
    have Hhl0 := Lib.hid hhl0
    have hfA : fetchL i fa s = s := by unfold fetchL; rw [if_pos Hhl0.out]
    have HfA := Lib.hid hfA
    rw [hhl0] at d3
    clear hfA hhl0
    go_enter Try.func126, Try.ntmps126
    have hlA : i < s.cs.length := by rw [Hok.out.len]; exact hi
    obtain ⟨e0, e1, e2, e3, e4, e5⟩ := Hiw.out.cl (i := i) hlA
    have gA1 := Hiw.out.free (i * 6 + 1)
    have gA2 := Hiw.out.free (i * 6 + 2)
    have gA3 := Hiw.out.free (i * 6 + 3)
    have gA4 := Hiw.out.free (i * 6 + 4)
    have ceaA := (Kxa.out.fr (Hfr.out.trans (Fr.refl n0 rb cb W)) (by decide)).cell
    have cebA := (Kxb.out.fr (Hfr.out.trans (Fr.refl n0 rb cb W)) (by decide)).cell
    have cecA := (Kxc.out.fr (Hfr.out.trans (Fr.refl n0 rb cb W)) (by decide)).cell
    cases hrA : (s.at_ i).hr with
    | true =>
      have hlS := hlA
      obtain ⟨qn, hqn⟩ : ∃ b, (s.at_ i).n = b := ⟨_, rfl⟩
      rw [hqn] at e0
      obtain ⟨ql, hql⟩ : ∃ b, (s.at_ i).l = b := ⟨_, rfl⟩
      rw [hql] at e1
      obtain ⟨qr, hqr⟩ : ∃ b, (s.at_ i).r = b := ⟨_, rfl⟩
      rw [hqr] at e2
      obtain ⟨bl, hbl⟩ : ∃ b, (s.at_ i).hl = b := ⟨_, rfl⟩
      rw [hbl] at e3
      obtain ⟨br, hbr⟩ : ∃ b, (s.at_ i).hr = b := ⟨_, rfl⟩
      rw [hbr] at e4
      obtain ⟨qd, hqd⟩ : ∃ b, (s.at_ i).d = b := ⟨_, rfl⟩
      rw [hqd] at e5
      have Hql := Lib.hid hql
      have Hqr := Lib.hid hqr
      have Hbl := Lib.hid hbl
      have Hbr := Lib.hid hbr
      have Hbrt : Hid (br = true) := Lib.hid (hbr.symm.trans hrA)
      have Hblt : Hid (bl = true) := Lib.hid (hbl.symm.trans Hhl0.out)
      have Hmer : Hid (mergeP i fa fb s = pickP i s) := Lib.hid (by unfold mergeP; rw [HfA.out]; unfold fetchR; rw [if_pos hrA])
      clear hqn hql hqr hbl hbr hqd
      clear hrA
      have hbl1 : bl = true := Hblt.out
      subst hbl1
      have hbr1 : br = true := Hbrt.out
      subst hbr1
      by_cases hle : ql ≤ qr
      · have q1 := Hiw.out.setL (i := i) hlS 0
        have q1b := q1.setHL (i := i) (by simp only [PS.put, List.length_set]; exact hlS) false
        rw [PS.at_put hlS, PS.put_put] at q1b
        simp only at q1b
        have q2 := Hiw.out.setHL (i := i) hlS false
        have q2b := q2.setL (i := i) (by simp only [PS.put, List.length_set]; exact hlS) 0
        rw [PS.at_put hlS, PS.put_put] at q2b
        simp only at q2b
        have Hq1 := Lib.hid q1b
        have Hq2 := Lib.hid q2b
        clear q1 q1b q2 q2b
        have hm : mergeP i fa fb s = (s.put i { s.at_ i with l := 0, hl := false }, some ql) := by rw [Hmer.out]; simp [pickP, Hbl.out, Hbr.out, Hql.out, Hqr.out, hle]
        have Hm := Lib.hid hm
        clear hm
        go_wp2_with fail
        go_region
        all_goals go_wp2_with fail
        all_goals go_region
        all_goals go_wp2_with fail
        all_goals refine bodyPost_ret (v := .tuple #[.int .i64 ql, .bool true]) (by simp [results, Try.results126, go_sem]) rfl ?_
        all_goals rw [Hm.out]
        all_goals first | exact ⟨rfl, Hq1.out.drew.drew, (((Fr.refl n0 rb cb W).setc _ _).setc _ _).drew.drew⟩ | exact ⟨rfl, Hq2.out.drew.drew, (((Fr.refl n0 rb cb W).setc _ _).setc _ _).drew.drew⟩
      · have q1 := Hiw.out.setR (i := i) hlS 0
        have q1b := q1.setHR (i := i) (by simp only [PS.put, List.length_set]; exact hlS) false
        rw [PS.at_put hlS, PS.put_put] at q1b
        simp only at q1b
        have q2 := Hiw.out.setHR (i := i) hlS false
        have q2b := q2.setR (i := i) (by simp only [PS.put, List.length_set]; exact hlS) 0
        rw [PS.at_put hlS, PS.put_put] at q2b
        simp only at q2b
        have Hq1 := Lib.hid q1b
        have Hq2 := Lib.hid q2b
        clear q1 q1b q2 q2b
        have hm : mergeP i fa fb s = (s.put i { s.at_ i with r := 0, hr := false }, some qr) := by rw [Hmer.out]; simp [pickP, Hbl.out, Hbr.out, Hql.out, Hqr.out, (show ¬ ql ≤ qr by omega)]
        have Hm := Lib.hid hm
        have htp : tup (some qr) = .tuple #[.int .i64 qr, .bool true] := rfl
        have Htp := Lib.hid htp
        clear hm htp
        go_wp2_with fail
        go_region
        all_goals go_wp2_with fail
        all_goals go_region
        all_goals go_wp2_with fail
        all_goals go_region
        all_goals go_wp2_with fail
        all_goals refine bodyPost_ret (v := .tuple #[.int .i64 qr, .bool true]) (by simp [results, Try.results126, go_sem]) rfl ?_
        all_goals rw [Hm.out]
        all_goals first | exact ⟨by rw [Htp.out], Hq1.out.drew.drew.drew, (((Fr.refl n0 rb cb W).setc _ _).setc _ _).drew.drew.drew⟩ | exact ⟨by rw [Htp.out], Hq2.out.drew.drew.drew, (((Fr.refl n0 rb cb W).setc _ _).setc _ _).drew.drew.drew⟩
    | false =>
      rw [hrA] at e4
      have HhrA := Lib.hid hrA
      clear hrA
      rcases hfsy : fb s with ⟨sy, oy⟩
      have hfiney := HFb.out s Hok.out
      rw [hfsy] at hfiney
      have Hfiney := Lib.hid hfiney
      have hcally := HPb.out fe s _ (Hfr.out.trans (Fr.refl n0 rb cb W).drew) (Hiw.out).drew Hok.out hlg
      rw [hfsy] at hcally
      have Hcally := Lib.hid hcally
      have Hfsy := Lib.hid hfsy
      clear hfiney hfsy hcally
      have ceaD := (Kxa.out.fr (Hfr.out.trans (Fr.refl n0 rb cb W).drew) (by decide)).cell
      have cebD := (Kxb.out.fr (Hfr.out.trans (Fr.refl n0 rb cb W).drew) (by decide)).cell
      have cecD := (Kxc.out.fr (Hfr.out.trans (Fr.refl n0 rb cb W).drew) (by decide)).cell
      obtain ⟨v_, hv_⟩ : ∃ v, oy.getD 0 = v := ⟨_, rfl⟩
      obtain ⟨b_, hb_⟩ : ∃ b, oy.isSome = b := ⟨_, rfl⟩
      have htb : tup oy = .tuple #[.int .i64 v_, .bool b_] := by unfold tup; rw [hv_, hb_]
      have HrX : Hid (b_ = false → v_ = 0) := Lib.hid (by intro e; rw [← hv_]; rw [← hb_] at e; cases oy with | none => rfl | some v => simp at e)
      have hatb := Hfiney.out.at_ hjb
      have Hatb := Lib.hid hatb
      have Hv_ := Lib.hid hv_
      have Hb_ := Lib.hid hb_
      have hly : i < sy.cs.length := by rw [Hfiney.out.ok.len]; exact hi
      clear hv_ hb_ hatb
      go_wp2_with fail
      go_region_held3 (fun w' => w'.cell? ⟨bc, 0, none⟩ = some (.pointer (some ⟨cb, i * 6, none⟩)) ∧ w'.cell? ⟨bb0, 0, none⟩ = some (.func (.func kb) #[] lbb)) (first | exact ⟨cecD, cebD⟩ | exact ks | exact ks1 | exact ks2 | exact ks3 | exact ks4 | go_keep)
        (first
          | (
            refine Hcally.out.mono ?_
            rintro e wy ⟨rfl, iwy, fry⟩
            have ff := (Fr.refl n0 rb cb W).drew.trans fry
            have ks := And.intro (Kxc.out.fr (Hfr.out.trans ff) (by decide)).cell (Kxb.out.fr (Hfr.out.trans ff) (by decide)).cell
            have ks1 := And.intro (Kxc.out.fr (Hfr.out.trans (ff.setc (i * 6 + 2) (.int .i64 v_))) (by decide)).cell (Kxb.out.fr (Hfr.out.trans (ff.setc (i * 6 + 2) (.int .i64 v_))) (by decide)).cell
            have ks2 := And.intro (Kxc.out.fr (Hfr.out.trans ((ff.setc (i * 6 + 2) (.int .i64 v_)).setc (i * 6 + 4) (.bool b_))) (by decide)).cell (Kxb.out.fr (Hfr.out.trans ((ff.setc (i * 6 + 2) (.int .i64 v_)).setc (i * 6 + 4) (.bool b_))) (by decide)).cell
            have ks3 := And.intro (Kxc.out.fr (Hfr.out.trans (ff.setc (i * 6 + 4) (.bool b_))) (by decide)).cell (Kxb.out.fr (Hfr.out.trans (ff.setc (i * 6 + 4) (.bool b_))) (by decide)).cell
            have ks4 := And.intro (Kxc.out.fr (Hfr.out.trans ((ff.setc (i * 6 + 4) (.bool b_)).setc (i * 6 + 2) (.int .i64 v_))) (by decide)).cell (Kxb.out.fr (Hfr.out.trans ((ff.setc (i * 6 + 4) (.bool b_)).setc (i * 6 + 2) (.int .i64 v_))) (by decide)).cell
            have ycl := RS.cl iwy (i := i) hly
            have y2 := ycl.c2
            have y4 := ycl.c4
            have yg2 := RS.free iwy (i * 6 + 2)
            have yg4 := RS.free iwy (i * 6 + 4)
            have Hiwy := Lib.hid iwy
            have Hff := Lib.hid ff
            clear iwy fry ff ycl
          ))
      clear ks ks1 ks2 ks3 ks4 y2 y4 yg2 yg4 htb
      have p1 := RS.setR (i := i) Hiwy.out hly v_
      have p1b := p1.setHR (i := i) (by simp only [PS.put, List.length_set]; exact hly) b_
      rw [PS.at_put hly, PS.put_put] at p1b
      simp only at p1b
      have p2 := ((Hff.out.setc (i * 6 + 2) (.int .i64 v_)).setc (i * 6 + 4) (.bool b_))
      obtain ⟨X, hX⟩ : ∃ X, (wy.setCell ⟨cb, i * 6 + 2, none⟩ (.int .i64 v_)).setCell ⟨cb, i * 6 + 4, none⟩ (.bool b_) = X := ⟨_, rfl⟩
      rw [hX] at p1b p2 ⊢
      obtain ⟨SB, hSB⟩ : ∃ S, sy.put i { sy.at_ i with r := v_, hr := b_ } = S := ⟨_, rfl⟩
      have hfX : fetchR i fb s = SB := by unfold fetchR; rw [if_neg (by rw [HhrA.out]; decide), Hfsy.out, ← hSB]; simp only; rw [Hv_.out, Hb_.out]
      have hfineX := fetchR_fine Hx.out Hk9.out hjb HFb.out s Hok.out
      rw [hfX] at hfineX
      rw [hSB] at p1b
      have hokX := hfineX.ok
      have hlX : i < SB.cs.length := by rw [hokX.len]; exact hi
      have hatX : SB.at_ i = { s.at_ i with r := v_, hr := b_ } := by rw [← hSB, PS.at_put hly, Hatb.out]
      have HiwX : Hid (IW n0 rb cb N cc fe SB X) := Lib.hid p1b
      have HfrX : Hid (Fr n0 rb cb W X) := Lib.hid p2
      clear p1 p1b p2 hX hSB Hiwy Hff
      have HmerB : Hid (mergeP i fa fb s = pickP i SB) := Lib.hid (by unfold mergeP; rw [HfA.out, hfX])
      have hlS : i < SB.cs.length := hlX
      obtain ⟨f0, f1, f2, f3, f4, f5⟩ := HiwX.out.cl (i := i) hlS
      have Hmer := HmerB
      have gB1 := HiwX.out.free (i * 6 + 1)
      have gB2 := HiwX.out.free (i * 6 + 2)
      have gB3 := HiwX.out.free (i * 6 + 3)
      have gB4 := HiwX.out.free (i * 6 + 4)
      have ceaX := (Kxa.out.fr (Hfr.out.trans HfrX.out) (by decide)).cell
      have cebX := (Kxb.out.fr (Hfr.out.trans HfrX.out) (by decide)).cell
      have cecX := (Kxc.out.fr (Hfr.out.trans HfrX.out) (by decide)).cell
      obtain ⟨qn, hqn⟩ : ∃ b, (SB.at_ i).n = b := ⟨_, rfl⟩
      rw [hqn] at f0
      obtain ⟨ql, hql⟩ : ∃ b, (SB.at_ i).l = b := ⟨_, rfl⟩
      rw [hql] at f1
      obtain ⟨qr, hqr⟩ : ∃ b, (SB.at_ i).r = b := ⟨_, rfl⟩
      rw [hqr] at f2
      obtain ⟨bl, hbl⟩ : ∃ b, (SB.at_ i).hl = b := ⟨_, rfl⟩
      rw [hbl] at f3
      obtain ⟨br, hbr⟩ : ∃ b, (SB.at_ i).hr = b := ⟨_, rfl⟩
      rw [hbr] at f4
      obtain ⟨qd, hqd⟩ : ∃ b, (SB.at_ i).d = b := ⟨_, rfl⟩
      rw [hqd] at f5
      have Hql := Lib.hid hql
      have Hqr := Lib.hid hqr
      have Hbl := Lib.hid hbl
      have Hbr := Lib.hid hbr
      have Hr0 : Hid (br = false → qr = 0) := Lib.hid (by rw [hatX] at hqr hbr; simp only at hqr hbr; intro e; rw [← hqr]; exact HrX.out (hbr.trans e))
      have Hblt : Hid (bl = true) := Lib.hid (by rw [hatX] at hbl; simp only at hbl; exact hbl.symm.trans Hhl0.out)
      clear hqn hql hqr hbl hbr hqd
      clear hatX hfX hokX
      have hbl1 : bl = true := Hblt.out
      subst hbl1
      cases br with
      | false =>
        have q1 := HiwX.out.setL (i := i) hlS 0
        have q1b := q1.setHL (i := i) (by simp only [PS.put, List.length_set]; exact hlS) false
        rw [PS.at_put hlS, PS.put_put] at q1b
        simp only at q1b
        have q2 := HiwX.out.setHL (i := i) hlS false
        have q2b := q2.setL (i := i) (by simp only [PS.put, List.length_set]; exact hlS) 0
        rw [PS.at_put hlS, PS.put_put] at q2b
        simp only at q2b
        have Hq1 := Lib.hid q1b
        have Hq2 := Lib.hid q2b
        clear q1 q1b q2 q2b
        have hm : mergeP i fa fb s = (SB.put i { SB.at_ i with l := 0, hl := false }, some ql) := by rw [Hmer.out]; simp [pickP, Hbl.out, Hbr.out, Hql.out]
        have Hm := Lib.hid hm
        clear hm
        go_wp2_with fail
        go_region
        all_goals go_wp2_with fail
        all_goals go_region
        all_goals go_wp2_with fail
        all_goals refine bodyPost_ret (v := .tuple #[.int .i64 ql, .bool true]) (by simp [results, Try.results126, go_sem]) rfl ?_
        all_goals rw [Hm.out]
        all_goals first | exact ⟨rfl, Hq1.out.drew.drew, (((HfrX.out).setc _ _).setc _ _).drew.drew⟩ | exact ⟨rfl, Hq2.out.drew.drew, (((HfrX.out).setc _ _).setc _ _).drew.drew⟩
      | true =>
        by_cases hle : ql ≤ qr
        · have q1 := HiwX.out.setL (i := i) hlS 0
          have q1b := q1.setHL (i := i) (by simp only [PS.put, List.length_set]; exact hlS) false
          rw [PS.at_put hlS, PS.put_put] at q1b
          simp only at q1b
          have q2 := HiwX.out.setHL (i := i) hlS false
          have q2b := q2.setL (i := i) (by simp only [PS.put, List.length_set]; exact hlS) 0
          rw [PS.at_put hlS, PS.put_put] at q2b
          simp only at q2b
          have Hq1 := Lib.hid q1b
          have Hq2 := Lib.hid q2b
          clear q1 q1b q2 q2b
          have hm : mergeP i fa fb s = (SB.put i { SB.at_ i with l := 0, hl := false }, some ql) := by rw [Hmer.out]; simp [pickP, Hbl.out, Hbr.out, Hql.out, Hqr.out, hle]
          have Hm := Lib.hid hm
          clear hm
          go_wp2_with fail
          go_region
          all_goals go_wp2_with fail
          all_goals go_region
          all_goals go_wp2_with fail
          all_goals refine bodyPost_ret (v := .tuple #[.int .i64 ql, .bool true]) (by simp [results, Try.results126, go_sem]) rfl ?_
          all_goals rw [Hm.out]
          all_goals first | exact ⟨rfl, Hq1.out.drew.drew, (((HfrX.out).setc _ _).setc _ _).drew.drew⟩ | exact ⟨rfl, Hq2.out.drew.drew, (((HfrX.out).setc _ _).setc _ _).drew.drew⟩
        · have q1 := HiwX.out.setR (i := i) hlS 0
          have q1b := q1.setHR (i := i) (by simp only [PS.put, List.length_set]; exact hlS) false
          rw [PS.at_put hlS, PS.put_put] at q1b
          simp only at q1b
          have q2 := HiwX.out.setHR (i := i) hlS false
          have q2b := q2.setR (i := i) (by simp only [PS.put, List.length_set]; exact hlS) 0
          rw [PS.at_put hlS, PS.put_put] at q2b
          simp only at q2b
          have Hq1 := Lib.hid q1b
          have Hq2 := Lib.hid q2b
          clear q1 q1b q2 q2b
          have hm : mergeP i fa fb s = (SB.put i { SB.at_ i with r := 0, hr := false }, some qr) := by rw [Hmer.out]; simp [pickP, Hbl.out, Hbr.out, Hql.out, Hqr.out, (show ¬ ql ≤ qr by omega)]
          have Hm := Lib.hid hm
          have htp : tup (some qr) = .tuple #[.int .i64 qr, .bool true] := rfl
          have Htp := Lib.hid htp
          clear hm htp
          go_wp2_with fail
          go_region
          all_goals go_wp2_with fail
          all_goals go_region
          all_goals go_wp2_with fail
          all_goals go_region
          all_goals go_wp2_with fail
          all_goals refine bodyPost_ret (v := .tuple #[.int .i64 qr, .bool true]) (by simp [results, Try.results126, go_sem]) rfl ?_
          all_goals rw [Hm.out]
          all_goals first | exact ⟨by rw [Htp.out], Hq1.out.drew.drew.drew, (((HfrX.out).setc _ _).setc _ _).drew.drew.drew⟩ | exact ⟨by rw [Htp.out], Hq2.out.drew.drew.drew, (((HfrX.out).setc _ _).setc _ _).drew.drew.drew⟩
  | false =>
    have Hhl0 := Lib.hid hhl0
    rw [hhl0] at d3
    clear hhl0
    have dg1 := Hiw.out.free (i * 6 + 1)
    have dg3 := Hiw.out.free (i * 6 + 3)
    go_enter Try.func126, Try.ntmps126
    rcases hfsz : fa s with ⟨sz, oz⟩
    have hfinez := HFa.out s Hok.out
    rw [hfsz] at hfinez
    have Hfinez := Lib.hid hfinez
    have hcallz := HPa.out fe s _ (Hfr.out.trans (Fr.refl n0 rb cb W).drew) (Hiw.out).drew Hok.out hlg
    rw [hfsz] at hcallz
    have Hcallz := Lib.hid hcallz
    have Hfsz := Lib.hid hfsz
    clear hfinez hfsz hcallz
    have ceaD := (Kxa.out.fr (Hfr.out.trans (Fr.refl n0 rb cb W).drew) (by decide)).cell
    have cebD := (Kxb.out.fr (Hfr.out.trans (Fr.refl n0 rb cb W).drew) (by decide)).cell
    have cecD := (Kxc.out.fr (Hfr.out.trans (Fr.refl n0 rb cb W).drew) (by decide)).cell
    obtain ⟨v_, hv_⟩ : ∃ v, oz.getD 0 = v := ⟨_, rfl⟩
    obtain ⟨b_, hb_⟩ : ∃ b, oz.isSome = b := ⟨_, rfl⟩
    have htb : tup oz = .tuple #[.int .i64 v_, .bool b_] := by unfold tup; rw [hv_, hb_]
    have HrX : Hid (b_ = false → v_ = 0) := Lib.hid (by intro e; rw [← hv_]; rw [← hb_] at e; cases oz with | none => rfl | some v => simp at e)
    have hatb := Hfinez.out.at_ hja
    have Hatb := Lib.hid hatb
    have Hv_ := Lib.hid hv_
    have Hb_ := Lib.hid hb_
    have hly : i < sz.cs.length := by rw [Hfinez.out.ok.len]; exact hi
    clear hv_ hb_ hatb
    go_wp2_with fail
    go_region_held3 (fun w' => w'.cell? ⟨bc, 0, none⟩ = some (.pointer (some ⟨cb, i * 6, none⟩)) ∧ w'.cell? ⟨ba, 0, none⟩ = some (.func (.func ka) #[] lba)) (first | exact ⟨cecD, ceaD⟩ | exact ks | exact ks1 | exact ks2 | exact ks3 | exact ks4 | go_keep)
      (first
        | (
          refine Hcallz.out.mono ?_
          rintro e wy ⟨rfl, iwy, fry⟩
          have ff := (Fr.refl n0 rb cb W).drew.trans fry
          have ks := And.intro (Kxc.out.fr (Hfr.out.trans ff) (by decide)).cell (Kxa.out.fr (Hfr.out.trans ff) (by decide)).cell
          have ks1 := And.intro (Kxc.out.fr (Hfr.out.trans (ff.setc (i * 6 + 1) (.int .i64 v_))) (by decide)).cell (Kxa.out.fr (Hfr.out.trans (ff.setc (i * 6 + 1) (.int .i64 v_))) (by decide)).cell
          have ks2 := And.intro (Kxc.out.fr (Hfr.out.trans ((ff.setc (i * 6 + 1) (.int .i64 v_)).setc (i * 6 + 3) (.bool b_))) (by decide)).cell (Kxa.out.fr (Hfr.out.trans ((ff.setc (i * 6 + 1) (.int .i64 v_)).setc (i * 6 + 3) (.bool b_))) (by decide)).cell
          have ks3 := And.intro (Kxc.out.fr (Hfr.out.trans (ff.setc (i * 6 + 3) (.bool b_))) (by decide)).cell (Kxa.out.fr (Hfr.out.trans (ff.setc (i * 6 + 3) (.bool b_))) (by decide)).cell
          have ks4 := And.intro (Kxc.out.fr (Hfr.out.trans ((ff.setc (i * 6 + 3) (.bool b_)).setc (i * 6 + 1) (.int .i64 v_))) (by decide)).cell (Kxa.out.fr (Hfr.out.trans ((ff.setc (i * 6 + 3) (.bool b_)).setc (i * 6 + 1) (.int .i64 v_))) (by decide)).cell
          have ycl := RS.cl iwy (i := i) hly
          have y2 := ycl.c1
          have y4 := ycl.c3
          have yg2 := RS.free iwy (i * 6 + 1)
          have yg4 := RS.free iwy (i * 6 + 3)
          have Hiwy := Lib.hid iwy
          have Hff := Lib.hid ff
          clear iwy fry ff ycl
        ))
    clear ks ks1 ks2 ks3 ks4 y2 y4 yg2 yg4 htb
    have p1 := RS.setL (i := i) Hiwy.out hly v_
    have p1b := p1.setHL (i := i) (by simp only [PS.put, List.length_set]; exact hly) b_
    rw [PS.at_put hly, PS.put_put] at p1b
    simp only at p1b
    have p2 := ((Hff.out.setc (i * 6 + 1) (.int .i64 v_)).setc (i * 6 + 3) (.bool b_))
    obtain ⟨WA, hX⟩ : ∃ X, (wy.setCell ⟨cb, i * 6 + 1, none⟩ (.int .i64 v_)).setCell ⟨cb, i * 6 + 3, none⟩ (.bool b_) = X := ⟨_, rfl⟩
    rw [hX] at p1b p2 ⊢
    obtain ⟨SA, hSB⟩ : ∃ S, sz.put i { sz.at_ i with l := v_, hl := b_ } = S := ⟨_, rfl⟩
    have hfX : fetchL i fa s = SA := by unfold fetchL; rw [if_neg (by rw [Hhl0.out]; decide), Hfsz.out, ← hSB]; simp only; rw [Hv_.out, Hb_.out]
    have hfineX := fetchL_fine Hx.out Hk9.out hja HFa.out s Hok.out
    rw [hfX] at hfineX
    rw [hSB] at p1b
    have hokX := hfineX.ok
    have hlX : i < SA.cs.length := by rw [hokX.len]; exact hi
    have hatX : SA.at_ i = { s.at_ i with l := v_, hl := b_ } := by rw [← hSB, PS.at_put hly, Hatb.out]
    have HiwX : Hid (IW n0 rb cb N cc fe SA WA) := Lib.hid p1b
    have HfrX : Hid (Fr n0 rb cb W WA) := Lib.hid p2
    clear p1 p1b p2 hX hSB Hiwy Hff
    have HfA := Lib.hid hfX
    have HokA := Lib.hid hokX
    have HlgA : Hid (SA.lg.length + SA.W l src ≤ 65536) := Lib.hid (Nat.le_trans hfineX.wle hlg)
    have HiwA := HiwX
    have HfrA := HfrX
    clear hfX hokX hfineX hatX HiwX HfrX HrX Hatb Hv_ Hb_ hly hlX
    have hlA : i < SA.cs.length := by rw [HokA.out.len]; exact hi
    obtain ⟨e0, e1, e2, e3, e4, e5⟩ := HiwA.out.cl (i := i) hlA
    have gA1 := HiwA.out.free (i * 6 + 1)
    have gA2 := HiwA.out.free (i * 6 + 2)
    have gA3 := HiwA.out.free (i * 6 + 3)
    have gA4 := HiwA.out.free (i * 6 + 4)
    have ceaA := (Kxa.out.fr (Hfr.out.trans (HfrA.out)) (by decide)).cell
    have cebA := (Kxb.out.fr (Hfr.out.trans (HfrA.out)) (by decide)).cell
    have cecA := (Kxc.out.fr (Hfr.out.trans (HfrA.out)) (by decide)).cell
    cases hrA : (SA.at_ i).hr with
    | true =>
      have hlS := hlA
      obtain ⟨qn, hqn⟩ : ∃ b, (SA.at_ i).n = b := ⟨_, rfl⟩
      rw [hqn] at e0
      obtain ⟨ql, hql⟩ : ∃ b, (SA.at_ i).l = b := ⟨_, rfl⟩
      rw [hql] at e1
      obtain ⟨qr, hqr⟩ : ∃ b, (SA.at_ i).r = b := ⟨_, rfl⟩
      rw [hqr] at e2
      obtain ⟨bl, hbl⟩ : ∃ b, (SA.at_ i).hl = b := ⟨_, rfl⟩
      rw [hbl] at e3
      obtain ⟨br, hbr⟩ : ∃ b, (SA.at_ i).hr = b := ⟨_, rfl⟩
      rw [hbr] at e4
      obtain ⟨qd, hqd⟩ : ∃ b, (SA.at_ i).d = b := ⟨_, rfl⟩
      rw [hqd] at e5
      have Hql := Lib.hid hql
      have Hqr := Lib.hid hqr
      have Hbl := Lib.hid hbl
      have Hbr := Lib.hid hbr
      have Hbrt : Hid (br = true) := Lib.hid (hbr.symm.trans hrA)
      have Hmer : Hid (mergeP i fa fb s = pickP i SA) := Lib.hid (by unfold mergeP; rw [HfA.out]; unfold fetchR; rw [if_pos hrA])
      clear hqn hql hqr hbl hbr hqd
      clear hrA
      cases bl with
      | true =>
        have hbr1 : br = true := Hbrt.out
        subst hbr1
        by_cases hle : ql ≤ qr
        · have q1 := HiwA.out.setL (i := i) hlS 0
          have q1b := q1.setHL (i := i) (by simp only [PS.put, List.length_set]; exact hlS) false
          rw [PS.at_put hlS, PS.put_put] at q1b
          simp only at q1b
          have q2 := HiwA.out.setHL (i := i) hlS false
          have q2b := q2.setL (i := i) (by simp only [PS.put, List.length_set]; exact hlS) 0
          rw [PS.at_put hlS, PS.put_put] at q2b
          simp only at q2b
          have Hq1 := Lib.hid q1b
          have Hq2 := Lib.hid q2b
          clear q1 q1b q2 q2b
          have hm : mergeP i fa fb s = (SA.put i { SA.at_ i with l := 0, hl := false }, some ql) := by rw [Hmer.out]; simp [pickP, Hbl.out, Hbr.out, Hql.out, Hqr.out, hle]
          have Hm := Lib.hid hm
          clear hm
          go_wp2_with fail
          go_region
          all_goals go_wp2_with fail
          all_goals go_region
          all_goals go_wp2_with fail
          all_goals refine bodyPost_ret (v := .tuple #[.int .i64 ql, .bool true]) (by simp [results, Try.results126, go_sem]) rfl ?_
          all_goals rw [Hm.out]
          all_goals first | exact ⟨rfl, Hq1.out.drew.drew, (((HfrA.out).setc _ _).setc _ _).drew.drew⟩ | exact ⟨rfl, Hq2.out.drew.drew, (((HfrA.out).setc _ _).setc _ _).drew.drew⟩
        · have q1 := HiwA.out.setR (i := i) hlS 0
          have q1b := q1.setHR (i := i) (by simp only [PS.put, List.length_set]; exact hlS) false
          rw [PS.at_put hlS, PS.put_put] at q1b
          simp only at q1b
          have q2 := HiwA.out.setHR (i := i) hlS false
          have q2b := q2.setR (i := i) (by simp only [PS.put, List.length_set]; exact hlS) 0
          rw [PS.at_put hlS, PS.put_put] at q2b
          simp only at q2b
          have Hq1 := Lib.hid q1b
          have Hq2 := Lib.hid q2b
          clear q1 q1b q2 q2b
          have hm : mergeP i fa fb s = (SA.put i { SA.at_ i with r := 0, hr := false }, some qr) := by rw [Hmer.out]; simp [pickP, Hbl.out, Hbr.out, Hql.out, Hqr.out, (show ¬ ql ≤ qr by omega)]
          have Hm := Lib.hid hm
          have htp : tup (some qr) = .tuple #[.int .i64 qr, .bool true] := rfl
          have Htp := Lib.hid htp
          clear hm htp
          go_wp2_with fail
          go_region
          all_goals go_wp2_with fail
          all_goals go_region
          all_goals go_wp2_with fail
          all_goals go_region
          all_goals go_wp2_with fail
          all_goals refine bodyPost_ret (v := .tuple #[.int .i64 qr, .bool true]) (by simp [results, Try.results126, go_sem]) rfl ?_
          all_goals rw [Hm.out]
          all_goals first | exact ⟨by rw [Htp.out], Hq1.out.drew.drew.drew, (((HfrA.out).setc _ _).setc _ _).drew.drew.drew⟩ | exact ⟨by rw [Htp.out], Hq2.out.drew.drew.drew, (((HfrA.out).setc _ _).setc _ _).drew.drew.drew⟩
      | false =>
        have hbr1 : br = true := Hbrt.out
        subst hbr1
        have q1 := HiwA.out.setR (i := i) hlS 0
        have q1b := q1.setHR (i := i) (by simp only [PS.put, List.length_set]; exact hlS) false
        rw [PS.at_put hlS, PS.put_put] at q1b
        simp only at q1b
        have q2 := HiwA.out.setHR (i := i) hlS false
        have q2b := q2.setR (i := i) (by simp only [PS.put, List.length_set]; exact hlS) 0
        rw [PS.at_put hlS, PS.put_put] at q2b
        simp only at q2b
        have Hq1 := Lib.hid q1b
        have Hq2 := Lib.hid q2b
        clear q1 q1b q2 q2b
        have hm : mergeP i fa fb s = (SA.put i { SA.at_ i with r := 0, hr := false }, some qr) := by rw [Hmer.out]; simp [pickP, Hbl.out, Hbr.out, Hqr.out]
        have Hm := Lib.hid hm
        have htp : tup (some qr) = .tuple #[.int .i64 qr, .bool true] := rfl
        have Htp := Lib.hid htp
        clear hm htp
        go_wp2_with fail
        go_region
        all_goals go_wp2_with fail
        all_goals go_region
        all_goals go_wp2_with fail
        all_goals go_region
        all_goals go_wp2_with fail
        all_goals refine bodyPost_ret (v := .tuple #[.int .i64 qr, .bool true]) (by simp [results, Try.results126, go_sem]) rfl ?_
        all_goals rw [Hm.out]
        all_goals first | exact ⟨by rw [Htp.out], Hq1.out.drew.drew.drew, (((HfrA.out).setc _ _).setc _ _).drew.drew.drew⟩ | exact ⟨by rw [Htp.out], Hq2.out.drew.drew.drew, (((HfrA.out).setc _ _).setc _ _).drew.drew.drew⟩
    | false =>
      rw [hrA] at e4
      have HhrA := Lib.hid hrA
      clear hrA
      rcases hfsy : fb SA with ⟨sy, oy⟩
      have hfiney := HFb.out SA HokA.out
      rw [hfsy] at hfiney
      have Hfiney := Lib.hid hfiney
      have hcally := HPb.out fe SA _ (Hfr.out.trans (HfrA.out).drew) (HiwA.out).drew HokA.out HlgA.out
      rw [hfsy] at hcally
      have Hcally := Lib.hid hcally
      have Hfsy := Lib.hid hfsy
      clear hfiney hfsy hcally
      have ceaD := (Kxa.out.fr (Hfr.out.trans (HfrA.out).drew) (by decide)).cell
      have cebD := (Kxb.out.fr (Hfr.out.trans (HfrA.out).drew) (by decide)).cell
      have cecD := (Kxc.out.fr (Hfr.out.trans (HfrA.out).drew) (by decide)).cell
      obtain ⟨v_, hv_⟩ : ∃ v, oy.getD 0 = v := ⟨_, rfl⟩
      obtain ⟨b_, hb_⟩ : ∃ b, oy.isSome = b := ⟨_, rfl⟩
      have htb : tup oy = .tuple #[.int .i64 v_, .bool b_] := by unfold tup; rw [hv_, hb_]
      have HrX : Hid (b_ = false → v_ = 0) := Lib.hid (by intro e; rw [← hv_]; rw [← hb_] at e; cases oy with | none => rfl | some v => simp at e)
      have hatb := Hfiney.out.at_ hjb
      have Hatb := Lib.hid hatb
      have Hv_ := Lib.hid hv_
      have Hb_ := Lib.hid hb_
      have hly : i < sy.cs.length := by rw [Hfiney.out.ok.len]; exact hi
      clear hv_ hb_ hatb
      go_wp2_with fail
      go_region_held3 (fun w' => w'.cell? ⟨bc, 0, none⟩ = some (.pointer (some ⟨cb, i * 6, none⟩)) ∧ w'.cell? ⟨bb0, 0, none⟩ = some (.func (.func kb) #[] lbb)) (first | exact ⟨cecD, cebD⟩ | exact ks | exact ks1 | exact ks2 | exact ks3 | exact ks4 | go_keep)
        (first
          | (
            refine Hcally.out.mono ?_
            rintro e wy ⟨rfl, iwy, fry⟩
            have ff := (HfrA.out).drew.trans fry
            have ks := And.intro (Kxc.out.fr (Hfr.out.trans ff) (by decide)).cell (Kxb.out.fr (Hfr.out.trans ff) (by decide)).cell
            have ks1 := And.intro (Kxc.out.fr (Hfr.out.trans (ff.setc (i * 6 + 2) (.int .i64 v_))) (by decide)).cell (Kxb.out.fr (Hfr.out.trans (ff.setc (i * 6 + 2) (.int .i64 v_))) (by decide)).cell
            have ks2 := And.intro (Kxc.out.fr (Hfr.out.trans ((ff.setc (i * 6 + 2) (.int .i64 v_)).setc (i * 6 + 4) (.bool b_))) (by decide)).cell (Kxb.out.fr (Hfr.out.trans ((ff.setc (i * 6 + 2) (.int .i64 v_)).setc (i * 6 + 4) (.bool b_))) (by decide)).cell
            have ks3 := And.intro (Kxc.out.fr (Hfr.out.trans (ff.setc (i * 6 + 4) (.bool b_))) (by decide)).cell (Kxb.out.fr (Hfr.out.trans (ff.setc (i * 6 + 4) (.bool b_))) (by decide)).cell
            have ks4 := And.intro (Kxc.out.fr (Hfr.out.trans ((ff.setc (i * 6 + 4) (.bool b_)).setc (i * 6 + 2) (.int .i64 v_))) (by decide)).cell (Kxb.out.fr (Hfr.out.trans ((ff.setc (i * 6 + 4) (.bool b_)).setc (i * 6 + 2) (.int .i64 v_))) (by decide)).cell
            have ycl := RS.cl iwy (i := i) hly
            have y2 := ycl.c2
            have y4 := ycl.c4
            have yg2 := RS.free iwy (i * 6 + 2)
            have yg4 := RS.free iwy (i * 6 + 4)
            have Hiwy := Lib.hid iwy
            have Hff := Lib.hid ff
            clear iwy fry ff ycl
          ))
      clear ks ks1 ks2 ks3 ks4 y2 y4 yg2 yg4 htb
      have p1 := RS.setR (i := i) Hiwy.out hly v_
      have p1b := p1.setHR (i := i) (by simp only [PS.put, List.length_set]; exact hly) b_
      rw [PS.at_put hly, PS.put_put] at p1b
      simp only at p1b
      have p2 := ((Hff.out.setc (i * 6 + 2) (.int .i64 v_)).setc (i * 6 + 4) (.bool b_))
      obtain ⟨X, hX⟩ : ∃ X, (wy.setCell ⟨cb, i * 6 + 2, none⟩ (.int .i64 v_)).setCell ⟨cb, i * 6 + 4, none⟩ (.bool b_) = X := ⟨_, rfl⟩
      rw [hX] at p1b p2 ⊢
      obtain ⟨SB, hSB⟩ : ∃ S, sy.put i { sy.at_ i with r := v_, hr := b_ } = S := ⟨_, rfl⟩
      have hfX : fetchR i fb SA = SB := by unfold fetchR; rw [if_neg (by rw [HhrA.out]; decide), Hfsy.out, ← hSB]; simp only; rw [Hv_.out, Hb_.out]
      have hfineX := fetchR_fine Hx.out Hk9.out hjb HFb.out SA HokA.out
      rw [hfX] at hfineX
      rw [hSB] at p1b
      have hokX := hfineX.ok
      have hlX : i < SB.cs.length := by rw [hokX.len]; exact hi
      have hatX : SB.at_ i = { SA.at_ i with r := v_, hr := b_ } := by rw [← hSB, PS.at_put hly, Hatb.out]
      have HiwX : Hid (IW n0 rb cb N cc fe SB X) := Lib.hid p1b
      have HfrX : Hid (Fr n0 rb cb W X) := Lib.hid p2
      clear p1 p1b p2 hX hSB Hiwy Hff
      have HmerB : Hid (mergeP i fa fb s = pickP i SB) := Lib.hid (by unfold mergeP; rw [HfA.out, hfX])
      have hlS : i < SB.cs.length := hlX
      obtain ⟨f0, f1, f2, f3, f4, f5⟩ := HiwX.out.cl (i := i) hlS
      have Hmer := HmerB
      have gB1 := HiwX.out.free (i * 6 + 1)
      have gB2 := HiwX.out.free (i * 6 + 2)
      have gB3 := HiwX.out.free (i * 6 + 3)
      have gB4 := HiwX.out.free (i * 6 + 4)
      have ceaX := (Kxa.out.fr (Hfr.out.trans HfrX.out) (by decide)).cell
      have cebX := (Kxb.out.fr (Hfr.out.trans HfrX.out) (by decide)).cell
      have cecX := (Kxc.out.fr (Hfr.out.trans HfrX.out) (by decide)).cell
      obtain ⟨qn, hqn⟩ : ∃ b, (SB.at_ i).n = b := ⟨_, rfl⟩
      rw [hqn] at f0
      obtain ⟨ql, hql⟩ : ∃ b, (SB.at_ i).l = b := ⟨_, rfl⟩
      rw [hql] at f1
      obtain ⟨qr, hqr⟩ : ∃ b, (SB.at_ i).r = b := ⟨_, rfl⟩
      rw [hqr] at f2
      obtain ⟨bl, hbl⟩ : ∃ b, (SB.at_ i).hl = b := ⟨_, rfl⟩
      rw [hbl] at f3
      obtain ⟨br, hbr⟩ : ∃ b, (SB.at_ i).hr = b := ⟨_, rfl⟩
      rw [hbr] at f4
      obtain ⟨qd, hqd⟩ : ∃ b, (SB.at_ i).d = b := ⟨_, rfl⟩
      rw [hqd] at f5
      have Hql := Lib.hid hql
      have Hqr := Lib.hid hqr
      have Hbl := Lib.hid hbl
      have Hbr := Lib.hid hbr
      have Hr0 : Hid (br = false → qr = 0) := Lib.hid (by rw [hatX] at hqr hbr; simp only at hqr hbr; intro e; rw [← hqr]; exact HrX.out (hbr.trans e))
      clear hqn hql hqr hbl hbr hqd
      clear hatX hfX hokX
      cases bl with
      | true =>
        cases br with
        | false =>
          have q1 := HiwX.out.setL (i := i) hlS 0
          have q1b := q1.setHL (i := i) (by simp only [PS.put, List.length_set]; exact hlS) false
          rw [PS.at_put hlS, PS.put_put] at q1b
          simp only at q1b
          have q2 := HiwX.out.setHL (i := i) hlS false
          have q2b := q2.setL (i := i) (by simp only [PS.put, List.length_set]; exact hlS) 0
          rw [PS.at_put hlS, PS.put_put] at q2b
          simp only at q2b
          have Hq1 := Lib.hid q1b
          have Hq2 := Lib.hid q2b
          clear q1 q1b q2 q2b
          have hm : mergeP i fa fb s = (SB.put i { SB.at_ i with l := 0, hl := false }, some ql) := by rw [Hmer.out]; simp [pickP, Hbl.out, Hbr.out, Hql.out]
          have Hm := Lib.hid hm
          clear hm
          go_wp2_with fail
          go_region
          all_goals go_wp2_with fail
          all_goals go_region
          all_goals go_wp2_with fail
          all_goals refine bodyPost_ret (v := .tuple #[.int .i64 ql, .bool true]) (by simp [results, Try.results126, go_sem]) rfl ?_
          all_goals rw [Hm.out]
          all_goals first | exact ⟨rfl, Hq1.out.drew.drew, (((HfrX.out).setc _ _).setc _ _).drew.drew⟩ | exact ⟨rfl, Hq2.out.drew.drew, (((HfrX.out).setc _ _).setc _ _).drew.drew⟩
        | true =>
          by_cases hle : ql ≤ qr
          · have q1 := HiwX.out.setL (i := i) hlS 0
            have q1b := q1.setHL (i := i) (by simp only [PS.put, List.length_set]; exact hlS) false
            rw [PS.at_put hlS, PS.put_put] at q1b
            simp only at q1b
            have q2 := HiwX.out.setHL (i := i) hlS false
            have q2b := q2.setL (i := i) (by simp only [PS.put, List.length_set]; exact hlS) 0
            rw [PS.at_put hlS, PS.put_put] at q2b
            simp only at q2b
            have Hq1 := Lib.hid q1b
            have Hq2 := Lib.hid q2b
            clear q1 q1b q2 q2b
            have hm : mergeP i fa fb s = (SB.put i { SB.at_ i with l := 0, hl := false }, some ql) := by rw [Hmer.out]; simp [pickP, Hbl.out, Hbr.out, Hql.out, Hqr.out, hle]
            have Hm := Lib.hid hm
            clear hm
            go_wp2_with fail
            go_region
            all_goals go_wp2_with fail
            all_goals go_region
            all_goals go_wp2_with fail
            all_goals refine bodyPost_ret (v := .tuple #[.int .i64 ql, .bool true]) (by simp [results, Try.results126, go_sem]) rfl ?_
            all_goals rw [Hm.out]
            all_goals first | exact ⟨rfl, Hq1.out.drew.drew, (((HfrX.out).setc _ _).setc _ _).drew.drew⟩ | exact ⟨rfl, Hq2.out.drew.drew, (((HfrX.out).setc _ _).setc _ _).drew.drew⟩
          · have q1 := HiwX.out.setR (i := i) hlS 0
            have q1b := q1.setHR (i := i) (by simp only [PS.put, List.length_set]; exact hlS) false
            rw [PS.at_put hlS, PS.put_put] at q1b
            simp only at q1b
            have q2 := HiwX.out.setHR (i := i) hlS false
            have q2b := q2.setR (i := i) (by simp only [PS.put, List.length_set]; exact hlS) 0
            rw [PS.at_put hlS, PS.put_put] at q2b
            simp only at q2b
            have Hq1 := Lib.hid q1b
            have Hq2 := Lib.hid q2b
            clear q1 q1b q2 q2b
            have hm : mergeP i fa fb s = (SB.put i { SB.at_ i with r := 0, hr := false }, some qr) := by rw [Hmer.out]; simp [pickP, Hbl.out, Hbr.out, Hql.out, Hqr.out, (show ¬ ql ≤ qr by omega)]
            have Hm := Lib.hid hm
            have htp : tup (some qr) = .tuple #[.int .i64 qr, .bool true] := rfl
            have Htp := Lib.hid htp
            clear hm htp
            go_wp2_with fail
            go_region
            all_goals go_wp2_with fail
            all_goals go_region
            all_goals go_wp2_with fail
            all_goals go_region
            all_goals go_wp2_with fail
            all_goals refine bodyPost_ret (v := .tuple #[.int .i64 qr, .bool true]) (by simp [results, Try.results126, go_sem]) rfl ?_
            all_goals rw [Hm.out]
            all_goals first | exact ⟨by rw [Htp.out], Hq1.out.drew.drew.drew, (((HfrX.out).setc _ _).setc _ _).drew.drew.drew⟩ | exact ⟨by rw [Htp.out], Hq2.out.drew.drew.drew, (((HfrX.out).setc _ _).setc _ _).drew.drew.drew⟩
      | false =>
        have q1 := HiwX.out.setR (i := i) hlS 0
        have q1b := q1.setHR (i := i) (by simp only [PS.put, List.length_set]; exact hlS) false
        rw [PS.at_put hlS, PS.put_put] at q1b
        simp only at q1b
        have q2 := HiwX.out.setHR (i := i) hlS false
        have q2b := q2.setR (i := i) (by simp only [PS.put, List.length_set]; exact hlS) 0
        rw [PS.at_put hlS, PS.put_put] at q2b
        simp only at q2b
        have Hq1 := Lib.hid q1b
        have Hq2 := Lib.hid q2b
        clear q1 q1b q2 q2b
        have hm : mergeP i fa fb s = (SB.put i { SB.at_ i with r := 0, hr := false }, if br = true then some qr else none) := by rw [Hmer.out]; simp [pickP, Hbl.out, Hbr.out, Hqr.out]
        have Hm := Lib.hid hm
        have htp : tup (if br = true then some qr else none) = .tuple #[.int .i64 qr, .bool br] := by have := Hr0.out; cases br with | true => rfl | false => rw [this rfl]; rfl
        have Htp := Lib.hid htp
        clear hm htp
        go_wp2_with fail
        go_region
        all_goals go_wp2_with fail
        all_goals go_region
        all_goals go_wp2_with fail
        all_goals go_region
        all_goals go_wp2_with fail
        all_goals refine bodyPost_ret (v := .tuple #[.int .i64 qr, .bool br]) (by simp [results, Try.results126, go_sem]) rfl ?_
        all_goals rw [Hm.out]
        all_goals first | exact ⟨by rw [Htp.out], Hq1.out.drew.drew.drew, (((HfrX.out).setc _ _).setc _ _).drew.drew.drew⟩ | exact ⟨by rw [Htp.out], Hq2.out.drew.drew.drew, (((HfrX.out).setc _ _).setc _ _).drew.drew.drew⟩

end Go.Proofs.Ythfniffecceldaa
