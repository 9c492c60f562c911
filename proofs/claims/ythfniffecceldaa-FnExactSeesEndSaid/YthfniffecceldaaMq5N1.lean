/- Texts on the program and its reference, put together (LeA, SeA). -/
import Derived.Test.YthfniffecceldaaMq5U
import Derived.Test.YthfniffecceldaaMq5Q
import Derived.Test.YthfniffecceldaaMq5F
import Derived.Deep.RegionHeld3
import Derived.Test.YthfniffecceldaaMq5B
import Derived.Deep.DeepMust
/- What is left over, by the program and by the reference. -/
namespace Go.Proofs.Ythfniffecceldaa
open Go.RowKit

/-- How many items of the first n sources are left behind those that are reached. -/
def leftUp (src : List (List Int)) (r : List Int) (n : Nat) : List Int := (List.range n).map fun i => (((src.getD i []).length : Nat) : Int) - r.getD i 0
theorem leftUp_len (src : List (List Int)) (r : List Int) (n : Nat) : (leftUp src r n).length = n := by simp [leftUp]
theorem leftUp_succ (src : List (List Int)) (r : List Int) (n : Nat) : leftUp src r (n + 1) = leftUp src r n ++ [(((src.getD n []).length : Nat) : Int) - r.getD n 0] := by simp [leftUp, List.range_succ]
/-- What is left over. -/
def LeftQ (l : List Nd) (src : List (List Int)) (q : List Int) : Prop := ∃ pre s, OutQ l src 200 pre s ∧ q = if (pipeOk l && srcOk src) = true then leftUp src (rchOf s.lg) 3 else []
theorem inR200 : inR 200 0 200 = true := by decide
theorem rch_range {l : List Nd} {src : List (List Int)} {k : Int} {pre : List Int} {s : PS} (h : OutQ l src k pre s) (hs : srcOk src = true) : ∀ v ∈ rchOf s.lg, 0 ≤ v ∧ v ≤ 12 := by
  refine rchOf_le (by omega) s.lg _ (fun p hp => ?_) (fun v hv => by simp at hv; omega)
  obtain ⟨⟨h0, h1⟩, _, h3⟩ := h.good p hp
  have hr := (src_rows hs).2
  have : (src.getD p.s.toNat []).length ≤ 12 := by
    rw [List.getD_eq_getElem?_getD]
    cases h4 : src[p.s.toNat]? with
    | none => simp
    | some r => exact hr r (List.mem_of_getElem? h4)
  omega

set_option maxRecDepth 100000 in
set_option maxHeartbeats 3200000 in
theorem implLeftOver_any {l : List Nd} {src : List (List Int)} {A : Option Addr} {c : Nat} {As : Option Addr} {ca : Nat} (q : List Int) (hq : Hid (LeftQ l src q)) (w : World) (hn : RdN w w.heap.size A l) (hsr : RdR w w.heap.size As src) (hnl : l.length ≤ 1048576) (hns : src.length ≤ 1048576) (hm : Hid (∀ r ∈ src, r.length ≤ 1048576)) :
    Calls Try.prog 27 #[.agg #[.slice A l.length c], .slice As src.length ca] w fun e w' => ∃ A' c', e = .returned (.slice A' q.length c') ∧ OwnI w' w.heap.size w'.heap.size A' q ∧ Below w.heap.size w w' := by
  obtain ⟨pre, s, ho, hqq⟩ := hq.out
  have Hqq := Lib.hid hqq
  have Ho := Lib.hid ho
  clear hq ho hqq
  obtain ⟨W1, hW1⟩ : ∃ X : World, X = w.alloc (.cells #[.slice A l.length c] 39) := ⟨_, rfl⟩
  have hb1 : Below w.heap.size w W1 := by rw [hW1]; exact below1 w _
  have kE : Bk W1 w.heap.size 39 [.slice A l.length c] := by rw [hW1]; exact Bk.new _ _ [_]
  have z1 := hb1.size
  have hn1 : RdN W1 W1.heap.size A l := (hn.below hb1 (Nat.le_refl _)).more z1
  have hr1 : RdR W1 W1.heap.size As src := (hsr.below hb1 (Nat.le_refl _)).more z1
  have Hn := Lib.hid hn1
  have Hsr := Lib.hid hr1
  have HW1 := Lib.hid hW1
  have Hb1 := Lib.hid hb1
  have HkE := Lib.hid kE
  clear kE hn hsr hn1 hr1 hW1 hb1
  go_enter Try.func27, Try.ntmps27
  go_wp2_with fail
  rw [← HW1.out]
  refine (implReachedBy_any 200 pre s Ho W1 Hn.out Hsr.out hnl hns hm).mono ?_
  rintro e w2 ⟨A', c', rfl, hoi, hb2⟩
  have Hb2 := Lib.hid (Hb1.out.trans (hb2.mono z1))
  have hz2 := hb2.size
  have Hrd := Lib.hid (hoi.rd)
  have Hsr2 := Lib.hid ((Hsr.out.below hb2 (Nat.le_refl _)).more hz2)
  clear hb2 hoi
  cases hv : (pipeOk l && srcOk src) with
  | false =>
    have hr0 : QReachedBy l src 200 s = [] := QReachedBy_no (by rw [hv]; rfl)
    have hq0 : q = [] := by rw [Hqq.out, hv]; rfl
    have Hq0 := Lib.hid hq0
    rw [hr0]
    clear hv hr0 hq0
    go_wp2_with fail
    go_loop [6, 14] (fun sl i => sl = .slice none 0 0 ∧ i = .int .i64 0) (fun _ _ => 0)
    case atStart => exact ⟨rfl, rfl⟩
    case round =>
      obtain ⟨rfl, rfl⟩ := hrel
      go_wp2
      refine bodyPost_ret (v := .slice none 0 0) (by simp [results, Try.results27, go_sem]) rfl ?_
      rw [Hq0.out]
      first | exact ⟨none, 0, rfl, fun h => absurd h (by simp), Hb2.out⟩ | exact ⟨none, ⟨0, rfl⟩, fun h => absurd h (by simp), Hb2.out⟩
  | true =>
    have hv2 := hv
    simp only [Bool.and_eq_true] at hv2
    have hrq : QReachedBy l src 200 s = rchOf s.lg := QReachedBy_yes (by rw [hv]; rfl)
    have hq3 : q = leftUp src (rchOf s.lg) 3 := by rw [Hqq.out, hv]; rfl
    have h3 := (src_rows hv2.2).1
    have hrow := (src_rows hv2.2).2
    have hrg := rch_range Ho.out hv2.2
    have hrl := rchOf_len s.lg
    rw [hrq] at Hrd
    rw [hrq, hrl]
    have Hq3 := Lib.hid hq3
    have Hrow := Lib.hid hrow
    have Hrg := Lib.hid hrg
    have Hrl := Lib.hid hrl
    have H3 := Lib.hid h3
    have He := Lib.hid (OwnJ.nil_ w2 w2.heap.size)
    clear hv hv2 hrq hq3 hrow hrg hrl h3
    go_wp2_with fail
    go_loopw [6, 14] (fun sl i wr => ∃ j : Nat, j ≤ 3 ∧ i = .int .i64 j ∧ (∃ R cR, sl = .slice R j cR ∧ OwnJ wr w2.heap.size R cR (leftUp src (rchOf s.lg) j)) ∧ Below w2.heap.size w2 wr) (fun _ i _ => 3 - (intOf i).toNat)
    case atStart => exact ⟨0, by omega, rfl, ⟨_, _, rfl, He.out⟩, Below.refl _ _⟩
    case round =>
      obtain ⟨j, hj, rfl, ⟨R, cR, rfl, ho⟩, hbw⟩ := hrel
      have Ho := Lib.hid ho
      have Hbw := Lib.hid hbw
      clear ho hbw
      by_cases hlt : j < 3
      · obtain ⟨ad, v, hA, hv, hc⟩ := (Hrd.out.below Hbw.out (Nat.le_refl _)).at_ (k := j) (by rw [Hrl.out]; exact hlt)
        obtain ⟨ads, rr, Ar, cr, hAs, hrr, hcs, _⟩ := (Hsr2.out.below Hbw.out (Nat.le_refl _)).at_ (k := j) (by rw [H3.out]; exact hlt)
        have hvr := Hrg.out v (List.mem_of_getElem? hv)
        have hrl2 : rr.length ≤ 12 := Hrow.out rr (List.mem_of_getElem? hrr)
        have hv0 : 0 ≤ v := hvr.1
        have hv1 : v ≤ 12 := hvr.2
        have hx : (((src.getD j []).length : Nat) : Int) - (rchOf s.lg).getD j 0 = (rr.length : Int) - v := by
          rw [List.getD_eq_getElem?_getD, List.getD_eq_getElem?_getD, hv, hrr]
          rfl
        have hlts : j < src.length := by rw [H3.out]; exact hlt
        have Hx := Lib.hid hx
        have Hm0 : Hid ((leftUp src (rchOf s.lg) j).length = j) := leftUp_len _ _ _
        subst hA hAs
        clear hv hrr hvr hx
        go_wp2_with (at_builtin; go_must (refine wpList_append_int rfl _ _ rfl w2.heap.size R cR _ ((rr.length : Int) - v) j Hm0.out rfl Ho.out _ rfl rfl (by omega) Hbw.out.size ?_; intro R2 c2' w4 ho2 hg2); have hbb := (Hbw.out.alloc (Nat.le_trans (Nat.le_refl _) Hbw.out.size) _).grown hg2 (by have := Hbw.out.size; simp; omega) (fun g hg => (Ho.out.row_lt g hg).1); have Hbb := Lib.hid hbb; have Ho2 := Lib.hid ho2; clear ho2 hg2 hbb)
        go_roundw
        case rel => exact ⟨j + 1, by omega, by go_num, ⟨_, _, rfl, by rw [leftUp_succ, Hx.out]; exact Ho2.out⟩, Hbb.out⟩
        case measure => simp [intOf]; omega
      · obtain rfl : j = 3 := by omega
        go_wp2
        refine bodyPost_ret (v := .slice R 3 cR) (by simp [results, Try.results27, go_sem]) rfl ?_
        rw [Hq3.out]
        have hz := Hb2.out.size
        first | exact ⟨R, cR, ret_slice (leftUp_len _ _ _).symm, Ho.out.ownI.wide (by omega) (Nat.le_refl _), Hb2.out.trans (Hbw.out.mono hz)⟩ | exact ⟨R, ⟨cR, ret_slice (leftUp_len _ _ _).symm⟩, Ho.out.ownI.wide (by omega) (Nat.le_refl _), Hb2.out.trans (Hbw.out.mono hz)⟩

set_option maxRecDepth 100000 in
set_option maxHeartbeats 6400000 in
theorem specLeftOver_any {l : List Nd} {src : List (List Int)} {A : Option Addr} {c : Nat} {As : Option Addr} {ca : Nat} (q : List Int) (hq0 : Hid (LeftQ l src q)) (w : World) (hn : RdN w w.heap.size A l) (hsr : RdR w w.heap.size As src) (hnl : l.length ≤ 1048576) (hns : src.length ≤ 1048576) (hm : Hid (∀ r ∈ src, r.length ≤ 1048576)) :
    Calls Try.prog 26 #[.agg #[.slice A l.length c], .slice As src.length ca] w fun e w' => ∃ A' c', e = .returned (.slice A' q.length c') ∧ OwnI w' w.heap.size w'.heap.size A' q ∧ Below w.heap.size w w' := by
  obtain ⟨pre, s, ho, hqq⟩ := hq0.out
  have Hqq := Lib.hid hqq
  have hq := Lib.hid ho
  clear hq0 ho hqq
  obtain ⟨W1, hW1⟩ : ∃ X : World, X = w.alloc (.cells #[.slice A l.length c] 39) := ⟨_, rfl⟩
  have hb1 : Below w.heap.size w W1 := by rw [hW1]; exact below1 w _
  have kE : Bk W1 w.heap.size 39 [.slice A l.length c] := by rw [hW1]; exact Bk.new _ _ [_]
  have z1 := hb1.size
  have hn1 : RdN W1 W1.heap.size A l := (hn.below hb1 (Nat.le_refl _)).more z1
  have hr1 : RdR W1 W1.heap.size As src := (hsr.below hb1 (Nat.le_refl _)).more z1
  have Hn := Lib.hid hn1
  have Hsr := Lib.hid hr1
  have HW1 := Lib.hid hW1
  have Hb1 := Lib.hid hb1
  have HkE := Lib.hid kE
  clear kE
  clear hn hsr hn1 hr1 hW1 hb1
  have hcall := specvalidInput_any A c l As ca src W1 W1.heap.size Hn.out Hsr.out (Nat.le_refl _) hnl hns hm
  cases hv : (pipeOk l && srcOk src) with
  | false =>
    have hq0 : q = [] := by rw [Hqq.out, hv]; rfl
    have Hno := Lib.hid hq0
    clear hq0
    rw [hv] at hcall
    have Hcall := Lib.hid hcall
    clear hv hcall
    go_enter Try.func26, Try.ntmps26
    go_wp2_with fail
    rw [← HW1.out]
    refine Hcall.out.mono ?_
    rintro e w2 ⟨rfl, hb2⟩
    have Hb2 := Lib.hid (Hb1.out.trans (hb2.mono z1))
    clear hb2
    go_wp2_with fail
    refine bodyPost_ret (v := .slice none 0 0) (by simp [results, Try.results26, go_sem]) rfl ?_
    rw [Hno.out]
    first | exact ⟨none, 0, rfl, fun h => absurd h (by simp), Hb2.out⟩ | exact ⟨none, ⟨0, rfl⟩, fun h => absurd h (by simp), Hb2.out⟩
  | true =>
    have hq3 : q = leftUp src (rchOf s.lg) 3 := by rw [Hqq.out, hv]; rfl
    have Hq3 := Lib.hid hq3
    have hyes := hq.out.yes (by rw [hv]; rfl)
    have hvv := hv
    have hsz := hq.out.sizes
    simp only [Bool.and_eq_true] at hv
    obtain ⟨hp, hs⟩ := hv
    have Hrg := Lib.hid (rch_range hq.out hs)
    have Hrow := Lib.hid (src_rows hs).2
    have h3 := (src_rows hs).1
    have hhigh := high_of hp
    obtain ⟨t, ht, hix, hqt⟩ := hyes
    have Hgd : Hid (∀ p ∈ s.lg, GoodPl src p) := Lib.hid hq.out.good
    have H12 : Hid (∀ r ∈ src, r.length ≤ 12) := Lib.hid (fun r hr => (src_rows hs).2 r hr)
    have hF := pull_fine (pipeOk_iff.1 hp) hs (fu := fun s => s.M l src + 1) ht
    have hpul := fun (W : World) (hnW : RdN W W.heap.size A l) (hsW : RdR W W.heap.size As src) => specPulled_any (c := c) (ca := ca) hhigh hF (fun pb cb n0 => NextOk.of (pipeOk_iff.1 hp) hs hhigh ht) hix (newPS_ok (pipeOk_iff.1 hp)) (newPS_W hs hhigh) 200 (Nat.le_refl _) W hnW hsW
    have hmany := manyP_runP hF (fun s s' ok h => pull_again (pipeOk_iff.1 hp) hs ht ok h) (newPS_ok (pipeOk_iff.1 hp)) 200
    have hlow := low_of hp
    rw [hvv] at hcall
    rw [h3] at hcall ⊢
    have Hcall := Lib.hid hcall
    have Hpul := Lib.hid hpul
    have Hmany := Lib.hid hmany
    have Hq := Lib.hid hqt
    have Hix := Lib.hid hix
    have Hsz := Lib.hid hsz
    have Hsrc3 := Lib.hid h3
    have Hsok := Lib.hid hs
    clear hp hs h3 ht hix hqt hcall hq hF hpul hmany hvv hsz hq3
    go_enter Try.func26, Try.ntmps26
    go_wp2_with fail
    rw [← HW1.out]
    refine Hcall.out.mono ?_
    rintro e w2 ⟨rfl, hb2⟩
    have Hb2 := Lib.hid (Hb1.out.trans (hb2.mono z1))
    have kE2 := HkE.out.below hb2 HkE.out.lt
    have e2 := kE2.cell 0
    simp only [List.getElem?_cons_zero] at e2
    have hz2 := hb2.size
    have hpc := Hpul.out w2 ((Hn.out.below hb2 (Nat.le_refl _)).more hz2) ((Hsr.out.below hb2 (Nat.le_refl _)).more hz2)
    have Hpc := Lib.hid hpc
    have HkE2 := Lib.hid kE2
    have Hpb1 := Lib.hid hb2
    clear hb2 hpc kE2
    go_wp2_with fail
    refine Hpc.out.mono ?_
    rintro e w3 ⟨pb, cb, R, cR, pre', s', rfl, h⟩
    have hl := h.ok.len
    have he := h.e
    rw [Hmany.out] at he
    rw [show (200 : Int).toNat = 200 from rfl, he] at Hq
    obtain ⟨rfl, rfl⟩ := Prod.mk.inj Hq.out.symm
    obtain ⟨b0, b1, b2⟩ := h.sw.bx
    have hz12 := Hb2.out.size
    have hz3 := h.bl.size
    have Hb3 := Lib.hid (Hb2.out.trans (h.bl.mono hz12))
    have hE3 := (HkE2.out.below h.bl HkE2.out.lt).cell 0
    simp only [List.getElem?_cons_zero] at hE3
    have Hh := Lib.hid h
    have hpb1 := Hpb1.out
    obtain ⟨Rl, cRl, hbx, hog⟩ := h.sw.rs.box
    have b3 := hbx.cell 3
    have plt := hbx.lt
    replace b3 : w3.cell? ⟨pb, 3, none⟩ = some (.slice Rl s.lg.length cRl) := b3
    have hlg : s.lg.length ≤ 65536 := Hsz.out.2.2
    have hrd := hog.ownPl.rd
    have Hrd := Lib.hid hrd
    clear hog hbx hrd
    clear he Hq h e2 hpb1
    go_wp2_with fail
    refine (specReached_any Hgd.out H12.out hlg w3 w3.heap.size Hrd.out (Nat.le_refl _)).mono ?_
    rintro e w4 ⟨rfl, hk4, hb4⟩
    have Hk4 := Lib.hid hk4
    have Hb4 := Lib.hid (Hb3.out.trans (hb4.mono (by omega)))
    have hz4 := hb4.size
    have HsA := Lib.hid ((Hsr.out.below (Hpb1.out.trans ((Hh.out.bl.trans (hb4.mono hz3)).mono hz2)) (Nat.le_refl _)).more (by omega : W1.heap.size ≤ w4.heap.size))
    have hbe : Below w4.heap.size w4 (w4.alloc (.cells #[] 3)) := (Below.refl _ _).alloc (Nat.le_refl _) _
    have Hbe := Lib.hid hbe
    have He := Lib.hid (emptyJ w4)
    have hrl := rchOf_len s.lg
    have Hrl := Lib.hid hrl
    have hz0 := Hb4.out.size
    clear hk4 hb4 hbe b3 hE3 hrl b0 b1 b2
    go_wp2_with fail
    go_loopw [8, 9] (fun sl i wr => ∃ j : Nat, j ≤ 3 ∧ i = .int .i64 j ∧ (∃ R9 cR9, sl = .slice R9 j cR9 ∧ OwnJ wr w4.heap.size R9 cR9 (leftUp src (rchOf s.lg) j)) ∧ Below w4.heap.size w4 wr) (fun _ i _ => 3 - (intOf i).toNat)
    case atStart => exact ⟨0, by omega, rfl, ⟨_, _, rfl, He.out⟩, Hbe.out⟩
    case round =>
      obtain ⟨j, hj, rfl, ⟨R9, cR9, rfl, ho⟩, hbw⟩ := hrel
      have hz := hbw.size
      have Ho := Lib.hid ho
      have Hbw := Lib.hid hbw
      clear ho hbw
      by_cases hlt : j < 3
      · obtain ⟨v, hv⟩ := get_of_lt (rchOf s.lg) (k := j) (by rw [Hrl.out]; exact hlt)
        obtain ⟨ads, rr, Ar, cr, hAs, hrr, hcs, _⟩ := (HsA.out.below Hbw.out (Nat.le_refl _)).at_ (k := j) (by rw [Hsrc3.out]; exact hlt)
        have hcv : wr.cell? ⟨w3.heap.size, j, none⟩ = some (.int .i64 v) := by
          rw [(Hk4.out.below Hbw.out Hk4.out.lt).cell, ints_get, hv]
          rfl
        have hvr := Hrg.out v (List.mem_of_getElem? hv)
        have hrl2 : rr.length ≤ 12 := Hrow.out rr (List.mem_of_getElem? hrr)
        have hv0 : 0 ≤ v := hvr.1
        have hv1 : v ≤ 12 := hvr.2
        have hx : (((src.getD j []).length : Nat) : Int) - (rchOf s.lg).getD j 0 = (rr.length : Int) - v := by
          rw [List.getD_eq_getElem?_getD, List.getD_eq_getElem?_getD, hv, hrr]
          rfl
        have hwr : IntKind.i64.wrap ((rr.length : Int) - v) = (rr.length : Int) - v := IntWalk.i64_in _ (by omega)
        have Hx := Lib.hid hx
        have Ho' : Hid (OwnJ wr.drew w4.heap.size R9 cR9 (leftUp src (rchOf s.lg) j)) := Lib.hid Ho.out
        have hkl := Hk4.out.lt
        subst hAs
        have hadl : ads.block < w4.heap.size := by
          obtain ⟨ad9, e9, h9, _⟩ := HsA.out (by rw [Hsrc3.out]; omega)
          rw [Option.some.inj e9]
          exact h9
        have HcS : Hid (∀ W', Below w4.heap.size wr W' → W'.cell? (ads.add j) = some (.slice Ar rr.length cr) ∧ W'.cell? ⟨w3.heap.size, j, none⟩ = some (.int .i64 v)) := Lib.hid (fun W' hb => ⟨(hb.cell (by rw [add_block]; omega)).trans hcs, (hb.cell (p := ⟨w3.heap.size, j, none⟩) hkl).trans hcv⟩)
        clear hv hrr hvr hx
        go_wp2_with fail
        go_region_held3 (fun w' => w'.cell? (ads.add j) = some (.slice Ar rr.length cr) ∧ w'.cell? ⟨w3.heap.size, j, none⟩ = some (.int .i64 v)) (go_keep)
          (first
            | (
              refine step_append_int rfl _ _ rfl w4.heap.size R9 cR9 (leftUp src (rchOf s.lg) j) ((rr.length : Int) - v) j (leftUp_len _ _ _) rfl Ho'.out _ rfl rfl (by omega) (by first | omega | (simp; omega)) ?_
              intro R2 c2' w5 ho2 hg2
              have hbb0 := ((Below.refl w4.heap.size wr).drew.alloc hz _).grown hg2 (by simp; omega) (fun g hg => (Ho.out.row_lt g hg).1)
              have hbb := Hbw.out.trans hbb0
              have ks := HcS.out _ hbb0
              have Hbb := Lib.hid hbb
              have Ho2 := Lib.hid ho2
              clear ho2 hg2 hbb hbb0))
        all_goals
          go_wp2_with fail
          go_roundw
          case rel => exact ⟨j + 1, by omega, by go_num, ⟨R2, c2', rfl, by rw [leftUp_succ, Hx.out]; exact Ho2.out⟩, Hbb.out⟩
          case measure => simp [intOf]; omega
      · obtain rfl : j = 3 := by omega
        go_wp2_with fail
        refine bodyPost_ret (v := .slice R9 3 cR9) (by simp [results, Try.results26, go_sem]) rfl ?_
        rw [Hq3.out]
        first | exact ⟨R9, cR9, ret_slice (leftUp_len _ _ _).symm, Ho.out.ownI.wide (by omega) (Nat.le_refl _), Hb4.out.trans (Hbw.out.mono hz0)⟩ | exact ⟨R9, ⟨cR9, ret_slice (leftUp_len _ _ _).symm⟩, Ho.out.ownI.wide (by omega) (Nat.le_refl _), Hb4.out.trans (Hbw.out.mono hz0)⟩

theorem implLeftOver_l {A : Option Addr} {c : Nat} (l : List Nd) {As : Option Addr} {ca : Nat} (src : List (List Int)) (w : World) (B : Nat) (q : List Int) (hq : Hid (LeftQ l src q)) (hn : RdN w B A l) (hsr : RdR w B As src) (hB : B ≤ w.heap.size) (hnl : l.length ≤ 1048576) (hns : src.length ≤ 1048576) (hm : Hid (∀ r ∈ src, r.length ≤ 1048576)) :
    Calls Try.prog 27 #[.agg #[.slice A l.length c], .slice As src.length ca] w fun e w' => ∃ A' c', e = .returned (.slice A' q.length c') ∧ OwnI w' w.heap.size w'.heap.size A' q ∧ Below w.heap.size w w' :=
  implLeftOver_any q hq w (hn.more hB) (hsr.more hB) hnl hns hm
theorem specLeftOver_l {A : Option Addr} {c : Nat} (l : List Nd) {As : Option Addr} {ca : Nat} (src : List (List Int)) (w : World) (B : Nat) (q : List Int) (hq : Hid (LeftQ l src q)) (hn : RdN w B A l) (hsr : RdR w B As src) (hB : B ≤ w.heap.size) (hnl : l.length ≤ 1048576) (hns : src.length ≤ 1048576) (hm : Hid (∀ r ∈ src, r.length ≤ 1048576)) :
    Calls Try.prog 26 #[.agg #[.slice A l.length c], .slice As src.length ca] w fun e w' => ∃ A' c', e = .returned (.slice A' q.length c') ∧ OwnI w' w.heap.size w'.heap.size A' q ∧ Below w.heap.size w w' :=
  specLeftOver_any q hq w (hn.more hB) (hsr.more hB) hnl hns hm
end Go.Proofs.Ythfniffecceldaa

/- Whether pulls see the end of a source, by the program and by the reference. -/
namespace Go.Proofs.Ythfniffecceldaa
open Go.RowKit

/-- A pull at the source i that gives none is among these. -/
def seesB (lg : List Pl) (i : Int) : Bool := lg.any fun p => decide (p.s = i) && decide (p.i < 0)
def QSees (l : List Nd) (src : List (List Int)) (i k : Int) (s : PS) : Bool := (pipeOk l && srcOk src && inR k 0 200) && inR i 0 2 && seesB s.lg i
def MSees (l : List Nd) (src : List (List Int)) (i k : Int) (b : Bool) : Prop := ∃ pre s, OutQ l src k pre s ∧ b = QSees l src i k s
theorem bumpE_get {cs : List Bool} {p : Pl} {src : List (List Int)} (hg : GoodPl src p) (hl : cs.length = 3) {j : Nat} (hj : j < 3) :
    (bumpE cs p)[j]? = some (cs.getD j false || (decide (p.s = (j : Int)) && decide (p.i < 0))) := by
  obtain ⟨⟨h0, h1⟩, h2, _⟩ := hg
  obtain ⟨x, hx⟩ := get_of_lt cs (k := j) (by omega)
  have hd : cs.getD j false = x := by rw [List.getD_eq_getElem?_getD, hx]; rfl
  rw [hd]
  unfold bumpE
  by_cases hi : p.i = -1
  · rw [if_pos hi, List.getElem?_set]
    by_cases hj2 : p.s.toNat = j
    · rw [if_pos hj2, if_pos (by omega)]
      have e1 : p.s = (j : Int) := by omega
      simp [e1, hi]
    · rw [if_neg hj2, hx]
      have e1 : ¬ p.s = (j : Int) := by omega
      simp [e1]
  · rw [if_neg hi, hx]
    have e1 : ¬ p.i < 0 := by omega
    simp [e1]
theorem endOf_get {src : List (List Int)} {j : Nat} (hj : j < 3) : ∀ (lg : List Pl) (cs : List Bool), (∀ p ∈ lg, GoodPl src p) → cs.length = 3 → (lg.foldl bumpE cs)[j]? = some (cs.getD j false || seesB lg (j : Int))
  | [], cs, _, hl => by
    obtain ⟨x, hx⟩ := get_of_lt cs (k := j) (by omega)
    simp [List.getD_eq_getElem?_getD, hx, seesB]
  | p :: lg, cs, hg, hl => by
    rw [List.foldl_cons, endOf_get hj lg (bumpE cs p) (fun q hq => hg q (List.mem_cons_of_mem _ hq)) (by rw [bumpE_len]; exact hl)]
    have h1 := bumpE_get (hg p List.mem_cons_self) hl hj
    have h2 : (bumpE cs p).getD j false = (cs.getD j false || (decide (p.s = (j : Int)) && decide (p.i < 0))) := by rw [List.getD_eq_getElem?_getD, h1]; rfl
    rw [h2]
    simp [seesB, Bool.or_assoc]
theorem endOf_at {src : List (List Int)} {lg : List Pl} (hg : ∀ p ∈ lg, GoodPl src p) {j : Nat} (hj : j < 3) : (endOf lg)[j]? = some (seesB lg (j : Int)) := by
  unfold endOf
  rw [endOf_get hj lg _ hg rfl]
  have : [false, false, false].getD j false = false := by
    match j, hj with
    | 0, _ => rfl
    | 1, _ => rfl
    | 2, _ => rfl
  rw [this, Bool.false_or]

set_option maxRecDepth 100000 in
set_option maxHeartbeats 6400000 in
theorem implSeesEnd_any {l : List Nd} {src : List (List Int)} {A : Option Addr} {c : Nat} {As : Option Addr} {ca : Nat} (i k : Int) (pre : List Int) (s : PS) (hq : Hid (OutQ l src k pre s)) (w : World) (hn : RdN w w.heap.size A l) (hsr : RdR w w.heap.size As src) (hnl : l.length ≤ 1048576) (hns : src.length ≤ 1048576) (hm : Hid (∀ r ∈ src, r.length ≤ 1048576)) :
    Calls Try.prog 31 #[.agg #[.slice A l.length c], .slice As src.length ca, .int .i64 i, .int .i64 k] w fun e w' => e = .returned (.bool (QSees l src i k s)) ∧ Below w.heap.size w w' := by
  obtain ⟨W1, hW1⟩ : ∃ X : World, X = w.alloc (.cells #[.slice A l.length c] 39) := ⟨_, rfl⟩
  have hb1 : Below w.heap.size w W1 := by rw [hW1]; exact below1 w _
  have z1 := hb1.size
  have hn1 : RdN W1 W1.heap.size A l := (hn.below hb1 (Nat.le_refl _)).more z1
  have hr1 : RdR W1 W1.heap.size As src := (hsr.below hb1 (Nat.le_refl _)).more z1
  have Hn := Lib.hid hn1
  have Hsr := Lib.hid hr1
  have HW1 := Lib.hid hW1
  have Hb1 := Lib.hid hb1
  clear hn hsr hn1 hr1 hW1 hb1
  cases hv : (pipeOk l && srcOk src && inR k 0 200) with
  | false =>
    have Hno := Lib.hid (show QSees l src i k s = false by unfold QSees; rw [hv]; rfl)
    obtain ⟨rfl, rfl⟩ := hq.out.no hv
    have Hv := Lib.hid hv
    clear hv
    go_enter Try.func31, Try.ntmps31
    go_wp2_with fail
    rw [← HW1.out]
    refine (watchTimes_no k Hv.out W1 Hn.out Hsr.out hnl hns hm).mono ?_
    rintro e w2 ⟨rfl, hb2⟩
    have Hb2 := Lib.hid (Hb1.out.trans (hb2.mono z1))
    clear hb2
    go_wp2_with fail
    refine bodyPost_ret (v := .bool false) (by simp [results, Try.results31, go_sem]) rfl ⟨by rw [Hno.out], Hb2.out⟩
  | true =>
    have hyes := hq.out.yes hv
    have hsz := hq.out.sizes
    simp only [Bool.and_eq_true] at hv
    obtain ⟨⟨hp, hs⟩, hk⟩ := hv
    obtain ⟨kn, rfl⟩ : ∃ kn : Nat, k = (kn : Int) := ⟨k.toNat, by simp [inR] at hk; omega⟩
    have hkn : kn ≤ 200 := by simp [inR] at hk; omega
    have h3 := (src_rows hs).1
    have hhigh := high_of hp
    obtain ⟨t, ht, hix, hqt⟩ := hyes
    have hvt : (pipeOk l && srcOk src && inR (kn : Int) 0 200) = true := by simp [hp, hs, hk]
    have Hvt := Lib.hid (show QSees l src i (kn : Int) s = (inR i 0 2 && seesB s.lg i) by unfold QSees; rw [hvt, Bool.true_and])
    clear hvt
    have Hgd : Hid (∀ p ∈ s.lg, GoodPl src p) := Lib.hid hq.out.good
    have hcall := watchTimes_any (c := c) (ca := ca) (pipeOk_iff.1 hp) hp hs h3 hhigh ht hix kn hkn W1 Hn.out Hsr.out
    rw [h3]
    have Hcall := Lib.hid hcall
    have Hq := Lib.hid hqt
    have Hsz := Lib.hid hsz
    clear hp hs hk h3 ht hix hqt hcall hq hsz
    go_enter Try.func31, Try.ntmps31
    go_wp2_with fail
    rw [← HW1.out]
    refine Hcall.out.mono ?_
    rintro e w2 ⟨wb, rfl, ⟨n1, rb, cb, gb, hb, eb, fe, w1, pre', s', hn1, hrun, hwat⟩, hb2⟩
    rw [Int.toNat_natCast, hrun] at Hq
    obtain ⟨rfl, rfl⟩ := Prod.mk.inj Hq.out.symm
    have Hb2 := Lib.hid (Hb1.out.trans (hb2.mono z1))
    have hz2 := hb2.size
    have wc := hwat.wr.bx.cell 4
    have wl := hwat.wr.bx.lt
    simp only [List.getElem?_cons_succ, List.getElem?_cons_zero] at wc
    have He := Lib.hid hwat.wr.e
    clear hrun hb2 Hq hwat
    cases hi : inR i 0 2
    · have Hi := Lib.hid hi
      have Hv2 := Lib.hid (show QSees l src i (kn : Int) s = false by rw [Hvt.out, hi]; rfl)
      clear hi
      go_wp2_with fail
      refine (within_any _ _ _ _).mono ?_
      rintro e w3 ⟨rfl, rfl⟩
      rw [Hi.out]
      go_wp2_with fail
      refine bodyPost_ret (v := .bool false) (by simp [results, Try.results31, go_sem]) rfl ⟨by rw [Hv2.out], Hb2.out⟩
    · obtain ⟨h0, h1⟩ := inR_iff.1 hi
      obtain ⟨si, rfl⟩ : ∃ si : Nat, i = si := ⟨i.toNat, by omega⟩
      have hsi : si < 3 := by omega
      have Hi := Lib.hid hi
      have Hv2 := Lib.hid (show QSees l src (si : Int) (kn : Int) s = seesB s.lg (si : Int) by rw [Hvt.out, hi]; rfl)
      have ce : w2.cell? ⟨eb, si, none⟩ = some (.bool (seesB s.lg (si : Int))) := by
        rw [He.out.cell]
        simp only [bools, List.getElem?_map, endOf_at Hgd.out hsi]
        rfl
      have hel := He.out.lt
      clear hi
      go_wp2_with fail
      refine (within_any _ _ _ _).mono ?_
      rintro e w3 ⟨rfl, rfl⟩
      rw [Hi.out]
      go_wp2_with fail
      refine bodyPost_ret (v := .bool (seesB s.lg (si : Int))) (by simp [results, Try.results31, go_sem]) rfl ⟨by rw [Hv2.out], Hb2.out⟩

set_option maxRecDepth 100000 in
set_option maxHeartbeats 6400000 in
theorem specSeesEnd_any {l : List Nd} {src : List (List Int)} {A : Option Addr} {c : Nat} {As : Option Addr} {ca : Nat} (i k : Int) (pre : List Int) (s : PS) (hq : Hid (OutQ l src k pre s)) (w : World) (hn : RdN w w.heap.size A l) (hsr : RdR w w.heap.size As src) (hnl : l.length ≤ 1048576) (hns : src.length ≤ 1048576) (hm : Hid (∀ r ∈ src, r.length ≤ 1048576)) :
    Calls Try.prog 30 #[.agg #[.slice A l.length c], .slice As src.length ca, .int .i64 i, .int .i64 k] w fun e w' => e = .returned (.bool (QSees l src i k s)) ∧ Below w.heap.size w w' := by
  obtain ⟨W1, hW1⟩ : ∃ X : World, X = w.alloc (.cells #[.slice A l.length c] 39) := ⟨_, rfl⟩
  have hb1 : Below w.heap.size w W1 := by rw [hW1]; exact below1 w _
  have kE : Bk W1 w.heap.size 39 [.slice A l.length c] := by rw [hW1]; exact Bk.new _ _ [_]
  have z1 := hb1.size
  have hn1 : RdN W1 W1.heap.size A l := (hn.below hb1 (Nat.le_refl _)).more z1
  have hr1 : RdR W1 W1.heap.size As src := (hsr.below hb1 (Nat.le_refl _)).more z1
  have Hn := Lib.hid hn1
  have Hsr := Lib.hid hr1
  have HW1 := Lib.hid hW1
  have Hb1 := Lib.hid hb1
  have HkE := Lib.hid kE
  clear kE
  clear hn hsr hn1 hr1 hW1 hb1
  have hcall := specvalidPulls_any (c := c) (ca := ca) k W1 Hn.out Hsr.out hnl hns hm
  cases hv : (pipeOk l && srcOk src && inR k 0 200) with
  | false =>
    have Hno := Lib.hid (show QSees l src i k s = false by unfold QSees; rw [hv]; rfl)
    obtain ⟨rfl, rfl⟩ := hq.out.no hv
    rw [hv] at hcall
    have Hcall := Lib.hid hcall
    clear hv hcall
    go_enter Try.func30, Try.ntmps30
    go_wp2_with fail
    rw [← HW1.out]
    refine Hcall.out.mono ?_
    rintro e w2 ⟨rfl, hb2⟩
    have Hb2 := Lib.hid (Hb1.out.trans (hb2.mono z1))
    clear hb2
    go_wp2_with fail
    refine bodyPost_ret (v := .bool false) (by simp [results, Try.results30, go_sem]) rfl ⟨by rw [Hno.out], Hb2.out⟩
  | true =>
    have hyes := hq.out.yes hv
    have hsz := hq.out.sizes
    simp only [Bool.and_eq_true] at hv
    obtain ⟨⟨hp, hs⟩, hk⟩ := hv
    obtain ⟨kn, rfl⟩ : ∃ kn : Nat, k = (kn : Int) := ⟨k.toNat, by simp [inR] at hk; omega⟩
    have hkn : kn ≤ 200 := by simp [inR] at hk; omega
    have h3 := (src_rows hs).1
    have hhigh := high_of hp
    obtain ⟨t, ht, hix, hqt⟩ := hyes
    have hvt : (pipeOk l && srcOk src && inR (kn : Int) 0 200) = true := by simp [hp, hs, hk]
    have Hvt := Lib.hid (show QSees l src i (kn : Int) s = (inR i 0 2 && seesB s.lg i) by unfold QSees; rw [hvt, Bool.true_and])
    clear hvt
    have Hgd : Hid (∀ p ∈ s.lg, GoodPl src p) := Lib.hid hq.out.good
    have hF := pull_fine (pipeOk_iff.1 hp) hs (fu := fun s => s.M l src + 1) ht
    have hpul := fun (W : World) (hnW : RdN W W.heap.size A l) (hsW : RdR W W.heap.size As src) => specPulled_any (c := c) (ca := ca) hhigh hF (fun pb cb n0 => NextOk.of (pipeOk_iff.1 hp) hs hhigh ht) hix (newPS_ok (pipeOk_iff.1 hp)) (newPS_W hs hhigh) kn hkn W hnW hsW
    have hmany := manyP_runP hF (fun s s' ok h => pull_again (pipeOk_iff.1 hp) hs ht ok h) (newPS_ok (pipeOk_iff.1 hp)) kn
    have hlow := low_of hp
    have hvt : (pipeOk l && srcOk src && inR (kn : Int) 0 200) = true := by simp [hp, hs, hk]
    rw [hvt] at hcall
    rw [h3] at hcall ⊢
    have Hcall := Lib.hid hcall
    have Hpul := Lib.hid hpul
    have Hmany := Lib.hid hmany
    have Hq := Lib.hid hqt
    have Hix := Lib.hid hix
    have Hsz := Lib.hid hsz
    have Hsrc3 := Lib.hid h3
    have Hsok := Lib.hid hs
    clear hp hs hk h3 ht hix hqt hcall hq hF hpul hmany hvt hsz
    go_enter Try.func30, Try.ntmps30
    go_wp2_with fail
    rw [← HW1.out]
    refine Hcall.out.mono ?_
    rintro e w2 ⟨rfl, hb2⟩
    have Hb2 := Lib.hid (Hb1.out.trans (hb2.mono z1))
    have kE2 := HkE.out.below hb2 HkE.out.lt
    have e2 := kE2.cell 0
    simp only [List.getElem?_cons_zero] at e2
    have hz2 := hb2.size
    have hpc := Hpul.out w2 ((Hn.out.below hb2 (Nat.le_refl _)).more hz2) ((Hsr.out.below hb2 (Nat.le_refl _)).more hz2)
    have Hpc := Lib.hid hpc
    have HkE2 := Lib.hid kE2
    have Hpb1 := Lib.hid hb2
    clear hb2 hpc kE2
    cases hi : inR i 0 2
    · have Hi := Lib.hid hi
      have Hv2 := Lib.hid (show QSees l src i (kn : Int) s = false by rw [Hvt.out, hi]; rfl)
      clear hi
      go_wp2_with fail
      refine (specInR_any _ _ _ _).mono ?_
      rintro e w3 ⟨rfl, rfl⟩
      rw [Hi.out]
      go_wp2_with fail
      refine bodyPost_ret (v := .bool false) (by simp [results, Try.results30, go_sem]) rfl ⟨by rw [Hv2.out], Hb2.out⟩
    have Hi := Lib.hid hi
    have Hv2 := Lib.hid (show QSees l src i (kn : Int) s = seesB s.lg i by rw [Hvt.out, hi]; rfl)
    clear hi
    go_wp2_with fail
    refine (specInR_any _ _ _ _).mono ?_
    rintro e w2' ⟨rfl, rfl⟩
    rw [Hi.out]
    go_wp2_with fail
    refine Hpc.out.mono ?_
    rintro e w3 ⟨pb, cb, R, cR, pre', s', rfl, h⟩
    have hl := h.ok.len
    have he := h.e
    rw [Hmany.out] at he
    rw [Int.toNat_natCast, he] at Hq
    obtain ⟨rfl, rfl⟩ := Prod.mk.inj Hq.out.symm
    obtain ⟨b0, b1, b2⟩ := h.sw.bx
    have hz12 := Hb2.out.size
    have hz3 := h.bl.size
    have Hb3 := Lib.hid (Hb2.out.trans (h.bl.mono hz12))
    have hE3 := (HkE2.out.below h.bl HkE2.out.lt).cell 0
    simp only [List.getElem?_cons_zero] at hE3
    have Hh := Lib.hid h
    have hpb1 := Hpb1.out
    obtain ⟨Rl, cRl, hbx, hog⟩ := h.sw.rs.box
    have b3 := hbx.cell 3
    have plt := hbx.lt
    replace b3 : w3.cell? ⟨pb, 3, none⟩ = some (.slice Rl s.lg.length cRl) := b3
    have hlg : s.lg.length ≤ 65536 := Hsz.out.2.2
    have hrd := hog.ownPl.rd
    have Hrd := Lib.hid hrd
    clear hog hbx hrd
    clear he Hq h e2 hpb1
    go_wp2_with fail
    go_loop [11] (fun ii => ∃ j : Nat, j ≤ s.lg.length ∧ ii = .int .i64 j ∧ seesB (s.lg.take j) i = false) (fun ii => s.lg.length - (intOf ii).toNat)
    case atStart => exact ⟨0, Nat.zero_le _, rfl, by simp [seesB]⟩
    case round =>
      obtain ⟨j, hj, rfl, hno⟩ := hrel
      have Hnone := Lib.hid hno
      clear hno
      by_cases hlt : j < s.lg.length
      · obtain ⟨b, o, p, rfl, hbB, hpx, hp⟩ := Hrd.out.at_ hlt
        obtain ⟨p0, p1⟩ := hp
        have hsn : seesB (s.lg.take (j + 1)) i = (seesB (s.lg.take j) i || (decide (p.s = i) && decide (p.i < 0))) := by
          unfold seesB
          rw [take_succ_of hpx, List.any_append]
          simp
        rw [Hnone.out, Bool.false_or] at hsn
        have hmem := List.mem_of_getElem? hpx
        have Hmem := Lib.hid hmem
        have Hsn := Lib.hid hsn
        have hjl : (j : Int) < s.lg.length := by omega
        clear hpx hsn hmem
        obtain ⟨ps, hps⟩ : ∃ ps, p.s = ps := ⟨_, rfl⟩
        obtain ⟨pi, hpi⟩ : ∃ pi, p.i = pi := ⟨_, rfl⟩
        have Hps := Lib.hid hps
        have Hpi := Lib.hid hpi
        rw [hps] at p0
        rw [hpi] at p1
        clear hps hpi
        by_cases hsi : ps = i
        · subst hsi
          by_cases hneg : pi < 0
          · go_wp2_with fail
            have hval : seesB s.lg ps = true := by
              unfold seesB
              rw [List.any_eq_true]
              exact ⟨p, Hmem.out, by simp [Hps.out, Hpi.out, hneg]⟩
            refine bodyPost_ret (v := .bool true) (by simp [results, Try.results30, go_sem]) rfl ⟨by rw [Hv2.out, hval], Hb3.out⟩
          · go_wp2_with fail
            go_round
            case rel => exact ⟨j + 1, by omega, by go_num, by rw [Hsn.out, Hpi.out]; simp [hneg]⟩
            case measure => simp [intOf]; omega
        · have hbs : (ps == i) = false := by simp [hsi]
          have Hsi : Hid (¬ ps = i) := hsi
          clear hsi
          go_wp2_with fail
          go_round
          case rel => exact ⟨j + 1, by omega, by go_num, by rw [Hsn.out, Hps.out]; simp [Hsi.out]⟩
          case measure => simp [intOf]; omega
      · obtain rfl : j = s.lg.length := by omega
        go_wp2_with fail
        have hval : seesB s.lg i = false := by have := Hnone.out; rwa [List.take_length] at this
        refine bodyPost_ret (v := .bool false) (by simp [results, Try.results30, go_sem]) rfl ⟨by rw [Hv2.out, hval], Hb3.out⟩

theorem implSeesEnd_l {A : Option Addr} {c : Nat} (l : List Nd) {As : Option Addr} {ca : Nat} (src : List (List Int)) (i k : Int) (w : World) (B : Nat) (q : Bool) (hq : Hid (MSees l src i k q)) (hn : RdN w B A l) (hsr : RdR w B As src) (hB : B ≤ w.heap.size) (hnl : l.length ≤ 1048576) (hns : src.length ≤ 1048576) (hm : Hid (∀ r ∈ src, r.length ≤ 1048576)) :
    Calls Try.prog 31 #[.agg #[.slice A l.length c], .slice As src.length ca, .int .i64 i, .int .i64 k] w fun e w' => e = .returned (.bool q) ∧ Below w.heap.size w w' := by
  obtain ⟨pre, s, h, rfl⟩ := hq.out
  exact implSeesEnd_any i k pre s (Lib.hid h) w (hn.more hB) (hsr.more hB) hnl hns hm
theorem specSeesEnd_l {A : Option Addr} {c : Nat} (l : List Nd) {As : Option Addr} {ca : Nat} (src : List (List Int)) (i k : Int) (w : World) (B : Nat) (q : Bool) (hq : Hid (MSees l src i k q)) (hn : RdN w B A l) (hsr : RdR w B As src) (hB : B ≤ w.heap.size) (hnl : l.length ≤ 1048576) (hns : src.length ≤ 1048576) (hm : Hid (∀ r ∈ src, r.length ≤ 1048576)) :
    Calls Try.prog 30 #[.agg #[.slice A l.length c], .slice As src.length ca, .int .i64 i, .int .i64 k] w fun e w' => e = .returned (.bool q) ∧ Below w.heap.size w w' := by
  obtain ⟨pre, s, h, rfl⟩ := hq.out
  exact specSeesEnd_any i k pre s (Lib.hid h) w (hn.more hB) (hsr.more hB) hnl hns hm
end Go.Proofs.Ythfniffecceldaa
