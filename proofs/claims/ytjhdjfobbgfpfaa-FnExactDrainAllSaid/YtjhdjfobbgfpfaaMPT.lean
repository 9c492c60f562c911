/- Texts on the program and its reference, put together (PkF, PkG). -/
import Derived.Test.YtjhdjfobbgfpfaaMPS
import Derived.Deep.RegionHeld3
import Derived.Test.YtjhdjfobbgfpfaaMPK
/- Contracts: pulls by the program: DoneNodes. -/
namespace Go.Proofs.Ytjhdjfobbgfpfaa
open Go.RowKit

/-- The nodes below n that are done. -/
def doneUp (cs : List Cl) : Nat → List Int
  | 0 => []
  | n + 1 => if (cs.getD n zeroCl).d = true then doneUp cs n ++ [(n : Int)] else doneUp cs n
theorem doneUp_len (cs : List Cl) : ∀ n, (doneUp cs n).length ≤ n
  | 0 => Nat.le_refl _
  | n + 1 => by
    have := doneUp_len cs n
    simp only [doneUp]
    split
    · simp; omega
    · omega
theorem doneUp_yes {cs : List Cl} {n : Nat} (h : (cs.getD n zeroCl).d = true) : doneUp cs (n + 1) = doneUp cs n ++ [(n : Int)] := by simp only [doneUp]; rw [if_pos h]
theorem doneUp_no {cs : List Cl} {n : Nat} (h : (cs.getD n zeroCl).d = false) : doneUp cs (n + 1) = doneUp cs n := by simp only [doneUp]; rw [if_neg (by rw [h]; decide)]
/-- The nodes that are done after k pulls. -/
def DoneQ (l : List Nd) (src : List (List Int)) (k : Int) (q : List Int) : Prop := ∃ pre s, OutQ l src k pre s ∧ q = doneUp s.cs s.cs.length
/-- What DoneNodes leaves. -/
def DoneP (s : PS) (w : World) (e : Ending) (w' : World) : Prop := ∃ A' c', e = .returned (.slice A' (doneUp s.cs s.cs.length).length c') ∧ OwnI w' w.heap.size w'.heap.size A' (doneUp s.cs s.cs.length) ∧ Below w.heap.size w w'
set_option maxRecDepth 100000 in
set_option maxHeartbeats 6400000 in
theorem specDoneNodes_any {l : List Nd} {src : List (List Int)} {A : Option Addr} {c : Nat} {As : Option Addr} {ca : Nat} (k : Int) (pre : List Int) (s : PS) (hq : Hid (OutQ l src k pre s)) (w : World) (hn : RdN w w.heap.size A l) (hsr : RdR w w.heap.size As src) (hnl : l.length ≤ 1048576) (hns : src.length ≤ 1048576) (hm : Hid (∀ r ∈ src, r.length ≤ 1048576)) :
    Calls Try.prog 41 #[.agg #[.slice A l.length c], .slice As src.length ca, .int .i64 k] w fun e w' => DoneP s w e w' := by
  obtain ⟨W1, hW1⟩ : ∃ X : World, X = w.alloc (.cells #[.slice A l.length c] 32) := ⟨_, rfl⟩
  have hb1 : Below w.heap.size w W1 := by rw [hW1]; exact below1 w _
  have kE : Bk W1 w.heap.size 32 [.slice A l.length c] := by rw [hW1]; exact Bk.new _ _ [_]
  have z1 := hb1.size
  have hn1 : RdN W1 W1.heap.size A l := (hn.below hb1 (Nat.le_refl _)).more z1
  have hr1 : RdR W1 W1.heap.size As src := (hsr.below hb1 (Nat.le_refl _)).more z1
  have Hn := Lib.hid hn1
  have Hsr := Lib.hid hr1
  have HW1 := Lib.hid hW1
  have Hb1 := Lib.hid hb1
  have HkE := Lib.hid kE
  clear kE
  clear hn hsr hn1 hr1 hW1 hb1
  have hcall := specvalidPulls_any (c := c) (ca := ca) k W1 Hn.out Hsr.out hnl hns hm
  cases hv : (pipeOk l && srcOk src && inR k 0 200) with
  | false =>
    obtain ⟨rfl, rfl⟩ := hq.out.no hv
    rw [hv] at hcall
    have Hcall := Lib.hid hcall
    clear hv hcall
    go_enter Try.func41, Try.ntmps41
    go_wp2_with fail
    rw [← HW1.out]
    refine Hcall.out.mono ?_
    rintro e w2 ⟨rfl, hb2⟩
    have Hb2 := Lib.hid (Hb1.out.trans (hb2.mono z1))
    clear hb2
    go_wp2_with fail
    refine bodyPost_ret (v := .slice none 0 0) (by simp [results, Try.results41, go_sem]) rfl ⟨none, 0, rfl, fun h => absurd h (by simp [doneUp]), Hb2.out⟩
  | true =>
    have hyes := hq.out.yes hv
    have hsz := hq.out.sizes
    simp only [Bool.and_eq_true] at hv
    obtain ⟨⟨hp, hs⟩, hk⟩ := hv
    obtain ⟨kn, rfl⟩ : ∃ kn : Nat, k = (kn : Int) := ⟨k.toNat, by simp [inR] at hk; omega⟩
    have hkn : kn ≤ 200 := by simp [inR] at hk; omega
    have h3 := (src_rows hs).1
    have hhigh := high_of hp
    obtain ⟨t, ht, hix, hqt⟩ := hyes
    have hF := pull_fine (pipeOk_iff.1 hp) hs (fu := fun s => s.M l src + 1) ht
    have hpul := fun (W : World) (hnW : RdN W W.heap.size A l) (hsW : RdR W W.heap.size As src) => specPulled_any (c := c) (ca := ca) hhigh hF (fun pb cb n0 => NextOk.of (pipeOk_iff.1 hp) hs hhigh ht) hix (newPS_ok (pipeOk_iff.1 hp)) (newPS_W hs hhigh) kn hkn W hnW hsW
    have hmany := manyP_runP hF (fun s s' ok h => pull_again (pipeOk_iff.1 hp) hs ht ok h) (newPS_ok (pipeOk_iff.1 hp)) kn
    have hlow := low_of hp
    have hvt : (pipeOk l && srcOk src && inR (kn : Int) 0 200) = true := by simp [hp, hs, hk]
    rw [hvt] at hcall
    rw [h3] at hcall ⊢
    have Hcall := Lib.hid hcall
    have Hpul := Lib.hid hpul
    have Hmany := Lib.hid hmany
    have Hq := Lib.hid hqt
    have Hix := Lib.hid hix
    have Hsz := Lib.hid hsz
    have Hsrc3 := Lib.hid h3
    have Hsok := Lib.hid hs
    clear hp hs hk h3 ht hix hqt hcall hq hF hpul hmany hvt hsz
    go_enter Try.func41, Try.ntmps41
    go_wp2_with fail
    rw [← HW1.out]
    refine Hcall.out.mono ?_
    rintro e w2 ⟨rfl, hb2⟩
    have Hb2 := Lib.hid (Hb1.out.trans (hb2.mono z1))
    have kE2 := HkE.out.below hb2 HkE.out.lt
    have e2 := kE2.cell 0
    simp only [List.getElem?_cons_zero] at e2
    have hz2 := hb2.size
    have hpc := Hpul.out w2 ((Hn.out.below hb2 (Nat.le_refl _)).more hz2) ((Hsr.out.below hb2 (Nat.le_refl _)).more hz2)
    have Hpc := Lib.hid hpc
    have HkE2 := Lib.hid kE2
    have Hpb1 := Lib.hid hb2
    clear hb2 hpc kE2
    go_wp2_with fail
    refine Hpc.out.mono ?_
    rintro e w3 ⟨pb, cb, R, cR, pre', s', rfl, h⟩
    have hl := h.ok.len
    have he := h.e
    rw [Hmany.out] at he
    rw [Int.toNat_natCast, he] at Hq
    obtain ⟨rfl, rfl⟩ := Prod.mk.inj Hq.out.symm
    obtain ⟨b0, b1, b2⟩ := h.sw.bx
    have hz12 := Hb2.out.size
    have hz3 := h.bl.size
    have Hb3 := Lib.hid (Hb2.out.trans (h.bl.mono hz12))
    have hE3 := (HkE2.out.below h.bl HkE2.out.lt).cell 0
    simp only [List.getElem?_cons_zero] at hE3
    have Hh := Lib.hid h
    have hpb1 := Hpb1.out
    have Hke3 := Lib.hid (HkE2.out.below h.bl HkE2.out.lt)
    have Hlh := Lib.hid hl
    clear he Hq h e2 hpb1 hl b0 b1 b2 hE3
    go_wp2_with fail
    go_loopw [9, 10] (fun ov iv wr => ∃ (j : Nat) (R : Option Addr) (cR : Nat), j ≤ l.length ∧ iv = .int .i64 j ∧ ov = .slice R (doneUp s.cs j).length cR ∧ OwnJ wr w3.heap.size R cR (doneUp s.cs j) ∧ Below w3.heap.size w3 wr) (fun _ iv _ => l.length - (intOf iv).toNat)
    case atStart => exact ⟨0, _, 0, Nat.zero_le _, rfl, rfl, emptyJ w3, (Below.refl _ _).alloc (Nat.le_refl _) _⟩
    case round =>
      obtain ⟨j, R9, cR9, hj, rfl, rfl, how, hbr⟩ := hrel
      have kEr := Hke3.out.below hbr Hke3.out.lt
      have cE := kEr.cell 0
      have ltE := kEr.lt
      simp only [List.getElem?_cons_zero] at cE
      have swr := Hh.out.sw.below hbr
      have hzr := hbr.size
      have ltP := swr.rs.ltp
      have ltC := swr.rs.ltc
      obtain ⟨q0, q1, q2⟩ := swr.bx
      have hd12 := doneUp_len s.cs j
      obtain ⟨m0, hm0⟩ : ∃ m, (doneUp s.cs j).length = m := ⟨_, rfl⟩
      rw [hm0] at hd12 ⊢
      have Hm0 := Lib.hid hm0
      have How := Lib.hid how
      have Hbr := Lib.hid hbr
      clear how hbr kEr hm0
      have hlh := Hlh.out
      by_cases h1 : j < l.length
      · have g1 : (j : Int) < l.length := by omega
        have g2 : (0 : Int) ≤ (j : Int) := by omega
        have hj2 : j < s.cs.length := by omega
        have hcl := (RS.cl swr.rs (i := j) hj2).c5
        clear swr
        cases hd : (s.at_ j).d with
        | true =>
          rw [hd] at hcl
          have Hd := Lib.hid hd
          clear hd
          go_wp2_with (at_builtin; go_must (refine wpList_append_int rfl _ _ rfl w3.heap.size R9 cR9 _ (j : Int) m0 Hm0.out rfl How.out _ rfl rfl (by omega) (by omega) ?_; intro R2 c2' w5 ho2 hg2); have hbb := (Hbr.out.alloc (by omega) _).grown hg2 (by simp; omega) (fun g hg => (How.out.row_lt g hg).1); have Hbb := Lib.hid hbb; have Ho2 := Lib.hid ho2; clear ho2 hg2 hbb)
          go_roundw
          case rel => exact ⟨j + 1, R2, c2', by omega, by go_num, by rw [doneUp_yes Hd.out, List.length_append, Hm0.out]; rfl, by rw [doneUp_yes Hd.out]; exact Ho2.out, Hbb.out⟩
          case measure => simp [intOf]; omega
        | false =>
          rw [hd] at hcl
          have Hd := Lib.hid hd
          clear hd
          go_wp2_with fail
          go_roundw
          case rel => exact ⟨j + 1, R9, cR9, by omega, by go_num, by rw [doneUp_no Hd.out, Hm0.out], by rw [doneUp_no Hd.out]; exact How.out, Hbr.out⟩
          case measure => simp [intOf]; omega
      · have g1 : ¬ (j : Int) < l.length := by omega
        clear swr
        go_wp2_with fail
        have hjl : s.cs.length = j := by have := Hlh.out; omega
        refine bodyPost_ret (v := .slice R9 m0 cR9) (by simp [results, Try.results41, go_sem]) rfl ⟨R9, cR9, ?_, ?_, Hb3.out.trans (Hbr.out.mono (by omega))⟩
        · rw [hjl, Hm0.out]
        · rw [hjl]; exact How.out.ownI.wide (by omega) (Nat.le_refl _)

set_option maxRecDepth 100000 in
set_option maxHeartbeats 6400000 in
theorem implDoneNodes_any {l : List Nd} {src : List (List Int)} {A : Option Addr} {c : Nat} {As : Option Addr} {ca : Nat} (k : Int) (pre : List Int) (s : PS) (hq : Hid (OutQ l src k pre s)) (w : World) (hn : RdN w w.heap.size A l) (hsr : RdR w w.heap.size As src) (hnl : l.length ≤ 1048576) (hns : src.length ≤ 1048576) (hm : Hid (∀ r ∈ src, r.length ≤ 1048576)) :
    Calls Try.prog 42 #[.agg #[.slice A l.length c], .slice As src.length ca, .int .i64 k] w fun e w' => DoneP s w e w' := by
  have hfd := fd_out1
  obtain ⟨W1, hW1⟩ : ∃ X : World, X = w.alloc (.cells #[.slice A l.length c] 32) := ⟨_, rfl⟩
  have hb1 : Below w.heap.size w W1 := by rw [hW1]; exact below1 w _
  have z1 := hb1.size
  have hn1 : RdN W1 W1.heap.size A l := (hn.below hb1 (Nat.le_refl _)).more z1
  have hr1 : RdR W1 W1.heap.size As src := (hsr.below hb1 (Nat.le_refl _)).more z1
  have Hn := Lib.hid hn1
  have Hsr := Lib.hid hr1
  have HW1 := Lib.hid hW1
  have Hb1 := Lib.hid hb1
  clear hn hsr hn1 hr1 hW1 hb1
  cases hv : (pipeOk l && srcOk src && inR k 0 200) with
  | false =>
    obtain ⟨rfl, rfl⟩ := hq.out.no hv
    have Hv := Lib.hid hv
    clear hv
    go_enter Try.func42, Try.ntmps42
    go_wp2_with fail
    rw [← HW1.out]
    refine (pullTimes_no k Hv.out W1 Hn.out Hsr.out hnl hns hm).mono ?_
    rintro e w2 ⟨rfl, hb2⟩
    have Hb2 := Lib.hid (Hb1.out.trans (hb2.mono z1))
    clear hb2
    go_wp2_with fail
    go_loopw [7, 16] (fun ov iv wr => ov = .slice none 0 0 ∧ iv = .int .i64 0 ∧ wr = w2) (fun _ _ _ => 0)
    case atStart => exact ⟨rfl, rfl, rfl⟩
    case round =>
      obtain ⟨rfl, rfl, rfl⟩ := hrel
      go_wp2_with fail
      refine bodyPost_ret (v := .slice none 0 0) (by simp [results, Try.results42, go_sem]) rfl ⟨none, 0, rfl, fun h => absurd h (by simp [doneUp]), Hb2.out⟩
  | true =>
    have hyes := hq.out.yes hv
    have hsz := hq.out.sizes
    simp only [Bool.and_eq_true] at hv
    obtain ⟨⟨hp, hs⟩, hk⟩ := hv
    obtain ⟨kn, rfl⟩ : ∃ kn : Nat, k = (kn : Int) := ⟨k.toNat, by simp [inR] at hk; omega⟩
    have hkn : kn ≤ 200 := by simp [inR] at hk; omega
    have h3 := (src_rows hs).1
    have hhigh := high_of hp
    obtain ⟨t, ht, hix, hqt⟩ := hyes
    have hcall := pullTimes_any (c := c) (ca := ca) (pipeOk_iff.1 hp) hp hs h3 hhigh ht hix (newPS_ok (pipeOk_iff.1 hp)) (newPS_W hs hhigh) kn hkn W1 Hn.out Hsr.out
    rw [h3]
    have Hcall := Lib.hid hcall
    have Hq := Lib.hid hqt
    have Hix := Lib.hid hix
    have Hsz := Lib.hid hsz
    clear hp hs hk h3 ht hix hqt hcall hq hsz
    go_enter Try.func42, Try.ntmps42
    go_wp2_with fail
    rw [← HW1.out]
    refine Hcall.out.mono ?_
    rintro e w2 ⟨rb, cb, fe, pre', s', R, cR, Rp, cp, rfl, hrun, iw, hbk, hog, how, hok, hb2⟩
    rw [Int.toNat_natCast, hrun] at Hq
    obtain ⟨rfl, rfl⟩ := Prod.mk.inj Hq.out.symm
    have Hb2 := Lib.hid (Hb1.out.trans (hb2.mono z1))
    have hz2 := hb2.size
    have hl := hok.len
    have Hiw := Lib.hid iw
    have Hlh := Lib.hid hl
    clear iw
    clear hrun hb2 Hq
    go_wp2_with fail
    go_loopw [7, 16] (fun ov iv wr => ∃ (j : Nat) (R : Option Addr) (cR : Nat), j ≤ l.length ∧ iv = .int .i64 j ∧ ov = .slice R (doneUp s.cs j).length cR ∧ OwnJ wr w2.heap.size R cR (doneUp s.cs j) ∧ Below w2.heap.size w2 wr) (fun _ iv _ => l.length - (intOf iv).toNat)
    case atStart => exact ⟨0, _, 0, Nat.zero_le _, rfl, rfl, OwnJ.nil_ w2 _, Below.refl _ _⟩
    case round =>
      obtain ⟨j, R9, cR9, hj, rfl, rfl, how, hbr⟩ := hrel
      have iwr := RS.below Hiw.out hbr
      have hzr := hbr.size
      have ltP := RS.ltp iwr
      have ltC := RS.ltc iwr
      have hd12 := doneUp_len s.cs j
      obtain ⟨m0, hm0⟩ : ∃ m, (doneUp s.cs j).length = m := ⟨_, rfl⟩
      rw [hm0] at hd12 ⊢
      have Hm0 := Lib.hid hm0
      have How := Lib.hid how
      have Hbr := Lib.hid hbr
      clear how hbr hm0
      have hlh := Hlh.out
      by_cases h1 : j < l.length
      · have g1 : (j : Int) < l.length := by omega
        have g2 : (0 : Int) ≤ (j : Int) := by omega
        have hj2 : j < s.cs.length := by omega
        have hcl := RS.cl iwr (i := j) hj2
        obtain ⟨x, hx⟩ : ∃ x, s.at_ j = x := ⟨_, rfl⟩
        rw [hx] at hcl
        have Hx := Lib.hid hx
        obtain ⟨y0, y1, y2, y3, y4, y5⟩ := hcl
        clear iwr hx
        cases hd : x.d with
        | true =>
          rw [hd] at y5
          have Hd := Lib.hid hd
          clear hd
          go_wp2_with (at_builtin; go_must (refine wpList_append_int rfl _ _ rfl w2.heap.size R9 cR9 _ (j : Int) m0 Hm0.out rfl (How.out.below ((Below.refl _ _).alloc (Nat.le_refl _) _) (Nat.le_refl _)) (wr.heap.size + 1) rfl (by simp) (by omega) (by simp; omega) ?_; intro R2 c2' w5 ho2 hg2); have hbb := ((Hbr.out.alloc (by omega) _).alloc (by simp; omega) _).grown hg2 (by simp; omega) (fun g hg => (How.out.row_lt g hg).1); have Hbb := Lib.hid hbb; have Ho2 := Lib.hid ho2; clear ho2 hg2 hbb)
          go_roundw
          case rel => exact ⟨j + 1, R2, c2', by omega, by go_num, by rw [doneUp_yes (by show (s.at_ j).d = true; rw [Hx.out]; exact Hd.out), List.length_append, Hm0.out]; rfl, by rw [doneUp_yes (by show (s.at_ j).d = true; rw [Hx.out]; exact Hd.out)]; exact Ho2.out, Hbb.out⟩
          case measure => simp [intOf]; omega
        | false =>
          rw [hd] at y5
          have Hd := Lib.hid hd
          clear hd
          go_wp2_with fail
          go_roundw
          case rel => exact ⟨j + 1, R9, cR9, by omega, by go_num, by rw [doneUp_no (by show (s.at_ j).d = false; rw [Hx.out]; exact Hd.out), Hm0.out], by rw [doneUp_no (by show (s.at_ j).d = false; rw [Hx.out]; exact Hd.out)]; exact How.out.below ((Below.refl _ _).alloc (Nat.le_refl _) _) (Nat.le_refl _), Hbr.out.alloc (by omega) _⟩
          case measure => simp [intOf]; omega
      · have g1 : ¬ (j : Int) < l.length := by omega
        clear iwr
        go_wp2_with fail
        have hjl : s.cs.length = j := by have := Hlh.out; omega
        refine bodyPost_ret (v := .slice R9 m0 cR9) (by simp [results, Try.results42, go_sem]) rfl ⟨R9, cR9, ?_, ?_, Hb2.out.trans (Hbr.out.mono (by omega))⟩
        · rw [hjl, Hm0.out]
        · rw [hjl]; exact How.out.ownI.wide (by omega) (Nat.le_refl _)

theorem implDoneNodes_l {A : Option Addr} {c : Nat} (l : List Nd) {As : Option Addr} {ca : Nat} (src : List (List Int)) (k : Int) (w : World) (B : Nat) (q : List Int) (hq : Hid (DoneQ l src k q)) (hn : RdN w B A l) (hsr : RdR w B As src) (hB : B ≤ w.heap.size) (hnl : l.length ≤ 1048576) (hns : src.length ≤ 1048576) (hm : Hid (∀ r ∈ src, r.length ≤ 1048576)) :
    Calls Try.prog 42 #[.agg #[.slice A l.length c], .slice As src.length ca, .int .i64 k] w fun e w' => ∃ A' c', e = .returned (.slice A' q.length c') ∧ OwnI w' w.heap.size w'.heap.size A' q ∧ Below w.heap.size w w' := by
  obtain ⟨pre, s, h, rfl⟩ := hq.out
  exact implDoneNodes_any k pre s (Lib.hid h) w (hn.more hB) (hsr.more hB) hnl hns hm
theorem specDoneNodes_l {A : Option Addr} {c : Nat} (l : List Nd) {As : Option Addr} {ca : Nat} (src : List (List Int)) (k : Int) (w : World) (B : Nat) (q : List Int) (hq : Hid (DoneQ l src k q)) (hn : RdN w B A l) (hsr : RdR w B As src) (hB : B ≤ w.heap.size) (hnl : l.length ≤ 1048576) (hns : src.length ≤ 1048576) (hm : Hid (∀ r ∈ src, r.length ≤ 1048576)) :
    Calls Try.prog 41 #[.agg #[.slice A l.length c], .slice As src.length ca, .int .i64 k] w fun e w' => ∃ A' c', e = .returned (.slice A' q.length c') ∧ OwnI w' w.heap.size w'.heap.size A' q ∧ Below w.heap.size w w' := by
  obtain ⟨pre, s, h, rfl⟩ := hq.out
  exact specDoneNodes_any k pre s (Lib.hid h) w (hn.more hB) (hsr.more hB) hnl hns hm

end Go.Proofs.Ytjhdjfobbgfpfaa

/- Contracts: pulls by the program: DrainAll. -/
namespace Go.Proofs.Ytjhdjfobbgfpfaa
open Go.RowKit

/-- Two intervals of blocks, from b up to t, that do not meet. -/
structure Apart (b t lo1 hi1 lo2 hi2 : Nat) : Prop where
  a1 : b ≤ lo1
  a2 : lo1 ≤ hi1
  a3 : hi1 ≤ t
  b1 : b ≤ lo2
  b2 : lo2 ≤ hi2
  b3 : hi2 ≤ t
  ne : hi1 ≤ lo2 ∨ hi2 ≤ lo1
/-- What DrainAll leaves. -/
def DrainP (q : List Int) (p : List Pl) (w : World) (e : Ending) (w' : World) : Prop :=
  ∃ A1 c1 A2 c2 lo1 hi1 lo2 hi2, e = .returned (.tuple #[.slice A1 q.length c1, .slice A2 p.length c2]) ∧ Apart w.heap.size w'.heap.size lo1 hi1 lo2 hi2 ∧ OwnI w' lo1 hi1 A1 q ∧ OwnPl w' lo2 hi2 A2 p ∧ Below w.heap.size w w'
/-- A row of ints and a row of pulls lie in blocks of their own. -/
theorem DrainP.of {q : List Int} {p : List Pl} {w w' : World} {A1 A2 : Option Addr} {c1 c2 : Nat} (h1 : OwnI w' w.heap.size w'.heap.size A1 q) (h2 : OwnPl w' w.heap.size w'.heap.size A2 p) (hb : Below w.heap.size w w') : DrainP q p w (.returned (.tuple #[.slice A1 q.length c1, .slice A2 p.length c2])) w' := by
  have hz := hb.size
  by_cases hq : 0 < q.length
  · obtain ⟨g1, o1, cs1, rfl, l1, u1, k1, r1⟩ := h1 hq
    by_cases hp : 0 < p.length
    · obtain ⟨g2, o2, cs2, rfl, l2, u2, k2, r2⟩ := h2 hp
      have hne : g1 ≠ g2 := Bk.ne k1 k2 (by decide)
      exact ⟨_, _, _, _, g1, g1 + 1, g2, g2 + 1, rfl, ⟨l1, Nat.le_succ _, u1, l2, Nat.le_succ _, u2, by omega⟩, fun _ => ⟨g1, o1, cs1, rfl, Nat.le_refl _, Nat.lt_succ_self _, k1, r1⟩, fun _ => ⟨g2, o2, cs2, rfl, Nat.le_refl _, Nat.lt_succ_self _, k2, r2⟩, hb⟩
    · exact ⟨_, _, _, _, g1, g1 + 1, w'.heap.size, w'.heap.size, rfl, ⟨l1, Nat.le_succ _, u1, hz, Nat.le_refl _, Nat.le_refl _, .inl u1⟩, fun _ => ⟨g1, o1, cs1, rfl, Nat.le_refl _, Nat.lt_succ_self _, k1, r1⟩, fun h => absurd h hp, hb⟩
  · exact ⟨_, _, _, _, w.heap.size, w.heap.size, w.heap.size, w'.heap.size, rfl, ⟨Nat.le_refl _, Nat.le_refl _, hz, Nat.le_refl _, hz, Nat.le_refl _, .inl (Nat.le_refl _)⟩, fun h => absurd h hq, h2, hb⟩
/-- All items and all pulls. -/
def DrainQ (l : List Nd) (src : List (List Int)) (q : List Int) (p : List Pl) : Prop := ∃ s, OutQ l src 200 q s ∧ p = s.lg
set_option maxRecDepth 100000 in
set_option maxHeartbeats 6400000 in
theorem implDrainAll_any {l : List Nd} {src : List (List Int)} {A : Option Addr} {c : Nat} {As : Option Addr} {ca : Nat} (pre : List Int) (s : PS) (hq : Hid (OutQ l src 200 pre s)) (w : World) (hn : RdN w w.heap.size A l) (hsr : RdR w w.heap.size As src) (hnl : l.length ≤ 1048576) (hns : src.length ≤ 1048576) (hm : Hid (∀ r ∈ src, r.length ≤ 1048576)) :
    Calls Try.prog 38 #[.agg #[.slice A l.length c], .slice As src.length ca] w fun e w' => DrainP pre s.lg w e w' := by
  obtain ⟨k, hk200⟩ : ∃ k : Int, k = 200 := ⟨_, rfl⟩
  rw [← hk200] at hq
  have Hk200 := Lib.hid hk200
  clear hk200
  obtain ⟨W1, hW1⟩ : ∃ X : World, X = w.alloc (.cells #[.slice A l.length c] 32) := ⟨_, rfl⟩
  have hb1 : Below w.heap.size w W1 := by rw [hW1]; exact below1 w _
  have z1 := hb1.size
  have hn1 : RdN W1 W1.heap.size A l := (hn.below hb1 (Nat.le_refl _)).more z1
  have hr1 : RdR W1 W1.heap.size As src := (hsr.below hb1 (Nat.le_refl _)).more z1
  have Hn := Lib.hid hn1
  have Hsr := Lib.hid hr1
  have HW1 := Lib.hid hW1
  have Hb1 := Lib.hid hb1
  clear hn hsr hn1 hr1 hW1 hb1
  cases hv : (pipeOk l && srcOk src && inR k 0 200) with
  | false =>
    obtain ⟨rfl, rfl⟩ := hq.out.no hv
    have Hv := Lib.hid hv
    clear hv
    go_enter Try.func38, Try.ntmps38
    go_wp2_with fail
    rw [← HW1.out]
    rw [← Hk200.out]
    refine (pullTimes_no k Hv.out W1 Hn.out Hsr.out hnl hns hm).mono ?_
    rintro e w2 ⟨rfl, hb2⟩
    have Hb2 := Lib.hid (Hb1.out.trans (hb2.mono z1))
    clear hb2
    go_wp2_with fail
    obtain ⟨VO, hVO⟩ : ∃ X : World, X = w2.alloc (.cells #[.slice none 0 0, .slice none 0 0, .slice none 0 0] 66) := ⟨_, rfl⟩
    have hbO : Below w2.heap.size w2 VO := by rw [hVO]; exact (Below.refl _ _).alloc (Nat.le_refl _) _
    have kO : Bk VO w2.heap.size 66 [.slice none 0 0, .slice none 0 0, .slice none 0 0] := by rw [hVO]; exact Bk.new _ _ [_, _, _]
    have o0 := kO.cell 0
    have o2 := kO.cell 2
    have olt := kO.lt
    simp only [List.getElem?_cons_succ, List.getElem?_cons_zero] at o0 o2
    rw [← hVO]
    have hzO := hbO.size
    have HbO := Lib.hid hbO
    clear hVO kO hbO
    go_region_held3 (fun w' => w'.cell? ⟨w2.heap.size, 0, none⟩ = some (.slice none 0 0) ∧ w'.cell? ⟨w2.heap.size, 2, none⟩ = some (.slice none 0 0)) (first | exact ⟨o0, o2⟩ | go_keep) (fail)
    go_wp2_with fail
    refine bodyPost_ret (v := .tuple #[.slice none 0 0, .slice none 0 0]) (by simp [results, Try.results38, go_sem]) rfl ?_
    exact DrainP.of (fun h => absurd h (by simp)) (fun h => absurd h (by simp)) (Hb2.out.trans (HbO.out.mono Hb2.out.size)).drew
  | true =>
    have hyes := hq.out.yes hv
    have hsz := hq.out.sizes
    simp only [Bool.and_eq_true] at hv
    obtain ⟨⟨hp, hs⟩, hk⟩ := hv
    obtain ⟨kn, rfl⟩ : ∃ kn : Nat, k = (kn : Int) := ⟨k.toNat, by simp [inR] at hk; omega⟩
    have hkn : kn ≤ 200 := by simp [inR] at hk; omega
    have h3 := (src_rows hs).1
    have hhigh := high_of hp
    obtain ⟨t, ht, hix, hqt⟩ := hyes
    have hcall := pullTimes_any (c := c) (ca := ca) (pipeOk_iff.1 hp) hp hs h3 hhigh ht hix (newPS_ok (pipeOk_iff.1 hp)) (newPS_W hs hhigh) kn hkn W1 Hn.out Hsr.out
    rw [h3]
    have Hcall := Lib.hid hcall
    have Hq := Lib.hid hqt
    have Hix := Lib.hid hix
    have Hsz := Lib.hid hsz
    clear hp hs hk h3 ht hix hqt hcall hq hsz
    go_enter Try.func38, Try.ntmps38
    go_wp2_with fail
    rw [← HW1.out]
    rw [← Hk200.out]
    refine Hcall.out.mono ?_
    rintro e w2 ⟨rb, cb, fe, pre', s', R, cR, Rp, cp, rfl, hrun, iw, hbk, hog, how, hok, hb2⟩
    rw [Int.toNat_natCast, hrun] at Hq
    obtain ⟨rfl, rfl⟩ := Prod.mk.inj Hq.out.symm
    have Hb2 := Lib.hid (Hb1.out.trans (hb2.mono z1))
    have hz2 := hb2.size
    have hl := hok.len
    clear hrun hb2 Hq
    go_wp2_with fail
    obtain ⟨VO, hVO⟩ : ∃ X : World, X = w2.alloc (.cells #[.slice R pre.length cR, .slice (some ⟨cb, 0, none⟩) l.length l.length, .slice Rp s.lg.length cp] 66) := ⟨_, rfl⟩
    have hbO : Below w2.heap.size w2 VO := by rw [hVO]; exact (Below.refl _ _).alloc (Nat.le_refl _) _
    have kO : Bk VO w2.heap.size 66 [.slice R pre.length cR, .slice (some ⟨cb, 0, none⟩) l.length l.length, .slice Rp s.lg.length cp] := by rw [hVO]; exact Bk.new _ _ [_, _, _]
    have o0 := kO.cell 0
    have o2 := kO.cell 2
    have olt := kO.lt
    simp only [List.getElem?_cons_succ, List.getElem?_cons_zero] at o0 o2
    rw [← hVO]
    have hzO := hbO.size
    have HoI := Lib.hid (how.below hbO (Nat.le_refl _))
    have HoG := Lib.hid (hog.keep (fun g hg _ => hbO.block g hg))
    have HbO := Lib.hid hbO
    clear hVO kO hbO
    go_region_held3 (fun w' => w'.cell? ⟨w2.heap.size, 0, none⟩ = some (.slice R pre.length cR) ∧ w'.cell? ⟨w2.heap.size, 2, none⟩ = some (.slice Rp s.lg.length cp)) (first | exact ⟨o0, o2⟩ | go_keep) (fail)
    go_wp2_with fail
    refine bodyPost_ret (v := .tuple #[.slice R pre.length cR, .slice Rp s.lg.length cp]) (by simp [results, Try.results38, go_sem]) rfl ?_
    exact DrainP.of ((HoI.out.below (Below.refl _ _).drew (Nat.le_refl _)).ownI.wide z1 (Nat.le_refl _)) ((OwnG.keep HoG.out (fun _ _ _ => rfl)).ownPl.wide z1 (Nat.le_refl _)) (Hb2.out.trans (HbO.out.mono Hb2.out.size)).drew

set_option maxRecDepth 100000 in
set_option maxHeartbeats 6400000 in
theorem specDrainAll_any {l : List Nd} {src : List (List Int)} {A : Option Addr} {c : Nat} {As : Option Addr} {ca : Nat} (pre : List Int) (s : PS) (hq : Hid (OutQ l src 200 pre s)) (w : World) (hn : RdN w w.heap.size A l) (hsr : RdR w w.heap.size As src) (hnl : l.length ≤ 1048576) (hns : src.length ≤ 1048576) (hm : Hid (∀ r ∈ src, r.length ≤ 1048576)) :
    Calls Try.prog 37 #[.agg #[.slice A l.length c], .slice As src.length ca] w fun e w' => DrainP pre s.lg w e w' := by
  obtain ⟨k, hk200⟩ : ∃ k : Int, k = 200 := ⟨_, rfl⟩
  rw [← hk200] at hq
  have Hk200 := Lib.hid hk200
  clear hk200
  obtain ⟨W1, hW1⟩ : ∃ X : World, X = w.alloc (.cells #[.slice A l.length c] 32) := ⟨_, rfl⟩
  have hb1 : Below w.heap.size w W1 := by rw [hW1]; exact below1 w _
  have kE : Bk W1 w.heap.size 32 [.slice A l.length c] := by rw [hW1]; exact Bk.new _ _ [_]
  have z1 := hb1.size
  have hn1 : RdN W1 W1.heap.size A l := (hn.below hb1 (Nat.le_refl _)).more z1
  have hr1 : RdR W1 W1.heap.size As src := (hsr.below hb1 (Nat.le_refl _)).more z1
  have Hn := Lib.hid hn1
  have Hsr := Lib.hid hr1
  have HW1 := Lib.hid hW1
  have Hb1 := Lib.hid hb1
  have HkE := Lib.hid kE
  clear kE
  clear hn hsr hn1 hr1 hW1 hb1
  have hik : inR k 0 200 = true := by rw [Hk200.out]; rfl
  have hcall := specvalidInput_any A c l As ca src W1 W1.heap.size Hn.out Hsr.out (Nat.le_refl _) hnl hns hm
  rw [show (pipeOk l && srcOk src) = (pipeOk l && srcOk src && inR k 0 200) by rw [hik, Bool.and_true]] at hcall
  clear hik
  cases hv : (pipeOk l && srcOk src && inR k 0 200) with
  | false =>
    obtain ⟨rfl, rfl⟩ := hq.out.no hv
    rw [hv] at hcall
    have Hcall := Lib.hid hcall
    clear hv hcall
    go_enter Try.func37, Try.ntmps37
    go_wp2_with fail
    rw [← HW1.out]
    refine Hcall.out.mono ?_
    rintro e w2 ⟨rfl, hb2⟩
    have Hb2 := Lib.hid (Hb1.out.trans (hb2.mono z1))
    clear hb2
    go_wp2_with fail
    refine bodyPost_ret (v := .tuple #[.slice none 0 0, .slice none 0 0]) (by simp [results, Try.results37, go_sem]) rfl ?_
    exact DrainP.of (fun h => absurd h (by simp)) (fun h => absurd h (by simp)) Hb2.out
  | true =>
    have hyes := hq.out.yes hv
    have hsz := hq.out.sizes
    simp only [Bool.and_eq_true] at hv
    obtain ⟨⟨hp, hs⟩, hk⟩ := hv
    obtain ⟨kn, rfl⟩ : ∃ kn : Nat, k = (kn : Int) := ⟨k.toNat, by simp [inR] at hk; omega⟩
    have hkn : kn ≤ 200 := by simp [inR] at hk; omega
    have h3 := (src_rows hs).1
    have hhigh := high_of hp
    obtain ⟨t, ht, hix, hqt⟩ := hyes
    have hF := pull_fine (pipeOk_iff.1 hp) hs (fu := fun s => s.M l src + 1) ht
    have hpul := fun (W : World) (hnW : RdN W W.heap.size A l) (hsW : RdR W W.heap.size As src) => specPulled_any (c := c) (ca := ca) hhigh hF (fun pb cb n0 => NextOk.of (pipeOk_iff.1 hp) hs hhigh ht) hix (newPS_ok (pipeOk_iff.1 hp)) (newPS_W hs hhigh) kn hkn W hnW hsW
    have hmany := manyP_runP hF (fun s s' ok h => pull_again (pipeOk_iff.1 hp) hs ht ok h) (newPS_ok (pipeOk_iff.1 hp)) kn
    have hlow := low_of hp
    have hvt : (pipeOk l && srcOk src && inR (kn : Int) 0 200) = true := by simp [hp, hs, hk]
    rw [hvt] at hcall
    rw [h3] at hcall ⊢
    have Hcall := Lib.hid hcall
    have Hpul := Lib.hid hpul
    have Hmany := Lib.hid hmany
    have Hq := Lib.hid hqt
    have Hix := Lib.hid hix
    have Hsz := Lib.hid hsz
    have Hsrc3 := Lib.hid h3
    have Hsok := Lib.hid hs
    clear hp hs hk h3 ht hix hqt hcall hq hF hpul hmany hvt hsz
    go_enter Try.func37, Try.ntmps37
    go_wp2_with fail
    rw [← HW1.out]
    refine Hcall.out.mono ?_
    rintro e w2 ⟨rfl, hb2⟩
    have Hb2 := Lib.hid (Hb1.out.trans (hb2.mono z1))
    have kE2 := HkE.out.below hb2 HkE.out.lt
    have e2 := kE2.cell 0
    simp only [List.getElem?_cons_zero] at e2
    have hz2 := hb2.size
    have hpc := Hpul.out w2 ((Hn.out.below hb2 (Nat.le_refl _)).more hz2) ((Hsr.out.below hb2 (Nat.le_refl _)).more hz2)
    have Hpc := Lib.hid hpc
    have HkE2 := Lib.hid kE2
    have Hpb1 := Lib.hid hb2
    clear hb2 hpc kE2
    go_wp2_with fail
    rw [← Hk200.out]
    refine Hpc.out.mono ?_
    rintro e w3 ⟨pb, cb, R, cR, pre', s', rfl, h⟩
    have hl := h.ok.len
    have he := h.e
    rw [Hmany.out] at he
    rw [Int.toNat_natCast, he] at Hq
    obtain ⟨rfl, rfl⟩ := Prod.mk.inj Hq.out.symm
    obtain ⟨b0, b1, b2⟩ := h.sw.bx
    have hz12 := Hb2.out.size
    have hz3 := h.bl.size
    have Hb3 := Lib.hid (Hb2.out.trans (h.bl.mono hz12))
    have hE3 := (HkE2.out.below h.bl HkE2.out.lt).cell 0
    simp only [List.getElem?_cons_zero] at hE3
    have Hh := Lib.hid h
    have hpb1 := Hpb1.out
    obtain ⟨Rl, cRl, hbx, hog⟩ := h.sw.rs.box
    have b3 := hbx.cell 3
    have plt := hbx.lt
    replace b3 : w3.cell? ⟨pb, 3, none⟩ = some (.slice Rl s.lg.length cRl) := b3
    have hlg : s.lg.length ≤ 1048576 := by have := Hsz.out.2.2; omega
    have Hog := Lib.hid hog
    clear hog hbx
    clear he Hq h e2 hpb1
    go_wp2_with (at_builtin; go_must (refine step_copy_pls rfl _ _ rfl w3.heap.size w3.heap.size w2.heap.size Rl cRl s.lg rfl rfl (emptyG w3) (by simp) (OwnG.keep Hog.out (fun _ hg _ => Below.heap_alloc _ _ _ hg)) hlg ?_; intro R4 c4 w4 ho4 hb4); have Ho4 := Lib.hid ho4; have HbW := Lib.hid (((Below.refl w3.heap.size w3).alloc (Nat.le_refl _) _).trans hb4); have Hb4 := Lib.hid (((Hb3.out.alloc (by omega) _)).trans (hb4.mono (by omega))); clear ho4 hb4)
    refine bodyPost_ret (v := .tuple #[.slice R pre.length cR, .slice R4 s.lg.length c4]) (by simp [results, Try.results37, go_sem]) rfl ?_
    exact DrainP.of ((Hh.out.ow.below HbW.out (Nat.le_refl _)).ownI.wide hz12 (Nat.le_refl _)) (Ho4.out.ownPl.wide (by omega) (Nat.le_refl _)) Hb4.out

theorem implDrainAll_l {A : Option Addr} {c : Nat} (l : List Nd) {As : Option Addr} {ca : Nat} (src : List (List Int)) (w : World) (B : Nat) (q : List Int) (p : List Pl) (hq : Hid (DrainQ l src q p)) (hn : RdN w B A l) (hsr : RdR w B As src) (hB : B ≤ w.heap.size) (hnl : l.length ≤ 1048576) (hns : src.length ≤ 1048576) (hm : Hid (∀ r ∈ src, r.length ≤ 1048576)) :
    Calls Try.prog 38 #[.agg #[.slice A l.length c], .slice As src.length ca] w fun e w' => DrainP q p w e w' := by
  obtain ⟨s, h, rfl⟩ := hq.out
  exact implDrainAll_any q s (Lib.hid h) w (hn.more hB) (hsr.more hB) hnl hns hm
theorem specDrainAll_l {A : Option Addr} {c : Nat} (l : List Nd) {As : Option Addr} {ca : Nat} (src : List (List Int)) (w : World) (B : Nat) (q : List Int) (p : List Pl) (hq : Hid (DrainQ l src q p)) (hn : RdN w B A l) (hsr : RdR w B As src) (hB : B ≤ w.heap.size) (hnl : l.length ≤ 1048576) (hns : src.length ≤ 1048576) (hm : Hid (∀ r ∈ src, r.length ≤ 1048576)) :
    Calls Try.prog 37 #[.agg #[.slice A l.length c], .slice As src.length ca] w fun e w' => DrainP q p w e w' := by
  obtain ⟨s, h, rfl⟩ := hq.out
  exact specDrainAll_any q s (Lib.hid h) w (hn.more hB) (hsr.more hB) hnl hns hm

end Go.Proofs.Ytjhdjfobbgfpfaa
