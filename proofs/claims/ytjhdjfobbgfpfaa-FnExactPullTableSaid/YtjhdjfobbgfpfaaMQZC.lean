/- Texts on the program and its reference, put together (PwI, PkB, PwJ, RowM). -/
import Derived.Test.YtjhdjfobbgfpfaaMQZB
import Derived.Test.YtjhdjfobbgfpfaaMQZ
import Derived.Deep.RegionHeld3
import Derived.Test.YtjhdjfobbgfpfaaMQP
import Derived.Test.YtjhdjfobbgfpfaaMQZA
import Derived.Test.YtjhdjfobbgfpfaaMQC
/- Contracts: pulls by the program: costs: arguments that are not valid. -/
namespace Go.Proofs.Ytjhdjfobbgfpfaa
open Go.RowKit

set_option maxRecDepth 100000 in
set_option maxHeartbeats 3200000 in
theorem watch_no {l : List Nd} {src : List (List Int)} {A : Option Addr} {c : Nat} {As : Option Addr} {ca : Nat} (hno : (pipeOk l && srcOk src) = false) (w : World) (hn : RdN w w.heap.size A l) (hsr : RdR w w.heap.size As src) (hnl : l.length ≤ 1048576) (hns : src.length ≤ 1048576) (hm : Hid (∀ r ∈ src, r.length ≤ 1048576)) :
    Calls Try.prog 76 #[.agg #[.slice A l.length c], .slice As src.length ca] w fun e w' => e = .returned (.pointer none) ∧ Below w.heap.size w w' := by
  obtain ⟨W1, hW1⟩ : ∃ X : World, X = w.alloc (.cells #[.slice A l.length c] 32) := ⟨_, rfl⟩
  have hb1 : Below w.heap.size w W1 := by rw [hW1]; exact below1 w _
  have hvp := implValidPipe_any A c l W1 w.heap.size (hn.below hb1 (Nat.le_refl _)) hb1.size hnl
  have z1 := hb1.size
  have HW1 := Lib.hid hW1
  have Hb1 := Lib.hid hb1
  have Hvp := Lib.hid hvp
  have Hsr := Lib.hid hsr
  have Hno := Lib.hid hno
  clear hW1 hb1 hvp hn hsr hno
  go_enter Try.func76, Try.ntmps76
  go_wp2_with fail
  rw [← HW1.out]
  refine Hvp.out.mono ?_
  rintro e w2 ⟨rfl, hb2⟩
  have hvs := implValidSources_any As ca src w2 w.heap.size (Hsr.out.below (Hb1.out.trans (hb2.mono z1)) (Nat.le_refl _)) hns hm.out
  have Hvs := Lib.hid hvs
  have Hb2 := Lib.hid (Hb1.out.trans (hb2.mono z1))
  clear hb2 hvs
  cases hv : pipeOk l with
  | false =>
    clear Hvs Hno
    go_wp2_with fail
    refine bodyPost_ret (v := .pointer none) (by simp [results, Try.results76, go_sem]) rfl ⟨rfl, Hb2.out⟩
  | true =>
    have hs : srcOk src = false := by have := Hno.out; rw [hv] at this; simpa using this
    rw [hs] at Hvs
    clear Hno hs
    go_wp2_with fail
    refine Hvs.out.mono ?_
    rintro e w2' ⟨rfl, rfl⟩
    go_wp2_with fail
    refine bodyPost_ret (v := .pointer none) (by simp [results, Try.results76, go_sem]) rfl ⟨rfl, Hb2.out⟩

set_option maxRecDepth 100000 in
set_option maxHeartbeats 3200000 in
theorem watchTimes_no {l : List Nd} {src : List (List Int)} {A : Option Addr} {c : Nat} {As : Option Addr} {ca : Nat} (k : Int) (hno : (pipeOk l && srcOk src && inR k 0 200) = false) (w : World) (hn : RdN w w.heap.size A l) (hsr : RdR w w.heap.size As src) (hnl : l.length ≤ 1048576) (hns : src.length ≤ 1048576) (hm : Hid (∀ r ∈ src, r.length ≤ 1048576)) :
    Calls Try.prog 69 #[.agg #[.slice A l.length c], .slice As src.length ca, .int .i64 k] w fun e w' => e = .returned (.pointer none) ∧ Below w.heap.size w w' := by
  obtain ⟨W1, hW1⟩ : ∃ X : World, X = w.alloc (.cells #[.slice A l.length c] 32) := ⟨_, rfl⟩
  have hb1 : Below w.heap.size w W1 := by rw [hW1]; exact below1 w _
  have z1 := hb1.size
  have hn1 : RdN W1 W1.heap.size A l := (hn.below hb1 (Nat.le_refl _)).more z1
  have hr1 : RdR W1 W1.heap.size As src := (hsr.below hb1 (Nat.le_refl _)).more z1
  have HW1 := Lib.hid hW1
  have Hb1 := Lib.hid hb1
  have Hn := Lib.hid hn1
  have Hsr := Lib.hid hr1
  clear hW1 hb1 hn hsr hn1 hr1
  cases hv : (pipeOk l && srcOk src) with
  | false =>
    have Hcall := Lib.hid (watch_no (c := c) (ca := ca) hv W1 Hn.out Hsr.out hnl hns hm)
    clear hv hno
    go_enter Try.func69, Try.ntmps69
    go_wp2_with fail
    rw [← HW1.out]
    refine Hcall.out.mono ?_
    rintro e w2 ⟨rfl, hb2⟩
    have Hb2 := Lib.hid (Hb1.out.trans (hb2.mono z1))
    clear hb2
    go_wp2_with fail
    refine bodyPost_ret (v := .pointer none) (by simp [results, Try.results69, go_sem]) rfl ⟨rfl, Hb2.out⟩
  | true =>
    rw [hv] at hno
    have hk : inR k 0 200 = false := by simpa using hno
    simp only [Bool.and_eq_true] at hv
    obtain ⟨hp, hs⟩ := hv
    have h3 := (src_rows hs).1
    have hhigh := high_of hp
    have hlow := low_of hp
    obtain ⟨T, hT⟩ := IsTree.ex (pipeOk_iff.1 hp) l.length (l.length - 1) (by omega) (by omega)
    obtain ⟨t, ht, hti, _⟩ := hT.ti
    have hcall := watch_any (c := c) (ca := ca) (pipeOk_iff.1 hp) hp hs h3 hhigh ht (by omega) W1 Hn.out Hsr.out
    rw [h3]
    have Hcall := Lib.hid hcall
    have Hk := Lib.hid hk
    clear hp hs h3 hT ht hti hcall hk hno
    go_enter Try.func69, Try.ntmps69
    go_wp2_with fail
    rw [← HW1.out]
    refine Hcall.out.mono ?_
    rintro e w2 ⟨wb, rfl, _, hb2⟩
    have Hb2 := Lib.hid (Hb1.out.trans (hb2.mono z1))
    clear hb2
    go_wp2_with fail
    refine (within_any k 0 200 _).mono ?_
    rintro e w2' ⟨rfl, rfl⟩
    rw [Hk.out]
    go_wp2_with fail
    refine bodyPost_ret (v := .pointer none) (by simp [results, Try.results69, go_sem]) rfl ⟨rfl, Hb2.out⟩

end Go.Proofs.Ytjhdjfobbgfpfaa

/- Contracts: pulls by the program: the first items. -/
namespace Go.Proofs.Ytjhdjfobbgfpfaa
open Go.RowKit

theorem fd_out0 (a1 a2 a3 : Option Addr) (n1 m1 n2 m2 n3 m3 : Nat) (w : World) : (Instr.field 66 (.agg #[.slice a1 n1 m1, .slice a2 n2 m2, .slice a3 n3 m3]) 0).run Try.prog w = .ok (.slice a1 n1 m1) w := by kernel_rfl
theorem fd_out2 (a1 a2 a3 : Option Addr) (n1 m1 n2 m2 n3 m3 : Nat) (w : World) : (Instr.field 66 (.agg #[.slice a1 n1 m1, .slice a2 n2 m2, .slice a3 n3 m3]) 2).run Try.prog w = .ok (.slice a3 n3 m3) w := by kernel_rfl
set_option maxRecDepth 100000 in
set_option maxHeartbeats 6400000 in
theorem implFirstItems_any {l : List Nd} {src : List (List Int)} {A : Option Addr} {c : Nat} {As : Option Addr} {ca : Nat} (k : Int) (pre : List Int) (s : PS) (hq : Hid (OutQ l src k pre s)) (w : World) (hn : RdN w w.heap.size A l) (hsr : RdR w w.heap.size As src) (hnl : l.length ≤ 1048576) (hns : src.length ≤ 1048576) (hm : Hid (∀ r ∈ src, r.length ≤ 1048576)) :
    Calls Try.prog 19 #[.agg #[.slice A l.length c], .slice As src.length ca, .int .i64 k] w fun e w' => ∃ A' c', e = .returned (.slice A' pre.length c') ∧ OwnI w' w.heap.size w'.heap.size A' pre ∧ Below w.heap.size w w' := by
  have hfd := fd_out0
  obtain ⟨W1, hW1⟩ : ∃ X : World, X = w.alloc (.cells #[.slice A l.length c] 32) := ⟨_, rfl⟩
  have hb1 : Below w.heap.size w W1 := by rw [hW1]; exact below1 w _
  have z1 := hb1.size
  have hn1 : RdN W1 W1.heap.size A l := (hn.below hb1 (Nat.le_refl _)).more z1
  have hr1 : RdR W1 W1.heap.size As src := (hsr.below hb1 (Nat.le_refl _)).more z1
  have Hn := Lib.hid hn1
  have Hsr := Lib.hid hr1
  have HW1 := Lib.hid hW1
  have Hb1 := Lib.hid hb1
  clear hn hsr hn1 hr1 hW1 hb1
  cases hv : (pipeOk l && srcOk src && inR k 0 200) with
  | false =>
    obtain ⟨rfl, rfl⟩ := hq.out.no hv
    have Hv := Lib.hid hv
    clear hv
    go_enter Try.func19, Try.ntmps19
    go_wp2_with fail
    rw [← HW1.out]
    refine (pullTimes_no k Hv.out W1 Hn.out Hsr.out hnl hns hm).mono ?_
    rintro e w2 ⟨rfl, hb2⟩
    have Hb2 := Lib.hid (Hb1.out.trans (hb2.mono z1))
    clear hb2
    go_wp2_with fail
    refine bodyPost_ret (v := .slice none 0 0) (by simp [results, Try.results19, go_sem]) rfl ⟨none, 0, rfl, fun h => absurd h (by simp), Hb2.out⟩
  | true =>
    have hyes := hq.out.yes hv
    have hsz := hq.out.sizes
    simp only [Bool.and_eq_true] at hv
    obtain ⟨⟨hp, hs⟩, hk⟩ := hv
    obtain ⟨kn, rfl⟩ : ∃ kn : Nat, k = (kn : Int) := ⟨k.toNat, by simp [inR] at hk; omega⟩
    have hkn : kn ≤ 200 := by simp [inR] at hk; omega
    have h3 := (src_rows hs).1
    have hhigh := high_of hp
    obtain ⟨t, ht, hix, hqt⟩ := hyes
    have hcall := pullTimes_any (c := c) (ca := ca) (pipeOk_iff.1 hp) hp hs h3 hhigh ht hix (newPS_ok (pipeOk_iff.1 hp)) (newPS_W hs hhigh) kn hkn W1 Hn.out Hsr.out
    rw [h3]
    have Hcall := Lib.hid hcall
    have Hq := Lib.hid hqt
    have Hix := Lib.hid hix
    have Hsz := Lib.hid hsz
    clear hp hs hk h3 ht hix hqt hcall hq hsz
    go_enter Try.func19, Try.ntmps19
    go_wp2_with fail
    rw [← HW1.out]
    refine Hcall.out.mono ?_
    rintro e w2 ⟨rb, cb, fe, pre', s', R, cR, Rp, cp, rfl, hrun, iw, hbk, hog, how, hok, hb2⟩
    rw [Int.toNat_natCast, hrun] at Hq
    obtain ⟨rfl, rfl⟩ := Prod.mk.inj Hq.out.symm
    have Hb2 := Lib.hid (Hb1.out.trans (hb2.mono z1))
    have hz2 := hb2.size
    have hl := hok.len
    clear hrun hb2 Hq
    go_wp2_with fail
    refine bodyPost_ret (v := .slice R pre.length cR) (by simp [results, Try.results19, go_sem]) rfl ⟨R, cR, rfl, how.ownI.wide z1 (Nat.le_refl _), Hb2.out⟩

set_option maxRecDepth 100000 in
set_option maxHeartbeats 6400000 in
theorem specFirstItems_any {l : List Nd} {src : List (List Int)} {A : Option Addr} {c : Nat} {As : Option Addr} {ca : Nat} (k : Int) (pre : List Int) (s : PS) (hq : Hid (OutQ l src k pre s)) (w : World) (hn : RdN w w.heap.size A l) (hsr : RdR w w.heap.size As src) (hnl : l.length ≤ 1048576) (hns : src.length ≤ 1048576) (hm : Hid (∀ r ∈ src, r.length ≤ 1048576)) :
    Calls Try.prog 16 #[.agg #[.slice A l.length c], .slice As src.length ca, .int .i64 k] w fun e w' => ∃ A' c', e = .returned (.slice A' pre.length c') ∧ OwnI w' w.heap.size w'.heap.size A' pre ∧ Below w.heap.size w w' := by
  obtain ⟨W1, hW1⟩ : ∃ X : World, X = w.alloc (.cells #[.slice A l.length c] 32) := ⟨_, rfl⟩
  have hb1 : Below w.heap.size w W1 := by rw [hW1]; exact below1 w _
  have kE : Bk W1 w.heap.size 32 [.slice A l.length c] := by rw [hW1]; exact Bk.new _ _ [_]
  have z1 := hb1.size
  have hn1 : RdN W1 W1.heap.size A l := (hn.below hb1 (Nat.le_refl _)).more z1
  have hr1 : RdR W1 W1.heap.size As src := (hsr.below hb1 (Nat.le_refl _)).more z1
  have Hn := Lib.hid hn1
  have Hsr := Lib.hid hr1
  have HW1 := Lib.hid hW1
  have Hb1 := Lib.hid hb1
  have HkE := Lib.hid kE
  clear kE
  clear hn hsr hn1 hr1 hW1 hb1
  have hcall := specvalidPulls_any (c := c) (ca := ca) k W1 Hn.out Hsr.out hnl hns hm
  cases hv : (pipeOk l && srcOk src && inR k 0 200) with
  | false =>
    obtain ⟨rfl, rfl⟩ := hq.out.no hv
    rw [hv] at hcall
    have Hcall := Lib.hid hcall
    clear hv hcall
    go_enter Try.func16, Try.ntmps16
    go_wp2_with fail
    rw [← HW1.out]
    refine Hcall.out.mono ?_
    rintro e w2 ⟨rfl, hb2⟩
    have Hb2 := Lib.hid (Hb1.out.trans (hb2.mono z1))
    clear hb2
    go_wp2_with fail
    refine bodyPost_ret (v := .slice none 0 0) (by simp [results, Try.results16, go_sem]) rfl ⟨none, 0, rfl, fun h => absurd h (by simp), Hb2.out⟩
  | true =>
    have hyes := hq.out.yes hv
    have hsz := hq.out.sizes
    simp only [Bool.and_eq_true] at hv
    obtain ⟨⟨hp, hs⟩, hk⟩ := hv
    obtain ⟨kn, rfl⟩ : ∃ kn : Nat, k = (kn : Int) := ⟨k.toNat, by simp [inR] at hk; omega⟩
    have hkn : kn ≤ 200 := by simp [inR] at hk; omega
    have h3 := (src_rows hs).1
    have hhigh := high_of hp
    obtain ⟨t, ht, hix, hqt⟩ := hyes
    have hF := pull_fine (pipeOk_iff.1 hp) hs (fu := fun s => s.M l src + 1) ht
    have hpul := fun (W : World) (hnW : RdN W W.heap.size A l) (hsW : RdR W W.heap.size As src) => specPulled_any (c := c) (ca := ca) hhigh hF (fun pb cb n0 => NextOk.of (pipeOk_iff.1 hp) hs hhigh ht) hix (newPS_ok (pipeOk_iff.1 hp)) (newPS_W hs hhigh) kn hkn W hnW hsW
    have hmany := manyP_runP hF (fun s s' ok h => pull_again (pipeOk_iff.1 hp) hs ht ok h) (newPS_ok (pipeOk_iff.1 hp)) kn
    have hlow := low_of hp
    have hvt : (pipeOk l && srcOk src && inR (kn : Int) 0 200) = true := by simp [hp, hs, hk]
    rw [hvt] at hcall
    rw [h3] at hcall ⊢
    have Hcall := Lib.hid hcall
    have Hpul := Lib.hid hpul
    have Hmany := Lib.hid hmany
    have Hq := Lib.hid hqt
    have Hix := Lib.hid hix
    have Hsz := Lib.hid hsz
    have Hsrc3 := Lib.hid h3
    have Hsok := Lib.hid hs
    clear hp hs hk h3 ht hix hqt hcall hq hF hpul hmany hvt hsz
    go_enter Try.func16, Try.ntmps16
    go_wp2_with fail
    rw [← HW1.out]
    refine Hcall.out.mono ?_
    rintro e w2 ⟨rfl, hb2⟩
    have Hb2 := Lib.hid (Hb1.out.trans (hb2.mono z1))
    have kE2 := HkE.out.below hb2 HkE.out.lt
    have e2 := kE2.cell 0
    simp only [List.getElem?_cons_zero] at e2
    have hz2 := hb2.size
    have hpc := Hpul.out w2 ((Hn.out.below hb2 (Nat.le_refl _)).more hz2) ((Hsr.out.below hb2 (Nat.le_refl _)).more hz2)
    have Hpc := Lib.hid hpc
    have HkE2 := Lib.hid kE2
    have Hpb1 := Lib.hid hb2
    clear hb2 hpc kE2
    go_wp2_with fail
    refine Hpc.out.mono ?_
    rintro e w3 ⟨pb, cb, R, cR, pre', s', rfl, h⟩
    have hl := h.ok.len
    have he := h.e
    rw [Hmany.out] at he
    rw [Int.toNat_natCast, he] at Hq
    obtain ⟨rfl, rfl⟩ := Prod.mk.inj Hq.out.symm
    obtain ⟨b0, b1, b2⟩ := h.sw.bx
    have hz12 := Hb2.out.size
    have hz3 := h.bl.size
    have Hb3 := Lib.hid (Hb2.out.trans (h.bl.mono hz12))
    have hE3 := (HkE2.out.below h.bl HkE2.out.lt).cell 0
    simp only [List.getElem?_cons_zero] at hE3
    have Hh := Lib.hid h
    have hpb1 := Hpb1.out
    clear he Hq h e2 hpb1
    go_wp2_with fail
    refine bodyPost_ret (v := .slice R pre.length cR) (by simp [results, Try.results16, go_sem]) rfl ⟨R, cR, rfl, Hh.out.ow.ownI.wide hz12 (Nat.le_refl _), Hb3.out⟩

theorem implFirstItems_l {A : Option Addr} {c : Nat} (l : List Nd) {As : Option Addr} {ca : Nat} (src : List (List Int)) (k : Int) (w : World) (B : Nat) (q : List Int) (hq : Hid (FirstQ l src k q)) (hn : RdN w B A l) (hsr : RdR w B As src) (hB : B ≤ w.heap.size) (hnl : l.length ≤ 1048576) (hns : src.length ≤ 1048576) (hm : Hid (∀ r ∈ src, r.length ≤ 1048576)) :
    Calls Try.prog 19 #[.agg #[.slice A l.length c], .slice As src.length ca, .int .i64 k] w fun e w' => ∃ A' c', e = .returned (.slice A' q.length c') ∧ OwnI w' w.heap.size w'.heap.size A' q ∧ Below w.heap.size w w' := by
  obtain ⟨s, h⟩ := hq.out
  exact implFirstItems_any k q s (Lib.hid h) w (hn.more hB) (hsr.more hB) hnl hns hm
theorem specFirstItems_l {A : Option Addr} {c : Nat} (l : List Nd) {As : Option Addr} {ca : Nat} (src : List (List Int)) (k : Int) (w : World) (B : Nat) (q : List Int) (hq : Hid (FirstQ l src k q)) (hn : RdN w B A l) (hsr : RdR w B As src) (hB : B ≤ w.heap.size) (hnl : l.length ≤ 1048576) (hns : src.length ≤ 1048576) (hm : Hid (∀ r ∈ src, r.length ≤ 1048576)) :
    Calls Try.prog 16 #[.agg #[.slice A l.length c], .slice As src.length ca, .int .i64 k] w fun e w' => ∃ A' c', e = .returned (.slice A' q.length c') ∧ OwnI w' w.heap.size w'.heap.size A' q ∧ Below w.heap.size w w' := by
  obtain ⟨s, h⟩ := hq.out
  exact specFirstItems_any k q s (Lib.hid h) w (hn.more hB) (hsr.more hB) hnl hns hm

end Go.Proofs.Ytjhdjfobbgfpfaa

/- Contracts: pulls by the program: CountsAfter, ReachedBy. -/
namespace Go.Proofs.Ytjhdjfobbgfpfaa
open Go.RowKit

/-- What CountsAfter gives. -/
def QCountsAfter (l : List Nd) (src : List (List Int)) (k : Int) (s : PS) : List Int := if (pipeOk l && srcOk src && inR k 0 200) = true then cntOf s.lg else []
/-- .. leaves. -/
def PCountsAfter (l : List Nd) (src : List (List Int)) (k : Int) (s : PS) (w : World) (e : Ending) (w' : World) : Prop := ∃ A' c', e = .returned (.slice A' (QCountsAfter l src k s).length c') ∧ OwnI w' w.heap.size w'.heap.size A' (QCountsAfter l src k s) ∧ Below w.heap.size w w'
theorem QCountsAfter_yes {l : List Nd} {src : List (List Int)} {k : Int} {s : PS} (h : (pipeOk l && srcOk src && inR k 0 200) = true) : QCountsAfter l src k s = cntOf s.lg := by unfold QCountsAfter; rw [if_pos h]
theorem QCountsAfter_no {l : List Nd} {src : List (List Int)} {k : Int} {s : PS} (h : (pipeOk l && srcOk src && inR k 0 200) = false) : QCountsAfter l src k s = [] := by unfold QCountsAfter; rw [if_neg (by rw [h]; decide)]
theorem PCountsAfter.nil {l : List Nd} {src : List (List Int)} {k : Int} {s : PS} {w w' : World} (h : (pipeOk l && srcOk src && inR k 0 200) = false) (hb : Below w.heap.size w w') : PCountsAfter l src k s w (.returned (.slice none 0 0)) w' := by unfold PCountsAfter; rw [QCountsAfter_no h]; exact ⟨none, 0, rfl, fun h => absurd h (by simp), hb⟩
theorem PCountsAfter.bk {l : List Nd} {src : List (List Int)} {k : Int} {s : PS} {w w' : World} {g : Nat} (h : (pipeOk l && srcOk src && inR k 0 200) = true) (hk : Bk w' g 3 (ints (cntOf s.lg))) (hg : w.heap.size ≤ g) (hb : Below w.heap.size w w') : PCountsAfter l src k s w (.returned (.slice (some ⟨g, 0, none⟩) 3 3)) w' := by
  unfold PCountsAfter
  rw [QCountsAfter_yes h, cntOf_len]
  exact ⟨_, _, rfl, fun _ => ⟨g, 0, _, rfl, hg, hk.lt, hk, fun k x hx => by rw [Nat.zero_add, ints_get, hx]; rfl⟩, hb⟩
/-- The model of CountsAfter. -/
def MCountsAfter (l : List Nd) (src : List (List Int)) (k : Int) (q : List Int) : Prop := ∃ pre s, OutQ l src k pre s ∧ q = QCountsAfter l src k s
theorem MCountsAfter.len {l : List Nd} {src : List (List Int)} {k : Int} {s : PS} : (QCountsAfter l src k s).length ≤ 3 := by
  unfold QCountsAfter
  split
  · rw [cntOf_len]; exact Nat.le_refl _
  · simp
set_option maxRecDepth 100000 in
set_option maxHeartbeats 6400000 in
theorem implCountsAfter_any {l : List Nd} {src : List (List Int)} {A : Option Addr} {c : Nat} {As : Option Addr} {ca : Nat} (k : Int) (pre : List Int) (s : PS) (hq : Hid (OutQ l src k pre s)) (w : World) (hn : RdN w w.heap.size A l) (hsr : RdR w w.heap.size As src) (hnl : l.length ≤ 1048576) (hns : src.length ≤ 1048576) (hm : Hid (∀ r ∈ src, r.length ≤ 1048576)) :
    Calls Try.prog 44 #[.agg #[.slice A l.length c], .slice As src.length ca, .int .i64 k] w fun e w' => PCountsAfter l src k s w e w' := by
  obtain ⟨W1, hW1⟩ : ∃ X : World, X = w.alloc (.cells #[.slice A l.length c] 32) := ⟨_, rfl⟩
  have hb1 : Below w.heap.size w W1 := by rw [hW1]; exact below1 w _
  have z1 := hb1.size
  have hn1 : RdN W1 W1.heap.size A l := (hn.below hb1 (Nat.le_refl _)).more z1
  have hr1 : RdR W1 W1.heap.size As src := (hsr.below hb1 (Nat.le_refl _)).more z1
  have Hn := Lib.hid hn1
  have Hsr := Lib.hid hr1
  have HW1 := Lib.hid hW1
  have Hb1 := Lib.hid hb1
  clear hn hsr hn1 hr1 hW1 hb1
  cases hv : (pipeOk l && srcOk src && inR k 0 200) with
  | false =>
    have Hno := Lib.hid hv
    obtain ⟨rfl, rfl⟩ := hq.out.no hv
    have Hv := Lib.hid hv
    clear hv
    go_enter Try.func44, Try.ntmps44
    go_wp2_with fail
    rw [← HW1.out]
    refine (watchTimes_no k Hv.out W1 Hn.out Hsr.out hnl hns hm).mono ?_
    rintro e w2 ⟨rfl, hb2⟩
    have Hb2 := Lib.hid (Hb1.out.trans (hb2.mono z1))
    clear hb2
    go_wp2_with fail
    refine bodyPost_ret (v := .slice none 0 0) (by simp [results, Try.results44, go_sem]) rfl ?_
    exact PCountsAfter.nil Hno.out Hb2.out
  | true =>
    have hyes := hq.out.yes hv
    have hsz := hq.out.sizes
    simp only [Bool.and_eq_true] at hv
    obtain ⟨⟨hp, hs⟩, hk⟩ := hv
    obtain ⟨kn, rfl⟩ : ∃ kn : Nat, k = (kn : Int) := ⟨k.toNat, by simp [inR] at hk; omega⟩
    have hkn : kn ≤ 200 := by simp [inR] at hk; omega
    have h3 := (src_rows hs).1
    have hhigh := high_of hp
    obtain ⟨t, ht, hix, hqt⟩ := hyes
    have hvt : (pipeOk l && srcOk src && inR (kn : Int) 0 200) = true := by simp [hp, hs, hk]
    have Hvt := Lib.hid hvt
    clear hvt
    have hcall := watchTimes_any (c := c) (ca := ca) (pipeOk_iff.1 hp) hp hs h3 hhigh ht hix kn hkn W1 Hn.out Hsr.out
    rw [h3]
    have Hcall := Lib.hid hcall
    have Hq := Lib.hid hqt
    have Hsz := Lib.hid hsz
    clear hp hs hk h3 ht hix hqt hcall hq hsz
    go_enter Try.func44, Try.ntmps44
    go_wp2_with fail
    rw [← HW1.out]
    refine Hcall.out.mono ?_
    rintro e w2 ⟨wb, rfl, ⟨n1, rb, cb, gb, hb, eb, fe, w1, pre', s', hn1, hrun, hwat⟩, hb2⟩
    rw [Int.toNat_natCast, hrun] at Hq
    obtain ⟨rfl, rfl⟩ := Prod.mk.inj Hq.out.symm
    have Hb2 := Lib.hid (Hb1.out.trans (hb2.mono z1))
    have hz2 := hb2.size
    have wc := hwat.wr.bx.cell 2
    have wl := hwat.wr.bx.lt
    simp only [List.getElem?_cons_succ, List.getElem?_cons_zero] at wc
    have Hwat := Lib.hid hwat
    clear hrun hb2 Hq hwat
    go_wp2_with fail
    refine bodyPost_ret (v := .slice (some ⟨gb, 0, none⟩) 3 3) (by simp [results, Try.results44, go_sem]) rfl ?_
    exact PCountsAfter.bk Hvt.out Hwat.out.wr.g (Nat.le_trans z1 (Nat.le_trans hn1 Hwat.out.b2.1)) Hb2.out

set_option maxRecDepth 100000 in
set_option maxHeartbeats 6400000 in
theorem specCountsAfter_any {l : List Nd} {src : List (List Int)} {A : Option Addr} {c : Nat} {As : Option Addr} {ca : Nat} (k : Int) (pre : List Int) (s : PS) (hq : Hid (OutQ l src k pre s)) (w : World) (hn : RdN w w.heap.size A l) (hsr : RdR w w.heap.size As src) (hnl : l.length ≤ 1048576) (hns : src.length ≤ 1048576) (hm : Hid (∀ r ∈ src, r.length ≤ 1048576)) :
    Calls Try.prog 43 #[.agg #[.slice A l.length c], .slice As src.length ca, .int .i64 k] w fun e w' => PCountsAfter l src k s w e w' := by
  obtain ⟨W1, hW1⟩ : ∃ X : World, X = w.alloc (.cells #[.slice A l.length c] 32) := ⟨_, rfl⟩
  have hb1 : Below w.heap.size w W1 := by rw [hW1]; exact below1 w _
  have kE : Bk W1 w.heap.size 32 [.slice A l.length c] := by rw [hW1]; exact Bk.new _ _ [_]
  have z1 := hb1.size
  have hn1 : RdN W1 W1.heap.size A l := (hn.below hb1 (Nat.le_refl _)).more z1
  have hr1 : RdR W1 W1.heap.size As src := (hsr.below hb1 (Nat.le_refl _)).more z1
  have Hn := Lib.hid hn1
  have Hsr := Lib.hid hr1
  have HW1 := Lib.hid hW1
  have Hb1 := Lib.hid hb1
  have HkE := Lib.hid kE
  clear kE
  clear hn hsr hn1 hr1 hW1 hb1
  have hcall := specvalidPulls_any (c := c) (ca := ca) k W1 Hn.out Hsr.out hnl hns hm
  cases hv : (pipeOk l && srcOk src && inR k 0 200) with
  | false =>
    have Hno := Lib.hid hv
    obtain ⟨rfl, rfl⟩ := hq.out.no hv
    rw [hv] at hcall
    have Hcall := Lib.hid hcall
    clear hv hcall
    go_enter Try.func43, Try.ntmps43
    go_wp2_with fail
    rw [← HW1.out]
    refine Hcall.out.mono ?_
    rintro e w2 ⟨rfl, hb2⟩
    have Hb2 := Lib.hid (Hb1.out.trans (hb2.mono z1))
    clear hb2
    go_wp2_with fail
    refine bodyPost_ret (v := .slice none 0 0) (by simp [results, Try.results43, go_sem]) rfl ?_
    exact PCountsAfter.nil Hno.out Hb2.out
  | true =>
    have hyes := hq.out.yes hv
    have hsz := hq.out.sizes
    simp only [Bool.and_eq_true] at hv
    obtain ⟨⟨hp, hs⟩, hk⟩ := hv
    obtain ⟨kn, rfl⟩ : ∃ kn : Nat, k = (kn : Int) := ⟨k.toNat, by simp [inR] at hk; omega⟩
    have hkn : kn ≤ 200 := by simp [inR] at hk; omega
    have h3 := (src_rows hs).1
    have hhigh := high_of hp
    obtain ⟨t, ht, hix, hqt⟩ := hyes
    have hvt : (pipeOk l && srcOk src && inR (kn : Int) 0 200) = true := by simp [hp, hs, hk]
    have Hvt := Lib.hid hvt
    clear hvt
    have Hgd : Hid (∀ p ∈ s.lg, GoodPl src p) := Lib.hid hq.out.good
    have H12 : Hid (∀ r ∈ src, r.length ≤ 12) := Lib.hid (fun r hr => (src_rows hs).2 r hr)
    have hF := pull_fine (pipeOk_iff.1 hp) hs (fu := fun s => s.M l src + 1) ht
    have hpul := fun (W : World) (hnW : RdN W W.heap.size A l) (hsW : RdR W W.heap.size As src) => specPulled_any (c := c) (ca := ca) hhigh hF (fun pb cb n0 => NextOk.of (pipeOk_iff.1 hp) hs hhigh ht) hix (newPS_ok (pipeOk_iff.1 hp)) (newPS_W hs hhigh) kn hkn W hnW hsW
    have hmany := manyP_runP hF (fun s s' ok h => pull_again (pipeOk_iff.1 hp) hs ht ok h) (newPS_ok (pipeOk_iff.1 hp)) kn
    have hlow := low_of hp
    have hvt : (pipeOk l && srcOk src && inR (kn : Int) 0 200) = true := by simp [hp, hs, hk]
    rw [hvt] at hcall
    rw [h3] at hcall ⊢
    have Hcall := Lib.hid hcall
    have Hpul := Lib.hid hpul
    have Hmany := Lib.hid hmany
    have Hq := Lib.hid hqt
    have Hix := Lib.hid hix
    have Hsz := Lib.hid hsz
    have Hsrc3 := Lib.hid h3
    have Hsok := Lib.hid hs
    clear hp hs hk h3 ht hix hqt hcall hq hF hpul hmany hvt hsz
    go_enter Try.func43, Try.ntmps43
    go_wp2_with fail
    rw [← HW1.out]
    refine Hcall.out.mono ?_
    rintro e w2 ⟨rfl, hb2⟩
    have Hb2 := Lib.hid (Hb1.out.trans (hb2.mono z1))
    have kE2 := HkE.out.below hb2 HkE.out.lt
    have e2 := kE2.cell 0
    simp only [List.getElem?_cons_zero] at e2
    have hz2 := hb2.size
    have hpc := Hpul.out w2 ((Hn.out.below hb2 (Nat.le_refl _)).more hz2) ((Hsr.out.below hb2 (Nat.le_refl _)).more hz2)
    have Hpc := Lib.hid hpc
    have HkE2 := Lib.hid kE2
    have Hpb1 := Lib.hid hb2
    clear hb2 hpc kE2
    go_wp2_with fail
    refine Hpc.out.mono ?_
    rintro e w3 ⟨pb, cb, R, cR, pre', s', rfl, h⟩
    have hl := h.ok.len
    have he := h.e
    rw [Hmany.out] at he
    rw [Int.toNat_natCast, he] at Hq
    obtain ⟨rfl, rfl⟩ := Prod.mk.inj Hq.out.symm
    obtain ⟨b0, b1, b2⟩ := h.sw.bx
    have hz12 := Hb2.out.size
    have hz3 := h.bl.size
    have Hb3 := Lib.hid (Hb2.out.trans (h.bl.mono hz12))
    have hE3 := (HkE2.out.below h.bl HkE2.out.lt).cell 0
    simp only [List.getElem?_cons_zero] at hE3
    have Hh := Lib.hid h
    have hpb1 := Hpb1.out
    obtain ⟨Rl, cRl, hbx, hog⟩ := h.sw.rs.box
    have b3 := hbx.cell 3
    have plt := hbx.lt
    replace b3 : w3.cell? ⟨pb, 3, none⟩ = some (.slice Rl s.lg.length cRl) := b3
    have hlg : s.lg.length ≤ 65536 := Hsz.out.2.2
    have hrd := hog.ownPl.rd
    have Hrd := Lib.hid hrd
    clear hog hbx hrd
    clear he Hq h e2 hpb1
    go_wp2_with fail
    refine (specCounts_any Hgd.out H12.out hlg w3 w3.heap.size Hrd.out (Nat.le_refl _)).mono ?_
    rintro e w4 ⟨rfl, hk4, hb4⟩
    have Hk4 := Lib.hid hk4
    have Hb4 := Lib.hid (Hb3.out.trans (hb4.mono (by omega)))
    clear hk4 hb4
    go_wp2_with fail
    refine bodyPost_ret (v := .slice (some ⟨w3.heap.size, 0, none⟩) 3 3) (by simp [results, Try.results43, go_sem]) rfl ?_
    exact PCountsAfter.bk Hvt.out Hk4.out (by omega) Hb4.out

theorem implCountsAfter_l {A : Option Addr} {c : Nat} (l : List Nd) {As : Option Addr} {ca : Nat} (src : List (List Int)) (k : Int) (w : World) (B : Nat) (q : List Int) (hq : Hid (MCountsAfter l src k q)) (hn : RdN w B A l) (hsr : RdR w B As src) (hB : B ≤ w.heap.size) (hnl : l.length ≤ 1048576) (hns : src.length ≤ 1048576) (hm : Hid (∀ r ∈ src, r.length ≤ 1048576)) :
    Calls Try.prog 44 #[.agg #[.slice A l.length c], .slice As src.length ca, .int .i64 k] w fun e w' => ∃ A' c', e = .returned (.slice A' q.length c') ∧ OwnI w' w.heap.size w'.heap.size A' q ∧ Below w.heap.size w w' := by
  obtain ⟨pre, s, h, rfl⟩ := hq.out
  exact implCountsAfter_any k pre s (Lib.hid h) w (hn.more hB) (hsr.more hB) hnl hns hm
theorem specCountsAfter_l {A : Option Addr} {c : Nat} (l : List Nd) {As : Option Addr} {ca : Nat} (src : List (List Int)) (k : Int) (w : World) (B : Nat) (q : List Int) (hq : Hid (MCountsAfter l src k q)) (hn : RdN w B A l) (hsr : RdR w B As src) (hB : B ≤ w.heap.size) (hnl : l.length ≤ 1048576) (hns : src.length ≤ 1048576) (hm : Hid (∀ r ∈ src, r.length ≤ 1048576)) :
    Calls Try.prog 43 #[.agg #[.slice A l.length c], .slice As src.length ca, .int .i64 k] w fun e w' => ∃ A' c', e = .returned (.slice A' q.length c') ∧ OwnI w' w.heap.size w'.heap.size A' q ∧ Below w.heap.size w w' := by
  obtain ⟨pre, s, h, rfl⟩ := hq.out
  exact specCountsAfter_any k pre s (Lib.hid h) w (hn.more hB) (hsr.more hB) hnl hns hm
/-- What ReachedBy gives. -/
def QReachedBy (l : List Nd) (src : List (List Int)) (k : Int) (s : PS) : List Int := if (pipeOk l && srcOk src && inR k 0 200) = true then rchOf s.lg else []
/-- .. leaves. -/
def PReachedBy (l : List Nd) (src : List (List Int)) (k : Int) (s : PS) (w : World) (e : Ending) (w' : World) : Prop := ∃ A' c', e = .returned (.slice A' (QReachedBy l src k s).length c') ∧ OwnI w' w.heap.size w'.heap.size A' (QReachedBy l src k s) ∧ Below w.heap.size w w'
theorem QReachedBy_yes {l : List Nd} {src : List (List Int)} {k : Int} {s : PS} (h : (pipeOk l && srcOk src && inR k 0 200) = true) : QReachedBy l src k s = rchOf s.lg := by unfold QReachedBy; rw [if_pos h]
theorem QReachedBy_no {l : List Nd} {src : List (List Int)} {k : Int} {s : PS} (h : (pipeOk l && srcOk src && inR k 0 200) = false) : QReachedBy l src k s = [] := by unfold QReachedBy; rw [if_neg (by rw [h]; decide)]
theorem PReachedBy.nil {l : List Nd} {src : List (List Int)} {k : Int} {s : PS} {w w' : World} (h : (pipeOk l && srcOk src && inR k 0 200) = false) (hb : Below w.heap.size w w') : PReachedBy l src k s w (.returned (.slice none 0 0)) w' := by unfold PReachedBy; rw [QReachedBy_no h]; exact ⟨none, 0, rfl, fun h => absurd h (by simp), hb⟩
theorem PReachedBy.bk {l : List Nd} {src : List (List Int)} {k : Int} {s : PS} {w w' : World} {g : Nat} (h : (pipeOk l && srcOk src && inR k 0 200) = true) (hk : Bk w' g 3 (ints (rchOf s.lg))) (hg : w.heap.size ≤ g) (hb : Below w.heap.size w w') : PReachedBy l src k s w (.returned (.slice (some ⟨g, 0, none⟩) 3 3)) w' := by
  unfold PReachedBy
  rw [QReachedBy_yes h, rchOf_len]
  exact ⟨_, _, rfl, fun _ => ⟨g, 0, _, rfl, hg, hk.lt, hk, fun k x hx => by rw [Nat.zero_add, ints_get, hx]; rfl⟩, hb⟩
/-- The model of ReachedBy. -/
def MReachedBy (l : List Nd) (src : List (List Int)) (k : Int) (q : List Int) : Prop := ∃ pre s, OutQ l src k pre s ∧ q = QReachedBy l src k s
theorem MReachedBy.len {l : List Nd} {src : List (List Int)} {k : Int} {s : PS} : (QReachedBy l src k s).length ≤ 3 := by
  unfold QReachedBy
  split
  · rw [rchOf_len]; exact Nat.le_refl _
  · simp
set_option maxRecDepth 100000 in
set_option maxHeartbeats 6400000 in
theorem implReachedBy_any {l : List Nd} {src : List (List Int)} {A : Option Addr} {c : Nat} {As : Option Addr} {ca : Nat} (k : Int) (pre : List Int) (s : PS) (hq : Hid (OutQ l src k pre s)) (w : World) (hn : RdN w w.heap.size A l) (hsr : RdR w w.heap.size As src) (hnl : l.length ≤ 1048576) (hns : src.length ≤ 1048576) (hm : Hid (∀ r ∈ src, r.length ≤ 1048576)) :
    Calls Try.prog 48 #[.agg #[.slice A l.length c], .slice As src.length ca, .int .i64 k] w fun e w' => PReachedBy l src k s w e w' := by
  obtain ⟨W1, hW1⟩ : ∃ X : World, X = w.alloc (.cells #[.slice A l.length c] 32) := ⟨_, rfl⟩
  have hb1 : Below w.heap.size w W1 := by rw [hW1]; exact below1 w _
  have z1 := hb1.size
  have hn1 : RdN W1 W1.heap.size A l := (hn.below hb1 (Nat.le_refl _)).more z1
  have hr1 : RdR W1 W1.heap.size As src := (hsr.below hb1 (Nat.le_refl _)).more z1
  have Hn := Lib.hid hn1
  have Hsr := Lib.hid hr1
  have HW1 := Lib.hid hW1
  have Hb1 := Lib.hid hb1
  clear hn hsr hn1 hr1 hW1 hb1
  cases hv : (pipeOk l && srcOk src && inR k 0 200) with
  | false =>
    have Hno := Lib.hid hv
    obtain ⟨rfl, rfl⟩ := hq.out.no hv
    have Hv := Lib.hid hv
    clear hv
    go_enter Try.func48, Try.ntmps48
    go_wp2_with fail
    rw [← HW1.out]
    refine (watchTimes_no k Hv.out W1 Hn.out Hsr.out hnl hns hm).mono ?_
    rintro e w2 ⟨rfl, hb2⟩
    have Hb2 := Lib.hid (Hb1.out.trans (hb2.mono z1))
    clear hb2
    go_wp2_with fail
    refine bodyPost_ret (v := .slice none 0 0) (by simp [results, Try.results48, go_sem]) rfl ?_
    exact PReachedBy.nil Hno.out Hb2.out
  | true =>
    have hyes := hq.out.yes hv
    have hsz := hq.out.sizes
    simp only [Bool.and_eq_true] at hv
    obtain ⟨⟨hp, hs⟩, hk⟩ := hv
    obtain ⟨kn, rfl⟩ : ∃ kn : Nat, k = (kn : Int) := ⟨k.toNat, by simp [inR] at hk; omega⟩
    have hkn : kn ≤ 200 := by simp [inR] at hk; omega
    have h3 := (src_rows hs).1
    have hhigh := high_of hp
    obtain ⟨t, ht, hix, hqt⟩ := hyes
    have hvt : (pipeOk l && srcOk src && inR (kn : Int) 0 200) = true := by simp [hp, hs, hk]
    have Hvt := Lib.hid hvt
    clear hvt
    have hcall := watchTimes_any (c := c) (ca := ca) (pipeOk_iff.1 hp) hp hs h3 hhigh ht hix kn hkn W1 Hn.out Hsr.out
    rw [h3]
    have Hcall := Lib.hid hcall
    have Hq := Lib.hid hqt
    have Hsz := Lib.hid hsz
    clear hp hs hk h3 ht hix hqt hcall hq hsz
    go_enter Try.func48, Try.ntmps48
    go_wp2_with fail
    rw [← HW1.out]
    refine Hcall.out.mono ?_
    rintro e w2 ⟨wb, rfl, ⟨n1, rb, cb, gb, hb, eb, fe, w1, pre', s', hn1, hrun, hwat⟩, hb2⟩
    rw [Int.toNat_natCast, hrun] at Hq
    obtain ⟨rfl, rfl⟩ := Prod.mk.inj Hq.out.symm
    have Hb2 := Lib.hid (Hb1.out.trans (hb2.mono z1))
    have hz2 := hb2.size
    have wc := hwat.wr.bx.cell 3
    have wl := hwat.wr.bx.lt
    simp only [List.getElem?_cons_succ, List.getElem?_cons_zero] at wc
    have Hwat := Lib.hid hwat
    clear hrun hb2 Hq hwat
    go_wp2_with fail
    refine bodyPost_ret (v := .slice (some ⟨hb, 0, none⟩) 3 3) (by simp [results, Try.results48, go_sem]) rfl ?_
    exact PReachedBy.bk Hvt.out Hwat.out.wr.h (Nat.le_trans z1 (Nat.le_trans hn1 Hwat.out.b3.1)) Hb2.out

set_option maxRecDepth 100000 in
set_option maxHeartbeats 6400000 in
theorem specReachedBy_any {l : List Nd} {src : List (List Int)} {A : Option Addr} {c : Nat} {As : Option Addr} {ca : Nat} (k : Int) (pre : List Int) (s : PS) (hq : Hid (OutQ l src k pre s)) (w : World) (hn : RdN w w.heap.size A l) (hsr : RdR w w.heap.size As src) (hnl : l.length ≤ 1048576) (hns : src.length ≤ 1048576) (hm : Hid (∀ r ∈ src, r.length ≤ 1048576)) :
    Calls Try.prog 47 #[.agg #[.slice A l.length c], .slice As src.length ca, .int .i64 k] w fun e w' => PReachedBy l src k s w e w' := by
  obtain ⟨W1, hW1⟩ : ∃ X : World, X = w.alloc (.cells #[.slice A l.length c] 32) := ⟨_, rfl⟩
  have hb1 : Below w.heap.size w W1 := by rw [hW1]; exact below1 w _
  have kE : Bk W1 w.heap.size 32 [.slice A l.length c] := by rw [hW1]; exact Bk.new _ _ [_]
  have z1 := hb1.size
  have hn1 : RdN W1 W1.heap.size A l := (hn.below hb1 (Nat.le_refl _)).more z1
  have hr1 : RdR W1 W1.heap.size As src := (hsr.below hb1 (Nat.le_refl _)).more z1
  have Hn := Lib.hid hn1
  have Hsr := Lib.hid hr1
  have HW1 := Lib.hid hW1
  have Hb1 := Lib.hid hb1
  have HkE := Lib.hid kE
  clear kE
  clear hn hsr hn1 hr1 hW1 hb1
  have hcall := specvalidPulls_any (c := c) (ca := ca) k W1 Hn.out Hsr.out hnl hns hm
  cases hv : (pipeOk l && srcOk src && inR k 0 200) with
  | false =>
    have Hno := Lib.hid hv
    obtain ⟨rfl, rfl⟩ := hq.out.no hv
    rw [hv] at hcall
    have Hcall := Lib.hid hcall
    clear hv hcall
    go_enter Try.func47, Try.ntmps47
    go_wp2_with fail
    rw [← HW1.out]
    refine Hcall.out.mono ?_
    rintro e w2 ⟨rfl, hb2⟩
    have Hb2 := Lib.hid (Hb1.out.trans (hb2.mono z1))
    clear hb2
    go_wp2_with fail
    refine bodyPost_ret (v := .slice none 0 0) (by simp [results, Try.results47, go_sem]) rfl ?_
    exact PReachedBy.nil Hno.out Hb2.out
  | true =>
    have hyes := hq.out.yes hv
    have hsz := hq.out.sizes
    simp only [Bool.and_eq_true] at hv
    obtain ⟨⟨hp, hs⟩, hk⟩ := hv
    obtain ⟨kn, rfl⟩ : ∃ kn : Nat, k = (kn : Int) := ⟨k.toNat, by simp [inR] at hk; omega⟩
    have hkn : kn ≤ 200 := by simp [inR] at hk; omega
    have h3 := (src_rows hs).1
    have hhigh := high_of hp
    obtain ⟨t, ht, hix, hqt⟩ := hyes
    have hvt : (pipeOk l && srcOk src && inR (kn : Int) 0 200) = true := by simp [hp, hs, hk]
    have Hvt := Lib.hid hvt
    clear hvt
    have Hgd : Hid (∀ p ∈ s.lg, GoodPl src p) := Lib.hid hq.out.good
    have H12 : Hid (∀ r ∈ src, r.length ≤ 12) := Lib.hid (fun r hr => (src_rows hs).2 r hr)
    have hF := pull_fine (pipeOk_iff.1 hp) hs (fu := fun s => s.M l src + 1) ht
    have hpul := fun (W : World) (hnW : RdN W W.heap.size A l) (hsW : RdR W W.heap.size As src) => specPulled_any (c := c) (ca := ca) hhigh hF (fun pb cb n0 => NextOk.of (pipeOk_iff.1 hp) hs hhigh ht) hix (newPS_ok (pipeOk_iff.1 hp)) (newPS_W hs hhigh) kn hkn W hnW hsW
    have hmany := manyP_runP hF (fun s s' ok h => pull_again (pipeOk_iff.1 hp) hs ht ok h) (newPS_ok (pipeOk_iff.1 hp)) kn
    have hlow := low_of hp
    have hvt : (pipeOk l && srcOk src && inR (kn : Int) 0 200) = true := by simp [hp, hs, hk]
    rw [hvt] at hcall
    rw [h3] at hcall ⊢
    have Hcall := Lib.hid hcall
    have Hpul := Lib.hid hpul
    have Hmany := Lib.hid hmany
    have Hq := Lib.hid hqt
    have Hix := Lib.hid hix
    have Hsz := Lib.hid hsz
    have Hsrc3 := Lib.hid h3
    have Hsok := Lib.hid hs
    clear hp hs hk h3 ht hix hqt hcall hq hF hpul hmany hvt hsz
    go_enter Try.func47, Try.ntmps47
    go_wp2_with fail
    rw [← HW1.out]
    refine Hcall.out.mono ?_
    rintro e w2 ⟨rfl, hb2⟩
    have Hb2 := Lib.hid (Hb1.out.trans (hb2.mono z1))
    have kE2 := HkE.out.below hb2 HkE.out.lt
    have e2 := kE2.cell 0
    simp only [List.getElem?_cons_zero] at e2
    have hz2 := hb2.size
    have hpc := Hpul.out w2 ((Hn.out.below hb2 (Nat.le_refl _)).more hz2) ((Hsr.out.below hb2 (Nat.le_refl _)).more hz2)
    have Hpc := Lib.hid hpc
    have HkE2 := Lib.hid kE2
    have Hpb1 := Lib.hid hb2
    clear hb2 hpc kE2
    go_wp2_with fail
    refine Hpc.out.mono ?_
    rintro e w3 ⟨pb, cb, R, cR, pre', s', rfl, h⟩
    have hl := h.ok.len
    have he := h.e
    rw [Hmany.out] at he
    rw [Int.toNat_natCast, he] at Hq
    obtain ⟨rfl, rfl⟩ := Prod.mk.inj Hq.out.symm
    obtain ⟨b0, b1, b2⟩ := h.sw.bx
    have hz12 := Hb2.out.size
    have hz3 := h.bl.size
    have Hb3 := Lib.hid (Hb2.out.trans (h.bl.mono hz12))
    have hE3 := (HkE2.out.below h.bl HkE2.out.lt).cell 0
    simp only [List.getElem?_cons_zero] at hE3
    have Hh := Lib.hid h
    have hpb1 := Hpb1.out
    obtain ⟨Rl, cRl, hbx, hog⟩ := h.sw.rs.box
    have b3 := hbx.cell 3
    have plt := hbx.lt
    replace b3 : w3.cell? ⟨pb, 3, none⟩ = some (.slice Rl s.lg.length cRl) := b3
    have hlg : s.lg.length ≤ 65536 := Hsz.out.2.2
    have hrd := hog.ownPl.rd
    have Hrd := Lib.hid hrd
    clear hog hbx hrd
    clear he Hq h e2 hpb1
    go_wp2_with fail
    refine (specReached_any Hgd.out H12.out hlg w3 w3.heap.size Hrd.out (Nat.le_refl _)).mono ?_
    rintro e w4 ⟨rfl, hk4, hb4⟩
    have Hk4 := Lib.hid hk4
    have Hb4 := Lib.hid (Hb3.out.trans (hb4.mono (by omega)))
    clear hk4 hb4
    go_wp2_with fail
    refine bodyPost_ret (v := .slice (some ⟨w3.heap.size, 0, none⟩) 3 3) (by simp [results, Try.results47, go_sem]) rfl ?_
    exact PReachedBy.bk Hvt.out Hk4.out (by omega) Hb4.out

theorem implReachedBy_l {A : Option Addr} {c : Nat} (l : List Nd) {As : Option Addr} {ca : Nat} (src : List (List Int)) (k : Int) (w : World) (B : Nat) (q : List Int) (hq : Hid (MReachedBy l src k q)) (hn : RdN w B A l) (hsr : RdR w B As src) (hB : B ≤ w.heap.size) (hnl : l.length ≤ 1048576) (hns : src.length ≤ 1048576) (hm : Hid (∀ r ∈ src, r.length ≤ 1048576)) :
    Calls Try.prog 48 #[.agg #[.slice A l.length c], .slice As src.length ca, .int .i64 k] w fun e w' => ∃ A' c', e = .returned (.slice A' q.length c') ∧ OwnI w' w.heap.size w'.heap.size A' q ∧ Below w.heap.size w w' := by
  obtain ⟨pre, s, h, rfl⟩ := hq.out
  exact implReachedBy_any k pre s (Lib.hid h) w (hn.more hB) (hsr.more hB) hnl hns hm
theorem specReachedBy_l {A : Option Addr} {c : Nat} (l : List Nd) {As : Option Addr} {ca : Nat} (src : List (List Int)) (k : Int) (w : World) (B : Nat) (q : List Int) (hq : Hid (MReachedBy l src k q)) (hn : RdN w B A l) (hsr : RdR w B As src) (hB : B ≤ w.heap.size) (hnl : l.length ≤ 1048576) (hns : src.length ≤ 1048576) (hm : Hid (∀ r ∈ src, r.length ≤ 1048576)) :
    Calls Try.prog 47 #[.agg #[.slice A l.length c], .slice As src.length ca, .int .i64 k] w fun e w' => ∃ A' c', e = .returned (.slice A' q.length c') ∧ OwnI w' w.heap.size w'.heap.size A' q ∧ Below w.heap.size w w' := by
  obtain ⟨pre, s, h, rfl⟩ := hq.out
  exact specReachedBy_any k pre s (Lib.hid h) w (hn.more hB) (hsr.more hB) hnl hns hm

end Go.Proofs.Ytjhdjfobbgfpfaa

/- Slices of slices of numbers that a call made: kept, read and marked. -/
namespace Go.Proofs.Ytjhdjfobbgfpfaa
open Go.RowKit

/-- Rows in memory of a call's own, blocks lo to hi. -/
def OwnS (w : World) (lo hi : Nat) (A : Option Addr) (rows : List (List Int)) : Prop :=
  ∃ g gs, A = some ⟨g, 0, none⟩ ∧ OwnR w 28 3 lo g gs rows ∧ g < hi ∧ ∀ x ∈ gs, x < hi

section
variable {w w' : World} {lo hi : Nat} {A : Option Addr} {rows : List (List Int)}
theorem OwnS.of {g : Nat} (h : ∃ gs, OwnR w 28 3 lo g gs rows) : OwnS w lo w.heap.size (some ⟨g, 0, none⟩) rows := by
  obtain ⟨gs, h⟩ := h
  exact ⟨g, gs, rfl, h, h.top.lt, h.lt_⟩
theorem OwnS.agree (h : OwnS w lo hi A rows) (hag : ∀ b, lo ≤ b → b < hi → w'.heap[b]? = w.heap[b]?) : OwnS w' lo hi A rows := by
  obtain ⟨g, gs, rfl, h, hg, hx⟩ := h
  refine ⟨g, gs, rfl, ⟨h.base_, h.len, h.up, h.asc, (hag g h.base_ hg).trans h.top, fun j x r hj hr => ?_⟩, hg, hx⟩
  have hm := List.mem_of_getElem? hj
  exact (hag x (by have := h.up x hm; have := h.base_; omega) (hx x hm)).trans (h.row j x r hj hr)
theorem OwnS.held (h : OwnS w lo hi A rows) (h1 : lo ≤ hi) (h2 : hi ≤ w.heap.size) : Held w lo hi (fun v => OwnS v lo hi A rows) := ⟨h1, h2, fun _ _ hag => h.agree hag⟩
theorem OwnS.rdt (h : OwnS w lo hi A rows) (_ : hi ≤ w.heap.size) : RdR w w.heap.size A rows := by
  obtain ⟨g, gs, rfl, h, _, _⟩ := h
  exact h.rd (Nat.le_refl _)
end

theorem bulk_len (rows : List (List Int)) : rows.length ≤ bulk rows := Nat.le_add_right _ _
theorem bulk_row {rows : List (List Int)} {r : List Int} (h : r ∈ rows) : r.length ≤ bulk rows := Nat.le_trans (len_le_bulk h) (Nat.le_add_left _ _)

/-- The rows are there, whatever numbers they hold. -/
structure Rowed (w : World) (g : Nat) (gs : List Nat) (rows : List (List Int)) : Prop where
  top : Bk w g 28 (List.zipWith (fun x (r : List Int) => Value.slice (some ⟨x, 0, none⟩) r.length r.length) gs rows)
  row : ∀ (j x : Nat) (r : List Int), gs[j]? = some x → rows[j]? = some r → ∃ r' : List Int, r'.length = r.length ∧ OwnI w x (x + 1) (some ⟨x, 0, none⟩) r'

set_option maxHeartbeats 1600000 in
theorem markIntSS_h {lo hi : Nat} {A : Option Addr} {c : Nat} {rows : List (List Int)} {w : World} (k : Int) (h : OwnS w lo hi A rows) (hn : rows.length ≤ 1048576) (hm : ∀ r ∈ rows, r.length ≤ 1048576) (hbk : bulk rows ≤ 1048576) (hk0 : 0 ≤ k) (hk1 : k ≤ 14680064) :
    Calls Try.prog 24 #[.slice A rows.length c, .int .i64 k] w fun e w' => e = .returned (.int .i64 (k + ((rows.map List.length).sum : Nat))) ∧ Chg lo hi w w' := by
  obtain ⟨g, gs, rfl, h, hg, hx⟩ := h
  have hR : Rowed w g gs rows := ⟨h.top, fun j x r hj hr => ⟨r, rfl, (h.row j x r hj hr).ownI (Nat.le_refl _) (Nat.lt_succ_self _)⟩⟩
  have hsum : (rows.map List.length).sum ≤ 1048576 := by unfold bulk at hbk; omega
  have HR := Lib.hid hR
  have Hh := Lib.hid h
  have Hx := Lib.hid hx
  have Hm := Lib.hid hm
  clear h hR hx hm
  go_enter Try.func24, Try.ntmps24
  go_wp2
  go_loopw [1, 5] (fun s i wr => ∃ j : Nat, j ≤ rows.length ∧ i = .int .i64 j ∧ (∃ m : Int, m = k + (((rows.take j).map List.length).sum : Nat) ∧ s = .int .i64 m) ∧ Rowed wr g gs rows ∧ Chg lo hi w wr) (fun _ i _ => rows.length - (intOf i).toNat)
  case atStart => exact ⟨0, Nat.zero_le _, rfl, ⟨k, by simp, rfl⟩, HR.out, Chg.refl _ _ _⟩
  case round =>
    obtain ⟨j, hj, rfl, ⟨m, hmm, rfl⟩, hR, hc⟩ := hrel
    have hle := sum_take_le rows j
    have hm0 : 0 ≤ m := by omega
    have hm1 : m ≤ 16777216 := by omega
    by_cases hlt : j < rows.length
    · obtain ⟨r, hr⟩ := get_of_lt rows hlt
      obtain ⟨x, hgx⟩ := get_of_lt gs (k := j) (by rw [Hh.out.len]; exact hlt)
      obtain ⟨r', hrl, hown⟩ := hR.row j x r hgx hr
      have htop : wr.cell? ⟨g, j, none⟩ = some (.slice (some ⟨x, 0, none⟩) r.length r.length) := by rw [hR.top.cell, List.getElem?_zipWith, hgx, hr]
      have hrn : r.length ≤ 1048576 := Hm.out r (List.mem_of_getElem? hr)
      have hsucc := sum_take_succ hr
      have HC := Lib.hid (markIntS_h (c := r.length) m hown (by rw [hrl]; exact hrn) hm0 hm1)
      rw [hrl] at HC
      have Hr := Lib.hid hr
      have Hgx := Lib.hid hgx
      have HR2 := Lib.hid hR
      have Hc := Lib.hid hc
      have Hmm := Lib.hid hmm
      have Hsu := Lib.hid hsucc
      have Hrl := Lib.hid hrl
      clear hr hgx hR hc hmm hown hsucc hrl
      go_wp2_with (go_at_call 25; refine HC.out.mono ?_; rintro e w1 ⟨rfl, ho1, hc1⟩; have Ho1 := Lib.hid ho1; have Hc1 := Lib.hid hc1; clear ho1 hc1)
      go_roundw
      case rel =>
        have hxg : g < x := Hh.out.up x (List.mem_of_getElem? Hgx.out)
        have hxl : lo ≤ x := by have := Hh.out.base_; omega
        have hxh : x < hi := Hx.out x (List.mem_of_getElem? Hgx.out)
        refine ⟨j + 1, by omega, by go_num, ⟨_, by rw [Hmm.out, Hsu.out]; omega, rfl⟩, ⟨?_, fun i y q hi hq => ?_⟩, Hc.out.trans (Hc1.out.wide hxl (by omega))⟩
        · exact (Hc1.out.block g HR2.out.top.lt (by omega)).trans HR2.out.top
        · by_cases e : i = j
          · subst e
            obtain rfl := Option.some.inj (Hgx.out.symm.trans hi)
            obtain rfl := Option.some.inj (Hr.out.symm.trans hq)
            exact ⟨mkI r'.length m, by rw [mkI_len]; exact Hrl.out, by rw [Hrl.out]; exact Ho1.out⟩
          · obtain ⟨q', hql, hqo⟩ := HR2.out.row i y q hi hq
            refine ⟨q', hql, fun hpos => ?_⟩
            obtain ⟨gg, oo, cs, hA, h1, h2, hb, hcc⟩ := hqo hpos
            have hne : y ≠ x := by
              intro e2
              subst e2
              have hil : i < gs.length := (List.getElem?_eq_some_iff.1 hi).1
              have hjl : j < gs.length := (List.getElem?_eq_some_iff.1 Hgx.out).1
              have hp := List.pairwise_iff_getElem.1 Hh.out.asc
              have e3 : gs[i] = y := (List.getElem?_eq_some_iff.1 hi).2
              have e4 : gs[j] = y := (List.getElem?_eq_some_iff.1 Hgx.out).2
              rcases Nat.lt_or_gt_of_ne e with h | h
              · have := hp i j hil hjl h; omega
              · have := hp j i hjl hil h; omega
            exact ⟨gg, oo, cs, hA, h1, h2, (Hc1.out.block gg hb.lt (by omega)).trans hb, hcc⟩
      case measure => simp [intOf]; omega
    · obtain rfl : j = rows.length := by omega
      have Hc := Lib.hid hc
      have Hmm := Lib.hid hmm
      clear hR hc hmm
      go_wp2
      go_ret
      exact ⟨ret_int (by rw [Hmm.out, List.take_length]), Hc.out⟩

end Go.Proofs.Ytjhdjfobbgfpfaa
