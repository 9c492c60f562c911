/- Texts on the program and its reference, put together (PjG, PjE, VSb, VSc, PjH, PkA, PmD). -/
import Derived.Test.YtjhdjfobbgfpfaaMQY
import Derived.Test.YtjhdjfobbgfpfaaMQP
import Derived.Test.YtjhdjfobbgfpfaaMQH
import Derived.Lib.QuietBelow
import Derived.BigQuiet
import Derived.Deep.RegionHeld3
/- Contracts: pulls by the program: pulls at arguments that are not valid. -/
namespace Go.Proofs.Ytjhdjfobbgfpfaa
open Go.RowKit

set_option maxRecDepth 100000 in
set_option maxHeartbeats 6400000 in
theorem pullTimes_no {l : List Nd} {src : List (List Int)} {A : Option Addr} {c : Nat} {As : Option Addr} {ca : Nat} (k : Int) (hno : (pipeOk l && srcOk src && inR k 0 200) = false) (w : World) (hn : RdN w w.heap.size A l) (hsr : RdR w w.heap.size As src) (hnl : l.length ≤ 1048576) (hns : src.length ≤ 1048576) (hm : Hid (∀ r ∈ src, r.length ≤ 1048576)) :
    Calls Try.prog 60 #[.agg #[.slice A l.length c], .slice As src.length ca, .int .i64 k] w fun e w' => e = .returned (.agg #[.slice none 0 0, .slice none 0 0, .slice none 0 0]) ∧ Below w.heap.size w w' := by
  obtain ⟨W1, hW1⟩ : ∃ X : World, X = (w.alloc (.cells #[.slice A l.length c] 32)).alloc (.cells #[.slice none 0 0, .slice none 0 0, .slice none 0 0] 66) := ⟨_, rfl⟩
  have hb1 : Below w.heap.size w W1 := by rw [hW1]; exact below2 w _ _
  have kO : Bk W1 (w.heap.size + 1) 66 [.slice none 0 0, .slice none 0 0, .slice none 0 0] := by
    rw [hW1]
    have := Bk.new (w.alloc (.cells #[.slice A l.length c] 32)) 66 [.slice none 0 0, .slice none 0 0, .slice none 0 0]
    simpa using this
  have hvp := implValidPipe_any A c l W1 w.heap.size (hn.below hb1 (Nat.le_refl _)) hb1.size hnl
  have HW1 := Lib.hid hW1
  have Hb1 := Lib.hid hb1
  have HkO := Lib.hid kO
  have Hvp := Lib.hid hvp
  have Hsr := Lib.hid hsr
  have Hno := Lib.hid hno
  have z1 := hb1.size
  clear hW1 hb1 kO hvp hn hsr hno
  go_enter Try.func60, Try.ntmps60
  go_wp2_with fail
  rw [← HW1.out]
  refine Hvp.out.mono ?_
  rintro e w2 ⟨rfl, hb2⟩
  have hvs := implValidSources_any As ca src w2 w.heap.size (Hsr.out.below (Hb1.out.trans (hb2.mono z1)) (Nat.le_refl _)) hns hm.out
  have Hvs := Lib.hid hvs
  have Hb2 := Lib.hid (Hb1.out.trans (hb2.mono z1))
  have kO2 := HkO.out.below hb2 HkO.out.lt
  have o0 := kO2.cell 0
  have o1 := kO2.cell 1
  have o2 := kO2.cell 2
  have p0 := kO2.free 0
  have p1 := kO2.free 1
  have p2 := kO2.free 2
  have kO3 := ((kO2.set_ 0 (.slice none 0 0)).set_ 1 (.slice none 0 0)).set_ 2 (.slice none 0 0)
  have q0 := kO3.cell 0
  have q1 := kO3.cell 1
  have q2 := kO3.cell 2
  simp only [List.getElem?_cons_succ, List.getElem?_cons_zero, List.set_cons_zero, List.set_cons_succ] at o0 o1 o2 q0 q1 q2
  have olt := kO2.lt
  clear hb2 hvs kO2 kO3
  cases hv : pipeOk l with
  | false =>
    clear Hvs Hno
    go_wp2_with fail
    refine bodyPost_ret (v := .agg #[.slice none 0 0, .slice none 0 0, .slice none 0 0]) (by simp [results, Try.results60, go_sem, q0, q1, q2]) rfl ⟨rfl, ?_⟩
    exact ((Hb2.out.setCell (p := ⟨w.heap.size + 1, 0, none⟩) (by simp) _).setCell (p := ⟨w.heap.size + 1, 1, none⟩) (by simp) _).setCell (p := ⟨w.heap.size + 1, 2, none⟩) (by simp) _
  | true =>
    rw [hv] at Hno
    cases hs : srcOk src with
    | false =>
      rw [hs] at Hvs
      clear Hno
      go_wp2_with fail
      refine Hvs.out.mono ?_
      rintro e w3 ⟨rfl, rfl⟩
      go_wp2_with fail
      refine bodyPost_ret (v := .agg #[.slice none 0 0, .slice none 0 0, .slice none 0 0]) (by simp [results, Try.results60, go_sem, q0, q1, q2]) rfl ⟨rfl, ?_⟩
      exact ((Hb2.out.setCell (p := ⟨w.heap.size + 1, 0, none⟩) (by simp) _).setCell (p := ⟨w.heap.size + 1, 1, none⟩) (by simp) _).setCell (p := ⟨w.heap.size + 1, 2, none⟩) (by simp) _
    | true =>
      rw [hs] at Hvs Hno
      have hk : inR k 0 200 = false := by simpa using Hno.out
      go_wp2_with fail
      refine Hvs.out.mono ?_
      rintro e w3 ⟨rfl, rfl⟩
      go_wp2_with fail
      refine (within_any k 0 200 w2).mono ?_
      rintro e w3 ⟨rfl, rfl⟩
      rw [hk]
      go_wp2_with fail
      refine bodyPost_ret (v := .agg #[.slice none 0 0, .slice none 0 0, .slice none 0 0]) (by simp [results, Try.results60, go_sem, q0, q1, q2]) rfl ⟨rfl, ?_⟩
      exact ((Hb2.out.setCell (p := ⟨w.heap.size + 1, 0, none⟩) (by simp) _).setCell (p := ⟨w.heap.size + 1, 1, none⟩) (by simp) _).setCell (p := ⟨w.heap.size + 1, 2, none⟩) (by simp) _


end Go.Proofs.Ytjhdjfobbgfpfaa

/- Pulls one after the other are the items up to the first pull that gives none. -/
namespace Go.Proofs.Ytjhdjfobbgfpfaa
open Go.RowKit

theorem doneP_again {i : Nat} {f : PF} {s s' : PS} (hi : i < s'.cs.length) (h : doneP i f s = (s', none)) : doneP i f s' = (s', none) := by
  cases hd : (s.at_ i).d with
  | true =>
    have e := doneP_done (f := f) hd
    rw [e] at h
    obtain rfl : s = s' := (Prod.mk.inj h).1
    exact e
  | false =>
    rcases hf : f s with ⟨s2, o⟩
    cases o with
    | some v => rw [doneP_some hd hf] at h; cases (Prod.mk.inj h).2
    | none =>
      rw [doneP_none hd hf] at h
      obtain rfl := (Prod.mk.inj h).1
      have hl : i < s2.cs.length := by simpa [PS.put] using hi
      exact doneP_done (by rw [PS.at_put hl])
theorem pull_again {l : List Nd} {src : List (List Int)} (hp : PipeOk l) (hs : srcOk src = true) {fu : PS → Nat} {t : TI} (ht : IsTI l t) {s s' : PS} (ok : StOk l src s.cs) (h : pull src fu t s = (s', none)) : pull src fu t s' = (s', none) := by
  have hf := pull_fine hp hs (fu := fu) ht s ok
  rw [h] at hf
  have hlen := hf.ok.len
  cases ht with
  | leaf hx ha h1 h2 => exact doneP_again (by rw [hlen]; exact (List.getElem?_eq_some_iff.1 hx).1) h
  | stem hx ha h1 hj h2 ht => exact doneP_again (by rw [hlen]; exact (List.getElem?_eq_some_iff.1 hx).1) h
  | fork hx ha h1 hj h2 hj2 hta htb => exact doneP_again (by rw [hlen]; exact (List.getElem?_eq_some_iff.1 hx).1) h
theorem runP_snoc {l : List Nd} {src : List (List Int)} {j : Nat} {f : PF} (hF : Fine l src j f) (hA : ∀ s s', StOk l src s.cs → f s = (s', none) → f s' = (s', none)) : ∀ (k : Nat) (s : PS), StOk l src s.cs →
    runP f (k + 1) s = (match f (runP f k s).2 with
      | (s', none) => ((runP f k s).1, s')
      | (s', some v) => ((runP f k s).1 ++ [v], s'))
  | 0, s, ok => by
    rcases hf : f s with ⟨s1, o⟩
    cases o with
    | none => rw [runP_none hf]; simp only [runP]; rw [hf]
    | some v => rw [runP_some hf]; simp only [runP]; rw [hf]; rfl
  | k + 1, s, ok => by
    rcases hf : f s with ⟨s1, o⟩
    have h1 := hF s ok
    rw [hf] at h1
    cases o with
    | none =>
      rw [runP_none hf, runP_none hf]
      simp only
      rw [hA s s1 ok hf]
    | some v =>
      rw [runP_some hf, runP_some hf, runP_snoc hF hA k s1 h1.ok]
      simp only
      rcases f (runP f k s1).2 with ⟨s2, o2⟩
      cases o2 <;> rfl
theorem manyP_runP {l : List Nd} {src : List (List Int)} {j : Nat} {f : PF} (hF : Fine l src j f) (hA : ∀ s s', StOk l src s.cs → f s = (s', none) → f s' = (s', none)) {s : PS} (ok : StOk l src s.cs) : ∀ k, manyP f s k = runP f k s
  | 0 => rfl
  | k + 1 => by rw [runP_snoc hF hA k s ok, ← manyP_runP hF hA ok k]; rfl

end Go.Proofs.Ytjhdjfobbgfpfaa

/- Contracts: whether a state is one of a pipe and sources (the reference). -/
namespace Go.Proofs.Ytjhdjfobbgfpfaa
open Go.RowKit Go.Sort

end Go.Proofs.Ytjhdjfobbgfpfaa

/- Contracts: whether a state is one of a pipe and sources (the reference's and the program's doors). -/
namespace Go.Proofs.Ytjhdjfobbgfpfaa
open Go.RowKit Go.Sort

set_option maxHeartbeats 1600000 in
theorem specvalidInput_any (A0 : Option Addr) (c0 : Nat) (l : List Nd) (As : Option Addr) (ca : Nat) (src : List (List Int)) (w : World) (B : Nat) (h0 : RdN w B A0 l) (hs : RdR w B As src) (hB : B ≤ w.heap.size) (hn0 : l.length ≤ 1048576) (hns : src.length ≤ 1048576) (hm : Hid (∀ r ∈ src, r.length ≤ 1048576)) :
    Calls Try.prog 67 #[.agg #[.slice A0 l.length c0], .slice As src.length ca] w fun e w' => e = .returned (.bool (pipeOk l && srcOk src)) ∧ Below w.heap.size w w' := by
  obtain ⟨W0, hW0⟩ : ∃ W0 : World, W0 = w.alloc (.cells #[.slice A0 l.length c0] 32) := ⟨_, rfl⟩
  have hb0 : Below w.heap.size w W0 := by rw [hW0]; exact (Below.refl w.heap.size w).alloc (Nat.le_refl _) _
  have H0 := Lib.hid (h0.below hb0 hB)
  have S0 := Lib.hid (hs.below hb0 hB)
  have Hb0 := Lib.hid hb0
  have HW0 := Lib.hid hW0
  have hz0 := hb0.size
  clear h0 hs hb0 hW0
  cases hv : pipeOk l
  · have Hv := Lib.hid hv
    clear hv
    go_enter Try.func67, Try.ntmps67
    go_wp2_with fail
    rw [← HW0.out]
    refine (specvalidPipe_any A0 c0 l W0 B H0.out (by omega) hn0).mono ?_
    rintro e w1 ⟨rfl, hb1⟩
    rw [Hv.out]
    have Hb1 := Lib.hid hb1
    clear hb1
    go_wp2_with fail
    go_ret
    exact ⟨rfl, Hb0.out.trans (Hb1.out.mono hz0)⟩
  · have Hv := Lib.hid hv
    clear hv
    go_enter Try.func67, Try.ntmps67
    go_wp2_with fail
    rw [← HW0.out]
    refine (specvalidPipe_any A0 c0 l W0 B H0.out (by omega) hn0).mono ?_
    rintro e w1 ⟨rfl, hb1⟩
    rw [Hv.out]
    have S1 := Lib.hid (S0.out.below hb1 (by omega))
    have Hb1 := Lib.hid (Hb0.out.trans (hb1.mono hz0))
    clear hb1
    go_wp2_with fail
    refine (specvalidSources_any As ca src w1 B S1.out hns hm.out).mono ?_
    rintro e w2 ⟨rfl, rfl⟩
    go_wp2_with fail
    go_ret
    exact ⟨by simp, Hb1.out⟩

end Go.Proofs.Ytjhdjfobbgfpfaa

/- Contracts: pulls by the program: whether a pipe has ended. -/
namespace Go.Proofs.Ytjhdjfobbgfpfaa
open Go.RowKit

theorem fd_out1 (a1 a2 a3 : Option Addr) (n1 m1 n2 m2 n3 m3 : Nat) (w : World) : (Instr.field 66 (.agg #[.slice a1 n1 m1, .slice a2 n2 m2, .slice a3 n3 m3]) 1).run Try.prog w = .ok (.slice a2 n2 m2) w := by kernel_rfl
/-- Whether the pipe has ended after k pulls. -/
structure EndQ (l : List Nd) (src : List (List Int)) (k : Int) (q : Bool) : Prop where
  no : (pipeOk l && srcOk src && inR k 0 200) = false → q = false
  yes : (pipeOk l && srcOk src && inR k 0 200) = true → ∃ t, IsTI l t ∧ t.ix + 1 = l.length ∧ q = ((runP (pull src (fun s => s.M l src + 1) t) k.toNat (newPS l.length)).2.at_ t.ix).d
theorem EndQ.ex (l : List Nd) (src : List (List Int)) (k : Int) : ∃ q, EndQ l src k q := by
  cases hv : (pipeOk l && srcOk src && inR k 0 200) with
  | false => exact ⟨false, fun _ => rfl, fun h => absurd (hv.symm.trans h) (by decide)⟩
  | true =>
    have hv2 := hv
    simp only [Bool.and_eq_true] at hv2
    have hlow := low_of hv2.1.1
    obtain ⟨T, hT⟩ := IsTree.ex (pipeOk_iff.1 hv2.1.1) l.length (l.length - 1) (by omega) (by omega)
    obtain ⟨t, ht, hti, _⟩ := hT.ti
    exact ⟨_, fun h => absurd (hv.symm.trans h) (by decide), fun _ => ⟨t, ht, by omega, rfl⟩⟩


set_option maxRecDepth 100000 in
set_option maxHeartbeats 6400000 in
theorem implIsEnded_any {l : List Nd} {src : List (List Int)} {A : Option Addr} {c : Nat} {As : Option Addr} {ca : Nat} (k : Int) (q : Bool) (hq : Hid (EndQ l src k q)) (w : World) (hn : RdN w w.heap.size A l) (hsr : RdR w w.heap.size As src) (hnl : l.length ≤ 1048576) (hns : src.length ≤ 1048576) (hm : Hid (∀ r ∈ src, r.length ≤ 1048576)) :
    Calls Try.prog 40 #[.agg #[.slice A l.length c], .slice As src.length ca, .int .i64 k] w fun e w' => e = .returned (.bool q) ∧ Below w.heap.size w w' := by
  have hfd := fd_out1
  obtain ⟨W1, hW1⟩ : ∃ X : World, X = w.alloc (.cells #[.slice A l.length c] 32) := ⟨_, rfl⟩
  have hb1 : Below w.heap.size w W1 := by rw [hW1]; exact below1 w _
  have z1 := hb1.size
  have hn1 : RdN W1 W1.heap.size A l := (hn.below hb1 (Nat.le_refl _)).more z1
  have hr1 : RdR W1 W1.heap.size As src := (hsr.below hb1 (Nat.le_refl _)).more z1
  have Hn := Lib.hid hn1
  have Hsr := Lib.hid hr1
  have HW1 := Lib.hid hW1
  have Hb1 := Lib.hid hb1
  clear hn hsr hn1 hr1 hW1 hb1
  cases hv : (pipeOk l && srcOk src && inR k 0 200) with
  | false =>
    obtain rfl := hq.out.no hv
    have Hv := Lib.hid hv
    clear hv
    go_enter Try.func40, Try.ntmps40
    go_wp2_with fail
    rw [← HW1.out]
    refine (pullTimes_no k Hv.out W1 Hn.out Hsr.out hnl hns hm).mono ?_
    rintro e w2 ⟨rfl, hb2⟩
    have Hb2 := Lib.hid (Hb1.out.trans (hb2.mono z1))
    clear hb2
    go_wp2_with fail
    refine bodyPost_ret (v := .bool false) (by simp [results, Try.results40, go_sem]) rfl ⟨rfl, Hb2.out⟩
  | true =>
    have hyes := hq.out.yes hv
    simp only [Bool.and_eq_true] at hv
    obtain ⟨⟨hp, hs⟩, hk⟩ := hv
    obtain ⟨kn, rfl⟩ : ∃ kn : Nat, k = (kn : Int) := ⟨k.toNat, by simp [inR] at hk; omega⟩
    have hkn : kn ≤ 200 := by simp [inR] at hk; omega
    have h3 := (src_rows hs).1
    have hhigh := high_of hp
    obtain ⟨t, ht, hix, hqt⟩ := hyes
    have hcall := pullTimes_any (c := c) (ca := ca) (pipeOk_iff.1 hp) hp hs h3 hhigh ht hix (newPS_ok (pipeOk_iff.1 hp)) (newPS_W hs hhigh) kn hkn W1 Hn.out Hsr.out
    have hln : IntKind.i64.wrap ((l.length : Int) - 1) = (t.ix : Int) := by rw [IntWalk.i64_in _ (by omega)]; omega
    have hpos : (0 : Int) < (l.length : Int) := by omega
    rw [h3]
    have Hcall := Lib.hid hcall
    have Hq := Lib.hid hqt
    have Hln := Lib.hid hln
    have Hix := Lib.hid hix
    clear hp hs hk h3 ht hix hqt hcall hq hln
    go_enter Try.func40, Try.ntmps40
    go_wp2_with fail
    rw [← HW1.out]
    refine Hcall.out.mono ?_
    rintro e w2 ⟨rb, cb, fe, pre, s, R, cR, Rp, cp, rfl, hrun, iw, hbk, hog, how, hok, hb2⟩
    have hls : t.ix < s.cs.length := by rw [hok.len]; have := Hix.out; omega
    have hcl := (RS.cl iw (i := t.ix) hls).c5
    rw [Int.toNat_natCast, hrun] at Hq
    have e1 : q = (s.at_ t.ix).d := Hq.out
    rw [← e1] at hcl
    have Hb2 := Lib.hid (Hb1.out.trans (hb2.mono z1))
    have hln := Hln.out
    have i0 : (0 : Int) ≤ (t.ix : Int) := by omega
    have i1 : (t.ix : Int) < (l.length : Int) := by have := Hix.out; omega
    clear hrun iw hbk hog how hok hb2 e1 Hq hls
    go_wp2_with fail
    refine bodyPost_ret (v := .bool q) (by simp [results, Try.results40, go_sem]) rfl ⟨rfl, Hb2.out⟩

set_option maxRecDepth 100000 in
set_option maxHeartbeats 6400000 in
theorem specvalidPulls_any {l : List Nd} {src : List (List Int)} {A : Option Addr} {c : Nat} {As : Option Addr} {ca : Nat} (k : Int) (w : World) (hn : RdN w w.heap.size A l) (hsr : RdR w w.heap.size As src) (hnl : l.length ≤ 1048576) (hns : src.length ≤ 1048576) (hm : Hid (∀ r ∈ src, r.length ≤ 1048576)) :
    Calls Try.prog 57 #[.agg #[.slice A l.length c], .slice As src.length ca, .int .i64 k] w fun e w' => e = .returned (.bool (pipeOk l && srcOk src && inR k 0 200)) ∧ Below w.heap.size w w' := by
  obtain ⟨W1, hW1⟩ : ∃ X : World, X = w.alloc (.cells #[.slice A l.length c] 32) := ⟨_, rfl⟩
  have hb1 : Below w.heap.size w W1 := by rw [hW1]; exact below1 w _
  have z1 := hb1.size
  have hcall := specvalidInput_any A c l As ca src W1 W1.heap.size ((hn.below hb1 (Nat.le_refl _)).more z1) ((hsr.below hb1 (Nat.le_refl _)).more z1) (Nat.le_refl _) hnl hns hm
  have HW1 := Lib.hid hW1
  have Hb1 := Lib.hid hb1
  have Hcall := Lib.hid hcall
  clear hn hsr hW1 hb1 hcall
  go_enter Try.func57, Try.ntmps57
  go_wp2_with fail
  rw [← HW1.out]
  refine Hcall.out.mono ?_
  rintro e w2 ⟨rfl, hb2⟩
  have Hb2 := Lib.hid (Hb1.out.trans (hb2.mono z1))
  clear hb2
  cases hv : (pipeOk l && srcOk src) with
  | false =>
    have Hv := Lib.hid hv
    clear hv
    go_wp2_with fail
    refine bodyPost_ret (v := .bool false) (by simp [results, Try.results57, go_sem]) rfl ⟨by simp [Hv.out], Hb2.out⟩
  | true =>
    have Hv := Lib.hid hv
    clear hv
    go_wp2_with fail
    refine (specInR_any k 0 200 w2).mono ?_
    rintro e w3 ⟨rfl, rfl⟩
    go_wp2_with fail
    refine bodyPost_ret (v := .bool (inR k 0 200)) (by simp [results, Try.results57, go_sem]) rfl ⟨by simp [Hv.out], Hb2.out⟩

set_option maxRecDepth 100000 in
set_option maxHeartbeats 6400000 in
theorem specIsEnded_any {l : List Nd} {src : List (List Int)} {A : Option Addr} {c : Nat} {As : Option Addr} {ca : Nat} (k : Int) (q : Bool) (hq : Hid (EndQ l src k q)) (w : World) (hn : RdN w w.heap.size A l) (hsr : RdR w w.heap.size As src) (hnl : l.length ≤ 1048576) (hns : src.length ≤ 1048576) (hm : Hid (∀ r ∈ src, r.length ≤ 1048576)) :
    Calls Try.prog 39 #[.agg #[.slice A l.length c], .slice As src.length ca, .int .i64 k] w fun e w' => e = .returned (.bool q) ∧ Below w.heap.size w w' := by
  obtain ⟨W1, hW1⟩ : ∃ X : World, X = w.alloc (.cells #[.slice A l.length c] 32) := ⟨_, rfl⟩
  have hb1 : Below w.heap.size w W1 := by rw [hW1]; exact below1 w _
  have kE : Bk W1 w.heap.size 32 [.slice A l.length c] := by rw [hW1]; exact Bk.new _ _ [_]
  have z1 := hb1.size
  have hn1 : RdN W1 W1.heap.size A l := (hn.below hb1 (Nat.le_refl _)).more z1
  have hr1 : RdR W1 W1.heap.size As src := (hsr.below hb1 (Nat.le_refl _)).more z1
  have hcall := specvalidPulls_any (c := c) (ca := ca) k W1 hn1 hr1 hnl hns hm
  have Hn := Lib.hid hn1
  have Hsr := Lib.hid hr1
  have HW1 := Lib.hid hW1
  have Hb1 := Lib.hid hb1
  have HkE := Lib.hid kE
  clear hn hsr hn1 hr1 hW1 hb1 kE
  cases hv : (pipeOk l && srcOk src && inR k 0 200) with
  | false =>
    obtain rfl := hq.out.no hv
    rw [hv] at hcall
    have Hcall := Lib.hid hcall
    clear hv hcall
    go_enter Try.func39, Try.ntmps39
    go_wp2_with fail
    rw [← HW1.out]
    refine Hcall.out.mono ?_
    rintro e w2 ⟨rfl, hb2⟩
    have Hb2 := Lib.hid (Hb1.out.trans (hb2.mono z1))
    clear hb2
    go_wp2_with fail
    refine bodyPost_ret (v := .bool false) (by simp [results, Try.results39, go_sem]) rfl ⟨rfl, Hb2.out⟩
  | true =>
    have hyes := hq.out.yes hv
    rw [hv] at hcall
    simp only [Bool.and_eq_true] at hv
    obtain ⟨⟨hp, hs⟩, hk⟩ := hv
    obtain ⟨kn, rfl⟩ : ∃ kn : Nat, k = (kn : Int) := ⟨k.toNat, by simp [inR] at hk; omega⟩
    have hkn : kn ≤ 200 := by simp [inR] at hk; omega
    have h3 := (src_rows hs).1
    have hhigh := high_of hp
    obtain ⟨t, ht, hix, hqt⟩ := hyes
    have hF := pull_fine (pipeOk_iff.1 hp) hs (fu := fun s => s.M l src + 1) ht
    have hpul := fun (W : World) (hnW : RdN W W.heap.size A l) (hsW : RdR W W.heap.size As src) => specPulled_any (c := c) (ca := ca) hhigh hF (fun pb cb n0 => NextOk.of (pipeOk_iff.1 hp) hs hhigh ht) hix (newPS_ok (pipeOk_iff.1 hp)) (newPS_W hs hhigh) kn hkn W hnW hsW
    have hmany := manyP_runP hF (fun s s' ok h => pull_again (pipeOk_iff.1 hp) hs ht ok h) (newPS_ok (pipeOk_iff.1 hp)) kn
    have hln : IntKind.i64.wrap ((l.length : Int) - 1) = (t.ix : Int) := by rw [IntWalk.i64_in _ (by omega)]; omega
    rw [h3] at hcall ⊢
    have Hcall := Lib.hid hcall
    have Hpul := Lib.hid hpul
    have Hmany := Lib.hid hmany
    have Hq := Lib.hid hqt
    have Hln := Lib.hid hln
    have Hix := Lib.hid hix
    clear hp hs hk h3 ht hix hqt hcall hq hln hF hpul hmany
    go_enter Try.func39, Try.ntmps39
    go_wp2_with fail
    rw [← HW1.out]
    refine Hcall.out.mono ?_
    rintro e w2 ⟨rfl, hb2⟩
    have Hb2 := Lib.hid (Hb1.out.trans (hb2.mono z1))
    have kE2 := HkE.out.below hb2 HkE.out.lt
    have e2 := kE2.cell 0
    simp only [List.getElem?_cons_zero] at e2
    have hz2 := hb2.size
    have hpc := Hpul.out w2 ((Hn.out.below hb2 (Nat.le_refl _)).more hz2) ((Hsr.out.below hb2 (Nat.le_refl _)).more hz2)
    have Hpc := Lib.hid hpc
    have HkE2 := Lib.hid kE2
    clear hb2 hpc kE2
    go_wp2_with fail
    refine Hpc.out.mono ?_
    rintro e w3 ⟨pb, cb, R, cR, pre, s, rfl, h⟩
    have hls : t.ix < s.cs.length := by rw [h.ok.len]; have := Hix.out; omega
    have hcl := (RS.cl h.sw.rs (i := t.ix) hls).c5
    have he := h.e
    rw [Hmany.out] at he
    rw [Int.toNat_natCast, he] at Hq
    have e1 : q = (s.at_ t.ix).d := Hq.out
    rw [← e1] at hcl
    obtain ⟨b0, b1, b2⟩ := h.sw.bx
    have hz12 := Hb2.out.size
    have Hb3 := Lib.hid (Hb2.out.trans (h.bl.mono hz12))
    have hE3 := (HkE2.out.below h.bl HkE2.out.lt).cell 0
    simp only [List.getElem?_cons_zero] at hE3
    have hln := Hln.out
    have i0 : (0 : Int) ≤ (t.ix : Int) := by omega
    have i1 : (t.ix : Int) < (l.length : Int) := by have := Hix.out; omega
    clear he e1 Hq hls h e2
    go_wp2_with fail
    go_region_held3 (fun w' => w'.cell? ⟨pb, 2, none⟩ = some (.slice (some ⟨cb, 0, none⟩) l.length l.length) ∧ w'.cell? ⟨w.heap.size, 0, none⟩ = some (.slice A l.length c) ∧ w'.cell? ⟨cb, t.ix * 6 + 5, none⟩ = some (.bool q)) (first | exact ⟨b2, hE3, hcl⟩ | go_keep) (fail)
    go_wp2_with fail
    refine bodyPost_ret (v := .bool q) (by simp [results, Try.results39, go_sem]) rfl ⟨rfl, Hb3.out.drew⟩


theorem implIsEnded_l {A : Option Addr} {c : Nat} (l : List Nd) {As : Option Addr} {ca : Nat} (src : List (List Int)) (k : Int) (w : World) (B : Nat) (q : Bool) (hq : Hid (EndQ l src k q)) (hn : RdN w B A l) (hsr : RdR w B As src) (hB : B ≤ w.heap.size) (hnl : l.length ≤ 1048576) (hns : src.length ≤ 1048576) (hm : Hid (∀ r ∈ src, r.length ≤ 1048576)) :
    Calls Try.prog 40 #[.agg #[.slice A l.length c], .slice As src.length ca, .int .i64 k] w fun e w' => e = .returned (.bool q) ∧ Below w.heap.size w w' := implIsEnded_any k q hq w (hn.more hB) (hsr.more hB) hnl hns hm
theorem specIsEnded_l {A : Option Addr} {c : Nat} (l : List Nd) {As : Option Addr} {ca : Nat} (src : List (List Int)) (k : Int) (w : World) (B : Nat) (q : Bool) (hq : Hid (EndQ l src k q)) (hn : RdN w B A l) (hsr : RdR w B As src) (hB : B ≤ w.heap.size) (hnl : l.length ≤ 1048576) (hns : src.length ≤ 1048576) (hm : Hid (∀ r ∈ src, r.length ≤ 1048576)) :
    Calls Try.prog 39 #[.agg #[.slice A l.length c], .slice As src.length ca, .int .i64 k] w fun e w' => e = .returned (.bool q) ∧ Below w.heap.size w w' := specIsEnded_any k q hq w (hn.more hB) (hsr.more hB) hnl hns hm

end Go.Proofs.Ytjhdjfobbgfpfaa

/- Contracts: pulls by the program: what k pulls leave. -/
namespace Go.Proofs.Ytjhdjfobbgfpfaa
open Go.RowKit

/-- What k pulls leave: their items, the cells and the pulls; nothing where the arguments are not valid. -/
structure OutQ (l : List Nd) (src : List (List Int)) (k : Int) (pre : List Int) (s : PS) : Prop where
  no : (pipeOk l && srcOk src && inR k 0 200) = false → pre = [] ∧ s = ⟨[], []⟩
  yes : (pipeOk l && srcOk src && inR k 0 200) = true → ∃ t, IsTI l t ∧ t.ix + 1 = l.length ∧ runP (pull src (fun s => s.M l src + 1) t) k.toNat (newPS l.length) = (pre, s)
theorem OutQ.ex (l : List Nd) (src : List (List Int)) (k : Int) : ∃ pre s, OutQ l src k pre s := by
  cases hv : (pipeOk l && srcOk src && inR k 0 200) with
  | false => exact ⟨[], ⟨[], []⟩, fun _ => ⟨rfl, rfl⟩, fun h => absurd (hv.symm.trans h) (by decide)⟩
  | true =>
    have hv2 := hv
    simp only [Bool.and_eq_true] at hv2
    have hlow := low_of hv2.1.1
    obtain ⟨T, hT⟩ := IsTree.ex (pipeOk_iff.1 hv2.1.1) l.length (l.length - 1) (by omega) (by omega)
    obtain ⟨t, ht, hti, _⟩ := hT.ti
    exact ⟨_, _, fun h => absurd (hv.symm.trans h) (by decide), fun _ => ⟨t, ht, by omega, rfl⟩⟩
/-- What runs keep. -/
structure RunFine (l : List Nd) (src : List (List Int)) (k : Nat) (s : PS) (r : List Int × PS) : Prop where
  ok : StOk l src r.2.cs
  len : r.1.length ≤ k
  wle : r.2.lg.length + r.2.W l src ≤ s.lg.length + s.W l src
  mle : r.2.M l src + r.1.length ≤ s.M l src
  item : ∀ v ∈ r.1, 0 ≤ v ∧ v ≤ 99
theorem runP_fine {l : List Nd} {src : List (List Int)} {j : Nat} {f : PF} (hF : Fine l src j f) : ∀ (k : Nat) (s : PS), StOk l src s.cs → RunFine l src k s (runP f k s)
  | 0, s, ok => ⟨ok, Nat.le_refl _, Nat.le_refl _, Nat.le_refl _, fun v hv => by simp [runP] at hv⟩
  | k + 1, s, ok => by
    rcases hf : f s with ⟨s1, o⟩
    have h1 := hF s ok
    rw [hf] at h1
    cases o with
    | none =>
      rw [runP_none hf]
      have hm := h1.mle
      exact ⟨h1.ok, by simp, h1.wle, by simp at hm ⊢; exact hm, fun v hv => by simp at hv⟩
    | some v =>
      rw [runP_some hf]
      have ih := runP_fine hF k s1 h1.ok
      have hm := h1.mle
      have hw := h1.wle
      have im := ih.mle
      have iw := ih.wle
      simp only [Option.isSome_some, if_true] at hm
      refine ⟨ih.ok, by have := ih.len; simp; omega, by simp only at hw ⊢; omega, by simp only [List.length_cons] at im ⊢; omega, fun u hu => ?_⟩
      rcases List.mem_cons.1 hu with rfl | hu
      · exact h1.item _ rfl
      · exact ih.item u hu
theorem OutQ.fine {l : List Nd} {src : List (List Int)} {k : Int} {pre : List Int} {s : PS} (h : OutQ l src k pre s) (hv : (pipeOk l && srcOk src && inR k 0 200) = true) : RunFine l src k.toNat (newPS l.length) (pre, s) := by
  obtain ⟨t, ht, _, hr⟩ := h.yes hv
  simp only [Bool.and_eq_true] at hv
  rw [← hr]
  exact runP_fine (pull_fine (pipeOk_iff.1 hv.1.1) hv.1.2 ht) _ _ (newPS_ok (pipeOk_iff.1 hv.1.1))
theorem OutQ.sizes {l : List Nd} {src : List (List Int)} {k : Int} {pre : List Int} {s : PS} (h : OutQ l src k pre s) : pre.length ≤ 200 ∧ s.cs.length ≤ 12 ∧ s.lg.length ≤ 65536 := by
  cases hv : (pipeOk l && srcOk src && inR k 0 200) with
  | false => obtain ⟨rfl, rfl⟩ := h.no hv; simp
  | true =>
    have hf := h.fine hv
    simp only [Bool.and_eq_true] at hv
    have hk : k.toNat ≤ 200 := by have := hv.2; simp [inR] at this; omega
    have h1 := hf.len
    have h2 := hf.ok.len
    have h3 := hf.wle
    have h4 := newPS_W (l := l) hv.1.2 (high_of hv.1.1)
    have h5 := high_of hv.1.1
    simp only [newPS, List.length_nil] at h1 h2 h3 h4
    exact ⟨by omega, by omega, by omega⟩
/-- The items of k pulls. -/
def FirstQ (l : List Nd) (src : List (List Int)) (k : Int) (q : List Int) : Prop := ∃ s, OutQ l src k q s
/-- The cells after k pulls. -/
def StQ (l : List Nd) (src : List (List Int)) (k : Int) (q : List Cl) : Prop := ∃ pre s, OutQ l src k pre s ∧ q = s.cs
/-- The pulls of k pulls. -/
def LogQ (l : List Nd) (src : List (List Int)) (k : Int) (q : List Pl) : Prop := ∃ pre s, OutQ l src k pre s ∧ q = s.lg

/-- The cells of a run as memory of the call's own. -/
theorem RS.ownCl {n0 pb cb : Nat} {T : TypeId} {hd tl : List Value} {s : PS} {w : World} (h : RS n0 pb cb T hd tl s w) : OwnCl w n0 w.heap.size (some ⟨cb, 0, none⟩) s.cs := fun _ => by
  obtain ⟨cs, hc, hcs⟩ := h.cells
  exact ⟨cb, 0, cs, rfl, h.loc, hc.lt, hc, fun k x hx => by rw [Nat.zero_add]; exact hcs k x hx⟩
/-- The pulls of a run as memory of the call's own. -/
theorem OwnG.ownPl {w : World} {base c : Nat} {R : Option Addr} {l : List Pl} (h : OwnG w base R c l) : OwnPl w base w.heap.size R l := fun hl => by
  obtain ⟨h1, ⟨_, h0⟩ | ⟨g, cap, cur, hv, hb, hh, hn, _, _, ht⟩⟩ := h
  · omega
  · injection hv with hA _ hc
    subst hc
    refine ⟨g, 0, cur.toList, hA, hb, lt_of_block hh, by unfold Bk; simpa using hh, fun k x hx => ?_⟩
    have hk : k < l.length := (List.getElem?_eq_some_iff.1 hx).1
    obtain ⟨p0, p1⟩ := pls_at hx
    have e : ∀ j, j < l.length * 2 → cur.toList[j]? = (pls l)[j]? := fun j hj => by rw [← ht, List.getElem?_take_of_lt (by omega)]
    exact ⟨by rw [Nat.zero_add, e _ (by omega)]; exact p0, by rw [Nat.zero_add, e _ (by omega)]; exact p1⟩

end Go.Proofs.Ytjhdjfobbgfpfaa

/- Plain mathematics: pulls only add to the pulls so far, and what they add are pulls at the sources. -/
namespace Go.Proofs.Ytjhdjfobbgfpfaa
open Go.RowKit

/-- A pull at one of the three sources, that gives one of its items or none. -/
def GoodPl (src : List (List Int)) (p : Pl) : Prop := (0 ≤ p.s ∧ p.s < 3) ∧ -1 ≤ p.i ∧ p.i < ((src.getD p.s.toNat []).length : Int)
/-- The counts of the sources' nodes are in their lists. -/
def SInv (l : List Nd) (src : List (List Int)) (s : PS) : Prop := ∀ (j : Nat) (y : Nd), l[j]? = some y → y.k = 0 → j < s.cs.length ∧ 0 ≤ (s.at_ j).n ∧ (s.at_ j).n ≤ ((src.getD y.n.toNat []).length : Int)
def Grow (l : List Nd) (src : List (List Int)) (s s' : PS) : Prop := SInv l src s → SInv l src s' ∧ ∃ more, s'.lg = s.lg ++ more ∧ ∀ p ∈ more, GoodPl src p
def GrowF (l : List Nd) (src : List (List Int)) (f : PF) : Prop := ∀ s, Grow l src s (f s).1

section
variable {l : List Nd} {src : List (List Int)} {i : Nat} {x : Nd} {f fa fb : PF} {s s' s'' : PS}
theorem Grow.refl (s : PS) : Grow l src s s := fun h => ⟨h, [], by simp, fun _ h => by cases h⟩
theorem Grow.trans (h : Grow l src s s') (k : Grow l src s' s'') : Grow l src s s'' := fun hs => by
  obtain ⟨h1, m1, e1, g1⟩ := h hs
  obtain ⟨h2, m2, e2, g2⟩ := k h1
  exact ⟨h2, m1 ++ m2, by rw [e2, e1, List.append_assoc], fun p hp => (List.mem_append.1 hp).elim (g1 p) (g2 p)⟩
theorem Grow.put (hx : l[i]? = some x) (hk : x.k ≠ 0) (c : Cl) (s : PS) : Grow l src s (s.put i c) := fun h => by
  refine ⟨fun j y hy hy0 => ?_, [], by simp [PS.put], fun _ h => by cases h⟩
  have hne : i ≠ j := fun e => by subst e; obtain rfl := Option.some.inj (hx.symm.trans hy); exact hk hy0
  obtain ⟨h1, h2⟩ := h j y hy hy0
  exact ⟨by simpa [PS.put] using h1, by rw [PS.at_put_ne hne]; exact h2⟩
theorem doneP_grow (hx : l[i]? = some x) (hk : x.k ≠ 0) (hf : GrowF l src f) : GrowF l src (doneP i f) := fun s => by
  unfold doneP
  split
  · exact Grow.refl s
  · have h := hf s
    rcases hfs : f s with ⟨s2, o⟩
    rw [hfs] at h
    cases o with
    | none => exact h.trans (Grow.put hx hk _ _)
    | some v => exact h
theorem leaf_grow (hn : numsOk x = true) (hx : l[i]? = some x) (hk : x.k = 0) : GrowF l src (doneP i (srcP src i x)) := fun s => by
  have hs3 : 0 ≤ x.n ∧ x.n < 3 := by
    unfold numsOk at hn
    rw [if_pos (by simp [hk])] at hn
    have := inR_iff.1 (Bool.and_eq_true_iff.1 hn).1
    omega
  intro hs
  obtain ⟨hlt, h0, h1⟩ := hs i x hx hk
  unfold doneP
  split
  · exact Grow.refl s hs
  · unfold srcP
    by_cases he : (s.at_ i).n = ((src.getD x.n.toNat []).length : Int)
    · rw [if_pos he]
      refine ⟨fun j y hy hy0 => ?_, [⟨x.n, -1⟩], by simp [PS.put, PS.say], fun p hp => by simp at hp; subst hp; exact ⟨hs3, Int.le_refl _, by simp only; omega⟩⟩
      obtain ⟨k1, k2, k3⟩ := hs j y hy hy0
      refine ⟨by simpa [PS.put, PS.say] using k1, ?_⟩
      by_cases e : i = j
      · subst e
        rw [PS.at_put (by simpa [PS.say] using hlt)]
        exact ⟨k2, k3⟩
      · rw [PS.at_put_ne e]
        exact ⟨k2, k3⟩
    · rw [if_neg he]
      refine ⟨fun j y hy hy0 => ?_, [⟨x.n, (s.at_ i).n⟩], by simp [PS.put, PS.say], fun p hp => by simp at hp; subst hp; exact ⟨hs3, by simp only; omega, by simp only; omega⟩⟩
      obtain ⟨k1, k2, k3⟩ := hs j y hy hy0
      refine ⟨by simpa [PS.put, PS.say] using k1, ?_⟩
      by_cases e : i = j
      · subst e
        obtain rfl := Option.some.inj (hx.symm.trans hy)
        rw [PS.at_put (by simpa [PS.say] using hlt)]
        exact ⟨by simp only; omega, by simp only; omega⟩
      · rw [PS.at_put_ne e]
        exact ⟨k2, k3⟩
theorem chgP_grow {g : Int → Cl → Cl × Int} (hx : l[i]? = some x) (hk : x.k ≠ 0) (hf : GrowF l src f) : GrowF l src (chgP i g f) := fun s => by
  unfold chgP
  have h := hf s
  rcases hfs : f s with ⟨s2, o⟩
  rw [hfs] at h
  cases o with
  | none => exact h
  | some v => exact h.trans (Grow.put hx hk _ _)
theorem someL_grow {may : Int → Cl → Cl × Bool} (hx : l[i]? = some x) (hk : x.k ≠ 0) (hf : GrowF l src f) : ∀ n, GrowF l src (someL i may f n)
  | 0 => fun s => Grow.refl s
  | n + 1 => fun s => by
    unfold someL
    have h := hf s
    rcases hfs : f s with ⟨s2, o⟩
    rw [hfs] at h
    cases o with
    | none => exact h
    | some v =>
      have hp := h.trans (Grow.put hx hk (may v (s2.at_ i)).1 _)
      dsimp only
      split
      · exact hp
      · exact hp.trans (someL_grow hx hk hf n _)
theorem takeP_grow {n : Int} (hx : l[i]? = some x) (hk : x.k ≠ 0) (hf : GrowF l src f) : GrowF l src (takeP i n f) := fun s => by
  unfold takeP
  split
  · exact Grow.refl s
  · exact (Grow.put hx hk _ s).trans (hf _)
theorem dropL_grow {n : Int} (hx : l[i]? = some x) (hk : x.k ≠ 0) (hf : GrowF l src f) : ∀ k, GrowF l src (dropL i n f k)
  | 0 => hf
  | k + 1 => fun s => by
    unfold dropL
    split
    · have h := (Grow.put hx hk { s.at_ i with n := (s.at_ i).n + 1 } s).trans (hf _)
      rcases hfs : f (s.put i { s.at_ i with n := (s.at_ i).n + 1 }) with ⟨s2, o⟩
      rw [hfs] at h
      cases o with
      | none => exact h
      | some v => exact h.trans (dropL_grow hx hk hf k _)
    · exact hf s
theorem whileP_grow {n : Int} (hf : GrowF l src f) : GrowF l src (whileP n f) := fun s => by
  unfold whileP
  have h := hf s
  rcases hfs : f s with ⟨s2, o⟩
  rw [hfs] at h
  cases o with
  | none => exact h
  | some v =>
    dsimp only
    split
    · exact h
    · exact h
theorem batchL_grow (hf : GrowF l src f) : ∀ (k : Nat) (sum : Int) (b : Bool), GrowF l src (batchL f k sum b)
  | 0, _, _ => fun s => Grow.refl s
  | k + 1, sum, b => fun s => by
    unfold batchL
    have h := hf s
    rcases hfs : f s with ⟨s2, o⟩
    rw [hfs] at h
    cases o with
    | none => exact h
    | some v => exact h.trans (batchL_grow hf k _ _ _)
theorem chainP_grow (ha : GrowF l src fa) (hb : GrowF l src fb) : GrowF l src (chainP fa fb) := fun s => by
  unfold chainP
  have h := ha s
  rcases hfs : fa s with ⟨s2, o⟩
  rw [hfs] at h
  cases o with
  | none => exact h.trans (hb s2)
  | some v => exact h
theorem zipP_grow (ha : GrowF l src fa) (hb : GrowF l src fb) : GrowF l src (zipP fa fb) := fun s => by
  unfold zipP
  have h := ha s
  rcases hfs : fa s with ⟨s2, o⟩
  rw [hfs] at h
  cases o with
  | none => exact h
  | some v =>
    have h2 := h.trans (hb s2)
    dsimp only
    rcases hfs2 : fb s2 with ⟨s3, o3⟩
    rw [hfs2] at h2
    cases o3 with
    | none => exact h2
    | some y => exact h2
theorem turnP_grow (hx : l[i]? = some x) (hk : x.k ≠ 0) (ha : GrowF l src fa) (hb : GrowF l src fb) : GrowF l src (turnP i fa fb) := fun s => by
  unfold turnP
  split
  · exact (Grow.put hx hk _ s).trans (chainP_grow hb ha _)
  · exact (Grow.put hx hk _ s).trans (chainP_grow ha hb _)
theorem fetchL_grow (hx : l[i]? = some x) (hk : x.k ≠ 0) (ha : GrowF l src fa) (s : PS) : Grow l src s (fetchL i fa s) := by
  unfold fetchL
  split
  · exact Grow.refl s
  · exact (ha s).trans (Grow.put hx hk _ _)
theorem fetchR_grow (hx : l[i]? = some x) (hk : x.k ≠ 0) (ha : GrowF l src fa) (s : PS) : Grow l src s (fetchR i fa s) := by
  unfold fetchR
  split
  · exact Grow.refl s
  · exact (ha s).trans (Grow.put hx hk _ _)
theorem mergeP_grow (hx : l[i]? = some x) (hk : x.k ≠ 0) (ha : GrowF l src fa) (hb : GrowF l src fb) : GrowF l src (mergeP i fa fb) := fun s => by
  unfold mergeP pickP
  have h := (fetchL_grow hx hk ha s).trans (fetchR_grow hx hk hb _)
  split
  · exact h.trans (Grow.put hx hk _ _)
  · exact h.trans (Grow.put hx hk _ _)
theorem stemP_grow {fu : PS → Nat} (hx : l[i]? = some x) (hk : x.k ≠ 0) (hf : GrowF l src f) : GrowF l src (stemP fu i x f) := by
  unfold stemP
  split
  · exact chgP_grow hx hk hf
  split
  · exact fun s => someL_grow hx hk hf _ s
  split
  · exact takeP_grow hx hk hf
  split
  · exact fun s => dropL_grow hx hk hf _ s
  split
  · exact whileP_grow hf
  split
  · exact fun s => someL_grow hx hk hf _ s
  split
  · exact chgP_grow hx hk hf
  split
  · exact batchL_grow hf _ _ _
  · exact fun s => someL_grow hx hk hf _ s
theorem forkP_grow (hx : l[i]? = some x) (hk : x.k ≠ 0) (ha : GrowF l src fa) (hb : GrowF l src fb) : GrowF l src (forkP i x fa fb) := by
  unfold forkP
  split
  · exact chainP_grow ha hb
  split
  · exact zipP_grow ha hb
  split
  · exact mergeP_grow hx hk ha hb
  · exact turnP_grow hx hk ha hb
theorem arity_ne {k n : Int} (h : arity k = n) (hn : n ≠ 0) : k ≠ 0 := fun e => by subst e; exact hn (by rw [← h]; rfl)
theorem pull_grow (hp : PipeOk l) {fu : PS → Nat} {t : TI} (ht : IsTI l t) : GrowF l src (pull src fu t) := by
  induction ht with
  | leaf hx ha _ _ =>
    have h1 := hp.node _ _ hx
    simp only [nodeOk, Bool.and_eq_true] at h1
    exact leaf_grow h1.1 hx (arity_zero ha)
  | stem hx ha _ _ _ _ ih => exact doneP_grow hx (arity_ne ha (by decide)) (stemP_grow hx (arity_ne ha (by decide)) ih)
  | fork hx ha _ _ _ _ _ _ iha ihb => exact doneP_grow hx (arity_ne ha (by decide)) (forkP_grow hx (arity_ne ha (by decide)) iha ihb)
theorem runP_grow (hf : GrowF l src f) : ∀ (k : Nat) (s : PS), Grow l src s (runP f k s).2
  | 0, s => Grow.refl s
  | k + 1, s => by
    have h := hf s
    rcases hfs : f s with ⟨s2, o⟩
    rw [hfs] at h
    cases o with
    | none => rw [runP_none hfs]; exact h
    | some v => rw [runP_some hfs]; exact h.trans (runP_grow hf k s2)
end
theorem newPS_sinv {l : List Nd} {src : List (List Int)} : SInv l src (newPS l.length) := fun j y hy _ => by
  have hj := (List.getElem?_eq_some_iff.1 hy).1
  have e : (newPS l.length).at_ j = zeroCl := PS.at_of (by simp [newPS, hj])
  exact ⟨by simpa [newPS] using hj, by rw [e]; exact Int.le_refl _, by rw [e]; exact Int.natCast_nonneg _⟩
/-- All pulls of k pulls are good. -/
theorem OutQ.good {l : List Nd} {src : List (List Int)} {k : Int} {pre : List Int} {s : PS} (h : OutQ l src k pre s) : ∀ p ∈ s.lg, GoodPl src p := by
  cases hv : (pipeOk l && srcOk src && inR k 0 200) with
  | false => obtain ⟨_, rfl⟩ := h.no hv; intro p hp; cases hp
  | true =>
    obtain ⟨t, ht, _, hr⟩ := h.yes hv
    simp only [Bool.and_eq_true] at hv
    have hg := runP_grow (src := src) (pull_grow (fu := fun s => s.M l src + 1) (pipeOk_iff.1 hv.1.1) ht) k.toNat (newPS l.length) newPS_sinv
    rw [hr] at hg
    obtain ⟨_, more, e, hm⟩ := hg
    simp only [newPS, List.nil_append] at e
    rw [e]
    exact hm

end Go.Proofs.Ytjhdjfobbgfpfaa
