/- Texts on the program and its reference, put together (PwH, PwI, PtC, PtD). -/
import Derived.Test.YthfniffecceldaaMq5S
import Derived.Deep.RegionHeld3
import Derived.TacticsInMore
import Derived.LoopNIn
import Derived.Test.YthfniffecceldaaMq5K
import Derived.Test.YthfniffecceldaaMq5Q
import Derived.Test.YthfniffecceldaaMq5R
/- Contracts: pulls by the program: costs: k watched pulls. -/
namespace Go.Proofs.Ythfniffecceldaa
open Go.RowKit Go.Shelf

attribute [local go_sem] Oper.semAt_some

/-- A watched end after k pulls. -/
def WatK (n0 : Nat) (l : List Nd) (src : List (List Int)) (f : PF) (k : Nat) (wb : Nat) (W' : World) : Prop :=
  ∃ n1 rb cb gb hb eb fe w1 pre s, n0 ≤ n1 ∧ runP f k (newPS l.length) = (pre, s) ∧ Wat n1 rb cb l.length l src w1 wb gb hb eb fe s W'
section
variable {n0 rb cb N wb gb hb eb : Nat} {l : List Nd} {src : List (List Int)} {w1 w w' : World} {fe : Value} {s : PS}
theorem FP.below (h : FP n0 rb cb wb gb hb eb w w') (h1 : n0 ≤ rb) (h2 : n0 ≤ cb) (h3 : n0 ≤ wb) (h4 : n0 ≤ gb) (h5 : n0 ≤ hb) (h6 : n0 ≤ eb) (hz : n0 ≤ w.heap.size) : Below n0 w w' :=
  ⟨h.os, h.tape, h.output, h.size, fun b hb' => h.block b (by omega) (by omega) (by omega) (by omega) (by omega) (by omega) (by omega) (.inl hb')⟩
theorem FP.far_obj (h : FP n0 rb cb wb gb hb eb w w') {D : Nat} {o : Obj} (hD : w.heap[D]? = some o) (hc : o.isCells = false) (h1 : D ≠ rb) (h2 : D ≠ cb) (h3 : D ≠ wb) (h4 : D ≠ gb) (h5 : D ≠ hb) (h6 : D ≠ eb) : w'.heap[D]? = w.heap[D]? :=
  h.block D (Array.getElem?_eq_some_iff.1 hD).1 h1 h2 h3 h4 h5 h6 (.inr fun ⟨cs, fr, hp⟩ => by rw [hD] at hp; cases hp; cases hc)
theorem Wat.put_obj (h : Wat n0 rb cb N l src w1 wb gb hb eb fe s w) {lr : Nat} (hl : ∃ q : Obj, w.heap[lr]? = some q ∧ q.isCells = false) (hlr : w1.heap.size ≤ lr) (ob : Obj) : Wat n0 rb cb N l src w1 wb gb hb eb fe s (w.putObj lr ob) := by
  have pk : ∀ {g' : Nat} {t' : TypeId} {cs : List Value}, Bk w g' t' cs → Bk (w.putObj lr ob) g' t' cs := fun hb' => (World.putObj_heap_other (fun e => by
    subst e
    obtain ⟨q, hq, hqc⟩ := hl
    unfold Bk at hb'
    rw [hb'] at hq
    cases hq
    cases hqc)).trans hb'
  exact ⟨⟨h.fr.os, h.fr.tape, h.fr.output, by rw [World.putObj_size]; exact h.fr.size, fun b hb h1 h2 h3 => (World.putObj_heap_other (by omega)).trans (h.fr.block b hb h1 h2 h3)⟩, RS.put_obj h.iw ob hl, ⟨pk h.wr.bx, pk h.wr.g, pk h.wr.h, pk h.wr.e, h.wr.ne⟩, h.ok, h.lg, h.si, h.b1, h.b2, h.b3, h.b4⟩
theorem Wat.below (h : Wat n0 rb cb N l src w1 wb gb hb eb fe s w) (hb' : Below w.heap.size w w') : Wat n0 rb cb N l src w1 wb gb hb eb fe s w' :=
  ⟨h.fr.trans (Fr.of_below hb'), RS.below h.iw hb', h.wr.below hb', h.ok, h.lg, h.si, h.b1, h.b2, h.b3, h.b4⟩
end
/-- Between two watched pulls: the two boxes of the range lie at b0. -/
structure WtJ (n0 rb cb N : Nat) (l : List Nd) (src : List (List Int)) (w1 : World) (wb gb hb eb : Nat) (fe : Value) (ws : World) (b0 k : Nat) (pre : List Int) (s : PS) (W : World) : Prop where
  wat : Wat n0 rb cb N l src w1 wb gb hb eb fe s W
  pl : Bk W b0 114 [.func (.func 74) #[.pointer (some ⟨wb, 0, none⟩)] #[]]
  num : Bk W (b0 + 1) 3 [.int .i64 k]
  bl : Below ws.heap.size ws W
  le : pre.length ≤ k
theorem Bk.putO {w : World} {g lr : Nat} {t : TypeId} {cs : List Value} (h : Bk w g t cs) (hl : ∃ q : Obj, w.heap[lr]? = some q ∧ q.isCells = false) (ob : Obj) : Bk (w.putObj lr ob) g t cs := (World.putObj_heap_other (fun e => by
    subst e
    obtain ⟨q, hq, hqc⟩ := hl
    unfold Bk at h
    rw [h] at hq
    cases hq
    cases hqc)).trans h

set_option maxRecDepth 100000 in
set_option maxHeartbeats 6400000 in
theorem watchTimes_any {l : List Nd} {src : List (List Int)} {A : Option Addr} {c : Nat} {As : Option Addr} {ca : Nat} (hp : PipeOk l) (hv : pipeOk l = true) (hs : srcOk src = true) (h3 : src.length = 3) (hl12 : l.length ≤ 12) {t : TI} (ht : IsTI l t) (hix : t.ix + 1 = l.length) (k : Nat) (hk : k ≤ 200) (w : World) (hn : RdN w w.heap.size A l) (hsr : RdR w w.heap.size As src) :
    Calls Try.prog 56 #[.agg #[.slice A l.length c], .slice As 3 ca, .int .i64 k] w fun e w' => ∃ wb, e = .returned (.pointer (some ⟨wb, 0, none⟩)) ∧ WatK w.heap.size l src (pull src (fun s => s.M l src + 1) t) k wb w' ∧ Below w.heap.size w w' := by
  obtain ⟨W1, hW1⟩ : ∃ X : World, X = w.alloc (.cells #[.slice A l.length c] 39) := ⟨_, rfl⟩
  have hb1 : Below w.heap.size w W1 := by rw [hW1]; exact below1 w _
  have z1 := hb1.size
  have hcall := watch_any (c := c) (ca := ca) hp hv hs h3 hl12 ht hix W1 ((hn.below hb1 (Nat.le_refl _)).more z1) ((hsr.below hb1 (Nat.le_refl _)).more z1)
  have hF := pull_fine hp hs (fu := fun s => s.M l src + 1) ht
  have hG := pull_grow (src := src) hp (fu := fun s => s.M l src + 1) ht
  have h12 : ∀ r ∈ src, r.length ≤ 12 := fun r hr => (src_rows hs).2 r hr
  have hik : inR (k : Int) 0 200 = true := by simp [inR]; omega
  have HW1 := Lib.hid hW1
  have Hb1 := Lib.hid hb1
  have Hcall := Lib.hid hcall
  have HF := Lib.hid hF
  have HG := Lib.hid hG
  have H12 := Lib.hid h12
  have Hik := Lib.hid hik
  clear hW1 hb1 hcall hF hG h12 hik hn hsr hp hv hs ht hix
  refine (callsIn_wide (n := 5)).1 ?_
  refine callsIn_of_wp_marks Try.func56 rfl trivial ?_ rfl
  simp only [Try.ntmps56, List.size_toArray, List.length_cons, List.length_nil, Nat.reduceAdd, Nat.reduceSub, Array.replicate_succ, Array.replicate_zero, List.push_toArray, List.append_toArray, List.nil_append, List.cons_append]
  refine wpIn_wide.2 ?_
  go_wp2_with fail
  rw [← HW1.out]
  refine Hcall.out.mono ?_
  rintro e w2 ⟨wb, rfl, ⟨rb, cb, kf, lb, gb, hb, eb, w1, eg, pu, hwat⟩, hb2⟩
  have Heg := Lib.hid eg
  have Hpu := Lib.hid pu
  have Hwat := Lib.hid hwat
  have Hb2 := Lib.hid (Hb1.out.trans (hb2.mono z1))
  have z2 := hb2.size
  have lrb : rb < w2.heap.size := RS.ltp hwat.iw
  have lcb : cb < w2.heap.size := RS.ltc hwat.iw
  have lwb := hwat.wr.bx.lt
  have lgb := hwat.wr.g.lt
  have lhb := hwat.wr.h.lt
  have leb := hwat.wr.e.lt
  have lw1 : w1.heap.size ≤ w2.heap.size := hwat.fr.size
  have n1 : W1.heap.size ≤ rb := RS.lop hwat.iw
  have n2 : W1.heap.size ≤ cb := RS.loc hwat.iw
  have n3 := hwat.b1.1
  have n4 := hwat.b2.1
  have n5 := hwat.b3.1
  have n6 := hwat.b4.1
  clear eg pu hwat hb2
  go_wp2_with fail
  refine (within_any (k : Int) 0 200 _).mono ?_
  rintro e w2' ⟨rfl, rfl⟩
  rw [Hik.out]
  go_wp2_with fail
  refine (callsIn_wide (n := 5)).1 ?_
  refine (callsIn_wide.2 (pulledM_in _ _ (k : Int) _)).mono ?_
  rintro e w' ⟨rfl, rfl⟩
  go_wp2_with fail
  obtain ⟨W0, hW0⟩ : ∃ W0, (w2.alloc (.cells #[.func (.func 74) #[.pointer (some ⟨wb, 0, none⟩)] #[]] 114)).alloc (.cells #[.int .i64 (k : Int)] 3) = W0 := ⟨_, rfl⟩
  have hz0 : W0.heap.size = w2.heap.size + 2 := by rw [← hW0]; simp
  have hb0 : Below w2.heap.size w2 W0 := by rw [← hW0]; exact below2 _ _ _
  have k0 : Bk W0 w2.heap.size 114 [.func (.func 74) #[.pointer (some ⟨wb, 0, none⟩)] #[]] := by rw [← hW0]; exact (Bk.new w2 _ [_]).alloc _
  have k1 : Bk W0 (w2.heap.size + 1) 3 [.int .i64 (k : Int)] := by
    rw [← hW0]
    have := Bk.new (w2.alloc (.cells #[.func (.func 74) #[.pointer (some ⟨wb, 0, none⟩)] #[]] 114)) 3 [.int .i64 (k : Int)]
    simpa using this
  rw [hW0]
  clear hW0
  refine (wpIn_wide (n := 5)).1 ?_
  refine wpIn_rangeFunc_free (F := Fence.wide) (n := 5) rfl (by omega) (gf := 89) (lb := #[.pointer (some ⟨w2.heap.size + 1, 0, none⟩), .pointer (some ⟨w2.heap.size, 0, none⟩)]) rfl trivial (enters_of Try.func89 (by kernel_rfl) rfl)
    (encs := fun v : Int => #[.int .i64 v]) (fun _ => rfl)
    (fun v : Int => { tmps := #[.agg #[.slice A l.length c], .slice As 3 ca, .int .i64 (k : Int), .pointer (some ⟨w.heap.size, 0, none⟩), undef, undef, .pointer none, .pointer (some ⟨wb, 0, none⟩), .agg #[.slice A l.length c], .slice As 3 ca, .pointer (some ⟨wb, 0, none⟩), .pointer (some ⟨wb, 0, none⟩), .bool false, .bool false, .int .i64 (k : Int), .bool true, .bool false, .bool false, .pointer (some ⟨wb, 0, none⟩), .func (.func 74) #[.pointer (some ⟨wb, 0, none⟩)] #[], .int .i64 (k : Int), .func (.func 89) #[] #[.pointer (some ⟨w2.heap.size + 1, 0, none⟩), .pointer (some ⟨w2.heap.size, 0, none⟩)], .int .i64 v, undef], defers := [] }) ?assign ?iter
  case assign =>
    intro l' x W K hK
    gi_wp2
    simpa using hK
  case iter =>
    intro lr D Wd Rdy Dn hD hl hz1' hbd hr1 hkind hst hstd hyld
    rw [hz0] at hD hl hz1'
    have HY := Lib.hid hyld
    have HS := Lib.hid hst
    have HK := Lib.hid hkind
    clear hyld hst hstd hkind
    have hb0d : Below w2.heap.size w2 Wd := hb0.trans (hbd.mono hb0.size)
    refine (pulledM1_in (f := pull src (fun s => s.M l src + 1) t) 74 (.pointer (some ⟨wb, 0, none⟩)) (enters_of Try.func74 (by kernel_rfl) rfl) k (by omega) lr (w2.heap.size + 1) w2.heap.size
      (fun pre s W' => WtJ W1.heap.size rb cb l.length l src w1 wb gb hb eb (.func (.func kf) #[] lb) w w2.heap.size k pre s W' ∧ Rdy W') ?hJ ?hC ?hY (newPS l.length) Wd ?h0).mono ?done
    case hJ =>
      rintro pre s W' ⟨h, hrd⟩
      exact ⟨h.num.cell 0, h.pl.cell 0⟩
    case hC =>
      rintro pre s W' ⟨h, hrd⟩
      obtain ⟨⟨ob, hob, hoc⟩, hDd⟩ := HK.out _ hrd
      refine (wpull_any HF.out HG.out Heg.out Hpu.out H12 s W' h.wat).mono ?_
      rintro e W'' ⟨rfl, hw', hfp⟩
      refine ⟨rfl, ⟨hw', hfp.bk h.pl (by decide) (by omega) (by omega) (by omega) (by omega) (by omega) (by omega), hfp.bk h.num (by decide) (by omega) (by omega) (by omega) (by omega) (by omega) (by omega), h.bl.trans ((hfp.below (by omega) (by omega) (by omega) (by omega) (by omega) (by omega) (by have := RS.ltp h.wat.iw; omega)).mono z1), h.le⟩, ?_⟩
      exact HS.out _ _ hrd (hfp.far_obj hob hoc (by omega) (by omega) (by omega) (by omega) (by omega) (by omega)) (hfp.far_obj hDd rfl (by omega) (by omega) (by omega) (by omega) (by omega) (by omega))
    case h0 =>
      exact ⟨⟨Hwat.out.below hb0d, k0.below hbd k0.lt, k1.below hbd k1.lt, Hb2.out.trans (hb0d.mono (Nat.le_trans z1 z2)), Nat.zero_le _⟩, hr1⟩
    case hY =>
      rintro pre s2 W' v ⟨h, hrd⟩ hlt
      obtain ⟨hkl, hkD⟩ := HK.out _ hrd
      refine HY.out v W' _ hrd fun ob hob hlo hDo => ?_
      gi_wp2
      refine ⟨rfl, rfl, fun o2 ho2 hrd2 => ⟨rfl, ?_, hrd2⟩⟩
      have hkl2 : ∃ q : Obj, (W'.putObj lr ob).heap[lr]? = some q ∧ q.isCells = false := ⟨ob, hlo, hob⟩
      refine ⟨(h.wat.put_obj hkl (by omega) ob).put_obj hkl2 (by omega) o2, (h.pl.putO hkl ob).putO hkl2 o2, (h.num.putO hkl ob).putO hkl2 o2, ?_, by rw [List.length_append]; simp; omega⟩
      exact ⟨h.bl.os, h.bl.tape, h.bl.output, by rw [World.putObj_size, World.putObj_size]; exact h.bl.size, fun b hb => (World.putObj_heap_other (by omega)).trans ((World.putObj_heap_other (by omega)).trans (h.bl.block b hb))⟩
    case done =>
      rintro e W' ⟨hv, h, hrd⟩
      refine ⟨hv, .inl ⟨hrd, fun ob hob hDo => ?_⟩⟩
      obtain ⟨hkl, hkD⟩ := HK.out _ hrd
      obtain ⟨pre, hpre⟩ : ∃ pre, (runP (pull src (fun s => s.M l src + 1) t) k (newPS l.length)).1 = pre := ⟨_, rfl⟩
      obtain ⟨se, hse⟩ : ∃ se, (runP (pull src (fun s => s.M l src + 1) t) k (newPS l.length)).2 = se := ⟨_, rfl⟩
      rw [hpre, hse] at h
      have hres : runP (pull src (fun s => s.M l src + 1) t) k (newPS l.length) = (pre, se) := by rw [← hpre, ← hse]
      have watb := h.wat.put_obj hkl (by omega) ob
      have blb : Below w.heap.size w (W'.putObj lr ob) := ⟨h.bl.os, h.bl.tape, h.bl.output, by rw [World.putObj_size]; exact h.bl.size, fun b hb => (World.putObj_heap_other (by omega)).trans (h.bl.block b hb)⟩
      obtain ⟨W2, hW2⟩ : ∃ W2, W'.putObj lr ob = W2 := ⟨_, rfl⟩
      rw [hW2] at watb blb hDo ⊢
      have Hwatb := Lib.hid watb
      have Hblb := Lib.hid blb
      have Hdo := Lib.hid hDo
      have Hres := Lib.hid hres
      have HD := Lib.hid hD
      clear hl hz1' hbd hr1 hb0 hb0d k0 k1 hz0 hD hkl hkD hDo hres hW2 hpre hse h hrd hv watb blb hob
      go_wp2_with fail
      have hD := HD.out
      refine ⟨by simp, .inl ⟨_, _, rfl, run_takeDeferred (b := D) (ds := []) Hdo.out, ?_⟩⟩
      refine ⟨.pointer (some ⟨wb, 0, none⟩), by simp [results, Try.results56, go_sem], wb, rfl, ⟨W1.heap.size, rb, cb, gb, hb, eb, _, w1, pre, se, z1, Hres.out, Hwatb.out.put_obj ⟨_, Hdo.out, rfl⟩ (by omega) _⟩, ?_⟩
      exact ⟨Hblb.out.os, Hblb.out.tape, Hblb.out.output, by rw [World.putObj_size]; exact Hblb.out.size, fun b hb => (World.putObj_heap_other (by omega)).trans (Hblb.out.block b hb)⟩

end Go.Proofs.Ythfniffecceldaa

/- Contracts: pulls by the program: costs: arguments that are not valid. -/
namespace Go.Proofs.Ythfniffecceldaa
open Go.RowKit

set_option maxRecDepth 100000 in
set_option maxHeartbeats 3200000 in
theorem watch_no {l : List Nd} {src : List (List Int)} {A : Option Addr} {c : Nat} {As : Option Addr} {ca : Nat} (hno : (pipeOk l && srcOk src) = false) (w : World) (hn : RdN w w.heap.size A l) (hsr : RdR w w.heap.size As src) (hnl : l.length ≤ 1048576) (hns : src.length ≤ 1048576) (hm : Hid (∀ r ∈ src, r.length ≤ 1048576)) :
    Calls Try.prog 49 #[.agg #[.slice A l.length c], .slice As src.length ca] w fun e w' => e = .returned (.pointer none) ∧ Below w.heap.size w w' := by
  obtain ⟨W1, hW1⟩ : ∃ X : World, X = w.alloc (.cells #[.slice A l.length c] 39) := ⟨_, rfl⟩
  have hb1 : Below w.heap.size w W1 := by rw [hW1]; exact below1 w _
  have hvp := implValidPipe_any A c l W1 w.heap.size (hn.below hb1 (Nat.le_refl _)) hb1.size hnl
  have z1 := hb1.size
  have HW1 := Lib.hid hW1
  have Hb1 := Lib.hid hb1
  have Hvp := Lib.hid hvp
  have Hsr := Lib.hid hsr
  have Hno := Lib.hid hno
  clear hW1 hb1 hvp hn hsr hno
  go_enter Try.func49, Try.ntmps49
  go_wp2_with fail
  rw [← HW1.out]
  refine Hvp.out.mono ?_
  rintro e w2 ⟨rfl, hb2⟩
  have hvs := implValidSources_any As ca src w2 w.heap.size (Hsr.out.below (Hb1.out.trans (hb2.mono z1)) (Nat.le_refl _)) hns hm.out
  have Hvs := Lib.hid hvs
  have Hb2 := Lib.hid (Hb1.out.trans (hb2.mono z1))
  clear hb2 hvs
  cases hv : pipeOk l with
  | false =>
    clear Hvs Hno
    go_wp2_with fail
    refine bodyPost_ret (v := .pointer none) (by simp [results, Try.results49, go_sem]) rfl ⟨rfl, Hb2.out⟩
  | true =>
    have hs : srcOk src = false := by have := Hno.out; rw [hv] at this; simpa using this
    rw [hs] at Hvs
    clear Hno hs
    go_wp2_with fail
    refine Hvs.out.mono ?_
    rintro e w2' ⟨rfl, rfl⟩
    go_wp2_with fail
    refine bodyPost_ret (v := .pointer none) (by simp [results, Try.results49, go_sem]) rfl ⟨rfl, Hb2.out⟩

set_option maxRecDepth 100000 in
set_option maxHeartbeats 3200000 in
theorem watchTimes_no {l : List Nd} {src : List (List Int)} {A : Option Addr} {c : Nat} {As : Option Addr} {ca : Nat} (k : Int) (hno : (pipeOk l && srcOk src && inR k 0 200) = false) (w : World) (hn : RdN w w.heap.size A l) (hsr : RdR w w.heap.size As src) (hnl : l.length ≤ 1048576) (hns : src.length ≤ 1048576) (hm : Hid (∀ r ∈ src, r.length ≤ 1048576)) :
    Calls Try.prog 56 #[.agg #[.slice A l.length c], .slice As src.length ca, .int .i64 k] w fun e w' => e = .returned (.pointer none) ∧ Below w.heap.size w w' := by
  obtain ⟨W1, hW1⟩ : ∃ X : World, X = w.alloc (.cells #[.slice A l.length c] 39) := ⟨_, rfl⟩
  have hb1 : Below w.heap.size w W1 := by rw [hW1]; exact below1 w _
  have z1 := hb1.size
  have hn1 : RdN W1 W1.heap.size A l := (hn.below hb1 (Nat.le_refl _)).more z1
  have hr1 : RdR W1 W1.heap.size As src := (hsr.below hb1 (Nat.le_refl _)).more z1
  have HW1 := Lib.hid hW1
  have Hb1 := Lib.hid hb1
  have Hn := Lib.hid hn1
  have Hsr := Lib.hid hr1
  clear hW1 hb1 hn hsr hn1 hr1
  cases hv : (pipeOk l && srcOk src) with
  | false =>
    have Hcall := Lib.hid (watch_no (c := c) (ca := ca) hv W1 Hn.out Hsr.out hnl hns hm)
    clear hv hno
    go_enter Try.func56, Try.ntmps56
    go_wp2_with fail
    rw [← HW1.out]
    refine Hcall.out.mono ?_
    rintro e w2 ⟨rfl, hb2⟩
    have Hb2 := Lib.hid (Hb1.out.trans (hb2.mono z1))
    clear hb2
    go_wp2_with fail
    refine bodyPost_ret (v := .pointer none) (by simp [results, Try.results56, go_sem]) rfl ⟨rfl, Hb2.out⟩
  | true =>
    rw [hv] at hno
    have hk : inR k 0 200 = false := by simpa using hno
    simp only [Bool.and_eq_true] at hv
    obtain ⟨hp, hs⟩ := hv
    have h3 := (src_rows hs).1
    have hhigh := high_of hp
    have hlow := low_of hp
    obtain ⟨T, hT⟩ := IsTree.ex (pipeOk_iff.1 hp) l.length (l.length - 1) (by omega) (by omega)
    obtain ⟨t, ht, hti, _⟩ := hT.ti
    have hcall := watch_any (c := c) (ca := ca) (pipeOk_iff.1 hp) hp hs h3 hhigh ht (by omega) W1 Hn.out Hsr.out
    rw [h3]
    have Hcall := Lib.hid hcall
    have Hk := Lib.hid hk
    clear hp hs h3 hT ht hti hcall hk hno
    go_enter Try.func56, Try.ntmps56
    go_wp2_with fail
    rw [← HW1.out]
    refine Hcall.out.mono ?_
    rintro e w2 ⟨wb, rfl, _, hb2⟩
    have Hb2 := Lib.hid (Hb1.out.trans (hb2.mono z1))
    clear hb2
    go_wp2_with fail
    refine (within_any k 0 200 _).mono ?_
    rintro e w2' ⟨rfl, rfl⟩
    rw [Hk.out]
    go_wp2_with fail
    refine bodyPost_ret (v := .pointer none) (by simp [results, Try.results56, go_sem]) rfl ⟨rfl, Hb2.out⟩

end Go.Proofs.Ythfniffecceldaa

/- Contracts: pulls by the program: the table of pulls, by the program. -/
namespace Go.Proofs.Ythfniffecceldaa
open Go.RowKit Go.Shelf

attribute [local go_sem] Oper.semAt_some

/-- Between two pulls of the table: its boxes lie from b0 on. -/
structure TtJ (n0 rb cb : Nat) (l : List Nd) (src : List (List Int)) (t : TI) (w1 : World) (wb gb hb eb : Nat) (fe : Value) (ws : World) (b0 a b : Nat) (W : World) : Prop where
  wat : Wat n0 rb cb l.length l src w1 wb gb hb eb fe (stAt l src t a) W
  wx : Bk W b0 70 [.pointer (some ⟨wb, 0, none⟩)]
  ux : Bk W (b0 + 3) 70 [.pointer (some ⟨wb, 0, none⟩)]
  tx : ∃ R cR, Bk W (b0 + 2) 23 [.slice R (b + 1) cR] ∧ OwnJ W (b0 + 1) R cR (tabUp l src t (b + 1))
  bl : Below ws.heap.size ws W
  big : b0 + 4 ≤ W.heap.size
theorem oneJ (w : World) (v : Int) : OwnJ (w.alloc (.cells #[.int .i64 v] 3)) w.heap.size (some ⟨w.heap.size, 0, none⟩) 1 [v] :=
  ⟨rfl, .inr ⟨w.heap.size, 1, #[.int .i64 v], rfl, Nat.le_refl _, heap_alloc_new w _, Nat.le_refl _, by unfold maxLen; omega, rfl, rfl⟩⟩
theorem Wat.keepX {n0 rb cb N wb gb hb eb z : Nat} {l : List Nd} {src : List (List Int)} {w1 w w' : World} {fe : Value} {s : PS} (h : Wat n0 rb cb N l src w1 wb gb hb eb fe s w) (ho : w'.os = w.os) (ht : w'.tape = w.tape) (hu : w'.output = w.output) (hz : w.heap.size ≤ w'.heap.size) (hk : ∀ b, b < w.heap.size → (b < z ∨ IsPl w b) → w'.heap[b]? = w.heap[b]?) (l1 : w1.heap.size ≤ z) (l2 : rb < z) (l3 : cb < z) (l4 : wb < z) (l5 : gb < z) (l6 : hb < z) (l7 : eb < z) : Wat n0 rb cb N l src w1 wb gb hb eb fe s w' := by
  have pk : ∀ {g' : Nat} {t' : TypeId} {cs : List Value}, g' < z → Bk w g' t' cs → Bk w' g' t' cs := fun hg hb' => (hk _ hb'.lt (.inl hg)).trans hb'
  obtain ⟨cs, hc, hcs⟩ := h.iw.cells
  obtain ⟨R, cR, hb, hog⟩ := h.iw.box
  exact ⟨⟨ho.trans h.fr.os, ht.trans h.fr.tape, hu.trans h.fr.output, Nat.le_trans h.fr.size hz, fun b hb h1 h2 h3 => (hk b (Nat.lt_of_lt_of_le hb h.fr.size) (.inl (by omega))).trans (h.fr.block b hb h1 h2 h3)⟩, ⟨h.iw.tp, h.iw.tc, h.iw.lop, h.iw.loc, ⟨cs, pk l3 hc, hcs⟩, ⟨R, cR, pk l2 hb, hog.keep fun g hg hp => hk g hg (.inr hp)⟩⟩, ⟨pk l4 h.wr.bx, pk l5 h.wr.g, pk l6 h.wr.h, pk l7 h.wr.e, h.wr.ne⟩, h.ok, h.lg, h.si, h.b1, h.b2, h.b3, h.b4⟩
set_option maxRecDepth 100000 in
set_option maxHeartbeats 6400000 in
theorem implPullTable_yes {l : List Nd} {src : List (List Int)} {A : Option Addr} {c : Nat} {As : Option Addr} {ca : Nat} (hp : PipeOk l) (hv : pipeOk l = true) (hs : srcOk src = true) (h3 : src.length = 3) (hl12 : l.length ≤ 12) {t : TI} (ht : IsTI l t) (hix : t.ix + 1 = l.length) {e : Nat} (he : EndsAt l src t e) (w : World) (hn : RdN w w.heap.size A l) (hsr : RdR w w.heap.size As src) :
    Calls Try.prog 43 #[.agg #[.slice A l.length c], .slice As 3 ca] w (TabP (tabUp l src t (e + 2)) w) := by
  obtain ⟨W1, hW1⟩ : ∃ X : World, X = w.alloc (.cells #[.slice A l.length c] 39) := ⟨_, rfl⟩
  have hb1 : Below w.heap.size w W1 := by rw [hW1]; exact below1 w _
  have z1 := hb1.size
  have hcall := watch_any (c := c) (ca := ca) hp hv hs h3 hl12 ht hix W1 ((hn.below hb1 (Nat.le_refl _)).more z1) ((hsr.below hb1 (Nat.le_refl _)).more z1)
  have hF := pull_fine hp hs (fu := fun s => s.M l src + 1) ht
  have hG := pull_grow (src := src) hp (fu := fun s => s.M l src + 1) ht
  have h12 : ∀ r ∈ src, r.length ≤ 12 := fun r hr => (src_rows hs).2 r hr
  have hnx := stAt_next hp hs ht
  have HW1 := Lib.hid hW1
  have Hb1 := Lib.hid hb1
  have Hcall := Lib.hid hcall
  have HF := Lib.hid hF
  have HG := Lib.hid hG
  have H12 := Lib.hid h12
  have Hnx := Lib.hid hnx
  have He := Lib.hid he
  have hle := he.le
  clear hW1 hb1 hcall hF hG h12 hn hsr hp hv hs ht hix he hnx
  refine (callsIn_wide (n := 5)).1 ?_
  refine callsIn_of_wp_marks Try.func43 rfl trivial ?_ rfl
  simp only [Try.ntmps43, List.size_toArray, List.length_cons, List.length_nil, Nat.reduceAdd, Nat.reduceSub, Array.replicate_succ, Array.replicate_zero, List.push_toArray, List.append_toArray, List.nil_append, List.cons_append]
  refine wpIn_wide.2 ?_
  go_wp2_with fail
  rw [← HW1.out]
  refine Hcall.out.mono ?_
  rintro e' w2 ⟨wb, rfl, ⟨rb, cb, kf, lb, gb, hb, eb, w1, eg, pu, hwat⟩, hb2⟩
  have Heg := Lib.hid eg
  have Hpu := Lib.hid pu
  have Hwat := Lib.hid hwat
  have Hb2 := Lib.hid (Hb1.out.trans (hb2.mono z1))
  have z2 := hb2.size
  have lrb : rb < w2.heap.size := RS.ltp hwat.iw
  have lcb : cb < w2.heap.size := RS.ltc hwat.iw
  have lwb := hwat.wr.bx.lt
  have lgb := hwat.wr.g.lt
  have lhb := hwat.wr.h.lt
  have leb := hwat.wr.e.lt
  have lw1 : w1.heap.size ≤ w2.heap.size := hwat.fr.size
  have n1 : W1.heap.size ≤ rb := RS.lop hwat.iw
  have n2 : W1.heap.size ≤ cb := RS.loc hwat.iw
  have n3 := hwat.b1.1
  have n4 := hwat.b2.1
  have n5 := hwat.b3.1
  have n6 := hwat.b4.1
  clear eg pu hwat hb2
  go_wp2_with fail
  refine (callsIn_wide (n := 5)).1 ?_
  refine (callsIn_wide.2 (untilEnd_in _ _)).mono ?_
  rintro e' w' ⟨rfl, rfl⟩
  go_wp2_with fail
  obtain ⟨W0, hW0⟩ : ∃ W0, (((w2.alloc (.cells #[.pointer (some ⟨wb, 0, none⟩)] 70)).alloc (.cells #[.int .i64 0] 3)).alloc (.cells #[.slice (some ⟨w2.heap.size + 1, 0, none⟩) 1 1] 23)).alloc (.cells #[.pointer (some ⟨wb, 0, none⟩)] 70) = W0 := ⟨_, rfl⟩
  have hz0 : W0.heap.size = w2.heap.size + 4 := by rw [← hW0]; simp
  have hb0 : Below w2.heap.size w2 W0 := by rw [← hW0]; exact below4 _ _ _ _ _
  have k0 : Bk W0 w2.heap.size 70 [.pointer (some ⟨wb, 0, none⟩)] := by rw [← hW0]; exact (((Bk.new w2 _ [_]).alloc _).alloc _).alloc _
  have k2 : Bk W0 (w2.heap.size + 2) 23 [.slice (some ⟨w2.heap.size + 1, 0, none⟩) 1 1] := by
    rw [← hW0]
    have := Bk.new ((w2.alloc (.cells #[.pointer (some ⟨wb, 0, none⟩)] 70)).alloc (.cells #[.int .i64 0] 3)) 23 [.slice (some ⟨w2.heap.size + 1, 0, none⟩) 1 1]
    simp only [World.size_alloc] at this
    exact this.alloc _
  have k3 : Bk W0 (w2.heap.size + 3) 70 [.pointer (some ⟨wb, 0, none⟩)] := by
    rw [← hW0]
    have := Bk.new (((w2.alloc (.cells #[.pointer (some ⟨wb, 0, none⟩)] 70)).alloc (.cells #[.int .i64 0] 3)).alloc (.cells #[.slice (some ⟨w2.heap.size + 1, 0, none⟩) 1 1] 23)) 70 [.pointer (some ⟨wb, 0, none⟩)]
    simp only [World.size_alloc] at this
    exact this
  have kJ : OwnJ W0 (w2.heap.size + 1) (some ⟨w2.heap.size + 1, 0, none⟩) 1 (tabUp l src t 1) := by
    rw [← hW0]
    have h := oneJ (w2.alloc (.cells #[.pointer (some ⟨wb, 0, none⟩)] 70)) 0
    simp only [World.size_alloc] at h
    have h2 := (h.below ((Below.refl _ _).alloc (Nat.le_refl _) (.cells #[.slice (some ⟨w2.heap.size + 1, 0, none⟩) 1 1] 23)) (Nat.le_refl _)).below ((Below.refl _ _).alloc (Nat.le_refl _) (.cells #[.pointer (some ⟨wb, 0, none⟩)] 70)) (Nat.le_refl _)
    exact h2
  rw [hW0]
  clear hW0
  refine (wpIn_wide (n := 5)).1 ?_
  refine wpIn_rangeFunc_free (F := Fence.wide) (n := 5) rfl (by omega) (gf := 73) (lb := #[.pointer (some ⟨w2.heap.size + 1 + 1 + 1, 0, none⟩)]) rfl trivial (enters_of Try.func73 (by kernel_rfl) rfl)
    (encs := fun v : Int => #[.int .i64 v]) (fun _ => rfl)
    (fun v : Int => { tmps := #[.agg #[.slice A l.length c], .slice As 3 ca, .pointer (some ⟨w.heap.size, 0, none⟩), undef, .slice none 0 0, .pointer (some ⟨w2.heap.size, 0, none⟩), .pointer (some ⟨w2.heap.size + 1 + 1, 0, none⟩), .agg #[.slice A l.length c], .slice As 3 ca, .pointer (some ⟨wb, 0, none⟩), .pointer (some ⟨wb, 0, none⟩), .bool false, .slice (some ⟨w2.heap.size + 1, 0, none⟩) 1 1, .pointer (some ⟨wb, 0, none⟩), .func (.func 73) #[] #[.pointer (some ⟨w2.heap.size + 1 + 1 + 1, 0, none⟩)], .int .i64 v, undef, undef, undef, undef, undef, undef, undef, undef], defers := [] }) ?assign ?iter
  case assign =>
    intro l' x W K hK
    gi_wp2
    simpa using hK
  case iter =>
    intro lr D Wd Rdy Dn hD hl hz1' hbd hr1 hkind hst hstd hyld
    rw [hz0] at hD hl hz1'
    have HY := Lib.hid hyld
    have HS := Lib.hid hst
    have HK := Lib.hid hkind
    clear hyld hst hstd hkind
    have hb0d : Below w2.heap.size w2 Wd := hb0.trans (hbd.mono hb0.size)
    refine (untilEnd1_in He.out wb (w2.heap.size + 1 + 1 + 1) lr
      (fun a b W' => TtJ W1.heap.size rb cb l src t w1 wb gb hb eb (.func (.func kf) #[] lb) w w2.heap.size a b W' ∧ Rdy W') ?hJ ?hC ?hY Wd ?h0).mono ?done
    case hJ =>
      rintro a b W' ⟨h, hrd⟩
      exact h.ux.cell 0
    case hC =>
      rintro a W' ha ⟨h, hrd⟩
      obtain ⟨⟨ob, hob, hoc⟩, hDd⟩ := HK.out _ hrd
      obtain ⟨R, cR, hbx, how⟩ := h.tx
      refine (wpull_any HF.out HG.out Heg.out Hpu.out H12 (stAt l src t a) W' h.wat).mono ?_
      rintro d W'' ⟨rfl, hw', hfp⟩
      rw [← Hnx.out] at hw'
      refine ⟨rfl, ⟨hw', hfp.bk h.wx (by decide) (by omega) (by omega) (by omega) (by omega) (by omega) (by omega), hfp.bk h.ux (by decide) (by omega) (by omega) (by omega) (by omega) (by omega) (by omega), ⟨R, cR, hfp.bk hbx (by decide) (by omega) (by omega) (by omega) (by omega) (by omega) (by omega), how.keepB fun g' cs hg' hb' => hfp.block g' hb'.lt (by omega) (by omega) (by omega) (by omega) (by omega) (by omega) (.inr (IsPl.not hb' (by decide)))⟩, h.bl.trans ((hfp.below (by omega) (by omega) (by omega) (by omega) (by omega) (by omega) (by have := RS.ltp h.wat.iw; omega)).mono z1), Nat.le_trans h.big hfp.size⟩, ?_⟩
      exact HS.out _ _ hrd (hfp.far_obj hob hoc (by omega) (by omega) (by omega) (by omega) (by omega) (by omega)) (hfp.far_obj hDd rfl (by omega) (by omega) (by omega) (by omega) (by omega) (by omega))
    case h0 =>
      exact ⟨⟨Hwat.out.below hb0d, k0.below hbd k0.lt, k3.below hbd k3.lt, ⟨_, _, k2.below hbd k2.lt, kJ.below hbd (Nat.le_refl _)⟩, Hb2.out.trans (hb0d.mono (Nat.le_trans z1 z2)), by omega⟩, hr1⟩
    case hY =>
      rintro a W' ha ⟨h, hrd⟩
      obtain ⟨hkl, hkD⟩ := HK.out _ hrd
      refine HY.out ((a : Int) + 1) W' _ hrd fun ob hob hlo hDo => ?_
      obtain ⟨Wb, hWb⟩ : ∃ Wb, Wb = W'.putObj lr ob := ⟨_, rfl⟩
      rw [← hWb] at hlo hDo ⊢
      obtain ⟨R, cR, hbx, how⟩ := h.tx
      have hbig := h.big
      have hgb : W'.grownBy Wb (some lr) := by rw [hWb]; exact grownBy_putObj' W' lr ob
      have hpo0 : ∀ k, k ≠ lr → Wb.heap[k]? = W'.heap[k]? := fun k hk => by rw [hWb]; exact World.putObj_heap_other hk
      have hnl : ∀ {g t' cs}, Bk W' g t' cs → g ≠ lr := fun hb' e => by
        subst e
        obtain ⟨q, hq, hqc⟩ := hkl
        unfold Bk at hb'
        rw [hb'] at hq
        cases hq
        cases hqc
      have hisi := how.isi
      have hhw := h.wat
      have t0 : Bk Wb w2.heap.size 70 [.pointer (some ⟨wb, 0, none⟩)] := (hpo0 _ (by omega)).trans h.wx
      have t2 : Bk Wb (w2.heap.size + 1 + 1) 23 [.slice R (a + 1) cR] := (hpo0 _ (by omega)).trans hbx
      have tw := (hpo0 _ (hnl hhw.wr.bx)).trans hhw.wr.bx
      have how2 := how.grown hgb (by
        cases hR : rowOf R with
        | none => exact .inl rfl
        | some q => exact .inr (fun e => by
            obtain ⟨_, ds, hi⟩ := hisi q hR
            injection e with e
            exact hnl hi e))
      obtain ⟨v, hv⟩ : ∃ v : Int, ((stAt l src t (a + 1)).lg.length : Int) = v := ⟨_, rfl⟩
      have hup : tabUp l src t (a + 1 + 1) = tabUp l src t (a + 1) ++ [v] := by rw [tabUp_succ, hv]
      have hlen : (tabUp l src t (a + 1)).length = a + 1 := tabUp_len _ _ _ _
      have d0 := t0.cell 0
      have d0d := (Bk.drewN t0 1).cell 0
      have d2 := t2.cell 0
      have d2d := (Bk.drewN t2 1).cell 0
      have dw := (Bk.drewN (show Bk Wb wb 83 _ from tw) 1).cell 1
      simp only [List.getElem?_cons_zero, List.getElem?_cons_succ] at d0 d0d d2 d2d dw
      rw [hv] at dw
      have d2a : ∀ z : Int, (Wb.alloc (.cells #[.int .i64 z] 3)).cell? ⟨w2.heap.size + 1 + 1, 0, none⟩ = some (.slice R (a + 1) cR) := fun z => (Bk.alloc t2 _).cell 0
      have d2b : ∀ z : Int, ((Wb.drewN 1).alloc (.cells #[.int .i64 z] 3)).cell? ⟨w2.heap.size + 1 + 1, 0, none⟩ = some (.slice R (a + 1) cR) := fun z => (Bk.alloc (Bk.drewN t2 1) _).cell 0
      have hbz : w2.heap.size + 1 ≤ Wb.heap.size := by have := hgb.size; omega
      have hap : a + 1 ≤ 1048576 := by omega
      have Hfin : Hid (∀ (R2 : Option Addr) (c2 : Nat) (w3 : World), OwnJ w3 (w2.heap.size + 1) R2 c2 (tabUp l src t (a + 1) ++ [v]) → (Wb.drew.alloc (.cells #[.int .i64 v] 3)).grownBy w3 (rowOf R) →
          w3.cell? ⟨w2.heap.size + 1 + 1, 0, none⟩ = some (.slice R (a + 1) cR) ∧ w3.frozen? ⟨w2.heap.size + 1 + 1, 0, none⟩ = false ∧ freePost lr D Rdy Dn (fun d W'' => d = .returned (.bool true) ∧ TtJ W1.heap.size rb cb l src t w1 wb gb hb eb (.func (.func kf) #[] lb) w w2.heap.size (a + 1) (a + 1) W'' ∧ Rdy W'') Wb .normal { tmps := #[], defers := [] } (w3.setCell ⟨w2.heap.size + 1 + 1, 0, none⟩ (.slice R2 (a + 1 + 1) c2))) := by
        intro R2 c2 w3 ho2 hg2
        have hza : (Wb.drew.alloc (.cells #[.int .i64 v] 3)).heap.size = Wb.heap.size + 1 := by simp
        have hzb : Wb.heap.size = W'.heap.size := by rw [hWb]; simp
        have hrow : ∀ k, rowOf R = some k → w2.heap.size + 1 ≤ k := fun k hk => (how.row_lt k hk).1
        have hblk : ∀ k, k < Wb.heap.size → some k ≠ rowOf R → w3.heap[k]? = Wb.heap[k]? := fun k hk hn => by
          rw [hg2.block k (by rw [hza]; omega) hn]
          exact Below.heap_alloc _ _ _ (show k < Wb.heap.size by omega)
        have hnr : ∀ {g t' cs}, Bk W' g t' cs → t' ≠ 3 → some g ≠ rowOf R := fun hb' ht' e => by
          obtain ⟨_, ds, hi⟩ := hisi _ e.symm
          exact Bk.ne hb' hi ht' rfl
        have kb2 : Bk w3 (w2.heap.size + 1 + 1) 23 [.slice R (a + 1) cR] := (hblk _ t2.lt (hnr hbx (by decide))).trans t2
        refine ⟨kb2.cell 0, kb2.free 0, ?_⟩
        obtain ⟨X1, hX1⟩ : ∃ X1, X1 = w3.setCell ⟨w2.heap.size + 1 + 1, 0, none⟩ (.slice R2 (a + 1 + 1) c2) := ⟨_, rfl⟩
        rw [← hX1]
        have hx1 : ∀ k, k ≠ w2.heap.size + 2 → X1.heap[k]? = w3.heap[k]? := fun k hk => by rw [hX1]; exact Below.heap_setCell _ _ _ _ hk
        have hzx : X1.heap.size = w3.heap.size := by rw [hX1]; simp [World.setCell]
        have kx2 : Bk X1 (w2.heap.size + 1 + 1) 23 [.slice R2 (a + 1 + 1) c2] := by rw [hX1]; exact kb2.set_ 0 _
        have hg3 := hg2.size
        have hox : OwnJ X1 (w2.heap.size + 1) R2 c2 (tabUp l src t (a + 1 + 1)) := by
          rw [hup, hX1]
          refine ownsRow_setCell_other ho2 (fun e => ?_) _
          rw [ownBlock_slice] at e
          obtain ⟨_, ds, hi⟩ := ho2.isi _ e
          exact Bk.ne kb2 hi (by decide) rfl
        have llr : lr < W'.heap.size := by obtain ⟨q, hq, _⟩ := hkl; exact (Array.getElem?_eq_some_iff.1 hq).1
        have lD : D < W'.heap.size := (Array.getElem?_eq_some_iff.1 hkD).1
        have hno : ∀ {g : Nat} {o : Obj}, W'.heap[g]? = some o → o.isCells = false → some g ≠ rowOf R := fun hg ho e => by
          obtain ⟨_, ds, hi⟩ := hisi _ e.symm
          unfold Bk at hi
          rw [hi] at hg
          cases hg
          cases ho
        obtain ⟨q, hq, hqc⟩ := hkl
        refine ⟨(hx1 lr (by omega)).trans (hblk lr (by omega) (hno hq hqc)), (hx1 D (by omega)).trans (hblk D (by omega) (hno hkD rfl)), fun o2 ho2c hrd2 => ⟨rfl, ?_, hrd2⟩⟩
        have hpo : ∀ k, k ≠ lr → (X1.putObj lr o2).heap[k]? = X1.heap[k]? := fun k hk => World.putObj_heap_other hk
        have hgp := grownBy_putObj' X1 lr o2
        have hzz : W'.heap.size ≤ (X1.putObj lr o2).heap.size := by rw [World.putObj_size, hzx]; omega
        have hall : ∀ k, k < W'.heap.size → k ≠ lr → k ≠ w2.heap.size + 2 → some k ≠ rowOf R → (X1.putObj lr o2).heap[k]? = W'.heap[k]? := fun k hk h1 h2 h3 => (hpo k h1).trans ((hx1 k h2).trans ((hblk k (by omega) h3).trans (hpo0 k h1)))
        have hbs : Below (w2.heap.size + 1 + 1) w3 X1 := by rw [hX1]; exact (Below.refl (w2.heap.size + 1 + 1) w3).setCell (p := ⟨w2.heap.size + 1 + 1, 0, none⟩) (Nat.le_refl _) _
        have hba : Below Wb.heap.size Wb (Wb.drew.alloc (.cells #[.int .i64 v] 3)) := ((Below.refl Wb.heap.size Wb).drew).alloc (show Wb.heap.size ≤ Wb.drew.heap.size from Nat.le_refl _) _
        have hos : (X1.putObj lr o2).os = W'.os := hgp.os.trans (hbs.os.trans (hg2.os.trans (hba.os.trans hgb.os)))
        have htp : (X1.putObj lr o2).tape = W'.tape := hgp.tape.trans (hbs.tape.trans (hg2.tape.trans (hba.tape.trans hgb.tape)))
        have hou : (X1.putObj lr o2).output = W'.output := hgp.output.trans (hbs.output.trans (hg2.output.trans (hba.output.trans hgb.output)))
        refine ⟨hhw.keepX (z := w2.heap.size) hos htp hou hzz (fun b hb hcase => ?_) lw1 lrb lcb lwb lgb lhb leb, ?_, ?_, ⟨R2, c2, ?_, ?_⟩, ?_, by omega⟩
        · rcases hcase with hlt | ⟨cs, fr, hpl⟩
          · exact hall b hb (by omega) (by omega) (fun e => by have := hrow b e.symm; omega)
          · refine hall b hb (fun e => ?_) (fun e => ?_) (fun e => ?_)
            · subst e; rw [hq] at hpl; cases hpl; cases hqc
            · subst e; exact IsPl.not hbx (by decide) ⟨cs, fr, hpl⟩
            · obtain ⟨_, ds, hi⟩ := hisi _ e.symm
              exact IsPl.not hi (by decide) ⟨cs, fr, hpl⟩
        · exact (hall _ h.wx.lt (by omega) (by omega) (hnr h.wx (by decide))).trans h.wx
        · exact (hall _ h.ux.lt (by omega) (by omega) (hnr h.ux (by decide))).trans h.ux
        · exact (hpo _ (by omega)).trans kx2
        · exact hox.grown hgp (by
            cases hR : rowOf R2 with
            | none => exact .inl rfl
            | some q2 => exact .inr (fun e => by
                obtain ⟨_, ds, hi⟩ := ho2.isi q2 hR
                injection e with e
                subst e
                have h4 := hi
                unfold Bk at h4
                rw [hblk _ (by omega) (hno hq hqc), hlo] at h4
                cases h4
                cases hob))
        · exact { os := hos.trans h.bl.os, tape := htp.trans h.bl.tape, output := hou.trans h.bl.output, size := Nat.le_trans h.bl.size hzz, block := fun k hk => (hall k (Nat.lt_of_lt_of_le hk h.bl.size) (by omega) (by omega) (fun e => by have := hrow k e.symm; omega)).trans (h.bl.block k hk) }
      have How2 := Lib.hid how2
      have Hlen := Lib.hid hlen
      have Dw := Lib.hid dw
      clear hgb hpo0 hnl hisi hhw t0 t2 tw how how2 hup hlen hbx hv dw h hkl hkD hrd hlo hDo hob hWb HY Hwat Hcall HF HG H12 Hnx He Heg Hpu Hb2 hb0d k0 k2 k3 kJ hb0 hbd HS HK hr1
      have hmx : Try.prog.follows .mixedOrders = true := by kernel_rfl
      gi_wp2
      refine wpIn_region_any (by assumption) ?_
      change wpAnyIn _ _ _ _ _ _ _ _ _ (World.drew _)
      refine wpAnyIn_ready (rs := [0, 1]) (by kernel_rfl) (by simp) ?_
      refine AllReadyIn.cons rfl (fun K hK => ?_) ?_
      · go_simp
        refine hK _ _ ?_
        clear hK K
        refine wpAnyIn_ready (rs := [1]) (by kernel_rfl) (by simp) ?_
        refine AllReadyIn.cons rfl (fun K hK => ?_) ?_
        · go_simp
          refine hK _ _ ?_
          clear hK K
          refine wpAnyIn_ready (rs := [2]) (by kernel_rfl) (by simp) ?_
          refine AllReadyIn.cons rfl (fun K hK => ?_) ?_
          · go_simp
            refine hK _ _ ?_
            clear hK K
            refine wpAnyIn_ready (rs := [3]) (by kernel_rfl) (by simp) ?_
            refine AllReadyIn.cons rfl (fun K hK => ?_) ?_
            · go_simp
              refine hK _ _ ?_
              clear hK K
              refine wpAnyIn_ready (rs := [4]) (by kernel_rfl) (by simp) ?_
              refine AllReadyIn.cons rfl (fun K hK => ?_) ?_
              · go_simp
                refine ⟨trivial, ?_⟩
                refine (CallsIn.inRound lr (callsIn_wide.2 (load_cnt wb v _ Dw.out))).mono ?_
                rintro d w3 ⟨rfl, rfl⟩
                refine hK _ _ ?_
                clear hK K
                refine wpAnyIn_ready (rs := [5]) (by kernel_rfl) (by simp) ?_
                refine AllReadyIn.cons rfl (fun K hK => ?_) ?_
                · go_simp
                  refine hK _ _ ?_
                  clear hK K
                  refine wpAnyIn_ready (rs := [6]) (by kernel_rfl) (by simp) ?_
                  refine AllReadyIn.cons rfl (fun K hK => ?_) ?_
                  · refine stepIn_append_int _ _ rfl (w2.heap.size + 1) R cR (tabUp l src t (a + 1)) v (a + 1) Hlen.out rfl (show OwnJ Wb.drew (w2.heap.size + 1) R cR (tabUp l src t (a + 1)) from How2.out) _ rfl rfl hap hbz ?_
                    intro R2 c2 w3 ho2 hg2
                    refine hK _ _ ?_
                    clear hK K
                    obtain ⟨hbx, hfx, hrest⟩ := Hfin.out R2 c2 w3 ho2 hg2
                    have Hrest := Lib.hid hrest
                    clear hrest ho2 hg2
                    refine wpAnyIn_ready (rs := [7]) (by kernel_rfl) (by simp) ?_
                    refine AllReadyIn.cons rfl (fun K hK => ?_) ?_
                    · go_simp
                      refine hK _ _ ?_
                      clear hK K
                      refine wpAnyIn_done (by kernel_rfl) ?_ _
                      exact Hrest.out
                    exact AllReadyIn.nil
                  exact AllReadyIn.nil
                exact AllReadyIn.nil
              exact AllReadyIn.nil
            exact AllReadyIn.nil
          exact AllReadyIn.nil
        exact AllReadyIn.nil
      refine AllReadyIn.cons rfl (fun K hK => ?_) ?_
      · go_simp
        refine hK _ _ ?_
        clear hK K
        refine wpAnyIn_ready (rs := [0, 2]) (by kernel_rfl) (by simp) ?_
        refine AllReadyIn.cons rfl (fun K hK => ?_) ?_
        · go_simp
          refine hK _ _ ?_
          clear hK K
          refine wpAnyIn_ready (rs := [2]) (by kernel_rfl) (by simp) ?_
          refine AllReadyIn.cons rfl (fun K hK => ?_) ?_
          · go_simp
            refine hK _ _ ?_
            clear hK K
            refine wpAnyIn_ready (rs := [3]) (by kernel_rfl) (by simp) ?_
            refine AllReadyIn.cons rfl (fun K hK => ?_) ?_
            · go_simp
              refine hK _ _ ?_
              clear hK K
              refine wpAnyIn_ready (rs := [4]) (by kernel_rfl) (by simp) ?_
              refine AllReadyIn.cons rfl (fun K hK => ?_) ?_
              · go_simp
                refine ⟨trivial, ?_⟩
                refine (CallsIn.inRound lr (callsIn_wide.2 (load_cnt wb v _ Dw.out))).mono ?_
                rintro d w3 ⟨rfl, rfl⟩
                refine hK _ _ ?_
                clear hK K
                refine wpAnyIn_ready (rs := [5]) (by kernel_rfl) (by simp) ?_
                refine AllReadyIn.cons rfl (fun K hK => ?_) ?_
                · go_simp
                  refine hK _ _ ?_
                  clear hK K
                  refine wpAnyIn_ready (rs := [6]) (by kernel_rfl) (by simp) ?_
                  refine AllReadyIn.cons rfl (fun K hK => ?_) ?_
                  · refine stepIn_append_int _ _ rfl (w2.heap.size + 1) R cR (tabUp l src t (a + 1)) v (a + 1) Hlen.out rfl (show OwnJ Wb.drew (w2.heap.size + 1) R cR (tabUp l src t (a + 1)) from How2.out) _ rfl rfl hap hbz ?_
                    intro R2 c2 w3 ho2 hg2
                    refine hK _ _ ?_
                    clear hK K
                    obtain ⟨hbx, hfx, hrest⟩ := Hfin.out R2 c2 w3 ho2 hg2
                    have Hrest := Lib.hid hrest
                    clear hrest ho2 hg2
                    refine wpAnyIn_ready (rs := [7]) (by kernel_rfl) (by simp) ?_
                    refine AllReadyIn.cons rfl (fun K hK => ?_) ?_
                    · go_simp
                      refine hK _ _ ?_
                      clear hK K
                      refine wpAnyIn_done (by kernel_rfl) ?_ _
                      exact Hrest.out
                    exact AllReadyIn.nil
                  exact AllReadyIn.nil
                exact AllReadyIn.nil
              exact AllReadyIn.nil
            exact AllReadyIn.nil
          exact AllReadyIn.nil
        refine AllReadyIn.cons rfl (fun K hK => ?_) ?_
        · go_simp
          refine hK _ _ ?_
          clear hK K
          refine wpAnyIn_ready (rs := [0, 3]) (by kernel_rfl) (by simp) ?_
          refine AllReadyIn.cons rfl (fun K hK => ?_) ?_
          · go_simp
            refine hK _ _ ?_
            clear hK K
            refine wpAnyIn_ready (rs := [3]) (by kernel_rfl) (by simp) ?_
            refine AllReadyIn.cons rfl (fun K hK => ?_) ?_
            · go_simp
              refine hK _ _ ?_
              clear hK K
              refine wpAnyIn_ready (rs := [4]) (by kernel_rfl) (by simp) ?_
              refine AllReadyIn.cons rfl (fun K hK => ?_) ?_
              · go_simp
                refine ⟨trivial, ?_⟩
                refine (CallsIn.inRound lr (callsIn_wide.2 (load_cnt wb v _ Dw.out))).mono ?_
                rintro d w3 ⟨rfl, rfl⟩
                refine hK _ _ ?_
                clear hK K
                refine wpAnyIn_ready (rs := [5]) (by kernel_rfl) (by simp) ?_
                refine AllReadyIn.cons rfl (fun K hK => ?_) ?_
                · go_simp
                  refine hK _ _ ?_
                  clear hK K
                  refine wpAnyIn_ready (rs := [6]) (by kernel_rfl) (by simp) ?_
                  refine AllReadyIn.cons rfl (fun K hK => ?_) ?_
                  · refine stepIn_append_int _ _ rfl (w2.heap.size + 1) R cR (tabUp l src t (a + 1)) v (a + 1) Hlen.out rfl (show OwnJ Wb.drew (w2.heap.size + 1) R cR (tabUp l src t (a + 1)) from How2.out) _ rfl rfl hap hbz ?_
                    intro R2 c2 w3 ho2 hg2
                    refine hK _ _ ?_
                    clear hK K
                    obtain ⟨hbx, hfx, hrest⟩ := Hfin.out R2 c2 w3 ho2 hg2
                    have Hrest := Lib.hid hrest
                    clear hrest ho2 hg2
                    refine wpAnyIn_ready (rs := [7]) (by kernel_rfl) (by simp) ?_
                    refine AllReadyIn.cons rfl (fun K hK => ?_) ?_
                    · go_simp
                      refine hK _ _ ?_
                      clear hK K
                      refine wpAnyIn_done (by kernel_rfl) ?_ _
                      exact Hrest.out
                    exact AllReadyIn.nil
                  exact AllReadyIn.nil
                exact AllReadyIn.nil
              exact AllReadyIn.nil
            exact AllReadyIn.nil
          refine AllReadyIn.cons rfl (fun K hK => ?_) ?_
          · go_simp
            refine hK _ _ ?_
            clear hK K
            refine wpAnyIn_ready (rs := [0, 4]) (by kernel_rfl) (by simp) ?_
            refine AllReadyIn.cons rfl (fun K hK => ?_) ?_
            · go_simp
              refine hK _ _ ?_
              clear hK K
              refine wpAnyIn_ready (rs := [4]) (by kernel_rfl) (by simp) ?_
              refine AllReadyIn.cons rfl (fun K hK => ?_) ?_
              · go_simp
                refine ⟨trivial, ?_⟩
                refine (CallsIn.inRound lr (callsIn_wide.2 (load_cnt wb v _ Dw.out))).mono ?_
                rintro d w3 ⟨rfl, rfl⟩
                refine hK _ _ ?_
                clear hK K
                refine wpAnyIn_ready (rs := [5]) (by kernel_rfl) (by simp) ?_
                refine AllReadyIn.cons rfl (fun K hK => ?_) ?_
                · go_simp
                  refine hK _ _ ?_
                  clear hK K
                  refine wpAnyIn_ready (rs := [6]) (by kernel_rfl) (by simp) ?_
                  refine AllReadyIn.cons rfl (fun K hK => ?_) ?_
                  · refine stepIn_append_int _ _ rfl (w2.heap.size + 1) R cR (tabUp l src t (a + 1)) v (a + 1) Hlen.out rfl (show OwnJ Wb.drew (w2.heap.size + 1) R cR (tabUp l src t (a + 1)) from How2.out) _ rfl rfl hap hbz ?_
                    intro R2 c2 w3 ho2 hg2
                    refine hK _ _ ?_
                    clear hK K
                    obtain ⟨hbx, hfx, hrest⟩ := Hfin.out R2 c2 w3 ho2 hg2
                    have Hrest := Lib.hid hrest
                    clear hrest ho2 hg2
                    refine wpAnyIn_ready (rs := [7]) (by kernel_rfl) (by simp) ?_
                    refine AllReadyIn.cons rfl (fun K hK => ?_) ?_
                    · go_simp
                      refine hK _ _ ?_
                      clear hK K
                      refine wpAnyIn_done (by kernel_rfl) ?_ _
                      exact Hrest.out
                    exact AllReadyIn.nil
                  exact AllReadyIn.nil
                exact AllReadyIn.nil
              exact AllReadyIn.nil
            refine AllReadyIn.cons rfl (fun K hK => ?_) ?_
            · go_simp
              refine ⟨trivial, ?_⟩
              refine (CallsIn.inRound lr (callsIn_wide.2 (load_cnt wb v _ Dw.out))).mono ?_
              rintro d w3 ⟨rfl, rfl⟩
              refine hK _ _ ?_
              clear hK K
              refine wpAnyIn_ready (rs := [0, 5]) (by kernel_rfl) (by simp) ?_
              refine AllReadyIn.cons rfl (fun K hK => ?_) ?_
              · go_simp
                refine hK _ _ ?_
                clear hK K
                refine wpAnyIn_ready (rs := [5]) (by kernel_rfl) (by simp) ?_
                refine AllReadyIn.cons rfl (fun K hK => ?_) ?_
                · go_simp
                  refine hK _ _ ?_
                  clear hK K
                  refine wpAnyIn_ready (rs := [6]) (by kernel_rfl) (by simp) ?_
                  refine AllReadyIn.cons rfl (fun K hK => ?_) ?_
                  · refine stepIn_append_int _ _ rfl (w2.heap.size + 1) R cR (tabUp l src t (a + 1)) v (a + 1) Hlen.out rfl (show OwnJ Wb.drew (w2.heap.size + 1) R cR (tabUp l src t (a + 1)) from How2.out) _ rfl rfl hap hbz ?_
                    intro R2 c2 w3 ho2 hg2
                    refine hK _ _ ?_
                    clear hK K
                    obtain ⟨hbx, hfx, hrest⟩ := Hfin.out R2 c2 w3 ho2 hg2
                    have Hrest := Lib.hid hrest
                    clear hrest ho2 hg2
                    refine wpAnyIn_ready (rs := [7]) (by kernel_rfl) (by simp) ?_
                    refine AllReadyIn.cons rfl (fun K hK => ?_) ?_
                    · go_simp
                      refine hK _ _ ?_
                      clear hK K
                      refine wpAnyIn_done (by kernel_rfl) ?_ _
                      exact Hrest.out
                    exact AllReadyIn.nil
                  exact AllReadyIn.nil
                exact AllReadyIn.nil
              refine AllReadyIn.cons rfl (fun K hK => ?_) ?_
              · go_simp
                refine hK _ _ ?_
                clear hK K
                refine wpAnyIn_ready (rs := [0]) (by kernel_rfl) (by simp) ?_
                refine AllReadyIn.cons rfl (fun K hK => ?_) ?_
                · go_simp
                  refine hK _ _ ?_
                  clear hK K
                  refine wpAnyIn_ready (rs := [6]) (by kernel_rfl) (by simp) ?_
                  refine AllReadyIn.cons rfl (fun K hK => ?_) ?_
                  · refine stepIn_append_int _ _ rfl (w2.heap.size + 1) R cR (tabUp l src t (a + 1)) v (a + 1) Hlen.out rfl (show OwnJ Wb.drew (w2.heap.size + 1) R cR (tabUp l src t (a + 1)) from How2.out) _ rfl rfl hap hbz ?_
                    intro R2 c2 w3 ho2 hg2
                    refine hK _ _ ?_
                    clear hK K
                    obtain ⟨hbx, hfx, hrest⟩ := Hfin.out R2 c2 w3 ho2 hg2
                    have Hrest := Lib.hid hrest
                    clear hrest ho2 hg2
                    refine wpAnyIn_ready (rs := [7]) (by kernel_rfl) (by simp) ?_
                    refine AllReadyIn.cons rfl (fun K hK => ?_) ?_
                    · go_simp
                      refine hK _ _ ?_
                      clear hK K
                      refine wpAnyIn_done (by kernel_rfl) ?_ _
                      exact Hrest.out
                    exact AllReadyIn.nil
                  exact AllReadyIn.nil
                exact AllReadyIn.nil
              exact AllReadyIn.nil
            exact AllReadyIn.nil
          exact AllReadyIn.nil
        exact AllReadyIn.nil
      exact AllReadyIn.nil
    case done =>
      rintro d W' ⟨hv, h, hrd⟩
      refine ⟨hv, .inl ⟨hrd, fun ob hob hDo => ?_⟩⟩
      obtain ⟨hkl, hkD⟩ := HK.out _ hrd
      obtain ⟨R, cR, hbx, how⟩ := h.tx
      have hisi := how.isi
      have kb : Bk (W'.putObj lr ob) (w2.heap.size + 1 + 1) 23 [.slice R (e + 1 + 1) cR] := hbx.putO hkl ob
      have hob2 : OwnJ (W'.putObj lr ob) (w2.heap.size + 1) R cR (tabUp l src t (e + 2)) := how.grown (grownBy_putObj' W' lr ob) (by
        cases hR : rowOf R with
        | none => exact .inl rfl
        | some q2 => exact .inr (fun e2 => by
            obtain ⟨_, ds, hi⟩ := hisi q2 hR
            obtain ⟨q, hq, hqc⟩ := hkl
            injection e2 with e2
            subst e2
            unfold Bk at hi
            rw [hi] at hq
            cases hq
            cases hqc))
      have blb : Below w.heap.size w (W'.putObj lr ob) := ⟨h.bl.os, h.bl.tape, h.bl.output, by rw [World.putObj_size]; exact h.bl.size, fun b hb => (World.putObj_heap_other (by omega)).trans (h.bl.block b hb)⟩
      obtain ⟨W2, hW2⟩ : ∃ W2, W'.putObj lr ob = W2 := ⟨_, rfl⟩
      rw [hW2] at kb hob2 blb hDo ⊢
      have hfin : OwnJ (W2.putObj D (.deferred none)) (w2.heap.size + 1) R cR (tabUp l src t (e + 2)) := hob2.grown (grownBy_putObj' W2 D _) (by
        cases hR : rowOf R with
        | none => exact .inl rfl
        | some q2 => exact .inr (fun e2 => by
            obtain ⟨_, ds, hi⟩ := hob2.isi q2 hR
            injection e2 with e2
            subst e2
            unfold Bk at hi
            rw [hi] at hDo
            cases hDo))
      have kd := kb.cell 0
      have hfro := kb.free 0
      simp only [List.getElem?_cons_zero] at kd
      have Hblb := Lib.hid blb
      have Hdo := Lib.hid hDo
      have HD := Lib.hid hD
      have Hfin := Lib.hid hfin
      clear hl hz1' hbd hr1 hb0 hb0d k0 k2 k3 kJ hz0 hD hkl hkD hDo hW2 h hrd hv blb hob hisi how hbx hob2 hfin kb
      go_wp2_with fail
      have hD := HD.out
      refine ⟨by simp, .inl ⟨_, _, rfl, run_takeDeferred (b := D) (ds := []) Hdo.out, ?_⟩⟩
      refine ⟨.slice R (e + 1 + 1) cR, by simp [results, Try.results43, go_sem], R, cR, by rw [tabUp_len], Hfin.out.ownI.wide (by omega) (Nat.le_refl _), ?_⟩
      exact ⟨Hblb.out.os, Hblb.out.tape, Hblb.out.output, by rw [World.putObj_size]; exact Hblb.out.size, fun b hb => (World.putObj_heap_other (by omega)).trans (Hblb.out.block b hb)⟩

end Go.Proofs.Ythfniffecceldaa

/- Contracts: pulls by the program: the table of pulls, the door. -/
namespace Go.Proofs.Ythfniffecceldaa
open Go.RowKit

set_option maxRecDepth 100000 in
set_option maxHeartbeats 3200000 in
theorem implPullTable_any {l : List Nd} {src : List (List Int)} {A : Option Addr} {c : Nat} {As : Option Addr} {ca : Nat} (q : List Int) (hq : Hid (TabQ l src q)) (w : World) (hn : RdN w w.heap.size A l) (hsr : RdR w w.heap.size As src) (hnl : l.length ≤ 1048576) (hns : src.length ≤ 1048576) (hm : Hid (∀ r ∈ src, r.length ≤ 1048576)) :
    Calls Try.prog 43 #[.agg #[.slice A l.length c], .slice As src.length ca] w (TabP q w) := by
  cases hv : (pipeOk l && srcOk src) with
  | false =>
    obtain ⟨W1, hW1⟩ : ∃ X : World, X = w.alloc (.cells #[.slice A l.length c] 39) := ⟨_, rfl⟩
    have hb1 : Below w.heap.size w W1 := by rw [hW1]; exact below1 w _
    have z1 := hb1.size
    have hn1 : RdN W1 W1.heap.size A l := (hn.below hb1 (Nat.le_refl _)).more z1
    have hr1 : RdR W1 W1.heap.size As src := (hsr.below hb1 (Nat.le_refl _)).more z1
    obtain rfl := hq.out.no hv
    have Hcall := Lib.hid (watch_no (c := c) (ca := ca) hv W1 hn1 hr1 hnl hns hm)
    have HW1 := Lib.hid hW1
    have Hb1 := Lib.hid hb1
    clear hW1 hb1 hn hsr hn1 hr1 hv
    go_enter Try.func43, Try.ntmps43
    go_wp2_with fail
    rw [← HW1.out]
    refine Hcall.out.mono ?_
    rintro e w2 ⟨rfl, hb2⟩
    have Hb2 := Lib.hid (Hb1.out.trans (hb2.mono z1))
    clear hb2
    go_wp2_with fail
    refine bodyPost_ret (v := .slice none 0 0) (by simp [results, Try.results43, go_sem]) rfl ?_
    exact ⟨none, 0, rfl, fun h => absurd h (by simp), Hb2.out.alloc Hb2.out.size _⟩
  | true =>
    obtain ⟨t, e, ht, hix, he, rfl⟩ := hq.out.yes hv
    simp only [Bool.and_eq_true] at hv
    obtain ⟨hp, hs⟩ := hv
    have h3 := (src_rows hs).1
    rw [h3]
    exact implPullTable_yes (pipeOk_iff.1 hp) hp hs h3 (high_of hp) ht hix he w hn hsr
theorem implPullTable_l {A : Option Addr} {c : Nat} (l : List Nd) {As : Option Addr} {ca : Nat} (src : List (List Int)) (w : World) (B : Nat) (q : List Int) (hq : Hid (TabQ l src q)) (hn : RdN w B A l) (hsr : RdR w B As src) (hB : B ≤ w.heap.size) (hnl : l.length ≤ 1048576) (hns : src.length ≤ 1048576) (hm : Hid (∀ r ∈ src, r.length ≤ 1048576)) :
    Calls Try.prog 43 #[.agg #[.slice A l.length c], .slice As src.length ca] w fun e w' => ∃ A' c', e = .returned (.slice A' q.length c') ∧ OwnI w' w.heap.size w'.heap.size A' q ∧ Below w.heap.size w w' :=
  implPullTable_any q hq w (hn.more hB) (hsr.more hB) hnl hns hm
theorem specPullTable_l {A : Option Addr} {c : Nat} (l : List Nd) {As : Option Addr} {ca : Nat} (src : List (List Int)) (w : World) (B : Nat) (q : List Int) (hq : Hid (TabQ l src q)) (hn : RdN w B A l) (hsr : RdR w B As src) (hB : B ≤ w.heap.size) (hnl : l.length ≤ 1048576) (hns : src.length ≤ 1048576) (hm : Hid (∀ r ∈ src, r.length ≤ 1048576)) :
    Calls Try.prog 41 #[.agg #[.slice A l.length c], .slice As src.length ca] w fun e w' => ∃ A' c', e = .returned (.slice A' q.length c') ∧ OwnI w' w.heap.size w'.heap.size A' q ∧ Below w.heap.size w w' :=
  specPullTable_any q hq w (hn.more hB) (hsr.more hB) hnl hns hm

end Go.Proofs.Ythfniffecceldaa
