/- Texts on the program and its reference, put together (PjC, PjF, PjG, PjE, VSb, VSc, PjH, RowM, OpenN). -/
import Derived.Test.YtjhdjfobbgfpfaaMPQ
import Derived.Deep.RegionHeld3
import Derived.Test.YtjhdjfobbgfpfaaMPK
import Derived.Test.YtjhdjfobbgfpfaaMPE
import Derived.Lib.QuietBelow
import Derived.BigQuiet
import Derived.Test.YtjhdjfobbgfpfaaMPB
import Derived.Test.YtjhdjfobbgfpfaaMPA
import Derived.ProofKit
import Derived.OpenShut
import Derived.ChangeOld
import Derived.Deep.Slices
import Derived.Deep.Fields
/- Contracts: pulls by the program: k pulls by the program. -/
namespace Go.Proofs.Ytjhdjfobbgfpfaa
open Go.RowKit

attribute [local go_sem] Oper.semAt_some

theorem wpListIn_append_int {F : Fence} {nn : Nat} {ops : Array Oper} {rest : List Oper} {o : Oper} {a : Act} {Q : Exit → Act → World → Prop} {w : World} (hgd : o.guard = none) (s y : Operand)
    (ho : o.op = .call { callee := .builtin .append, args := #[s, y], argTypes := #[28, 28] }) (base : Nat) (A : Option Addr) (c : Nat) (l : List Int) (x : Int) (n : Nat) (hnl : l.length = n) (hs : a.eval s = .slice A n c) (hown : OwnJ w base A c l)
    (g : Nat) (hx : a.eval y = .slice (some ⟨g, 0, none⟩) 1 1) (hg : g = w.heap.size) (hn : n ≤ 1048576) (hb : base ≤ w.heap.size)
    (h : ∀ (A' : Option Addr) (c' : Nat) (w' : World), OwnJ w' base A' c' (l ++ [x]) → (w.alloc (.cells #[.int .i64 x] 3)).grownBy w' (rowOf A) → wpListIn F nn Try.prog ops Q rest (a.put o.dst (.slice A' (n + 1) c')) w') :
    wpListIn F nn Try.prog ops Q (o :: rest) a (w.alloc (.cells #[.int .i64 x] 3)) := by
  refine wpListIn_plain hgd fun K hK => ?_
  exact stepIn_append_int s y ho base A c l x n hnl hs hown g hx hg hn hb fun A' c' w' h1 h2 => hK _ _ (h A' c' w' h1 h2)
theorem OwnJ.keepB {w w' : World} {base c : Nat} {A : Option Addr} {l : List Int} (h : OwnJ w base A c l) (hk : ∀ (g : Nat) (cs : List Value), base ≤ g → Bk w g 3 cs → w'.heap[g]? = w.heap[g]?) : OwnJ w' base A c l := by
  have hrow := h.isi
  obtain ⟨h1, h2 | ⟨g, cap, cur, hv, hbg, hh, r⟩⟩ := h
  · exact ⟨h1, .inl h2⟩
  · have hv2 := hv
    injection hv with hA
    obtain ⟨_, ds, hg⟩ := hrow g (by rw [hA]; rfl)
    exact ⟨h1, .inr ⟨g, cap, cur, hv2, hbg, (hk g ds hbg hg).trans hh, r⟩⟩
theorem Fr.intsG {n0 pb cb : Nat} {w w' v : World} {row : Option Nat} {o : Obj} (h : Fr n0 pb cb w w') (hg : (w'.alloc o).grownBy v row) (hr : ∀ g, row = some g → w.heap.size ≤ g) : Fr n0 pb cb w v :=
  have h1 := h.alloc o
  ⟨hg.os.trans h1.os, hg.tape.trans h1.tape, hg.output.trans h1.output, Nat.le_trans h1.size hg.size, fun b hb h2 h3 h4 => (hg.block b (Nat.lt_of_lt_of_le hb h1.size) (fun e => by have := hr b e.symm; omega)).trans (h1.block b hb h2 h3 h4)⟩
/-- Between two items of the program's pulls: the items lie in the box ib, its row behind it. -/
structure PtJ (n0 rb cb N : Nat) (l : List Nd) (src : List (List Int)) (fe : Value) (W0 : World) (k : Nat) (pre : List Int) (s : PS) (W : World) : Prop where
  fr : Fr n0 rb cb W0 W
  iw : IW n0 rb cb N N fe s W
  ok : StOk l src s.cs
  lg : s.lg.length + s.W l src ≤ 65536
  big : W0.heap.size + 5 ≤ W.heap.size
  own : ∃ R cR, Bk W W0.heap.size 28 [.slice R pre.length cR] ∧ OwnJ W (W0.heap.size + 3) R cR pre
  pl : Bk W (W0.heap.size + 1) 111 [fe]
  num : Bk W (W0.heap.size + 2) 3 [.int .i64 k]
  le : pre.length ≤ k
/-- What the program's pulls leave. -/
def ImPost (l : List Nd) (src : List (List Int)) (f : PF) (k : Nat) (w : World) (e : Ending) (w' : World) : Prop :=
  ∃ rb cb fe pre s R cR Rp cp, e = .returned (.agg #[.slice R pre.length cR, .slice (some ⟨cb, 0, none⟩) l.length l.length, .slice Rp s.lg.length cp]) ∧ runP f k (newPS l.length) = (pre, s) ∧ IW w.heap.size rb cb l.length l.length fe s w' ∧
    Bk w' rb 113 [.slice (some ⟨cb, 0, none⟩) l.length l.length, .slice Rp s.lg.length cp, fe] ∧ OwnG w' w.heap.size Rp cp s.lg ∧ OwnJ w' w.heap.size R cR pre ∧ StOk l src s.cs ∧ Below w.heap.size w w'

theorem fd_state (a : Option Addr) (n m : Nat) (w : World) : (Instr.field 43 (.agg #[.slice a n m]) 0).run Try.prog w = .ok (.slice a n m) w := by kernel_rfl

set_option maxRecDepth 100000 in
set_option maxHeartbeats 6400000 in
theorem pullTimes_any {l : List Nd} {src : List (List Int)} {A : Option Addr} {c : Nat} {As : Option Addr} {ca : Nat} (hp : PipeOk l) (hv : pipeOk l = true) (hs : srcOk src = true) (h3 : src.length = 3) (hl12 : l.length ≤ 12) {t : TI} (ht : IsTI l t) (hix : t.ix + 1 = l.length) (h0 : StOk l src (newPS l.length).cs) (hw0 : (newPS l.length).W l src ≤ 65536) (k : Nat) (hk : k ≤ 200) (w : World) (hn : RdN w w.heap.size A l) (hsr : RdR w w.heap.size As src) :
    Calls Try.prog 60 #[.agg #[.slice A l.length c], .slice As 3 ca, .int .i64 k] w (ImPost l src (pull src (fun s => s.M l src + 1) t) k w) := by
  obtain ⟨W1, hW1⟩ : ∃ X : World, X = (w.alloc (.cells #[.slice A l.length c] 32)).alloc (.cells #[.slice none 0 0, .slice none 0 0, .slice none 0 0] 66) := ⟨_, rfl⟩
  have hb1 : Below w.heap.size w W1 := by rw [hW1]; exact below2 w _ _
  have kE : Bk W1 w.heap.size 32 [.slice A l.length c] := by rw [hW1]; exact (Bk.new _ _ [_]).alloc _
  have kO : Bk W1 (w.heap.size + 1) 66 [.slice none 0 0, .slice none 0 0, .slice none 0 0] := by
    rw [hW1]
    have := Bk.new (w.alloc (.cells #[.slice A l.length c] 32)) 66 [.slice none 0 0, .slice none 0 0, .slice none 0 0]
    simpa using this
  have hm : ∀ r ∈ src, r.length ≤ 1048576 := fun r hr => Nat.le_trans ((src_rows hs).2 r hr) (by omega)
  have hik : inR (k : Int) 0 200 = true := by simp [inR]; omega
  have hvp := implValidPipe_any A c l W1 w.heap.size (hn.below hb1 (Nat.le_refl _)) hb1.size (by omega)
  rw [hv] at hvp
  have HW1 := Lib.hid hW1
  have Hb1 := Lib.hid hb1
  have HkE := Lib.hid kE
  have HkO := Lib.hid kO
  have Hvp := Lib.hid hvp
  have Hn := Lib.hid hn
  have Hsr := Lib.hid hsr
  have Hp := Lib.hid hp
  have Hv := Lib.hid hv
  have Hs := Lib.hid hs
  have Ht := Lib.hid ht
  have H0 := Lib.hid h0
  have Hw0 := Lib.hid hw0
  have Hm := Lib.hid hm
  have Hik := Lib.hid hik
  have H3 := Lib.hid h3
  have Hix := Lib.hid hix
  have e1 := kE.cell 0
  have z1 := hb1.size
  simp only [List.getElem?_cons_zero] at e1
  clear hW1 hb1 kE kO hvp hn hsr hp hv hs ht h0 hw0 hm hik hix
  refine (callsIn_wide (n := 5)).1 ?_
  refine callsIn_of_wp_marks Try.func60 rfl trivial ?_ rfl
  simp only [Try.ntmps60, List.size_toArray, List.length_cons, List.length_nil, Nat.reduceAdd, Nat.reduceSub, Array.replicate_succ, Array.replicate_zero, List.push_toArray, List.append_toArray, List.nil_append, List.cons_append]
  refine wpIn_wide.2 ?_
  go_wp2_with fail
  rw [← HW1.out]
  refine Hvp.out.mono ?_
  rintro e w2 ⟨rfl, hb2⟩
  have hvs := implValidSources_any As ca src w2 w.heap.size (Hsr.out.below (Hb1.out.trans (hb2.mono z1)) (Nat.le_refl _)) (by omega) Hm.out
  rw [Hs.out, h3] at hvs
  have Hvs := Lib.hid hvs
  have Hb2 := Lib.hid (Hb1.out.trans (hb2.mono z1))
  have kE2 := HkE.out.below hb2 HkE.out.lt
  have kO2 := HkO.out.below hb2 HkO.out.lt
  have e2 := kE2.cell 0
  simp only [List.getElem?_cons_zero] at e2
  have HkE2 := Lib.hid kE2
  have HkO2 := Lib.hid kO2
  clear hb2 hvs kE2 kO2 e1
  go_wp2_with fail
  refine Hvs.out.mono ?_
  rintro e w2' ⟨rfl, rfl⟩
  go_wp2_with fail
  refine (within_any (k : Int) 0 200 w2).mono ?_
  rintro e w2' ⟨rfl, rfl⟩
  rw [Hik.out]
  go_wp2_with fail
  have z2 := Hb2.out.size
  have hfd := fd_state
  go_region_held3 (fun w' => w'.cell? ⟨w.heap.size, 0, none⟩ = some (.slice A l.length c)) (first | exact e2 | exact ks | go_keep)
    (first
      | (
        go_at_call 84
        refine (newRun_any (n0 := w.heap.size) (cb := g) (cc := l.length) (c := c) (ca := ca) Hp.out Hs.out hl12 Ht.out Hix.out (cs := (newPS l.length).cs) w3 (Nat.le_trans z2 hz3) (Hn.out.below Hb23.out (Nat.le_refl _)) (Hsr.out.below Hb23.out (Nat.le_refl _)) hcs).mono ?_
        rintro e w4 ⟨⟨rb, kf, lb, rfl, hrb, iw4, eg4, pu4⟩, hb4⟩
        have hb24 : Below w.heap.size w w4 := Hb23.out.trans (hb4.mono (Nat.le_trans z2 hz3))
        have kE4 := HkE3.out.below hb4 HkE3.out.lt
        have kO4 := HkO3.out.below hb4 HkO3.out.lt
        have ks := kE4.cell 0
        simp only [List.getElem?_cons_zero] at ks
        have HkE4 := Lib.hid kE4
        have HkO4 := Lib.hid kO4
        have Hb4 := Lib.hid hb24
        have Hiw4 := Lib.hid iw4
        have Heg4 := Lib.hid eg4
        have Hpu4 := Lib.hid pu4
        clear hb24 kE4 kO4 iw4 eg4 pu4 hb4 hcs)
      | (
        go_at_call 85
        refine (implNewState_bk A c l w2.drew w.heap.size Hv.out (Hn.out.below (Hb2.out.drew) (Nat.le_refl _)) z2 (by omega)).mono ?_
        rintro e w3 ⟨g, rfl, hg, kC, hb3⟩
        have hb23 : Below w2.heap.size w2 w3 := ((Below.refl w2.heap.size w2).drew).trans hb3
        have hz3 := hb23.size
        have kE3 := HkE2.out.below hb23 HkE2.out.lt
        have kO3 := HkO2.out.below hb23 HkO2.out.lt
        have ks := kE3.cell 0
        simp only [List.getElem?_cons_zero] at ks
        have hcs : CsAt w3 w.heap.size g (newPS l.length).cs := ⟨Nat.le_trans z2 hg, madeCl l.length, kC, fun k x hx => by
          have hk : k < l.length := by have := (List.getElem?_eq_some_iff.1 hx).1; simpa [newPS] using this
          simp only [newPS] at hx
          rw [List.getElem?_replicate, if_pos hk] at hx
          rw [← Option.some.inj hx]
          exact madeCl_in _ k hk⟩
        have HkE3 := Lib.hid kE3
        have HkO3 := Lib.hid kO3
        have Hb23 := Lib.hid (Hb2.out.trans (hb23.mono z2))
        clear kE3 kO3 hb23 hb3 kC)
    )
  obtain ⟨Rp, cRp, hbx, hlg⟩ := RS.box Hiw4.out
  have r2 := hbx.cell 2
  simp only [List.cons_append, List.nil_append, List.getElem?_cons_succ, List.getElem?_cons_zero] at r2
  have rlt := hbx.lt
  clear hbx hlg e2 ks
  go_wp2_with fail
  refine (callsIn_wide (n := 5)).1 ?_
  refine (callsIn_wide.2 (pulled_in kf lb k _)).mono ?_
  rintro e w' ⟨rfl, rfl⟩
  go_wp2_with fail
  obtain ⟨W0, hW0⟩ : ∃ W0, ((w4.alloc (.cells #[.slice none 0 0] 28)).alloc (.cells #[.func (.func kf) #[] lb] 111)).alloc (.cells #[.int .i64 (k : Int)] 3) = W0 := ⟨_, rfl⟩
  have hz0 : W0.heap.size = w4.heap.size + 3 := by rw [← hW0]; simp
  have hb0 : Below w4.heap.size w4 W0 := by rw [← hW0]; exact (((Below.refl _ _).alloc (Nat.le_refl _) _).alloc (by simp) _).alloc (by simp; omega) _
  have k0 : Bk W0 w4.heap.size 28 [.slice none 0 0] := by rw [← hW0]; exact ((Bk.new w4 _ [_]).alloc _).alloc _
  have k1 : Bk W0 (w4.heap.size + 1) 111 [.func (.func kf) #[] lb] := by
    rw [← hW0]
    have := Bk.new (w4.alloc (.cells #[.slice none 0 0] 28)) 111 [.func (.func kf) #[] lb]
    rw [World.size_alloc] at this
    exact this.alloc _
  have k2 : Bk W0 (w4.heap.size + 2) 3 [.int .i64 (k : Int)] := by
    rw [← hW0]
    have := Bk.new ((w4.alloc (.cells #[.slice none 0 0] 28)).alloc (.cells #[.func (.func kf) #[] lb] 111)) 3 [.int .i64 (k : Int)]
    simpa using this
  rw [hW0]
  clear hW0 r2
  have hF := pull_fine Hp.out Hs.out (fu := fun s => s.M l src + 1) Ht.out
  have HF := Lib.hid hF
  have rlt4 : rb < w4.heap.size := rlt
  have glt4 : g < w4.heap.size := RS.ltc Hiw4.out
  have z4 := Hb4.out.size
  have g0 : w.heap.size ≤ g := RS.loc Hiw4.out
  have r0 : w.heap.size ≤ rb := RS.lop Hiw4.out
  clear hF
  refine (wpIn_wide (n := 5)).1 ?_
  refine wpIn_rangeFunc_free (F := Fence.wide) (n := 5) rfl (by omega) (gf := 104) (lb := #[.pointer (some ⟨w4.heap.size + 1 + 1, 0, none⟩), .pointer (some ⟨w4.heap.size + 1, 0, none⟩)]) rfl trivial (enters_of Try.func104 (by kernel_rfl) rfl)
    (encs := fun v : Int => #[.int .i64 v]) (fun _ => rfl)
    (fun v : Int => { tmps := #[.agg #[.slice A l.length c], .slice As 3 ca, .int .i64 (k : Int), .pointer (some ⟨w.heap.size, 0, none⟩), undef, undef, .pointer (some ⟨w.heap.size + 1, 0, none⟩), .pointer (some ⟨rb, 0, none⟩), .pointer (some ⟨w4.heap.size, 0, none⟩), .int .i64 v, .agg #[.slice A l.length c], .bool true, .bool false, .bool false, .slice As 3 ca, .bool true, .bool false, .bool false, .bool false, .int .i64 (k : Int), .bool true, .bool false, .bool false, undef, .agg #[.slice A l.length c], .slice As 3 ca, .agg #[.slice A l.length c], .agg #[.slice (some ⟨g, 0, none⟩) l.length l.length], .slice (some ⟨g, 0, none⟩) l.length l.length, .pointer (some ⟨rb, 0, none⟩), .pointer (some ⟨rb, 0, none⟩), .pointer (some ⟨rb, 0, none⟩), .pointer (some ⟨rb, 2, none⟩), .func (.func kf) #[] lb, .int .i64 (k : Int), .func (.func 104) #[] #[.pointer (some ⟨w4.heap.size + 1 + 1, 0, none⟩), .pointer (some ⟨w4.heap.size + 1, 0, none⟩)], .int .i64 v, undef, undef, undef, undef, undef, undef, undef, undef, undef, undef, undef, undef, undef, undef], defers := [] }) ?assign ?iter
  case assign =>
    intro l x W K hK
    gi_wp2
    exact hK
  case iter =>
    intro lr D Wd Rdy Dn hD hl hz1 hbd hr1 hkind hst hstd hyld
    rw [hz0] at hD hl hz1
    have HY := Lib.hid hyld
    have HS := Lib.hid hst
    have HK := Lib.hid hkind
    clear hyld hst hstd hkind
    have fr01 : Fr w.heap.size rb g w4 Wd := Fr.of_below (hb0.trans (hbd.mono hb0.size))
    refine (pulled1_in HF.out kf lb Heg4.out Hpu4.out k (by omega) lr (w4.heap.size + 1 + 1) (w4.heap.size + 1) (.func (.func kf) #[] lb)
      (fun pre s W' => PtJ w.heap.size rb g l.length l src (.func (.func kf) #[] lb) w4 k pre s W' ∧ Rdy W') ?hJ ?hJF ?hY (newPS l.length) Wd ?h0).mono ?done
    case hJ =>
      rintro pre s W' ⟨h, hrd⟩
      exact ⟨h.num.cell 0, h.pl.cell 0, h.fr, h.iw, h.ok, h.lg⟩
    case hJF =>
      rintro pre s W' s' W'' ⟨h, hrd⟩ hf hi hok hlg'
      obtain ⟨⟨ob, hob, hoc⟩, hDd⟩ := HK.out _ hrd
      obtain ⟨R, cR, hbx, how⟩ := h.own
      refine ⟨⟨h.fr.trans hf, hi, hok, hlg', Nat.le_trans h.big hf.size, ⟨R, cR, hf.bk hbx (by decide) (by omega) (by omega), how.fr h.iw (by decide) hf⟩, hf.bk h.pl (by decide) (by omega) (by omega), hf.bk h.num (by decide) (by omega) (by omega), h.le⟩, ?_⟩
      exact HS.out _ _ hrd (hf.far_obj hob hoc (by omega) (by omega)) (hf.far_obj hDd rfl (by omega) (by omega))
    case h0 =>
      refine ⟨⟨fr01, RS.below (RS.below Hiw4.out hb0) hbd, H0.out, by have := Hw0.out; simpa [newPS] using this, by omega, ⟨none, 0, k0.below hbd k0.lt, OwnJ.nil_ _ _⟩, k1.below hbd k1.lt, k2.below hbd k2.lt, Nat.zero_le _⟩, hr1⟩
    case hY =>
      rintro pre s2 W' v ⟨h, hrd⟩ hv hlt
      obtain ⟨hkl, hkD⟩ := HK.out _ hrd
      refine HY.out v W' _ hrd fun ob hob hlo hDo => ?_
      obtain ⟨Wb, hWb⟩ : ∃ Wb, Wb = W'.putObj lr ob := ⟨_, rfl⟩
      rw [← hWb] at hlo hDo ⊢
      have hpo : ∀ k', k' ≠ lr → Wb.heap[k']? = W'.heap[k']? := fun k' hk' => by rw [hWb]; exact World.putObj_heap_other hk'
      have nolr : ∀ {g' : Nat} {t' : TypeId} {cs : List Value}, Bk W' g' t' cs → g' ≠ lr := fun hb' e' => by
        subst e'
        obtain ⟨q, hq, hqc⟩ := hkl
        unfold Bk at hb'
        rw [hb'] at hq
        cases hq
        cases hqc
      obtain ⟨R, cR, hbx, how⟩ := h.own
      obtain ⟨m0, hm0⟩ : ∃ m0, pre.length = m0 := ⟨_, rfl⟩
      rw [hm0] at hbx
      have bx : Bk Wb w4.heap.size 28 [.slice R m0 cR] := (hpo _ (by omega)).trans hbx
      have owb : OwnJ Wb (w4.heap.size + 3) R cR pre := how.keepB fun g' cs _ hb' => hpo g' (nolr hb')
      have b1 : Bk Wb (w4.heap.size + 1) 111 [.func (.func kf) #[] lb] := (hpo _ (by omega)).trans h.pl
      have b2 : Bk Wb (w4.heap.size + 2) 3 [.int .i64 (k : Int)] := (hpo _ (by omega)).trans h.num
      have iwb : IW w.heap.size rb g l.length l.length (.func (.func kf) #[] lb) s2 Wb := by rw [hWb]; exact RS.put_obj h.iw ob hkl
      have frb : Fr w.heap.size rb g w4 Wb := by rw [hWb]; exact h.fr.put_obj (by omega) ob
      have hzb : Wb.heap.size = W'.heap.size := by rw [hWb, World.putObj_size]
      have hbig := h.big
      have hmk : m0 < k := by rw [← hm0]; exact hlt
      have hm2 : m0 ≤ 1048576 := by omega
      have hzw : w4.heap.size + 3 ≤ Wb.heap.size := by omega
      have c0 := bx.cell 0
      have f0 := bx.free 0
      simp only [List.getElem?_cons_zero] at c0
      have Hbx := Lib.hid bx
      have Howb := Lib.hid owb
      have B1 := Lib.hid b1
      have B2 := Lib.hid b2
      have Iwb := Lib.hid iwb
      have Frb := Lib.hid frb
      have Hzb := Lib.hid hzb
      have Hbig := Lib.hid hbig
      have Hm0 := Lib.hid hm0
      have Hlo := Lib.hid hlo
      have HDo := Lib.hid hDo
      have Hob := Lib.hid hob
      have Hok2 := Lib.hid h.ok
      have Hlg2 := Lib.hid h.lg
      have HL := Lib.hid hl
      have HD := Lib.hid hD
      have Hzw := Lib.hid hzw
      have Hmk := Lib.hid hmk
      clear hbx how bx owb b1 b2 iwb frb hzb hbig hm0 hlo hDo hl hD hkl hkD hpo nolr hWb h hz1 hbd hr1 fr01 hb0 k0 k1 k2 hz0 hlt hob hzw hmk hrd
      gi_wp2_with (gi_at_builtin; refine wpListIn_append_int rfl _ _ rfl (w4.heap.size + 3) R cR _ v m0 Hm0.out rfl Howb.out _ rfl rfl hm2 Hzw.out ?_; intro R2 c2' w5 ho2 hg2; have hrow := Howb.out.isi; have bx5 := (Hbx.out.alloc (.cells #[.int .i64 v] 3)).grown hg2 (fun e => by obtain ⟨_, ds, hi⟩ := hrow _ e.symm; exact Bk.ne Hbx.out hi (by decide) rfl); have c5 := bx5.cell 0; have f5 := bx5.free 0; simp only [List.getElem?_cons_zero] at c5; have Hbx5 := Lib.hid bx5; have Ho2 := Lib.hid ho2; have Hg2 := Lib.hid hg2; have Hrow := Lib.hid hrow; clear bx5 ho2 hg2 hrow c0 f0)
      have hl := HL.out
      have hD := HD.out
      have hbig := Hbig.out
      have hzb := Hzb.out
      have hg2 := Hg2.out
      obtain ⟨X1, hX1⟩ : ∃ X1, X1 = w5.setCell ⟨w4.heap.size, 0, none⟩ (.slice R2 (m0 + 1) c2') := ⟨_, rfl⟩
      rw [← hX1]
      have hza : (Wb.alloc (.cells #[.int .i64 v] 3)).heap.size = Wb.heap.size + 1 := by simp
      have h5 : ∀ k', k' < Wb.heap.size → some k' ≠ rowOf R → w5.heap[k']? = Wb.heap[k']? := fun k' h2 h3 => (hg2.block k' (by omega) h3).trans (Below.heap_alloc _ _ _ h2)
      have hx1 : ∀ k', k' ≠ w4.heap.size → k' < Wb.heap.size → some k' ≠ rowOf R → X1.heap[k']? = Wb.heap[k']? := fun k' h1 h2 h3 => by
        rw [hX1]; exact (Below.heap_setCell _ _ _ _ h1).trans (h5 k' h2 h3)
      have hzx : X1.heap.size = w5.heap.size := by rw [hX1]; simp [World.setCell]
      have hz5 := hg2.size
      have nrow : ∀ {k' : Nat} {q : Obj}, Wb.heap[k']? = some q → q.isCells = false → some k' ≠ rowOf R := fun hq hqc e => by
        obtain ⟨_, ds, hi⟩ := Hrow.out _ e.symm
        unfold Bk at hi
        rw [hi] at hq
        cases hq
        cases hqc
      have nlr := nrow Hlo.out Hob.out
      have nD := nrow HDo.out rfl
      refine ⟨hx1 lr (by omega) (by omega) nlr, hx1 D (by omega) (by omega) nD, fun o2 ho2 hrd2 => ⟨rfl, ?_, hrd2⟩⟩
      have hp2 : ∀ k', k' ≠ lr → (X1.putObj lr o2).heap[k']? = X1.heap[k']? := fun k' hk' => World.putObj_heap_other hk'
      have x0 : Bk X1 w4.heap.size 28 [.slice R2 (m0 + 1) c2'] := by rw [hX1]; exact Hbx5.out.set_ 0 _
      have hnl : ∃ q : Obj, X1.heap[lr]? = some q ∧ q.isCells = false := ⟨ob, (hx1 lr (by omega) (by omega) nlr).trans Hlo.out, Hob.out⟩
      have n1 : some (w4.heap.size + 1) ≠ rowOf R := fun e => by obtain ⟨_, ds, hi⟩ := Hrow.out _ e.symm; exact Bk.ne B1.out hi (by decide) rfl
      have hlen : (pre ++ [v]).length = m0 + 1 := by rw [List.length_append, Hm0.out]; rfl
      refine ⟨?_, ?_, Hok2.out, Hlg2.out, by rw [World.putObj_size, hzx]; omega, ⟨R2, c2', ?_, ?_⟩, ?_, ?_, ?_⟩
      · rw [hX1]
        exact ((Frb.out.intsG hg2 (fun g' e => Nat.le_trans (Nat.le_add_right _ 3) (Hrow.out g' e).1)).far_set (Nat.le_refl _) _ _).put_obj (by omega) o2
      · have i1 : IW w.heap.size rb g l.length l.length (.func (.func kf) #[] lb) s2 X1 := by
          rw [hX1]
          exact RS.far (RS.ints Iwb.out Howb.out (by decide) hg2) 0 _ (by omega) (by omega) (IsPl.not Hbx5.out (by decide))
        exact RS.put_obj i1 o2 hnl
      · rw [hlen]; exact (hp2 _ (by omega)).trans x0
      · refine Ho2.out.keepB fun g' cs hg' hb' => ?_
        have e1 : g' ≠ lr := fun e => by
          subst e
          obtain ⟨q, hq, hqc⟩ := hnl
          rw [hX1, Below.heap_setCell _ _ _ _ (show g' ≠ w4.heap.size by omega)] at hq
          unfold Bk at hb'
          rw [hb'] at hq
          cases hq
          cases hqc
        refine (hp2 _ e1).trans ?_
        rw [hX1]
        exact Below.heap_setCell _ _ _ _ (fun e => Bk.ne Hbx5.out hb' (by decide) e.symm)
      · exact (hp2 _ (by omega)).trans ((hx1 _ (by omega) (by omega) n1).trans B1.out)
      · have n2 : some (w4.heap.size + 2) ≠ rowOf R := fun e => by have := (Hrow.out _ e.symm).1; omega
        exact (hp2 _ (by omega)).trans ((hx1 _ (by omega) (by omega) n2).trans B2.out)
      · rw [hlen]; exact Hmk.out
    case done =>
      rintro e W' ⟨hv, h, hrd⟩
      refine ⟨hv, .inl ⟨hrd, fun ob hob hDo => ?_⟩⟩
      obtain ⟨hkl, hkD⟩ := HK.out _ hrd
      obtain ⟨pre, hpre⟩ : ∃ pre, (runP (pull src (fun s => s.M l src + 1) t) k (newPS l.length)).1 = pre := ⟨_, rfl⟩
      obtain ⟨se, hse⟩ : ∃ se, (runP (pull src (fun s => s.M l src + 1) t) k (newPS l.length)).2 = se := ⟨_, rfl⟩
      rw [hpre, hse] at h
      have hres : runP (pull src (fun s => s.M l src + 1) t) k (newPS l.length) = (pre, se) := by rw [← hpre, ← hse]
      have nolr : ∀ {g' : Nat} {t' : TypeId} {cs : List Value}, Bk W' g' t' cs → g' ≠ lr := fun hb' e' => by
        subst e'
        obtain ⟨q, hq, hqc⟩ := hkl
        unfold Bk at hb'
        rw [hb'] at hq
        cases hq
        cases hqc
      have hpo : ∀ k', k' ≠ lr → (W'.putObj lr ob).heap[k']? = W'.heap[k']? := fun k' hk' => World.putObj_heap_other hk'
      obtain ⟨R, cR, hbx, how⟩ := h.own
      obtain ⟨Rq, cRq, hb4x, _⟩ := RS.box Hiw4.out
      obtain ⟨vs4, hc4x, _⟩ := RS.cells Hiw4.out
      have bO : Bk (W'.putObj lr ob) (w.heap.size + 1) 66 [.slice none 0 0, .slice none 0 0, .slice none 0 0] := by
        have := h.fr.bk HkO4.out (by decide) (fun e => Bk.ne hb4x HkO4.out (by decide) e.symm) (fun e => Bk.ne hc4x HkO4.out (by decide) e.symm)
        exact (hpo _ (nolr this)).trans this
      have bx : Bk (W'.putObj lr ob) w4.heap.size 28 [.slice R pre.length cR] := (hpo _ (by omega)).trans hbx
      have owb : OwnJ (W'.putObj lr ob) (w4.heap.size + 3) R cR pre := how.keepB fun g' cs _ hb' => hpo g' (nolr hb')
      have iwb : IW w.heap.size rb g l.length l.length (.func (.func kf) #[] lb) se (W'.putObj lr ob) := RS.put_obj h.iw ob hkl
      have frb : Fr w.heap.size rb g w4 (W'.putObj lr ob) := h.fr.put_obj (by omega) ob
      obtain ⟨W2, hW2⟩ : ∃ W2, W'.putObj lr ob = W2 := ⟨_, rfl⟩
      rw [hW2] at bO bx owb iwb frb hDo ⊢
      obtain ⟨Rz, cz, hbz, hlz⟩ := RS.box iwb
      have x0 := bx.cell 0
      have y0 := hbz.cell 0
      have y1 := hbz.cell 1
      have o0 := bO.cell 0
      have o1 := bO.cell 1
      have o2 := bO.cell 2
      have p0 := bO.free 0
      have p1 := bO.free 1
      have p2 := bO.free 2
      simp only [List.cons_append, List.nil_append, List.getElem?_cons_succ, List.getElem?_cons_zero] at x0 y0 y1 o0 o1 o2
      have olt : w.heap.size + 1 < W2.heap.size := bO.lt
      have o4lt : w.heap.size + 1 < w4.heap.size := HkO4.out.lt
      have rbne : rb ≠ w.heap.size + 1 := Bk.ne hb4x HkO4.out (by decide)
      have gne : g ≠ w.heap.size + 1 := Bk.ne hc4x HkO4.out (by decide)
      have kx := (((bx.far (p := ⟨w.heap.size + 1, 0, none⟩) (by simp only; omega) (.slice R pre.length cR)).far (p := ⟨w.heap.size + 1, 1, none⟩) (by simp only; omega) (.slice (some ⟨g, 0, none⟩) l.length l.length)).far (p := ⟨w.heap.size + 1, 2, none⟩) (by simp only; omega) (.slice Rz se.lg.length cz)).cell 0
      have kz := (((hbz.far (p := ⟨w.heap.size + 1, 0, none⟩) (by simp only; omega) (.slice R pre.length cR)).far (p := ⟨w.heap.size + 1, 1, none⟩) (by simp only; omega) (.slice (some ⟨g, 0, none⟩) l.length l.length)).far (p := ⟨w.heap.size + 1, 2, none⟩) (by simp only; omega) (.slice Rz se.lg.length cz))
      have ks := And.intro kx (And.intro (kz.cell 0) (kz.cell 1))
      simp only [List.cons_append, List.nil_append, List.getElem?_cons_succ, List.getElem?_cons_zero] at ks
      clear kx kz
      have HbO := Lib.hid bO
      have Hbx := Lib.hid bx
      have Howb := Lib.hid owb
      have Iwb := Lib.hid iwb
      have Frb := Lib.hid frb
      have Hbz := Lib.hid hbz
      have Hlz := Lib.hid hlz
      have Hdo := Lib.hid hDo
      have Hres := Lib.hid hres
      have HD := Lib.hid hD
      have Hok := Lib.hid h.ok
      clear hl hz1 hbd hr1 fr01 hb0 k0 k1 k2 hz0 hD hkl hkD hpo nolr hDo hres bO bx owb iwb frb hbz hlz hW2 hpre hse h hbx how hb4x hc4x hob hrd hv
      go_wp2_with fail
      go_region_held3 (fun w' => w'.cell? ⟨w4.heap.size, 0, none⟩ = some (.slice R pre.length cR) ∧ w'.cell? ⟨rb, 0, none⟩ = some (.slice (some ⟨g, 0, none⟩) l.length l.length) ∧ w'.cell? ⟨rb, 1, none⟩ = some (.slice Rz se.lg.length cz)) (first | exact ⟨x0, y0, y1⟩ | exact ks | go_keep) (fail)
      go_wp2_with fail
      obtain ⟨X, hX⟩ : ∃ X : World, (((W2.setCell ⟨w.heap.size + 1, 0, none⟩ (.slice R pre.length cR)).setCell ⟨w.heap.size + 1, 1, none⟩ (.slice (some ⟨g, 0, none⟩) l.length l.length)).setCell ⟨w.heap.size + 1, 2, none⟩ (.slice Rz se.lg.length cz)).drew = X := ⟨_, rfl⟩
      rw [hX]
      have hD := HD.out
      have hkeep : ∀ b, b ≠ w.heap.size + 1 → X.heap[b]? = W2.heap[b]? := fun b hb => by
        rw [← hX]
        exact (Below.heap_setCell _ _ _ _ hb).trans ((Below.heap_setCell _ _ _ _ hb).trans (Below.heap_setCell _ _ _ _ hb))
      have hzX : X.heap.size = W2.heap.size := by rw [← hX]; simp [World.setCell, World.drew]
      have xO : Bk X (w.heap.size + 1) 66 [.slice R pre.length cR, .slice (some ⟨g, 0, none⟩) l.length l.length, .slice Rz se.lg.length cz] := by rw [← hX]; exact ((HbO.out.set_ 0 _).set_ 1 _).set_ 2 _
      have xI : IW w.heap.size rb g l.length l.length (.func (.func kf) #[] lb) se X := by
        obtain ⟨csz, hcz, hcsz⟩ := RS.cells Iwb.out
        exact ⟨(Iwb.out).tp, (Iwb.out).tc, r0, g0, ⟨csz, (hkeep _ gne).trans hcz, hcsz⟩, ⟨Rz, cz, (hkeep _ rbne).trans Hbz.out, Hlz.out.keep fun b _ hp => hkeep b (fun e => IsPl.not HbO.out (by decide) (e ▸ hp))⟩⟩
      have xB : Bk X rb 113 [.slice (some ⟨g, 0, none⟩) l.length l.length, .slice Rz se.lg.length cz, .func (.func kf) #[] lb] := (hkeep _ rbne).trans Hbz.out
      have xG : OwnG X w.heap.size Rz cz se.lg := Hlz.out.keep fun b _ hp => hkeep b (fun e => IsPl.not HbO.out (by decide) (e ▸ hp))
      have xJ : OwnJ X (w4.heap.size + 3) R cR pre := Howb.out.keepB fun g' cs hg' _ => hkeep g' (by omega)
      have xD : X.heap[D]? = some (.deferred (some [])) := (hkeep D (by omega)).trans Hdo.out
      have bW : Below w.heap.size w W2 := Hb4.out.trans (Frb.out.below r0 g0 z4)
      have bX : Below w.heap.size w X := by rw [← hX]; exact (((bW.setCell (p := ⟨w.heap.size + 1, 0, none⟩) (by simp) _).setCell (p := ⟨w.heap.size + 1, 1, none⟩) (by simp) _).setCell (p := ⟨w.heap.size + 1, 2, none⟩) (by simp) _).drew
      have noD : ∀ {g' : Nat} {t' : TypeId} {cs : List Value}, Bk X g' t' cs → g' ≠ D := fun hb' e' => by
        subst e'
        unfold Bk at hb'
        rw [hb'] at xD
        cases xD
      have pk : ∀ (o : Obj) {g' : Nat} {t' : TypeId} {cs : List Value}, Bk X g' t' cs → Bk (X.putObj D o) g' t' cs := fun o g' t' cs hb' => (World.putObj_heap_other (noD hb')).trans hb'
      have q0 : ∀ o : Obj, (X.putObj D o).cell? ⟨w.heap.size + 1, 0, none⟩ = some (.slice R pre.length cR) := fun o => (pk o xO).cell 0
      have q1 : ∀ o : Obj, (X.putObj D o).cell? ⟨w.heap.size + 1, 1, none⟩ = some (.slice (some ⟨g, 0, none⟩) l.length l.length) := fun o => (pk o xO).cell 1
      have q2 : ∀ o : Obj, (X.putObj D o).cell? ⟨w.heap.size + 1, 2, none⟩ = some (.slice Rz se.lg.length cz) := fun o => (pk o xO).cell 2
      refine ⟨by simp, .inl ⟨_, _, rfl, run_takeDeferred (b := D) (ds := []) xD, ?_⟩⟩
      refine ⟨.agg #[.slice R pre.length cR, .slice (some ⟨g, 0, none⟩) l.length l.length, .slice Rz se.lg.length cz], by simp [results, Try.results60, go_sem, q0, q1, q2], rb, g, .func (.func kf) #[] lb, pre, se, R, cR, Rz, cz, rfl, Hres.out, RS.put_obj xI _ ⟨_, xD, rfl⟩, pk _ xB, ?_, ?_, Hok.out, ?_⟩
      · exact xG.keep fun b _ hp => World.putObj_heap_other (fun e => by subst e; obtain ⟨ds, fr, hq⟩ := hp; rw [xD] at hq; cases hq)
      · exact (xJ.keepB fun g' cs _ hb' => World.putObj_heap_other (noD hb')).base_ (by omega)
      · exact ⟨bX.os, bX.tape, bX.output, by rw [World.putObj_size]; exact bX.size, fun b hb => (World.putObj_heap_other (by omega)).trans (bX.block b hb)⟩


end Go.Proofs.Ytjhdjfobbgfpfaa

/- The state before the first pull is one of the pipe. -/
namespace Go.Proofs.Ytjhdjfobbgfpfaa
open Go.RowKit

theorem mostOf_nonneg {x : Nd} {src : List (List Int)} (hn : numsOk x = true) : 0 ≤ mostOf x src := by
  unfold mostOf
  repeat' split
  all_goals first
    | omega
    | exact Int.natCast_nonneg _
    | (simp only [numsOk] at hn; simp_all [inR] <;> omega)
theorem newPS_ok {l : List Nd} {src : List (List Int)} (hp : PipeOk l) : StOk l src (newPS l.length).cs := by
  refine ⟨by simp [newPS], fun i x c hx hc => ?_⟩
  have hn : numsOk x = true := by
    have h1 := hp.node i x hx
    simp only [nodeOk, Bool.and_eq_true] at h1
    exact h1.1
  have hi : i < l.length := (List.getElem?_eq_some_iff.1 hx).1
  simp only [newPS] at hc
  rw [List.getElem?_replicate, if_pos hi] at hc
  obtain rfl := Option.some.inj hc
  exact ⟨⟨by decide, mostOf_nonneg hn⟩, by decide, by decide⟩
theorem wsum_le {f : Nd → Cl → Nat} {b : Nat} (h : ∀ x c, f x c ≤ b) : ∀ (l : List Nd) (cs : List Cl), wsum f l cs ≤ b * l.length
  | [], _ => Nat.zero_le _
  | _ :: _, [] => Nat.zero_le _
  | x :: l, c :: cs => by
    have h1 := h x c
    have h2 := wsum_le h l cs
    simp only [wsum, List.length_cons, Nat.mul_succ]
    omega
theorem wSrc_le {src : List (List Int)} (hs : srcOk src = true) (x : Nd) (c : Cl) : wSrc src x c ≤ 13 := by
  unfold wSrc
  split
  · have : (src.getD x.n.toNat []).length ≤ 12 := by
      rw [List.getD_eq_getElem?_getD]
      cases h : src[x.n.toNat]? with
      | none => simp
      | some r => exact (src_rows hs).2 r (List.mem_of_getElem? h)
    split <;> omega
  · omega
theorem newPS_W {l : List Nd} {src : List (List Int)} (hs : srcOk src = true) (hl : l.length ≤ 12) : (newPS l.length).W l src ≤ 65536 := by
  have h := wsum_le (wSrc_le hs) l (newPS l.length).cs
  unfold PS.W
  omega

end Go.Proofs.Ytjhdjfobbgfpfaa

/- Contracts: pulls by the program: pulls at arguments that are not valid. -/
namespace Go.Proofs.Ytjhdjfobbgfpfaa
open Go.RowKit

set_option maxRecDepth 100000 in
set_option maxHeartbeats 6400000 in
theorem pullTimes_no {l : List Nd} {src : List (List Int)} {A : Option Addr} {c : Nat} {As : Option Addr} {ca : Nat} (k : Int) (hno : (pipeOk l && srcOk src && inR k 0 200) = false) (w : World) (hn : RdN w w.heap.size A l) (hsr : RdR w w.heap.size As src) (hnl : l.length ≤ 1048576) (hns : src.length ≤ 1048576) (hm : Hid (∀ r ∈ src, r.length ≤ 1048576)) :
    Calls Try.prog 60 #[.agg #[.slice A l.length c], .slice As src.length ca, .int .i64 k] w fun e w' => e = .returned (.agg #[.slice none 0 0, .slice none 0 0, .slice none 0 0]) ∧ Below w.heap.size w w' := by
  obtain ⟨W1, hW1⟩ : ∃ X : World, X = (w.alloc (.cells #[.slice A l.length c] 32)).alloc (.cells #[.slice none 0 0, .slice none 0 0, .slice none 0 0] 66) := ⟨_, rfl⟩
  have hb1 : Below w.heap.size w W1 := by rw [hW1]; exact below2 w _ _
  have kO : Bk W1 (w.heap.size + 1) 66 [.slice none 0 0, .slice none 0 0, .slice none 0 0] := by
    rw [hW1]
    have := Bk.new (w.alloc (.cells #[.slice A l.length c] 32)) 66 [.slice none 0 0, .slice none 0 0, .slice none 0 0]
    simpa using this
  have hvp := implValidPipe_any A c l W1 w.heap.size (hn.below hb1 (Nat.le_refl _)) hb1.size hnl
  have HW1 := Lib.hid hW1
  have Hb1 := Lib.hid hb1
  have HkO := Lib.hid kO
  have Hvp := Lib.hid hvp
  have Hsr := Lib.hid hsr
  have Hno := Lib.hid hno
  have z1 := hb1.size
  clear hW1 hb1 kO hvp hn hsr hno
  go_enter Try.func60, Try.ntmps60
  go_wp2_with fail
  rw [← HW1.out]
  refine Hvp.out.mono ?_
  rintro e w2 ⟨rfl, hb2⟩
  have hvs := implValidSources_any As ca src w2 w.heap.size (Hsr.out.below (Hb1.out.trans (hb2.mono z1)) (Nat.le_refl _)) hns hm.out
  have Hvs := Lib.hid hvs
  have Hb2 := Lib.hid (Hb1.out.trans (hb2.mono z1))
  have kO2 := HkO.out.below hb2 HkO.out.lt
  have o0 := kO2.cell 0
  have o1 := kO2.cell 1
  have o2 := kO2.cell 2
  have p0 := kO2.free 0
  have p1 := kO2.free 1
  have p2 := kO2.free 2
  have kO3 := ((kO2.set_ 0 (.slice none 0 0)).set_ 1 (.slice none 0 0)).set_ 2 (.slice none 0 0)
  have q0 := kO3.cell 0
  have q1 := kO3.cell 1
  have q2 := kO3.cell 2
  simp only [List.getElem?_cons_succ, List.getElem?_cons_zero, List.set_cons_zero, List.set_cons_succ] at o0 o1 o2 q0 q1 q2
  have olt := kO2.lt
  clear hb2 hvs kO2 kO3
  cases hv : pipeOk l with
  | false =>
    clear Hvs Hno
    go_wp2_with fail
    refine bodyPost_ret (v := .agg #[.slice none 0 0, .slice none 0 0, .slice none 0 0]) (by simp [results, Try.results60, go_sem, q0, q1, q2]) rfl ⟨rfl, ?_⟩
    exact ((Hb2.out.setCell (p := ⟨w.heap.size + 1, 0, none⟩) (by simp) _).setCell (p := ⟨w.heap.size + 1, 1, none⟩) (by simp) _).setCell (p := ⟨w.heap.size + 1, 2, none⟩) (by simp) _
  | true =>
    rw [hv] at Hno
    cases hs : srcOk src with
    | false =>
      rw [hs] at Hvs
      clear Hno
      go_wp2_with fail
      refine Hvs.out.mono ?_
      rintro e w3 ⟨rfl, rfl⟩
      go_wp2_with fail
      refine bodyPost_ret (v := .agg #[.slice none 0 0, .slice none 0 0, .slice none 0 0]) (by simp [results, Try.results60, go_sem, q0, q1, q2]) rfl ⟨rfl, ?_⟩
      exact ((Hb2.out.setCell (p := ⟨w.heap.size + 1, 0, none⟩) (by simp) _).setCell (p := ⟨w.heap.size + 1, 1, none⟩) (by simp) _).setCell (p := ⟨w.heap.size + 1, 2, none⟩) (by simp) _
    | true =>
      rw [hs] at Hvs Hno
      have hk : inR k 0 200 = false := by simpa using Hno.out
      go_wp2_with fail
      refine Hvs.out.mono ?_
      rintro e w3 ⟨rfl, rfl⟩
      go_wp2_with fail
      refine (within_any k 0 200 w2).mono ?_
      rintro e w3 ⟨rfl, rfl⟩
      rw [hk]
      go_wp2_with fail
      refine bodyPost_ret (v := .agg #[.slice none 0 0, .slice none 0 0, .slice none 0 0]) (by simp [results, Try.results60, go_sem, q0, q1, q2]) rfl ⟨rfl, ?_⟩
      exact ((Hb2.out.setCell (p := ⟨w.heap.size + 1, 0, none⟩) (by simp) _).setCell (p := ⟨w.heap.size + 1, 1, none⟩) (by simp) _).setCell (p := ⟨w.heap.size + 1, 2, none⟩) (by simp) _


end Go.Proofs.Ytjhdjfobbgfpfaa

/- Pulls one after the other are the items up to the first pull that gives none. -/
namespace Go.Proofs.Ytjhdjfobbgfpfaa
open Go.RowKit

theorem doneP_again {i : Nat} {f : PF} {s s' : PS} (hi : i < s'.cs.length) (h : doneP i f s = (s', none)) : doneP i f s' = (s', none) := by
  cases hd : (s.at_ i).d with
  | true =>
    have e := doneP_done (f := f) hd
    rw [e] at h
    obtain rfl : s = s' := (Prod.mk.inj h).1
    exact e
  | false =>
    rcases hf : f s with ⟨s2, o⟩
    cases o with
    | some v => rw [doneP_some hd hf] at h; cases (Prod.mk.inj h).2
    | none =>
      rw [doneP_none hd hf] at h
      obtain rfl := (Prod.mk.inj h).1
      have hl : i < s2.cs.length := by simpa [PS.put] using hi
      exact doneP_done (by rw [PS.at_put hl])
theorem pull_again {l : List Nd} {src : List (List Int)} (hp : PipeOk l) (hs : srcOk src = true) {fu : PS → Nat} {t : TI} (ht : IsTI l t) {s s' : PS} (ok : StOk l src s.cs) (h : pull src fu t s = (s', none)) : pull src fu t s' = (s', none) := by
  have hf := pull_fine hp hs (fu := fu) ht s ok
  rw [h] at hf
  have hlen := hf.ok.len
  cases ht with
  | leaf hx ha h1 h2 => exact doneP_again (by rw [hlen]; exact (List.getElem?_eq_some_iff.1 hx).1) h
  | stem hx ha h1 hj h2 ht => exact doneP_again (by rw [hlen]; exact (List.getElem?_eq_some_iff.1 hx).1) h
  | fork hx ha h1 hj h2 hj2 hta htb => exact doneP_again (by rw [hlen]; exact (List.getElem?_eq_some_iff.1 hx).1) h
theorem runP_snoc {l : List Nd} {src : List (List Int)} {j : Nat} {f : PF} (hF : Fine l src j f) (hA : ∀ s s', StOk l src s.cs → f s = (s', none) → f s' = (s', none)) : ∀ (k : Nat) (s : PS), StOk l src s.cs →
    runP f (k + 1) s = (match f (runP f k s).2 with
      | (s', none) => ((runP f k s).1, s')
      | (s', some v) => ((runP f k s).1 ++ [v], s'))
  | 0, s, ok => by
    rcases hf : f s with ⟨s1, o⟩
    cases o with
    | none => rw [runP_none hf]; simp only [runP]; rw [hf]
    | some v => rw [runP_some hf]; simp only [runP]; rw [hf]; rfl
  | k + 1, s, ok => by
    rcases hf : f s with ⟨s1, o⟩
    have h1 := hF s ok
    rw [hf] at h1
    cases o with
    | none =>
      rw [runP_none hf, runP_none hf]
      simp only
      rw [hA s s1 ok hf]
    | some v =>
      rw [runP_some hf, runP_some hf, runP_snoc hF hA k s1 h1.ok]
      simp only
      rcases f (runP f k s1).2 with ⟨s2, o2⟩
      cases o2 <;> rfl
theorem manyP_runP {l : List Nd} {src : List (List Int)} {j : Nat} {f : PF} (hF : Fine l src j f) (hA : ∀ s s', StOk l src s.cs → f s = (s', none) → f s' = (s', none)) {s : PS} (ok : StOk l src s.cs) : ∀ k, manyP f s k = runP f k s
  | 0 => rfl
  | k + 1 => by rw [runP_snoc hF hA k s ok, ← manyP_runP hF hA ok k]; rfl

end Go.Proofs.Ytjhdjfobbgfpfaa

/- Contracts: whether a state is one of a pipe and sources (the reference). -/
namespace Go.Proofs.Ytjhdjfobbgfpfaa
open Go.RowKit Go.Sort

end Go.Proofs.Ytjhdjfobbgfpfaa

/- Contracts: whether a state is one of a pipe and sources (the reference's and the program's doors). -/
namespace Go.Proofs.Ytjhdjfobbgfpfaa
open Go.RowKit Go.Sort

set_option maxHeartbeats 1600000 in
theorem specvalidInput_any (A0 : Option Addr) (c0 : Nat) (l : List Nd) (As : Option Addr) (ca : Nat) (src : List (List Int)) (w : World) (B : Nat) (h0 : RdN w B A0 l) (hs : RdR w B As src) (hB : B ≤ w.heap.size) (hn0 : l.length ≤ 1048576) (hns : src.length ≤ 1048576) (hm : Hid (∀ r ∈ src, r.length ≤ 1048576)) :
    Calls Try.prog 67 #[.agg #[.slice A0 l.length c0], .slice As src.length ca] w fun e w' => e = .returned (.bool (pipeOk l && srcOk src)) ∧ Below w.heap.size w w' := by
  obtain ⟨W0, hW0⟩ : ∃ W0 : World, W0 = w.alloc (.cells #[.slice A0 l.length c0] 32) := ⟨_, rfl⟩
  have hb0 : Below w.heap.size w W0 := by rw [hW0]; exact (Below.refl w.heap.size w).alloc (Nat.le_refl _) _
  have H0 := Lib.hid (h0.below hb0 hB)
  have S0 := Lib.hid (hs.below hb0 hB)
  have Hb0 := Lib.hid hb0
  have HW0 := Lib.hid hW0
  have hz0 := hb0.size
  clear h0 hs hb0 hW0
  cases hv : pipeOk l
  · have Hv := Lib.hid hv
    clear hv
    go_enter Try.func67, Try.ntmps67
    go_wp2_with fail
    rw [← HW0.out]
    refine (specvalidPipe_any A0 c0 l W0 B H0.out (by omega) hn0).mono ?_
    rintro e w1 ⟨rfl, hb1⟩
    rw [Hv.out]
    have Hb1 := Lib.hid hb1
    clear hb1
    go_wp2_with fail
    go_ret
    exact ⟨rfl, Hb0.out.trans (Hb1.out.mono hz0)⟩
  · have Hv := Lib.hid hv
    clear hv
    go_enter Try.func67, Try.ntmps67
    go_wp2_with fail
    rw [← HW0.out]
    refine (specvalidPipe_any A0 c0 l W0 B H0.out (by omega) hn0).mono ?_
    rintro e w1 ⟨rfl, hb1⟩
    rw [Hv.out]
    have S1 := Lib.hid (S0.out.below hb1 (by omega))
    have Hb1 := Lib.hid (Hb0.out.trans (hb1.mono hz0))
    clear hb1
    go_wp2_with fail
    refine (specvalidSources_any As ca src w1 B S1.out hns hm.out).mono ?_
    rintro e w2 ⟨rfl, rfl⟩
    go_wp2_with fail
    go_ret
    exact ⟨by simp, Hb1.out⟩

end Go.Proofs.Ytjhdjfobbgfpfaa

/- Contracts: pulls by the program: whether a pipe has ended. -/
namespace Go.Proofs.Ytjhdjfobbgfpfaa
open Go.RowKit

theorem fd_out1 (a1 a2 a3 : Option Addr) (n1 m1 n2 m2 n3 m3 : Nat) (w : World) : (Instr.field 66 (.agg #[.slice a1 n1 m1, .slice a2 n2 m2, .slice a3 n3 m3]) 1).run Try.prog w = .ok (.slice a2 n2 m2) w := by kernel_rfl
/-- Whether the pipe has ended after k pulls. -/
structure EndQ (l : List Nd) (src : List (List Int)) (k : Int) (q : Bool) : Prop where
  no : (pipeOk l && srcOk src && inR k 0 200) = false → q = false
  yes : (pipeOk l && srcOk src && inR k 0 200) = true → ∃ t, IsTI l t ∧ t.ix + 1 = l.length ∧ q = ((runP (pull src (fun s => s.M l src + 1) t) k.toNat (newPS l.length)).2.at_ t.ix).d
theorem EndQ.ex (l : List Nd) (src : List (List Int)) (k : Int) : ∃ q, EndQ l src k q := by
  cases hv : (pipeOk l && srcOk src && inR k 0 200) with
  | false => exact ⟨false, fun _ => rfl, fun h => absurd (hv.symm.trans h) (by decide)⟩
  | true =>
    have hv2 := hv
    simp only [Bool.and_eq_true] at hv2
    have hlow := low_of hv2.1.1
    obtain ⟨T, hT⟩ := IsTree.ex (pipeOk_iff.1 hv2.1.1) l.length (l.length - 1) (by omega) (by omega)
    obtain ⟨t, ht, hti, _⟩ := hT.ti
    exact ⟨_, fun h => absurd (hv.symm.trans h) (by decide), fun _ => ⟨t, ht, by omega, rfl⟩⟩


set_option maxRecDepth 100000 in
set_option maxHeartbeats 6400000 in
theorem implIsEnded_any {l : List Nd} {src : List (List Int)} {A : Option Addr} {c : Nat} {As : Option Addr} {ca : Nat} (k : Int) (q : Bool) (hq : Hid (EndQ l src k q)) (w : World) (hn : RdN w w.heap.size A l) (hsr : RdR w w.heap.size As src) (hnl : l.length ≤ 1048576) (hns : src.length ≤ 1048576) (hm : Hid (∀ r ∈ src, r.length ≤ 1048576)) :
    Calls Try.prog 40 #[.agg #[.slice A l.length c], .slice As src.length ca, .int .i64 k] w fun e w' => e = .returned (.bool q) ∧ Below w.heap.size w w' := by
  have hfd := fd_out1
  obtain ⟨W1, hW1⟩ : ∃ X : World, X = w.alloc (.cells #[.slice A l.length c] 32) := ⟨_, rfl⟩
  have hb1 : Below w.heap.size w W1 := by rw [hW1]; exact below1 w _
  have z1 := hb1.size
  have hn1 : RdN W1 W1.heap.size A l := (hn.below hb1 (Nat.le_refl _)).more z1
  have hr1 : RdR W1 W1.heap.size As src := (hsr.below hb1 (Nat.le_refl _)).more z1
  have Hn := Lib.hid hn1
  have Hsr := Lib.hid hr1
  have HW1 := Lib.hid hW1
  have Hb1 := Lib.hid hb1
  clear hn hsr hn1 hr1 hW1 hb1
  cases hv : (pipeOk l && srcOk src && inR k 0 200) with
  | false =>
    obtain rfl := hq.out.no hv
    have Hv := Lib.hid hv
    clear hv
    go_enter Try.func40, Try.ntmps40
    go_wp2_with fail
    rw [← HW1.out]
    refine (pullTimes_no k Hv.out W1 Hn.out Hsr.out hnl hns hm).mono ?_
    rintro e w2 ⟨rfl, hb2⟩
    have Hb2 := Lib.hid (Hb1.out.trans (hb2.mono z1))
    clear hb2
    go_wp2_with fail
    refine bodyPost_ret (v := .bool false) (by simp [results, Try.results40, go_sem]) rfl ⟨rfl, Hb2.out⟩
  | true =>
    have hyes := hq.out.yes hv
    simp only [Bool.and_eq_true] at hv
    obtain ⟨⟨hp, hs⟩, hk⟩ := hv
    obtain ⟨kn, rfl⟩ : ∃ kn : Nat, k = (kn : Int) := ⟨k.toNat, by simp [inR] at hk; omega⟩
    have hkn : kn ≤ 200 := by simp [inR] at hk; omega
    have h3 := (src_rows hs).1
    have hhigh := high_of hp
    obtain ⟨t, ht, hix, hqt⟩ := hyes
    have hcall := pullTimes_any (c := c) (ca := ca) (pipeOk_iff.1 hp) hp hs h3 hhigh ht hix (newPS_ok (pipeOk_iff.1 hp)) (newPS_W hs hhigh) kn hkn W1 Hn.out Hsr.out
    have hln : IntKind.i64.wrap ((l.length : Int) - 1) = (t.ix : Int) := by rw [IntWalk.i64_in _ (by omega)]; omega
    have hpos : (0 : Int) < (l.length : Int) := by omega
    rw [h3]
    have Hcall := Lib.hid hcall
    have Hq := Lib.hid hqt
    have Hln := Lib.hid hln
    have Hix := Lib.hid hix
    clear hp hs hk h3 ht hix hqt hcall hq hln
    go_enter Try.func40, Try.ntmps40
    go_wp2_with fail
    rw [← HW1.out]
    refine Hcall.out.mono ?_
    rintro e w2 ⟨rb, cb, fe, pre, s, R, cR, Rp, cp, rfl, hrun, iw, hbk, hog, how, hok, hb2⟩
    have hls : t.ix < s.cs.length := by rw [hok.len]; have := Hix.out; omega
    have hcl := (RS.cl iw (i := t.ix) hls).c5
    rw [Int.toNat_natCast, hrun] at Hq
    have e1 : q = (s.at_ t.ix).d := Hq.out
    rw [← e1] at hcl
    have Hb2 := Lib.hid (Hb1.out.trans (hb2.mono z1))
    have hln := Hln.out
    have i0 : (0 : Int) ≤ (t.ix : Int) := by omega
    have i1 : (t.ix : Int) < (l.length : Int) := by have := Hix.out; omega
    clear hrun iw hbk hog how hok hb2 e1 Hq hls
    go_wp2_with fail
    refine bodyPost_ret (v := .bool q) (by simp [results, Try.results40, go_sem]) rfl ⟨rfl, Hb2.out⟩

set_option maxRecDepth 100000 in
set_option maxHeartbeats 6400000 in
theorem specvalidPulls_any {l : List Nd} {src : List (List Int)} {A : Option Addr} {c : Nat} {As : Option Addr} {ca : Nat} (k : Int) (w : World) (hn : RdN w w.heap.size A l) (hsr : RdR w w.heap.size As src) (hnl : l.length ≤ 1048576) (hns : src.length ≤ 1048576) (hm : Hid (∀ r ∈ src, r.length ≤ 1048576)) :
    Calls Try.prog 57 #[.agg #[.slice A l.length c], .slice As src.length ca, .int .i64 k] w fun e w' => e = .returned (.bool (pipeOk l && srcOk src && inR k 0 200)) ∧ Below w.heap.size w w' := by
  obtain ⟨W1, hW1⟩ : ∃ X : World, X = w.alloc (.cells #[.slice A l.length c] 32) := ⟨_, rfl⟩
  have hb1 : Below w.heap.size w W1 := by rw [hW1]; exact below1 w _
  have z1 := hb1.size
  have hcall := specvalidInput_any A c l As ca src W1 W1.heap.size ((hn.below hb1 (Nat.le_refl _)).more z1) ((hsr.below hb1 (Nat.le_refl _)).more z1) (Nat.le_refl _) hnl hns hm
  have HW1 := Lib.hid hW1
  have Hb1 := Lib.hid hb1
  have Hcall := Lib.hid hcall
  clear hn hsr hW1 hb1 hcall
  go_enter Try.func57, Try.ntmps57
  go_wp2_with fail
  rw [← HW1.out]
  refine Hcall.out.mono ?_
  rintro e w2 ⟨rfl, hb2⟩
  have Hb2 := Lib.hid (Hb1.out.trans (hb2.mono z1))
  clear hb2
  cases hv : (pipeOk l && srcOk src) with
  | false =>
    have Hv := Lib.hid hv
    clear hv
    go_wp2_with fail
    refine bodyPost_ret (v := .bool false) (by simp [results, Try.results57, go_sem]) rfl ⟨by simp [Hv.out], Hb2.out⟩
  | true =>
    have Hv := Lib.hid hv
    clear hv
    go_wp2_with fail
    refine (specInR_any k 0 200 w2).mono ?_
    rintro e w3 ⟨rfl, rfl⟩
    go_wp2_with fail
    refine bodyPost_ret (v := .bool (inR k 0 200)) (by simp [results, Try.results57, go_sem]) rfl ⟨by simp [Hv.out], Hb2.out⟩

set_option maxRecDepth 100000 in
set_option maxHeartbeats 6400000 in
theorem specIsEnded_any {l : List Nd} {src : List (List Int)} {A : Option Addr} {c : Nat} {As : Option Addr} {ca : Nat} (k : Int) (q : Bool) (hq : Hid (EndQ l src k q)) (w : World) (hn : RdN w w.heap.size A l) (hsr : RdR w w.heap.size As src) (hnl : l.length ≤ 1048576) (hns : src.length ≤ 1048576) (hm : Hid (∀ r ∈ src, r.length ≤ 1048576)) :
    Calls Try.prog 39 #[.agg #[.slice A l.length c], .slice As src.length ca, .int .i64 k] w fun e w' => e = .returned (.bool q) ∧ Below w.heap.size w w' := by
  obtain ⟨W1, hW1⟩ : ∃ X : World, X = w.alloc (.cells #[.slice A l.length c] 32) := ⟨_, rfl⟩
  have hb1 : Below w.heap.size w W1 := by rw [hW1]; exact below1 w _
  have kE : Bk W1 w.heap.size 32 [.slice A l.length c] := by rw [hW1]; exact Bk.new _ _ [_]
  have z1 := hb1.size
  have hn1 : RdN W1 W1.heap.size A l := (hn.below hb1 (Nat.le_refl _)).more z1
  have hr1 : RdR W1 W1.heap.size As src := (hsr.below hb1 (Nat.le_refl _)).more z1
  have hcall := specvalidPulls_any (c := c) (ca := ca) k W1 hn1 hr1 hnl hns hm
  have Hn := Lib.hid hn1
  have Hsr := Lib.hid hr1
  have HW1 := Lib.hid hW1
  have Hb1 := Lib.hid hb1
  have HkE := Lib.hid kE
  clear hn hsr hn1 hr1 hW1 hb1 kE
  cases hv : (pipeOk l && srcOk src && inR k 0 200) with
  | false =>
    obtain rfl := hq.out.no hv
    rw [hv] at hcall
    have Hcall := Lib.hid hcall
    clear hv hcall
    go_enter Try.func39, Try.ntmps39
    go_wp2_with fail
    rw [← HW1.out]
    refine Hcall.out.mono ?_
    rintro e w2 ⟨rfl, hb2⟩
    have Hb2 := Lib.hid (Hb1.out.trans (hb2.mono z1))
    clear hb2
    go_wp2_with fail
    refine bodyPost_ret (v := .bool false) (by simp [results, Try.results39, go_sem]) rfl ⟨rfl, Hb2.out⟩
  | true =>
    have hyes := hq.out.yes hv
    rw [hv] at hcall
    simp only [Bool.and_eq_true] at hv
    obtain ⟨⟨hp, hs⟩, hk⟩ := hv
    obtain ⟨kn, rfl⟩ : ∃ kn : Nat, k = (kn : Int) := ⟨k.toNat, by simp [inR] at hk; omega⟩
    have hkn : kn ≤ 200 := by simp [inR] at hk; omega
    have h3 := (src_rows hs).1
    have hhigh := high_of hp
    obtain ⟨t, ht, hix, hqt⟩ := hyes
    have hF := pull_fine (pipeOk_iff.1 hp) hs (fu := fun s => s.M l src + 1) ht
    have hpul := fun (W : World) (hnW : RdN W W.heap.size A l) (hsW : RdR W W.heap.size As src) => specPulled_any (c := c) (ca := ca) hhigh hF (fun pb cb n0 => NextOk.of (pipeOk_iff.1 hp) hs hhigh ht) hix (newPS_ok (pipeOk_iff.1 hp)) (newPS_W hs hhigh) kn hkn W hnW hsW
    have hmany := manyP_runP hF (fun s s' ok h => pull_again (pipeOk_iff.1 hp) hs ht ok h) (newPS_ok (pipeOk_iff.1 hp)) kn
    have hln : IntKind.i64.wrap ((l.length : Int) - 1) = (t.ix : Int) := by rw [IntWalk.i64_in _ (by omega)]; omega
    rw [h3] at hcall ⊢
    have Hcall := Lib.hid hcall
    have Hpul := Lib.hid hpul
    have Hmany := Lib.hid hmany
    have Hq := Lib.hid hqt
    have Hln := Lib.hid hln
    have Hix := Lib.hid hix
    clear hp hs hk h3 ht hix hqt hcall hq hln hF hpul hmany
    go_enter Try.func39, Try.ntmps39
    go_wp2_with fail
    rw [← HW1.out]
    refine Hcall.out.mono ?_
    rintro e w2 ⟨rfl, hb2⟩
    have Hb2 := Lib.hid (Hb1.out.trans (hb2.mono z1))
    have kE2 := HkE.out.below hb2 HkE.out.lt
    have e2 := kE2.cell 0
    simp only [List.getElem?_cons_zero] at e2
    have hz2 := hb2.size
    have hpc := Hpul.out w2 ((Hn.out.below hb2 (Nat.le_refl _)).more hz2) ((Hsr.out.below hb2 (Nat.le_refl _)).more hz2)
    have Hpc := Lib.hid hpc
    have HkE2 := Lib.hid kE2
    clear hb2 hpc kE2
    go_wp2_with fail
    refine Hpc.out.mono ?_
    rintro e w3 ⟨pb, cb, R, cR, pre, s, rfl, h⟩
    have hls : t.ix < s.cs.length := by rw [h.ok.len]; have := Hix.out; omega
    have hcl := (RS.cl h.sw.rs (i := t.ix) hls).c5
    have he := h.e
    rw [Hmany.out] at he
    rw [Int.toNat_natCast, he] at Hq
    have e1 : q = (s.at_ t.ix).d := Hq.out
    rw [← e1] at hcl
    obtain ⟨b0, b1, b2⟩ := h.sw.bx
    have hz12 := Hb2.out.size
    have Hb3 := Lib.hid (Hb2.out.trans (h.bl.mono hz12))
    have hE3 := (HkE2.out.below h.bl HkE2.out.lt).cell 0
    simp only [List.getElem?_cons_zero] at hE3
    have hln := Hln.out
    have i0 : (0 : Int) ≤ (t.ix : Int) := by omega
    have i1 : (t.ix : Int) < (l.length : Int) := by have := Hix.out; omega
    clear he e1 Hq hls h e2
    go_wp2_with fail
    go_region_held3 (fun w' => w'.cell? ⟨pb, 2, none⟩ = some (.slice (some ⟨cb, 0, none⟩) l.length l.length) ∧ w'.cell? ⟨w.heap.size, 0, none⟩ = some (.slice A l.length c) ∧ w'.cell? ⟨cb, t.ix * 6 + 5, none⟩ = some (.bool q)) (first | exact ⟨b2, hE3, hcl⟩ | go_keep) (fail)
    go_wp2_with fail
    refine bodyPost_ret (v := .bool q) (by simp [results, Try.results39, go_sem]) rfl ⟨rfl, Hb3.out.drew⟩


theorem implIsEnded_l {A : Option Addr} {c : Nat} (l : List Nd) {As : Option Addr} {ca : Nat} (src : List (List Int)) (k : Int) (w : World) (B : Nat) (q : Bool) (hq : Hid (EndQ l src k q)) (hn : RdN w B A l) (hsr : RdR w B As src) (hB : B ≤ w.heap.size) (hnl : l.length ≤ 1048576) (hns : src.length ≤ 1048576) (hm : Hid (∀ r ∈ src, r.length ≤ 1048576)) :
    Calls Try.prog 40 #[.agg #[.slice A l.length c], .slice As src.length ca, .int .i64 k] w fun e w' => e = .returned (.bool q) ∧ Below w.heap.size w w' := implIsEnded_any k q hq w (hn.more hB) (hsr.more hB) hnl hns hm
theorem specIsEnded_l {A : Option Addr} {c : Nat} (l : List Nd) {As : Option Addr} {ca : Nat} (src : List (List Int)) (k : Int) (w : World) (B : Nat) (q : Bool) (hq : Hid (EndQ l src k q)) (hn : RdN w B A l) (hsr : RdR w B As src) (hB : B ≤ w.heap.size) (hnl : l.length ≤ 1048576) (hns : src.length ≤ 1048576) (hm : Hid (∀ r ∈ src, r.length ≤ 1048576)) :
    Calls Try.prog 39 #[.agg #[.slice A l.length c], .slice As src.length ca, .int .i64 k] w fun e w' => e = .returned (.bool q) ∧ Below w.heap.size w w' := specIsEnded_any k q hq w (hn.more hB) (hsr.more hB) hnl hns hm

end Go.Proofs.Ytjhdjfobbgfpfaa

/- Slices of slices of numbers that a call made: kept, read and marked. -/
namespace Go.Proofs.Ytjhdjfobbgfpfaa
open Go.RowKit

/-- Rows in memory of a call's own, blocks lo to hi. -/
def OwnS (w : World) (lo hi : Nat) (A : Option Addr) (rows : List (List Int)) : Prop :=
  ∃ g gs, A = some ⟨g, 0, none⟩ ∧ OwnR w 28 3 lo g gs rows ∧ g < hi ∧ ∀ x ∈ gs, x < hi

section
variable {w w' : World} {lo hi : Nat} {A : Option Addr} {rows : List (List Int)}
theorem OwnS.of {g : Nat} (h : ∃ gs, OwnR w 28 3 lo g gs rows) : OwnS w lo w.heap.size (some ⟨g, 0, none⟩) rows := by
  obtain ⟨gs, h⟩ := h
  exact ⟨g, gs, rfl, h, h.top.lt, h.lt_⟩
theorem OwnS.agree (h : OwnS w lo hi A rows) (hag : ∀ b, lo ≤ b → b < hi → w'.heap[b]? = w.heap[b]?) : OwnS w' lo hi A rows := by
  obtain ⟨g, gs, rfl, h, hg, hx⟩ := h
  refine ⟨g, gs, rfl, ⟨h.base_, h.len, h.up, h.asc, (hag g h.base_ hg).trans h.top, fun j x r hj hr => ?_⟩, hg, hx⟩
  have hm := List.mem_of_getElem? hj
  exact (hag x (by have := h.up x hm; have := h.base_; omega) (hx x hm)).trans (h.row j x r hj hr)
theorem OwnS.held (h : OwnS w lo hi A rows) (h1 : lo ≤ hi) (h2 : hi ≤ w.heap.size) : Held w lo hi (fun v => OwnS v lo hi A rows) := ⟨h1, h2, fun _ _ hag => h.agree hag⟩
theorem OwnS.rdt (h : OwnS w lo hi A rows) (_ : hi ≤ w.heap.size) : RdR w w.heap.size A rows := by
  obtain ⟨g, gs, rfl, h, _, _⟩ := h
  exact h.rd (Nat.le_refl _)
end

theorem bulk_len (rows : List (List Int)) : rows.length ≤ bulk rows := Nat.le_add_right _ _
theorem bulk_row {rows : List (List Int)} {r : List Int} (h : r ∈ rows) : r.length ≤ bulk rows := Nat.le_trans (len_le_bulk h) (Nat.le_add_left _ _)

/-- The rows are there, whatever numbers they hold. -/
structure Rowed (w : World) (g : Nat) (gs : List Nat) (rows : List (List Int)) : Prop where
  top : Bk w g 28 (List.zipWith (fun x (r : List Int) => Value.slice (some ⟨x, 0, none⟩) r.length r.length) gs rows)
  row : ∀ (j x : Nat) (r : List Int), gs[j]? = some x → rows[j]? = some r → ∃ r' : List Int, r'.length = r.length ∧ OwnI w x (x + 1) (some ⟨x, 0, none⟩) r'

set_option maxHeartbeats 1600000 in
theorem markIntSS_h {lo hi : Nat} {A : Option Addr} {c : Nat} {rows : List (List Int)} {w : World} (k : Int) (h : OwnS w lo hi A rows) (hn : rows.length ≤ 1048576) (hm : ∀ r ∈ rows, r.length ≤ 1048576) (hbk : bulk rows ≤ 1048576) (hk0 : 0 ≤ k) (hk1 : k ≤ 14680064) :
    Calls Try.prog 24 #[.slice A rows.length c, .int .i64 k] w fun e w' => e = .returned (.int .i64 (k + ((rows.map List.length).sum : Nat))) ∧ Chg lo hi w w' := by
  obtain ⟨g, gs, rfl, h, hg, hx⟩ := h
  have hR : Rowed w g gs rows := ⟨h.top, fun j x r hj hr => ⟨r, rfl, (h.row j x r hj hr).ownI (Nat.le_refl _) (Nat.lt_succ_self _)⟩⟩
  have hsum : (rows.map List.length).sum ≤ 1048576 := by unfold bulk at hbk; omega
  have HR := Lib.hid hR
  have Hh := Lib.hid h
  have Hx := Lib.hid hx
  have Hm := Lib.hid hm
  clear h hR hx hm
  go_enter Try.func24, Try.ntmps24
  go_wp2
  go_loopw [1, 5] (fun s i wr => ∃ j : Nat, j ≤ rows.length ∧ i = .int .i64 j ∧ (∃ m : Int, m = k + (((rows.take j).map List.length).sum : Nat) ∧ s = .int .i64 m) ∧ Rowed wr g gs rows ∧ Chg lo hi w wr) (fun _ i _ => rows.length - (intOf i).toNat)
  case atStart => exact ⟨0, Nat.zero_le _, rfl, ⟨k, by simp, rfl⟩, HR.out, Chg.refl _ _ _⟩
  case round =>
    obtain ⟨j, hj, rfl, ⟨m, hmm, rfl⟩, hR, hc⟩ := hrel
    have hle := sum_take_le rows j
    have hm0 : 0 ≤ m := by omega
    have hm1 : m ≤ 16777216 := by omega
    by_cases hlt : j < rows.length
    · obtain ⟨r, hr⟩ := get_of_lt rows hlt
      obtain ⟨x, hgx⟩ := get_of_lt gs (k := j) (by rw [Hh.out.len]; exact hlt)
      obtain ⟨r', hrl, hown⟩ := hR.row j x r hgx hr
      have htop : wr.cell? ⟨g, j, none⟩ = some (.slice (some ⟨x, 0, none⟩) r.length r.length) := by rw [hR.top.cell, List.getElem?_zipWith, hgx, hr]
      have hrn : r.length ≤ 1048576 := Hm.out r (List.mem_of_getElem? hr)
      have hsucc := sum_take_succ hr
      have HC := Lib.hid (markIntS_h (c := r.length) m hown (by rw [hrl]; exact hrn) hm0 hm1)
      rw [hrl] at HC
      have Hr := Lib.hid hr
      have Hgx := Lib.hid hgx
      have HR2 := Lib.hid hR
      have Hc := Lib.hid hc
      have Hmm := Lib.hid hmm
      have Hsu := Lib.hid hsucc
      have Hrl := Lib.hid hrl
      clear hr hgx hR hc hmm hown hsucc hrl
      go_wp2_with (go_at_call 25; refine HC.out.mono ?_; rintro e w1 ⟨rfl, ho1, hc1⟩; have Ho1 := Lib.hid ho1; have Hc1 := Lib.hid hc1; clear ho1 hc1)
      go_roundw
      case rel =>
        have hxg : g < x := Hh.out.up x (List.mem_of_getElem? Hgx.out)
        have hxl : lo ≤ x := by have := Hh.out.base_; omega
        have hxh : x < hi := Hx.out x (List.mem_of_getElem? Hgx.out)
        refine ⟨j + 1, by omega, by go_num, ⟨_, by rw [Hmm.out, Hsu.out]; omega, rfl⟩, ⟨?_, fun i y q hi hq => ?_⟩, Hc.out.trans (Hc1.out.wide hxl (by omega))⟩
        · exact (Hc1.out.block g HR2.out.top.lt (by omega)).trans HR2.out.top
        · by_cases e : i = j
          · subst e
            obtain rfl := Option.some.inj (Hgx.out.symm.trans hi)
            obtain rfl := Option.some.inj (Hr.out.symm.trans hq)
            exact ⟨mkI r'.length m, by rw [mkI_len]; exact Hrl.out, by rw [Hrl.out]; exact Ho1.out⟩
          · obtain ⟨q', hql, hqo⟩ := HR2.out.row i y q hi hq
            refine ⟨q', hql, fun hpos => ?_⟩
            obtain ⟨gg, oo, cs, hA, h1, h2, hb, hcc⟩ := hqo hpos
            have hne : y ≠ x := by
              intro e2
              subst e2
              have hil : i < gs.length := (List.getElem?_eq_some_iff.1 hi).1
              have hjl : j < gs.length := (List.getElem?_eq_some_iff.1 Hgx.out).1
              have hp := List.pairwise_iff_getElem.1 Hh.out.asc
              have e3 : gs[i] = y := (List.getElem?_eq_some_iff.1 hi).2
              have e4 : gs[j] = y := (List.getElem?_eq_some_iff.1 Hgx.out).2
              rcases Nat.lt_or_gt_of_ne e with h | h
              · have := hp i j hil hjl h; omega
              · have := hp j i hjl hil h; omega
            exact ⟨gg, oo, cs, hA, h1, h2, (Hc1.out.block gg hb.lt (by omega)).trans hb, hcc⟩
      case measure => simp [intOf]; omega
    · obtain rfl : j = rows.length := by omega
      have Hc := Lib.hid hc
      have Hmm := Lib.hid hmm
      clear hR hc hmm
      go_wp2
      go_ret
      exact ⟨ret_int (by rw [Hmm.out, List.take_length]), Hc.out⟩

end Go.Proofs.Ytjhdjfobbgfpfaa

/- Arguments that came in, opened: a slice of nodes, and a pipe, read as a list of nodes. -/
namespace Go.Proofs.Ytjhdjfobbgfpfaa
open Go.ChangeShapes Go.WideShapes Go.ChangeAt Go.RowKit Go.Deep

section
variable {H : Type} {enc : TypeId × Value → H} {P : Program} {W : World}
theorem five_cells {e q : TypeId} {fs : Array Field} {fuel : Nat} {cs : List Value} {x : DataW H × List MemPlace} (he : P.underlying e = some (.struct fs)) (h5 : fs.size = 5) (hone : oneCellFields P fs = true) (hall : fs.all (fun f => f.type == q) = true)
    (hq : P.underlying q = some (.int .i64)) (ce : P.cellsOf e = 5) (h : DataW.trod enc P W 0 (fun _ => true) true fuel e cs = some x) :
    ∃ k a b n m : Int, cs = [.int .i64 k, .int .i64 a, .int .i64 b, .int .i64 n, .int .i64 m] := by
  obtain ⟨xs, n, _, _, hl, hxl, hf⟩ := DataW.trod_struct he h
  rw [ce] at hl
  have one : ∀ j, j < 5 → ∃ v : Int, cs[j]? = some (.int .i64 v) := fun j hj => by
    have hjf : fs[j]? = some (fs[j]'(by omega)) := Array.getElem?_eq_getElem (by omega)
    obtain ⟨ho, hk⟩ := hone_of hone j _ hjf
    have ht : (fs[j]'(by omega)).type = q := by
      have := Array.all_eq_true.1 hall j (by omega)
      simpa using this
    have h1 := hf j _ hjf
    rw [ho, hk, ht] at h1
    have hx : xs[j]? = some (xs[j]'(by omega)) := List.getElem?_eq_getElem (by omega)
    rw [hx] at h1
    obtain ⟨v, hv, _, _⟩ := DataW.trod_int hq h1
    refine ⟨v, ?_⟩
    have : ((cs.drop j).take 1)[0]? = some (.int .i64 v) := by rw [hv]; rfl
    simpa using this
  obtain ⟨k, h0⟩ := one 0 (by omega)
  obtain ⟨a, h1⟩ := one 1 (by omega)
  obtain ⟨b, h2⟩ := one 2 (by omega)
  obtain ⟨n', h3⟩ := one 3 (by omega)
  obtain ⟨m, h4⟩ := one 4 (by omega)
  refine ⟨k, a, b, n', m, ?_⟩
  apply List.ext_getElem?
  intro i
  match i with
  | 0 => rw [h0]; rfl
  | 1 => rw [h1]; rfl
  | 2 => rw [h2]; rfl
  | 3 => rw [h3]; rfl
  | 4 => rw [h4]; rfl
  | i + 5 => rw [List.getElem?_eq_none (by omega), List.getElem?_eq_none (by simp)]

theorem open_nodes {t e q : TypeId} {fs : Array Field} {A : Option Addr} {len cap fuel : Nat} {x : DataW H × List MemPlace} (ht : P.underlying t = some (.slice e)) (he : P.underlying e = some (.struct fs)) (h5 : fs.size = 5) (hone : oneCellFields P fs = true)
    (hall : fs.all (fun f => f.type == q) = true) (hq : P.underlying q = some (.int .i64)) (ce : P.cellsOf e = 5) (h : DataW.trod enc P W 0 (fun _ => true) true fuel t [.slice A len cap] = some x) :
    ∃ l : List Nd, l.length = len ∧ len ≤ maxLen ∧ RdN W W.heap.size A l := by
  rcases open_slice ht h with ⟨hcs, _⟩ | ⟨a, l, c, m, n, D, Pl, hcs, _, hl, hm, hmm, _, hr⟩
  · simp at hcs
    obtain ⟨rfl, rfl, rfl⟩ := hcs
    exact ⟨[], rfl, Nat.zero_le _, fun h => absurd h (by simp)⟩
  · simp at hcs
    obtain ⟨rfl, rfl, rfl⟩ := hcs
    simp only [if_true] at hmm
    subst hmm
    have each : ∀ i, i < len → ∃ x : Nd, W.cell? (a.add (i * 5)) = some (.int .i64 x.k) ∧ W.cell? ((a.add (i * 5)).add 1) = some (.int .i64 x.a) ∧ W.cell? ((a.add (i * 5)).add 2) = some (.int .i64 x.b) ∧
        W.cell? ((a.add (i * 5)).add 3) = some (.int .i64 x.n) ∧ W.cell? ((a.add (i * 5)).add 4) = some (.int .i64 x.m) := fun i hi => by
      obtain ⟨cs', hc, htr⟩ := hr i (by omega)
      rw [ce] at hc
      obtain ⟨k, a', b, n', m', rfl⟩ := five_cells he h5 hone hall hq ce htr
      obtain ⟨_, _, hat⟩ := World.cells?_some hc
      exact ⟨⟨k, a', b, n', m'⟩, by simpa [Addr.add] using hat 0 (by omega), by simpa using hat 1 (by omega), by simpa using hat 2 (by omega), by simpa using hat 3 (by omega), by simpa using hat 4 (by omega)⟩
    have : Inhabited Nd := ⟨⟨0, 0, 0, 0, 0⟩⟩
    obtain ⟨f, hf⟩ := choose_lt each
    refine ⟨(List.range len).map f, by simp, by omega, fun hn => ?_⟩
    simp at hn
    have h00 := (hf 0 hn).1
    have hsp := World.cell?_spot h00
    have hbl := World.block_lt_of_cell? _ _ h00
    obtain ⟨b, o, s⟩ := a
    have hs : s = none := by simpa [Addr.add] using hsp
    subst hs
    refine ⟨b, o, rfl, by simpa [Addr.add] using hbl, fun k x hk => ?_⟩
    have hkl : k < len := by simpa using (List.getElem?_eq_some_iff.1 hk).1
    simp [hkl] at hk
    subst hk
    obtain ⟨c0, c1, c2, c3, c4⟩ := hf k hkl
    have e : ∀ j, (⟨b, o, none⟩ : Addr).add j = ⟨b, o + j, none⟩ := fun j => by
      unfold Addr.add
      split
      · rename_i h; subst h; rfl
      · rfl
    rw [e] at c0 c1 c2 c3 c4
    have e2 : ∀ j, (⟨b, o + k * 5, none⟩ : Addr).add j = ⟨b, o + k * 5 + j, none⟩ := fun j => by
      unfold Addr.add
      split
      · rename_i h; subst h; rfl
      · rfl
    rw [e2] at c1 c2 c3 c4
    exact ⟨c0, c1, c2, c3, c4⟩

theorem open_pipe {r : Reach} {b0 : Nat} {tp t e q : TypeId} {f0 : Field} {fs : Array Field} {v : Value} {d : DataW H} {p : List MemPlace} (hp : P.underlying tp = some (.struct #[f0])) (ho : oneCellFields P #[f0] = true) (hft : f0.type = t) (hc : P.cellsOf tp = 1)
    (ht : P.underlying t = some (.slice e)) (he : P.underlying e = some (.struct fs)) (h5 : fs.size = 5) (hone : oneCellFields P fs = true)
    (hall : fs.all (fun f => f.type == q) = true) (hq : P.underlying q = some (.int .i64)) (ce : P.cellsOf e = 5) (hval : Value.okWide P W r b0 tp v) (h : DataW.Trod enc P W 0 (fun _ => true) true tp v d p) :
    ∃ (A : Option Addr) (len cap : Nat) (l : List Nd), v = .agg #[.slice A len cap] ∧ l.length = len ∧ len ≤ maxLen ∧ RdN W W.heap.size A l := by
  obtain ⟨cs, rfl, hsz⟩ := okWide_struct hp hval
  rw [hc] at hsz
  obtain ⟨c0, rfl⟩ : ∃ c0, cs = #[c0] := by
    obtain ⟨m⟩ := cs
    match m, hsz with
    | [c0], _ => exact ⟨c0, rfl⟩
  obtain ⟨fuel, hf⟩ := h
  obtain ⟨xs, n, _, _, _, hxl, hg⟩ := DataW.trod_struct hp hf
  obtain ⟨o0, k0⟩ := hone_of ho 0 f0 rfl
  have h1 := hg 0 f0 rfl
  rw [hft] at h1 k0
  simp [Value.cells, o0, k0] at h1
  have hx : xs[0]? = some (xs[0]'(by simp [hxl])) := List.getElem?_eq_getElem _
  rw [hx] at h1
  rcases open_slice ht h1 with ⟨hcs, _⟩ | ⟨a, l, c, _, _, _, _, hcs, _⟩
  · simp at hcs
    subst hcs
    obtain ⟨l, h2, h3, h4⟩ := open_nodes ht he h5 hone hall hq ce h1
    exact ⟨_, _, _, l, rfl, h2, h3, h4⟩
  · simp at hcs
    subst hcs
    obtain ⟨l, h2, h3, h4⟩ := open_nodes ht he h5 hone hall hq ce h1
    exact ⟨_, _, _, l, rfl, h2, h3, h4⟩
end

end Go.Proofs.Ytjhdjfobbgfpfaa
