/- Texts on the program and its reference, put together (PiE). -/
import Derived.Test.YtjhdjfobbgfpfaaMQQ
import Derived.Test.YtjhdjfobbgfpfaaMQS
/- Contracts: pulls by the program: the items of at most k pulls, ranged over; the sums of groups. -/
namespace Go.Proofs.Ytjhdjfobbgfpfaa
open Go.RowKit Go.Shelf

attribute [local go_sem] Oper.semAt_some

/-- The items of at most k pulls, up to the first one that gives none, and what is left behind. -/
def runP (f : PF) : Nat → PS → List Int × PS
  | 0, s => ([], s)
  | k + 1, s => match f s with
    | (s', none) => ([], s')
    | (s', some v) => (v :: (runP f k s').1, (runP f k s').2)

set_option maxHeartbeats 1600000 in
theorem pulled_in (kp : FuncId) (lbp : Array Value) (k : Int) (w : World) :
    Calls Try.prog 86 #[.func (.func kp) #[] lbp, .int .i64 k] w fun e w' => e = .returned (.func (.func 104) #[] #[.pointer (some ⟨w.heap.size + 1, 0, none⟩), .pointer (some ⟨w.heap.size, 0, none⟩)]) ∧ w' = (w.alloc (.cells #[.func (.func kp) #[] lbp] 111)).alloc (.cells #[.int .i64 k] 3) := by
  go_enter Try.func86, Try.ntmps86
  go_wp2
  go_ret
  exact ⟨rfl, rfl⟩

set_option maxRecDepth 100000 in
set_option maxHeartbeats 6400000 in
theorem pulled1_in {n0 rb cb N cc : Nat} {l : List Nd} {src : List (List Int)} {j : Nat} {f : PF} (hF : Fine l src j f) (kp : FuncId) (lbp : Array Value) (eg : ∀ (args : Array Value) (w : World), (callFunc kp args).run Try.prog w = .ok (.enter kp args) w) {w1 : World} (hp : Pulls n0 rb cb N cc l src f kp lbp w1)
    (k : Nat) (hk : k ≤ 1000) (lr bk bp : Nat) (fe : Value) (J : List Int → PS → World → Prop)
    (hJ : ∀ pre s W, J pre s W → W.cell? ⟨bk, 0, none⟩ = some (.int .i64 k) ∧ W.cell? ⟨bp, 0, none⟩ = some (.func (.func kp) #[] lbp) ∧ Fi n0 rb cb w1 W ∧ IW n0 rb cb N cc fe s W ∧ StOk l src s.cs ∧ s.lg.length + s.W l src ≤ 65536)
    (hJF : ∀ pre s W s' W', J pre s W → Fr n0 rb cb W W' → IW n0 rb cb N cc fe s' W' → StOk l src s'.cs → s'.lg.length + s'.W l src ≤ 65536 → J pre s' W')
    (hY : ∀ pre s W v, J pre s W → (0 ≤ v ∧ v ≤ 99) → pre.length < k → YieldAt Fence.wide 3 Try.prog lr #[.int .i64 v] W fun e W' => e = .returned (.bool true) ∧ J (pre ++ [v]) s W')
    (s : PS) (W : World) (h0 : J [] s W) :
    CallsIn Fence.wide 4 Try.prog 104 #[.func (.yield lr) #[] #[], .pointer (some ⟨bk, 0, none⟩), .pointer (some ⟨bp, 0, none⟩)] W fun e W' => (∃ v, e = .returned v) ∧ J (runP f k s).1 (runP f k s).2 W' := by
  have HJ := Lib.hid hJ
  have HJF := Lib.hid hJF
  have HY := Lib.hid hY
  have HF := Lib.hid hF
  have HP := Lib.hid hp
  obtain ⟨hc1, hc2, _⟩ := hJ _ _ _ h0
  have H0 := Lib.hid h0
  clear hJ hJF hY hF hp h0
  refine callsIn_of_wp Try.func104 rfl trivial ?_ rfl
  simp only [Try.ntmps104, List.size_toArray, List.length_cons, List.length_nil, Nat.reduceAdd, Nat.reduceSub, Array.replicate_succ, Array.replicate_zero, List.push_toArray, List.append_toArray, List.nil_append, List.cons_append]
  gi_wp2
  gi_loopw [7] (fun p wr => ∃ (pre : List Int) (s1 : PS), pre.length ≤ k ∧ p = .int .i64 (pre.length : Nat) ∧ J pre s1 wr ∧ runP f k s = (pre ++ (runP f (k - pre.length) s1).1, (runP f (k - pre.length) s1).2)) (fun p _ => k - (intOf p).toNat)
  case atStart => exact ⟨[], s, Nat.zero_le _, rfl, H0.out, by simp⟩
  case round =>
    obtain ⟨pre, s1, hle, rfl, hj, hrun⟩ := hrel
    obtain ⟨c1, c2, hfr1, hiw1, hok1, hlg1⟩ := HJ.out _ _ _ hj
    obtain ⟨q, hq⟩ : ∃ q, pre.length = q := ⟨_, rfl⟩
    rw [hq] at hle hrun
    rw [hq]
    have Hj := Lib.hid hj
    have Hrun := Lib.hid hrun
    have Hq := Lib.hid hq
    clear hj hrun hq
    by_cases hlt : q < k
    · have hlt2 : (q : Int) < k := by omega
      have hw1 : IntKind.i64.wrap ((q : Int) + 1) = (q : Int) + 1 := IntWalk.i64_in _ (by omega)
      rcases hfs : f s1 with ⟨s2, o⟩
      have hfine := HF.out s1 hok1
      have hcall := HP.out fe s1 wr hfr1 hiw1 hok1 hlg1
      rw [hfs] at hfine hcall
      have Hfine := Lib.hid hfine
      have Hcall := Lib.hid hcall
      have Hfs := Lib.hid hfs
      have Hlg2 : Hid (s2.lg.length + s2.W l src ≤ 65536) := Lib.hid (Nat.le_trans hfine.wle hlg1)
      obtain ⟨k', hk'⟩ : ∃ k', k - q = k' + 1 := ⟨k - q - 1, by omega⟩
      have Hk' := Lib.hid hk'
      clear hfine hcall hfs hfr1 hiw1 hok1 hlg1 hk'
      gi_wp2
      refine ⟨trivial, ?_⟩
      refine (callsIn_wide.2 Hcall.out).mono ?_
      rintro e w2 ⟨rfl, iw2, fr2⟩
      have hj2 := HJF.out _ _ _ _ _ Hj.out fr2 iw2 Hfine.out.ok Hlg2.out
      have Hj2 := Lib.hid hj2
      clear iw2 fr2 hj2
      cases o with
      | none =>
        have ht : tup none = .tuple #[.int .i64 0, .bool false] := rfl
        have hr : runP f k s = (pre, s2) := by rw [Hrun.out, Hk'.out]; simp only [runP]; rw [Hfs.out]; simp
        have Hr := Lib.hid hr
        clear hr
        gi_wp2
        refine ⟨fun _ h => (by cases h), ?_⟩
        gi_wp2
        refine bodyPost_ret (results_none rfl _ _ _) rfl ?_
        exact ⟨⟨_, rfl⟩, by rw [Hr.out]; exact Hj2.out⟩
      | some v =>
        have hv := Hfine.out.item v rfl
        have ht : tup (some v) = .tuple #[.int .i64 v, .bool true] := rfl
        obtain ⟨fn, tmps, assign, body, hy, hR⟩ := HY.out _ _ _ v Hj2.out hv (by rw [Hq.out]; exact hlt)
        gi_wp2
        refine hR.mono ?_
        rintro e w3 ⟨rfl, hj3⟩
        obtain ⟨d1, d2, _⟩ := HJ.out _ _ _ hj3
        have Hj3 := Lib.hid hj3
        clear hj3
        gi_wp2
        go_roundw
        case rel =>
          refine ⟨pre ++ [v], s2, by rw [List.length_append, Hq.out]; simp; omega, by rw [List.length_append, Hq.out]; go_num, Hj3.out, ?_⟩
          rw [Hrun.out, Hk'.out, List.length_append, Hq.out]
          simp only [runP]
          rw [Hfs.out]
          have : k - (q + [v].length) = k' := by have := Hk'.out; simp; omega
          rw [this]
          simp
        case measure => simp [intOf]; omega
    · have hqk : q = k := by omega
      have hr : runP f k s = (pre, s1) := by rw [Hrun.out, show k - q = 0 by omega]; simp [runP]
      have Hr := Lib.hid hr
      clear hr
      gi_wp2
      go_end0
      exact ⟨⟨_, rfl⟩, by rw [Hr.out]; exact Hj.out⟩

theorem runP_none {f : PF} {k : Nat} {s s2 : PS} (h : f s = (s2, none)) : runP f (k + 1) s = ([], s2) := by simp only [runP]; rw [h]
theorem runP_some {f : PF} {k : Nat} {s s2 : PS} {v : Int} (h : f s = (s2, some v)) : runP f (k + 1) s = (v :: (runP f k s2).1, (runP f k s2).2) := by simp only [runP]; rw [h]
theorem batchL_run (f : PF) : ∀ (k : Nat) (sum : Int) (b : Bool) (s : PS), batchL f k sum b s = ((runP f k s).2, if b = true ∨ (runP f k s).1 ≠ [] then some (sumL sum (runP f k s).1) else none)
  | 0, sum, b, s => by simp [batchL, runP, sumL]
  | k + 1, sum, b, s => by
    rcases hfs : f s with ⟨s2, o⟩
    cases o with
    | none => rw [runP_none hfs]; simp only [batchL]; rw [hfs]; simp [sumL]
    | some v => rw [runP_some hfs]; simp only [batchL]; rw [hfs]; simp only; rw [batchL_run f k]; simp [sumL]
theorem sumL_snoc (s : Int) (l : List Int) (v : Int) : sumL s (l ++ [v]) = rst (sumL s l + v) := by simp [sumL]
theorem Fr.put_obj {n0 pb cb : Nat} {w w' : World} (h : Fr n0 pb cb w w') {D : Nat} (hD : w.heap.size ≤ D) (o : Obj) : Fr n0 pb cb w (w'.putObj D o) :=
  ⟨h.os, h.tape, h.output, by rw [World.putObj_size]; exact h.size, fun b hb h1 h2 h3 => (World.putObj_heap_other (by omega)).trans (h.block b hb h1 h2 h3)⟩
theorem Fr.far_obj {n0 pb cb : Nat} {w w' : World} (h : Fr n0 pb cb w w') {D : Nat} {o : Obj} (hD : w.heap[D]? = some o) (hc : o.isCells = false) (h1 : D ≠ pb) (h2 : D ≠ cb) : w'.heap[D]? = w.heap[D]? :=
  h.block D (Array.getElem?_eq_some_iff.1 hD).1 h1 h2 (.inr fun ⟨cs, fr, hp⟩ => by rw [hD] at hp; cases hp; cases hc)

theorem Fr.far_set {n0 pb cb : Nat} {w w' : World} (h : Fr n0 pb cb w w') {b : Nat} (hb : w.heap.size ≤ b) (k : Nat) (u : Value) : Fr n0 pb cb w (w'.setCell ⟨b, k, none⟩ u) :=
  ⟨h.os, h.tape, h.output, by simpa [World.setCell] using h.size, fun c hc h1 h2 h3 => (Below.heap_setCell _ _ _ _ (by simp only; omega)).trans (h.block c hc h1 h2 h3)⟩
/-- Between two rounds of the sum of a group. -/
structure BaJ (n0 rb cb N cc : Nat) (l : List Nd) (src : List (List Int)) (fe : Value) (W0 : World) (n : Int) (fv : Value) (pre : List Int) (s : PS) (W : World) : Prop where
  fr : Fr n0 rb cb W0 W
  iw : IW n0 rb cb N cc fe s W
  ok : StOk l src s.cs
  lg : s.lg.length + s.W l src ≤ 65536
  big : W0.heap.size + 6 ≤ W.heap.size
  sum : Bk W W0.heap.size 3 [.int .i64 (sumL 0 pre)]
  some_ : Bk W (W0.heap.size + 1) 4 [.bool (decide (pre ≠ []))]
  pl : Bk W (W0.heap.size + 2) 111 [fv]
  num : Bk W (W0.heap.size + 3) 3 [.int .i64 n]
  it : 0 ≤ sumL 0 pre ∧ sumL 0 pre ≤ 99

set_option maxRecDepth 100000 in
set_option maxHeartbeats 6400000 in
theorem i_batch {n0 rb cb N cc : Nat} {l : List Nd} {src : List (List Int)} {w1 : World} {ba bn : Nat} {va : Value} {fa : PF} {j : Nat} (hF : Fine l src j fa) (hP : Puller n0 rb cb N cc l src fa va w1) (kxa : Bx rb cb w1 ba 111 va) {n : Int} (kxn : Bx rb cb w1 bn 3 (.int .i64 n)) (hn : 1 ≤ n ∧ n ≤ 30) :
    Pulls n0 rb cb N cc l src (batchP n fa) 145 #[.pointer (some ⟨ba, 0, none⟩), .pointer (some ⟨bn, 0, none⟩)] w1 := by
  intro fe s W hfr hiw ok hlg
  obtain ⟨ka, lba, rfl, ega, hpa⟩ := hP
  have cea := (kxa.fr hfr (by decide)).cell
  have cen := (kxn.fr hfr (by decide)).cell
  have balt := (kxa.fr hfr (by decide)).bk.lt
  have bnlt := (kxn.fr hfr (by decide)).bk.lt
  have hrlt : rb < W.heap.size := RS.ltp hiw
  have hclt : cb < W.heap.size := RS.ltc hiw
  have Hfr := Lib.hid hfr
  have Hiw := Lib.hid hiw
  have Hok := Lib.hid ok
  have HF := Lib.hid hF
  have HP := Lib.hid hpa
  clear hfr hiw ok hF hpa kxa kxn
  refine (callsIn_wide (n := 5)).1 ?_
  refine callsIn_of_wp_marks Try.func145 rfl trivial ?_ rfl
  simp only [Try.ntmps145, List.size_toArray, List.length_cons, List.length_nil, Nat.reduceAdd, Nat.reduceSub, Array.replicate_succ, Array.replicate_zero, List.push_toArray, List.append_toArray, List.nil_append, List.cons_append]
  gi_wp2_with (refine ⟨trivial, ?_⟩; gi_at_call 86; refine (callsIn_wide.2 (pulled_in ka lba n _)).mono ?_; rintro e w' ⟨rfl, rfl⟩)
  obtain ⟨W0, hW0⟩ : ∃ W0, (((W.alloc (.cells #[.int .i64 0] 3)).alloc (.cells #[.bool false] 4)).alloc (.cells #[.func (.func ka) #[] lba] 111)).alloc (.cells #[.int .i64 n] 3) = W0 := ⟨_, rfl⟩
  have hz0 : W0.heap.size = W.heap.size + 4 := by rw [← hW0]; simp
  have hb0 : Below W.heap.size W W0 := by rw [← hW0]; exact ((((Below.refl _ _).alloc (Nat.le_refl _) _).alloc (by simp) _).alloc (by simp; omega) _).alloc (by simp; omega) _
  have k0 : Bk W0 W.heap.size 3 [.int .i64 0] := by rw [← hW0]; exact (((Bk.new W _ [_]).alloc _).alloc _).alloc _
  have k1 : Bk W0 (W.heap.size + 1) 4 [.bool false] := by
    rw [← hW0]
    have := Bk.new (W.alloc (.cells #[.int .i64 0] 3)) 4 [.bool false]
    rw [World.size_alloc] at this
    exact (this.alloc _).alloc _
  have k2 : Bk W0 (W.heap.size + 2) 111 [.func (.func ka) #[] lba] := by
    rw [← hW0]
    have := Bk.new ((W.alloc (.cells #[.int .i64 0] 3)).alloc (.cells #[.bool false] 4)) 111 [.func (.func ka) #[] lba]
    rw [World.size_alloc, World.size_alloc] at this
    exact this.alloc _
  have k3 : Bk W0 (W.heap.size + 3) 3 [.int .i64 n] := by
    rw [← hW0]
    have := Bk.new (((W.alloc (.cells #[.int .i64 0] 3)).alloc (.cells #[.bool false] 4)).alloc (.cells #[.func (.func ka) #[] lba] 111)) 3 [.int .i64 n]
    simpa using this
  rw [hW0]
  clear hW0
  obtain ⟨nn, hnn⟩ : ∃ nn : Nat, n = (nn : Int) := ⟨n.toNat, by omega⟩
  have hnn30 : nn ≤ 1000 := by omega
  have Hnn := Lib.hid hnn
  clear hnn
  refine wpIn_rangeFunc_free (F := Fence.wide) (n := 5) rfl (by omega) (gf := 104) (lb := #[.pointer (some ⟨W.heap.size + 3, 0, none⟩), .pointer (some ⟨W.heap.size + 2, 0, none⟩)]) rfl trivial (enters_of Try.func104 (by kernel_rfl) rfl)
    (encs := fun v : Int => #[.int .i64 v]) (fun _ => rfl)
    (fun v : Int => { tmps := #[.pointer (some ⟨ba, 0, none⟩), .pointer (some ⟨bn, 0, none⟩), .int .i64 0, .bool false, .pointer (some ⟨W.heap.size, 0, none⟩), .pointer (some ⟨W.heap.size + 1, 0, none⟩), .int .i64 v, .func (.func ka) #[] lba, .int .i64 n, .func (.func 104) #[] #[.pointer (some ⟨W.heap.size + 3, 0, none⟩), .pointer (some ⟨W.heap.size + 2, 0, none⟩)], .int .i64 v, undef, undef, undef, undef, undef, undef], defers := [] }) ?assign ?iter
  case assign =>
    intro l x W K hK
    gi_wp2
    exact hK
  case iter =>
    intro lr D W1 Rdy Dn hD hl hz1 hb1 hr1 hkind hst hstd hyld
    rw [hz0] at hD hl hz1
    have HY := Lib.hid hyld
    have HS := Lib.hid hst
    have HK := Lib.hid hkind
    clear hyld hst hstd hkind
    have fr01 : Fr n0 rb cb W W1 := Fr.of_below (hb0.trans (hb1.mono hb0.size))
    refine (pulled1_in HF.out ka lba ega HP.out nn hnn30 lr (W.heap.size + 3) (W.heap.size + 2) fe
      (fun pre s W' => BaJ n0 rb cb N cc l src fe W n (.func (.func ka) #[] lba) pre s W' ∧ Rdy W') ?hJ ?hJF ?hY s W1 ?h0).mono ?done
    case hJ =>
      rintro pre s W' ⟨h, hrd⟩
      exact ⟨by rw [← Hnn.out]; exact h.num.cell 0, h.pl.cell 0, Hfr.out.trans h.fr, h.iw, h.ok, h.lg⟩
    case hJF =>
      rintro pre s W' s' W'' ⟨h, hrd⟩ hf hi hok hlg'
      obtain ⟨⟨ob, hob, hoc⟩, hDd⟩ := HK.out _ hrd
      refine ⟨⟨h.fr.trans hf, hi, hok, hlg', Nat.le_trans h.big hf.size, hf.bk h.sum (by decide) (by omega) (by omega), hf.bk h.some_ (by decide) (by omega) (by omega), hf.bk h.pl (by decide) (by omega) (by omega), hf.bk h.num (by decide) (by omega) (by omega), h.it⟩, ?_⟩
      exact HS.out _ _ hrd (hf.far_obj hob hoc (by omega) (by omega)) (hf.far_obj hDd rfl (by omega) (by omega))
    case h0 =>
      refine ⟨⟨fr01, RS.below (RS.below Hiw.out hb0) (by have := hb1; exact ⟨this.os, this.tape, this.output, this.size, this.block⟩), Hok.out, hlg, by omega, k0.below hb1 k0.lt, k1.below hb1 k1.lt, k2.below hb1 k2.lt, k3.below hb1 k3.lt, by simp [sumL]⟩, hr1⟩
    case hY =>
      rintro pre s2 W' v ⟨h, hrd⟩ hv _
      obtain ⟨hkl, hkD⟩ := HK.out _ hrd
      refine HY.out v W' _ hrd fun ob hob hlo hDo => ?_
      obtain ⟨Wb, hWb⟩ : ∃ Wb, Wb = W'.putObj lr ob := ⟨_, rfl⟩
      rw [← hWb] at hlo hDo ⊢
      have hpo : ∀ k, k ≠ lr → Wb.heap[k]? = W'.heap[k]? := fun k hk => by rw [hWb]; exact World.putObj_heap_other hk
      have b0 : Bk Wb W.heap.size 3 [.int .i64 (sumL 0 pre)] := (hpo _ (by omega)).trans h.sum
      have b1 : Bk Wb (W.heap.size + 1) 4 [.bool (decide (pre ≠ []))] := (hpo _ (by omega)).trans h.some_
      have b2 : Bk Wb (W.heap.size + 2) 111 [.func (.func ka) #[] lba] := (hpo _ (by omega)).trans h.pl
      have b3 : Bk Wb (W.heap.size + 3) 3 [.int .i64 n] := (hpo _ (by omega)).trans h.num
      have iwb : IW n0 rb cb N cc fe s2 Wb := by rw [hWb]; exact RS.put_obj h.iw ob hkl
      have frb : Fr n0 rb cb W Wb := by rw [hWb]; exact h.fr.put_obj (by omega) ob
      have hzb : Wb.heap.size = W'.heap.size := by rw [hWb, World.putObj_size]
      have hbig := h.big
      obtain ⟨sm, hsm⟩ : ∃ sm, sumL 0 pre = sm := ⟨_, rfl⟩
      obtain ⟨bm, hbm⟩ : ∃ bm, decide (pre ≠ []) = bm := ⟨_, rfl⟩
      have hit := h.it
      rw [hsm] at b0 hit
      rw [hbm] at b1
      have c0 := b0.cell 0
      have c1 := b1.cell 0
      have f0 := b0.free 0
      have f1 := b1.free 0
      simp only [List.getElem?_cons_zero] at c0 c1
      have hw1 : IntKind.i64.wrap (sm + v) = sm + v := IntWalk.i64_in _ (by omega)
      have Hlo := Lib.hid hlo
      have Hsm := Lib.hid hsm
      have B0 := Lib.hid b0
      have B1 := Lib.hid b1
      have B2 := Lib.hid b2
      have B3 := Lib.hid b3
      have Iwb := Lib.hid iwb
      have Frb := Lib.hid frb
      have Hok2 := Lib.hid h.ok
      have Hlg2 := Lib.hid h.lg
      have Hzb := Lib.hid hzb
      have Hbig := Lib.hid hbig
      have HL := Lib.hid hl
      have HD := Lib.hid hD
      clear hsm hbm b0 b1 b2 b3 iwb frb hzb hbig hl hD hkl hkD hpo hWb h hlo hDo hz1 hb1 hr1 fr01 hb0 k0 k1 k2 k3 hz0
      gi_wp2_with (refine ⟨trivial, ?_⟩; gi_at_call 125; refine (CallsIn.inRound lr (callsIn_wide.2 (implRest_any (sm + v) _ (by omega)))).mono ?_; rintro e wz ⟨rfl, rfl⟩)
      have hl := HL.out
      have hD := HD.out
      have hbig := Hbig.out
      have hzb := Hzb.out
      obtain ⟨X1, hX1⟩ : ∃ X1, X1 = (Wb.setCell ⟨W.heap.size, 0, none⟩ (.int .i64 (rst (sm + v)))).setCell ⟨W.heap.size + 1, 0, none⟩ (.bool true) := ⟨_, rfl⟩
      rw [← hX1]
      have hx1 : ∀ k, k ≠ W.heap.size → k ≠ W.heap.size + 1 → X1.heap[k]? = Wb.heap[k]? := fun k h1 h2 => by
        rw [hX1]; exact (Below.heap_setCell _ _ _ _ h2).trans (Below.heap_setCell _ _ _ _ h1)
      have hzx : X1.heap.size = Wb.heap.size := by rw [hX1]; simp [World.setCell]
      refine ⟨hx1 lr (by omega) (by omega), hx1 D (by omega) (by omega), fun o2 ho2 hrd2 => ⟨rfl, ?_, hrd2⟩⟩
      have hp2 : ∀ k, k ≠ lr → (X1.putObj lr o2).heap[k]? = X1.heap[k]? := fun k hk => World.putObj_heap_other hk
      have x0 : Bk X1 W.heap.size 3 [.int .i64 (rst (sm + v))] := by rw [hX1]; exact (B0.out.set_ 0 _).far (by simp) _
      have x1 : Bk X1 (W.heap.size + 1) 4 [.bool true] := by rw [hX1]; exact (B1.out.far (by simp) _).set_ 0 _
      have hnl : ∃ q : Obj, X1.heap[lr]? = some q ∧ q.isCells = false := by
        refine ⟨ob, ?_, hob⟩
        rw [hx1 lr (by omega) (by omega)]
        exact Hlo.out
      refine ⟨?_, ?_, Hok2.out, Hlg2.out, by rw [World.putObj_size, hzx, hzb]; exact hbig, ?_, ?_, (hp2 _ (by omega)).trans ((hx1 _ (by omega) (by omega)).trans B2.out), (hp2 _ (by omega)).trans ((hx1 _ (by omega) (by omega)).trans B3.out), ?_⟩
      · rw [hX1]
        exact ((Frb.out.far_set (Nat.le_refl _) _ _).far_set (Nat.le_succ _) _ _).put_obj (by omega) o2
      · have i1 : IW n0 rb cb N cc fe s2 X1 := by
          rw [hX1]
          exact RS.far (RS.far Iwb.out 0 _ (by omega) (by omega) (IsPl.not B0.out (by decide))) 0 _ (by omega) (by omega) (IsPl.not (B1.out.far (by simp) _) (by decide))
        exact RS.put_obj i1 o2 hnl
      · rw [sumL_snoc, Hsm.out]; exact (hp2 _ (by omega)).trans x0
      · rw [show decide (pre ++ [v] ≠ []) = true from by simp]; exact (hp2 _ (by omega)).trans x1
      · rw [sumL_snoc, Hsm.out]; exact rst_in (by omega)
    case done =>
      rintro e W' ⟨hv, h, hrd⟩
      refine ⟨hv, .inl ⟨hrd, fun ob hob hDo => ?_⟩⟩
      obtain ⟨hkl, hkD⟩ := HK.out _ hrd
      obtain ⟨pre, hpre⟩ : ∃ pre, (runP fa nn s).1 = pre := ⟨_, rfl⟩
      obtain ⟨se, hse⟩ : ∃ se, (runP fa nn s).2 = se := ⟨_, rfl⟩
      rw [hpre, hse] at h
      have hres : batchP n fa s = (se, if pre ≠ [] then some (sumL 0 pre) else none) := by
        unfold batchP
        rw [batchL_run, Hnn.out, Int.toNat_natCast, hpre, hse]
        simp
      have hpo : ∀ k, k ≠ lr → (W'.putObj lr ob).heap[k]? = W'.heap[k]? := fun k hk => World.putObj_heap_other hk
      have b0 : Bk (W'.putObj lr ob) W.heap.size 3 [.int .i64 (sumL 0 pre)] := (hpo _ (by omega)).trans h.sum
      have b1 : Bk (W'.putObj lr ob) (W.heap.size + 1) 4 [.bool (decide (pre ≠ []))] := (hpo _ (by omega)).trans h.some_
      have iwb : IW n0 rb cb N cc fe se (W'.putObj lr ob) := RS.put_obj h.iw ob hkl
      have frb : Fr n0 rb cb W (W'.putObj lr ob) := h.fr.put_obj (by omega) ob
      obtain ⟨W2, hW2⟩ : ∃ W2, W'.putObj lr ob = W2 := ⟨_, rfl⟩
      rw [hW2] at b0 b1 iwb frb hDo ⊢
      obtain ⟨sm, hsm⟩ : ∃ sm, sumL 0 pre = sm := ⟨_, rfl⟩
      obtain ⟨bm, hbm⟩ : ∃ bm, decide (pre ≠ []) = bm := ⟨_, rfl⟩
      have htup : tup (batchP n fa s).2 = .tuple #[.int .i64 sm, .bool bm] := by
        rw [hres, ← hsm, ← hbm]
        cases pre with
        | nil => simp [tup, sumL]
        | cons a t => simp [tup]
      rw [hsm] at b0
      rw [hbm] at b1
      have c0 := b0.cell 0
      have c1 := b1.cell 0
      simp only [List.getElem?_cons_zero] at c0 c1
      have Hdo := Lib.hid hDo
      have Htup := Lib.hid htup
      have Hres := Lib.hid hres
      have Iwb := Lib.hid iwb
      have Frb := Lib.hid frb
      have HD := Lib.hid hD
      have hmx : Try.prog.follows .mixedOrders = true := by kernel_rfl
      clear hl hz1 hb1 hr1 fr01 hb0 k0 k1 k2 k3 hz0 hD hkl hkD hpo hDo hres htup iwb frb hW2 hpre hse h b0 b1
      gi_wp2
      gi_region
      gi_wp2
      refine ⟨by simp, .inl ⟨_, _, rfl, run_takeDeferred (b := D) (ds := []) Hdo.out, ?_⟩⟩
      refine ⟨.tuple #[.int .i64 sm, .bool bm], by simp [results, Try.results145, go_sem], by rw [Htup.out], ?_, ?_⟩
      · rw [Hres.out]
        exact RS.put_obj Iwb.out.drew _ ⟨_, Hdo.out, rfl⟩
      · exact Frb.out.drew.put_obj (by have := HD.out; omega) _

end Go.Proofs.Ytjhdjfobbgfpfaa
