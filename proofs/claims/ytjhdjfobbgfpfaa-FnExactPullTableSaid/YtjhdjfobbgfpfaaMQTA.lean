/- Texts on the program and its reference, put together (PmE, PmF, PtA, PtB, PtC, PtD). -/
import Derived.Test.YtjhdjfobbgfpfaaMQZ
import Derived.Test.YtjhdjfobbgfpfaaMQP
import Derived.Test.YtjhdjfobbgfpfaaMQZC
import Derived.Deep.RegionHeld3
import Derived.Test.YtjhdjfobbgfpfaaMQZB
import Derived.TacticsInMore
import Derived.LoopNIn
/- Plain mathematics: a pipe ends with the first pull that gives none, and before 200 pulls. -/
namespace Go.Proofs.Ytjhdjfobbgfpfaa
open Go.RowKit

section
variable {l : List Nd} {src : List (List Int)} {i : Nat} {x : Nd} {f g : PF} {s : PS}
theorem doneP_d (hk : KeepB l src i g) (hi : i < l.length) (hs : StOk l src s.cs) (hd : (s.at_ i).d = false) : ((doneP i g s).1.at_ i).d = (doneP i g s).2.isNone := by
  have h := hk s hs
  rcases hg : g s with ⟨s', o⟩
  rw [hg] at h
  cases o with
  | none =>
    rw [doneP_none hd hg]
    simp only
    rw [PS.at_put (by rw [h.1]; exact hi)]
    rfl
  | some v =>
    rw [doneP_some hd hg]
    simp only
    rw [h.2, hd]
    rfl
theorem pull_d (hp : PipeOk l) (h0 : srcOk src = true) {fu : PS → Nat} {t : TI} (ht : IsTI l t) (hs : StOk l src s.cs) (hd : (s.at_ t.ix).d = false) : ((pull src fu t s).1.at_ t.ix).d = (pull src fu t s).2.isNone := by
  have num : ∀ {i : Nat} {x : Nd}, l[i]? = some x → numsOk x = true := fun hx => by
    have h1 := hp.node _ _ hx
    simp only [nodeOk, Bool.and_eq_true] at h1
    exact h1.1
  have hl := ht.lt
  cases ht with
  | leaf hx ha _ _ => exact doneP_d (srcP_keep hx) hl hs hd
  | stem hx ha _ hj _ ht => exact doneP_d (stemP_keep hx ha (num hx) hj (pull_fine hp h0 ht)) hl hs hd
  | fork hx ha _ hj _ hj2 hta htb => exact doneP_d (forkP_keep hx ha hj hj2 (pull_fine hp h0 hta) (pull_fine hp h0 htb)) hl hs hd
/-- The first number for which something holds. -/
theorem first_of {p : Nat → Prop} : ∀ n, (∀ k, k < n → ¬ p k) ∨ ∃ e, e < n ∧ p e ∧ ∀ k, k < e → ¬ p k
  | 0 => .inl fun k hk => absurd hk (Nat.not_lt_zero k)
  | n + 1 => by
    rcases first_of (p := p) n with h | ⟨e, he, hpe, hle⟩
    · by_cases hn : p n
      · exact .inr ⟨n, Nat.lt_succ_self n, hn, h⟩
      · refine .inl fun k hk => ?_
        rcases Nat.lt_or_eq_of_le (Nat.le_of_lt_succ hk) with h1 | rfl
        · exact h k h1
        · exact hn
    · exact .inr ⟨e, Nat.lt_succ_of_lt he, hpe, hle⟩
theorem wAll_le (hs : srcOk src = true) (x : Nd) (c : Cl) : wAll src x c ≤ 13 := by
  unfold wAll
  split
  · split <;> split <;> omega
  · exact wSrc_le hs x c
theorem newPS_M (hs : srcOk src = true) (hl : l.length ≤ 12) : (newPS l.length).M l src ≤ 156 := by
  have h := wsum_le (wAll_le hs) l (newPS l.length).cs
  unfold PS.M
  omega
end

end Go.Proofs.Ytjhdjfobbgfpfaa

/- Plain mathematics: after how many pulls a pipe ends, and the table of its pulls. -/
namespace Go.Proofs.Ytjhdjfobbgfpfaa
open Go.RowKit

/-- The state after k pulls. -/
def stAt (l : List Nd) (src : List (List Int)) (t : TI) (k : Nat) : PS := (runP (pull src (fun s => s.M l src + 1) t) k (newPS l.length)).2
/-- The pull behind e items is the first one that gives none. -/
structure EndsAt (l : List Nd) (src : List (List Int)) (t : TI) (e : Nat) : Prop where
  le : e ≤ 156
  on : ∀ k, k ≤ e → ((stAt l src t k).at_ t.ix).d = false
  some_ : ∀ k, k < e → (pull src (fun s => s.M l src + 1) t (stAt l src t k)).2.isSome = true
  none_ : (pull src (fun s => s.M l src + 1) t (stAt l src t e)).2 = none
  off : ((stAt l src t (e + 1)).at_ t.ix).d = true
section
variable {l : List Nd} {src : List (List Int)} {t : TI}
theorem stAt_next (hp : PipeOk l) (h0 : srcOk src = true) (ht : IsTI l t) (k : Nat) : stAt l src t (k + 1) = (pull src (fun s => s.M l src + 1) t (stAt l src t k)).1 := by
  unfold stAt
  rw [runP_snoc (pull_fine hp h0 ht) (fun s s' ok h => pull_again hp h0 ht ok h) k _ (newPS_ok hp)]
  rcases pull src (fun s => s.M l src + 1) t (runP (pull src (fun s => s.M l src + 1) t) k (newPS l.length)).2 with ⟨s', o⟩
  cases o <;> rfl
theorem stAt_ok (hp : PipeOk l) (h0 : srcOk src = true) (ht : IsTI l t) (k : Nat) : StOk l src (stAt l src t k).cs := (runP_fine (pull_fine hp h0 ht) k _ (newPS_ok hp)).ok
theorem EndsAt.ex (hp : PipeOk l) (h0 : srcOk src = true) (hl : l.length ≤ 12) (ht : IsTI l t) : ∃ e, EndsAt l src t e := by
  have hz : ((stAt l src t 0).at_ t.ix).d = false := by
    have e : (newPS l.length).at_ t.ix = zeroCl := PS.at_of (by simp [newPS, ht.lt])
    show ((newPS l.length).at_ t.ix).d = false
    rw [e]
    rfl
  have hd : ∀ e, (∀ k, k < e → ¬ (pull src (fun s => s.M l src + 1) t (stAt l src t k)).2 = none) → ∀ k, k ≤ e → ((stAt l src t k).at_ t.ix).d = false := fun e he k => by
    induction k with
    | zero => exact fun _ => hz
    | succ k ih =>
      intro hk
      rw [stAt_next hp h0 ht, pull_d hp h0 ht (stAt_ok hp h0 ht k) (ih (by omega))]
      have := he k (by omega)
      cases h : (pull src (fun s => s.M l src + 1) t (stAt l src t k)).2 with
      | none => exact absurd h this
      | some v => rfl
  rcases first_of (p := fun k => (pull src (fun s => s.M l src + 1) t (stAt l src t k)).2 = none) 157 with h | ⟨e, he, hn, hb⟩
  · exfalso
    have hm : ∀ k, k ≤ 157 → (stAt l src t k).M l src + k ≤ (newPS l.length).M l src := fun k => by
      induction k with
      | zero => exact fun _ => Nat.le_refl _
      | succ k ih =>
        intro hk
        have h1 := ih (by omega)
        have h2 := (pull_fine hp h0 (fu := fun s => s.M l src + 1) ht (stAt l src t k) (stAt_ok hp h0 ht k)).mle
        have h3 : (pull src (fun s => s.M l src + 1) t (stAt l src t k)).2.isSome = true := by
          cases h4 : (pull src (fun s => s.M l src + 1) t (stAt l src t k)).2 with
          | none => exact absurd h4 (h k (by omega))
          | some v => rfl
        rw [h3, ← stAt_next hp h0 ht] at h2
        simp only [if_true] at h2
        omega
    have h1 := hm 157 (Nat.le_refl _)
    have h2 := newPS_M (l := l) h0 hl
    omega
  · refine ⟨e, by omega, hd e hb, fun k hk => ?_, hn, ?_⟩
    · cases h4 : (pull src (fun s => s.M l src + 1) t (stAt l src t k)).2 with
      | none => exact absurd h4 (hb k hk)
      | some v => rfl
    · rw [stAt_next hp h0 ht, pull_d hp h0 ht (stAt_ok hp h0 ht e) (hd e hb e (Nat.le_refl _)), hn]
      rfl
end
/-- The numbers of pulls at the sources for fewer than n pulls. -/
def tabUp (l : List Nd) (src : List (List Int)) (t : TI) (n : Nat) : List Int := (List.range n).map fun k => ((stAt l src t k).lg.length : Int)
theorem tabUp_len (l : List Nd) (src : List (List Int)) (t : TI) (n : Nat) : (tabUp l src t n).length = n := by simp [tabUp]
theorem tabUp_succ (l : List Nd) (src : List (List Int)) (t : TI) (n : Nat) : tabUp l src t (n + 1) = tabUp l src t n ++ [((stAt l src t n).lg.length : Int)] := by simp [tabUp, List.range_succ]
/-- The table of a pipe; none where the arguments are not valid. -/
structure TabQ (l : List Nd) (src : List (List Int)) (q : List Int) : Prop where
  no : (pipeOk l && srcOk src) = false → q = []
  yes : (pipeOk l && srcOk src) = true → ∃ t e, IsTI l t ∧ t.ix + 1 = l.length ∧ EndsAt l src t e ∧ q = tabUp l src t (e + 2)
theorem TabQ.ex (l : List Nd) (src : List (List Int)) : ∃ q, TabQ l src q ∧ q.length ≤ 200 := by
  cases hv : (pipeOk l && srcOk src) with
  | false => exact ⟨[], ⟨fun _ => rfl, fun h => absurd (hv.symm.trans h) (by decide)⟩, by simp⟩
  | true =>
    have hv2 := hv
    simp only [Bool.and_eq_true] at hv2
    have hlow := low_of hv2.1
    obtain ⟨T, hT⟩ := IsTree.ex (pipeOk_iff.1 hv2.1) l.length (l.length - 1) (by omega) (by omega)
    obtain ⟨t, ht, hti, _⟩ := hT.ti
    obtain ⟨e, he⟩ := EndsAt.ex (pipeOk_iff.1 hv2.1) hv2.2 (high_of hv2.1) ht
    exact ⟨_, ⟨fun h => absurd (hv.symm.trans h) (by decide), fun _ => ⟨t, e, ht, by omega, he, rfl⟩⟩, by rw [tabUp_len]; have := he.le; omega⟩

end Go.Proofs.Ytjhdjfobbgfpfaa

/- Contracts: pulls by the program: the table of pulls, by the reference. -/
namespace Go.Proofs.Ytjhdjfobbgfpfaa
open Go.RowKit

/-- What PullTable leaves. -/
def TabP (q : List Int) (w : World) (e : Ending) (w' : World) : Prop := ∃ A' c', e = .returned (.slice A' q.length c') ∧ OwnI w' w.heap.size w'.heap.size A' q ∧ Below w.heap.size w w'
set_option maxRecDepth 100000 in
set_option maxHeartbeats 6400000 in
theorem specPullTable_any {l : List Nd} {src : List (List Int)} {A : Option Addr} {c : Nat} {As : Option Addr} {ca : Nat} (q : List Int) (hq : Hid (TabQ l src q)) (w : World) (hn : RdN w w.heap.size A l) (hsr : RdR w w.heap.size As src) (hnl : l.length ≤ 1048576) (hns : src.length ≤ 1048576) (hm : Hid (∀ r ∈ src, r.length ≤ 1048576)) :
    Calls Try.prog 53 #[.agg #[.slice A l.length c], .slice As src.length ca] w (TabP q w) := by
  obtain ⟨W1, hW1⟩ : ∃ X : World, X = w.alloc (.cells #[.slice A l.length c] 32) := ⟨_, rfl⟩
  have hb1 : Below w.heap.size w W1 := by rw [hW1]; exact below1 w _
  have kE : Bk W1 w.heap.size 32 [.slice A l.length c] := by rw [hW1]; exact Bk.new _ _ [_]
  have z1 := hb1.size
  have hn1 : RdN W1 W1.heap.size A l := (hn.below hb1 (Nat.le_refl _)).more z1
  have hr1 : RdR W1 W1.heap.size As src := (hsr.below hb1 (Nat.le_refl _)).more z1
  have Hn := Lib.hid hn1
  have Hsr := Lib.hid hr1
  have HW1 := Lib.hid hW1
  have Hb1 := Lib.hid hb1
  have HkE := Lib.hid kE
  clear kE
  clear hn hsr hn1 hr1 hW1 hb1
  have hcall := specvalidInput_any A c l As ca src W1 W1.heap.size Hn.out Hsr.out (Nat.le_refl _) hnl hns hm
  cases hv : (pipeOk l && srcOk src) with
  | false =>
    obtain rfl := hq.out.no hv
    rw [hv] at hcall
    have Hcall := Lib.hid hcall
    clear hv hcall
    go_enter Try.func53, Try.ntmps53
    go_wp2_with fail
    rw [← HW1.out]
    refine Hcall.out.mono ?_
    rintro e w2 ⟨rfl, hb2⟩
    have Hb2 := Lib.hid (Hb1.out.trans (hb2.mono z1))
    clear hb2
    go_wp2_with fail
    refine bodyPost_ret (v := .slice none 0 0) (by simp [results, Try.results53, go_sem]) rfl ?_
    exact ⟨none, 0, rfl, fun h => absurd h (by simp), Hb2.out⟩
  | true =>
    obtain ⟨t, e, ht, hix, he, rfl⟩ := hq.out.yes hv
    rw [hv] at hcall
    simp only [Bool.and_eq_true] at hv
    obtain ⟨hp, hs⟩ := hv
    have h3 := (src_rows hs).1
    have hhigh := high_of hp
    have hlow := low_of hp
    have hF := pull_fine (pipeOk_iff.1 hp) hs (fu := fun s => s.M l src + 1) ht
    have hpul := fun (k : Nat) (hk : k ≤ 200) (W : World) (hnW : RdN W W.heap.size A l) (hsW : RdR W W.heap.size As src) => specPulled_any (c := c) (ca := ca) hhigh hF (fun pb cb n0 => NextOk.of (pipeOk_iff.1 hp) hs hhigh ht) hix (newPS_ok (pipeOk_iff.1 hp)) (newPS_W hs hhigh) k hk W hnW hsW
    have hmany := fun k : Nat => manyP_runP hF (fun s s' ok h => pull_again (pipeOk_iff.1 hp) hs ht ok h) (newPS_ok (pipeOk_iff.1 hp)) k
    have hlg : ∀ k : Nat, (stAt l src t k).lg.length ≤ 65536 := fun k => by
      have h1 := (runP_fine hF k _ (newPS_ok (pipeOk_iff.1 hp))).wle
      have h2 := newPS_W (l := l) hs hhigh
      simp only [newPS, List.length_nil] at h1 h2
      unfold stAt
      simp only [newPS]
      omega
    have hln : IntKind.i64.wrap ((l.length : Int) - 1) = (t.ix : Int) := by rw [IntWalk.i64_in _ (by omega)]; omega
    have hle := he.le
    rw [h3] at hcall ⊢
    have Hcall := Lib.hid hcall
    have Hpul := Lib.hid hpul
    have Hmany := Lib.hid hmany
    have Hlg := Lib.hid hlg
    have Hix := Lib.hid hix
    have He := Lib.hid he
    have Hln := Lib.hid hln
    clear hp hs h3 ht hix hcall hq hF hpul hmany hlg he hln
    go_enter Try.func53, Try.ntmps53
    go_wp2_with fail
    rw [← HW1.out]
    refine Hcall.out.mono ?_
    rintro e' w2 ⟨rfl, hb2⟩
    have Hb2 := Lib.hid (Hb1.out.trans (hb2.mono z1))
    have HbX := Lib.hid hb2
    have kE2 := HkE.out.below hb2 HkE.out.lt
    have HkE2 := Lib.hid kE2
    have z2 := hb2.size
    have ltE2 := kE2.lt
    clear hb2 kE2
    go_wp2_with fail
    go_loopw [5, 6] (fun ov kv wr => ∃ (j : Nat) (R : Option Addr) (cR : Nat), j ≤ e + 1 ∧ kv = .int .i64 j ∧ ov = .slice R j cR ∧ OwnJ wr w2.heap.size R cR (tabUp l src t j) ∧ Below w2.heap.size w2 wr) (fun _ kv _ => e + 2 - (intOf kv).toNat)
    case atStart => exact ⟨0, _, 0, Nat.zero_le _, rfl, rfl, emptyJ w2, (Below.refl _ _).alloc (Nat.le_refl _) _⟩
    case round =>
      obtain ⟨j, R9, cR9, hj, rfl, rfl, how, hbr⟩ := hrel
      have hzr := hbr.size
      have kEr := HkE2.out.below hbr ltE2
      have cE := kEr.cell 0
      have ltE := kEr.lt
      simp only [List.getElem?_cons_zero] at cE
      have g0 : (j : Int) ≤ 200 := by omega
      have hwj : IntKind.i64.wrap ((j : Int) + 1) = (j : Int) + 1 := IntWalk.i64_in _ (by omega)
      have Hpc := Lib.hid (Hpul.out j (by omega) wr ((Hn.out.below (HbX.out.trans (hbr.mono z2)) (Nat.le_refl _)).more (by omega)) ((Hsr.out.below (HbX.out.trans (hbr.mono z2)) (Nat.le_refl _)).more (by omega)))
      have How := Lib.hid how
      have Hbr := Lib.hid hbr
      have HkEr := Lib.hid kEr
      have hjn := tabUp_len l src t j
      have Hjn := Lib.hid hjn
      clear how hbr kEr hjn
      go_wp2_with fail
      refine Hpc.out.mono ?_
      rintro e' w4 ⟨pb, cb, R, cR, pre, s, rfl, h⟩
      have hes : s = stAt l src t j := by
        have h1 := h.e
        rw [Hmany.out j] at h1
        unfold stAt
        rw [h1]
      obtain ⟨Rl, cRl, hbx, hog⟩ := h.sw.rs.box
      have b3 := hbx.cell 3
      replace b3 : w4.cell? ⟨pb, 3, none⟩ = some (.slice Rl s.lg.length cRl) := b3
      have plt := hbx.lt
      have hz4 := h.bl.size
      have Hes := Lib.hid hes
      have how4 := How.out.below h.bl (Nat.le_refl _)
      have How4 := Lib.hid how4
      have Hb4 := Lib.hid (Hbr.out.trans (h.bl.mono hzr))
      have HkE4 := Lib.hid (HkEr.out.below h.bl ltE)
      have Hh := Lib.hid h
      clear hbx hog hes how4 h
      go_wp2_with (at_builtin; go_must (refine wpList_append_int rfl _ _ rfl w2.heap.size R9 cR9 _ (s.lg.length : Int) j Hjn.out rfl How4.out _ rfl rfl (by omega) (by omega) ?_; intro R2 c2' w5 ho2 hg2); have hbb := (Hb4.out.alloc (by omega) _).grown hg2 (by simp; omega) (fun g hg => (How4.out.row_lt g hg).1); have rs5 := Hh.out.sw.rs.ints How4.out (by decide) hg2; have kE5 := (HkE4.out.alloc (.cells #[.int .i64 (s.lg.length : Int)] 3)).grown hg2 (fun e => by obtain ⟨_, ds, hi⟩ := How4.out.isi _ e.symm; exact Bk.ne HkE4.out hi (by decide) rfl); have hls : t.ix < s.cs.length := (by rw [Hh.out.ok.len]; have := Hix.out; omega); have hcl := (RS.cl rs5 (i := t.ix) hls).c5; obtain ⟨Rz, cz, hbz, _⟩ := rs5.box; have y2 := hbz.cell 2; have yE := kE5.cell 0; replace y2 : w5.cell? ⟨pb, 2, none⟩ = some (.slice (some ⟨cb, 0, none⟩) l.length l.length) := y2; simp only [List.getElem?_cons_zero] at yE; have lt5 := hbz.lt; have ltc5 := RS.ltc rs5; have Hbb := Lib.hid hbb; have Ho2 := Lib.hid ho2; clear ho2 hg2 hbb rs5 kE5 hbz b3)
      have hdd : (s.at_ t.ix).d = decide (j = e + 1) := by
        rw [Hes.out]
        by_cases h : j = e + 1
        · subst h; rw [He.out.off]; simp
        · rw [He.out.on j (by omega)]; simp [h]
      have hln := Hln.out
      have i0 : (0 : Int) ≤ (t.ix : Int) := by omega
      have i1 : (t.ix : Int) < (l.length : Int) := by have := Hix.out; omega
      by_cases hje : j = e + 1
      · rw [hdd, decide_eq_true hje] at hcl
        have Hje := Lib.hid hje
        clear hdd hje
        go_wp2_with fail
        go_region_held3 (fun w' => w'.cell? ⟨pb, 2, none⟩ = some (.slice (some ⟨cb, 0, none⟩) l.length l.length) ∧ w'.cell? ⟨w.heap.size, 0, none⟩ = some (.slice A l.length c) ∧ w'.cell? ⟨cb, t.ix * 6 + 5, none⟩ = some (.bool true)) (first | exact ⟨y2, yE, hcl⟩ | go_keep) (fail)
        go_wp2_with fail
        have hq : tabUp l src t (e + 2) = tabUp l src t j ++ [(s.lg.length : Int)] := by rw [Hes.out, ← tabUp_succ, Hje.out]
        refine bodyPost_ret (v := .slice R2 (j + 1) c2') (by simp [results, Try.results53, go_sem]) rfl ?_
        exact ⟨R2, c2', by rw [tabUp_len, Hje.out], by rw [hq]; exact (Ho2.out.below (Below.refl _ _).drew (Nat.le_refl _)).ownI.wide (by have := Hb2.out.size; omega) (Nat.le_refl _), (Hb2.out.trans (Hbb.out.mono Hb2.out.size)).drew⟩
      · rw [hdd, decide_eq_false hje] at hcl
        have hje2 : j + 1 ≤ e + 1 := by omega
        clear hdd hje
        go_wp2_with fail
        go_region_held3 (fun w' => w'.cell? ⟨pb, 2, none⟩ = some (.slice (some ⟨cb, 0, none⟩) l.length l.length) ∧ w'.cell? ⟨w.heap.size, 0, none⟩ = some (.slice A l.length c) ∧ w'.cell? ⟨cb, t.ix * 6 + 5, none⟩ = some (.bool false)) (first | exact ⟨y2, yE, hcl⟩ | go_keep) (fail)
        go_wp2_with fail
        go_roundw
        case rel => exact ⟨j + 1, R2, c2', hje2, by go_num, rfl, by rw [tabUp_succ, ← Hes.out]; exact Ho2.out.below (Below.refl _ _).drew (Nat.le_refl _), Hbb.out.drew⟩
        case measure => simp [intOf]; omega

end Go.Proofs.Ytjhdjfobbgfpfaa

/- Contracts: pulls by the program: pulls until the end, ranged over. -/
namespace Go.Proofs.Ytjhdjfobbgfpfaa
open Go.RowKit Go.Shelf

attribute [local go_sem] Oper.semAt_some

set_option maxHeartbeats 1600000 in
theorem untilEnd_in (wb : Nat) (w : World) :
    Calls Try.prog 77 #[.pointer (some ⟨wb, 0, none⟩)] w fun e w' => e = .returned (.func (.func 94) #[] #[.pointer (some ⟨w.heap.size, 0, none⟩)]) ∧ w' = w.alloc (.cells #[.pointer (some ⟨wb, 0, none⟩)] 81) := by
  go_enter Try.func77, Try.ntmps77
  go_wp2
  go_ret
  exact ⟨rfl, rfl⟩

set_option maxRecDepth 100000 in
set_option maxHeartbeats 6400000 in
theorem untilEnd1_in {l : List Nd} {src : List (List Int)} {t : TI} {e : Nat} (he : EndsAt l src t e) (wb bx lr : Nat) (J : Nat → Nat → World → Prop)
    (hJ : ∀ a b W, J a b W → W.cell? ⟨bx, 0, none⟩ = some (.pointer (some ⟨wb, 0, none⟩)))
    (hC : ∀ a W, a ≤ e → J a a W → Calls Try.prog 90 #[.pointer (some ⟨wb, 0, none⟩)] W fun d W' => d = .returned (tup (pull src (fun s => s.M l src + 1) t (stAt l src t a)).2) ∧ J (a + 1) a W')
    (hY : ∀ a W, a ≤ e → J (a + 1) a W → YieldAt Fence.wide 3 Try.prog lr #[.int .i64 ((a : Int) + 1)] W fun d W' => d = .returned (.bool true) ∧ J (a + 1) (a + 1) W')
    (W : World) (h0 : J 0 0 W) :
    CallsIn Fence.wide 4 Try.prog 94 #[.func (.yield lr) #[] #[], .pointer (some ⟨bx, 0, none⟩)] W fun d W' => (∃ v, d = .returned v) ∧ J (e + 1) (e + 1) W' := by
  have HJ := Lib.hid hJ
  have HC := Lib.hid hC
  have HY := Lib.hid hY
  have He := Lib.hid he
  have hle := he.le
  have hc1 := hJ _ _ _ h0
  have H0 := Lib.hid h0
  clear hJ hC hY h0 he
  refine callsIn_of_wp Try.func94 rfl trivial ?_ rfl
  simp only [Try.ntmps94, List.size_toArray, List.length_cons, List.length_nil, Nat.reduceAdd, Nat.reduceSub, Array.replicate_succ, Array.replicate_zero, List.push_toArray, List.append_toArray, List.nil_append, List.cons_append]
  gi_wp2
  gi_loopw [3, 4] (fun kv mv wr => ∃ a : Nat, a ≤ e + 1 ∧ kv = .int .i64 ((a : Int) + 1) ∧ mv = .bool (decide (a ≤ e)) ∧ J a a wr) (fun kv _ _ => e + 2 - (intOf kv).toNat)
  case atStart => exact ⟨0, Nat.zero_le _, rfl, by simp, H0.out⟩
  case round =>
    obtain ⟨a, ha, rfl, rfl, hj⟩ := hrel
    have c1 := HJ.out _ _ _ hj
    have Hj := Lib.hid hj
    clear hj
    by_cases hlt : a ≤ e
    · have hdm : decide (a ≤ e) = true := decide_eq_true hlt
      have hw1 : IntKind.i64.wrap ((a : Int) + 1 + 1) = (a : Int) + 1 + 1 := IntWalk.i64_in _ (by omega)
      obtain ⟨o, ho⟩ : ∃ o, (pull src (fun s => s.M l src + 1) t (stAt l src t a)).2 = o := ⟨_, rfl⟩
      have hos : o.isSome = decide (a + 1 ≤ e) := by
        rw [← ho]
        by_cases h : a = e
        · subst h; rw [He.out.none_]; simp
        · rw [He.out.some_ a (by omega)]; simp; omega
      have hcall := HC.out a wr hlt Hj.out
      rw [ho] at hcall
      have Hcall := Lib.hid hcall
      have Hos := Lib.hid hos
      rw [hdm]
      clear hcall hos ho hdm
      obtain ⟨xv, hxv⟩ : ∃ v, o.getD 0 = v := ⟨_, rfl⟩
      have ht : tup o = .tuple #[.int .i64 xv, .bool (decide (a + 1 ≤ e))] := by unfold tup; rw [hxv, Hos.out]
      have Ht := Lib.hid ht
      clear hxv ht
      gi_wp2
      refine ⟨trivial, ?_⟩
      refine (callsIn_wide.2 Hcall.out).mono ?_
      rintro d w2 ⟨rfl, hj2⟩
      rw [Ht.out]
      obtain ⟨fn, tmps, assign, body, hy, hR⟩ := HY.out a w2 hlt hj2
      clear hj2
      gi_wp2
      refine hR.mono ?_
      rintro d w3 ⟨rfl, hj3⟩
      have d1 := HJ.out _ _ _ hj3
      have Hj3 := Lib.hid hj3
      clear hj3
      gi_wp2
      go_roundw
      case rel => exact ⟨a + 1, by omega, by go_num, rfl, Hj3.out⟩
      case measure => simp [intOf]; omega
    · obtain rfl : a = e + 1 := by omega
      have hdm : decide (e + 1 ≤ e) = false := decide_eq_false (by omega)
      rw [hdm]
      gi_wp2
      go_end0
      exact ⟨⟨_, rfl⟩, Hj.out⟩

end Go.Proofs.Ytjhdjfobbgfpfaa

/- Contracts: pulls by the program: the table of pulls, by the program. -/
namespace Go.Proofs.Ytjhdjfobbgfpfaa
open Go.RowKit Go.Shelf

attribute [local go_sem] Oper.semAt_some

/-- Between two pulls of the table: its boxes lie from b0 on. -/
structure TtJ (n0 rb cb : Nat) (l : List Nd) (src : List (List Int)) (t : TI) (w1 : World) (wb gb hb eb : Nat) (fe : Value) (ws : World) (b0 a b : Nat) (W : World) : Prop where
  wat : Wat n0 rb cb l.length l src w1 wb gb hb eb fe (stAt l src t a) W
  wx : Bk W b0 81 [.pointer (some ⟨wb, 0, none⟩)]
  ux : Bk W (b0 + 3) 81 [.pointer (some ⟨wb, 0, none⟩)]
  tx : ∃ R cR, Bk W (b0 + 2) 28 [.slice R (b + 1) cR] ∧ OwnJ W (b0 + 1) R cR (tabUp l src t (b + 1))
  bl : Below ws.heap.size ws W
  big : b0 + 4 ≤ W.heap.size
theorem oneJ (w : World) (v : Int) : OwnJ (w.alloc (.cells #[.int .i64 v] 3)) w.heap.size (some ⟨w.heap.size, 0, none⟩) 1 [v] :=
  ⟨rfl, .inr ⟨w.heap.size, 1, #[.int .i64 v], rfl, Nat.le_refl _, heap_alloc_new w _, Nat.le_refl _, by unfold maxLen; omega, rfl, rfl⟩⟩
theorem Wat.keepX {n0 rb cb N wb gb hb eb z : Nat} {l : List Nd} {src : List (List Int)} {w1 w w' : World} {fe : Value} {s : PS} (h : Wat n0 rb cb N l src w1 wb gb hb eb fe s w) (ho : w'.os = w.os) (ht : w'.tape = w.tape) (hu : w'.output = w.output) (hz : w.heap.size ≤ w'.heap.size) (hk : ∀ b, b < w.heap.size → (b < z ∨ IsPl w b) → w'.heap[b]? = w.heap[b]?) (l1 : w1.heap.size ≤ z) (l2 : rb < z) (l3 : cb < z) (l4 : wb < z) (l5 : gb < z) (l6 : hb < z) (l7 : eb < z) : Wat n0 rb cb N l src w1 wb gb hb eb fe s w' := by
  have pk : ∀ {g' : Nat} {t' : TypeId} {cs : List Value}, g' < z → Bk w g' t' cs → Bk w' g' t' cs := fun hg hb' => (hk _ hb'.lt (.inl hg)).trans hb'
  obtain ⟨cs, hc, hcs⟩ := h.iw.cells
  obtain ⟨R, cR, hb, hog⟩ := h.iw.box
  exact ⟨⟨ho.trans h.fr.os, ht.trans h.fr.tape, hu.trans h.fr.output, Nat.le_trans h.fr.size hz, fun b hb h1 h2 h3 => (hk b (Nat.lt_of_lt_of_le hb h.fr.size) (.inl (by omega))).trans (h.fr.block b hb h1 h2 h3)⟩, ⟨h.iw.tp, h.iw.tc, h.iw.lop, h.iw.loc, ⟨cs, pk l3 hc, hcs⟩, ⟨R, cR, pk l2 hb, hog.keep fun g hg hp => hk g hg (.inr hp)⟩⟩, ⟨pk l4 h.wr.bx, pk l5 h.wr.g, pk l6 h.wr.h, pk l7 h.wr.e, h.wr.ne⟩, h.ok, h.lg, h.si, h.b1, h.b2, h.b3, h.b4⟩
set_option maxRecDepth 100000 in
set_option maxHeartbeats 6400000 in
theorem implPullTable_yes {l : List Nd} {src : List (List Int)} {A : Option Addr} {c : Nat} {As : Option Addr} {ca : Nat} (hp : PipeOk l) (hv : pipeOk l = true) (hs : srcOk src = true) (h3 : src.length = 3) (hl12 : l.length ≤ 12) {t : TI} (ht : IsTI l t) (hix : t.ix + 1 = l.length) {e : Nat} (he : EndsAt l src t e) (w : World) (hn : RdN w w.heap.size A l) (hsr : RdR w w.heap.size As src) :
    Calls Try.prog 54 #[.agg #[.slice A l.length c], .slice As 3 ca] w (TabP (tabUp l src t (e + 2)) w) := by
  obtain ⟨W1, hW1⟩ : ∃ X : World, X = w.alloc (.cells #[.slice A l.length c] 32) := ⟨_, rfl⟩
  have hb1 : Below w.heap.size w W1 := by rw [hW1]; exact below1 w _
  have z1 := hb1.size
  have hcall := watch_any (c := c) (ca := ca) hp hv hs h3 hl12 ht hix W1 ((hn.below hb1 (Nat.le_refl _)).more z1) ((hsr.below hb1 (Nat.le_refl _)).more z1)
  have hF := pull_fine hp hs (fu := fun s => s.M l src + 1) ht
  have hG := pull_grow (src := src) hp (fu := fun s => s.M l src + 1) ht
  have h12 : ∀ r ∈ src, r.length ≤ 12 := fun r hr => (src_rows hs).2 r hr
  have hnx := stAt_next hp hs ht
  have HW1 := Lib.hid hW1
  have Hb1 := Lib.hid hb1
  have Hcall := Lib.hid hcall
  have HF := Lib.hid hF
  have HG := Lib.hid hG
  have H12 := Lib.hid h12
  have Hnx := Lib.hid hnx
  have He := Lib.hid he
  have hle := he.le
  clear hW1 hb1 hcall hF hG h12 hn hsr hp hv hs ht hix he hnx
  refine (callsIn_wide (n := 5)).1 ?_
  refine callsIn_of_wp_marks Try.func54 rfl trivial ?_ rfl
  simp only [Try.ntmps54, List.size_toArray, List.length_cons, List.length_nil, Nat.reduceAdd, Nat.reduceSub, Array.replicate_succ, Array.replicate_zero, List.push_toArray, List.append_toArray, List.nil_append, List.cons_append]
  refine wpIn_wide.2 ?_
  go_wp2_with fail
  rw [← HW1.out]
  refine Hcall.out.mono ?_
  rintro e' w2 ⟨wb, rfl, ⟨rb, cb, kf, lb, gb, hb, eb, w1, eg, pu, hwat⟩, hb2⟩
  have Heg := Lib.hid eg
  have Hpu := Lib.hid pu
  have Hwat := Lib.hid hwat
  have Hb2 := Lib.hid (Hb1.out.trans (hb2.mono z1))
  have z2 := hb2.size
  have lrb : rb < w2.heap.size := RS.ltp hwat.iw
  have lcb : cb < w2.heap.size := RS.ltc hwat.iw
  have lwb := hwat.wr.bx.lt
  have lgb := hwat.wr.g.lt
  have lhb := hwat.wr.h.lt
  have leb := hwat.wr.e.lt
  have lw1 : w1.heap.size ≤ w2.heap.size := hwat.fr.size
  have n1 : W1.heap.size ≤ rb := RS.lop hwat.iw
  have n2 : W1.heap.size ≤ cb := RS.loc hwat.iw
  have n3 := hwat.b1.1
  have n4 := hwat.b2.1
  have n5 := hwat.b3.1
  have n6 := hwat.b4.1
  clear eg pu hwat hb2
  go_wp2_with fail
  refine (callsIn_wide (n := 5)).1 ?_
  refine (callsIn_wide.2 (untilEnd_in _ _)).mono ?_
  rintro e' w' ⟨rfl, rfl⟩
  go_wp2_with fail
  obtain ⟨W0, hW0⟩ : ∃ W0, (((w2.alloc (.cells #[.pointer (some ⟨wb, 0, none⟩)] 81)).alloc (.cells #[.int .i64 0] 3)).alloc (.cells #[.slice (some ⟨w2.heap.size + 1, 0, none⟩) 1 1] 28)).alloc (.cells #[.pointer (some ⟨wb, 0, none⟩)] 81) = W0 := ⟨_, rfl⟩
  have hz0 : W0.heap.size = w2.heap.size + 4 := by rw [← hW0]; simp
  have hb0 : Below w2.heap.size w2 W0 := by rw [← hW0]; exact below4 _ _ _ _ _
  have k0 : Bk W0 w2.heap.size 81 [.pointer (some ⟨wb, 0, none⟩)] := by rw [← hW0]; exact (((Bk.new w2 _ [_]).alloc _).alloc _).alloc _
  have k2 : Bk W0 (w2.heap.size + 2) 28 [.slice (some ⟨w2.heap.size + 1, 0, none⟩) 1 1] := by
    rw [← hW0]
    have := Bk.new ((w2.alloc (.cells #[.pointer (some ⟨wb, 0, none⟩)] 81)).alloc (.cells #[.int .i64 0] 3)) 28 [.slice (some ⟨w2.heap.size + 1, 0, none⟩) 1 1]
    simp only [World.size_alloc] at this
    exact this.alloc _
  have k3 : Bk W0 (w2.heap.size + 3) 81 [.pointer (some ⟨wb, 0, none⟩)] := by
    rw [← hW0]
    have := Bk.new (((w2.alloc (.cells #[.pointer (some ⟨wb, 0, none⟩)] 81)).alloc (.cells #[.int .i64 0] 3)).alloc (.cells #[.slice (some ⟨w2.heap.size + 1, 0, none⟩) 1 1] 28)) 81 [.pointer (some ⟨wb, 0, none⟩)]
    simp only [World.size_alloc] at this
    exact this
  have kJ : OwnJ W0 (w2.heap.size + 1) (some ⟨w2.heap.size + 1, 0, none⟩) 1 (tabUp l src t 1) := by
    rw [← hW0]
    have h := oneJ (w2.alloc (.cells #[.pointer (some ⟨wb, 0, none⟩)] 81)) 0
    simp only [World.size_alloc] at h
    have h2 := (h.below ((Below.refl _ _).alloc (Nat.le_refl _) (.cells #[.slice (some ⟨w2.heap.size + 1, 0, none⟩) 1 1] 28)) (Nat.le_refl _)).below ((Below.refl _ _).alloc (Nat.le_refl _) (.cells #[.pointer (some ⟨wb, 0, none⟩)] 81)) (Nat.le_refl _)
    exact h2
  rw [hW0]
  clear hW0
  refine (wpIn_wide (n := 5)).1 ?_
  refine wpIn_rangeFunc_free (F := Fence.wide) (n := 5) rfl (by omega) (gf := 94) (lb := #[.pointer (some ⟨w2.heap.size + 1 + 1 + 1, 0, none⟩)]) rfl trivial (enters_of Try.func94 (by kernel_rfl) rfl)
    (encs := fun v : Int => #[.int .i64 v]) (fun _ => rfl)
    (fun v : Int => { tmps := #[.agg #[.slice A l.length c], .slice As 3 ca, .pointer (some ⟨w.heap.size, 0, none⟩), undef, .slice none 0 0, .pointer (some ⟨w2.heap.size, 0, none⟩), .pointer (some ⟨w2.heap.size + 1 + 1, 0, none⟩), .agg #[.slice A l.length c], .slice As 3 ca, .pointer (some ⟨wb, 0, none⟩), .pointer (some ⟨wb, 0, none⟩), .bool false, .slice (some ⟨w2.heap.size + 1, 0, none⟩) 1 1, .pointer (some ⟨wb, 0, none⟩), .func (.func 94) #[] #[.pointer (some ⟨w2.heap.size + 1 + 1 + 1, 0, none⟩)], .int .i64 v, undef, undef, undef, undef, undef, undef, undef, undef], defers := [] }) ?assign ?iter
  case assign =>
    intro l' x W K hK
    gi_wp2
    simpa using hK
  case iter =>
    intro lr D Wd Rdy Dn hD hl hz1' hbd hr1 hkind hst hstd hyld
    rw [hz0] at hD hl hz1'
    have HY := Lib.hid hyld
    have HS := Lib.hid hst
    have HK := Lib.hid hkind
    clear hyld hst hstd hkind
    have hb0d : Below w2.heap.size w2 Wd := hb0.trans (hbd.mono hb0.size)
    refine (untilEnd1_in He.out wb (w2.heap.size + 1 + 1 + 1) lr
      (fun a b W' => TtJ W1.heap.size rb cb l src t w1 wb gb hb eb (.func (.func kf) #[] lb) w w2.heap.size a b W' ∧ Rdy W') ?hJ ?hC ?hY Wd ?h0).mono ?done
    case hJ =>
      rintro a b W' ⟨h, hrd⟩
      exact h.ux.cell 0
    case hC =>
      rintro a W' ha ⟨h, hrd⟩
      obtain ⟨⟨ob, hob, hoc⟩, hDd⟩ := HK.out _ hrd
      obtain ⟨R, cR, hbx, how⟩ := h.tx
      refine (wpull_any HF.out HG.out Heg.out Hpu.out H12 (stAt l src t a) W' h.wat).mono ?_
      rintro d W'' ⟨rfl, hw', hfp⟩
      rw [← Hnx.out] at hw'
      refine ⟨rfl, ⟨hw', hfp.bk h.wx (by decide) (by omega) (by omega) (by omega) (by omega) (by omega) (by omega), hfp.bk h.ux (by decide) (by omega) (by omega) (by omega) (by omega) (by omega) (by omega), ⟨R, cR, hfp.bk hbx (by decide) (by omega) (by omega) (by omega) (by omega) (by omega) (by omega), how.keepB fun g' cs hg' hb' => hfp.block g' hb'.lt (by omega) (by omega) (by omega) (by omega) (by omega) (by omega) (.inr (IsPl.not hb' (by decide)))⟩, h.bl.trans ((hfp.below (by omega) (by omega) (by omega) (by omega) (by omega) (by omega) (by have := RS.ltp h.wat.iw; omega)).mono z1), Nat.le_trans h.big hfp.size⟩, ?_⟩
      exact HS.out _ _ hrd (hfp.far_obj hob hoc (by omega) (by omega) (by omega) (by omega) (by omega) (by omega)) (hfp.far_obj hDd rfl (by omega) (by omega) (by omega) (by omega) (by omega) (by omega))
    case h0 =>
      exact ⟨⟨Hwat.out.below hb0d, k0.below hbd k0.lt, k3.below hbd k3.lt, ⟨_, _, k2.below hbd k2.lt, kJ.below hbd (Nat.le_refl _)⟩, Hb2.out.trans (hb0d.mono (Nat.le_trans z1 z2)), by omega⟩, hr1⟩
    case hY =>
      rintro a W' ha ⟨h, hrd⟩
      obtain ⟨hkl, hkD⟩ := HK.out _ hrd
      refine HY.out ((a : Int) + 1) W' _ hrd fun ob hob hlo hDo => ?_
      obtain ⟨Wb, hWb⟩ : ∃ Wb, Wb = W'.putObj lr ob := ⟨_, rfl⟩
      rw [← hWb] at hlo hDo ⊢
      obtain ⟨R, cR, hbx, how⟩ := h.tx
      have hbig := h.big
      have hgb : W'.grownBy Wb (some lr) := by rw [hWb]; exact grownBy_putObj' W' lr ob
      have hpo0 : ∀ k, k ≠ lr → Wb.heap[k]? = W'.heap[k]? := fun k hk => by rw [hWb]; exact World.putObj_heap_other hk
      have hnl : ∀ {g t' cs}, Bk W' g t' cs → g ≠ lr := fun hb' e => by
        subst e
        obtain ⟨q, hq, hqc⟩ := hkl
        unfold Bk at hb'
        rw [hb'] at hq
        cases hq
        cases hqc
      have hisi := how.isi
      have hhw := h.wat
      have t0 : Bk Wb w2.heap.size 81 [.pointer (some ⟨wb, 0, none⟩)] := (hpo0 _ (by omega)).trans h.wx
      have t2 : Bk Wb (w2.heap.size + 1 + 1) 28 [.slice R (a + 1) cR] := (hpo0 _ (by omega)).trans hbx
      have tw := (hpo0 _ (hnl hhw.wr.bx)).trans hhw.wr.bx
      have how2 := how.grown hgb (by
        cases hR : rowOf R with
        | none => exact .inl rfl
        | some q => exact .inr (fun e => by
            obtain ⟨_, ds, hi⟩ := hisi q hR
            injection e with e
            exact hnl hi e))
      obtain ⟨v, hv⟩ : ∃ v : Int, ((stAt l src t (a + 1)).lg.length : Int) = v := ⟨_, rfl⟩
      have hup : tabUp l src t (a + 1 + 1) = tabUp l src t (a + 1) ++ [v] := by rw [tabUp_succ, hv]
      have hlen : (tabUp l src t (a + 1)).length = a + 1 := tabUp_len _ _ _ _
      have d0 := t0.cell 0
      have d0d := (Bk.drewN t0 1).cell 0
      have d2 := t2.cell 0
      have d2d := (Bk.drewN t2 1).cell 0
      have dw := (Bk.drewN (show Bk Wb wb 91 _ from tw) 1).cell 1
      simp only [List.getElem?_cons_zero, List.getElem?_cons_succ] at d0 d0d d2 d2d dw
      rw [hv] at dw
      have d2a : ∀ z : Int, (Wb.alloc (.cells #[.int .i64 z] 3)).cell? ⟨w2.heap.size + 1 + 1, 0, none⟩ = some (.slice R (a + 1) cR) := fun z => (Bk.alloc t2 _).cell 0
      have d2b : ∀ z : Int, ((Wb.drewN 1).alloc (.cells #[.int .i64 z] 3)).cell? ⟨w2.heap.size + 1 + 1, 0, none⟩ = some (.slice R (a + 1) cR) := fun z => (Bk.alloc (Bk.drewN t2 1) _).cell 0
      have hbz : w2.heap.size + 1 ≤ Wb.heap.size := by have := hgb.size; omega
      have hap : a + 1 ≤ 1048576 := by omega
      have Hfin : Hid (∀ (R2 : Option Addr) (c2 : Nat) (w3 : World), OwnJ w3 (w2.heap.size + 1) R2 c2 (tabUp l src t (a + 1) ++ [v]) → (Wb.drew.alloc (.cells #[.int .i64 v] 3)).grownBy w3 (rowOf R) →
          w3.cell? ⟨w2.heap.size + 1 + 1, 0, none⟩ = some (.slice R (a + 1) cR) ∧ w3.frozen? ⟨w2.heap.size + 1 + 1, 0, none⟩ = false ∧ freePost lr D Rdy Dn (fun d W'' => d = .returned (.bool true) ∧ TtJ W1.heap.size rb cb l src t w1 wb gb hb eb (.func (.func kf) #[] lb) w w2.heap.size (a + 1) (a + 1) W'' ∧ Rdy W'') Wb .normal { tmps := #[], defers := [] } (w3.setCell ⟨w2.heap.size + 1 + 1, 0, none⟩ (.slice R2 (a + 1 + 1) c2))) := by
        intro R2 c2 w3 ho2 hg2
        have hza : (Wb.drew.alloc (.cells #[.int .i64 v] 3)).heap.size = Wb.heap.size + 1 := by simp
        have hzb : Wb.heap.size = W'.heap.size := by rw [hWb]; simp
        have hrow : ∀ k, rowOf R = some k → w2.heap.size + 1 ≤ k := fun k hk => (how.row_lt k hk).1
        have hblk : ∀ k, k < Wb.heap.size → some k ≠ rowOf R → w3.heap[k]? = Wb.heap[k]? := fun k hk hn => by
          rw [hg2.block k (by rw [hza]; omega) hn]
          exact Below.heap_alloc _ _ _ (show k < Wb.heap.size by omega)
        have hnr : ∀ {g t' cs}, Bk W' g t' cs → t' ≠ 3 → some g ≠ rowOf R := fun hb' ht' e => by
          obtain ⟨_, ds, hi⟩ := hisi _ e.symm
          exact Bk.ne hb' hi ht' rfl
        have kb2 : Bk w3 (w2.heap.size + 1 + 1) 28 [.slice R (a + 1) cR] := (hblk _ t2.lt (hnr hbx (by decide))).trans t2
        refine ⟨kb2.cell 0, kb2.free 0, ?_⟩
        obtain ⟨X1, hX1⟩ : ∃ X1, X1 = w3.setCell ⟨w2.heap.size + 1 + 1, 0, none⟩ (.slice R2 (a + 1 + 1) c2) := ⟨_, rfl⟩
        rw [← hX1]
        have hx1 : ∀ k, k ≠ w2.heap.size + 2 → X1.heap[k]? = w3.heap[k]? := fun k hk => by rw [hX1]; exact Below.heap_setCell _ _ _ _ hk
        have hzx : X1.heap.size = w3.heap.size := by rw [hX1]; simp [World.setCell]
        have kx2 : Bk X1 (w2.heap.size + 1 + 1) 28 [.slice R2 (a + 1 + 1) c2] := by rw [hX1]; exact kb2.set_ 0 _
        have hg3 := hg2.size
        have hox : OwnJ X1 (w2.heap.size + 1) R2 c2 (tabUp l src t (a + 1 + 1)) := by
          rw [hup, hX1]
          refine ownsRow_setCell_other ho2 (fun e => ?_) _
          rw [ownBlock_slice] at e
          obtain ⟨_, ds, hi⟩ := ho2.isi _ e
          exact Bk.ne kb2 hi (by decide) rfl
        have llr : lr < W'.heap.size := by obtain ⟨q, hq, _⟩ := hkl; exact (Array.getElem?_eq_some_iff.1 hq).1
        have lD : D < W'.heap.size := (Array.getElem?_eq_some_iff.1 hkD).1
        have hno : ∀ {g : Nat} {o : Obj}, W'.heap[g]? = some o → o.isCells = false → some g ≠ rowOf R := fun hg ho e => by
          obtain ⟨_, ds, hi⟩ := hisi _ e.symm
          unfold Bk at hi
          rw [hi] at hg
          cases hg
          cases ho
        obtain ⟨q, hq, hqc⟩ := hkl
        refine ⟨(hx1 lr (by omega)).trans (hblk lr (by omega) (hno hq hqc)), (hx1 D (by omega)).trans (hblk D (by omega) (hno hkD rfl)), fun o2 ho2c hrd2 => ⟨rfl, ?_, hrd2⟩⟩
        have hpo : ∀ k, k ≠ lr → (X1.putObj lr o2).heap[k]? = X1.heap[k]? := fun k hk => World.putObj_heap_other hk
        have hgp := grownBy_putObj' X1 lr o2
        have hzz : W'.heap.size ≤ (X1.putObj lr o2).heap.size := by rw [World.putObj_size, hzx]; omega
        have hall : ∀ k, k < W'.heap.size → k ≠ lr → k ≠ w2.heap.size + 2 → some k ≠ rowOf R → (X1.putObj lr o2).heap[k]? = W'.heap[k]? := fun k hk h1 h2 h3 => (hpo k h1).trans ((hx1 k h2).trans ((hblk k (by omega) h3).trans (hpo0 k h1)))
        have hbs : Below (w2.heap.size + 1 + 1) w3 X1 := by rw [hX1]; exact (Below.refl (w2.heap.size + 1 + 1) w3).setCell (p := ⟨w2.heap.size + 1 + 1, 0, none⟩) (Nat.le_refl _) _
        have hba : Below Wb.heap.size Wb (Wb.drew.alloc (.cells #[.int .i64 v] 3)) := ((Below.refl Wb.heap.size Wb).drew).alloc (show Wb.heap.size ≤ Wb.drew.heap.size from Nat.le_refl _) _
        have hos : (X1.putObj lr o2).os = W'.os := hgp.os.trans (hbs.os.trans (hg2.os.trans (hba.os.trans hgb.os)))
        have htp : (X1.putObj lr o2).tape = W'.tape := hgp.tape.trans (hbs.tape.trans (hg2.tape.trans (hba.tape.trans hgb.tape)))
        have hou : (X1.putObj lr o2).output = W'.output := hgp.output.trans (hbs.output.trans (hg2.output.trans (hba.output.trans hgb.output)))
        refine ⟨hhw.keepX (z := w2.heap.size) hos htp hou hzz (fun b hb hcase => ?_) lw1 lrb lcb lwb lgb lhb leb, ?_, ?_, ⟨R2, c2, ?_, ?_⟩, ?_, by omega⟩
        · rcases hcase with hlt | ⟨cs, fr, hpl⟩
          · exact hall b hb (by omega) (by omega) (fun e => by have := hrow b e.symm; omega)
          · refine hall b hb (fun e => ?_) (fun e => ?_) (fun e => ?_)
            · subst e; rw [hq] at hpl; cases hpl; cases hqc
            · subst e; exact IsPl.not hbx (by decide) ⟨cs, fr, hpl⟩
            · obtain ⟨_, ds, hi⟩ := hisi _ e.symm
              exact IsPl.not hi (by decide) ⟨cs, fr, hpl⟩
        · exact (hall _ h.wx.lt (by omega) (by omega) (hnr h.wx (by decide))).trans h.wx
        · exact (hall _ h.ux.lt (by omega) (by omega) (hnr h.ux (by decide))).trans h.ux
        · exact (hpo _ (by omega)).trans kx2
        · exact hox.grown hgp (by
            cases hR : rowOf R2 with
            | none => exact .inl rfl
            | some q2 => exact .inr (fun e => by
                obtain ⟨_, ds, hi⟩ := ho2.isi q2 hR
                injection e with e
                subst e
                have h4 := hi
                unfold Bk at h4
                rw [hblk _ (by omega) (hno hq hqc), hlo] at h4
                cases h4
                cases hob))
        · exact { os := hos.trans h.bl.os, tape := htp.trans h.bl.tape, output := hou.trans h.bl.output, size := Nat.le_trans h.bl.size hzz, block := fun k hk => (hall k (Nat.lt_of_lt_of_le hk h.bl.size) (by omega) (by omega) (fun e => by have := hrow k e.symm; omega)).trans (h.bl.block k hk) }
      have How2 := Lib.hid how2
      have Hlen := Lib.hid hlen
      have Dw := Lib.hid dw
      clear hgb hpo0 hnl hisi hhw t0 t2 tw how how2 hup hlen hbx hv dw h hkl hkD hrd hlo hDo hob hWb HY Hwat Hcall HF HG H12 Hnx He Heg Hpu Hb2 hb0d k0 k2 k3 kJ hb0 hbd HS HK hr1
      have hmx : Try.prog.follows .mixedOrders = true := by kernel_rfl
      gi_wp2
      refine wpIn_region_any (by assumption) ?_
      change wpAnyIn _ _ _ _ _ _ _ _ _ (World.drew _)
      refine wpAnyIn_ready (rs := [0, 1]) (by kernel_rfl) (by simp) ?_
      refine AllReadyIn.cons rfl (fun K hK => ?_) ?_
      · go_simp
        refine hK _ _ ?_
        clear hK K
        refine wpAnyIn_ready (rs := [1]) (by kernel_rfl) (by simp) ?_
        refine AllReadyIn.cons rfl (fun K hK => ?_) ?_
        · go_simp
          refine hK _ _ ?_
          clear hK K
          refine wpAnyIn_ready (rs := [2]) (by kernel_rfl) (by simp) ?_
          refine AllReadyIn.cons rfl (fun K hK => ?_) ?_
          · go_simp
            refine hK _ _ ?_
            clear hK K
            refine wpAnyIn_ready (rs := [3]) (by kernel_rfl) (by simp) ?_
            refine AllReadyIn.cons rfl (fun K hK => ?_) ?_
            · go_simp
              refine hK _ _ ?_
              clear hK K
              refine wpAnyIn_ready (rs := [4]) (by kernel_rfl) (by simp) ?_
              refine AllReadyIn.cons rfl (fun K hK => ?_) ?_
              · go_simp
                refine ⟨trivial, ?_⟩
                refine (CallsIn.inRound lr (callsIn_wide.2 (load_cnt wb v _ Dw.out))).mono ?_
                rintro d w3 ⟨rfl, rfl⟩
                refine hK _ _ ?_
                clear hK K
                refine wpAnyIn_ready (rs := [5]) (by kernel_rfl) (by simp) ?_
                refine AllReadyIn.cons rfl (fun K hK => ?_) ?_
                · go_simp
                  refine hK _ _ ?_
                  clear hK K
                  refine wpAnyIn_ready (rs := [6]) (by kernel_rfl) (by simp) ?_
                  refine AllReadyIn.cons rfl (fun K hK => ?_) ?_
                  · refine stepIn_append_int _ _ rfl (w2.heap.size + 1) R cR (tabUp l src t (a + 1)) v (a + 1) Hlen.out rfl (show OwnJ Wb.drew (w2.heap.size + 1) R cR (tabUp l src t (a + 1)) from How2.out) _ rfl rfl hap hbz ?_
                    intro R2 c2 w3 ho2 hg2
                    refine hK _ _ ?_
                    clear hK K
                    obtain ⟨hbx, hfx, hrest⟩ := Hfin.out R2 c2 w3 ho2 hg2
                    have Hrest := Lib.hid hrest
                    clear hrest ho2 hg2
                    refine wpAnyIn_ready (rs := [7]) (by kernel_rfl) (by simp) ?_
                    refine AllReadyIn.cons rfl (fun K hK => ?_) ?_
                    · go_simp
                      refine hK _ _ ?_
                      clear hK K
                      refine wpAnyIn_done (by kernel_rfl) ?_ _
                      exact Hrest.out
                    exact AllReadyIn.nil
                  exact AllReadyIn.nil
                exact AllReadyIn.nil
              exact AllReadyIn.nil
            exact AllReadyIn.nil
          exact AllReadyIn.nil
        exact AllReadyIn.nil
      refine AllReadyIn.cons rfl (fun K hK => ?_) ?_
      · go_simp
        refine hK _ _ ?_
        clear hK K
        refine wpAnyIn_ready (rs := [0, 2]) (by kernel_rfl) (by simp) ?_
        refine AllReadyIn.cons rfl (fun K hK => ?_) ?_
        · go_simp
          refine hK _ _ ?_
          clear hK K
          refine wpAnyIn_ready (rs := [2]) (by kernel_rfl) (by simp) ?_
          refine AllReadyIn.cons rfl (fun K hK => ?_) ?_
          · go_simp
            refine hK _ _ ?_
            clear hK K
            refine wpAnyIn_ready (rs := [3]) (by kernel_rfl) (by simp) ?_
            refine AllReadyIn.cons rfl (fun K hK => ?_) ?_
            · go_simp
              refine hK _ _ ?_
              clear hK K
              refine wpAnyIn_ready (rs := [4]) (by kernel_rfl) (by simp) ?_
              refine AllReadyIn.cons rfl (fun K hK => ?_) ?_
              · go_simp
                refine ⟨trivial, ?_⟩
                refine (CallsIn.inRound lr (callsIn_wide.2 (load_cnt wb v _ Dw.out))).mono ?_
                rintro d w3 ⟨rfl, rfl⟩
                refine hK _ _ ?_
                clear hK K
                refine wpAnyIn_ready (rs := [5]) (by kernel_rfl) (by simp) ?_
                refine AllReadyIn.cons rfl (fun K hK => ?_) ?_
                · go_simp
                  refine hK _ _ ?_
                  clear hK K
                  refine wpAnyIn_ready (rs := [6]) (by kernel_rfl) (by simp) ?_
                  refine AllReadyIn.cons rfl (fun K hK => ?_) ?_
                  · refine stepIn_append_int _ _ rfl (w2.heap.size + 1) R cR (tabUp l src t (a + 1)) v (a + 1) Hlen.out rfl (show OwnJ Wb.drew (w2.heap.size + 1) R cR (tabUp l src t (a + 1)) from How2.out) _ rfl rfl hap hbz ?_
                    intro R2 c2 w3 ho2 hg2
                    refine hK _ _ ?_
                    clear hK K
                    obtain ⟨hbx, hfx, hrest⟩ := Hfin.out R2 c2 w3 ho2 hg2
                    have Hrest := Lib.hid hrest
                    clear hrest ho2 hg2
                    refine wpAnyIn_ready (rs := [7]) (by kernel_rfl) (by simp) ?_
                    refine AllReadyIn.cons rfl (fun K hK => ?_) ?_
                    · go_simp
                      refine hK _ _ ?_
                      clear hK K
                      refine wpAnyIn_done (by kernel_rfl) ?_ _
                      exact Hrest.out
                    exact AllReadyIn.nil
                  exact AllReadyIn.nil
                exact AllReadyIn.nil
              exact AllReadyIn.nil
            exact AllReadyIn.nil
          exact AllReadyIn.nil
        refine AllReadyIn.cons rfl (fun K hK => ?_) ?_
        · go_simp
          refine hK _ _ ?_
          clear hK K
          refine wpAnyIn_ready (rs := [0, 3]) (by kernel_rfl) (by simp) ?_
          refine AllReadyIn.cons rfl (fun K hK => ?_) ?_
          · go_simp
            refine hK _ _ ?_
            clear hK K
            refine wpAnyIn_ready (rs := [3]) (by kernel_rfl) (by simp) ?_
            refine AllReadyIn.cons rfl (fun K hK => ?_) ?_
            · go_simp
              refine hK _ _ ?_
              clear hK K
              refine wpAnyIn_ready (rs := [4]) (by kernel_rfl) (by simp) ?_
              refine AllReadyIn.cons rfl (fun K hK => ?_) ?_
              · go_simp
                refine ⟨trivial, ?_⟩
                refine (CallsIn.inRound lr (callsIn_wide.2 (load_cnt wb v _ Dw.out))).mono ?_
                rintro d w3 ⟨rfl, rfl⟩
                refine hK _ _ ?_
                clear hK K
                refine wpAnyIn_ready (rs := [5]) (by kernel_rfl) (by simp) ?_
                refine AllReadyIn.cons rfl (fun K hK => ?_) ?_
                · go_simp
                  refine hK _ _ ?_
                  clear hK K
                  refine wpAnyIn_ready (rs := [6]) (by kernel_rfl) (by simp) ?_
                  refine AllReadyIn.cons rfl (fun K hK => ?_) ?_
                  · refine stepIn_append_int _ _ rfl (w2.heap.size + 1) R cR (tabUp l src t (a + 1)) v (a + 1) Hlen.out rfl (show OwnJ Wb.drew (w2.heap.size + 1) R cR (tabUp l src t (a + 1)) from How2.out) _ rfl rfl hap hbz ?_
                    intro R2 c2 w3 ho2 hg2
                    refine hK _ _ ?_
                    clear hK K
                    obtain ⟨hbx, hfx, hrest⟩ := Hfin.out R2 c2 w3 ho2 hg2
                    have Hrest := Lib.hid hrest
                    clear hrest ho2 hg2
                    refine wpAnyIn_ready (rs := [7]) (by kernel_rfl) (by simp) ?_
                    refine AllReadyIn.cons rfl (fun K hK => ?_) ?_
                    · go_simp
                      refine hK _ _ ?_
                      clear hK K
                      refine wpAnyIn_done (by kernel_rfl) ?_ _
                      exact Hrest.out
                    exact AllReadyIn.nil
                  exact AllReadyIn.nil
                exact AllReadyIn.nil
              exact AllReadyIn.nil
            exact AllReadyIn.nil
          refine AllReadyIn.cons rfl (fun K hK => ?_) ?_
          · go_simp
            refine hK _ _ ?_
            clear hK K
            refine wpAnyIn_ready (rs := [0, 4]) (by kernel_rfl) (by simp) ?_
            refine AllReadyIn.cons rfl (fun K hK => ?_) ?_
            · go_simp
              refine hK _ _ ?_
              clear hK K
              refine wpAnyIn_ready (rs := [4]) (by kernel_rfl) (by simp) ?_
              refine AllReadyIn.cons rfl (fun K hK => ?_) ?_
              · go_simp
                refine ⟨trivial, ?_⟩
                refine (CallsIn.inRound lr (callsIn_wide.2 (load_cnt wb v _ Dw.out))).mono ?_
                rintro d w3 ⟨rfl, rfl⟩
                refine hK _ _ ?_
                clear hK K
                refine wpAnyIn_ready (rs := [5]) (by kernel_rfl) (by simp) ?_
                refine AllReadyIn.cons rfl (fun K hK => ?_) ?_
                · go_simp
                  refine hK _ _ ?_
                  clear hK K
                  refine wpAnyIn_ready (rs := [6]) (by kernel_rfl) (by simp) ?_
                  refine AllReadyIn.cons rfl (fun K hK => ?_) ?_
                  · refine stepIn_append_int _ _ rfl (w2.heap.size + 1) R cR (tabUp l src t (a + 1)) v (a + 1) Hlen.out rfl (show OwnJ Wb.drew (w2.heap.size + 1) R cR (tabUp l src t (a + 1)) from How2.out) _ rfl rfl hap hbz ?_
                    intro R2 c2 w3 ho2 hg2
                    refine hK _ _ ?_
                    clear hK K
                    obtain ⟨hbx, hfx, hrest⟩ := Hfin.out R2 c2 w3 ho2 hg2
                    have Hrest := Lib.hid hrest
                    clear hrest ho2 hg2
                    refine wpAnyIn_ready (rs := [7]) (by kernel_rfl) (by simp) ?_
                    refine AllReadyIn.cons rfl (fun K hK => ?_) ?_
                    · go_simp
                      refine hK _ _ ?_
                      clear hK K
                      refine wpAnyIn_done (by kernel_rfl) ?_ _
                      exact Hrest.out
                    exact AllReadyIn.nil
                  exact AllReadyIn.nil
                exact AllReadyIn.nil
              exact AllReadyIn.nil
            refine AllReadyIn.cons rfl (fun K hK => ?_) ?_
            · go_simp
              refine ⟨trivial, ?_⟩
              refine (CallsIn.inRound lr (callsIn_wide.2 (load_cnt wb v _ Dw.out))).mono ?_
              rintro d w3 ⟨rfl, rfl⟩
              refine hK _ _ ?_
              clear hK K
              refine wpAnyIn_ready (rs := [0, 5]) (by kernel_rfl) (by simp) ?_
              refine AllReadyIn.cons rfl (fun K hK => ?_) ?_
              · go_simp
                refine hK _ _ ?_
                clear hK K
                refine wpAnyIn_ready (rs := [5]) (by kernel_rfl) (by simp) ?_
                refine AllReadyIn.cons rfl (fun K hK => ?_) ?_
                · go_simp
                  refine hK _ _ ?_
                  clear hK K
                  refine wpAnyIn_ready (rs := [6]) (by kernel_rfl) (by simp) ?_
                  refine AllReadyIn.cons rfl (fun K hK => ?_) ?_
                  · refine stepIn_append_int _ _ rfl (w2.heap.size + 1) R cR (tabUp l src t (a + 1)) v (a + 1) Hlen.out rfl (show OwnJ Wb.drew (w2.heap.size + 1) R cR (tabUp l src t (a + 1)) from How2.out) _ rfl rfl hap hbz ?_
                    intro R2 c2 w3 ho2 hg2
                    refine hK _ _ ?_
                    clear hK K
                    obtain ⟨hbx, hfx, hrest⟩ := Hfin.out R2 c2 w3 ho2 hg2
                    have Hrest := Lib.hid hrest
                    clear hrest ho2 hg2
                    refine wpAnyIn_ready (rs := [7]) (by kernel_rfl) (by simp) ?_
                    refine AllReadyIn.cons rfl (fun K hK => ?_) ?_
                    · go_simp
                      refine hK _ _ ?_
                      clear hK K
                      refine wpAnyIn_done (by kernel_rfl) ?_ _
                      exact Hrest.out
                    exact AllReadyIn.nil
                  exact AllReadyIn.nil
                exact AllReadyIn.nil
              refine AllReadyIn.cons rfl (fun K hK => ?_) ?_
              · go_simp
                refine hK _ _ ?_
                clear hK K
                refine wpAnyIn_ready (rs := [0]) (by kernel_rfl) (by simp) ?_
                refine AllReadyIn.cons rfl (fun K hK => ?_) ?_
                · go_simp
                  refine hK _ _ ?_
                  clear hK K
                  refine wpAnyIn_ready (rs := [6]) (by kernel_rfl) (by simp) ?_
                  refine AllReadyIn.cons rfl (fun K hK => ?_) ?_
                  · refine stepIn_append_int _ _ rfl (w2.heap.size + 1) R cR (tabUp l src t (a + 1)) v (a + 1) Hlen.out rfl (show OwnJ Wb.drew (w2.heap.size + 1) R cR (tabUp l src t (a + 1)) from How2.out) _ rfl rfl hap hbz ?_
                    intro R2 c2 w3 ho2 hg2
                    refine hK _ _ ?_
                    clear hK K
                    obtain ⟨hbx, hfx, hrest⟩ := Hfin.out R2 c2 w3 ho2 hg2
                    have Hrest := Lib.hid hrest
                    clear hrest ho2 hg2
                    refine wpAnyIn_ready (rs := [7]) (by kernel_rfl) (by simp) ?_
                    refine AllReadyIn.cons rfl (fun K hK => ?_) ?_
                    · go_simp
                      refine hK _ _ ?_
                      clear hK K
                      refine wpAnyIn_done (by kernel_rfl) ?_ _
                      exact Hrest.out
                    exact AllReadyIn.nil
                  exact AllReadyIn.nil
                exact AllReadyIn.nil
              exact AllReadyIn.nil
            exact AllReadyIn.nil
          exact AllReadyIn.nil
        exact AllReadyIn.nil
      exact AllReadyIn.nil
    case done =>
      rintro d W' ⟨hv, h, hrd⟩
      refine ⟨hv, .inl ⟨hrd, fun ob hob hDo => ?_⟩⟩
      obtain ⟨hkl, hkD⟩ := HK.out _ hrd
      obtain ⟨R, cR, hbx, how⟩ := h.tx
      have hisi := how.isi
      have kb : Bk (W'.putObj lr ob) (w2.heap.size + 1 + 1) 28 [.slice R (e + 1 + 1) cR] := hbx.putO hkl ob
      have hob2 : OwnJ (W'.putObj lr ob) (w2.heap.size + 1) R cR (tabUp l src t (e + 2)) := how.grown (grownBy_putObj' W' lr ob) (by
        cases hR : rowOf R with
        | none => exact .inl rfl
        | some q2 => exact .inr (fun e2 => by
            obtain ⟨_, ds, hi⟩ := hisi q2 hR
            obtain ⟨q, hq, hqc⟩ := hkl
            injection e2 with e2
            subst e2
            unfold Bk at hi
            rw [hi] at hq
            cases hq
            cases hqc))
      have blb : Below w.heap.size w (W'.putObj lr ob) := ⟨h.bl.os, h.bl.tape, h.bl.output, by rw [World.putObj_size]; exact h.bl.size, fun b hb => (World.putObj_heap_other (by omega)).trans (h.bl.block b hb)⟩
      obtain ⟨W2, hW2⟩ : ∃ W2, W'.putObj lr ob = W2 := ⟨_, rfl⟩
      rw [hW2] at kb hob2 blb hDo ⊢
      have hfin : OwnJ (W2.putObj D (.deferred none)) (w2.heap.size + 1) R cR (tabUp l src t (e + 2)) := hob2.grown (grownBy_putObj' W2 D _) (by
        cases hR : rowOf R with
        | none => exact .inl rfl
        | some q2 => exact .inr (fun e2 => by
            obtain ⟨_, ds, hi⟩ := hob2.isi q2 hR
            injection e2 with e2
            subst e2
            unfold Bk at hi
            rw [hi] at hDo
            cases hDo))
      have kd := kb.cell 0
      have hfro := kb.free 0
      simp only [List.getElem?_cons_zero] at kd
      have Hblb := Lib.hid blb
      have Hdo := Lib.hid hDo
      have HD := Lib.hid hD
      have Hfin := Lib.hid hfin
      clear hl hz1' hbd hr1 hb0 hb0d k0 k2 k3 kJ hz0 hD hkl hkD hDo hW2 h hrd hv blb hob hisi how hbx hob2 hfin kb
      go_wp2_with fail
      have hD := HD.out
      refine ⟨by simp, .inl ⟨_, _, rfl, run_takeDeferred (b := D) (ds := []) Hdo.out, ?_⟩⟩
      refine ⟨.slice R (e + 1 + 1) cR, by simp [results, Try.results54, go_sem], R, cR, by rw [tabUp_len], Hfin.out.ownI.wide (by omega) (Nat.le_refl _), ?_⟩
      exact ⟨Hblb.out.os, Hblb.out.tape, Hblb.out.output, by rw [World.putObj_size]; exact Hblb.out.size, fun b hb => (World.putObj_heap_other (by omega)).trans (Hblb.out.block b hb)⟩

end Go.Proofs.Ytjhdjfobbgfpfaa

/- Contracts: pulls by the program: the table of pulls, the door. -/
namespace Go.Proofs.Ytjhdjfobbgfpfaa
open Go.RowKit

set_option maxRecDepth 100000 in
set_option maxHeartbeats 3200000 in
theorem implPullTable_any {l : List Nd} {src : List (List Int)} {A : Option Addr} {c : Nat} {As : Option Addr} {ca : Nat} (q : List Int) (hq : Hid (TabQ l src q)) (w : World) (hn : RdN w w.heap.size A l) (hsr : RdR w w.heap.size As src) (hnl : l.length ≤ 1048576) (hns : src.length ≤ 1048576) (hm : Hid (∀ r ∈ src, r.length ≤ 1048576)) :
    Calls Try.prog 54 #[.agg #[.slice A l.length c], .slice As src.length ca] w (TabP q w) := by
  cases hv : (pipeOk l && srcOk src) with
  | false =>
    obtain ⟨W1, hW1⟩ : ∃ X : World, X = w.alloc (.cells #[.slice A l.length c] 32) := ⟨_, rfl⟩
    have hb1 : Below w.heap.size w W1 := by rw [hW1]; exact below1 w _
    have z1 := hb1.size
    have hn1 : RdN W1 W1.heap.size A l := (hn.below hb1 (Nat.le_refl _)).more z1
    have hr1 : RdR W1 W1.heap.size As src := (hsr.below hb1 (Nat.le_refl _)).more z1
    obtain rfl := hq.out.no hv
    have Hcall := Lib.hid (watch_no (c := c) (ca := ca) hv W1 hn1 hr1 hnl hns hm)
    have HW1 := Lib.hid hW1
    have Hb1 := Lib.hid hb1
    clear hW1 hb1 hn hsr hn1 hr1 hv
    go_enter Try.func54, Try.ntmps54
    go_wp2_with fail
    rw [← HW1.out]
    refine Hcall.out.mono ?_
    rintro e w2 ⟨rfl, hb2⟩
    have Hb2 := Lib.hid (Hb1.out.trans (hb2.mono z1))
    clear hb2
    go_wp2_with fail
    refine bodyPost_ret (v := .slice none 0 0) (by simp [results, Try.results54, go_sem]) rfl ?_
    exact ⟨none, 0, rfl, fun h => absurd h (by simp), Hb2.out.alloc Hb2.out.size _⟩
  | true =>
    obtain ⟨t, e, ht, hix, he, rfl⟩ := hq.out.yes hv
    simp only [Bool.and_eq_true] at hv
    obtain ⟨hp, hs⟩ := hv
    have h3 := (src_rows hs).1
    rw [h3]
    exact implPullTable_yes (pipeOk_iff.1 hp) hp hs h3 (high_of hp) ht hix he w hn hsr
theorem implPullTable_l {A : Option Addr} {c : Nat} (l : List Nd) {As : Option Addr} {ca : Nat} (src : List (List Int)) (w : World) (B : Nat) (q : List Int) (hq : Hid (TabQ l src q)) (hn : RdN w B A l) (hsr : RdR w B As src) (hB : B ≤ w.heap.size) (hnl : l.length ≤ 1048576) (hns : src.length ≤ 1048576) (hm : Hid (∀ r ∈ src, r.length ≤ 1048576)) :
    Calls Try.prog 54 #[.agg #[.slice A l.length c], .slice As src.length ca] w fun e w' => ∃ A' c', e = .returned (.slice A' q.length c') ∧ OwnI w' w.heap.size w'.heap.size A' q ∧ Below w.heap.size w w' :=
  implPullTable_any q hq w (hn.more hB) (hsr.more hB) hnl hns hm
theorem specPullTable_l {A : Option Addr} {c : Nat} (l : List Nd) {As : Option Addr} {ca : Nat} (src : List (List Int)) (w : World) (B : Nat) (q : List Int) (hq : Hid (TabQ l src q)) (hn : RdN w B A l) (hsr : RdR w B As src) (hB : B ≤ w.heap.size) (hnl : l.length ≤ 1048576) (hns : src.length ≤ 1048576) (hm : Hid (∀ r ∈ src, r.length ≤ 1048576)) :
    Calls Try.prog 53 #[.agg #[.slice A l.length c], .slice As src.length ca] w fun e w' => ∃ A' c', e = .returned (.slice A' q.length c') ∧ OwnI w' w.heap.size w'.heap.size A' q ∧ Below w.heap.size w w' :=
  specPullTable_any q hq w (hn.more hB) (hsr.more hB) hnl hns hm

end Go.Proofs.Ytjhdjfobbgfpfaa
