/- Texts on the program and its reference, put together (Open, PkA, PkB, PkC, PkD, PlC, PkE, OpenS). -/
import Derived.Test.YtjhdjfobbgfpfaaMPA
import Derived.ProofKit
import Derived.OpenShut
import Derived.ShutString
import Derived.ChangeOld
import Derived.Below
import Derived.Deep.Matrix
import Derived.Test.YtjhdjfobbgfpfaaMPR
import Derived.Test.YtjhdjfobbgfpfaaMPK
import Derived.Deep.RegionHeld3
import Derived.Test.YtjhdjfobbgfpfaaMPG
import Derived.Test.YtjhdjfobbgfpfaaMPF
import Derived.Deep.Upon
import Derived.Test.YtjhdjfobbgfpfaaMPB
import Derived.Deep.QuietTactic
import Derived.BigQuiet
import Derived.Deep.RegionWith
import Derived.ChangeArms
import Derived.Deep.Slices
import Derived.Deep.Fields
/- Arguments that came in, opened: a slice of slices of numbers reads as rows. -/
namespace Go.Proofs.Ytjhdjfobbgfpfaa
open Go.ChangeShapes Go.WideShapes Go.ChangeAt Go.RowKit Go.Deep

section
variable {H : Type} {enc : TypeId × Value → H} {P : Program} {W : World}
theorem open_rows {t e q : TypeId} {A : Option Addr} {len cap : Nat} {d : DataW H} {p : List MemPlace} (ht : P.underlying t = some (.slice e)) (he : P.underlying e = some (.slice q)) (hq : P.underlying q = some (.int .i64)) (ce : P.cellsOf e = 1) (cq : P.cellsOf q = 1)
    (h0 : DataW.Trod enc P W 0 (fun _ => true) true t (.slice A len cap) d p) :
    ∃ rows : List (List Int), rows.length = len ∧ len ≤ maxLen ∧ (∀ r ∈ rows, r.length ≤ maxLen) ∧ RdR W W.heap.size A rows := by
  obtain ⟨fuel, hf⟩ := h0
  rcases open_int_rows ht he hq ce cq hf with ⟨hcs, _⟩ | ⟨a, l, c, Ad, L, C, Z, hcs, _, hl, hm, _, hr⟩
  · simp [Value.cells] at hcs
    obtain ⟨rfl, rfl, rfl⟩ := hcs
    exact ⟨[], rfl, Nat.zero_le _, fun _ h => absurd h (by simp), fun h => absurd h (by simp)⟩
  · simp [Value.cells] at hcs
    obtain ⟨rfl, rfl, rfl⟩ := hcs
    refine ⟨(List.range len).map fun r => (Z r).take (L r), by simp, by omega, fun r h => ?_, fun hn => ?_⟩
    · obtain ⟨i, hi, rfl⟩ := List.mem_map.1 h
      obtain ⟨_, h1, h2, h3, _⟩ := hr i (by have := List.mem_range.1 hi; omega)
      simp; omega
    · simp at hn
      have h00 := (hr 0 (by omega)).1
      refine ⟨a, rfl, by have := World.block_lt_of_cell? _ _ h00; rwa [add_block] at this, fun k r hk => ?_⟩
      have hkl : k < len := by simpa using (List.getElem?_eq_some_iff.1 hk).1
      simp [hkl] at hk
      subst hk
      obtain ⟨h1, h2, _, h4, _, _, h7⟩ := hr k (by omega)
      have e : ((Z k).take (L k)).length = L k := by simp; omega
      refine ⟨Ad k, C k, by rw [e]; exact h1, fun hn2 => ?_⟩
      rw [e] at hn2
      cases hA : Ad k with
      | none => have := (hr k (by omega)).2.2.2.2.2.1 hA; omega
      | some a' =>
        obtain ⟨_, hcell⟩ := h7 a' hA
        refine ⟨a', rfl, by have := World.block_lt_of_cell? _ _ (hcell 0 (by omega)); rwa [add_block] at this, fun j x hj => ?_⟩
        have hjl : j < L k := by have := (List.getElem?_eq_some_iff.1 hj).1; omega
        rw [hcell j (by omega)]
        rw [List.getElem?_take_of_lt hjl] at hj
        simp [List.getD, hj]
end

end Go.Proofs.Ytjhdjfobbgfpfaa

/- Contracts: pulls by the program: what k pulls leave. -/
namespace Go.Proofs.Ytjhdjfobbgfpfaa
open Go.RowKit

/-- What k pulls leave: their items, the cells and the pulls; nothing where the arguments are not valid. -/
structure OutQ (l : List Nd) (src : List (List Int)) (k : Int) (pre : List Int) (s : PS) : Prop where
  no : (pipeOk l && srcOk src && inR k 0 200) = false → pre = [] ∧ s = ⟨[], []⟩
  yes : (pipeOk l && srcOk src && inR k 0 200) = true → ∃ t, IsTI l t ∧ t.ix + 1 = l.length ∧ runP (pull src (fun s => s.M l src + 1) t) k.toNat (newPS l.length) = (pre, s)
theorem OutQ.ex (l : List Nd) (src : List (List Int)) (k : Int) : ∃ pre s, OutQ l src k pre s := by
  cases hv : (pipeOk l && srcOk src && inR k 0 200) with
  | false => exact ⟨[], ⟨[], []⟩, fun _ => ⟨rfl, rfl⟩, fun h => absurd (hv.symm.trans h) (by decide)⟩
  | true =>
    have hv2 := hv
    simp only [Bool.and_eq_true] at hv2
    have hlow := low_of hv2.1.1
    obtain ⟨T, hT⟩ := IsTree.ex (pipeOk_iff.1 hv2.1.1) l.length (l.length - 1) (by omega) (by omega)
    obtain ⟨t, ht, hti, _⟩ := hT.ti
    exact ⟨_, _, fun h => absurd (hv.symm.trans h) (by decide), fun _ => ⟨t, ht, by omega, rfl⟩⟩
/-- What runs keep. -/
structure RunFine (l : List Nd) (src : List (List Int)) (k : Nat) (s : PS) (r : List Int × PS) : Prop where
  ok : StOk l src r.2.cs
  len : r.1.length ≤ k
  wle : r.2.lg.length + r.2.W l src ≤ s.lg.length + s.W l src
  mle : r.2.M l src + r.1.length ≤ s.M l src
  item : ∀ v ∈ r.1, 0 ≤ v ∧ v ≤ 99
theorem runP_fine {l : List Nd} {src : List (List Int)} {j : Nat} {f : PF} (hF : Fine l src j f) : ∀ (k : Nat) (s : PS), StOk l src s.cs → RunFine l src k s (runP f k s)
  | 0, s, ok => ⟨ok, Nat.le_refl _, Nat.le_refl _, Nat.le_refl _, fun v hv => by simp [runP] at hv⟩
  | k + 1, s, ok => by
    rcases hf : f s with ⟨s1, o⟩
    have h1 := hF s ok
    rw [hf] at h1
    cases o with
    | none =>
      rw [runP_none hf]
      have hm := h1.mle
      exact ⟨h1.ok, by simp, h1.wle, by simp at hm ⊢; exact hm, fun v hv => by simp at hv⟩
    | some v =>
      rw [runP_some hf]
      have ih := runP_fine hF k s1 h1.ok
      have hm := h1.mle
      have hw := h1.wle
      have im := ih.mle
      have iw := ih.wle
      simp only [Option.isSome_some, if_true] at hm
      refine ⟨ih.ok, by have := ih.len; simp; omega, by simp only at hw ⊢; omega, by simp only [List.length_cons] at im ⊢; omega, fun u hu => ?_⟩
      rcases List.mem_cons.1 hu with rfl | hu
      · exact h1.item _ rfl
      · exact ih.item u hu
theorem OutQ.fine {l : List Nd} {src : List (List Int)} {k : Int} {pre : List Int} {s : PS} (h : OutQ l src k pre s) (hv : (pipeOk l && srcOk src && inR k 0 200) = true) : RunFine l src k.toNat (newPS l.length) (pre, s) := by
  obtain ⟨t, ht, _, hr⟩ := h.yes hv
  simp only [Bool.and_eq_true] at hv
  rw [← hr]
  exact runP_fine (pull_fine (pipeOk_iff.1 hv.1.1) hv.1.2 ht) _ _ (newPS_ok (pipeOk_iff.1 hv.1.1))
theorem OutQ.sizes {l : List Nd} {src : List (List Int)} {k : Int} {pre : List Int} {s : PS} (h : OutQ l src k pre s) : pre.length ≤ 200 ∧ s.cs.length ≤ 12 ∧ s.lg.length ≤ 65536 := by
  cases hv : (pipeOk l && srcOk src && inR k 0 200) with
  | false => obtain ⟨rfl, rfl⟩ := h.no hv; simp
  | true =>
    have hf := h.fine hv
    simp only [Bool.and_eq_true] at hv
    have hk : k.toNat ≤ 200 := by have := hv.2; simp [inR] at this; omega
    have h1 := hf.len
    have h2 := hf.ok.len
    have h3 := hf.wle
    have h4 := newPS_W (l := l) hv.1.2 (high_of hv.1.1)
    have h5 := high_of hv.1.1
    simp only [newPS, List.length_nil] at h1 h2 h3 h4
    exact ⟨by omega, by omega, by omega⟩
/-- The items of k pulls. -/
def FirstQ (l : List Nd) (src : List (List Int)) (k : Int) (q : List Int) : Prop := ∃ s, OutQ l src k q s
/-- The cells after k pulls. -/
def StQ (l : List Nd) (src : List (List Int)) (k : Int) (q : List Cl) : Prop := ∃ pre s, OutQ l src k pre s ∧ q = s.cs
/-- The pulls of k pulls. -/
def LogQ (l : List Nd) (src : List (List Int)) (k : Int) (q : List Pl) : Prop := ∃ pre s, OutQ l src k pre s ∧ q = s.lg

/-- The cells of a run as memory of the call's own. -/
theorem RS.ownCl {n0 pb cb : Nat} {T : TypeId} {hd tl : List Value} {s : PS} {w : World} (h : RS n0 pb cb T hd tl s w) : OwnCl w n0 w.heap.size (some ⟨cb, 0, none⟩) s.cs := fun _ => by
  obtain ⟨cs, hc, hcs⟩ := h.cells
  exact ⟨cb, 0, cs, rfl, h.loc, hc.lt, hc, fun k x hx => by rw [Nat.zero_add]; exact hcs k x hx⟩
/-- The pulls of a run as memory of the call's own. -/
theorem OwnG.ownPl {w : World} {base c : Nat} {R : Option Addr} {l : List Pl} (h : OwnG w base R c l) : OwnPl w base w.heap.size R l := fun hl => by
  obtain ⟨h1, ⟨_, h0⟩ | ⟨g, cap, cur, hv, hb, hh, hn, _, _, ht⟩⟩ := h
  · omega
  · injection hv with hA _ hc
    subst hc
    refine ⟨g, 0, cur.toList, hA, hb, lt_of_block hh, by unfold Bk; simpa using hh, fun k x hx => ?_⟩
    have hk : k < l.length := (List.getElem?_eq_some_iff.1 hx).1
    obtain ⟨p0, p1⟩ := pls_at hx
    have e : ∀ j, j < l.length * 2 → cur.toList[j]? = (pls l)[j]? := fun j hj => by rw [← ht, List.getElem?_take_of_lt (by omega)]
    exact ⟨by rw [Nat.zero_add, e _ (by omega)]; exact p0, by rw [Nat.zero_add, e _ (by omega)]; exact p1⟩

end Go.Proofs.Ytjhdjfobbgfpfaa

/- Contracts: pulls by the program: the first items. -/
namespace Go.Proofs.Ytjhdjfobbgfpfaa
open Go.RowKit

theorem fd_out0 (a1 a2 a3 : Option Addr) (n1 m1 n2 m2 n3 m3 : Nat) (w : World) : (Instr.field 66 (.agg #[.slice a1 n1 m1, .slice a2 n2 m2, .slice a3 n3 m3]) 0).run Try.prog w = .ok (.slice a1 n1 m1) w := by kernel_rfl
theorem fd_out2 (a1 a2 a3 : Option Addr) (n1 m1 n2 m2 n3 m3 : Nat) (w : World) : (Instr.field 66 (.agg #[.slice a1 n1 m1, .slice a2 n2 m2, .slice a3 n3 m3]) 2).run Try.prog w = .ok (.slice a3 n3 m3) w := by kernel_rfl
set_option maxRecDepth 100000 in
set_option maxHeartbeats 6400000 in
theorem implFirstItems_any {l : List Nd} {src : List (List Int)} {A : Option Addr} {c : Nat} {As : Option Addr} {ca : Nat} (k : Int) (pre : List Int) (s : PS) (hq : Hid (OutQ l src k pre s)) (w : World) (hn : RdN w w.heap.size A l) (hsr : RdR w w.heap.size As src) (hnl : l.length ≤ 1048576) (hns : src.length ≤ 1048576) (hm : Hid (∀ r ∈ src, r.length ≤ 1048576)) :
    Calls Try.prog 19 #[.agg #[.slice A l.length c], .slice As src.length ca, .int .i64 k] w fun e w' => ∃ A' c', e = .returned (.slice A' pre.length c') ∧ OwnI w' w.heap.size w'.heap.size A' pre ∧ Below w.heap.size w w' := by
  have hfd := fd_out0
  obtain ⟨W1, hW1⟩ : ∃ X : World, X = w.alloc (.cells #[.slice A l.length c] 32) := ⟨_, rfl⟩
  have hb1 : Below w.heap.size w W1 := by rw [hW1]; exact below1 w _
  have z1 := hb1.size
  have hn1 : RdN W1 W1.heap.size A l := (hn.below hb1 (Nat.le_refl _)).more z1
  have hr1 : RdR W1 W1.heap.size As src := (hsr.below hb1 (Nat.le_refl _)).more z1
  have Hn := Lib.hid hn1
  have Hsr := Lib.hid hr1
  have HW1 := Lib.hid hW1
  have Hb1 := Lib.hid hb1
  clear hn hsr hn1 hr1 hW1 hb1
  cases hv : (pipeOk l && srcOk src && inR k 0 200) with
  | false =>
    obtain ⟨rfl, rfl⟩ := hq.out.no hv
    have Hv := Lib.hid hv
    clear hv
    go_enter Try.func19, Try.ntmps19
    go_wp2_with fail
    rw [← HW1.out]
    refine (pullTimes_no k Hv.out W1 Hn.out Hsr.out hnl hns hm).mono ?_
    rintro e w2 ⟨rfl, hb2⟩
    have Hb2 := Lib.hid (Hb1.out.trans (hb2.mono z1))
    clear hb2
    go_wp2_with fail
    refine bodyPost_ret (v := .slice none 0 0) (by simp [results, Try.results19, go_sem]) rfl ⟨none, 0, rfl, fun h => absurd h (by simp), Hb2.out⟩
  | true =>
    have hyes := hq.out.yes hv
    have hsz := hq.out.sizes
    simp only [Bool.and_eq_true] at hv
    obtain ⟨⟨hp, hs⟩, hk⟩ := hv
    obtain ⟨kn, rfl⟩ : ∃ kn : Nat, k = (kn : Int) := ⟨k.toNat, by simp [inR] at hk; omega⟩
    have hkn : kn ≤ 200 := by simp [inR] at hk; omega
    have h3 := (src_rows hs).1
    have hhigh := high_of hp
    obtain ⟨t, ht, hix, hqt⟩ := hyes
    have hcall := pullTimes_any (c := c) (ca := ca) (pipeOk_iff.1 hp) hp hs h3 hhigh ht hix (newPS_ok (pipeOk_iff.1 hp)) (newPS_W hs hhigh) kn hkn W1 Hn.out Hsr.out
    rw [h3]
    have Hcall := Lib.hid hcall
    have Hq := Lib.hid hqt
    have Hix := Lib.hid hix
    have Hsz := Lib.hid hsz
    clear hp hs hk h3 ht hix hqt hcall hq hsz
    go_enter Try.func19, Try.ntmps19
    go_wp2_with fail
    rw [← HW1.out]
    refine Hcall.out.mono ?_
    rintro e w2 ⟨rb, cb, fe, pre', s', R, cR, Rp, cp, rfl, hrun, iw, hbk, hog, how, hok, hb2⟩
    rw [Int.toNat_natCast, hrun] at Hq
    obtain ⟨rfl, rfl⟩ := Prod.mk.inj Hq.out.symm
    have Hb2 := Lib.hid (Hb1.out.trans (hb2.mono z1))
    have hz2 := hb2.size
    have hl := hok.len
    clear hrun hb2 Hq
    go_wp2_with fail
    refine bodyPost_ret (v := .slice R pre.length cR) (by simp [results, Try.results19, go_sem]) rfl ⟨R, cR, rfl, how.ownI.wide z1 (Nat.le_refl _), Hb2.out⟩

set_option maxRecDepth 100000 in
set_option maxHeartbeats 6400000 in
theorem specFirstItems_any {l : List Nd} {src : List (List Int)} {A : Option Addr} {c : Nat} {As : Option Addr} {ca : Nat} (k : Int) (pre : List Int) (s : PS) (hq : Hid (OutQ l src k pre s)) (w : World) (hn : RdN w w.heap.size A l) (hsr : RdR w w.heap.size As src) (hnl : l.length ≤ 1048576) (hns : src.length ≤ 1048576) (hm : Hid (∀ r ∈ src, r.length ≤ 1048576)) :
    Calls Try.prog 16 #[.agg #[.slice A l.length c], .slice As src.length ca, .int .i64 k] w fun e w' => ∃ A' c', e = .returned (.slice A' pre.length c') ∧ OwnI w' w.heap.size w'.heap.size A' pre ∧ Below w.heap.size w w' := by
  obtain ⟨W1, hW1⟩ : ∃ X : World, X = w.alloc (.cells #[.slice A l.length c] 32) := ⟨_, rfl⟩
  have hb1 : Below w.heap.size w W1 := by rw [hW1]; exact below1 w _
  have kE : Bk W1 w.heap.size 32 [.slice A l.length c] := by rw [hW1]; exact Bk.new _ _ [_]
  have z1 := hb1.size
  have hn1 : RdN W1 W1.heap.size A l := (hn.below hb1 (Nat.le_refl _)).more z1
  have hr1 : RdR W1 W1.heap.size As src := (hsr.below hb1 (Nat.le_refl _)).more z1
  have Hn := Lib.hid hn1
  have Hsr := Lib.hid hr1
  have HW1 := Lib.hid hW1
  have Hb1 := Lib.hid hb1
  have HkE := Lib.hid kE
  clear kE
  clear hn hsr hn1 hr1 hW1 hb1
  have hcall := specvalidPulls_any (c := c) (ca := ca) k W1 Hn.out Hsr.out hnl hns hm
  cases hv : (pipeOk l && srcOk src && inR k 0 200) with
  | false =>
    obtain ⟨rfl, rfl⟩ := hq.out.no hv
    rw [hv] at hcall
    have Hcall := Lib.hid hcall
    clear hv hcall
    go_enter Try.func16, Try.ntmps16
    go_wp2_with fail
    rw [← HW1.out]
    refine Hcall.out.mono ?_
    rintro e w2 ⟨rfl, hb2⟩
    have Hb2 := Lib.hid (Hb1.out.trans (hb2.mono z1))
    clear hb2
    go_wp2_with fail
    refine bodyPost_ret (v := .slice none 0 0) (by simp [results, Try.results16, go_sem]) rfl ⟨none, 0, rfl, fun h => absurd h (by simp), Hb2.out⟩
  | true =>
    have hyes := hq.out.yes hv
    have hsz := hq.out.sizes
    simp only [Bool.and_eq_true] at hv
    obtain ⟨⟨hp, hs⟩, hk⟩ := hv
    obtain ⟨kn, rfl⟩ : ∃ kn : Nat, k = (kn : Int) := ⟨k.toNat, by simp [inR] at hk; omega⟩
    have hkn : kn ≤ 200 := by simp [inR] at hk; omega
    have h3 := (src_rows hs).1
    have hhigh := high_of hp
    obtain ⟨t, ht, hix, hqt⟩ := hyes
    have hF := pull_fine (pipeOk_iff.1 hp) hs (fu := fun s => s.M l src + 1) ht
    have hpul := fun (W : World) (hnW : RdN W W.heap.size A l) (hsW : RdR W W.heap.size As src) => specPulled_any (c := c) (ca := ca) hhigh hF (fun pb cb n0 => NextOk.of (pipeOk_iff.1 hp) hs hhigh ht) hix (newPS_ok (pipeOk_iff.1 hp)) (newPS_W hs hhigh) kn hkn W hnW hsW
    have hmany := manyP_runP hF (fun s s' ok h => pull_again (pipeOk_iff.1 hp) hs ht ok h) (newPS_ok (pipeOk_iff.1 hp)) kn
    have hlow := low_of hp
    have hvt : (pipeOk l && srcOk src && inR (kn : Int) 0 200) = true := by simp [hp, hs, hk]
    rw [hvt] at hcall
    rw [h3] at hcall ⊢
    have Hcall := Lib.hid hcall
    have Hpul := Lib.hid hpul
    have Hmany := Lib.hid hmany
    have Hq := Lib.hid hqt
    have Hix := Lib.hid hix
    have Hsz := Lib.hid hsz
    have Hsrc3 := Lib.hid h3
    have Hsok := Lib.hid hs
    clear hp hs hk h3 ht hix hqt hcall hq hF hpul hmany hvt hsz
    go_enter Try.func16, Try.ntmps16
    go_wp2_with fail
    rw [← HW1.out]
    refine Hcall.out.mono ?_
    rintro e w2 ⟨rfl, hb2⟩
    have Hb2 := Lib.hid (Hb1.out.trans (hb2.mono z1))
    have kE2 := HkE.out.below hb2 HkE.out.lt
    have e2 := kE2.cell 0
    simp only [List.getElem?_cons_zero] at e2
    have hz2 := hb2.size
    have hpc := Hpul.out w2 ((Hn.out.below hb2 (Nat.le_refl _)).more hz2) ((Hsr.out.below hb2 (Nat.le_refl _)).more hz2)
    have Hpc := Lib.hid hpc
    have HkE2 := Lib.hid kE2
    have Hpb1 := Lib.hid hb2
    clear hb2 hpc kE2
    go_wp2_with fail
    refine Hpc.out.mono ?_
    rintro e w3 ⟨pb, cb, R, cR, pre', s', rfl, h⟩
    have hl := h.ok.len
    have he := h.e
    rw [Hmany.out] at he
    rw [Int.toNat_natCast, he] at Hq
    obtain ⟨rfl, rfl⟩ := Prod.mk.inj Hq.out.symm
    obtain ⟨b0, b1, b2⟩ := h.sw.bx
    have hz12 := Hb2.out.size
    have hz3 := h.bl.size
    have Hb3 := Lib.hid (Hb2.out.trans (h.bl.mono hz12))
    have hE3 := (HkE2.out.below h.bl HkE2.out.lt).cell 0
    simp only [List.getElem?_cons_zero] at hE3
    have Hh := Lib.hid h
    have hpb1 := Hpb1.out
    clear he Hq h e2 hpb1
    go_wp2_with fail
    refine bodyPost_ret (v := .slice R pre.length cR) (by simp [results, Try.results16, go_sem]) rfl ⟨R, cR, rfl, Hh.out.ow.ownI.wide hz12 (Nat.le_refl _), Hb3.out⟩

theorem implFirstItems_l {A : Option Addr} {c : Nat} (l : List Nd) {As : Option Addr} {ca : Nat} (src : List (List Int)) (k : Int) (w : World) (B : Nat) (q : List Int) (hq : Hid (FirstQ l src k q)) (hn : RdN w B A l) (hsr : RdR w B As src) (hB : B ≤ w.heap.size) (hnl : l.length ≤ 1048576) (hns : src.length ≤ 1048576) (hm : Hid (∀ r ∈ src, r.length ≤ 1048576)) :
    Calls Try.prog 19 #[.agg #[.slice A l.length c], .slice As src.length ca, .int .i64 k] w fun e w' => ∃ A' c', e = .returned (.slice A' q.length c') ∧ OwnI w' w.heap.size w'.heap.size A' q ∧ Below w.heap.size w w' := by
  obtain ⟨s, h⟩ := hq.out
  exact implFirstItems_any k q s (Lib.hid h) w (hn.more hB) (hsr.more hB) hnl hns hm
theorem specFirstItems_l {A : Option Addr} {c : Nat} (l : List Nd) {As : Option Addr} {ca : Nat} (src : List (List Int)) (k : Int) (w : World) (B : Nat) (q : List Int) (hq : Hid (FirstQ l src k q)) (hn : RdN w B A l) (hsr : RdR w B As src) (hB : B ≤ w.heap.size) (hnl : l.length ≤ 1048576) (hns : src.length ≤ 1048576) (hm : Hid (∀ r ∈ src, r.length ≤ 1048576)) :
    Calls Try.prog 16 #[.agg #[.slice A l.length c], .slice As src.length ca, .int .i64 k] w fun e w' => ∃ A' c', e = .returned (.slice A' q.length c') ∧ OwnI w' w.heap.size w'.heap.size A' q ∧ Below w.heap.size w w' := by
  obtain ⟨s, h⟩ := hq.out
  exact specFirstItems_any k q s (Lib.hid h) w (hn.more hB) (hsr.more hB) hnl hns hm

end Go.Proofs.Ytjhdjfobbgfpfaa

/- Contracts: pulls by the program: pulls are appended to a slice. -/
namespace Go.Proofs.Ytjhdjfobbgfpfaa
open Go.RowKit

set_option maxRecDepth 100000 in
/-- The pulls of one slice are appended to another one of the call's own. -/
theorem run_append_pls {w : World} {base : Nat} {R : Option Addr} {cR : Nat} {lg : List Pl} (hown : OwnG w base R cR lg) (hb : base ≤ w.heap.size) {B : Nat} {R2 : Option Addr} {c2 : Nat} {b : List Pl} (hsrc : OwnG w B R2 c2 b) (hn : lg.length + b.length ≤ 1048576) (ty : TypeId) :
    ∃ R' c' w', (Builtin.append_ #[47, 47] ty #[.slice R lg.length cR, .slice R2 b.length c2]).run Try.prog w = .ok (.slice R' (lg.length + b.length) c') w' ∧ OwnG w' base R' c' (lg ++ b) ∧ w.grownBy w' (rowOf R) := by
  obtain ⟨i, hi, hz0, hz1, hz2⟩ := info_parts Try.infoPl
  have hrd := hsrc.ownPl
  cases R2 with
  | none =>
    have hb0 : b = [] := by
      by_cases h : 0 < b.length
      · obtain ⟨g, o, cs, e, _⟩ := hrd h; cases e
      · exact List.eq_nil_of_length_eq_zero (by omega)
    subst hb0
    have hle : lg.length ≤ cR := by
      obtain ⟨_, ⟨hv, h0⟩ | ⟨g, cap, cur, hv, _, _, hle, _⟩⟩ := hown
      · omega
      · injection hv with _ _ hc; omega
    refine ⟨R, cR, w, run_append_nothing w 47 47 ty 76 i Try.underlying47 hi R lg.length cR hle _ (Src.ofNil w Try.underlying47 c2), by rw [List.append_nil]; exact hown, World.grownBy.refl w _⟩
  | some ad =>
    have hread : ∀ (j : Nat) (u : Value), (pls b)[j]? = some u → w.cell? (ad.add j) = some u := fun j u hj => by
      have hlt : j < b.length * 2 := by rw [← pls_len]; exact (List.getElem?_eq_some_iff.1 hj).1
      obtain ⟨_, ⟨_, h0⟩ | ⟨g, cap, cur, hv, _, hh, _, _, _, ht⟩⟩ := hsrc
      · omega
      · injection hv with hA
        obtain rfl := Option.some.inj hA
        have hbk : Bk w g 76 cur.toList := by unfold Bk; simpa using hh
        rw [add_zero_row, hbk.cell, ← hj, ← ht, List.getElem?_take_of_lt (by omega)]
    have hone : ∀ u ∈ pls b, u.oneCell' = true := by
      have : ∀ (q : List Pl) (u : Value), u ∈ pls q → u.oneCell' = true := fun q => by
        induction q with
        | nil => intro u hu; cases hu
        | cons p q ih =>
          intro u hu
          simp only [pls, List.mem_cons] at hu
          rcases hu with rfl | rfl | hu
          · rfl
          · rfl
          · exact ih u hu
      exact this b
    obtain ⟨v', w', hr, h2, h3, h4⟩ := run_append_own (P := Try.prog) w base 47 ty 76 i _ 2 16 Try.underlying47 hi hz0 hz1 hz2 rfl (by decide)
      (.slice R lg.length cR) lg.length (pls lg) hown ad b.length c2 (pls b) (pls_len b) hread hone (by unfold maxLen; omega) (by omega) hb
    have hv : ∃ A' c', v' = .slice A' (lg.length + b.length) c' := by
      obtain ⟨_, ⟨hv, h0⟩ | ⟨g, cap, cur, hv, _⟩⟩ := h2
      · exact ⟨none, 0, by rw [hv, h0]⟩
      · exact ⟨_, _, hv⟩
    obtain ⟨A', c', rfl⟩ := hv
    refine ⟨A', c', w', hr, ?_, by rw [← ownBlock_slice R lg.length cR]; exact h3⟩
    unfold OwnG
    rw [List.length_append, pls_app]
    exact h2
theorem emptyG (w : World) : OwnG (w.alloc (.cells #[] 76)) w.heap.size (some ⟨w.heap.size, 0, none⟩) 0 [] :=
  ⟨rfl, .inr ⟨w.heap.size, 0, #[], rfl, Nat.le_refl _, heap_alloc_new w _, Nat.le_refl _, Nat.zero_le _, rfl, rfl⟩⟩
theorem step_append_pls {o : Oper} {a : Act} {ops : Array Oper} {rest : List Oper} {Q : Exit → Act → World → Prop} {w : World} (hgd : o.guard = none) (s y : Operand)
    (ho : o.op = .call { callee := .builtin .append, args := #[s, y], argTypes := #[47, 47] }) (base : Nat) (R : Option Addr) (cR : Nat) (lg : List Pl) (B : Nat) (R2 : Option Addr) (c2 : Nat) (b : List Pl) (hs : a.eval s = .slice R lg.length cR) (hx : a.eval y = .slice R2 b.length c2)
    (hown : OwnG w base R cR lg) (hb : base ≤ w.heap.size) (hsrc : OwnG w B R2 c2 b) (hn : lg.length + b.length ≤ 1048576)
    (h : ∀ (R' : Option Addr) (c' : Nat) (w' : World), OwnG w' base R' c' (lg ++ b) → w.grownBy w' (rowOf R) → wpList Try.prog ops Q rest (a.put o.dst (.slice R' (lg.length + b.length) c')) w') :
    wpList Try.prog ops Q (o :: rest) a w := by
  obtain ⟨R', c', w', hr, h2, h3⟩ := run_append_pls hown hb hsrc hn o.type
  refine wpList_plain hgd fun K hK => ?_
  unfold Oper.wp execOp
  simp only [ho, resolve, invoke, builtin, Sem.run_bind, Sem.run_pure, Result.andThen_ok, List.map_toArray, List.map_cons, List.map_nil, hs, hx, hr]
  exact hK _ _ (h R' c' w' h2 h3)
theorem step_copy_pls {o : Oper} {a : Act} {ops : Array Oper} {rest : List Oper} {Q : Exit → Act → World → Prop} {w : World} (hgd : o.guard = none) (s y : Operand)
    (ho : o.op = .call { callee := .builtin .append, args := #[s, y], argTypes := #[47, 47] }) (base g : Nat) (B : Nat) (R2 : Option Addr) (c2 : Nat) (b : List Pl) (hs : a.eval s = .slice (some ⟨g, 0, none⟩) 0 0) (hx : a.eval y = .slice R2 b.length c2)
    (hown : OwnG w base (some ⟨g, 0, none⟩) 0 []) (hb : base ≤ w.heap.size) (hsrc : OwnG w B R2 c2 b) (hn : b.length ≤ 1048576)
    (h : ∀ (R' : Option Addr) (c' : Nat) (w' : World), OwnG w' base R' c' b → Below g w w' → wpList Try.prog ops Q rest (a.put o.dst (.slice R' b.length c')) w') :
    wpList Try.prog ops Q (o :: rest) a w := by
  refine step_append_pls hgd s y ho base _ 0 [] B R2 c2 b hs hx hown hb hsrc (by simp; omega) fun R' c' w' h1 h2 => ?_
  have hz : g ≤ w.heap.size := by
    have := (hown.row g rfl).2.1
    omega
  have h3 := h R' c' w' (by simpa using h1) (Below.grown (Below.refl g w) h2 hz (fun g' e => by have : g = g' := Option.some.inj e; omega))
  simpa using h3

end Go.Proofs.Ytjhdjfobbgfpfaa

/- Contracts: pulls by the program: PullsOf. -/
namespace Go.Proofs.Ytjhdjfobbgfpfaa
open Go.RowKit

set_option maxRecDepth 100000 in
set_option maxHeartbeats 6400000 in
theorem implPullsOf_any {l : List Nd} {src : List (List Int)} {A : Option Addr} {c : Nat} {As : Option Addr} {ca : Nat} (k : Int) (pre : List Int) (s : PS) (hq : Hid (OutQ l src k pre s)) (w : World) (hn : RdN w w.heap.size A l) (hsr : RdR w w.heap.size As src) (hnl : l.length ≤ 1048576) (hns : src.length ≤ 1048576) (hm : Hid (∀ r ∈ src, r.length ≤ 1048576)) :
    Calls Try.prog 33 #[.agg #[.slice A l.length c], .slice As src.length ca, .int .i64 k] w fun e w' => ∃ A' c', e = .returned (.slice A' s.lg.length c') ∧ OwnPl w' w.heap.size w'.heap.size A' s.lg ∧ Below w.heap.size w w' := by
  have hfd := fd_out2
  obtain ⟨W1, hW1⟩ : ∃ X : World, X = w.alloc (.cells #[.slice A l.length c] 32) := ⟨_, rfl⟩
  have hb1 : Below w.heap.size w W1 := by rw [hW1]; exact below1 w _
  have z1 := hb1.size
  have hn1 : RdN W1 W1.heap.size A l := (hn.below hb1 (Nat.le_refl _)).more z1
  have hr1 : RdR W1 W1.heap.size As src := (hsr.below hb1 (Nat.le_refl _)).more z1
  have Hn := Lib.hid hn1
  have Hsr := Lib.hid hr1
  have HW1 := Lib.hid hW1
  have Hb1 := Lib.hid hb1
  clear hn hsr hn1 hr1 hW1 hb1
  cases hv : (pipeOk l && srcOk src && inR k 0 200) with
  | false =>
    obtain ⟨rfl, rfl⟩ := hq.out.no hv
    have Hv := Lib.hid hv
    clear hv
    go_enter Try.func33, Try.ntmps33
    go_wp2_with fail
    rw [← HW1.out]
    refine (pullTimes_no k Hv.out W1 Hn.out Hsr.out hnl hns hm).mono ?_
    rintro e w2 ⟨rfl, hb2⟩
    have Hb2 := Lib.hid (Hb1.out.trans (hb2.mono z1))
    clear hb2
    go_wp2_with fail
    refine bodyPost_ret (v := .slice none 0 0) (by simp [results, Try.results33, go_sem]) rfl ⟨none, 0, rfl, fun h => absurd h (by simp), Hb2.out⟩
  | true =>
    have hyes := hq.out.yes hv
    have hsz := hq.out.sizes
    simp only [Bool.and_eq_true] at hv
    obtain ⟨⟨hp, hs⟩, hk⟩ := hv
    obtain ⟨kn, rfl⟩ : ∃ kn : Nat, k = (kn : Int) := ⟨k.toNat, by simp [inR] at hk; omega⟩
    have hkn : kn ≤ 200 := by simp [inR] at hk; omega
    have h3 := (src_rows hs).1
    have hhigh := high_of hp
    obtain ⟨t, ht, hix, hqt⟩ := hyes
    have hcall := pullTimes_any (c := c) (ca := ca) (pipeOk_iff.1 hp) hp hs h3 hhigh ht hix (newPS_ok (pipeOk_iff.1 hp)) (newPS_W hs hhigh) kn hkn W1 Hn.out Hsr.out
    rw [h3]
    have Hcall := Lib.hid hcall
    have Hq := Lib.hid hqt
    have Hix := Lib.hid hix
    have Hsz := Lib.hid hsz
    clear hp hs hk h3 ht hix hqt hcall hq hsz
    go_enter Try.func33, Try.ntmps33
    go_wp2_with fail
    rw [← HW1.out]
    refine Hcall.out.mono ?_
    rintro e w2 ⟨rb, cb, fe, pre', s', R, cR, Rp, cp, rfl, hrun, iw, hbk, hog, how, hok, hb2⟩
    rw [Int.toNat_natCast, hrun] at Hq
    obtain ⟨rfl, rfl⟩ := Prod.mk.inj Hq.out.symm
    have Hb2 := Lib.hid (Hb1.out.trans (hb2.mono z1))
    have hz2 := hb2.size
    have hl := hok.len
    clear hrun hb2 Hq
    go_wp2_with fail
    refine bodyPost_ret (v := .slice Rp s.lg.length cp) (by simp [results, Try.results33, go_sem]) rfl ⟨Rp, cp, rfl, hog.ownPl.wide z1 (Nat.le_refl _), Hb2.out⟩

set_option maxRecDepth 100000 in
set_option maxHeartbeats 6400000 in
theorem specPullsOf_any {l : List Nd} {src : List (List Int)} {A : Option Addr} {c : Nat} {As : Option Addr} {ca : Nat} (k : Int) (pre : List Int) (s : PS) (hq : Hid (OutQ l src k pre s)) (w : World) (hn : RdN w w.heap.size A l) (hsr : RdR w w.heap.size As src) (hnl : l.length ≤ 1048576) (hns : src.length ≤ 1048576) (hm : Hid (∀ r ∈ src, r.length ≤ 1048576)) :
    Calls Try.prog 32 #[.agg #[.slice A l.length c], .slice As src.length ca, .int .i64 k] w fun e w' => ∃ A' c', e = .returned (.slice A' s.lg.length c') ∧ OwnPl w' w.heap.size w'.heap.size A' s.lg ∧ Below w.heap.size w w' := by
  obtain ⟨W1, hW1⟩ : ∃ X : World, X = w.alloc (.cells #[.slice A l.length c] 32) := ⟨_, rfl⟩
  have hb1 : Below w.heap.size w W1 := by rw [hW1]; exact below1 w _
  have kE : Bk W1 w.heap.size 32 [.slice A l.length c] := by rw [hW1]; exact Bk.new _ _ [_]
  have z1 := hb1.size
  have hn1 : RdN W1 W1.heap.size A l := (hn.below hb1 (Nat.le_refl _)).more z1
  have hr1 : RdR W1 W1.heap.size As src := (hsr.below hb1 (Nat.le_refl _)).more z1
  have Hn := Lib.hid hn1
  have Hsr := Lib.hid hr1
  have HW1 := Lib.hid hW1
  have Hb1 := Lib.hid hb1
  have HkE := Lib.hid kE
  clear kE
  clear hn hsr hn1 hr1 hW1 hb1
  have hcall := specvalidPulls_any (c := c) (ca := ca) k W1 Hn.out Hsr.out hnl hns hm
  cases hv : (pipeOk l && srcOk src && inR k 0 200) with
  | false =>
    obtain ⟨rfl, rfl⟩ := hq.out.no hv
    rw [hv] at hcall
    have Hcall := Lib.hid hcall
    clear hv hcall
    go_enter Try.func32, Try.ntmps32
    go_wp2_with fail
    rw [← HW1.out]
    refine Hcall.out.mono ?_
    rintro e w2 ⟨rfl, hb2⟩
    have Hb2 := Lib.hid (Hb1.out.trans (hb2.mono z1))
    clear hb2
    go_wp2_with fail
    refine bodyPost_ret (v := .slice none 0 0) (by simp [results, Try.results32, go_sem]) rfl ⟨none, 0, rfl, fun h => absurd h (by simp), Hb2.out⟩
  | true =>
    have hyes := hq.out.yes hv
    have hsz := hq.out.sizes
    simp only [Bool.and_eq_true] at hv
    obtain ⟨⟨hp, hs⟩, hk⟩ := hv
    obtain ⟨kn, rfl⟩ : ∃ kn : Nat, k = (kn : Int) := ⟨k.toNat, by simp [inR] at hk; omega⟩
    have hkn : kn ≤ 200 := by simp [inR] at hk; omega
    have h3 := (src_rows hs).1
    have hhigh := high_of hp
    obtain ⟨t, ht, hix, hqt⟩ := hyes
    have hF := pull_fine (pipeOk_iff.1 hp) hs (fu := fun s => s.M l src + 1) ht
    have hpul := fun (W : World) (hnW : RdN W W.heap.size A l) (hsW : RdR W W.heap.size As src) => specPulled_any (c := c) (ca := ca) hhigh hF (fun pb cb n0 => NextOk.of (pipeOk_iff.1 hp) hs hhigh ht) hix (newPS_ok (pipeOk_iff.1 hp)) (newPS_W hs hhigh) kn hkn W hnW hsW
    have hmany := manyP_runP hF (fun s s' ok h => pull_again (pipeOk_iff.1 hp) hs ht ok h) (newPS_ok (pipeOk_iff.1 hp)) kn
    have hlow := low_of hp
    have hvt : (pipeOk l && srcOk src && inR (kn : Int) 0 200) = true := by simp [hp, hs, hk]
    rw [hvt] at hcall
    rw [h3] at hcall ⊢
    have Hcall := Lib.hid hcall
    have Hpul := Lib.hid hpul
    have Hmany := Lib.hid hmany
    have Hq := Lib.hid hqt
    have Hix := Lib.hid hix
    have Hsz := Lib.hid hsz
    have Hsrc3 := Lib.hid h3
    have Hsok := Lib.hid hs
    clear hp hs hk h3 ht hix hqt hcall hq hF hpul hmany hvt hsz
    go_enter Try.func32, Try.ntmps32
    go_wp2_with fail
    rw [← HW1.out]
    refine Hcall.out.mono ?_
    rintro e w2 ⟨rfl, hb2⟩
    have Hb2 := Lib.hid (Hb1.out.trans (hb2.mono z1))
    have kE2 := HkE.out.below hb2 HkE.out.lt
    have e2 := kE2.cell 0
    simp only [List.getElem?_cons_zero] at e2
    have hz2 := hb2.size
    have hpc := Hpul.out w2 ((Hn.out.below hb2 (Nat.le_refl _)).more hz2) ((Hsr.out.below hb2 (Nat.le_refl _)).more hz2)
    have Hpc := Lib.hid hpc
    have HkE2 := Lib.hid kE2
    have Hpb1 := Lib.hid hb2
    clear hb2 hpc kE2
    go_wp2_with fail
    refine Hpc.out.mono ?_
    rintro e w3 ⟨pb, cb, R, cR, pre', s', rfl, h⟩
    have hl := h.ok.len
    have he := h.e
    rw [Hmany.out] at he
    rw [Int.toNat_natCast, he] at Hq
    obtain ⟨rfl, rfl⟩ := Prod.mk.inj Hq.out.symm
    obtain ⟨b0, b1, b2⟩ := h.sw.bx
    have hz12 := Hb2.out.size
    have hz3 := h.bl.size
    have Hb3 := Lib.hid (Hb2.out.trans (h.bl.mono hz12))
    have hE3 := (HkE2.out.below h.bl HkE2.out.lt).cell 0
    simp only [List.getElem?_cons_zero] at hE3
    have Hh := Lib.hid h
    have hpb1 := Hpb1.out
    obtain ⟨Rl, cRl, hbx, hog⟩ := h.sw.rs.box
    have b3 := hbx.cell 3
    have plt := hbx.lt
    replace b3 : w3.cell? ⟨pb, 3, none⟩ = some (.slice Rl s.lg.length cRl) := b3
    have hlg : s.lg.length ≤ 1048576 := by have := Hsz.out.2.2; omega
    have Hog := Lib.hid hog
    clear hog hbx
    clear he Hq h e2 hpb1
    go_wp2_with (at_builtin; go_must (refine step_copy_pls rfl _ _ rfl w3.heap.size w3.heap.size w2.heap.size Rl cRl s.lg rfl rfl (emptyG w3) (by simp) (OwnG.keep Hog.out (fun _ hg _ => Below.heap_alloc _ _ _ hg)) hlg ?_; intro R4 c4 w4 ho4 hb4); have Ho4 := Lib.hid ho4; have Hb4 := Lib.hid (((Hb3.out.alloc (by omega) _)).trans (hb4.mono (by omega))); clear ho4 hb4)
    refine bodyPost_ret (v := .slice R4 s.lg.length c4) (by simp [results, Try.results32, go_sem]) rfl ⟨R4, c4, rfl, Ho4.out.ownPl.wide (by omega) (Nat.le_refl _), Hb4.out⟩

theorem implPullsOf_l {A : Option Addr} {c : Nat} (l : List Nd) {As : Option Addr} {ca : Nat} (src : List (List Int)) (k : Int) (w : World) (B : Nat) (q : List Pl) (hq : Hid (LogQ l src k q)) (hn : RdN w B A l) (hsr : RdR w B As src) (hB : B ≤ w.heap.size) (hnl : l.length ≤ 1048576) (hns : src.length ≤ 1048576) (hm : Hid (∀ r ∈ src, r.length ≤ 1048576)) :
    Calls Try.prog 33 #[.agg #[.slice A l.length c], .slice As src.length ca, .int .i64 k] w fun e w' => ∃ A' c', e = .returned (.slice A' q.length c') ∧ OwnPl w' w.heap.size w'.heap.size A' q ∧ Below w.heap.size w w' := by
  obtain ⟨pre, s, h, rfl⟩ := hq.out
  exact implPullsOf_any k pre s (Lib.hid h) w (hn.more hB) (hsr.more hB) hnl hns hm
theorem specPullsOf_l {A : Option Addr} {c : Nat} (l : List Nd) {As : Option Addr} {ca : Nat} (src : List (List Int)) (k : Int) (w : World) (B : Nat) (q : List Pl) (hq : Hid (LogQ l src k q)) (hn : RdN w B A l) (hsr : RdR w B As src) (hB : B ≤ w.heap.size) (hnl : l.length ≤ 1048576) (hns : src.length ≤ 1048576) (hm : Hid (∀ r ∈ src, r.length ≤ 1048576)) :
    Calls Try.prog 32 #[.agg #[.slice A l.length c], .slice As src.length ca, .int .i64 k] w fun e w' => ∃ A' c', e = .returned (.slice A' q.length c') ∧ OwnPl w' w.heap.size w'.heap.size A' q ∧ Below w.heap.size w w' := by
  obtain ⟨pre, s, h, rfl⟩ := hq.out
  exact specPullsOf_any k pre s (Lib.hid h) w (hn.more hB) (hsr.more hB) hnl hns hm

end Go.Proofs.Ytjhdjfobbgfpfaa

/- Contracts of the functions on pulls at sources. -/
namespace Go.Proofs.Ytjhdjfobbgfpfaa
open Go.RowKit

set_option maxHeartbeats 800000 in
theorem eqPull_any (x y : Pl) (w : World) :
    Calls Try.prog 66 #[.agg #[.int .i64 x.s, .int .i64 x.i], .agg #[.int .i64 y.s, .int .i64 y.i]] w
      fun e w' => e = .returned (.bool (plEq x y)) ∧ Below w.heap.size w w' := by
  go_enter Try.func66, Try.ntmps66
  go_wp2
  all_goals
    go_ret
    refine ⟨ret_bool ?_, ((Below.refl _ _).alloc (Nat.le_refl _) _).alloc (by simp) _⟩
    first | exact (plEq_no0 (by assumption)).symm | exact (plEq_no1 (by assumption)).symm | exact (plEq_yes (by assumption) (by assumption)).symm

set_option maxHeartbeats 1600000 in
theorem eqPullS_any (A1 A2 : Option Addr) (c1 c2 : Nat) (l1 l2 : List Pl) (w : World) (B : Nat) (h1 : RdPl w B A1 l1) (h2 : RdPl w B A2 l2) (hB : B ≤ w.heap.size) (n1 : l1.length ≤ 1048576) :
    Calls Try.prog 34 #[.slice A1 l1.length c1, .slice A2 l2.length c2] w fun e w' => e = .returned (.bool (decide (l1 = l2))) ∧ Below w.heap.size w w' := by
  by_cases hl : l1.length = l2.length
  · have hb : ((l1.length : Int) != (l2.length : Int)) = false := by simp [hl]
    have hb' : (l1.length != l2.length) = false := by simp [hl]
    have Hl := Lib.hid hl
    clear hl
    go_enter Try.func34, Try.ntmps34
    go_wp2
    go_loopw [5] (fun i wr => ∃ k : Nat, k ≤ l1.length ∧ i = .int .i64 k ∧ l1.take k = l2.take k ∧ Below w.heap.size w wr) (fun i _ => l1.length - (intOf i).toNat)
    case atStart => exact ⟨0, Nat.zero_le _, rfl, by simp, Below.refl _ _⟩
    case round =>
      obtain ⟨k, hk, rfl, hall, hs⟩ := hrel
      have Hall := Lib.hid hall
      clear hall
      by_cases hlt : k < l1.length
      · have hlt2 : k < l2.length := by rw [← Hl.out]; exact hlt
        obtain ⟨b, o, x, rfl, hbB, hx, hc⟩ := (h1.below hs hB).at_ hlt
        obtain ⟨b2, o2, y, rfl, hbB2, hy, hd⟩ := (h2.below hs hB).at_ hlt2
        obtain ⟨p0, p1⟩ := hc
        obtain ⟨q0, q1⟩ := hd
        have Hx := Lib.hid hx
        have Hy := Lib.hid hy
        have Hs := Lib.hid hs
        clear hx hy h1 h2 hs
        cases hxy : plEq x y
        · have Hxy := Lib.hid hxy
          clear hxy
          go_wp2
          go_region_with (go_at_call 66; refine (eqPull_any x y _).mono ?_; rintro e w1 ⟨rfl, hb⟩; rw [Hxy.out]; have Hb := Lib.hid hb; clear hb)
          all_goals
            go_wp2
            go_ret
            exact ⟨ret_bool (decide_eq_false (ne_of_get Hx.out Hy.out (plEq_ne Hxy.out))).symm, below_step Hs.out Hb.out⟩
        · have Hxy := Lib.hid hxy
          clear hxy
          go_wp2
          go_region_with (go_at_call 66; refine (eqPull_any x y _).mono ?_; rintro e w1 ⟨rfl, hb⟩; rw [Hxy.out]; have Hb := Lib.hid hb; clear hb)
          all_goals
            go_wp2
            go_roundw
            case rel => exact ⟨k + 1, by omega, by go_num, take_eq_succ Hall.out Hx.out (by rw [plEq_eq Hxy.out]; exact Hy.out), below_step Hs.out Hb.out⟩
            case measure => simp [intOf]; omega
      · go_wp2
        go_ret
        exact ⟨ret_bool (decide_eq_true (eq_of_take (by omega) (by rw [← Hl.out]; omega) Hall.out)).symm, hs⟩
  · have hb' : (l1.length != l2.length) = true := by simp [hl]
    have Hl : Hid (¬ l1.length = l2.length) := hl
    clear hl
    go_enter Try.func34, Try.ntmps34
    go_wp2
    go_ret
    exact ⟨ret_bool (by rw [decide_eq_false]; intro e; exact Hl.out (by rw [e])), Below.refl _ _⟩

/-- n marks, the first number of which is k. -/
def mkPl (n : Nat) (k : Int) : List Pl := (List.range n).map fun i : Nat => ⟨k + 2 * i, k + 2 * i + 1⟩
theorem mkPl_len (n : Nat) (k : Int) : (mkPl n k).length = n := by simp [mkPl]
theorem mkPl_get {n : Nat} {k : Int} {i : Nat} (h : i < n) : (mkPl n k)[i]? = some ⟨k + 2 * i, k + 2 * i + 1⟩ := by simp [mkPl, h]
theorem mkPl_at {n : Nat} {k m : Int} {i : Nat} (h : i < n) (hm : m = k + 2 * i) : (mkPl n k)[i]? = some ⟨m, m + 1⟩ := by rw [mkPl_get h, hm]

set_option maxHeartbeats 3200000 in
theorem markPullS_h {lo hi : Nat} {A : Option Addr} {c : Nat} {l : List Pl} {w : World} (k : Int) (h : OwnPl w lo hi A l) (hn : l.length ≤ 1048576) (hk0 : 0 ≤ k) (hk1 : k ≤ 16777216) :
    Calls Try.prog 35 #[.slice A l.length c, .int .i64 k] w fun e w' => e = .returned (.int .i64 (k + 2 * l.length)) ∧ OwnPl w' lo hi A (mkPl l.length k) ∧ Chg lo hi w w' := by
  by_cases hl : 0 < l.length
  · obtain ⟨g, o, cs, rfl, hlo, hhi, hb0, hc0⟩ := h hl
    obtain ⟨n, hnl⟩ : ∃ n : Nat, n = l.length := ⟨_, rfl⟩
    have hcs : o + n * 2 ≤ cs.length := by
      obtain ⟨x, hx⟩ := get_of_lt l (k := n - 1) (by omega)
      have := (List.getElem?_eq_some_iff.1 (hc0 (n - 1) x hx).c1).1
      omega
    have Hb0 := Lib.hid hb0
    have hn2 : n ≤ 1048576 := by omega
    rw [← hnl]
    clear h hb0 hc0 hnl hl hn
    go_enter Try.func35, Try.ntmps35
    go_wp2
    go_loopw [1, 5] (fun s i wr => ∃ j : Nat, j ≤ n ∧ i = .int .i64 j ∧ (∃ m : Int, m = k + 2 * j ∧ s = .int .i64 m) ∧ (∃ ds, Bk wr g 76 ds ∧ ds.length = cs.length ∧ ∀ (i : Nat) (x : Pl), i < j → (mkPl n k)[i]? = some x → PlIn ds (o + i * 2) x) ∧ Chg lo hi w wr) (fun _ i _ => n - (intOf i).toNat)
    case atStart => exact ⟨0, Nat.zero_le _, rfl, ⟨k, by simp, rfl⟩, ⟨cs, Hb0.out, rfl, fun i x hi => absurd hi (by omega)⟩, Chg.refl _ _ _⟩
    case round =>
      obtain ⟨j, hj, rfl, ⟨m, hm, rfl⟩, ⟨ds, hds, hdl, hdc⟩, hg⟩ := hrel
      have hm0 : 0 ≤ m := by omega
      have hm1 : m ≤ 33554432 := by omega
      by_cases hlt : j < n
      · obtain ⟨u0, u1, hold⟩ := hds.oldPl (o := o + j * 2) (by omega)
        obtain ⟨d0, d1, f0, f1⟩ := hold
        have Hds := Lib.hid hds
        have Hdl := Lib.hid hdl
        have Hdc := Lib.hid hdc
        have Hg := Lib.hid hg
        have Hm := Lib.hid hm
        clear hds hdl hdc hg hm
        go_wp2
        go_roundw
        case rel =>
          refine ⟨j + 1, by omega, by go_num, ⟨_, by rw [Hm.out]; omega, rfl⟩, ⟨_, ((Hds.out).set_ _ _).set_ _ _, by simp only [List.length_set]; exact Hdl.out, fun i y hi hy => ?_⟩, ((Hg.out).set hlo hhi _ _).set hlo hhi _ _⟩
          by_cases e : i = j
          · subst e
            obtain rfl := Option.some.inj ((mkPl_at hlt Hm.out).symm.trans hy)
            have := PlIn.set_self (cs := ds) (o := o + i * 2) ⟨m, m + 1⟩ (by have := Hdl.out; omega)
            simpa [Nat.add_assoc, Int.add_assoc] using this
          · have hin := Hdc.out i y (by omega) hy
            exact ((hin).set_far (by omega)).set_far (by omega)
        case measure => simp [intOf]; omega
      · obtain rfl : j = n := by omega
        have Hds := Lib.hid hds
        have Hdc := Lib.hid hdc
        have Hg := Lib.hid hg
        have Hm := Lib.hid hm
        clear hds hdc hg hm hdl
        go_wp2
        go_ret
        refine ⟨ret_int (by rw [Hm.out]), fun _ => ⟨g, o, ds, rfl, hlo, hhi, Hds.out, fun i x hx => ?_⟩, Hg.out⟩
        exact Hdc.out i x (by have := (List.getElem?_eq_some_iff.1 hx).1; rwa [mkPl_len] at this) hx
  · have hl0 : l = [] := List.eq_nil_of_length_eq_zero (by omega)
    subst hl0
    clear h
    go_enter Try.func35, Try.ntmps35
    go_wp2
    refine wp_loop_rounds 1 ?_
    rw [rounds_succ]
    go_wp2
    go_ret
    exact ⟨by simp, fun h => absurd h (by simp [mkPl]), Chg.refl _ _ _⟩

set_option maxHeartbeats 3200000 in
theorem heldPullS_any (A : Option Addr) (c n : Nat) (k : Int) (w : World) (B : Nat) (h : RdPl w B A (mkPl n k)) (hn : n ≤ 1048576) (hk0 : 0 ≤ k) (hk1 : k ≤ 16777216) :
    Calls Try.prog 36 #[.slice A n c, .int .i64 k] w fun e w' => e = .returned (.int .i64 (k + 2 * n)) ∧ w = w' := by
  have Hh := Lib.hid h
  clear h
  go_enter Try.func36, Try.ntmps36
  go_wp2
  go_loop [1, 5] (fun s i => ∃ j : Nat, j ≤ n ∧ i = .int .i64 j ∧ ∃ m : Int, m = k + 2 * j ∧ s = .int .i64 m) (fun _ i => n - (intOf i).toNat)
  case atStart => exact ⟨0, Nat.zero_le _, rfl, k, by simp, rfl⟩
  case round =>
    obtain ⟨j, hj, rfl, m, hm, rfl⟩ := hrel
    have hm0 : 0 ≤ m := by omega
    have hm1 : m ≤ 33554432 := by omega
    by_cases hlt : j < n
    · obtain ⟨b, o, x, rfl, hbB, hx, hc⟩ := Hh.out.at_ (k := j) (by rw [mkPl_len]; exact hlt)
      rw [mkPl_at hlt hm] at hx
      obtain rfl := Option.some.inj hx
      obtain ⟨c0, c1⟩ := hc
      have Hm := Lib.hid hm
      clear hm hx
      go_wp2
      go_round
      case rel => exact ⟨j + 1, by omega, by go_num, _, by rw [Hm.out]; omega, rfl⟩
      case measure => simp [intOf]; omega
    · obtain rfl : j = n := by omega
      have Hm := Lib.hid hm
      clear hm
      go_wp2
      go_ret
      exact ⟨ret_int (by rw [Hm.out]), rfl⟩

end Go.Proofs.Ytjhdjfobbgfpfaa

/- Contracts: pulls by the program: StateAfter. -/
namespace Go.Proofs.Ytjhdjfobbgfpfaa
open Go.RowKit

set_option maxRecDepth 100000 in
set_option maxHeartbeats 6400000 in
theorem implStateAfter_any {l : List Nd} {src : List (List Int)} {A : Option Addr} {c : Nat} {As : Option Addr} {ca : Nat} (k : Int) (pre : List Int) (s : PS) (hq : Hid (OutQ l src k pre s)) (w : World) (hn : RdN w w.heap.size A l) (hsr : RdR w w.heap.size As src) (hnl : l.length ≤ 1048576) (hns : src.length ≤ 1048576) (hm : Hid (∀ r ∈ src, r.length ≤ 1048576)) :
    Calls Try.prog 28 #[.agg #[.slice A l.length c], .slice As src.length ca, .int .i64 k] w fun e w' => ∃ A' c', e = .returned (.agg #[.slice A' s.cs.length c']) ∧ OwnCl w' w.heap.size w'.heap.size A' s.cs ∧ Below w.heap.size w w' := by
  have hfd := fd_out1
  obtain ⟨W1, hW1⟩ : ∃ X : World, X = (w.alloc (.cells #[.slice A l.length c] 32)).alloc (.cells #[.slice none 0 0] 43) := ⟨_, rfl⟩
  have hb1 : Below w.heap.size w W1 := by rw [hW1]; exact below2 w _ _
  have kS : Bk W1 (w.heap.size + 1) 43 [.slice none 0 0] := by
    rw [hW1]
    have := Bk.new (w.alloc (.cells #[.slice A l.length c] 32)) 43 [.slice none 0 0]
    simpa using this
  have z1 := hb1.size
  have hn1 : RdN W1 W1.heap.size A l := (hn.below hb1 (Nat.le_refl _)).more z1
  have hr1 : RdR W1 W1.heap.size As src := (hsr.below hb1 (Nat.le_refl _)).more z1
  have Hn := Lib.hid hn1
  have Hsr := Lib.hid hr1
  have HW1 := Lib.hid hW1
  have Hb1 := Lib.hid hb1
  have HkS := Lib.hid kS
  clear kS
  clear hn hsr hn1 hr1 hW1 hb1
  cases hv : (pipeOk l && srcOk src && inR k 0 200) with
  | false =>
    obtain ⟨rfl, rfl⟩ := hq.out.no hv
    have Hv := Lib.hid hv
    clear hv
    go_enter Try.func28, Try.ntmps28
    go_wp2_with fail
    rw [← HW1.out]
    refine (pullTimes_no k Hv.out W1 Hn.out Hsr.out hnl hns hm).mono ?_
    rintro e w2 ⟨rfl, hb2⟩
    have Hb2 := Lib.hid (Hb1.out.trans (hb2.mono z1))
    have kS2 := HkS.out.below hb2 HkS.out.lt
    have d1 := kS2.cell 0
    have f1 := kS2.free 0
    have k1 := kS2.lt
    have kS3 := kS2.set_ 0 (.slice none 0 0)
    have d2 := kS3.cell 0
    simp only [List.getElem?_cons_zero, List.set_cons_zero] at d1 d2
    clear kS2 kS3
    clear hb2
    go_wp2_with fail
    refine bodyPost_ret (v := .agg #[.slice none 0 0]) (by simp [results, Try.results28, go_sem, d2]) rfl ⟨none, 0, rfl, fun h => absurd h (by simp), Hb2.out.setCell (by simp only; omega) _⟩
  | true =>
    have hyes := hq.out.yes hv
    have hsz := hq.out.sizes
    simp only [Bool.and_eq_true] at hv
    obtain ⟨⟨hp, hs⟩, hk⟩ := hv
    obtain ⟨kn, rfl⟩ : ∃ kn : Nat, k = (kn : Int) := ⟨k.toNat, by simp [inR] at hk; omega⟩
    have hkn : kn ≤ 200 := by simp [inR] at hk; omega
    have h3 := (src_rows hs).1
    have hhigh := high_of hp
    obtain ⟨t, ht, hix, hqt⟩ := hyes
    have hcall := pullTimes_any (c := c) (ca := ca) (pipeOk_iff.1 hp) hp hs h3 hhigh ht hix (newPS_ok (pipeOk_iff.1 hp)) (newPS_W hs hhigh) kn hkn W1 Hn.out Hsr.out
    rw [h3]
    have Hcall := Lib.hid hcall
    have Hq := Lib.hid hqt
    have Hix := Lib.hid hix
    have Hsz := Lib.hid hsz
    clear hp hs hk h3 ht hix hqt hcall hq hsz
    go_enter Try.func28, Try.ntmps28
    go_wp2_with fail
    rw [← HW1.out]
    refine Hcall.out.mono ?_
    rintro e w2 ⟨rb, cb, fe, pre', s', R, cR, Rp, cp, rfl, hrun, iw, hbk, hog, how, hok, hb2⟩
    rw [Int.toNat_natCast, hrun] at Hq
    obtain ⟨rfl, rfl⟩ := Prod.mk.inj Hq.out.symm
    have Hb2 := Lib.hid (Hb1.out.trans (hb2.mono z1))
    have hz2 := hb2.size
    have hl := hok.len
    have kS2 := HkS.out.below hb2 HkS.out.lt
    have d1 := kS2.cell 0
    have f1 := kS2.free 0
    have k1 := kS2.lt
    have kS3 := kS2.set_ 0 (.slice (some ⟨cb, 0, none⟩) l.length l.length)
    have d2 := kS3.cell 0
    simp only [List.getElem?_cons_zero, List.set_cons_zero] at d1 d2
    clear kS2 kS3
    have Hiw := Lib.hid iw
    have hne1 : w.heap.size + 1 ≠ rb := fun e => by have := RS.lop iw; have := HkS.out.lt; omega
    have hne2 : w.heap.size + 1 ≠ cb := fun e => by have := RS.loc iw; have := HkS.out.lt; omega
    have hne3 := IsPl.not (HkS.out.below hb2 HkS.out.lt) (by decide)
    clear iw
    clear hrun hb2 Hq
    go_wp2_with fail
    refine bodyPost_ret (v := .agg #[.slice (some ⟨cb, 0, none⟩) l.length l.length]) (by simp [results, Try.results28, go_sem, d2]) rfl (by
      refine ⟨some ⟨cb, 0, none⟩, l.length, by rw [hl], ?_, Hb2.out.setCell (by simp only; omega) _⟩
      exact ((RS.far Hiw.out 0 _ hne1 hne2 hne3).ownCl.wide z1 (by simp)))

set_option maxRecDepth 100000 in
set_option maxHeartbeats 6400000 in
theorem specStateAfter_any {l : List Nd} {src : List (List Int)} {A : Option Addr} {c : Nat} {As : Option Addr} {ca : Nat} (k : Int) (pre : List Int) (s : PS) (hq : Hid (OutQ l src k pre s)) (w : World) (hn : RdN w w.heap.size A l) (hsr : RdR w w.heap.size As src) (hnl : l.length ≤ 1048576) (hns : src.length ≤ 1048576) (hm : Hid (∀ r ∈ src, r.length ≤ 1048576)) :
    Calls Try.prog 27 #[.agg #[.slice A l.length c], .slice As src.length ca, .int .i64 k] w fun e w' => ∃ A' c', e = .returned (.agg #[.slice A' s.cs.length c']) ∧ OwnCl w' w.heap.size w'.heap.size A' s.cs ∧ Below w.heap.size w w' := by
  obtain ⟨W1, hW1⟩ : ∃ X : World, X = (w.alloc (.cells #[.slice A l.length c] 32)).alloc (.cells #[.slice none 0 0] 43) := ⟨_, rfl⟩
  have hb1 : Below w.heap.size w W1 := by rw [hW1]; exact below2 w _ _
  have kE : Bk W1 w.heap.size 32 [.slice A l.length c] := by rw [hW1]; exact (Bk.new _ _ [_]).alloc _
  have kS : Bk W1 (w.heap.size + 1) 43 [.slice none 0 0] := by
    rw [hW1]
    have := Bk.new (w.alloc (.cells #[.slice A l.length c] 32)) 43 [.slice none 0 0]
    simpa using this
  have z1 := hb1.size
  have hn1 : RdN W1 W1.heap.size A l := (hn.below hb1 (Nat.le_refl _)).more z1
  have hr1 : RdR W1 W1.heap.size As src := (hsr.below hb1 (Nat.le_refl _)).more z1
  have Hn := Lib.hid hn1
  have Hsr := Lib.hid hr1
  have HW1 := Lib.hid hW1
  have Hb1 := Lib.hid hb1
  have HkE := Lib.hid kE
  have HkS := Lib.hid kS
  clear kE kS
  clear hn hsr hn1 hr1 hW1 hb1
  have hcall := specvalidPulls_any (c := c) (ca := ca) k W1 Hn.out Hsr.out hnl hns hm
  cases hv : (pipeOk l && srcOk src && inR k 0 200) with
  | false =>
    obtain ⟨rfl, rfl⟩ := hq.out.no hv
    rw [hv] at hcall
    have Hcall := Lib.hid hcall
    clear hv hcall
    go_enter Try.func27, Try.ntmps27
    go_wp2_with fail
    rw [← HW1.out]
    refine Hcall.out.mono ?_
    rintro e w2 ⟨rfl, hb2⟩
    have Hb2 := Lib.hid (Hb1.out.trans (hb2.mono z1))
    have kS2 := HkS.out.below hb2 HkS.out.lt
    have d1 := kS2.cell 0
    have f1 := kS2.free 0
    have k1 := kS2.lt
    have kS3 := kS2.set_ 0 (.slice none 0 0)
    have d2 := kS3.cell 0
    simp only [List.getElem?_cons_zero, List.set_cons_zero] at d1 d2
    clear kS2 kS3
    clear hb2
    go_wp2_with fail
    refine bodyPost_ret (v := .agg #[.slice none 0 0]) (by simp [results, Try.results27, go_sem, d2]) rfl ⟨none, 0, rfl, fun h => absurd h (by simp), Hb2.out.setCell (by simp only; omega) _⟩
  | true =>
    have hyes := hq.out.yes hv
    have hsz := hq.out.sizes
    simp only [Bool.and_eq_true] at hv
    obtain ⟨⟨hp, hs⟩, hk⟩ := hv
    obtain ⟨kn, rfl⟩ : ∃ kn : Nat, k = (kn : Int) := ⟨k.toNat, by simp [inR] at hk; omega⟩
    have hkn : kn ≤ 200 := by simp [inR] at hk; omega
    have h3 := (src_rows hs).1
    have hhigh := high_of hp
    obtain ⟨t, ht, hix, hqt⟩ := hyes
    have hF := pull_fine (pipeOk_iff.1 hp) hs (fu := fun s => s.M l src + 1) ht
    have hpul := fun (W : World) (hnW : RdN W W.heap.size A l) (hsW : RdR W W.heap.size As src) => specPulled_any (c := c) (ca := ca) hhigh hF (fun pb cb n0 => NextOk.of (pipeOk_iff.1 hp) hs hhigh ht) hix (newPS_ok (pipeOk_iff.1 hp)) (newPS_W hs hhigh) kn hkn W hnW hsW
    have hmany := manyP_runP hF (fun s s' ok h => pull_again (pipeOk_iff.1 hp) hs ht ok h) (newPS_ok (pipeOk_iff.1 hp)) kn
    have hlow := low_of hp
    have hvt : (pipeOk l && srcOk src && inR (kn : Int) 0 200) = true := by simp [hp, hs, hk]
    rw [hvt] at hcall
    rw [h3] at hcall ⊢
    have Hcall := Lib.hid hcall
    have Hpul := Lib.hid hpul
    have Hmany := Lib.hid hmany
    have Hq := Lib.hid hqt
    have Hix := Lib.hid hix
    have Hsz := Lib.hid hsz
    have Hsrc3 := Lib.hid h3
    have Hsok := Lib.hid hs
    clear hp hs hk h3 ht hix hqt hcall hq hF hpul hmany hvt hsz
    go_enter Try.func27, Try.ntmps27
    go_wp2_with fail
    rw [← HW1.out]
    refine Hcall.out.mono ?_
    rintro e w2 ⟨rfl, hb2⟩
    have Hb2 := Lib.hid (Hb1.out.trans (hb2.mono z1))
    have kE2 := HkE.out.below hb2 HkE.out.lt
    have e2 := kE2.cell 0
    simp only [List.getElem?_cons_zero] at e2
    have hz2 := hb2.size
    have hpc := Hpul.out w2 ((Hn.out.below hb2 (Nat.le_refl _)).more hz2) ((Hsr.out.below hb2 (Nat.le_refl _)).more hz2)
    have Hpc := Lib.hid hpc
    have HkE2 := Lib.hid kE2
    have Hpb1 := Lib.hid hb2
    clear hb2 hpc kE2
    go_wp2_with fail
    refine Hpc.out.mono ?_
    rintro e w3 ⟨pb, cb, R, cR, pre', s', rfl, h⟩
    have hl := h.ok.len
    have he := h.e
    rw [Hmany.out] at he
    rw [Int.toNat_natCast, he] at Hq
    obtain ⟨rfl, rfl⟩ := Prod.mk.inj Hq.out.symm
    obtain ⟨b0, b1, b2⟩ := h.sw.bx
    have hz12 := Hb2.out.size
    have hz3 := h.bl.size
    have Hb3 := Lib.hid (Hb2.out.trans (h.bl.mono hz12))
    have hE3 := (HkE2.out.below h.bl HkE2.out.lt).cell 0
    simp only [List.getElem?_cons_zero] at hE3
    have Hh := Lib.hid h
    have hpb1 := Hpb1.out
    have HkS3 := Lib.hid ((HkS.out.below (hpb1) HkS.out.lt).below h.bl (by have := HkS.out.lt; have := hpb1.size; omega))
    have kS2 := HkS3.out
    have d1 := kS2.cell 0
    have f1 := kS2.free 0
    have k1 := kS2.lt
    have kS3 := kS2.set_ 0 (.slice (some ⟨cb, 0, none⟩) l.length l.length)
    have d2 := kS3.cell 0
    simp only [List.getElem?_cons_zero, List.set_cons_zero] at d1 d2
    clear kS2 kS3
    have hne1 : w.heap.size + 1 ≠ pb := fun e => by have := RS.lop h.sw.rs; have := HkS.out.lt; omega
    have hne2 : w.heap.size + 1 ≠ cb := fun e => by have := RS.loc h.sw.rs; have := HkS.out.lt; omega
    have hne3 := IsPl.not HkS3.out (by decide)
    have ltS : w.heap.size + 1 < w3.heap.size := HkS3.out.lt
    clear he Hq h e2 hpb1
    go_wp2_with fail
    refine bodyPost_ret (v := .agg #[.slice (some ⟨cb, 0, none⟩) l.length l.length]) (by simp [results, Try.results27, go_sem, d2]) rfl (by
      refine ⟨some ⟨cb, 0, none⟩, l.length, by rw [hl], ?_, Hb3.out.setCell (by simp only; omega) _⟩
      exact ((RS.far Hh.out.sw.rs 0 _ hne1 hne2 hne3).ownCl.wide hz12 (by simp)))

theorem implStateAfter_l {A : Option Addr} {c : Nat} (l : List Nd) {As : Option Addr} {ca : Nat} (src : List (List Int)) (k : Int) (w : World) (B : Nat) (q : List Cl) (hq : Hid (StQ l src k q)) (hn : RdN w B A l) (hsr : RdR w B As src) (hB : B ≤ w.heap.size) (hnl : l.length ≤ 1048576) (hns : src.length ≤ 1048576) (hm : Hid (∀ r ∈ src, r.length ≤ 1048576)) :
    Calls Try.prog 28 #[.agg #[.slice A l.length c], .slice As src.length ca, .int .i64 k] w fun e w' => ∃ A' c', e = .returned (.agg #[.slice A' q.length c']) ∧ OwnCl w' w.heap.size w'.heap.size A' q ∧ Below w.heap.size w w' := by
  obtain ⟨pre, s, h, rfl⟩ := hq.out
  exact implStateAfter_any k pre s (Lib.hid h) w (hn.more hB) (hsr.more hB) hnl hns hm
theorem specStateAfter_l {A : Option Addr} {c : Nat} (l : List Nd) {As : Option Addr} {ca : Nat} (src : List (List Int)) (k : Int) (w : World) (B : Nat) (q : List Cl) (hq : Hid (StQ l src k q)) (hn : RdN w B A l) (hsr : RdR w B As src) (hB : B ≤ w.heap.size) (hnl : l.length ≤ 1048576) (hns : src.length ≤ 1048576) (hm : Hid (∀ r ∈ src, r.length ≤ 1048576)) :
    Calls Try.prog 27 #[.agg #[.slice A l.length c], .slice As src.length ca, .int .i64 k] w fun e w' => ∃ A' c', e = .returned (.agg #[.slice A' q.length c']) ∧ OwnCl w' w.heap.size w'.heap.size A' q ∧ Below w.heap.size w w' := by
  obtain ⟨pre, s, h, rfl⟩ := hq.out
  exact specStateAfter_any k pre s (Lib.hid h) w (hn.more hB) (hsr.more hB) hnl hns hm

end Go.Proofs.Ytjhdjfobbgfpfaa

/- Arguments that came in, opened: records of 6 fields. -/
namespace Go.Proofs.Ytjhdjfobbgfpfaa
open Go.ChangeShapes Go.WideShapes Go.ChangeAt Go.RowKit Go.Deep

section
variable {H : Type} {enc : TypeId × Value → H} {P : Program} {W : World}
theorem cells_Cl {e q qb : TypeId} {fs : Array Field} {fuel : Nat} {cs : List Value} {x : DataW H × List MemPlace} (he : P.underlying e = some (.struct fs)) (hone : oneCellFields P fs = true) (hall : fs.toList.map (·.type) = [q, q, q, qb, qb, qb])
    (hq : P.underlying q = some (.int .i64)) (hqb : P.underlying qb = some .bool) (ce : P.cellsOf e = 6) (h : DataW.trod enc P W 0 (fun _ => true) true fuel e cs = some x) :
    ∃ x : Cl, cs = [.int .i64 x.n, .int .i64 x.l, .int .i64 x.r, .bool x.hl, .bool x.hr, .bool x.d] := by
  have h5 : fs.size = 6 := by have := congrArg List.length hall; simpa using this
  obtain ⟨xs, n, _, _, hl, hxl, hf⟩ := DataW.trod_struct he h
  rw [ce] at hl
  have tyat : ∀ (j : Nat) (t : TypeId), [q, q, q, qb, qb, qb][j]? = some t → ∃ z, DataW.trod enc P W 0 (fun _ => true) true n t ((cs.drop j).take 1) = some z := fun j t hjt => by
    have hj : j < fs.size := by rw [h5]; have := (List.getElem?_eq_some_iff.1 hjt).1; simpa using this
    have hjf : fs[j]? = some (fs[j]'hj) := Array.getElem?_eq_getElem hj
    obtain ⟨ho, hk⟩ := hone_of hone j _ hjf
    have ht : (fs[j]'hj).type = t := by
      rw [← hall] at hjt
      simp at hjt
      obtain ⟨y, hy1, hy2⟩ := hjt
      rw [hjf] at hy1
      rw [Option.some.inj hy1]
      exact hy2
    have h1 := hf j _ hjf
    rw [ho, hk, ht] at h1
    exact ⟨_, h1.trans (List.getElem?_eq_getElem (by omega))⟩
  obtain ⟨v0, h0⟩ : ∃ v : Int, cs[0]? = some (.int .i64 v) := by
    obtain ⟨z, hz⟩ := tyat 0 q rfl
    obtain ⟨v, hv, _, _⟩ := DataW.trod_int hq hz
    refine ⟨v, ?_⟩
    have : ((cs.drop 0).take 1)[0]? = some (.int .i64 v) := by rw [hv]; rfl
    simpa using this
  obtain ⟨v1, h1⟩ : ∃ v : Int, cs[1]? = some (.int .i64 v) := by
    obtain ⟨z, hz⟩ := tyat 1 q rfl
    obtain ⟨v, hv, _, _⟩ := DataW.trod_int hq hz
    refine ⟨v, ?_⟩
    have : ((cs.drop 1).take 1)[0]? = some (.int .i64 v) := by rw [hv]; rfl
    simpa using this
  obtain ⟨v2, h2⟩ : ∃ v : Int, cs[2]? = some (.int .i64 v) := by
    obtain ⟨z, hz⟩ := tyat 2 q rfl
    obtain ⟨v, hv, _, _⟩ := DataW.trod_int hq hz
    refine ⟨v, ?_⟩
    have : ((cs.drop 2).take 1)[0]? = some (.int .i64 v) := by rw [hv]; rfl
    simpa using this
  obtain ⟨v3, h3⟩ : ∃ v : Bool, cs[3]? = some (.bool v) := by
    obtain ⟨z, hz⟩ := tyat 3 qb rfl
    obtain ⟨v, hv, _⟩ := DataW.trod_bool hqb hz
    refine ⟨v, ?_⟩
    have : ((cs.drop 3).take 1)[0]? = some (.bool v) := by rw [hv]; rfl
    simpa using this
  obtain ⟨v4, h4⟩ : ∃ v : Bool, cs[4]? = some (.bool v) := by
    obtain ⟨z, hz⟩ := tyat 4 qb rfl
    obtain ⟨v, hv, _⟩ := DataW.trod_bool hqb hz
    refine ⟨v, ?_⟩
    have : ((cs.drop 4).take 1)[0]? = some (.bool v) := by rw [hv]; rfl
    simpa using this
  obtain ⟨v5, h5⟩ : ∃ v : Bool, cs[5]? = some (.bool v) := by
    obtain ⟨z, hz⟩ := tyat 5 qb rfl
    obtain ⟨v, hv, _⟩ := DataW.trod_bool hqb hz
    refine ⟨v, ?_⟩
    have : ((cs.drop 5).take 1)[0]? = some (.bool v) := by rw [hv]; rfl
    simpa using this
  refine ⟨⟨v0, v1, v2, v3, v4, v5⟩, ?_⟩
  apply List.ext_getElem?
  intro i
  match i with
  | 0 => rw [h0]; rfl
  | 1 => rw [h1]; rfl
  | 2 => rw [h2]; rfl
  | 3 => rw [h3]; rfl
  | 4 => rw [h4]; rfl
  | 5 => rw [h5]; rfl
  | i + 6 => rw [List.getElem?_eq_none (by omega), List.getElem?_eq_none (by simp)]

theorem open_rowsCl {t e q qb : TypeId} {fs : Array Field} {A : Option Addr} {len cap fuel : Nat} {x : DataW H × List MemPlace} (ht : P.underlying t = some (.slice e)) (he : P.underlying e = some (.struct fs)) (hone : oneCellFields P fs = true)
    (hall : fs.toList.map (·.type) = [q, q, q, qb, qb, qb]) (hq : P.underlying q = some (.int .i64)) (hqb : P.underlying qb = some .bool) (ce : P.cellsOf e = 6) (h : DataW.trod enc P W 0 (fun _ => true) true fuel t [.slice A len cap] = some x) :
    ∃ l : List Cl, l.length = len ∧ len ≤ maxLen ∧ RdCl W W.heap.size A l := by
  rcases open_slice ht h with ⟨hcs, _⟩ | ⟨a, l, c, m, n, D, Pl, hcs, _, hl, hm, hmm, _, hr⟩
  · simp at hcs
    obtain ⟨rfl, rfl, rfl⟩ := hcs
    exact ⟨[], rfl, Nat.zero_le _, fun h => absurd h (by simp)⟩
  · simp at hcs
    obtain ⟨rfl, rfl, rfl⟩ := hcs
    simp only [if_true] at hmm
    subst hmm
    have each : ∀ i, i < len → ∃ x : Cl, W.cell? (a.add (i * 6)) = some (.int .i64 x.n) ∧ W.cell? ((a.add (i * 6)).add 1) = some (.int .i64 x.l) ∧ W.cell? ((a.add (i * 6)).add 2) = some (.int .i64 x.r) ∧ W.cell? ((a.add (i * 6)).add 3) = some (.bool x.hl) ∧ W.cell? ((a.add (i * 6)).add 4) = some (.bool x.hr) ∧ W.cell? ((a.add (i * 6)).add 5) = some (.bool x.d) := fun i hi => by
      obtain ⟨cs', hc, htr⟩ := hr i (by omega)
      rw [ce] at hc
      obtain ⟨x, rfl⟩ := cells_Cl he hone hall hq hqb ce htr
      obtain ⟨_, _, hat⟩ := World.cells?_some hc
      exact ⟨x, by simpa [Addr.add] using hat 0 (by omega), by simpa using hat 1 (by omega), by simpa using hat 2 (by omega), by simpa using hat 3 (by omega), by simpa using hat 4 (by omega), by simpa using hat 5 (by omega)⟩
    have : Inhabited Cl := ⟨zeroCl⟩
    obtain ⟨f, hf⟩ := choose_lt each
    refine ⟨(List.range len).map f, by simp, by omega, fun hn => ?_⟩
    simp at hn
    have h00 := (hf 0 hn).1
    have hsp := World.cell?_spot h00
    have hbl := World.block_lt_of_cell? _ _ h00
    obtain ⟨b, o, s⟩ := a
    have hs : s = none := by simpa [Addr.add] using hsp
    subst hs
    refine ⟨b, o, rfl, by simpa [Addr.add] using hbl, fun k x hk => ?_⟩
    have hkl : k < len := by simpa using (List.getElem?_eq_some_iff.1 hk).1
    simp [hkl] at hk
    subst hk
    obtain ⟨c0, c1, c2, c3, c4, c5⟩ := hf k hkl
    have e : ∀ j, (⟨b, o, none⟩ : Addr).add j = ⟨b, o + j, none⟩ := fun j => by
      unfold Addr.add
      split
      · rename_i h; subst h; rfl
      · rfl
    rw [e] at c0 c1 c2 c3 c4 c5
    have e2 : ∀ j, (⟨b, o + k * 6, none⟩ : Addr).add j = ⟨b, o + k * 6 + j, none⟩ := fun j => by
      unfold Addr.add
      split
      · rename_i h; subst h; rfl
      · rfl
    rw [e2] at c1 c2 c3 c4 c5
    exact ⟨c0, c1, c2, c3, c4, c5⟩

theorem open_state {r : Reach} {b0 : Nat} {tp t e q qb : TypeId} {f0 : Field} {fs : Array Field} {v : Value} {d : DataW H} {p : List MemPlace} (hp : P.underlying tp = some (.struct #[f0])) (ho : oneCellFields P #[f0] = true) (hft : f0.type = t) (hc : P.cellsOf tp = 1)
    (ht : P.underlying t = some (.slice e)) (he : P.underlying e = some (.struct fs)) (hone : oneCellFields P fs = true)
    (hall : fs.toList.map (·.type) = [q, q, q, qb, qb, qb]) (hq : P.underlying q = some (.int .i64)) (hqb : P.underlying qb = some .bool) (ce : P.cellsOf e = 6) (hval : Value.okWide P W r b0 tp v) (h : DataW.Trod enc P W 0 (fun _ => true) true tp v d p) :
    ∃ (A : Option Addr) (len cap : Nat) (l : List Cl), v = .agg #[.slice A len cap] ∧ l.length = len ∧ len ≤ maxLen ∧ RdCl W W.heap.size A l := by
  obtain ⟨cs, rfl, hsz⟩ := okWide_struct hp hval
  rw [hc] at hsz
  obtain ⟨c0, rfl⟩ : ∃ c0, cs = #[c0] := by
    obtain ⟨m⟩ := cs
    match m, hsz with
    | [c0], _ => exact ⟨c0, rfl⟩
  obtain ⟨fuel, hf⟩ := h
  obtain ⟨xs, n, _, _, _, hxl, hg⟩ := DataW.trod_struct hp hf
  obtain ⟨o0, k0⟩ := hone_of ho 0 f0 rfl
  have h1 := hg 0 f0 rfl
  rw [hft] at h1 k0
  simp [Value.cells, o0, k0] at h1
  have hx : xs[0]? = some (xs[0]'(by simp [hxl])) := List.getElem?_eq_getElem _
  rw [hx] at h1
  rcases open_slice ht h1 with ⟨hcs, _⟩ | ⟨a, l, c, _, _, _, _, hcs, _⟩
  · simp at hcs
    subst hcs
    obtain ⟨l, h2, h3, h4⟩ := open_rowsCl ht he hone hall hq hqb ce h1
    exact ⟨_, _, _, l, rfl, h2, h3, h4⟩
  · simp at hcs
    subst hcs
    obtain ⟨l, h2, h3, h4⟩ := open_rowsCl ht he hone hall hq hqb ce h1
    exact ⟨_, _, _, l, rfl, h2, h3, h4⟩
end

end Go.Proofs.Ytjhdjfobbgfpfaa
