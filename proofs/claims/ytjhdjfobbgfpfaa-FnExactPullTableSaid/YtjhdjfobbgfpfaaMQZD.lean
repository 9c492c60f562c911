/- Texts on the program and its reference, put together (OpenN, Open, PwK). -/
import Derived.Test.YtjhdjfobbgfpfaaMQA
import Derived.ProofKit
import Derived.OpenShut
import Derived.ChangeOld
import Derived.Deep.Slices
import Derived.Deep.Fields
import Derived.ShutString
import Derived.Below
import Derived.Deep.Matrix
import Derived.Test.YtjhdjfobbgfpfaaMQZC
import Derived.Test.YtjhdjfobbgfpfaaMQZA
import Derived.Deep.RegionHeld3
import Derived.Test.YtjhdjfobbgfpfaaMQP
/- Arguments that came in, opened: a slice of nodes, and a pipe, read as a list of nodes. -/
namespace Go.Proofs.Ytjhdjfobbgfpfaa
open Go.ChangeShapes Go.WideShapes Go.ChangeAt Go.RowKit Go.Deep

section
variable {H : Type} {enc : TypeId × Value → H} {P : Program} {W : World}
theorem five_cells {e q : TypeId} {fs : Array Field} {fuel : Nat} {cs : List Value} {x : DataW H × List MemPlace} (he : P.underlying e = some (.struct fs)) (h5 : fs.size = 5) (hone : oneCellFields P fs = true) (hall : fs.all (fun f => f.type == q) = true)
    (hq : P.underlying q = some (.int .i64)) (ce : P.cellsOf e = 5) (h : DataW.trod enc P W 0 (fun _ => true) true fuel e cs = some x) :
    ∃ k a b n m : Int, cs = [.int .i64 k, .int .i64 a, .int .i64 b, .int .i64 n, .int .i64 m] := by
  obtain ⟨xs, n, _, _, hl, hxl, hf⟩ := DataW.trod_struct he h
  rw [ce] at hl
  have one : ∀ j, j < 5 → ∃ v : Int, cs[j]? = some (.int .i64 v) := fun j hj => by
    have hjf : fs[j]? = some (fs[j]'(by omega)) := Array.getElem?_eq_getElem (by omega)
    obtain ⟨ho, hk⟩ := hone_of hone j _ hjf
    have ht : (fs[j]'(by omega)).type = q := by
      have := Array.all_eq_true.1 hall j (by omega)
      simpa using this
    have h1 := hf j _ hjf
    rw [ho, hk, ht] at h1
    have hx : xs[j]? = some (xs[j]'(by omega)) := List.getElem?_eq_getElem (by omega)
    rw [hx] at h1
    obtain ⟨v, hv, _, _⟩ := DataW.trod_int hq h1
    refine ⟨v, ?_⟩
    have : ((cs.drop j).take 1)[0]? = some (.int .i64 v) := by rw [hv]; rfl
    simpa using this
  obtain ⟨k, h0⟩ := one 0 (by omega)
  obtain ⟨a, h1⟩ := one 1 (by omega)
  obtain ⟨b, h2⟩ := one 2 (by omega)
  obtain ⟨n', h3⟩ := one 3 (by omega)
  obtain ⟨m, h4⟩ := one 4 (by omega)
  refine ⟨k, a, b, n', m, ?_⟩
  apply List.ext_getElem?
  intro i
  match i with
  | 0 => rw [h0]; rfl
  | 1 => rw [h1]; rfl
  | 2 => rw [h2]; rfl
  | 3 => rw [h3]; rfl
  | 4 => rw [h4]; rfl
  | i + 5 => rw [List.getElem?_eq_none (by omega), List.getElem?_eq_none (by simp)]

theorem open_nodes {t e q : TypeId} {fs : Array Field} {A : Option Addr} {len cap fuel : Nat} {x : DataW H × List MemPlace} (ht : P.underlying t = some (.slice e)) (he : P.underlying e = some (.struct fs)) (h5 : fs.size = 5) (hone : oneCellFields P fs = true)
    (hall : fs.all (fun f => f.type == q) = true) (hq : P.underlying q = some (.int .i64)) (ce : P.cellsOf e = 5) (h : DataW.trod enc P W 0 (fun _ => true) true fuel t [.slice A len cap] = some x) :
    ∃ l : List Nd, l.length = len ∧ len ≤ maxLen ∧ RdN W W.heap.size A l := by
  rcases open_slice ht h with ⟨hcs, _⟩ | ⟨a, l, c, m, n, D, Pl, hcs, _, hl, hm, hmm, _, hr⟩
  · simp at hcs
    obtain ⟨rfl, rfl, rfl⟩ := hcs
    exact ⟨[], rfl, Nat.zero_le _, fun h => absurd h (by simp)⟩
  · simp at hcs
    obtain ⟨rfl, rfl, rfl⟩ := hcs
    simp only [if_true] at hmm
    subst hmm
    have each : ∀ i, i < len → ∃ x : Nd, W.cell? (a.add (i * 5)) = some (.int .i64 x.k) ∧ W.cell? ((a.add (i * 5)).add 1) = some (.int .i64 x.a) ∧ W.cell? ((a.add (i * 5)).add 2) = some (.int .i64 x.b) ∧
        W.cell? ((a.add (i * 5)).add 3) = some (.int .i64 x.n) ∧ W.cell? ((a.add (i * 5)).add 4) = some (.int .i64 x.m) := fun i hi => by
      obtain ⟨cs', hc, htr⟩ := hr i (by omega)
      rw [ce] at hc
      obtain ⟨k, a', b, n', m', rfl⟩ := five_cells he h5 hone hall hq ce htr
      obtain ⟨_, _, hat⟩ := World.cells?_some hc
      exact ⟨⟨k, a', b, n', m'⟩, by simpa [Addr.add] using hat 0 (by omega), by simpa using hat 1 (by omega), by simpa using hat 2 (by omega), by simpa using hat 3 (by omega), by simpa using hat 4 (by omega)⟩
    have : Inhabited Nd := ⟨⟨0, 0, 0, 0, 0⟩⟩
    obtain ⟨f, hf⟩ := choose_lt each
    refine ⟨(List.range len).map f, by simp, by omega, fun hn => ?_⟩
    simp at hn
    have h00 := (hf 0 hn).1
    have hsp := World.cell?_spot h00
    have hbl := World.block_lt_of_cell? _ _ h00
    obtain ⟨b, o, s⟩ := a
    have hs : s = none := by simpa [Addr.add] using hsp
    subst hs
    refine ⟨b, o, rfl, by simpa [Addr.add] using hbl, fun k x hk => ?_⟩
    have hkl : k < len := by simpa using (List.getElem?_eq_some_iff.1 hk).1
    simp [hkl] at hk
    subst hk
    obtain ⟨c0, c1, c2, c3, c4⟩ := hf k hkl
    have e : ∀ j, (⟨b, o, none⟩ : Addr).add j = ⟨b, o + j, none⟩ := fun j => by
      unfold Addr.add
      split
      · rename_i h; subst h; rfl
      · rfl
    rw [e] at c0 c1 c2 c3 c4
    have e2 : ∀ j, (⟨b, o + k * 5, none⟩ : Addr).add j = ⟨b, o + k * 5 + j, none⟩ := fun j => by
      unfold Addr.add
      split
      · rename_i h; subst h; rfl
      · rfl
    rw [e2] at c1 c2 c3 c4
    exact ⟨c0, c1, c2, c3, c4⟩

theorem open_pipe {r : Reach} {b0 : Nat} {tp t e q : TypeId} {f0 : Field} {fs : Array Field} {v : Value} {d : DataW H} {p : List MemPlace} (hp : P.underlying tp = some (.struct #[f0])) (ho : oneCellFields P #[f0] = true) (hft : f0.type = t) (hc : P.cellsOf tp = 1)
    (ht : P.underlying t = some (.slice e)) (he : P.underlying e = some (.struct fs)) (h5 : fs.size = 5) (hone : oneCellFields P fs = true)
    (hall : fs.all (fun f => f.type == q) = true) (hq : P.underlying q = some (.int .i64)) (ce : P.cellsOf e = 5) (hval : Value.okWide P W r b0 tp v) (h : DataW.Trod enc P W 0 (fun _ => true) true tp v d p) :
    ∃ (A : Option Addr) (len cap : Nat) (l : List Nd), v = .agg #[.slice A len cap] ∧ l.length = len ∧ len ≤ maxLen ∧ RdN W W.heap.size A l := by
  obtain ⟨cs, rfl, hsz⟩ := okWide_struct hp hval
  rw [hc] at hsz
  obtain ⟨c0, rfl⟩ : ∃ c0, cs = #[c0] := by
    obtain ⟨m⟩ := cs
    match m, hsz with
    | [c0], _ => exact ⟨c0, rfl⟩
  obtain ⟨fuel, hf⟩ := h
  obtain ⟨xs, n, _, _, _, hxl, hg⟩ := DataW.trod_struct hp hf
  obtain ⟨o0, k0⟩ := hone_of ho 0 f0 rfl
  have h1 := hg 0 f0 rfl
  rw [hft] at h1 k0
  simp [Value.cells, o0, k0] at h1
  have hx : xs[0]? = some (xs[0]'(by simp [hxl])) := List.getElem?_eq_getElem _
  rw [hx] at h1
  rcases open_slice ht h1 with ⟨hcs, _⟩ | ⟨a, l, c, _, _, _, _, hcs, _⟩
  · simp at hcs
    subst hcs
    obtain ⟨l, h2, h3, h4⟩ := open_nodes ht he h5 hone hall hq ce h1
    exact ⟨_, _, _, l, rfl, h2, h3, h4⟩
  · simp at hcs
    subst hcs
    obtain ⟨l, h2, h3, h4⟩ := open_nodes ht he h5 hone hall hq ce h1
    exact ⟨_, _, _, l, rfl, h2, h3, h4⟩
end

end Go.Proofs.Ytjhdjfobbgfpfaa

/- Arguments that came in, opened: a slice of slices of numbers reads as rows. -/
namespace Go.Proofs.Ytjhdjfobbgfpfaa
open Go.ChangeShapes Go.WideShapes Go.ChangeAt Go.RowKit Go.Deep

section
variable {H : Type} {enc : TypeId × Value → H} {P : Program} {W : World}
theorem open_rows {t e q : TypeId} {A : Option Addr} {len cap : Nat} {d : DataW H} {p : List MemPlace} (ht : P.underlying t = some (.slice e)) (he : P.underlying e = some (.slice q)) (hq : P.underlying q = some (.int .i64)) (ce : P.cellsOf e = 1) (cq : P.cellsOf q = 1)
    (h0 : DataW.Trod enc P W 0 (fun _ => true) true t (.slice A len cap) d p) :
    ∃ rows : List (List Int), rows.length = len ∧ len ≤ maxLen ∧ (∀ r ∈ rows, r.length ≤ maxLen) ∧ RdR W W.heap.size A rows := by
  obtain ⟨fuel, hf⟩ := h0
  rcases open_int_rows ht he hq ce cq hf with ⟨hcs, _⟩ | ⟨a, l, c, Ad, L, C, Z, hcs, _, hl, hm, _, hr⟩
  · simp [Value.cells] at hcs
    obtain ⟨rfl, rfl, rfl⟩ := hcs
    exact ⟨[], rfl, Nat.zero_le _, fun _ h => absurd h (by simp), fun h => absurd h (by simp)⟩
  · simp [Value.cells] at hcs
    obtain ⟨rfl, rfl, rfl⟩ := hcs
    refine ⟨(List.range len).map fun r => (Z r).take (L r), by simp, by omega, fun r h => ?_, fun hn => ?_⟩
    · obtain ⟨i, hi, rfl⟩ := List.mem_map.1 h
      obtain ⟨_, h1, h2, h3, _⟩ := hr i (by have := List.mem_range.1 hi; omega)
      simp; omega
    · simp at hn
      have h00 := (hr 0 (by omega)).1
      refine ⟨a, rfl, by have := World.block_lt_of_cell? _ _ h00; rwa [add_block] at this, fun k r hk => ?_⟩
      have hkl : k < len := by simpa using (List.getElem?_eq_some_iff.1 hk).1
      simp [hkl] at hk
      subst hk
      obtain ⟨h1, h2, _, h4, _, _, h7⟩ := hr k (by omega)
      have e : ((Z k).take (L k)).length = L k := by simp; omega
      refine ⟨Ad k, C k, by rw [e]; exact h1, fun hn2 => ?_⟩
      rw [e] at hn2
      cases hA : Ad k with
      | none => have := (hr k (by omega)).2.2.2.2.2.1 hA; omega
      | some a' =>
        obtain ⟨_, hcell⟩ := h7 a' hA
        refine ⟨a', rfl, by have := World.block_lt_of_cell? _ _ (hcell 0 (by omega)); rwa [add_block] at this, fun j x hj => ?_⟩
        have hjl : j < L k := by have := (List.getElem?_eq_some_iff.1 hj).1; omega
        rw [hcell j (by omega)]
        rw [List.getElem?_take_of_lt hjl] at hj
        simp [List.getD, hj]
end

end Go.Proofs.Ytjhdjfobbgfpfaa

/- Contracts: pulls by the program: TotalPulls. -/
namespace Go.Proofs.Ytjhdjfobbgfpfaa
open Go.RowKit

/-- What TotalPulls gives. -/
def QTotal (l : List Nd) (src : List (List Int)) (k : Int) (s : PS) : Int := if (pipeOk l && srcOk src && inR k 0 200) = true then s.lg.length else -1
theorem QTotal_yes {l : List Nd} {src : List (List Int)} {k : Int} {s : PS} (h : (pipeOk l && srcOk src && inR k 0 200) = true) : QTotal l src k s = s.lg.length := by unfold QTotal; rw [if_pos h]
theorem QTotal_no {l : List Nd} {src : List (List Int)} {k : Int} {s : PS} (h : (pipeOk l && srcOk src && inR k 0 200) = false) : QTotal l src k s = -1 := by unfold QTotal; rw [if_neg (by rw [h]; decide)]
def MTotal (l : List Nd) (src : List (List Int)) (k : Int) (q : Int) : Prop := ∃ pre s, OutQ l src k pre s ∧ q = QTotal l src k s
set_option maxRecDepth 100000 in
set_option maxHeartbeats 6400000 in
theorem implTotalPulls_any {l : List Nd} {src : List (List Int)} {A : Option Addr} {c : Nat} {As : Option Addr} {ca : Nat} (k : Int) (pre : List Int) (s : PS) (hq : Hid (OutQ l src k pre s)) (w : World) (hn : RdN w w.heap.size A l) (hsr : RdR w w.heap.size As src) (hnl : l.length ≤ 1048576) (hns : src.length ≤ 1048576) (hm : Hid (∀ r ∈ src, r.length ≤ 1048576)) :
    Calls Try.prog 46 #[.agg #[.slice A l.length c], .slice As src.length ca, .int .i64 k] w fun e w' => e = .returned (.int .i64 (QTotal l src k s)) ∧ Below w.heap.size w w' := by
  obtain ⟨W1, hW1⟩ : ∃ X : World, X = w.alloc (.cells #[.slice A l.length c] 32) := ⟨_, rfl⟩
  have hb1 : Below w.heap.size w W1 := by rw [hW1]; exact below1 w _
  have z1 := hb1.size
  have hn1 : RdN W1 W1.heap.size A l := (hn.below hb1 (Nat.le_refl _)).more z1
  have hr1 : RdR W1 W1.heap.size As src := (hsr.below hb1 (Nat.le_refl _)).more z1
  have Hn := Lib.hid hn1
  have Hsr := Lib.hid hr1
  have HW1 := Lib.hid hW1
  have Hb1 := Lib.hid hb1
  clear hn hsr hn1 hr1 hW1 hb1
  cases hv : (pipeOk l && srcOk src && inR k 0 200) with
  | false =>
    have Hno := Lib.hid (QTotal_no (s := s) hv)
    obtain ⟨rfl, rfl⟩ := hq.out.no hv
    have Hv := Lib.hid hv
    clear hv
    go_enter Try.func46, Try.ntmps46
    go_wp2_with fail
    rw [← HW1.out]
    refine (watchTimes_no k Hv.out W1 Hn.out Hsr.out hnl hns hm).mono ?_
    rintro e w2 ⟨rfl, hb2⟩
    have Hb2 := Lib.hid (Hb1.out.trans (hb2.mono z1))
    clear hb2
    go_wp2_with fail
    refine bodyPost_ret (v := .int .i64 (-1)) (by simp [results, Try.results46, go_sem]) rfl ⟨by rw [Hno.out], Hb2.out⟩
  | true =>
    have hyes := hq.out.yes hv
    have hsz := hq.out.sizes
    simp only [Bool.and_eq_true] at hv
    obtain ⟨⟨hp, hs⟩, hk⟩ := hv
    obtain ⟨kn, rfl⟩ : ∃ kn : Nat, k = (kn : Int) := ⟨k.toNat, by simp [inR] at hk; omega⟩
    have hkn : kn ≤ 200 := by simp [inR] at hk; omega
    have h3 := (src_rows hs).1
    have hhigh := high_of hp
    obtain ⟨t, ht, hix, hqt⟩ := hyes
    have hvt : (pipeOk l && srcOk src && inR (kn : Int) 0 200) = true := by simp [hp, hs, hk]
    have Hvt := Lib.hid (QTotal_yes (s := s) hvt)
    clear hvt
    have hcall := watchTimes_any (c := c) (ca := ca) (pipeOk_iff.1 hp) hp hs h3 hhigh ht hix kn hkn W1 Hn.out Hsr.out
    rw [h3]
    have Hcall := Lib.hid hcall
    have Hq := Lib.hid hqt
    have Hsz := Lib.hid hsz
    clear hp hs hk h3 ht hix hqt hcall hq hsz
    go_enter Try.func46, Try.ntmps46
    go_wp2_with fail
    rw [← HW1.out]
    refine Hcall.out.mono ?_
    rintro e w2 ⟨wb, rfl, ⟨n1, rb, cb, gb, hb, eb, fe, w1, pre', s', hn1, hrun, hwat⟩, hb2⟩
    rw [Int.toNat_natCast, hrun] at Hq
    obtain ⟨rfl, rfl⟩ := Prod.mk.inj Hq.out.symm
    have Hb2 := Lib.hid (Hb1.out.trans (hb2.mono z1))
    have hz2 := hb2.size
    have wc := hwat.wr.bx.cell 1
    have wl := hwat.wr.bx.lt
    simp only [List.getElem?_cons_succ, List.getElem?_cons_zero] at wc
    have Hwat := Lib.hid hwat
    clear hrun hb2 Hq hwat
    go_wp2_with fail
    refine (load_cnt wb _ _ wc).mono ?_
    rintro e w2' ⟨rfl, rfl⟩
    go_wp2_with fail
    refine bodyPost_ret (v := .int .i64 (s.lg.length : Int)) (by simp [results, Try.results46, go_sem]) rfl ⟨by rw [Hvt.out], Hb2.out⟩

set_option maxRecDepth 100000 in
set_option maxHeartbeats 6400000 in
theorem specTotalPulls_any {l : List Nd} {src : List (List Int)} {A : Option Addr} {c : Nat} {As : Option Addr} {ca : Nat} (k : Int) (pre : List Int) (s : PS) (hq : Hid (OutQ l src k pre s)) (w : World) (hn : RdN w w.heap.size A l) (hsr : RdR w w.heap.size As src) (hnl : l.length ≤ 1048576) (hns : src.length ≤ 1048576) (hm : Hid (∀ r ∈ src, r.length ≤ 1048576)) :
    Calls Try.prog 45 #[.agg #[.slice A l.length c], .slice As src.length ca, .int .i64 k] w fun e w' => e = .returned (.int .i64 (QTotal l src k s)) ∧ Below w.heap.size w w' := by
  obtain ⟨W1, hW1⟩ : ∃ X : World, X = w.alloc (.cells #[.slice A l.length c] 32) := ⟨_, rfl⟩
  have hb1 : Below w.heap.size w W1 := by rw [hW1]; exact below1 w _
  have kE : Bk W1 w.heap.size 32 [.slice A l.length c] := by rw [hW1]; exact Bk.new _ _ [_]
  have z1 := hb1.size
  have hn1 : RdN W1 W1.heap.size A l := (hn.below hb1 (Nat.le_refl _)).more z1
  have hr1 : RdR W1 W1.heap.size As src := (hsr.below hb1 (Nat.le_refl _)).more z1
  have Hn := Lib.hid hn1
  have Hsr := Lib.hid hr1
  have HW1 := Lib.hid hW1
  have Hb1 := Lib.hid hb1
  have HkE := Lib.hid kE
  clear kE
  clear hn hsr hn1 hr1 hW1 hb1
  have hcall := specvalidPulls_any (c := c) (ca := ca) k W1 Hn.out Hsr.out hnl hns hm
  cases hv : (pipeOk l && srcOk src && inR k 0 200) with
  | false =>
    have Hno := Lib.hid (QTotal_no (s := s) hv)
    obtain ⟨rfl, rfl⟩ := hq.out.no hv
    rw [hv] at hcall
    have Hcall := Lib.hid hcall
    clear hv hcall
    go_enter Try.func45, Try.ntmps45
    go_wp2_with fail
    rw [← HW1.out]
    refine Hcall.out.mono ?_
    rintro e w2 ⟨rfl, hb2⟩
    have Hb2 := Lib.hid (Hb1.out.trans (hb2.mono z1))
    clear hb2
    go_wp2_with fail
    refine bodyPost_ret (v := .int .i64 (-1)) (by simp [results, Try.results45, go_sem]) rfl ⟨by rw [Hno.out], Hb2.out⟩
  | true =>
    have hyes := hq.out.yes hv
    have hsz := hq.out.sizes
    simp only [Bool.and_eq_true] at hv
    obtain ⟨⟨hp, hs⟩, hk⟩ := hv
    obtain ⟨kn, rfl⟩ : ∃ kn : Nat, k = (kn : Int) := ⟨k.toNat, by simp [inR] at hk; omega⟩
    have hkn : kn ≤ 200 := by simp [inR] at hk; omega
    have h3 := (src_rows hs).1
    have hhigh := high_of hp
    obtain ⟨t, ht, hix, hqt⟩ := hyes
    have hvt : (pipeOk l && srcOk src && inR (kn : Int) 0 200) = true := by simp [hp, hs, hk]
    have Hvt := Lib.hid (QTotal_yes (s := s) hvt)
    clear hvt
    have hF := pull_fine (pipeOk_iff.1 hp) hs (fu := fun s => s.M l src + 1) ht
    have hpul := fun (W : World) (hnW : RdN W W.heap.size A l) (hsW : RdR W W.heap.size As src) => specPulled_any (c := c) (ca := ca) hhigh hF (fun pb cb n0 => NextOk.of (pipeOk_iff.1 hp) hs hhigh ht) hix (newPS_ok (pipeOk_iff.1 hp)) (newPS_W hs hhigh) kn hkn W hnW hsW
    have hmany := manyP_runP hF (fun s s' ok h => pull_again (pipeOk_iff.1 hp) hs ht ok h) (newPS_ok (pipeOk_iff.1 hp)) kn
    have hlow := low_of hp
    have hvt : (pipeOk l && srcOk src && inR (kn : Int) 0 200) = true := by simp [hp, hs, hk]
    rw [hvt] at hcall
    rw [h3] at hcall ⊢
    have Hcall := Lib.hid hcall
    have Hpul := Lib.hid hpul
    have Hmany := Lib.hid hmany
    have Hq := Lib.hid hqt
    have Hix := Lib.hid hix
    have Hsz := Lib.hid hsz
    have Hsrc3 := Lib.hid h3
    have Hsok := Lib.hid hs
    clear hp hs hk h3 ht hix hqt hcall hq hF hpul hmany hvt hsz
    go_enter Try.func45, Try.ntmps45
    go_wp2_with fail
    rw [← HW1.out]
    refine Hcall.out.mono ?_
    rintro e w2 ⟨rfl, hb2⟩
    have Hb2 := Lib.hid (Hb1.out.trans (hb2.mono z1))
    have kE2 := HkE.out.below hb2 HkE.out.lt
    have e2 := kE2.cell 0
    simp only [List.getElem?_cons_zero] at e2
    have hz2 := hb2.size
    have hpc := Hpul.out w2 ((Hn.out.below hb2 (Nat.le_refl _)).more hz2) ((Hsr.out.below hb2 (Nat.le_refl _)).more hz2)
    have Hpc := Lib.hid hpc
    have HkE2 := Lib.hid kE2
    have Hpb1 := Lib.hid hb2
    clear hb2 hpc kE2
    go_wp2_with fail
    refine Hpc.out.mono ?_
    rintro e w3 ⟨pb, cb, R, cR, pre', s', rfl, h⟩
    have hl := h.ok.len
    have he := h.e
    rw [Hmany.out] at he
    rw [Int.toNat_natCast, he] at Hq
    obtain ⟨rfl, rfl⟩ := Prod.mk.inj Hq.out.symm
    obtain ⟨b0, b1, b2⟩ := h.sw.bx
    have hz12 := Hb2.out.size
    have hz3 := h.bl.size
    have Hb3 := Lib.hid (Hb2.out.trans (h.bl.mono hz12))
    have hE3 := (HkE2.out.below h.bl HkE2.out.lt).cell 0
    simp only [List.getElem?_cons_zero] at hE3
    have Hh := Lib.hid h
    have hpb1 := Hpb1.out
    obtain ⟨Rl, cRl, hbx, hog⟩ := h.sw.rs.box
    have b3 := hbx.cell 3
    have plt := hbx.lt
    replace b3 : w3.cell? ⟨pb, 3, none⟩ = some (.slice Rl s.lg.length cRl) := b3
    clear hog hbx
    clear he Hq h e2 hpb1
    go_wp2_with fail
    refine bodyPost_ret (v := .int .i64 (s.lg.length : Int)) (by simp [results, Try.results45, go_sem]) rfl ⟨by rw [Hvt.out], Hb3.out⟩

theorem implTotalPulls_l {A : Option Addr} {c : Nat} (l : List Nd) {As : Option Addr} {ca : Nat} (src : List (List Int)) (k : Int) (w : World) (B : Nat) (q : Int) (hq : Hid (MTotal l src k q)) (hn : RdN w B A l) (hsr : RdR w B As src) (hB : B ≤ w.heap.size) (hnl : l.length ≤ 1048576) (hns : src.length ≤ 1048576) (hm : Hid (∀ r ∈ src, r.length ≤ 1048576)) :
    Calls Try.prog 46 #[.agg #[.slice A l.length c], .slice As src.length ca, .int .i64 k] w fun e w' => e = .returned (.int .i64 q) ∧ Below w.heap.size w w' := by
  obtain ⟨pre, s, h, rfl⟩ := hq.out
  exact implTotalPulls_any k pre s (Lib.hid h) w (hn.more hB) (hsr.more hB) hnl hns hm
theorem specTotalPulls_l {A : Option Addr} {c : Nat} (l : List Nd) {As : Option Addr} {ca : Nat} (src : List (List Int)) (k : Int) (w : World) (B : Nat) (q : Int) (hq : Hid (MTotal l src k q)) (hn : RdN w B A l) (hsr : RdR w B As src) (hB : B ≤ w.heap.size) (hnl : l.length ≤ 1048576) (hns : src.length ≤ 1048576) (hm : Hid (∀ r ∈ src, r.length ≤ 1048576)) :
    Calls Try.prog 45 #[.agg #[.slice A l.length c], .slice As src.length ca, .int .i64 k] w fun e w' => e = .returned (.int .i64 q) ∧ Below w.heap.size w w' := by
  obtain ⟨pre, s, h, rfl⟩ := hq.out
  exact specTotalPulls_any k pre s (Lib.hid h) w (hn.more hB) (hsr.more hB) hnl hns hm

end Go.Proofs.Ytjhdjfobbgfpfaa
