/- Texts on the program and its reference, put together (LwA, RowM, OpenN, Open, PwJ, PwK). -/
import Derived.Test.YthfniffecceldaaMq5T
import Derived.Test.YthfniffecceldaaMq5B
import Derived.Test.YthfniffecceldaaMq5A
import Derived.ProofKit
import Derived.OpenShut
import Derived.ChangeOld
import Derived.Deep.Slices
import Derived.Deep.Fields
import Derived.ShutString
import Derived.Below
import Derived.Deep.Matrix
import Derived.Test.YthfniffecceldaaMq5R
import Derived.Deep.RegionHeld3
import Derived.Test.YthfniffecceldaaMq5K
/- The longest wait, by the program and by the reference. -/
namespace Go.Proofs.Ythfniffecceldaa
open Go.RowKit

/-- The greatest of v and the first k steps of q. -/
def waitUp (v : Int) (q : List Int) : Nat → Int
  | 0 => v
  | k + 1 => max (waitUp v q k) (q.getD (k + 1) 0 - q.getD k 0)
theorem waitUp_range {q : List Int} (hq : ∀ x ∈ q, 0 ≤ x ∧ x ≤ 65536) {v : Int} (hv : -1 ≤ v ∧ v ≤ 65536) : ∀ k, -1 ≤ waitUp v q k ∧ waitUp v q k ≤ 65536
  | 0 => hv
  | k + 1 => by
    have ih := waitUp_range hq hv k
    have g : ∀ j, 0 ≤ q.getD j 0 ∧ q.getD j 0 ≤ 65536 := fun j => by
      rw [List.getD_eq_getElem?_getD]
      cases h : q[j]? with
      | none => simp
      | some x => simpa using hq x (List.mem_of_getElem? h)
    have g1 := g (k + 1)
    have g2 := g k
    simp only [waitUp]
    omega
theorem waitUp_low {q : List Int} (h0 : q.getD 0 0 ≤ q.getD 1 0) : ∀ k, waitUp (-1) q (k + 1) = waitUp 0 q (k + 1)
  | 0 => by simp only [waitUp, Nat.zero_add]; omega
  | k + 1 => by
    have ih := waitUp_low h0 k
    show max (waitUp (-1) q (k + 1)) _ = max (waitUp 0 q (k + 1)) _
    rw [ih]
/-- The longest wait. -/
def LongQ (l : List Nd) (src : List (List Int)) (x : Int) : Prop := ∃ q, TabQ l src q ∧ x = if (pipeOk l && srcOk src) = true then waitUp 0 q (q.length - 1) else -1
theorem tab_range {l : List Nd} {src : List (List Int)} {q : List Int} (h : TabQ l src q) : ∀ x ∈ q, 0 ≤ x ∧ x ≤ 65536 := fun x hx => by
  cases hv : (pipeOk l && srcOk src) with
  | false => rw [h.no hv] at hx; simp at hx
  | true =>
    obtain ⟨t, e, ht, hix, he, rfl⟩ := h.yes hv
    simp only [tabUp, List.mem_map, List.mem_range] at hx
    obtain ⟨k, hk, rfl⟩ := hx
    have hle := he.le
    have hk2 : inR (k : Int) 0 200 = true := inR_iff.2 (by omega)
    have ho : OutQ l src k (runP (pull src (fun s => s.M l src + 1) t) k (newPS l.length)).1 (stAt l src t k) :=
      ⟨fun hno => absurd hno (by rw [hv, hk2]; decide), fun _ => ⟨t, ht, hix, rfl⟩⟩
    have := ho.sizes
    omega
theorem tab_first {l : List Nd} {src : List (List Int)} {q : List Int} (h : TabQ l src q) (hv : (pipeOk l && srcOk src) = true) : 2 ≤ q.length ∧ q.getD 0 0 ≤ q.getD 1 0 := by
  obtain ⟨t, e, ht, hix, he, rfl⟩ := h.yes hv
  refine ⟨by rw [tabUp_len]; omega, ?_⟩
  have hg : ∀ j, j < e + 2 → (tabUp l src t (e + 2)).getD j 0 = ((stAt l src t j).lg.length : Int) := fun j hj => by
    rw [List.getD_eq_getElem?_getD]
    simp [tabUp, hj]
  rw [hg 0 (by omega), hg 1 (by omega)]
  have h0 : (stAt l src t 0).lg.length = 0 := by simp [stAt, runP, newPS]
  omega

set_option maxRecDepth 100000 in
set_option maxHeartbeats 3200000 in
theorem implLongestWait_any {l : List Nd} {src : List (List Int)} {A : Option Addr} {c : Nat} {As : Option Addr} {ca : Nat} (x : Int) (hx : Hid (LongQ l src x)) (w : World) (hn : RdN w w.heap.size A l) (hsr : RdR w w.heap.size As src) (hnl : l.length ≤ 1048576) (hns : src.length ≤ 1048576) (hm : Hid (∀ r ∈ src, r.length ≤ 1048576)) :
    Calls Try.prog 22 #[.agg #[.slice A l.length c], .slice As src.length ca] w fun e w' => e = .returned (.int .i64 x) ∧ Below w.heap.size w w' := by
  obtain ⟨q, htab, hxq⟩ := hx.out
  have hrange := Lib.hid (tab_range htab)
  have hfirst := Lib.hid (tab_first htab)
  have Hx := Lib.hid hxq
  have htq := Lib.hid htab
  have hqlen : q.length ≤ 200 := by
    cases hv : (pipeOk l && srcOk src) with
    | false => rw [htab.no hv]; simp
    | true =>
      obtain ⟨t, e, ht, hix, he, rfl⟩ := htab.yes hv
      have := he.le
      rw [tabUp_len]
      omega
  clear hx hxq htab
  obtain ⟨W1, hW1⟩ : ∃ X : World, X = w.alloc (.cells #[.slice A l.length c] 39) := ⟨_, rfl⟩
  have hb1 : Below w.heap.size w W1 := by rw [hW1]; exact below1 w _
  have kE : Bk W1 w.heap.size 39 [.slice A l.length c] := by rw [hW1]; exact Bk.new _ _ [_]
  have z1 := hb1.size
  have hn1 : RdN W1 W1.heap.size A l := (hn.below hb1 (Nat.le_refl _)).more z1
  have hr1 : RdR W1 W1.heap.size As src := (hsr.below hb1 (Nat.le_refl _)).more z1
  have Hn := Lib.hid hn1
  have Hsr := Lib.hid hr1
  have HW1 := Lib.hid hW1
  have Hb1 := Lib.hid hb1
  have HkE := Lib.hid kE
  clear kE hn hsr hn1 hr1 hW1 hb1
  go_enter Try.func22, Try.ntmps22
  go_wp2_with fail
  rw [← HW1.out]
  refine (implPullTable_any q htq W1 Hn.out Hsr.out hnl hns hm).mono ?_
  rintro e w2 ⟨A', c', rfl, ho, hb2⟩
  have Hb2 := Lib.hid (Hb1.out.trans (hb2.mono z1))
  have hz2 := hb2.size
  have Ho := Lib.hid (ho.rd)
  clear hb2 ho
  go_wp2_with fail
  go_loopw [5, 7] (fun b i wr => Same w2 wr ∧ ∃ j : Nat, (j + 1 ≤ q.length ∨ j = 0) ∧ (∃ k : Nat, k = j + 1 ∧ i = .int .i64 k) ∧ ∃ v : Int, v = waitUp (-1) q j ∧ b = .int .i64 v) (fun _ i _ => q.length + 1 - (intOf i).toNat)
  case atStart => exact ⟨Same.refl _, 0, .inr rfl, ⟨1, rfl, rfl⟩, _, rfl, rfl⟩
  case round =>
    obtain ⟨hsm, j, hj, ⟨k, hk, rfl⟩, v, hv, rfl⟩ := hrel
    have Hsm := Lib.hid hsm
    clear hsm
    have hk1 : 1 ≤ k := by omega
    have hkj : (k : Int) - 1 = (j : Int) := by omega
    have Hk := Lib.hid hk
    have hvr := waitUp_range hrange.out (v := -1) (by decide) j
    rw [← hv] at hvr
    have hv0 : -1 ≤ v := hvr.1
    have hv1 : v ≤ 65536 := hvr.2
    have Hv := Lib.hid hv
    clear hv hvr
    by_cases hlt : k < q.length
    · have hlj : j < q.length := by omega
      obtain ⟨ad, y, hA, hy, hc⟩ := (Ho.out.same Hsm.out).at_ hlt
      obtain ⟨ad', z, hA', hz, hc'⟩ := (Ho.out.same Hsm.out).at_ hlj
      rw [hk] at hy
      clear hk
      obtain rfl : ad = ad' := Option.some.inj (hA.symm.trans hA')
      subst hA
      have hy1 := hrange.out y (List.mem_of_getElem? hy)
      have hz1 := hrange.out z (List.mem_of_getElem? hz)
      have hy0 : 0 ≤ y := hy1.1
      have hz0 : 0 ≤ z := hz1.1
      have hy2 : y ≤ 65536 := hy1.2
      have hz2 : z ≤ 65536 := hz1.2
      have hs : waitUp (-1) q (j + 1) = max v (y - z) := by
        rw [Hv.out, waitUp, List.getD_eq_getElem?_getD, List.getD_eq_getElem?_getD, hy, hz]
        rfl
      have Hs := Lib.hid hs
      clear hs hy hz hA' hy1 hz1
      by_cases hm : v < y - z
      · have hmx : max v (y - z) = y - z := by omega
        go_wp2
        go_quiet (fail)
        all_goals go_wp2
        go_roundw
        case rel => exact ⟨Hsm.out.drewN _, j + 1, .inl (by have := Hk.out; omega), ⟨k + 1, by have := Hk.out; omega, by go_num⟩, _, by rw [Hs.out]; omega, rfl⟩
        case measure => simp [intOf]; omega
      · have hmx : max v (y - z) = v := by omega
        go_wp2
        go_quiet (fail)
        all_goals go_wp2
        go_roundw
        case rel => exact ⟨Hsm.out.drewN _, j + 1, .inl (by have := Hk.out; omega), ⟨k + 1, by have := Hk.out; omega, by go_num⟩, _, by rw [Hs.out]; omega, rfl⟩
        case measure => simp [intOf]; omega
    · clear hk
      go_wp2
      go_ret
      have hk := Hk.out
      refine ⟨ret_int ?_, Hb2.out.trans (Hsm.out.below _)⟩
      rw [Hx.out]
      cases hv : (pipeOk l && srcOk src) with
      | false =>
        have hq0 : q.length = 0 := by rw [htq.out.no hv]; rfl
        obtain rfl : j = 0 := by omega
        rw [if_neg (by decide), Hv.out]
        rfl
      | true =>
        have hf := hfirst.out hv
        have hj2 : q.length - 1 = j := by omega
        obtain ⟨p, rfl⟩ : ∃ p, j = p + 1 := ⟨j - 1, by omega⟩
        rw [if_pos rfl, hj2, Hv.out]
        exact waitUp_low hf.2 p

set_option maxRecDepth 100000 in
set_option maxHeartbeats 3200000 in
theorem specLongestWait_any {l : List Nd} {src : List (List Int)} {A : Option Addr} {c : Nat} {As : Option Addr} {ca : Nat} (x : Int) (hx : Hid (LongQ l src x)) (w : World) (hn : RdN w w.heap.size A l) (hsr : RdR w w.heap.size As src) (hnl : l.length ≤ 1048576) (hns : src.length ≤ 1048576) (hm : Hid (∀ r ∈ src, r.length ≤ 1048576)) :
    Calls Try.prog 20 #[.agg #[.slice A l.length c], .slice As src.length ca] w fun e w' => e = .returned (.int .i64 x) ∧ Below w.heap.size w w' := by
  obtain ⟨q, htab, hxq⟩ := hx.out
  have hrange := Lib.hid (tab_range htab)
  have hfirst := Lib.hid (tab_first htab)
  have Hx := Lib.hid hxq
  have htq := Lib.hid htab
  have hqlen : q.length ≤ 200 := by
    cases hv : (pipeOk l && srcOk src) with
    | false => rw [htab.no hv]; simp
    | true =>
      obtain ⟨t, e, ht, hix, he, rfl⟩ := htab.yes hv
      have := he.le
      rw [tabUp_len]
      omega
  clear hx hxq htab
  obtain ⟨W1, hW1⟩ : ∃ X : World, X = w.alloc (.cells #[.slice A l.length c] 39) := ⟨_, rfl⟩
  have hb1 : Below w.heap.size w W1 := by rw [hW1]; exact below1 w _
  have kE : Bk W1 w.heap.size 39 [.slice A l.length c] := by rw [hW1]; exact Bk.new _ _ [_]
  have z1 := hb1.size
  have hn1 : RdN W1 W1.heap.size A l := (hn.below hb1 (Nat.le_refl _)).more z1
  have hr1 : RdR W1 W1.heap.size As src := (hsr.below hb1 (Nat.le_refl _)).more z1
  have Hn := Lib.hid hn1
  have Hsr := Lib.hid hr1
  have HW1 := Lib.hid hW1
  have Hb1 := Lib.hid hb1
  have HkE := Lib.hid kE
  clear kE hn hsr hn1 hr1 hW1 hb1
  have hcall := specvalidInput_any A c l As ca src W1 W1.heap.size Hn.out Hsr.out (Nat.le_refl _) hnl hns hm
  cases hv : (pipeOk l && srcOk src) with
  | false =>
    rw [hv] at hcall
    have hxm : x = -1 := by rw [Hx.out, hv]; rfl
    have Hxm := Lib.hid hxm
    have Hcall := Lib.hid hcall
    clear hv hcall hxm
    go_enter Try.func20, Try.ntmps20
    go_wp2_with fail
    rw [← HW1.out]
    refine Hcall.out.mono ?_
    rintro e w2 ⟨rfl, hb2⟩
    have Hb2 := Lib.hid (Hb1.out.trans (hb2.mono z1))
    clear hb2
    go_wp2_with fail
    go_ret
    exact ⟨ret_int Hxm.out.symm, Hb2.out⟩
  | true =>
    rw [hv] at hcall
    have hf := hfirst.out hv
    have hxm : x = waitUp 0 q (q.length - 1) := by rw [Hx.out, hv]; rfl
    have Hxm := Lib.hid hxm
    have Hcall := Lib.hid hcall
    clear hv hcall hxm
    go_enter Try.func20, Try.ntmps20
    go_wp2_with fail
    rw [← HW1.out]
    refine Hcall.out.mono ?_
    rintro e w2 ⟨rfl, hb2⟩
    have Hb2 := Lib.hid (Hb1.out.trans (hb2.mono z1))
    have HkE2 := Lib.hid (HkE.out.below hb2 HkE.out.lt)
    have hz2 := hb2.size
    have Hn2 := Lib.hid ((Hn.out.below hb2 (Nat.le_refl _)).more hz2)
    have Hsr2 := Lib.hid ((Hsr.out.below hb2 (Nat.le_refl _)).more hz2)
    clear hb2
    have ce : w2.cell? ⟨w.heap.size, 0, none⟩ = some (.slice A l.length c) := HkE2.out.cell 0
    have le := HkE2.out.lt
    go_wp2_with fail
    refine (specPullTable_any q htq w2 Hn2.out Hsr2.out hnl hns hm).mono ?_
    rintro e w3 ⟨A', c', rfl, ho, hb3⟩
    have Hb3 := Lib.hid (Hb2.out.trans (hb3.mono (by omega)))
    have hz3 := hb3.size
    have Ho := Lib.hid (ho.rd)
    clear hb3 ho ce le
    clear hnl hns hz2 hz3 z1
    go_wp2_with fail
    go_loopw [5, 7] (fun b i wr => Same w3 wr ∧ ∃ j : Nat, (j + 1 ≤ q.length ∨ j = 0) ∧ (∃ k : Nat, k = j + 1 ∧ i = .int .i64 k) ∧ ∃ v : Int, v = waitUp (0) q j ∧ b = .int .i64 v) (fun _ i _ => q.length + 1 - (intOf i).toNat)
    case atStart => exact ⟨Same.refl _, 0, .inr rfl, ⟨1, rfl, rfl⟩, _, rfl, rfl⟩
    case round =>
      obtain ⟨hsm, j, hj, ⟨k, hk, rfl⟩, v, hv, rfl⟩ := hrel
      have Hsm := Lib.hid hsm
      clear hsm
      have hk1 : 1 ≤ k := by omega
      have hkj : (k : Int) - 1 = (j : Int) := by omega
      have Hk := Lib.hid hk
      have hvr := waitUp_range hrange.out (v := 0) (by decide) j
      rw [← hv] at hvr
      have hv0 : -1 ≤ v := hvr.1
      have hv1 : v ≤ 65536 := hvr.2
      have Hv := Lib.hid hv
      clear hv hvr
      by_cases hlt : k < q.length
      · have hlj : j < q.length := by omega
        obtain ⟨ad, y, hA, hy, hc⟩ := (Ho.out.same Hsm.out).at_ hlt
        obtain ⟨ad', z, hA', hz, hc'⟩ := (Ho.out.same Hsm.out).at_ hlj
        rw [hk] at hy
        clear hk
        obtain rfl : ad = ad' := Option.some.inj (hA.symm.trans hA')
        subst hA
        have hy1 := hrange.out y (List.mem_of_getElem? hy)
        have hz1 := hrange.out z (List.mem_of_getElem? hz)
        have hy0 : 0 ≤ y := hy1.1
        have hz0 : 0 ≤ z := hz1.1
        have hy2 : y ≤ 65536 := hy1.2
        have hz2 : z ≤ 65536 := hz1.2
        have hs : waitUp (0) q (j + 1) = max v (y - z) := by
          rw [Hv.out, waitUp, List.getD_eq_getElem?_getD, List.getD_eq_getElem?_getD, hy, hz]
          rfl
        have Hs := Lib.hid hs
        clear hs hy hz hA' hy1 hz1
        by_cases hm : v < y - z
        · have hmx : max v (y - z) = y - z := by omega
          go_wp2
          go_quiet (fail)
          all_goals go_wp2
          go_roundw
          case rel => exact ⟨Hsm.out.drewN _, j + 1, .inl (by have := Hk.out; omega), ⟨k + 1, by have := Hk.out; omega, by go_num⟩, _, by rw [Hs.out]; omega, rfl⟩
          case measure => simp [intOf]; omega
        · have hmx : max v (y - z) = v := by omega
          go_wp2
          go_quiet (fail)
          all_goals go_wp2
          go_roundw
          case rel => exact ⟨Hsm.out.drewN _, j + 1, .inl (by have := Hk.out; omega), ⟨k + 1, by have := Hk.out; omega, by go_num⟩, _, by rw [Hs.out]; omega, rfl⟩
          case measure => simp [intOf]; omega
      · clear hk
        go_wp2
        go_ret
        have hk := Hk.out
        have hj2 : q.length - 1 = j := by omega
        exact ⟨ret_int (by rw [Hxm.out, hj2]; exact Hv.out), Hb3.out.trans (Hsm.out.below _)⟩

theorem implLongestWait_l {A : Option Addr} {c : Nat} (l : List Nd) {As : Option Addr} {ca : Nat} (src : List (List Int)) (w : World) (B : Nat) (x : Int) (hx : Hid (LongQ l src x)) (hn : RdN w B A l) (hsr : RdR w B As src) (hB : B ≤ w.heap.size) (hnl : l.length ≤ 1048576) (hns : src.length ≤ 1048576) (hm : Hid (∀ r ∈ src, r.length ≤ 1048576)) :
    Calls Try.prog 22 #[.agg #[.slice A l.length c], .slice As src.length ca] w fun e w' => e = .returned (.int .i64 x) ∧ Below w.heap.size w w' :=
  implLongestWait_any x hx w (hn.more hB) (hsr.more hB) hnl hns hm
theorem specLongestWait_l {A : Option Addr} {c : Nat} (l : List Nd) {As : Option Addr} {ca : Nat} (src : List (List Int)) (w : World) (B : Nat) (x : Int) (hx : Hid (LongQ l src x)) (hn : RdN w B A l) (hsr : RdR w B As src) (hB : B ≤ w.heap.size) (hnl : l.length ≤ 1048576) (hns : src.length ≤ 1048576) (hm : Hid (∀ r ∈ src, r.length ≤ 1048576)) :
    Calls Try.prog 20 #[.agg #[.slice A l.length c], .slice As src.length ca] w fun e w' => e = .returned (.int .i64 x) ∧ Below w.heap.size w w' :=
  specLongestWait_any x hx w (hn.more hB) (hsr.more hB) hnl hns hm
end Go.Proofs.Ythfniffecceldaa

/- Slices of slices of numbers that a call made: kept, read and marked. -/
namespace Go.Proofs.Ythfniffecceldaa
open Go.RowKit

/-- Rows in memory of a call's own, blocks lo to hi. -/
def OwnS (w : World) (lo hi : Nat) (A : Option Addr) (rows : List (List Int)) : Prop :=
  ∃ g gs, A = some ⟨g, 0, none⟩ ∧ OwnR w 23 3 lo g gs rows ∧ g < hi ∧ ∀ x ∈ gs, x < hi

section
variable {w w' : World} {lo hi : Nat} {A : Option Addr} {rows : List (List Int)}
theorem OwnS.of {g : Nat} (h : ∃ gs, OwnR w 23 3 lo g gs rows) : OwnS w lo w.heap.size (some ⟨g, 0, none⟩) rows := by
  obtain ⟨gs, h⟩ := h
  exact ⟨g, gs, rfl, h, h.top.lt, h.lt_⟩
theorem OwnS.agree (h : OwnS w lo hi A rows) (hag : ∀ b, lo ≤ b → b < hi → w'.heap[b]? = w.heap[b]?) : OwnS w' lo hi A rows := by
  obtain ⟨g, gs, rfl, h, hg, hx⟩ := h
  refine ⟨g, gs, rfl, ⟨h.base_, h.len, h.up, h.asc, (hag g h.base_ hg).trans h.top, fun j x r hj hr => ?_⟩, hg, hx⟩
  have hm := List.mem_of_getElem? hj
  exact (hag x (by have := h.up x hm; have := h.base_; omega) (hx x hm)).trans (h.row j x r hj hr)
theorem OwnS.held (h : OwnS w lo hi A rows) (h1 : lo ≤ hi) (h2 : hi ≤ w.heap.size) : Held w lo hi (fun v => OwnS v lo hi A rows) := ⟨h1, h2, fun _ _ hag => h.agree hag⟩
theorem OwnS.rdt (h : OwnS w lo hi A rows) (_ : hi ≤ w.heap.size) : RdR w w.heap.size A rows := by
  obtain ⟨g, gs, rfl, h, _, _⟩ := h
  exact h.rd (Nat.le_refl _)
end

theorem bulk_len (rows : List (List Int)) : rows.length ≤ bulk rows := Nat.le_add_right _ _
theorem bulk_row {rows : List (List Int)} {r : List Int} (h : r ∈ rows) : r.length ≤ bulk rows := Nat.le_trans (len_le_bulk h) (Nat.le_add_left _ _)

/-- The rows are there, whatever numbers they hold. -/
structure Rowed (w : World) (g : Nat) (gs : List Nat) (rows : List (List Int)) : Prop where
  top : Bk w g 23 (List.zipWith (fun x (r : List Int) => Value.slice (some ⟨x, 0, none⟩) r.length r.length) gs rows)
  row : ∀ (j x : Nat) (r : List Int), gs[j]? = some x → rows[j]? = some r → ∃ r' : List Int, r'.length = r.length ∧ OwnI w x (x + 1) (some ⟨x, 0, none⟩) r'

set_option maxHeartbeats 1600000 in
theorem markIntSS_h {lo hi : Nat} {A : Option Addr} {c : Nat} {rows : List (List Int)} {w : World} (k : Int) (h : OwnS w lo hi A rows) (hn : rows.length ≤ 1048576) (hm : ∀ r ∈ rows, r.length ≤ 1048576) (hbk : bulk rows ≤ 1048576) (hk0 : 0 ≤ k) (hk1 : k ≤ 14680064) :
    Calls Try.prog 16 #[.slice A rows.length c, .int .i64 k] w fun e w' => e = .returned (.int .i64 (k + ((rows.map List.length).sum : Nat))) ∧ Chg lo hi w w' := by
  obtain ⟨g, gs, rfl, h, hg, hx⟩ := h
  have hR : Rowed w g gs rows := ⟨h.top, fun j x r hj hr => ⟨r, rfl, (h.row j x r hj hr).ownI (Nat.le_refl _) (Nat.lt_succ_self _)⟩⟩
  have hsum : (rows.map List.length).sum ≤ 1048576 := by unfold bulk at hbk; omega
  have HR := Lib.hid hR
  have Hh := Lib.hid h
  have Hx := Lib.hid hx
  have Hm := Lib.hid hm
  clear h hR hx hm
  go_enter Try.func16, Try.ntmps16
  go_wp2
  go_loopw [1, 5] (fun s i wr => ∃ j : Nat, j ≤ rows.length ∧ i = .int .i64 j ∧ (∃ m : Int, m = k + (((rows.take j).map List.length).sum : Nat) ∧ s = .int .i64 m) ∧ Rowed wr g gs rows ∧ Chg lo hi w wr) (fun _ i _ => rows.length - (intOf i).toNat)
  case atStart => exact ⟨0, Nat.zero_le _, rfl, ⟨k, by simp, rfl⟩, HR.out, Chg.refl _ _ _⟩
  case round =>
    obtain ⟨j, hj, rfl, ⟨m, hmm, rfl⟩, hR, hc⟩ := hrel
    have hle := sum_take_le rows j
    have hm0 : 0 ≤ m := by omega
    have hm1 : m ≤ 16777216 := by omega
    by_cases hlt : j < rows.length
    · obtain ⟨r, hr⟩ := get_of_lt rows hlt
      obtain ⟨x, hgx⟩ := get_of_lt gs (k := j) (by rw [Hh.out.len]; exact hlt)
      obtain ⟨r', hrl, hown⟩ := hR.row j x r hgx hr
      have htop : wr.cell? ⟨g, j, none⟩ = some (.slice (some ⟨x, 0, none⟩) r.length r.length) := by rw [hR.top.cell, List.getElem?_zipWith, hgx, hr]
      have hrn : r.length ≤ 1048576 := Hm.out r (List.mem_of_getElem? hr)
      have hsucc := sum_take_succ hr
      have HC := Lib.hid (markIntS_h (c := r.length) m hown (by rw [hrl]; exact hrn) hm0 hm1)
      rw [hrl] at HC
      have Hr := Lib.hid hr
      have Hgx := Lib.hid hgx
      have HR2 := Lib.hid hR
      have Hc := Lib.hid hc
      have Hmm := Lib.hid hmm
      have Hsu := Lib.hid hsucc
      have Hrl := Lib.hid hrl
      clear hr hgx hR hc hmm hown hsucc hrl
      go_wp2_with (go_at_call 17; refine HC.out.mono ?_; rintro e w1 ⟨rfl, ho1, hc1⟩; have Ho1 := Lib.hid ho1; have Hc1 := Lib.hid hc1; clear ho1 hc1)
      go_roundw
      case rel =>
        have hxg : g < x := Hh.out.up x (List.mem_of_getElem? Hgx.out)
        have hxl : lo ≤ x := by have := Hh.out.base_; omega
        have hxh : x < hi := Hx.out x (List.mem_of_getElem? Hgx.out)
        refine ⟨j + 1, by omega, by go_num, ⟨_, by rw [Hmm.out, Hsu.out]; omega, rfl⟩, ⟨?_, fun i y q hi hq => ?_⟩, Hc.out.trans (Hc1.out.wide hxl (by omega))⟩
        · exact (Hc1.out.block g HR2.out.top.lt (by omega)).trans HR2.out.top
        · by_cases e : i = j
          · subst e
            obtain rfl := Option.some.inj (Hgx.out.symm.trans hi)
            obtain rfl := Option.some.inj (Hr.out.symm.trans hq)
            exact ⟨mkI r'.length m, by rw [mkI_len]; exact Hrl.out, by rw [Hrl.out]; exact Ho1.out⟩
          · obtain ⟨q', hql, hqo⟩ := HR2.out.row i y q hi hq
            refine ⟨q', hql, fun hpos => ?_⟩
            obtain ⟨gg, oo, cs, hA, h1, h2, hb, hcc⟩ := hqo hpos
            have hne : y ≠ x := by
              intro e2
              subst e2
              have hil : i < gs.length := (List.getElem?_eq_some_iff.1 hi).1
              have hjl : j < gs.length := (List.getElem?_eq_some_iff.1 Hgx.out).1
              have hp := List.pairwise_iff_getElem.1 Hh.out.asc
              have e3 : gs[i] = y := (List.getElem?_eq_some_iff.1 hi).2
              have e4 : gs[j] = y := (List.getElem?_eq_some_iff.1 Hgx.out).2
              rcases Nat.lt_or_gt_of_ne e with h | h
              · have := hp i j hil hjl h; omega
              · have := hp j i hjl hil h; omega
            exact ⟨gg, oo, cs, hA, h1, h2, (Hc1.out.block gg hb.lt (by omega)).trans hb, hcc⟩
      case measure => simp [intOf]; omega
    · obtain rfl : j = rows.length := by omega
      have Hc := Lib.hid hc
      have Hmm := Lib.hid hmm
      clear hR hc hmm
      go_wp2
      go_ret
      exact ⟨ret_int (by rw [Hmm.out, List.take_length]), Hc.out⟩

end Go.Proofs.Ythfniffecceldaa

/- Arguments that came in, opened: a slice of nodes, and a pipe, read as a list of nodes. -/
namespace Go.Proofs.Ythfniffecceldaa
open Go.ChangeShapes Go.WideShapes Go.ChangeAt Go.RowKit Go.Deep

section
variable {H : Type} {enc : TypeId × Value → H} {P : Program} {W : World}
theorem five_cells {e q : TypeId} {fs : Array Field} {fuel : Nat} {cs : List Value} {x : DataW H × List MemPlace} (he : P.underlying e = some (.struct fs)) (h5 : fs.size = 5) (hone : oneCellFields P fs = true) (hall : fs.all (fun f => f.type == q) = true)
    (hq : P.underlying q = some (.int .i64)) (ce : P.cellsOf e = 5) (h : DataW.trod enc P W 0 (fun _ => true) true fuel e cs = some x) :
    ∃ k a b n m : Int, cs = [.int .i64 k, .int .i64 a, .int .i64 b, .int .i64 n, .int .i64 m] := by
  obtain ⟨xs, n, _, _, hl, hxl, hf⟩ := DataW.trod_struct he h
  rw [ce] at hl
  have one : ∀ j, j < 5 → ∃ v : Int, cs[j]? = some (.int .i64 v) := fun j hj => by
    have hjf : fs[j]? = some (fs[j]'(by omega)) := Array.getElem?_eq_getElem (by omega)
    obtain ⟨ho, hk⟩ := hone_of hone j _ hjf
    have ht : (fs[j]'(by omega)).type = q := by
      have := Array.all_eq_true.1 hall j (by omega)
      simpa using this
    have h1 := hf j _ hjf
    rw [ho, hk, ht] at h1
    have hx : xs[j]? = some (xs[j]'(by omega)) := List.getElem?_eq_getElem (by omega)
    rw [hx] at h1
    obtain ⟨v, hv, _, _⟩ := DataW.trod_int hq h1
    refine ⟨v, ?_⟩
    have : ((cs.drop j).take 1)[0]? = some (.int .i64 v) := by rw [hv]; rfl
    simpa using this
  obtain ⟨k, h0⟩ := one 0 (by omega)
  obtain ⟨a, h1⟩ := one 1 (by omega)
  obtain ⟨b, h2⟩ := one 2 (by omega)
  obtain ⟨n', h3⟩ := one 3 (by omega)
  obtain ⟨m, h4⟩ := one 4 (by omega)
  refine ⟨k, a, b, n', m, ?_⟩
  apply List.ext_getElem?
  intro i
  match i with
  | 0 => rw [h0]; rfl
  | 1 => rw [h1]; rfl
  | 2 => rw [h2]; rfl
  | 3 => rw [h3]; rfl
  | 4 => rw [h4]; rfl
  | i + 5 => rw [List.getElem?_eq_none (by omega), List.getElem?_eq_none (by simp)]

theorem open_nodes {t e q : TypeId} {fs : Array Field} {A : Option Addr} {len cap fuel : Nat} {x : DataW H × List MemPlace} (ht : P.underlying t = some (.slice e)) (he : P.underlying e = some (.struct fs)) (h5 : fs.size = 5) (hone : oneCellFields P fs = true)
    (hall : fs.all (fun f => f.type == q) = true) (hq : P.underlying q = some (.int .i64)) (ce : P.cellsOf e = 5) (h : DataW.trod enc P W 0 (fun _ => true) true fuel t [.slice A len cap] = some x) :
    ∃ l : List Nd, l.length = len ∧ len ≤ maxLen ∧ RdN W W.heap.size A l := by
  rcases open_slice ht h with ⟨hcs, _⟩ | ⟨a, l, c, m, n, D, Pl, hcs, _, hl, hm, hmm, _, hr⟩
  · simp at hcs
    obtain ⟨rfl, rfl, rfl⟩ := hcs
    exact ⟨[], rfl, Nat.zero_le _, fun h => absurd h (by simp)⟩
  · simp at hcs
    obtain ⟨rfl, rfl, rfl⟩ := hcs
    simp only [if_true] at hmm
    subst hmm
    have each : ∀ i, i < len → ∃ x : Nd, W.cell? (a.add (i * 5)) = some (.int .i64 x.k) ∧ W.cell? ((a.add (i * 5)).add 1) = some (.int .i64 x.a) ∧ W.cell? ((a.add (i * 5)).add 2) = some (.int .i64 x.b) ∧
        W.cell? ((a.add (i * 5)).add 3) = some (.int .i64 x.n) ∧ W.cell? ((a.add (i * 5)).add 4) = some (.int .i64 x.m) := fun i hi => by
      obtain ⟨cs', hc, htr⟩ := hr i (by omega)
      rw [ce] at hc
      obtain ⟨k, a', b, n', m', rfl⟩ := five_cells he h5 hone hall hq ce htr
      obtain ⟨_, _, hat⟩ := World.cells?_some hc
      exact ⟨⟨k, a', b, n', m'⟩, by simpa [Addr.add] using hat 0 (by omega), by simpa using hat 1 (by omega), by simpa using hat 2 (by omega), by simpa using hat 3 (by omega), by simpa using hat 4 (by omega)⟩
    have : Inhabited Nd := ⟨⟨0, 0, 0, 0, 0⟩⟩
    obtain ⟨f, hf⟩ := choose_lt each
    refine ⟨(List.range len).map f, by simp, by omega, fun hn => ?_⟩
    simp at hn
    have h00 := (hf 0 hn).1
    have hsp := World.cell?_spot h00
    have hbl := World.block_lt_of_cell? _ _ h00
    obtain ⟨b, o, s⟩ := a
    have hs : s = none := by simpa [Addr.add] using hsp
    subst hs
    refine ⟨b, o, rfl, by simpa [Addr.add] using hbl, fun k x hk => ?_⟩
    have hkl : k < len := by simpa using (List.getElem?_eq_some_iff.1 hk).1
    simp [hkl] at hk
    subst hk
    obtain ⟨c0, c1, c2, c3, c4⟩ := hf k hkl
    have e : ∀ j, (⟨b, o, none⟩ : Addr).add j = ⟨b, o + j, none⟩ := fun j => by
      unfold Addr.add
      split
      · rename_i h; subst h; rfl
      · rfl
    rw [e] at c0 c1 c2 c3 c4
    have e2 : ∀ j, (⟨b, o + k * 5, none⟩ : Addr).add j = ⟨b, o + k * 5 + j, none⟩ := fun j => by
      unfold Addr.add
      split
      · rename_i h; subst h; rfl
      · rfl
    rw [e2] at c1 c2 c3 c4
    exact ⟨c0, c1, c2, c3, c4⟩

theorem open_pipe {r : Reach} {b0 : Nat} {tp t e q : TypeId} {f0 : Field} {fs : Array Field} {v : Value} {d : DataW H} {p : List MemPlace} (hp : P.underlying tp = some (.struct #[f0])) (ho : oneCellFields P #[f0] = true) (hft : f0.type = t) (hc : P.cellsOf tp = 1)
    (ht : P.underlying t = some (.slice e)) (he : P.underlying e = some (.struct fs)) (h5 : fs.size = 5) (hone : oneCellFields P fs = true)
    (hall : fs.all (fun f => f.type == q) = true) (hq : P.underlying q = some (.int .i64)) (ce : P.cellsOf e = 5) (hval : Value.okWide P W r b0 tp v) (h : DataW.Trod enc P W 0 (fun _ => true) true tp v d p) :
    ∃ (A : Option Addr) (len cap : Nat) (l : List Nd), v = .agg #[.slice A len cap] ∧ l.length = len ∧ len ≤ maxLen ∧ RdN W W.heap.size A l := by
  obtain ⟨cs, rfl, hsz⟩ := okWide_struct hp hval
  rw [hc] at hsz
  obtain ⟨c0, rfl⟩ : ∃ c0, cs = #[c0] := by
    obtain ⟨m⟩ := cs
    match m, hsz with
    | [c0], _ => exact ⟨c0, rfl⟩
  obtain ⟨fuel, hf⟩ := h
  obtain ⟨xs, n, _, _, _, hxl, hg⟩ := DataW.trod_struct hp hf
  obtain ⟨o0, k0⟩ := hone_of ho 0 f0 rfl
  have h1 := hg 0 f0 rfl
  rw [hft] at h1 k0
  simp [Value.cells, o0, k0] at h1
  have hx : xs[0]? = some (xs[0]'(by simp [hxl])) := List.getElem?_eq_getElem _
  rw [hx] at h1
  rcases open_slice ht h1 with ⟨hcs, _⟩ | ⟨a, l, c, _, _, _, _, hcs, _⟩
  · simp at hcs
    subst hcs
    obtain ⟨l, h2, h3, h4⟩ := open_nodes ht he h5 hone hall hq ce h1
    exact ⟨_, _, _, l, rfl, h2, h3, h4⟩
  · simp at hcs
    subst hcs
    obtain ⟨l, h2, h3, h4⟩ := open_nodes ht he h5 hone hall hq ce h1
    exact ⟨_, _, _, l, rfl, h2, h3, h4⟩
end

end Go.Proofs.Ythfniffecceldaa

/- Arguments that came in, opened: a slice of slices of numbers reads as rows. -/
namespace Go.Proofs.Ythfniffecceldaa
open Go.ChangeShapes Go.WideShapes Go.ChangeAt Go.RowKit Go.Deep

section
variable {H : Type} {enc : TypeId × Value → H} {P : Program} {W : World}
theorem open_rows {t e q : TypeId} {A : Option Addr} {len cap : Nat} {d : DataW H} {p : List MemPlace} (ht : P.underlying t = some (.slice e)) (he : P.underlying e = some (.slice q)) (hq : P.underlying q = some (.int .i64)) (ce : P.cellsOf e = 1) (cq : P.cellsOf q = 1)
    (h0 : DataW.Trod enc P W 0 (fun _ => true) true t (.slice A len cap) d p) :
    ∃ rows : List (List Int), rows.length = len ∧ len ≤ maxLen ∧ (∀ r ∈ rows, r.length ≤ maxLen) ∧ RdR W W.heap.size A rows := by
  obtain ⟨fuel, hf⟩ := h0
  rcases open_int_rows ht he hq ce cq hf with ⟨hcs, _⟩ | ⟨a, l, c, Ad, L, C, Z, hcs, _, hl, hm, _, hr⟩
  · simp [Value.cells] at hcs
    obtain ⟨rfl, rfl, rfl⟩ := hcs
    exact ⟨[], rfl, Nat.zero_le _, fun _ h => absurd h (by simp), fun h => absurd h (by simp)⟩
  · simp [Value.cells] at hcs
    obtain ⟨rfl, rfl, rfl⟩ := hcs
    refine ⟨(List.range len).map fun r => (Z r).take (L r), by simp, by omega, fun r h => ?_, fun hn => ?_⟩
    · obtain ⟨i, hi, rfl⟩ := List.mem_map.1 h
      obtain ⟨_, h1, h2, h3, _⟩ := hr i (by have := List.mem_range.1 hi; omega)
      simp; omega
    · simp at hn
      have h00 := (hr 0 (by omega)).1
      refine ⟨a, rfl, by have := World.block_lt_of_cell? _ _ h00; rwa [add_block] at this, fun k r hk => ?_⟩
      have hkl : k < len := by simpa using (List.getElem?_eq_some_iff.1 hk).1
      simp [hkl] at hk
      subst hk
      obtain ⟨h1, h2, _, h4, _, _, h7⟩ := hr k (by omega)
      have e : ((Z k).take (L k)).length = L k := by simp; omega
      refine ⟨Ad k, C k, by rw [e]; exact h1, fun hn2 => ?_⟩
      rw [e] at hn2
      cases hA : Ad k with
      | none => have := (hr k (by omega)).2.2.2.2.2.1 hA; omega
      | some a' =>
        obtain ⟨_, hcell⟩ := h7 a' hA
        refine ⟨a', rfl, by have := World.block_lt_of_cell? _ _ (hcell 0 (by omega)); rwa [add_block] at this, fun j x hj => ?_⟩
        have hjl : j < L k := by have := (List.getElem?_eq_some_iff.1 hj).1; omega
        rw [hcell j (by omega)]
        rw [List.getElem?_take_of_lt hjl] at hj
        simp [List.getD, hj]
end

end Go.Proofs.Ythfniffecceldaa

/- Contracts: pulls by the program: CountsAfter, ReachedBy. -/
namespace Go.Proofs.Ythfniffecceldaa
open Go.RowKit

/-- What CountsAfter gives. -/
def QCountsAfter (l : List Nd) (src : List (List Int)) (k : Int) (s : PS) : List Int := if (pipeOk l && srcOk src && inR k 0 200) = true then cntOf s.lg else []
/-- .. leaves. -/
def PCountsAfter (l : List Nd) (src : List (List Int)) (k : Int) (s : PS) (w : World) (e : Ending) (w' : World) : Prop := ∃ A' c', e = .returned (.slice A' (QCountsAfter l src k s).length c') ∧ OwnI w' w.heap.size w'.heap.size A' (QCountsAfter l src k s) ∧ Below w.heap.size w w'
theorem QCountsAfter_yes {l : List Nd} {src : List (List Int)} {k : Int} {s : PS} (h : (pipeOk l && srcOk src && inR k 0 200) = true) : QCountsAfter l src k s = cntOf s.lg := by unfold QCountsAfter; rw [if_pos h]
theorem QCountsAfter_no {l : List Nd} {src : List (List Int)} {k : Int} {s : PS} (h : (pipeOk l && srcOk src && inR k 0 200) = false) : QCountsAfter l src k s = [] := by unfold QCountsAfter; rw [if_neg (by rw [h]; decide)]
theorem PCountsAfter.nil {l : List Nd} {src : List (List Int)} {k : Int} {s : PS} {w w' : World} (h : (pipeOk l && srcOk src && inR k 0 200) = false) (hb : Below w.heap.size w w') : PCountsAfter l src k s w (.returned (.slice none 0 0)) w' := by unfold PCountsAfter; rw [QCountsAfter_no h]; exact ⟨none, 0, rfl, fun h => absurd h (by simp), hb⟩
theorem PCountsAfter.bk {l : List Nd} {src : List (List Int)} {k : Int} {s : PS} {w w' : World} {g : Nat} (h : (pipeOk l && srcOk src && inR k 0 200) = true) (hk : Bk w' g 3 (ints (cntOf s.lg))) (hg : w.heap.size ≤ g) (hb : Below w.heap.size w w') : PCountsAfter l src k s w (.returned (.slice (some ⟨g, 0, none⟩) 3 3)) w' := by
  unfold PCountsAfter
  rw [QCountsAfter_yes h, cntOf_len]
  exact ⟨_, _, rfl, fun _ => ⟨g, 0, _, rfl, hg, hk.lt, hk, fun k x hx => by rw [Nat.zero_add, ints_get, hx]; rfl⟩, hb⟩
/-- The model of CountsAfter. -/
def MCountsAfter (l : List Nd) (src : List (List Int)) (k : Int) (q : List Int) : Prop := ∃ pre s, OutQ l src k pre s ∧ q = QCountsAfter l src k s
theorem MCountsAfter.len {l : List Nd} {src : List (List Int)} {k : Int} {s : PS} : (QCountsAfter l src k s).length ≤ 3 := by
  unfold QCountsAfter
  split
  · rw [cntOf_len]; exact Nat.le_refl _
  · simp
/-- What ReachedBy gives. -/
def QReachedBy (l : List Nd) (src : List (List Int)) (k : Int) (s : PS) : List Int := if (pipeOk l && srcOk src && inR k 0 200) = true then rchOf s.lg else []
/-- .. leaves. -/
def PReachedBy (l : List Nd) (src : List (List Int)) (k : Int) (s : PS) (w : World) (e : Ending) (w' : World) : Prop := ∃ A' c', e = .returned (.slice A' (QReachedBy l src k s).length c') ∧ OwnI w' w.heap.size w'.heap.size A' (QReachedBy l src k s) ∧ Below w.heap.size w w'
theorem QReachedBy_yes {l : List Nd} {src : List (List Int)} {k : Int} {s : PS} (h : (pipeOk l && srcOk src && inR k 0 200) = true) : QReachedBy l src k s = rchOf s.lg := by unfold QReachedBy; rw [if_pos h]
theorem QReachedBy_no {l : List Nd} {src : List (List Int)} {k : Int} {s : PS} (h : (pipeOk l && srcOk src && inR k 0 200) = false) : QReachedBy l src k s = [] := by unfold QReachedBy; rw [if_neg (by rw [h]; decide)]
theorem PReachedBy.nil {l : List Nd} {src : List (List Int)} {k : Int} {s : PS} {w w' : World} (h : (pipeOk l && srcOk src && inR k 0 200) = false) (hb : Below w.heap.size w w') : PReachedBy l src k s w (.returned (.slice none 0 0)) w' := by unfold PReachedBy; rw [QReachedBy_no h]; exact ⟨none, 0, rfl, fun h => absurd h (by simp), hb⟩
theorem PReachedBy.bk {l : List Nd} {src : List (List Int)} {k : Int} {s : PS} {w w' : World} {g : Nat} (h : (pipeOk l && srcOk src && inR k 0 200) = true) (hk : Bk w' g 3 (ints (rchOf s.lg))) (hg : w.heap.size ≤ g) (hb : Below w.heap.size w w') : PReachedBy l src k s w (.returned (.slice (some ⟨g, 0, none⟩) 3 3)) w' := by
  unfold PReachedBy
  rw [QReachedBy_yes h, rchOf_len]
  exact ⟨_, _, rfl, fun _ => ⟨g, 0, _, rfl, hg, hk.lt, hk, fun k x hx => by rw [Nat.zero_add, ints_get, hx]; rfl⟩, hb⟩
/-- The model of ReachedBy. -/
def MReachedBy (l : List Nd) (src : List (List Int)) (k : Int) (q : List Int) : Prop := ∃ pre s, OutQ l src k pre s ∧ q = QReachedBy l src k s
theorem MReachedBy.len {l : List Nd} {src : List (List Int)} {k : Int} {s : PS} : (QReachedBy l src k s).length ≤ 3 := by
  unfold QReachedBy
  split
  · rw [rchOf_len]; exact Nat.le_refl _
  · simp
set_option maxRecDepth 100000 in
set_option maxHeartbeats 6400000 in
theorem implReachedBy_any {l : List Nd} {src : List (List Int)} {A : Option Addr} {c : Nat} {As : Option Addr} {ca : Nat} (k : Int) (pre : List Int) (s : PS) (hq : Hid (OutQ l src k pre s)) (w : World) (hn : RdN w w.heap.size A l) (hsr : RdR w w.heap.size As src) (hnl : l.length ≤ 1048576) (hns : src.length ≤ 1048576) (hm : Hid (∀ r ∈ src, r.length ≤ 1048576)) :
    Calls Try.prog 53 #[.agg #[.slice A l.length c], .slice As src.length ca, .int .i64 k] w fun e w' => PReachedBy l src k s w e w' := by
  obtain ⟨W1, hW1⟩ : ∃ X : World, X = w.alloc (.cells #[.slice A l.length c] 39) := ⟨_, rfl⟩
  have hb1 : Below w.heap.size w W1 := by rw [hW1]; exact below1 w _
  have z1 := hb1.size
  have hn1 : RdN W1 W1.heap.size A l := (hn.below hb1 (Nat.le_refl _)).more z1
  have hr1 : RdR W1 W1.heap.size As src := (hsr.below hb1 (Nat.le_refl _)).more z1
  have Hn := Lib.hid hn1
  have Hsr := Lib.hid hr1
  have HW1 := Lib.hid hW1
  have Hb1 := Lib.hid hb1
  clear hn hsr hn1 hr1 hW1 hb1
  cases hv : (pipeOk l && srcOk src && inR k 0 200) with
  | false =>
    have Hno := Lib.hid hv
    obtain ⟨rfl, rfl⟩ := hq.out.no hv
    have Hv := Lib.hid hv
    clear hv
    go_enter Try.func53, Try.ntmps53
    go_wp2_with fail
    rw [← HW1.out]
    refine (watchTimes_no k Hv.out W1 Hn.out Hsr.out hnl hns hm).mono ?_
    rintro e w2 ⟨rfl, hb2⟩
    have Hb2 := Lib.hid (Hb1.out.trans (hb2.mono z1))
    clear hb2
    go_wp2_with fail
    refine bodyPost_ret (v := .slice none 0 0) (by simp [results, Try.results53, go_sem]) rfl ?_
    exact PReachedBy.nil Hno.out Hb2.out
  | true =>
    have hyes := hq.out.yes hv
    have hsz := hq.out.sizes
    simp only [Bool.and_eq_true] at hv
    obtain ⟨⟨hp, hs⟩, hk⟩ := hv
    obtain ⟨kn, rfl⟩ : ∃ kn : Nat, k = (kn : Int) := ⟨k.toNat, by simp [inR] at hk; omega⟩
    have hkn : kn ≤ 200 := by simp [inR] at hk; omega
    have h3 := (src_rows hs).1
    have hhigh := high_of hp
    obtain ⟨t, ht, hix, hqt⟩ := hyes
    have hvt : (pipeOk l && srcOk src && inR (kn : Int) 0 200) = true := by simp [hp, hs, hk]
    have Hvt := Lib.hid hvt
    clear hvt
    have hcall := watchTimes_any (c := c) (ca := ca) (pipeOk_iff.1 hp) hp hs h3 hhigh ht hix kn hkn W1 Hn.out Hsr.out
    rw [h3]
    have Hcall := Lib.hid hcall
    have Hq := Lib.hid hqt
    have Hsz := Lib.hid hsz
    clear hp hs hk h3 ht hix hqt hcall hq hsz
    go_enter Try.func53, Try.ntmps53
    go_wp2_with fail
    rw [← HW1.out]
    refine Hcall.out.mono ?_
    rintro e w2 ⟨wb, rfl, ⟨n1, rb, cb, gb, hb, eb, fe, w1, pre', s', hn1, hrun, hwat⟩, hb2⟩
    rw [Int.toNat_natCast, hrun] at Hq
    obtain ⟨rfl, rfl⟩ := Prod.mk.inj Hq.out.symm
    have Hb2 := Lib.hid (Hb1.out.trans (hb2.mono z1))
    have hz2 := hb2.size
    have wc := hwat.wr.bx.cell 3
    have wl := hwat.wr.bx.lt
    simp only [List.getElem?_cons_succ, List.getElem?_cons_zero] at wc
    have Hwat := Lib.hid hwat
    clear hrun hb2 Hq hwat
    go_wp2_with fail
    refine bodyPost_ret (v := .slice (some ⟨hb, 0, none⟩) 3 3) (by simp [results, Try.results53, go_sem]) rfl ?_
    exact PReachedBy.bk Hvt.out Hwat.out.wr.h (Nat.le_trans z1 (Nat.le_trans hn1 Hwat.out.b3.1)) Hb2.out

theorem implReachedBy_l {A : Option Addr} {c : Nat} (l : List Nd) {As : Option Addr} {ca : Nat} (src : List (List Int)) (k : Int) (w : World) (B : Nat) (q : List Int) (hq : Hid (MReachedBy l src k q)) (hn : RdN w B A l) (hsr : RdR w B As src) (hB : B ≤ w.heap.size) (hnl : l.length ≤ 1048576) (hns : src.length ≤ 1048576) (hm : Hid (∀ r ∈ src, r.length ≤ 1048576)) :
    Calls Try.prog 53 #[.agg #[.slice A l.length c], .slice As src.length ca, .int .i64 k] w fun e w' => ∃ A' c', e = .returned (.slice A' q.length c') ∧ OwnI w' w.heap.size w'.heap.size A' q ∧ Below w.heap.size w w' := by
  obtain ⟨pre, s, h, rfl⟩ := hq.out
  exact implReachedBy_any k pre s (Lib.hid h) w (hn.more hB) (hsr.more hB) hnl hns hm
end Go.Proofs.Ythfniffecceldaa

/- Contracts: pulls by the program: TotalPulls. -/
namespace Go.Proofs.Ythfniffecceldaa
open Go.RowKit

/-- What TotalPulls gives. -/
def QTotal (l : List Nd) (src : List (List Int)) (k : Int) (s : PS) : Int := if (pipeOk l && srcOk src && inR k 0 200) = true then s.lg.length else -1
theorem QTotal_yes {l : List Nd} {src : List (List Int)} {k : Int} {s : PS} (h : (pipeOk l && srcOk src && inR k 0 200) = true) : QTotal l src k s = s.lg.length := by unfold QTotal; rw [if_pos h]
theorem QTotal_no {l : List Nd} {src : List (List Int)} {k : Int} {s : PS} (h : (pipeOk l && srcOk src && inR k 0 200) = false) : QTotal l src k s = -1 := by unfold QTotal; rw [if_neg (by rw [h]; decide)]
def MTotal (l : List Nd) (src : List (List Int)) (k : Int) (q : Int) : Prop := ∃ pre s, OutQ l src k pre s ∧ q = QTotal l src k s
end Go.Proofs.Ythfniffecceldaa
