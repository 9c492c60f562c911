/- Texts on the program and its reference, put together (PipeV, PipeS, State, New, SrcB, TreeV, TreeD, Depth). -/
import Derived.Test.YtjhdjfobbgfpfaaMQF
import Derived.Test.YtjhdjfobbgfpfaaMQB
import Derived.Deep.RegionWith
import Derived.Lib.QuietBelow
import Derived.BigQuiet
import Derived.Deep.DeepMust
import Derived.Test.YtjhdjfobbgfpfaaMQA
import Derived.RegionTactic
import Derived.ChangeAlike
import Derived.BigRegion
import Derived.Test.YtjhdjfobbgfpfaaMQD
import Derived.Deep.QuietTactic
import Derived.WalkSpells
import Derived.WalkLawsBesides
/- Contracts: whether a pipe is valid, told by the program (marks). -/
namespace Go.Proofs.Ytjhdjfobbgfpfaa
open Go.RowKit

theorem Try.infoBool : (Try.prog.info? 4).map (fun i => (i.zero, i.size, i.bytes)) = some (some (.bool false), 1, 1) := by kernel_rfl

theorem Bk.afterDraw {w w1 : World} {g : Nat} {t : TypeId} {cs : List Value} (h : Bk w g t cs) (hb : Below w.drew.heap.size w.drew w1) : Bk w1 g t cs := (hb.block g h.lt).trans h
theorem below_placed {w w1 w2 : World} {g : Nat} (h : Below w.heap.size w w1) (k : w1.grownBy w2 (some g)) (hg : w.heap.size ≤ g) : Below w.heap.size w w2 :=
  h.grown k h.size (fun j hj => by obtain rfl := Option.some.inj hj; exact hg)
theorem nodeOk_of {x : Nd} {k : Nat} (h : (numsOk x && known x.k) = true) (h2 : kidsOk x k = true) : nodeOk x k = true := by
  simp only [Bool.and_eq_true] at h
  simp [nodeOk, h.1, h2]
theorem marks_made (w : World) (g : Nat) (o : Obj) (l : List Nd) (hg : g = (w.alloc o).heap.size) : Bk ((w.alloc o).alloc (.cells (madeCells #[.bool false] l.length) 4)) g 4 (bls (marks l 0 l.length)) := by
  subst hg
  have e : madeCells #[Value.bool false] l.length = (bls (marks l 0 l.length)).toArray := by
    rw [marks_zero]
    have : bls (List.replicate l.length false) = (madeCells #[Value.bool false] l.length).toList := by rw [toList_madeCells_one]; simp [bls]
    rw [this]
  rw [e]
  exact Bk.new _ _ _
theorem contains_succ {us : List Bool} {k : Nat} {b v : Bool} (h : us[k]? = some b) : (us.take (k + 1)).contains v = ((us.take k).contains v || (v == b)) := by
  rw [take_succ_of h]
  simp only [List.contains_eq_mem, List.mem_append, List.mem_singleton]
  cases v <;> cases b <;> simp
theorem contains_take {us : List Bool} {k n : Nat} {v : Bool} (hk : k ≤ n) (h : (us.take k).contains v = true) : (us.take n).contains v = true := by
  simp only [List.contains_eq_mem, decide_eq_true_eq] at h ⊢
  exact List.take_subset_take_left us hk h

theorem implNums_any (x : Nd) (w : World) :
    Calls Try.prog 100 #[.agg #[.int .i64 x.k, .int .i64 x.a, .int .i64 x.b, .int .i64 x.n, .int .i64 x.m]] w fun e w' => e = .returned (.bool (numsOk x && known x.k)) ∧ Below w.heap.size w w' := implNums_kind x.k x.a x.b x.n x.m w
theorem specNums_any (x : Nd) (w : World) :
    Calls Try.prog 105 #[.agg #[.int .i64 x.k, .int .i64 x.a, .int .i64 x.b, .int .i64 x.n, .int .i64 x.m]] w fun e w' => e = .returned (.bool (numsOk x)) ∧ Below w.heap.size w w' := specNums_kind x.k x.a x.b x.n x.m w

theorem implNums_q {x : Nd} {w : World} {d : Nat} {os : Array Obj} {b : Bool} (hb : Hid ((numsOk x && known x.k) = b)) :
    Calls Try.prog 100 #[.agg #[.int .i64 x.k, .int .i64 x.a, .int .i64 x.b, .int .i64 x.n, .int .i64 x.m]] (Go.Sort.grow (redrawn w d) os) fun e w'' => e = .returned (.bool b) ∧ ∃ p : Regrown, w'' = Go.Sort.grow (redrawn w p.d) p.os :=
  Calls.regrown_of ((implNums_any x _).mono fun _ _ ⟨he, h⟩ => ⟨by rw [he, hb.out], h⟩)

/-- An index at least 0 tells that v is there. -/
def IdxIs (us : List Bool) (n : Nat) (v : Bool) (e : Ending) : Prop := ∃ r : Int, e = .returned (.int .i64 r) ∧ decide (0 ≤ r) = (us.take n).contains v

set_option maxHeartbeats 400000 in
theorem index_any (g n c : Nat) (us : List Bool) (v : Bool) (w : World) (hb : Hid (Bk w g 4 (bls us))) (hn : n ≤ us.length) (hs : n ≤ 1048576) :
    Calls Try.prog 114 #[.slice (some ⟨g, 0, none⟩) n c, .bool v] w fun e w' => IdxIs us n v e ∧ w = w' := by
  go_enter Try.func114, Try.ntmps114
  go_wp2
  go_loop [8] (fun i => ∃ k : Nat, k ≤ n ∧ i = .int .i64 k ∧ (us.take k).contains v = false) (fun i => n - (intOf i).toNat)
  case atStart => exact ⟨0, Nat.zero_le _, rfl, by simp⟩
  case round =>
    obtain ⟨k, hk, rfl, hall⟩ := hrel
    have Hall := Lib.hid hall
    clear hall
    by_cases hlt : k < n
    · obtain ⟨b, hx⟩ := get_of_lt us (k := k) (by omega)
      have hc : w.cell? ⟨g, k, none⟩ = some (.bool b) := by rw [hb.out.cell, bls_get, hx]; rfl
      have Hx := Lib.hid hx
      clear hx
      have Hc := contains_succ (v := v) Hx.out
      rw [Hall.out] at Hc
      have HC := Lib.hid Hc
      clear Hc
      cases hvb : (v == b)
      · have HV := Lib.hid hvb
        go_wp2
        go_round
        case rel => exact ⟨k + 1, by omega, by go_num, by rw [HC.out, HV.out]; rfl⟩
        case measure => simp [intOf]; omega
      · have HV := Lib.hid hvb
        go_wp2
        go_ret
        exact ⟨⟨k, rfl, by rw [contains_take (k := k + 1) (by omega) (by rw [HC.out, HV.out]; rfl)]; simp⟩, rfl⟩
    · obtain rfl : k = n := by omega
      go_wp2
      go_ret
      exact ⟨⟨-1, rfl, by rw [Hall.out]; rfl⟩, rfl⟩

theorem contains_any (g n c : Nat) (us : List Bool) (v : Bool) (w : World) (hb : Hid (Bk w g 4 (bls us))) (hn : n ≤ us.length) (hs : n ≤ 1048576) :
    Calls Try.prog 102 #[.slice (some ⟨g, 0, none⟩) n c, .bool v] w fun e w' => e = .returned (.bool ((us.take n).contains v)) ∧ w = w' := by
  go_enter Try.func102, Try.ntmps102
  go_wp2_with (go_at_call 114; refine (index_any _ _ _ _ _ _ hb hn hs).mono ?_; rintro e w1 ⟨⟨r, rfl, hr⟩, rfl⟩; have Hr := Lib.hid hr; clear hr)
  go_ret
  exact ⟨ret_bool Hr.out, rfl⟩

set_option maxHeartbeats 3200000 in
theorem implValidPipe_any (A : Option Addr) (c : Nat) (l : List Nd) (w : World) (B : Nat) (h : RdN w B A l) (hB : B ≤ w.heap.size) (hn : l.length ≤ 1048576) :
    Calls Try.prog 82 #[.agg #[.slice A l.length c]] w fun e w' => e = .returned (.bool (pipeOk l)) ∧ Below w.heap.size w w' := by
  cases hr : inR l.length 1 12
  · have Hr := Lib.hid hr
    have hno : Hid (pipeOk l = false) := pipeOk_no fun hp => by rw [inR_yes (by have := hp.low; omega) (by have := hp.high; omega)] at hr; cases hr
    clear hr
    go_enter Try.func82, Try.ntmps82
    go_wp2_with (go_at_call 83; refine (within_any _ _ _ _).mono ?_; rintro e w1 ⟨rfl, rfl⟩; rw [Hr.out])
    go_ret
    exact ⟨ret_bool hno.out.symm, (Below.refl _ _).alloc (Nat.le_refl _) _⟩
  · have Hr := Lib.hid hr
    obtain ⟨hr1, hr2⟩ := inR_iff.1 hr
    clear hr
    have hmk := run_make_row' (P := Try.prog) 89 4 (.bool false) 1 Try.underlying89 Try.infoBool rfl .i64 .i64 l.length (by omega) (by omega)
    go_enter Try.func82, Try.ntmps82
    go_wp2_with (go_at_call 83; refine (within_any _ _ _ _).mono ?_; rintro e w1 ⟨rfl, rfl⟩; rw [Hr.out])
    clear hmk
    go_loopw [18] (fun i wr => ∃ k : Nat, k ≤ l.length ∧ i = .int .i64 k ∧ Good l k ∧ Single l k ∧ Bk wr (w.heap.size + 1) 4 (bls (marks l k l.length)) ∧ Below w.heap.size w wr) (fun i _ => l.length - (intOf i).toNat)
    case atStart => exact ⟨0, Nat.zero_le _, rfl, Good.zero _, Single.zero _, marks_made _ _ _ _ (by simp), ((Below.refl _ _).alloc (Nat.le_refl _) _).alloc (by simp) _⟩
    case round =>
      obtain ⟨k, hk, rfl, hgood, hsing, hbk, hbl⟩ := hrel
      by_cases hlt : k < l.length
      · obtain ⟨b, o, x, rfl, hbB, hx, hc⟩ := (h.below hbl hB).at_ hlt
        obtain ⟨c0, c1, c2, c3, c4⟩ := hc
        have Hgood := Lib.hid hgood
        have Hsing := Lib.hid hsing
        have Hbk := Lib.hid hbk
        have Hbl := Lib.hid hbl
        have Hx := Lib.hid hx
        clear hgood hsing hbk hbl hx h
        have hgw : w.heap.size + 1 < wr.heap.size := Hbk.out.lt
        have hsz := Hbl.out.size
        have hal := Hbl.out.alloc hsz (.cells #[.int .i64 x.k, .int .i64 x.a, .int .i64 x.b, .int .i64 x.n, .int .i64 x.m] 104)
        have hbk0 := Hbk.out.alloc (.cells #[.int .i64 x.k, .int .i64 x.a, .int .i64 x.b, .int .i64 x.n, .int .i64 x.m] 104)
        have Hal := Lib.hid hal
        have Hbk0 := Lib.hid hbk0
        have hk20 : k ≤ 1048576 := by omega
        have hku : k ≤ (marks l k l.length).length := by rw [marks_len]; exact hk
        have Hku := Lib.hid hku
        clear hal hbk0 hku
        cases hnk : (numsOk x && known x.k)
        · have Hnk := Lib.hid hnk
          clear hnk
          go_wp2
          have q0 := cell_regrown (w := wr.alloc (.cells #[.int .i64 x.k, .int .i64 x.a, .int .i64 x.b, .int .i64 x.n, .int .i64 x.m] 104)) (a := ⟨wr.heap.size, 0, none⟩) (v := .int .i64 x.k) (by simp [go_sem])
          have q1 := cell_regrown (w := wr.alloc (.cells #[.int .i64 x.k, .int .i64 x.a, .int .i64 x.b, .int .i64 x.n, .int .i64 x.m] 104)) (a := ⟨wr.heap.size, 1, none⟩) (v := .int .i64 x.a) (by simp [go_sem])
          have q2 := cell_regrown (w := wr.alloc (.cells #[.int .i64 x.k, .int .i64 x.a, .int .i64 x.b, .int .i64 x.n, .int .i64 x.m] 104)) (a := ⟨wr.heap.size, 2, none⟩) (v := .int .i64 x.b) (by simp [go_sem])
          have q3 := cell_regrown (w := wr.alloc (.cells #[.int .i64 x.k, .int .i64 x.a, .int .i64 x.b, .int .i64 x.n, .int .i64 x.m] 104)) (a := ⟨wr.heap.size, 3, none⟩) (v := .int .i64 x.n) (by simp [go_sem])
          have q4 := cell_regrown (w := wr.alloc (.cells #[.int .i64 x.k, .int .i64 x.a, .int .i64 x.b, .int .i64 x.n, .int .i64 x.m] 104)) (a := ⟨wr.heap.size, 4, none⟩) (v := .int .i64 x.m) (by simp [go_sem])
          refine wp_region_quiet_below (by kernel_rfl) (by kernel_rfl) ?_
          repeat (quiet_step ((go_at_call 100; go_must (exact implNums_q Hnk))))
          refine wpQuiet_nil ?_
          intro wq hwq
          obtain ⟨p, hwq⟩ := hwq
          have Hb : Hid (Below (wr.alloc (.cells #[.int .i64 x.k, .int .i64 x.a, .int .i64 x.b, .int .i64 x.n, .int .i64 x.m] 104)).heap.size (wr.alloc (.cells #[.int .i64 x.k, .int .i64 x.a, .int .i64 x.b, .int .i64 x.n, .int .i64 x.m] 104)) wq) := by
            rw [hwq]; exact below_regrown _ _ _
          clear hwq q0 q1 q2 q3 q4
          go_wp2
          go_ret
          exact ⟨ret_bool (pipeOk_no (nums_no Hx.out Hnk.out)).symm, Hal.out.trans (Hb.out.mono Hal.out.size)⟩
        · have Hnk := Lib.hid hnk
          clear hnk
          cases hpl : placesOk x (marks l k l.length) k
          · have Hpl := Lib.hid hpl
            clear hpl
            go_wp2
            go_region_with (first | (go_at_call 100; go_must (refine (implNums_any x _).mono ?_; rintro e w1 ⟨rfl, hb⟩; rw [Hnk.out]; have d0 := (hb.cell (p := ⟨wr.heap.size, 0, none⟩) (by simp)).trans (by simp [go_sem] : _ = some (Value.int .i64 x.k)); have d1 := (hb.cell (p := ⟨wr.heap.size, 1, none⟩) (by simp)).trans (by simp [go_sem] : _ = some (Value.int .i64 x.a)); have d2 := (hb.cell (p := ⟨wr.heap.size, 2, none⟩) (by simp)).trans (by simp [go_sem] : _ = some (Value.int .i64 x.b)); have d3 := (hb.cell (p := ⟨wr.heap.size, 3, none⟩) (by simp)).trans (by simp [go_sem] : _ = some (Value.int .i64 x.n)); have d4 := (hb.cell (p := ⟨wr.heap.size, 4, none⟩) (by simp)).trans (by simp [go_sem] : _ = some (Value.int .i64 x.m)); have HBk1 := Lib.hid (Hbk0.out.afterDraw hb); have Hb := Lib.hid hb; clear hb)) | (go_at_call 101; go_must (refine (places_any x.k x.a x.b x.n x.m _ k _ (marks l k l.length) _ hk20 Hku.out HBk1.out).mono ?_; rintro e w2 ⟨rfl, hpp⟩; rw [Hpl.out]; rw [Hpl.out] at hpp; have Hpp := Lib.hid hpp; clear hpp)))
            all_goals
              go_wp2
              go_ret
              exact ⟨ret_bool (pipeOk_no (place_no Hx.out Hpl.out)).symm, below_placed (below_step Hal.out Hb.out) Hpp.out.1 (Nat.le_succ _)⟩
          · have Hpl := Lib.hid hpl
            clear hpl
            go_wp2
            go_region_with (first | (go_at_call 100; go_must (refine (implNums_any x _).mono ?_; rintro e w1 ⟨rfl, hb⟩; rw [Hnk.out]; have d0 := (hb.cell (p := ⟨wr.heap.size, 0, none⟩) (by simp)).trans (by simp [go_sem] : _ = some (Value.int .i64 x.k)); have d1 := (hb.cell (p := ⟨wr.heap.size, 1, none⟩) (by simp)).trans (by simp [go_sem] : _ = some (Value.int .i64 x.a)); have d2 := (hb.cell (p := ⟨wr.heap.size, 2, none⟩) (by simp)).trans (by simp [go_sem] : _ = some (Value.int .i64 x.b)); have d3 := (hb.cell (p := ⟨wr.heap.size, 3, none⟩) (by simp)).trans (by simp [go_sem] : _ = some (Value.int .i64 x.n)); have d4 := (hb.cell (p := ⟨wr.heap.size, 4, none⟩) (by simp)).trans (by simp [go_sem] : _ = some (Value.int .i64 x.m)); have HBk1 := Lib.hid (Hbk0.out.afterDraw hb); have Hb := Lib.hid hb; clear hb)) | (go_at_call 101; go_must (refine (places_any x.k x.a x.b x.n x.m _ k _ (marks l k l.length) _ hk20 Hku.out HBk1.out).mono ?_; rintro e w2 ⟨rfl, hpp⟩; rw [Hpl.out]; rw [Hpl.out] at hpp; have Hpp := Lib.hid hpp; clear hpp)))
            all_goals
              go_wp2
              go_roundw
              case rel => exact ⟨k + 1, by omega, by go_num, Hgood.out.succ Hx.out (nodeOk_of Hnk.out (place_yes Hx.out Hsing.out Hpl.out).1), (place_yes Hx.out Hsing.out Hpl.out).2.2, by rw [← (place_yes Hx.out Hsing.out Hpl.out).2.1]; exact Hpp.out.2 rfl, below_placed (below_step Hal.out Hb.out) Hpp.out.1 (Nat.le_succ _)⟩
              case measure => simp [intOf]; omega
      · obtain rfl : k = l.length := by omega
        have Hfin := Lib.hid (marks_end hgood hsing (by omega) (by omega))
        have Hbk := Lib.hid hbk
        have Hbl := Lib.hid hbl
        have hml : l.length - 1 ≤ (marks l l.length l.length).length := by rw [marks_len]; omega
        have Hml := Lib.hid hml
        clear hgood hsing hbk hbl h hml
        go_wp2_with fail
        have e1 : (((l.length : Nat) : Int) - 1).toNat = l.length - 1 := by omega
        try rw [e1]
        refine (contains_any _ (l.length - 1) _ (marks l l.length l.length) false _ Hbk Hml.out (by omega)).mono ?_
        rintro e w1 ⟨rfl, rfl⟩
        have Hc : Hid ((!((marks l l.length l.length).take (l.length - 1)).contains false) = pipeOk l) := Hfin.out.symm
        clear e1
        go_wp2_with fail
        go_ret
        exact ⟨ret_bool (by simpa using Hc.out), Hbl.out⟩

end Go.Proofs.Ytjhdjfobbgfpfaa

/- Contracts: whether a pipe is valid, told by the reference (counts). -/
namespace Go.Proofs.Ytjhdjfobbgfpfaa
open Go.RowKit

theorem Try.infoInt2 : (Try.prog.info? 3).map (fun i => (i.zero, i.size, i.bytes)) = some (some (.int .i64 0), 1, 8) := by kernel_rfl

theorem counts_made (w : World) (g : Nat) (o : Obj) (l : List Nd) (hg : g = (w.alloc o).heap.size) : Bk ((w.alloc o).alloc (.cells (madeCells #[.int .i64 0] l.length) 3)) g 3 (ints (counts l 0 l.length)) := by
  subst hg
  have e : madeCells #[Value.int .i64 0] l.length = (ints (counts l 0 l.length)).toArray := by
    rw [counts_zero]
    have : ints (List.replicate l.length 0) = (madeCells #[Value.int .i64 0] l.length).toList := by rw [toList_madeCells_one]; simp [ints]
    rw [this]
  rw [e]
  exact Bk.new _ _ _

theorem useOf_le (l : List Nd) (j : Int) : useOf l j ≤ 2 * l.length := by
  induction l with
  | nil => simp [useOf]
  | cons x l ih =>
    have h1 := one_le (x.a == j)
    have h2 := one_le (x.b == j)
    simp only [useOf, List.length_cons]
    omega
theorem counts_one {l : List Nd} {k n : Nat} {x : Nd} (hx : l[k]? = some x) {j : Nat} (ha : x.a = (j : Int)) (hb : x.b = -1) : (counts l k n).set j ((useOf (l.take k) (j : Int) : Nat) + 1) = counts l (k + 1) n := by
  apply List.ext_getElem?
  intro i
  by_cases hi : i < n
  · rw [counts_get _ _ hi, useOf_succ hx, ha, hb, one_ne (i := -1) (by omega)]
    by_cases hij : i = j
    · subst hij
      rw [List.getElem?_set_self (by rw [counts_len]; exact hi), one_eq]
      simp
    · rw [List.getElem?_set_ne (by omega), counts_get _ _ hi, one_ne (by omega)]
      simp
  · rw [List.getElem?_eq_none (by rw [List.length_set, counts_len]; omega), List.getElem?_eq_none (by rw [counts_len]; omega)]
theorem counts_two {l : List Nd} {k n : Nat} {x : Nd} (hx : l[k]? = some x) {j j2 : Nat} (ha : x.a = (j : Int)) (hb : x.b = (j2 : Int)) (hne : j ≠ j2) :
    ((counts l k n).set j ((useOf (l.take k) (j : Int) : Nat) + 1)).set j2 ((useOf (l.take k) (j2 : Int) : Nat) + 1) = counts l (k + 1) n := by
  apply List.ext_getElem?
  intro i
  by_cases hi : i < n
  · rw [counts_get _ _ hi, useOf_succ hx, ha, hb]
    by_cases hij2 : i = j2
    · subst hij2
      rw [List.getElem?_set_self (by rw [List.length_set, counts_len]; exact hi), one_eq, one_ne (by omega)]
      simp
    · rw [List.getElem?_set_ne (by omega), one_ne (i := (j2 : Int)) (by omega)]
      by_cases hij : i = j
      · subst hij
        rw [List.getElem?_set_self (by rw [counts_len]; exact hi), one_eq]
        simp
      · rw [List.getElem?_set_ne (by omega), counts_get _ _ hi, one_ne (by omega)]
        simp
  · rw [List.getElem?_eq_none (by rw [List.length_set, List.length_set, counts_len]; omega), List.getElem?_eq_none (by rw [counts_len]; omega)]
theorem counts_none {l : List Nd} {k n : Nat} {x : Nd} (hx : l[k]? = some x) (ha : x.a = -1) (hb : x.b = -1) : counts l k n = counts l (k + 1) n := by
  apply List.ext_getElem?
  intro i
  by_cases hi : i < n
  · rw [counts_get _ _ hi, counts_get _ _ hi, useOf_succ hx, ha, hb, one_ne (i := -1) (by omega)]
    simp
  · rw [List.getElem?_eq_none (by rw [counts_len]; omega), List.getElem?_eq_none (by rw [counts_len]; omega)]

theorem ints_set (l : List Int) (k : Nat) (v : Int) : (ints l).set k (.int .i64 v) = ints (l.set k v) := by simp [ints, List.map_set]
theorem counts_step1 {w : World} {g k n j u : Nat} {t : TypeId} {l : List Nd} {x : Nd} (h : Bk w g t (ints (counts l k n))) (hx : l[k]? = some x) (ha : x.a = (j : Int)) (hb : x.b = -1) (hu : u = useOf (l.take k) (j : Int)) :
    Bk (w.setCell ⟨g, j, none⟩ (.int .i64 ((u : Int) + 1))) g t (ints (counts l (k + 1) n)) := by
  rw [← counts_one hx ha hb, ← ints_set, ← hu]
  exact h.set_ _ _
theorem counts_step2 {w : World} {g k n j j2 u v : Nat} {t : TypeId} {l : List Nd} {x : Nd} (h : Bk w g t (ints (counts l k n))) (hx : l[k]? = some x) (ha : x.a = (j : Int)) (hb : x.b = (j2 : Int)) (hne : j ≠ j2) (hu : u = useOf (l.take k) (j : Int)) (hv : v = useOf (l.take k) (j2 : Int)) :
    Bk ((w.setCell ⟨g, j, none⟩ (.int .i64 ((u : Int) + 1))).setCell ⟨g, j2, none⟩ (.int .i64 ((v : Int) + 1))) g t (ints (counts l (k + 1) n)) := by
  rw [← counts_two hx ha hb hne, ← ints_set, ← ints_set, ← hu, ← hv]
  exact (h.set_ _ _).set_ _ _

/-- A node lies in block b. -/
structure Nd5 (w : World) (b : Nat) (x : Nd) : Prop where
  c0 : w.cell? ⟨b, 0, none⟩ = some (.int .i64 x.k)
  c1 : w.cell? ⟨b, 1, none⟩ = some (.int .i64 x.a)
  c2 : w.cell? ⟨b, 2, none⟩ = some (.int .i64 x.b)
  c3 : w.cell? ⟨b, 3, none⟩ = some (.int .i64 x.n)
  c4 : w.cell? ⟨b, 4, none⟩ = some (.int .i64 x.m)
theorem Nd5.new (w : World) (x : Nd) (t : TypeId) : Nd5 (w.alloc (.cells #[.int .i64 x.k, .int .i64 x.a, .int .i64 x.b, .int .i64 x.n, .int .i64 x.m] t)) w.heap.size x :=
  ⟨by simp [go_sem], by simp [go_sem], by simp [go_sem], by simp [go_sem], by simp [go_sem]⟩
theorem Nd5.below {w w' : World} {b C : Nat} {x : Nd} (h : Nd5 w b x) (hb : Below C w w') (hC : b < C) : Nd5 w' b x :=
  ⟨(hb.cell (p := ⟨b, 0, none⟩) hC).trans h.c0, (hb.cell (p := ⟨b, 1, none⟩) hC).trans h.c1, (hb.cell (p := ⟨b, 2, none⟩) hC).trans h.c2, (hb.cell (p := ⟨b, 3, none⟩) hC).trans h.c3, (hb.cell (p := ⟨b, 4, none⟩) hC).trans h.c4⟩

/-- The nodes below a node that can stand at the place k. -/
theorem kids_form {x : Nd} {k : Nat} (h : kidsOk x k = true) : (x.a = -1 ∧ x.b = -1) ∨ (∃ j : Nat, x.a = (j : Int) ∧ j < k ∧ x.b = -1) ∨ ∃ j j2 : Nat, x.a = (j : Int) ∧ j < k ∧ x.b = (j2 : Int) ∧ j2 < k ∧ j ≠ j2 := by
  rcases arity_cases x.k with e | e | e | e
  · simp [kidsOk, e] at h
    exact .inl h
  · simp [kidsOk, e] at h
    obtain ⟨j, hj, hjk⟩ := inR_toNat h.1
    exact .inr (.inl ⟨j, hj, hjk, h.2⟩)
  · simp [kidsOk, e] at h
    obtain ⟨⟨h1, h2⟩, h3⟩ := h
    obtain ⟨j, hj, hjk⟩ := inR_toNat h1
    obtain ⟨j2, hj2, hjk2⟩ := inR_toNat h2
    exact .inr (.inr ⟨j, j2, hj, hjk, hj2, hjk2, by rintro rfl; exact h3 (hj.trans hj2.symm)⟩)
  · simp [kidsOk, e] at h
theorem node_no {l : List Nd} {k : Nat} {x : Nd} (hx : l[k]? = some x) (h : numsOk x = false ∨ kidsOk x k = false) : ¬ PipeOk l := fun hp => by
  have hn := hp.node k x hx
  simp only [nodeOk, Bool.and_eq_true] at hn
  rcases h with h | h
  · rw [hn.1] at h; cases h
  · rw [hn.2] at h; cases h

theorem uses_succ {l : List Nd} {k : Nat} (h : ∀ i : Nat, i < k → useOf l (i : Int) = 1) (h2 : useOf l (k : Int) = 1) : ∀ i : Nat, i < k + 1 → useOf l (i : Int) = 1 := fun i hi => by
  by_cases e : i = k
  · subst e; exact h2
  · exact h i (by omega)
theorem valid_end {l : List Nd} (hg : Good l l.length) (hu : ∀ i : Nat, i + 1 < l.length → useOf l (i : Int) = 1) : pipeOk l = inR l.length 1 12 := by
  rw [Bool.eq_iff_iff, pipeOk_iff, inR_iff]
  exact ⟨fun hp => ⟨by have := hp.low; omega, by have := hp.high; omega⟩, fun ⟨h1, h2⟩ => ⟨fun i x hx => hg i x (List.getElem?_eq_some_iff.1 hx).1 hx, hu, by omega, by omega⟩⟩

set_option maxHeartbeats 3200000 in
theorem specvalidPipe_any (A : Option Addr) (c : Nat) (l : List Nd) (w : World) (B : Nat) (h : RdN w B A l) (hB : B ≤ w.heap.size) (hn : l.length ≤ 1048576) :
    Calls Try.prog 89 #[.agg #[.slice A l.length c]] w fun e w' => e = .returned (.bool (pipeOk l)) ∧ Below w.heap.size w w' := by
  have hmk := run_make_row' (P := Try.prog) 28 3 (.int .i64 0) 8 Try.underlying28 Try.infoInt2 rfl .i64 .i64 l.length (by omega) (by omega)
  go_enter Try.func89, Try.ntmps89
  go_wp2
  clear hmk
  go_loopw [4] (fun i wr => ∃ k : Nat, k ≤ l.length ∧ i = .int .i64 k ∧ Good l k ∧ Bk wr (w.heap.size + 1) 3 (ints (counts l k l.length)) ∧ Bk wr w.heap.size 32 [.slice A l.length c] ∧ Below w.heap.size w wr) (fun i _ => l.length - (intOf i).toNat)
  case atStart => exact ⟨0, Nat.zero_le _, rfl, Good.zero _, counts_made _ _ _ _ (by simp), (Bk.new w 32 [.slice A l.length c]).alloc _, ((Below.refl _ _).alloc (Nat.le_refl _) _).alloc (by simp) _⟩
  case round =>
    obtain ⟨k, hk, rfl, hgood, hbk, hbox, hbl⟩ := hrel
    have hcb : wr.cell? ⟨w.heap.size, 0, none⟩ = some (.slice A l.length c) := hbox.cell 0
    by_cases hlt : k < l.length
    · obtain ⟨b, o, x, rfl, hbB, hx, hc⟩ := (h.below hbl hB).at_ hlt
      obtain ⟨c0, c1, c2, c3, c4⟩ := hc
      have Hgood := Lib.hid hgood
      have Hbk := Lib.hid hbk
      have Hbox := Lib.hid hbox
      have Hbl := Lib.hid hbl
      have Hx := Lib.hid hx
      clear hgood hbk hbl hx h hbox
      have hgw : w.heap.size + 1 < wr.heap.size := Hbk.out.lt
      have hsz := Hbl.out.size
      have hal := Hbl.out.alloc hsz (.cells #[.int .i64 x.k, .int .i64 x.a, .int .i64 x.b, .int .i64 x.n, .int .i64 x.m] 104)
      have hbk0 := Hbk.out.alloc (.cells #[.int .i64 x.k, .int .i64 x.a, .int .i64 x.b, .int .i64 x.n, .int .i64 x.m] 104)
      have hbx0 := Hbox.out.alloc (.cells #[.int .i64 x.k, .int .i64 x.a, .int .i64 x.b, .int .i64 x.n, .int .i64 x.m] 104)
      have hnd0 := Nd5.new wr x 104
      have Hal := Lib.hid hal
      have Hbk0 := Lib.hid hbk0
      have Hbx0 := Lib.hid hbx0
      have Hnd0 := Lib.hid hnd0
      have hk20 : k ≤ 1048576 := by omega
      clear hal hbk0 hbx0 hnd0
      go_wp2_with fail
      refine (specNums_any x _).mono ?_
      rintro e w1 ⟨rfl, hb1⟩
      have hlt1 : wr.heap.size < w1.heap.size := by have := hb1.size; simp at this; omega
      have Hal1 := Lib.hid (Hal.out.trans (hb1.mono Hal.out.size))
      have Hbk1 := Lib.hid (Hbk0.out.below hb1 Hbk0.out.lt)
      have Hbx1 := Lib.hid (Hbx0.out.below hb1 Hbx0.out.lt)
      have Hnd1 := Lib.hid (Hnd0.out.below hb1 (by simp))
      clear hb1 hcb c0 c1 c2 c3 c4
      cases hnm : numsOk x
      · have Hnm := Lib.hid hnm
        clear hnm
        go_wp2_with fail
        go_ret
        exact ⟨ret_bool (pipeOk_no (node_no Hx.out (.inl Hnm.out))).symm, Hal1.out⟩
      · have Hnm := Lib.hid hnm
        clear hnm
        obtain ⟨d0, d1, d2, d3, d4⟩ := Hnd1.out
        go_wp2_with fail
        refine (specKids_any x k _ hk20).mono ?_
        rintro e w2 ⟨rfl, hb2⟩
        have hlt2 : wr.heap.size < w2.heap.size := Nat.lt_of_lt_of_le hlt1 hb2.size
        have Hal2 := Lib.hid (Hal1.out.trans (hb2.mono Hal1.out.size))
        have Hbk2 := Lib.hid (Hbk1.out.below hb2 Hbk1.out.lt)
        have Hbx2 := Lib.hid (Hbx1.out.below hb2 Hbx1.out.lt)
        have Hnd2 := Lib.hid (Hnd1.out.below hb2 hlt1)
        clear hb2 d0 d1 d2 d3 d4
        cases hkd : kidsOk x k
        · have Hkd := Lib.hid hkd
          clear hkd
          go_wp2_with fail
          go_ret
          exact ⟨ret_bool (pipeOk_no (node_no Hx.out (.inr Hkd.out))).symm, Hal2.out⟩
        · have Hgood2 := Lib.hid (Hgood.out.succ Hx.out (by rw [nodeOk, Hnm.out, hkd]; rfl))
          obtain ⟨d0, d1, d2, d3, d4⟩ := Hnd2.out
          rcases kids_form hkd with ⟨ha, hb⟩ | ⟨j, ha, hj, hb⟩ | ⟨j, j2, ha, hj, hb, hj2, hne⟩
          · rw [ha] at d1
            rw [hb] at d2
            have Ha := Lib.hid ha
            have Hb := Lib.hid hb
            clear ha hb hkd
            go_wp2
            go_roundw
            case rel => exact ⟨k + 1, by omega, by go_num, Hgood2.out, by rw [← counts_none Hx.out Ha.out Hb.out]; exact Hbk2.out, Hbx2.out, Hal2.out⟩
            case measure => simp [intOf]; omega
          · rw [ha] at d1
            rw [hb] at d2
            have Ha := Lib.hid ha
            have Hb := Lib.hid hb
            obtain ⟨u, hu⟩ : ∃ u : Nat, u = useOf (l.take k) (j : Int) := ⟨_, rfl⟩
            have hu2 : u ≤ 2097152 := by rw [hu]; have := useOf_le (l.take k) (j : Int); simp at this; omega
            have e0 : w2.cell? ⟨w.heap.size + 1, j, none⟩ = some (.int .i64 (u : Int)) := by rw [Hbk2.out.cell, ints_get, counts_get _ _ (by omega), hu]; rfl
            have f0 := Hbk2.out.free j
            have Hu := Lib.hid hu
            clear ha hb hkd hu
            go_wp2
            go_region
            all_goals
              go_wp2
              go_roundw
              case rel => exact ⟨k + 1, by omega, by go_num, Hgood2.out, counts_step1 Hbk2.out Hx.out Ha.out Hb.out Hu.out, Hbx2.out.far (p := ⟨w.heap.size + 1, j, none⟩) (Nat.ne_of_lt (Nat.lt_succ_self _)) _, (Hal2.out.setCell (p := ⟨w.heap.size + 1, j, none⟩) (Nat.le_succ _) _).drew⟩
              case measure => simp [intOf]; omega
          · rw [ha] at d1
            rw [hb] at d2
            have Ha := Lib.hid ha
            have Hb := Lib.hid hb
            obtain ⟨u, hu⟩ : ∃ u : Nat, u = useOf (l.take k) (j : Int) := ⟨_, rfl⟩
            obtain ⟨v, hv⟩ : ∃ v : Nat, v = useOf (l.take k) (j2 : Int) := ⟨_, rfl⟩
            have hu2 : u ≤ 2097152 := by rw [hu]; have := useOf_le (l.take k) (j : Int); simp at this; omega
            have hv2 : v ≤ 2097152 := by rw [hv]; have := useOf_le (l.take k) (j2 : Int); simp at this; omega
            have e0 : w2.cell? ⟨w.heap.size + 1, j, none⟩ = some (.int .i64 (u : Int)) := by rw [Hbk2.out.cell, ints_get, counts_get _ _ (by omega), hu]; rfl
            have e1 : w2.cell? ⟨w.heap.size + 1, j2, none⟩ = some (.int .i64 (v : Int)) := by rw [Hbk2.out.cell, ints_get, counts_get _ _ (by omega), hv]; rfl
            have f0 := Hbk2.out.free j
            have f1 := Hbk2.out.free j2
            have Hu := Lib.hid hu
            have Hv := Lib.hid hv
            have Hne : Hid (j ≠ j2) := hne
            have hne2 : j2 ≠ j := fun e => hne e.symm
            clear ha hb hkd hu hv
            go_wp2
            go_region
            all_goals
              go_wp2
              go_region
            all_goals
              go_wp2
              go_roundw
              case rel => exact ⟨k + 1, by omega, by go_num, Hgood2.out, counts_step2 Hbk2.out Hx.out Ha.out Hb.out Hne.out Hu.out Hv.out, (Hbx2.out.far (p := ⟨w.heap.size + 1, j, none⟩) (Nat.ne_of_lt (Nat.lt_succ_self _)) _).far (p := ⟨w.heap.size + 1, j2, none⟩) (Nat.ne_of_lt (Nat.lt_succ_self _)) _, ((Hal2.out.setCell (p := ⟨w.heap.size + 1, j, none⟩) (Nat.le_succ _) _).setCell (p := ⟨w.heap.size + 1, j2, none⟩) (Nat.le_succ _) _).drew.drew⟩
              case measure => simp [intOf]; omega
    · obtain rfl : k = l.length := by omega
      have Hgood := Lib.hid hgood
      have Hbk := Lib.hid hbk
      have Hbl := Lib.hid hbl
      clear hgood hbk hbl h
      go_wp2
      go_loop [6] (fun i => ∃ k : Nat, k ≤ l.length ∧ i = .int .i64 k ∧ ∀ i : Nat, i < k → useOf l (i : Int) = 1) (fun i => l.length - (intOf i).toNat)
      case atStart => exact ⟨0, Nat.zero_le _, rfl, fun i hi => absurd hi (by omega)⟩
      case round =>
        obtain ⟨k, hk2, rfl, hone⟩ := hrel
        have Hone := Lib.hid hone
        clear hone
        by_cases hlt2 : k + 1 < l.length
        · obtain ⟨u, hu⟩ : ∃ u : Nat, u = useOf l (k : Int) := ⟨_, rfl⟩
          have e0 : wr.cell? ⟨w.heap.size + 1, k, none⟩ = some (.int .i64 (u : Int)) := by rw [Hbk.out.cell, ints_get, counts_get _ _ (by omega), List.take_length, hu]; rfl
          have Hu := Lib.hid hu
          clear hu
          by_cases hu1 : u = 1
          · have hub : ((u : Int) != 1) = false := by simp [hu1]
            have Hu1 := Lib.hid hu1
            clear hu1
            go_wp2
            go_round
            case rel => exact ⟨k + 1, by omega, by go_num, uses_succ Hone.out (Hu.out.symm.trans Hu1.out)⟩
            case measure => simp [intOf]; omega
          · have hub : ((u : Int) != 1) = true := by simp; omega
            have Hu1 : Hid (¬ u = 1) := hu1
            clear hu1
            go_wp2
            go_ret
            exact ⟨ret_bool (pipeOk_no fun hp => Hu1.out (Hu.out.trans (hp.uses k hlt2))).symm, Hbl.out⟩
        · have Hend := Lib.hid (valid_end Hgood.out (fun i hi => Hone.out i (by omega)))
          go_wp2_with (go_at_call 78; refine (specInR_any _ _ _ _).mono ?_; rintro e w1 ⟨rfl, rfl⟩)
          go_ret
          exact ⟨ret_bool Hend.out.symm, Hbl.out⟩

end Go.Proofs.Ytjhdjfobbgfpfaa

/- Contracts of the functions on states (a box of a slice of cells), and of those that make new ones. -/
namespace Go.Proofs.Ytjhdjfobbgfpfaa
open Go.RowKit

set_option maxHeartbeats 800000 in
theorem eqState_any (A1 A2 : Option Addr) (c1 c2 : Nat) (l1 l2 : List Cl) (w : World) (B : Nat) (h1 : RdCl w B A1 l1) (h2 : RdCl w B A2 l2) (hB : B ≤ w.heap.size) (n1 : l1.length ≤ 1048576) :
    Calls Try.prog 29 #[.agg #[.slice A1 l1.length c1], .agg #[.slice A2 l2.length c2]] w fun e w' => e = .returned (.bool (decide (l1 = l2))) ∧ Below w.heap.size w w' := by
  have hB0 := ((Below.refl w.heap.size w).alloc (Nat.le_refl _) (.cells #[.slice A1 l1.length c1] 43)).alloc (by simp) (.cells #[.slice A2 l2.length c2] 43)
  cases hd : decide (l1 = l2)
  all_goals
    have Hd := Lib.hid hd
    have Hh1 := Lib.hid h1
    have Hh2 := Lib.hid h2
    have HB0 := Lib.hid hB0
    clear hd h1 h2 hB0
    go_enter Try.func29, Try.ntmps29
    go_wp2_with fail
    refine (eqCellS_any _ _ _ _ _ _ _ B (Hh1.out.below HB0.out hB) (Hh2.out.below HB0.out hB) (by simp; omega) n1).mono ?_
    rintro e w1 ⟨rfl, hb⟩
    rw [Hd.out]
    have Hb := Lib.hid hb
    clear hb
    go_wp2_with fail
    go_ret
    exact ⟨rfl, HB0.out.trans (Hb.out.mono (by simp; omega))⟩

set_option maxHeartbeats 800000 in
theorem heldState_any (A : Option Addr) (c n : Nat) (k : Int) (w : World) (B : Nat) (h : RdCl w B A (mkCl n k)) (hB : B ≤ w.heap.size) (hn : n ≤ 1048576) (hk0 : 0 ≤ k) (hk1 : k ≤ 16777216) :
    Calls Try.prog 31 #[.agg #[.slice A n c], .int .i64 k] w fun e w' => e = .returned (.int .i64 (k + 6 * n)) ∧ Below w.heap.size w w' := by
  have hb0 := (Below.refl w.heap.size w).alloc (Nat.le_refl _) (.cells #[.slice A n c] 43)
  have Hh := Lib.hid (h.below hb0 hB)
  have Hb0 := Lib.hid hb0
  have hpos : (0 : Int) ≤ k + 6 * n := by omega
  clear h hb0
  go_enter Try.func31, Try.ntmps31
  go_wp2_with fail
  refine (heldCellS_any A c n k _ B Hh.out hn hk0 hk1).mono ?_
  rintro e w1 ⟨rfl, rfl⟩
  go_wp2_with fail
  go_ret
  exact ⟨rfl, Hb0.out⟩

set_option maxHeartbeats 800000 in
theorem markState_h {lo hi : Nat} {A : Option Addr} {c : Nat} {l : List Cl} {w : World} (k : Int) (h : OwnCl w lo hi A l) (hn : l.length ≤ 1048576) (hk0 : 0 ≤ k) (hk1 : k ≤ 16777216) (hhi : hi ≤ w.heap.size) :
    Calls Try.prog 30 #[.agg #[.slice A l.length c], .int .i64 k] w fun e w' => e = .returned (.int .i64 (k + 6 * l.length)) ∧ OwnCl w' lo hi A (mkCl l.length k) ∧ Chg lo hi w w' := by
  have hb0 := (Below.refl w.heap.size w).alloc (Nat.le_refl _) (.cells #[.slice A l.length c] 43)
  have Hh : Hid (OwnCl (w.alloc (.cells #[.slice A l.length c] 43)) lo hi A l) := Lib.hid (h.agree fun b h1 h2 => hb0.block b (by omega))
  have Hb0 := Lib.hid hb0
  clear h hb0
  go_enter Try.func30, Try.ntmps30
  go_wp2_with fail
  refine (markCellS_h k Hh.out hn hk0 hk1).mono ?_
  rintro e w1 ⟨rfl, ho, hc⟩
  have Ho := Lib.hid ho
  have Hc := Lib.hid hc
  clear ho hc
  go_wp2_with fail
  go_ret
  exact ⟨rfl, Ho.out, (Chg.of_below Hb0.out).trans Hc.out⟩

end Go.Proofs.Ytjhdjfobbgfpfaa

/- Contracts: the state of a pipe before the first pull, told by the reference and by the program. -/
namespace Go.Proofs.Ytjhdjfobbgfpfaa
open Go.RowKit

/-- A new state. -/
structure NewOf (l : List Nd) (q : List Cl) : Prop where
  no : pipeOk l = false → q = []
  yes : pipeOk l = true → q = List.replicate l.length zeroCl
theorem Bk.newCl {w : World} {g n lo hi : Nat} (h : Bk w g 79 (madeCl n)) (h1 : lo ≤ g) (h2 : g < hi) : OwnCl w lo hi (some ⟨g, 0, none⟩) (List.replicate n zeroCl) := fun _ =>
  ⟨g, 0, madeCl n, rfl, h1, h2, h, fun k x hx => by
    have hk : k < n := by have := (List.getElem?_eq_some_iff.1 hx).1; simpa using this
    rw [List.getElem?_replicate, if_pos hk] at hx
    rw [← Option.some.inj hx, Nat.zero_add]
    exact madeCl_in n k hk⟩

set_option maxHeartbeats 1600000 in
theorem specnewState_any (A : Option Addr) (c n : Nat) (w : World) (hn : n ≤ 1048576) :
    Calls Try.prog 79 #[.agg #[.slice A n c]] w fun e w' => e = .returned (.agg #[.slice (some ⟨w.heap.size + 2, 0, none⟩) n n]) ∧ Bk w' (w.heap.size + 2) 79 (madeCl n) ∧ Below w.heap.size w w' := by
  have hmk := run_makeCl (P := Try.prog) 41 79 Try.underlying41 Try.infoCl n hn
  go_enter Try.func79, Try.ntmps79
  go_wp2
  refine bodyPost_ret (v := .agg #[.slice (some ⟨w.heap.size + 2, 0, none⟩) n n]) (by simp [results, Try.results79, go_sem]) rfl ⟨rfl, ?_, ?_⟩
  · have hs : ((w.alloc (.cells #[.slice A n c] 32)).alloc (.cells #[.slice (some ⟨w.heap.size + 2, 0, none⟩) n n] 43)).heap.size = w.heap.size + 2 := by simp
    have := Bk.new ((w.alloc (.cells #[.slice A n c] 32)).alloc (.cells #[.slice (some ⟨w.heap.size + 2, 0, none⟩) n n] 43)) 79 (madeCl n)
    rw [hs] at this
    exact this
  · exact (((Below.refl _ _).alloc (Nat.le_refl _) _).alloc (by simp) _).alloc (by simp; omega) _

set_option maxRecDepth 100000 in
set_option maxHeartbeats 1600000 in
theorem implNewState_any (A : Option Addr) (c : Nat) (l : List Nd) (w : World) (B : Nat) (q : List Cl) (hq : Hid (NewOf l q)) (h : RdN w B A l) (hB : B ≤ w.heap.size) (hn : l.length ≤ 1048576) :
    Calls Try.prog 85 #[.agg #[.slice A l.length c]] w fun e w' => ∃ A' c', e = .returned (.agg #[.slice A' q.length c']) ∧ OwnCl w' w.heap.size w'.heap.size A' q ∧ Below w.heap.size w w' := by
  obtain ⟨W0, hW0⟩ : ∃ W0 : World, W0 = (w.alloc (.cells #[.slice A l.length c] 32)).alloc (.cells #[.slice none 0 0] 43) := ⟨_, rfl⟩
  have hb0 : Below w.heap.size w W0 := by rw [hW0]; exact ((Below.refl w.heap.size w).alloc (Nat.le_refl _) _).alloc (by simp) _
  have hx0 : Bk W0 w.heap.size 32 [.slice A l.length c] := by rw [hW0]; exact (Bk.new _ _ [_]).alloc _
  have hr0 : Bk W0 (w.heap.size + 1) 43 [.slice none 0 0] := by
    rw [hW0]
    have := Bk.new (w.alloc (.cells #[.slice A l.length c] 32)) 43 [.slice none 0 0]
    simpa using this
  have H0 := Lib.hid (h.below hb0 hB)
  have Hb0 := Lib.hid hb0
  have Hx0 := Lib.hid hx0
  have Hr0 := Lib.hid hr0
  have HW0 := Lib.hid hW0
  have hz0 := hb0.size
  clear h hb0 hx0 hr0 hW0
  go_enter Try.func85, Try.ntmps85
  go_wp2_with fail
  rw [← HW0.out]
  refine (implValidPipe_any A c l W0 B H0.out (by omega) hn).mono ?_
  rintro e w1 ⟨rfl, hb1⟩
  have Hb1 := Lib.hid (Hb0.out.trans (hb1.mono hz0))
  have Hx1 := Lib.hid (Hx0.out.below hb1 Hx0.out.lt)
  have Hr1 := Lib.hid (Hr0.out.below hb1 Hr0.out.lt)
  have hc1 : w1.cell? ⟨w.heap.size, 0, none⟩ = some (.slice A l.length c) := Hx1.out.cell 0
  have d1 : w1.cell? ⟨w.heap.size + 1, 0, none⟩ = some (.slice none 0 0) := Hr1.out.cell 0
  have f1 := Hr1.out.free 0
  have hz1 := Hb1.out.size
  have hr1 := Hr1.out.lt
  clear hb1 HW0
  cases hv : pipeOk l
  · obtain rfl := hq.out.no hv
    have Hv := Lib.hid hv
    clear hv
    go_wp2_with fail
    refine bodyPost_ret (v := .agg #[.slice none 0 0]) (by simp [results, Try.results85, go_sem, d1]) rfl ⟨none, 0, rfl, OwnCl.nil_ _ _ _ _, ?_⟩
    exact Hb1.out.setCell (p := ⟨w.heap.size + 1, 0, none⟩) (by simp) _
  have hqq := hq.out.yes hv
  have hql : q.length = l.length := by rw [hqq]; simp
  have Hqq := Lib.hid hqq
  have Hql := Lib.hid hql
  have Hv := Lib.hid hv
  clear hv hqq hql hq
  have hmk := run_makeCl (P := Try.prog) 41 79 Try.underlying41 Try.infoCl l.length hn
  go_wp2_with fail
  have d2 : ((w1.setCell ⟨w.heap.size + 1, 0, none⟩ (.slice (some ⟨w1.heap.size, 0, none⟩) l.length l.length)).alloc (.cells (madeCl l.length).toArray 79)).cell? ⟨w.heap.size + 1, 0, none⟩ = some (.slice (some ⟨w1.heap.size, 0, none⟩) l.length l.length) := ((Hr1.out.set_ 0 _).alloc _).cell 0
  refine bodyPost_ret (v := .agg #[.slice (some ⟨w1.heap.size, 0, none⟩) l.length l.length]) (by simp [results, Try.results85, go_sem, d2]) rfl ⟨_, _, by rw [Hql.out], ?_, ?_⟩
  · rw [Hqq.out]
    have hsz : (w1.setCell ⟨w.heap.size + 1, 0, none⟩ (.slice (some ⟨w1.heap.size, 0, none⟩) l.length l.length)).heap.size = w1.heap.size := by simp [World.setCell]
    have hbn := Bk.new (w1.setCell ⟨w.heap.size + 1, 0, none⟩ (.slice (some ⟨w1.heap.size, 0, none⟩) l.length l.length)) 79 (madeCl l.length)
    rw [hsz] at hbn
    exact Bk.newCl hbn (by omega) (by simp [World.setCell])
  · exact (Hb1.out.setCell (p := ⟨w.heap.size + 1, 0, none⟩) (by simp) _).alloc (by simp [World.setCell]; omega) _

end Go.Proofs.Ytjhdjfobbgfpfaa

/- Contracts of the functions that test whether lists are sources, the program's and the reference's. -/
namespace Go.Proofs.Ytjhdjfobbgfpfaa
open Go.RowKit

set_option maxHeartbeats 400000 in
theorem validItems_any (A : Option Addr) (c : Nat) (l : List Int) (w : World) (B : Nat) (h : RdI w B A l) (hn : l.length ≤ 1048576) :
    Calls Try.prog 93 #[.slice A l.length c] w fun e w' => e = .returned (.bool (rowOk l)) ∧ w = w' := by
  unfold rowOk
  by_cases hlt : l.length ≤ 12
  · cases hb : allB l 0 99
    all_goals
      have Hb := Lib.hid hb
      clear hb
      go_enter Try.func93, Try.ntmps93
      go_wp2_with (go_at_call 108; refine (allWithin_any _ _ _ _ _ _ _ h hn).mono ?_; rintro e w' ⟨rfl, rfl⟩; rw [Hb.out])
      go_ret
      exact ⟨ret_bool (by simp [hlt]), rfl⟩
  · go_enter Try.func93, Try.ntmps93
    go_wp2
    go_ret
    exact ⟨rfl, rfl⟩

set_option maxHeartbeats 400000 in
theorem implValidSources_any (A : Option Addr) (c : Nat) (rows : List (List Int)) (w : World) (B : Nat) (h : RdR w B A rows) (hn : rows.length ≤ 1048576) (hr : ∀ r ∈ rows, r.length ≤ 1048576) :
    Calls Try.prog 74 #[.slice A rows.length c] w fun e w' => e = .returned (.bool (srcOk rows)) ∧ w = w' := by
  by_cases h3 : rows.length = 3
  · have h3' : ((rows.length : Int) != 3) = false := by simp [h3]
    have H3 := Lib.hid h3
    clear h3
    go_enter Try.func74, Try.ntmps74
    go_wp2
    go_loop [10] (fun i => ∃ k : Nat, k ≤ rows.length ∧ i = .int .i64 k ∧ (rows.take k).all rowOk = true) (fun i => rows.length - (intOf i).toNat)
    case atStart => exact ⟨0, Nat.zero_le _, rfl, by simp⟩
    case round =>
      obtain ⟨k, hk, rfl, hall⟩ := hrel
      have Hall := Lib.hid hall
      clear hall
      by_cases hlt : k < rows.length
      · obtain ⟨ad, r, Ar, cr, rfl, hx, hc, hrd⟩ := h.at_ hlt
        have hrn := hr r (List.mem_of_getElem? hx)
        have Hx := Lib.hid hx
        have Hrd := Lib.hid hrd
        clear hx h hr hrd
        cases hin : rowOk r
        · have Hin := Lib.hid hin
          clear hin
          go_wp2_with (go_at_call 93; refine (validItems_any _ _ _ _ _ Hrd.out hrn).mono ?_; rintro e w' ⟨rfl, rfl⟩; rw [Hin.out])
          go_ret
          exact ⟨ret_bool (by rw [srcOk, all_false_of Hx.out Hin.out]; rfl), rfl⟩
        · have Hin := Lib.hid hin
          clear hin
          go_wp2_with (go_at_call 93; refine (validItems_any _ _ _ _ _ Hrd.out hrn).mono ?_; rintro e w' ⟨rfl, rfl⟩; rw [Hin.out])
          go_round
          case rel => exact ⟨k + 1, by omega, by go_num, all_take_succ Hx.out Hin.out Hall.out⟩
          case measure => simp [intOf]; omega
      · go_wp2
        go_ret
        exact ⟨ret_bool (by rw [srcOk, all_of_take (by omega) Hall.out, H3.out]; rfl), rfl⟩
  · have h3' : ((rows.length : Int) != 3) = true := by simp; omega
    have H3 : Hid (rows.length ≠ 3) := h3
    clear h3
    go_enter Try.func74, Try.ntmps74
    go_wp2
    go_ret
    exact ⟨ret_bool (by simp [srcOk, H3.out]), rfl⟩

set_option maxHeartbeats 400000 in
theorem specvalidSources_any (A : Option Addr) (c : Nat) (rows : List (List Int)) (w : World) (B : Nat) (h : RdR w B A rows) (hn : rows.length ≤ 1048576) (hr : ∀ r ∈ rows, r.length ≤ 1048576) :
    Calls Try.prog 72 #[.slice A rows.length c] w fun e w' => e = .returned (.bool (srcOk rows)) ∧ w = w' := by
  go_enter Try.func72, Try.ntmps72
  go_wp2
  go_loop [3] (fun i => ∃ k : Nat, k ≤ rows.length ∧ i = .int .i64 k ∧ (rows.take k).all rowOk = true) (fun i => rows.length - (intOf i).toNat)
  case atStart => exact ⟨0, Nat.zero_le _, rfl, by simp⟩
  case round =>
    obtain ⟨k, hk, rfl, hall⟩ := hrel
    have Hall := Lib.hid hall
    clear hall
    by_cases hlt : k < rows.length
    · obtain ⟨ad, r, Ar, cr, rfl, hx, hc, hrd⟩ := h.at_ hlt
      have hrn := hr r (List.mem_of_getElem? hx)
      have Hx := Lib.hid hx
      have Hrd := Lib.hid hrd
      clear hx h hr hrd
      by_cases h12 : r.length ≤ 12
      · cases hb : allB r 0 99
        · have Hb := Lib.hid hb
          clear hb
          go_wp2_with (go_at_call 92; refine (allIn_any _ _ _ _ _ _ _ Hrd.out hrn).mono ?_; rintro e w' ⟨rfl, rfl⟩; rw [Hb.out])
          go_ret
          exact ⟨ret_bool (by rw [srcOk, all_false_of Hx.out (by rw [rowOk, Hb.out, Bool.and_false])]; rfl), rfl⟩
        · have Hb := Lib.hid hb
          clear hb
          go_wp2_with (go_at_call 92; refine (allIn_any _ _ _ _ _ _ _ Hrd.out hrn).mono ?_; rintro e w' ⟨rfl, rfl⟩; rw [Hb.out])
          go_round
          case rel => exact ⟨k + 1, by omega, by go_num, all_take_succ Hx.out (by rw [rowOk, Hb.out, decide_eq_true h12]; rfl) Hall.out⟩
          case measure => simp [intOf]; omega
      · go_wp2
        go_ret
        exact ⟨ret_bool (by rw [srcOk, all_false_of Hx.out (by rw [rowOk, decide_eq_false h12, Bool.false_and])]; rfl), rfl⟩
    · go_wp2
      go_ret
      exact ⟨ret_bool (by rw [srcOk, all_of_take (by omega) Hall.out, Bool.true_and]; exact beq_three _), rfl⟩

end Go.Proofs.Ytjhdjfobbgfpfaa

/- Contracts: the tree of the node i (the program). -/
namespace Go.Proofs.Ytjhdjfobbgfpfaa
open Go.RowKit Go.Sort

end Go.Proofs.Ytjhdjfobbgfpfaa

/- Contracts: how deep the node i is (the reference); the tree of the node i (the program). -/
namespace Go.Proofs.Ytjhdjfobbgfpfaa
open Go.RowKit Go.Sort

/-- The cells of a node. -/
def five (x : Nd) : Array Value := #[.int .i64 x.k, .int .i64 x.a, .int .i64 x.b, .int .i64 x.n, .int .i64 x.m]

end Go.Proofs.Ytjhdjfobbgfpfaa

/- Contracts: the depth of a tree, asked of a value behind the interface; the depth of a pipe, told by the reference and by the program. -/
namespace Go.Proofs.Ytjhdjfobbgfpfaa
open Go.RowKit Go.Sort

/-- The depth of a pipe; -1 if it is not valid. -/
structure DepthOf (l : List Nd) (d : Int) : Prop where
  no : pipeOk l = false → d = -1
  yes : ∀ {t : T}, pipeOk l = true → IsTree l (l.length - 1) t → d = (t.depth : Nat)

theorem tree_of_pipe {l : List Nd} (h : pipeOk l = true) : ∃ t, IsTree l (l.length - 1) t := by
  have hp := pipeOk_iff.1 h
  exact IsTree.ex hp l.length _ (by have := hp.low; omega) (by have := hp.low; omega)
theorem low_of {l : List Nd} (h : pipeOk l = true) : 1 ≤ l.length := (pipeOk_iff.1 h).low
theorem high_of {l : List Nd} (h : pipeOk l = true) : l.length ≤ 12 := (pipeOk_iff.1 h).high

end Go.Proofs.Ytjhdjfobbgfpfaa
