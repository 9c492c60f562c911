/- Contracts: whether a pipe is valid, told by the program (marks). -/
import Derived.Test.YtkjhncohanfciaaKids
import Derived.Test.YtkjhncohanfciaaPipeP
import Derived.Deep.RegionWith
import Derived.Lib.QuietBelow
import Derived.BigQuiet
import Derived.Deep.DeepMust
namespace Go.Proofs.Ytkjhncohanfciaa
open Go.RowKit

theorem Try.infoBool : (Try.prog.info? 4).map (fun i => (i.zero, i.size, i.bytes)) = some (some (.bool false), 1, 1) := by kernel_rfl

theorem Bk.afterDraw {w w1 : World} {g : Nat} {t : TypeId} {cs : List Value} (h : Bk w g t cs) (hb : Below w.drew.heap.size w.drew w1) : Bk w1 g t cs := (hb.block g h.lt).trans h
theorem below_placed {w w1 w2 : World} {g : Nat} (h : Below w.heap.size w w1) (k : w1.grownBy w2 (some g)) (hg : w.heap.size ≤ g) : Below w.heap.size w w2 :=
  h.grown k h.size (fun j hj => by obtain rfl := Option.some.inj hj; exact hg)
theorem nodeOk_of {x : Nd} {k : Nat} (h : (numsOk x && known x.k) = true) (h2 : kidsOk x k = true) : nodeOk x k = true := by
  simp only [Bool.and_eq_true] at h
  simp [nodeOk, h.1, h2]
theorem marks_made (w : World) (g : Nat) (o : Obj) (l : List Nd) (hg : g = (w.alloc o).heap.size) : Bk ((w.alloc o).alloc (.cells (madeCells #[.bool false] l.length) 4)) g 4 (bls (marks l 0 l.length)) := by
  subst hg
  have e : madeCells #[Value.bool false] l.length = (bls (marks l 0 l.length)).toArray := by
    rw [marks_zero]
    have : bls (List.replicate l.length false) = (madeCells #[Value.bool false] l.length).toList := by rw [toList_madeCells_one]; simp [bls]
    rw [this]
  rw [e]
  exact Bk.new _ _ _
theorem contains_succ {us : List Bool} {k : Nat} {b v : Bool} (h : us[k]? = some b) : (us.take (k + 1)).contains v = ((us.take k).contains v || (v == b)) := by
  rw [take_succ_of h]
  simp only [List.contains_eq_mem, List.mem_append, List.mem_singleton]
  cases v <;> cases b <;> simp
theorem contains_take {us : List Bool} {k n : Nat} {v : Bool} (hk : k ≤ n) (h : (us.take k).contains v = true) : (us.take n).contains v = true := by
  simp only [List.contains_eq_mem, decide_eq_true_eq] at h ⊢
  exact List.take_subset_take_left us hk h

theorem implNums_any (x : Nd) (w : World) :
    Calls Try.prog 60 #[.agg #[.int .i64 x.k, .int .i64 x.a, .int .i64 x.b, .int .i64 x.n, .int .i64 x.m]] w fun e w' => e = .returned (.bool (numsOk x && known x.k)) ∧ Below w.heap.size w w' := implNums_kind x.k x.a x.b x.n x.m w
theorem specNums_any (x : Nd) (w : World) :
    Calls Try.prog 68 #[.agg #[.int .i64 x.k, .int .i64 x.a, .int .i64 x.b, .int .i64 x.n, .int .i64 x.m]] w fun e w' => e = .returned (.bool (numsOk x)) ∧ Below w.heap.size w w' := specNums_kind x.k x.a x.b x.n x.m w

theorem implNums_q {x : Nd} {w : World} {d : Nat} {os : Array Obj} {b : Bool} (hb : Hid ((numsOk x && known x.k) = b)) :
    Calls Try.prog 60 #[.agg #[.int .i64 x.k, .int .i64 x.a, .int .i64 x.b, .int .i64 x.n, .int .i64 x.m]] (Go.Sort.grow (redrawn w d) os) fun e w'' => e = .returned (.bool b) ∧ ∃ p : Regrown, w'' = Go.Sort.grow (redrawn w p.d) p.os :=
  Calls.regrown_of ((implNums_any x _).mono fun _ _ ⟨he, h⟩ => ⟨by rw [he, hb.out], h⟩)

/-- An index at least 0 tells that v is there. -/
def IdxIs (us : List Bool) (n : Nat) (v : Bool) (e : Ending) : Prop := ∃ r : Int, e = .returned (.int .i64 r) ∧ decide (0 ≤ r) = (us.take n).contains v

set_option maxHeartbeats 400000 in
theorem index_any (g n c : Nat) (us : List Bool) (v : Bool) (w : World) (hb : Hid (Bk w g 4 (bls us))) (hn : n ≤ us.length) (hs : n ≤ 1048576) :
    Calls Try.prog 80 #[.slice (some ⟨g, 0, none⟩) n c, .bool v] w fun e w' => IdxIs us n v e ∧ w = w' := by
  go_enter Try.func80, Try.ntmps80
  go_wp2
  go_loop [8] (fun i => ∃ k : Nat, k ≤ n ∧ i = .int .i64 k ∧ (us.take k).contains v = false) (fun i => n - (intOf i).toNat)
  case atStart => exact ⟨0, Nat.zero_le _, rfl, by simp⟩
  case round =>
    obtain ⟨k, hk, rfl, hall⟩ := hrel
    have Hall := Lib.hid hall
    clear hall
    by_cases hlt : k < n
    · obtain ⟨b, hx⟩ := get_of_lt us (k := k) (by omega)
      have hc : w.cell? ⟨g, k, none⟩ = some (.bool b) := by rw [hb.out.cell, bls_get, hx]; rfl
      have Hx := Lib.hid hx
      clear hx
      have Hc := contains_succ (v := v) Hx.out
      rw [Hall.out] at Hc
      have HC := Lib.hid Hc
      clear Hc
      cases hvb : (v == b)
      · have HV := Lib.hid hvb
        go_wp2
        go_round
        case rel => exact ⟨k + 1, by omega, by go_num, by rw [HC.out, HV.out]; rfl⟩
        case measure => simp [intOf]; omega
      · have HV := Lib.hid hvb
        go_wp2
        go_ret
        exact ⟨⟨k, rfl, by rw [contains_take (k := k + 1) (by omega) (by rw [HC.out, HV.out]; rfl)]; simp⟩, rfl⟩
    · obtain rfl : k = n := by omega
      go_wp2
      go_ret
      exact ⟨⟨-1, rfl, by rw [Hall.out]; rfl⟩, rfl⟩

theorem contains_any (g n c : Nat) (us : List Bool) (v : Bool) (w : World) (hb : Hid (Bk w g 4 (bls us))) (hn : n ≤ us.length) (hs : n ≤ 1048576) :
    Calls Try.prog 62 #[.slice (some ⟨g, 0, none⟩) n c, .bool v] w fun e w' => e = .returned (.bool ((us.take n).contains v)) ∧ w = w' := by
  go_enter Try.func62, Try.ntmps62
  go_wp2_with (go_at_call 80; refine (index_any _ _ _ _ _ _ hb hn hs).mono ?_; rintro e w1 ⟨⟨r, rfl, hr⟩, rfl⟩; have Hr := Lib.hid hr; clear hr)
  go_ret
  exact ⟨ret_bool Hr.out, rfl⟩

set_option maxHeartbeats 3200000 in
theorem implValidPipe_any (A : Option Addr) (c : Nat) (l : List Nd) (w : World) (B : Nat) (h : RdN w B A l) (hB : B ≤ w.heap.size) (hn : l.length ≤ 1048576) :
    Calls Try.prog 39 #[.agg #[.slice A l.length c]] w fun e w' => e = .returned (.bool (pipeOk l)) ∧ Below w.heap.size w w' := by
  cases hr : inR l.length 1 12
  · have Hr := Lib.hid hr
    have hno : Hid (pipeOk l = false) := pipeOk_no fun hp => by rw [inR_yes (by have := hp.low; omega) (by have := hp.high; omega)] at hr; cases hr
    clear hr
    go_enter Try.func39, Try.ntmps39
    go_wp2_with (go_at_call 59; refine (within_any _ _ _ _).mono ?_; rintro e w1 ⟨rfl, rfl⟩; rw [Hr.out])
    go_ret
    exact ⟨ret_bool hno.out.symm, (Below.refl _ _).alloc (Nat.le_refl _) _⟩
  · have Hr := Lib.hid hr
    obtain ⟨hr1, hr2⟩ := inR_iff.1 hr
    clear hr
    have hmk := run_make_row' (P := Try.prog) 75 4 (.bool false) 1 Try.underlying75 Try.infoBool rfl .i64 .i64 l.length (by omega) (by omega)
    go_enter Try.func39, Try.ntmps39
    go_wp2_with (go_at_call 59; refine (within_any _ _ _ _).mono ?_; rintro e w1 ⟨rfl, rfl⟩; rw [Hr.out])
    clear hmk
    go_loopw [18] (fun i wr => ∃ k : Nat, k ≤ l.length ∧ i = .int .i64 k ∧ Good l k ∧ Single l k ∧ Bk wr (w.heap.size + 1) 4 (bls (marks l k l.length)) ∧ Below w.heap.size w wr) (fun i _ => l.length - (intOf i).toNat)
    case atStart => exact ⟨0, Nat.zero_le _, rfl, Good.zero _, Single.zero _, marks_made _ _ _ _ (by simp), ((Below.refl _ _).alloc (Nat.le_refl _) _).alloc (by simp) _⟩
    case round =>
      obtain ⟨k, hk, rfl, hgood, hsing, hbk, hbl⟩ := hrel
      by_cases hlt : k < l.length
      · obtain ⟨b, o, x, rfl, hbB, hx, hc⟩ := (h.below hbl hB).at_ hlt
        obtain ⟨c0, c1, c2, c3, c4⟩ := hc
        have Hgood := Lib.hid hgood
        have Hsing := Lib.hid hsing
        have Hbk := Lib.hid hbk
        have Hbl := Lib.hid hbl
        have Hx := Lib.hid hx
        clear hgood hsing hbk hbl hx h
        have hgw : w.heap.size + 1 < wr.heap.size := Hbk.out.lt
        have hsz := Hbl.out.size
        have hal := Hbl.out.alloc hsz (.cells #[.int .i64 x.k, .int .i64 x.a, .int .i64 x.b, .int .i64 x.n, .int .i64 x.m] 69)
        have hbk0 := Hbk.out.alloc (.cells #[.int .i64 x.k, .int .i64 x.a, .int .i64 x.b, .int .i64 x.n, .int .i64 x.m] 69)
        have Hal := Lib.hid hal
        have Hbk0 := Lib.hid hbk0
        have hk20 : k ≤ 1048576 := by omega
        have hku : k ≤ (marks l k l.length).length := by rw [marks_len]; exact hk
        have Hku := Lib.hid hku
        clear hal hbk0 hku
        cases hnk : (numsOk x && known x.k)
        · have Hnk := Lib.hid hnk
          clear hnk
          go_wp2
          have q0 := cell_regrown (w := wr.alloc (.cells #[.int .i64 x.k, .int .i64 x.a, .int .i64 x.b, .int .i64 x.n, .int .i64 x.m] 69)) (a := ⟨wr.heap.size, 0, none⟩) (v := .int .i64 x.k) (by simp [go_sem])
          have q1 := cell_regrown (w := wr.alloc (.cells #[.int .i64 x.k, .int .i64 x.a, .int .i64 x.b, .int .i64 x.n, .int .i64 x.m] 69)) (a := ⟨wr.heap.size, 1, none⟩) (v := .int .i64 x.a) (by simp [go_sem])
          have q2 := cell_regrown (w := wr.alloc (.cells #[.int .i64 x.k, .int .i64 x.a, .int .i64 x.b, .int .i64 x.n, .int .i64 x.m] 69)) (a := ⟨wr.heap.size, 2, none⟩) (v := .int .i64 x.b) (by simp [go_sem])
          have q3 := cell_regrown (w := wr.alloc (.cells #[.int .i64 x.k, .int .i64 x.a, .int .i64 x.b, .int .i64 x.n, .int .i64 x.m] 69)) (a := ⟨wr.heap.size, 3, none⟩) (v := .int .i64 x.n) (by simp [go_sem])
          have q4 := cell_regrown (w := wr.alloc (.cells #[.int .i64 x.k, .int .i64 x.a, .int .i64 x.b, .int .i64 x.n, .int .i64 x.m] 69)) (a := ⟨wr.heap.size, 4, none⟩) (v := .int .i64 x.m) (by simp [go_sem])
          refine wp_region_quiet_below (by kernel_rfl) (by kernel_rfl) ?_
          repeat (quiet_step ((go_at_call 60; go_must (exact implNums_q Hnk))))
          refine wpQuiet_nil ?_
          intro wq hwq
          obtain ⟨p, hwq⟩ := hwq
          have Hb : Hid (Below (wr.alloc (.cells #[.int .i64 x.k, .int .i64 x.a, .int .i64 x.b, .int .i64 x.n, .int .i64 x.m] 69)).heap.size (wr.alloc (.cells #[.int .i64 x.k, .int .i64 x.a, .int .i64 x.b, .int .i64 x.n, .int .i64 x.m] 69)) wq) := by
            rw [hwq]; exact below_regrown _ _ _
          clear hwq q0 q1 q2 q3 q4
          go_wp2
          go_ret
          exact ⟨ret_bool (pipeOk_no (nums_no Hx.out Hnk.out)).symm, Hal.out.trans (Hb.out.mono Hal.out.size)⟩
        · have Hnk := Lib.hid hnk
          clear hnk
          cases hpl : placesOk x (marks l k l.length) k
          · have Hpl := Lib.hid hpl
            clear hpl
            go_wp2
            go_region_with (first | (go_at_call 60; go_must (refine (implNums_any x _).mono ?_; rintro e w1 ⟨rfl, hb⟩; rw [Hnk.out]; have d0 := (hb.cell (p := ⟨wr.heap.size, 0, none⟩) (by simp)).trans (by simp [go_sem] : _ = some (Value.int .i64 x.k)); have d1 := (hb.cell (p := ⟨wr.heap.size, 1, none⟩) (by simp)).trans (by simp [go_sem] : _ = some (Value.int .i64 x.a)); have d2 := (hb.cell (p := ⟨wr.heap.size, 2, none⟩) (by simp)).trans (by simp [go_sem] : _ = some (Value.int .i64 x.b)); have d3 := (hb.cell (p := ⟨wr.heap.size, 3, none⟩) (by simp)).trans (by simp [go_sem] : _ = some (Value.int .i64 x.n)); have d4 := (hb.cell (p := ⟨wr.heap.size, 4, none⟩) (by simp)).trans (by simp [go_sem] : _ = some (Value.int .i64 x.m)); have HBk1 := Lib.hid (Hbk0.out.afterDraw hb); have Hb := Lib.hid hb; clear hb)) | (go_at_call 61; go_must (refine (places_any x.k x.a x.b x.n x.m _ k _ (marks l k l.length) _ hk20 Hku.out HBk1.out).mono ?_; rintro e w2 ⟨rfl, hpp⟩; rw [Hpl.out]; rw [Hpl.out] at hpp; have Hpp := Lib.hid hpp; clear hpp)))
            all_goals
              go_wp2
              go_ret
              exact ⟨ret_bool (pipeOk_no (place_no Hx.out Hpl.out)).symm, below_placed (below_step Hal.out Hb.out) Hpp.out.1 (Nat.le_succ _)⟩
          · have Hpl := Lib.hid hpl
            clear hpl
            go_wp2
            go_region_with (first | (go_at_call 60; go_must (refine (implNums_any x _).mono ?_; rintro e w1 ⟨rfl, hb⟩; rw [Hnk.out]; have d0 := (hb.cell (p := ⟨wr.heap.size, 0, none⟩) (by simp)).trans (by simp [go_sem] : _ = some (Value.int .i64 x.k)); have d1 := (hb.cell (p := ⟨wr.heap.size, 1, none⟩) (by simp)).trans (by simp [go_sem] : _ = some (Value.int .i64 x.a)); have d2 := (hb.cell (p := ⟨wr.heap.size, 2, none⟩) (by simp)).trans (by simp [go_sem] : _ = some (Value.int .i64 x.b)); have d3 := (hb.cell (p := ⟨wr.heap.size, 3, none⟩) (by simp)).trans (by simp [go_sem] : _ = some (Value.int .i64 x.n)); have d4 := (hb.cell (p := ⟨wr.heap.size, 4, none⟩) (by simp)).trans (by simp [go_sem] : _ = some (Value.int .i64 x.m)); have HBk1 := Lib.hid (Hbk0.out.afterDraw hb); have Hb := Lib.hid hb; clear hb)) | (go_at_call 61; go_must (refine (places_any x.k x.a x.b x.n x.m _ k _ (marks l k l.length) _ hk20 Hku.out HBk1.out).mono ?_; rintro e w2 ⟨rfl, hpp⟩; rw [Hpl.out]; rw [Hpl.out] at hpp; have Hpp := Lib.hid hpp; clear hpp)))
            all_goals
              go_wp2
              go_roundw
              case rel => exact ⟨k + 1, by omega, by go_num, Hgood.out.succ Hx.out (nodeOk_of Hnk.out (place_yes Hx.out Hsing.out Hpl.out).1), (place_yes Hx.out Hsing.out Hpl.out).2.2, by rw [← (place_yes Hx.out Hsing.out Hpl.out).2.1]; exact Hpp.out.2 rfl, below_placed (below_step Hal.out Hb.out) Hpp.out.1 (Nat.le_succ _)⟩
              case measure => simp [intOf]; omega
      · obtain rfl : k = l.length := by omega
        have Hfin := Lib.hid (marks_end hgood hsing (by omega) (by omega))
        have Hbk := Lib.hid hbk
        have Hbl := Lib.hid hbl
        have hml : l.length - 1 ≤ (marks l l.length l.length).length := by rw [marks_len]; omega
        have Hml := Lib.hid hml
        clear hgood hsing hbk hbl h hml
        go_wp2_with fail
        have e1 : (((l.length : Nat) : Int) - 1).toNat = l.length - 1 := by omega
        try rw [e1]
        refine (contains_any _ (l.length - 1) _ (marks l l.length l.length) false _ Hbk Hml.out (by omega)).mono ?_
        rintro e w1 ⟨rfl, rfl⟩
        have Hc : Hid ((!((marks l l.length l.length).take (l.length - 1)).contains false) = pipeOk l) := Hfin.out.symm
        clear e1
        go_wp2_with fail
        go_ret
        exact ⟨ret_bool (by simpa using Hc.out), Hbl.out⟩

end Go.Proofs.Ytkjhncohanfciaa
