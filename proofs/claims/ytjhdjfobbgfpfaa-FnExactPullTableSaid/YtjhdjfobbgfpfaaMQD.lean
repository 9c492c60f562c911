/- Texts on the program and its reference, put together (ClC). -/
import Derived.Test.YtjhdjfobbgfpfaaMQC
import Derived.Deep.QuietTactic
import Derived.BigQuiet
import Derived.Deep.RegionWith
/- Contracts of the functions on cells of nodes. -/
namespace Go.Proofs.Ytjhdjfobbgfpfaa
open Go.RowKit

set_option maxHeartbeats 800000 in
theorem eqCell_any (x y : Cl) (w : World) :
    Calls Try.prog 88 #[.agg #[.int .i64 x.n, .int .i64 x.l, .int .i64 x.r, .bool x.hl, .bool x.hr, .bool x.d], .agg #[.int .i64 y.n, .int .i64 y.l, .int .i64 y.r, .bool y.hl, .bool y.hr, .bool y.d]] w
      fun e w' => e = .returned (.bool (clEq x y)) ∧ Below w.heap.size w w' := by
  go_enter Try.func88, Try.ntmps88
  go_wp2
  all_goals
    go_ret
    refine ⟨ret_bool ?_, ((Below.refl _ _).alloc (Nat.le_refl _) _).alloc (by simp) _⟩
    first | exact (clEq_no0 (by assumption)).symm | exact (clEq_no1 (by assumption)).symm | exact (clEq_no2 (by assumption)).symm | exact (clEq_no3 (by assumption)).symm | exact (clEq_no4 (by assumption)).symm | exact (clEq_no5 (by assumption)).symm | exact (clEq_yes (by assumption) (by assumption) (by assumption) (by assumption) (by assumption) (by assumption)).symm

set_option maxHeartbeats 1600000 in
theorem eqCellS_any (A1 A2 : Option Addr) (c1 c2 : Nat) (l1 l2 : List Cl) (w : World) (B : Nat) (h1 : RdCl w B A1 l1) (h2 : RdCl w B A2 l2) (hB : B ≤ w.heap.size) (n1 : l1.length ≤ 1048576) :
    Calls Try.prog 63 #[.slice A1 l1.length c1, .slice A2 l2.length c2] w fun e w' => e = .returned (.bool (decide (l1 = l2))) ∧ Below w.heap.size w w' := by
  by_cases hl : l1.length = l2.length
  · have hb : ((l1.length : Int) != (l2.length : Int)) = false := by simp [hl]
    have hb' : (l1.length != l2.length) = false := by simp [hl]
    have Hl := Lib.hid hl
    clear hl
    go_enter Try.func63, Try.ntmps63
    go_wp2
    go_loopw [5] (fun i wr => ∃ k : Nat, k ≤ l1.length ∧ i = .int .i64 k ∧ l1.take k = l2.take k ∧ Below w.heap.size w wr) (fun i _ => l1.length - (intOf i).toNat)
    case atStart => exact ⟨0, Nat.zero_le _, rfl, by simp, Below.refl _ _⟩
    case round =>
      obtain ⟨k, hk, rfl, hall, hs⟩ := hrel
      have Hall := Lib.hid hall
      clear hall
      by_cases hlt : k < l1.length
      · have hlt2 : k < l2.length := by rw [← Hl.out]; exact hlt
        obtain ⟨b, o, x, rfl, hbB, hx, hc⟩ := (h1.below hs hB).at_ hlt
        obtain ⟨b2, o2, y, rfl, hbB2, hy, hd⟩ := (h2.below hs hB).at_ hlt2
        obtain ⟨p0, p1, p2, p3, p4, p5⟩ := hc
        obtain ⟨q0, q1, q2, q3, q4, q5⟩ := hd
        have Hx := Lib.hid hx
        have Hy := Lib.hid hy
        have Hs := Lib.hid hs
        clear hx hy h1 h2 hs
        cases hxy : clEq x y
        · have Hxy := Lib.hid hxy
          clear hxy
          go_wp2
          go_region_with (go_at_call 88; refine (eqCell_any x y _).mono ?_; rintro e w1 ⟨rfl, hb⟩; rw [Hxy.out]; have Hb := Lib.hid hb; clear hb)
          all_goals
            go_wp2
            go_ret
            exact ⟨ret_bool (decide_eq_false (ne_of_get Hx.out Hy.out (clEq_ne Hxy.out))).symm, below_step Hs.out Hb.out⟩
        · have Hxy := Lib.hid hxy
          clear hxy
          go_wp2
          go_region_with (go_at_call 88; refine (eqCell_any x y _).mono ?_; rintro e w1 ⟨rfl, hb⟩; rw [Hxy.out]; have Hb := Lib.hid hb; clear hb)
          all_goals
            go_wp2
            go_roundw
            case rel => exact ⟨k + 1, by omega, by go_num, take_eq_succ Hall.out Hx.out (by rw [clEq_eq Hxy.out]; exact Hy.out), below_step Hs.out Hb.out⟩
            case measure => simp [intOf]; omega
      · go_wp2
        go_ret
        exact ⟨ret_bool (decide_eq_true (eq_of_take (by omega) (by rw [← Hl.out]; omega) Hall.out)).symm, hs⟩
  · have hb' : (l1.length != l2.length) = true := by simp [hl]
    have Hl : Hid (¬ l1.length = l2.length) := hl
    clear hl
    go_enter Try.func63, Try.ntmps63
    go_wp2
    go_ret
    exact ⟨ret_bool (by rw [decide_eq_false]; intro e; exact Hl.out (by rw [e])), Below.refl _ _⟩

/-- n marks, the first number of which is k. -/
def mkCl (n : Nat) (k : Int) : List Cl := (List.range n).map fun i : Nat => ⟨k + 6 * i, k + 6 * i + 1, k + 6 * i + 2, (k + 6 * i + 3) % 3 == 0, (k + 6 * i + 4) % 3 == 0, (k + 6 * i + 5) % 3 == 0⟩
theorem mkCl_len (n : Nat) (k : Int) : (mkCl n k).length = n := by simp [mkCl]
theorem mkCl_get {n : Nat} {k : Int} {i : Nat} (h : i < n) : (mkCl n k)[i]? = some ⟨k + 6 * i, k + 6 * i + 1, k + 6 * i + 2, (k + 6 * i + 3) % 3 == 0, (k + 6 * i + 4) % 3 == 0, (k + 6 * i + 5) % 3 == 0⟩ := by simp [mkCl, h]
theorem mkCl_at {n : Nat} {k m : Int} {i : Nat} (h : i < n) (hm : m = k + 6 * i) : (mkCl n k)[i]? = some ⟨m, m + 1, m + 2, (m + 3) % 3 == 0, (m + 4) % 3 == 0, (m + 5) % 3 == 0⟩ := by rw [mkCl_get h, hm]

set_option maxHeartbeats 3200000 in
theorem markCellS_h {lo hi : Nat} {A : Option Addr} {c : Nat} {l : List Cl} {w : World} (k : Int) (h : OwnCl w lo hi A l) (hn : l.length ≤ 1048576) (hk0 : 0 ≤ k) (hk1 : k ≤ 16777216) :
    Calls Try.prog 64 #[.slice A l.length c, .int .i64 k] w fun e w' => e = .returned (.int .i64 (k + 6 * l.length)) ∧ OwnCl w' lo hi A (mkCl l.length k) ∧ Chg lo hi w w' := by
  by_cases hl : 0 < l.length
  · obtain ⟨g, o, cs, rfl, hlo, hhi, hb0, hc0⟩ := h hl
    obtain ⟨n, hnl⟩ : ∃ n : Nat, n = l.length := ⟨_, rfl⟩
    have hcs : o + n * 6 ≤ cs.length := by
      obtain ⟨x, hx⟩ := get_of_lt l (k := n - 1) (by omega)
      have := (List.getElem?_eq_some_iff.1 (hc0 (n - 1) x hx).c5).1
      omega
    have Hb0 := Lib.hid hb0
    have hn2 : n ≤ 1048576 := by omega
    rw [← hnl]
    clear h hb0 hc0 hnl hl hn
    go_enter Try.func64, Try.ntmps64
    go_wp2
    go_loopw [1, 5] (fun s i wr => ∃ j : Nat, j ≤ n ∧ i = .int .i64 j ∧ (∃ m : Int, m = k + 6 * j ∧ s = .int .i64 m) ∧ (∃ ds, Bk wr g 79 ds ∧ ds.length = cs.length ∧ ∀ (i : Nat) (x : Cl), i < j → (mkCl n k)[i]? = some x → ClIn ds (o + i * 6) x) ∧ Chg lo hi w wr) (fun _ i _ => n - (intOf i).toNat)
    case atStart => exact ⟨0, Nat.zero_le _, rfl, ⟨k, by simp, rfl⟩, ⟨cs, Hb0.out, rfl, fun i x hi => absurd hi (by omega)⟩, Chg.refl _ _ _⟩
    case round =>
      obtain ⟨j, hj, rfl, ⟨m, hm, rfl⟩, ⟨ds, hds, hdl, hdc⟩, hg⟩ := hrel
      have hm0 : 0 ≤ m := by omega
      have hm1 : m ≤ 33554432 := by omega
      by_cases hlt : j < n
      · obtain ⟨u0, u1, u2, u3, u4, u5, hold⟩ := hds.oldCl (o := o + j * 6) (by omega)
        obtain ⟨d0, d1, d2, d3, d4, d5, f0, f1, f2, f3, f4, f5⟩ := hold
        have Hds := Lib.hid hds
        have Hdl := Lib.hid hdl
        have Hdc := Lib.hid hdc
        have Hg := Lib.hid hg
        have Hm := Lib.hid hm
        clear hds hdl hdc hg hm
        go_wp2
        go_roundw
        case rel =>
          refine ⟨j + 1, by omega, by go_num, ⟨_, by rw [Hm.out]; omega, rfl⟩, ⟨_, ((((((Hds.out).set_ _ _).set_ _ _).set_ _ _).set_ _ _).set_ _ _).set_ _ _, by simp only [List.length_set]; exact Hdl.out, fun i y hi hy => ?_⟩, ((((((Hg.out).set hlo hhi _ _).set hlo hhi _ _).set hlo hhi _ _).set hlo hhi _ _).set hlo hhi _ _).set hlo hhi _ _⟩
          by_cases e : i = j
          · subst e
            obtain rfl := Option.some.inj ((mkCl_at hlt Hm.out).symm.trans hy)
            have := ClIn.set_self (cs := ds) (o := o + i * 6) ⟨m, m + 1, m + 2, (m + 3) % 3 == 0, (m + 4) % 3 == 0, (m + 5) % 3 == 0⟩ (by have := Hdl.out; omega)
            simpa [Nat.add_assoc, Int.add_assoc] using this
          · have hin := Hdc.out i y (by omega) hy
            exact ((((((hin).set_far (by omega)).set_far (by omega)).set_far (by omega)).set_far (by omega)).set_far (by omega)).set_far (by omega)
        case measure => simp [intOf]; omega
      · obtain rfl : j = n := by omega
        have Hds := Lib.hid hds
        have Hdc := Lib.hid hdc
        have Hg := Lib.hid hg
        have Hm := Lib.hid hm
        clear hds hdc hg hm hdl
        go_wp2
        go_ret
        refine ⟨ret_int (by rw [Hm.out]), fun _ => ⟨g, o, ds, rfl, hlo, hhi, Hds.out, fun i x hx => ?_⟩, Hg.out⟩
        exact Hdc.out i x (by have := (List.getElem?_eq_some_iff.1 hx).1; rwa [mkCl_len] at this) hx
  · have hl0 : l = [] := List.eq_nil_of_length_eq_zero (by omega)
    subst hl0
    clear h
    go_enter Try.func64, Try.ntmps64
    go_wp2
    refine wp_loop_rounds 1 ?_
    rw [rounds_succ]
    go_wp2
    go_ret
    exact ⟨by simp, fun h => absurd h (by simp [mkCl]), Chg.refl _ _ _⟩

set_option maxHeartbeats 3200000 in
theorem heldCellS_any (A : Option Addr) (c n : Nat) (k : Int) (w : World) (B : Nat) (h : RdCl w B A (mkCl n k)) (hn : n ≤ 1048576) (hk0 : 0 ≤ k) (hk1 : k ≤ 16777216) :
    Calls Try.prog 65 #[.slice A n c, .int .i64 k] w fun e w' => e = .returned (.int .i64 (k + 6 * n)) ∧ w = w' := by
  have Hh := Lib.hid h
  clear h
  go_enter Try.func65, Try.ntmps65
  go_wp2
  go_loop [1, 5] (fun s i => ∃ j : Nat, j ≤ n ∧ i = .int .i64 j ∧ ∃ m : Int, m = k + 6 * j ∧ s = .int .i64 m) (fun _ i => n - (intOf i).toNat)
  case atStart => exact ⟨0, Nat.zero_le _, rfl, k, by simp, rfl⟩
  case round =>
    obtain ⟨j, hj, rfl, m, hm, rfl⟩ := hrel
    have hm0 : 0 ≤ m := by omega
    have hm1 : m ≤ 33554432 := by omega
    by_cases hlt : j < n
    · obtain ⟨b, o, x, rfl, hbB, hx, hc⟩ := Hh.out.at_ (k := j) (by rw [mkCl_len]; exact hlt)
      rw [mkCl_at hlt hm] at hx
      obtain rfl := Option.some.inj hx
      obtain ⟨c0, c1, c2, c3, c4, c5⟩ := hc
      obtain ⟨B3, hB3⟩ : ∃ B : Bool, B = ((m + 3) % 3 == 0) := ⟨_, rfl⟩
      simp only [← hB3] at c3
      have hw3 : ((m + 1 + 1 + 1) % 3 == 0) = B3 := by rw [hB3, show m + 1 + 1 + 1 = m + 3 from by omega]
      clear hB3
      obtain ⟨B4, hB4⟩ : ∃ B : Bool, B = ((m + 4) % 3 == 0) := ⟨_, rfl⟩
      simp only [← hB4] at c4
      have hw4 : ((m + 1 + 1 + 1 + 1) % 3 == 0) = B4 := by rw [hB4, show m + 1 + 1 + 1 + 1 = m + 4 from by omega]
      clear hB4
      obtain ⟨B5, hB5⟩ : ∃ B : Bool, B = ((m + 5) % 3 == 0) := ⟨_, rfl⟩
      simp only [← hB5] at c5
      have hw5 : ((m + 1 + 1 + 1 + 1 + 1) % 3 == 0) = B5 := by rw [hB5, show m + 1 + 1 + 1 + 1 + 1 = m + 5 from by omega]
      clear hB5
      have Hm := Lib.hid hm
      clear hm hx
      go_wp2
      go_round
      case rel => exact ⟨j + 1, by omega, by go_num, _, by rw [Hm.out]; omega, rfl⟩
      case measure => simp [intOf]; omega
    · obtain rfl : j = n := by omega
      have Hm := Lib.hid hm
      clear hm
      go_wp2
      go_ret
      exact ⟨ret_int (by rw [Hm.out]), rfl⟩

end Go.Proofs.Ytjhdjfobbgfpfaa
