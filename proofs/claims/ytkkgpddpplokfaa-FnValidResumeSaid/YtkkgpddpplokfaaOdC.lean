/- Contracts of the functions on orders of generators. -/
import Derived.Test.YtkkgpddpplokfaaOdM
import Derived.Test.YtkkgpddpplokfaaNodeE
import Derived.Deep.QuietTactic
import Derived.BigQuiet
import Derived.Deep.RegionWith
namespace Go.Proofs.Ytkkgpddpplokfaa
open Go.RowKit

set_option maxHeartbeats 400000 in
theorem toOrder_any (x : Od) (w : World) :
    Calls Try.prog 56 #[.agg #[.int .i64 x.k, .int .i64 x.n, .int .i64 x.m]] w fun e w' => e = .returned (.agg #[.int .i64 x.k, .int .i64 x.n, .int .i64 x.m]) ∧ Below w.heap.size w w' := by
  go_enter Try.func56, Try.ntmps56
  go_wp2
  refine bodyPost_ret (v := .agg #[.int .i64 x.k, .int .i64 x.n, .int .i64 x.m]) (by simp [results, Try.results56, go_sem]) rfl ⟨rfl, ?_⟩
  exact (((Below.refl _ _).alloc (Nat.le_refl _) _).alloc (by simp) _).alloc (by simp; omega) _

set_option maxHeartbeats 800000 in
theorem eqOrder_any (x y : Od) (w : World) :
    Calls Try.prog 60 #[.agg #[.int .i64 x.k, .int .i64 x.n, .int .i64 x.m], .agg #[.int .i64 y.k, .int .i64 y.n, .int .i64 y.m]] w
      fun e w' => e = .returned (.bool (odEq x y)) ∧ Below w.heap.size w w' := by
  go_enter Try.func60, Try.ntmps60
  go_wp2
  all_goals
    go_ret
    refine ⟨ret_bool ?_, ((Below.refl _ _).alloc (Nat.le_refl _) _).alloc (by simp) _⟩
    first | exact (odEq_no0 (by assumption)).symm | exact (odEq_no1 (by assumption)).symm | exact (odEq_no2 (by assumption)).symm | exact (odEq_yes (by assumption) (by assumption) (by assumption)).symm

set_option maxHeartbeats 1600000 in
theorem toOrderS_any (A : Option Addr) (c : Nat) (l : List Od) (w : World) (B : Nat) (h : RdOd w B A l) (hB : B ≤ w.heap.size) (hn : l.length ≤ 1048576) :
    Calls Try.prog 17 #[.slice A l.length c] w fun e w' => e = .returned (.slice (some ⟨w.heap.size, 0, none⟩) l.length l.length) ∧ OwnOd w' w.heap.size (w.heap.size + 1) (some ⟨w.heap.size, 0, none⟩) l ∧ w.heap.size < w'.heap.size ∧ Below w.heap.size w w' := by
  have hmk := run_makeOd (P := Try.prog) 25 71 Try.underlying25 Try.infoOd l.length hn
  go_enter Try.func17, Try.ntmps17
  go_wp2
  clear hmk
  go_loopw [4] (fun i wr => ∃ k : Nat, k ≤ l.length ∧ i = .int .i64 k ∧ (∃ ds, Bk wr w.heap.size 71 ds ∧ ds.length = l.length * 3 ∧ ∀ (i : Nat) (x : Od), i < k → l[i]? = some x → OdIn ds (i * 3) x) ∧ Below w.heap.size w wr) (fun i _ => l.length - (intOf i).toNat)
  case atStart => exact ⟨0, Nat.zero_le _, rfl, ⟨_, Bk.new w 71 (madeOd l.length), madeOd_len _, fun i x hi => absurd hi (by omega)⟩, (Below.refl _ _).alloc (Nat.le_refl _) _⟩
  case round =>
    obtain ⟨k, hk, rfl, ⟨ds, hbk, hdl, hdc⟩, hbl⟩ := hrel
    by_cases hlt : k < l.length
    · obtain ⟨b, o, x, rfl, hbB, hx, hc⟩ := (h.below hbl hB).at_ hlt
      obtain ⟨c0, c1, c2⟩ := hc
      have hgl := hbk.lt
      obtain ⟨u0, u1, u2, hold⟩ := hbk.oldOd (o := k * 3) (by omega)
      have Hold := Lib.hid hold
      have Hbl := Lib.hid hbl
      have Hx := Lib.hid hx
      have Hbk := Lib.hid hbk
      have Hdl := Lib.hid hdl
      have Hdc := Lib.hid hdc
      have hsz := hbl.size
      clear hx h hbk hbl hold hdl hdc
      go_wp2_with (go_at_call 56; refine (toOrder_any x _).mono ?_; rintro e w1 ⟨rfl, hb2⟩; obtain ⟨d0, d1, d2, f0, f1, f2⟩ := Hold.out.below hb2 hgl; have Hb2 := Lib.hid hb2; clear hb2)
      go_roundw
      case rel =>
        refine ⟨k + 1, by omega, by go_num, ⟨_, (((Hbk.out.below Hb2.out hgl).set_ _ _).set_ _ _).set_ _ _, by simp only [List.length_set]; exact Hdl.out, fun i y hi hy => ?_⟩, (((Hbl.out.trans (Hb2.out.mono hsz)).setCell (Nat.le_refl _) _).setCell (Nat.le_refl _) _).setCell (Nat.le_refl _) _⟩
        by_cases e : i = k
        · subst e
          obtain rfl := Option.some.inj (Hx.out.symm.trans hy)
          exact OdIn.set_self x (by have := Hdl.out; omega)
        · have hin := Hdc.out i y (by omega) hy
          exact (((hin).set_far (by omega)).set_far (by omega)).set_far (by omega)
      case measure => simp [intOf]; omega
    · obtain rfl : k = l.length := by omega
      have Hbk := Lib.hid hbk
      have Hdc := Lib.hid hdc
      have Hlt := Lib.hid hbk.lt
      clear hbk hdc hdl
      go_wp2
      go_ret
      exact ⟨rfl, fun _ => ⟨w.heap.size, 0, ds, rfl, Nat.le_refl _, by omega, Hbk.out, fun i x hx => by rw [Nat.zero_add]; exact Hdc.out i x (List.getElem?_eq_some_iff.1 hx).1 hx⟩, Hlt.out, hbl⟩

set_option maxHeartbeats 400000 in
theorem szOrderS_any (A : Option Addr) (n c : Nat) (left : Int) (w : World) (h0 : 0 ≤ left) (h1 : left ≤ 1048576) (hn : n ≤ maxLen) :
    Calls Try.prog 15 #[.slice A n c, .int .i64 left] w fun e w' => e = .returned (.int .i64 (szLeft left n)) ∧ w = w' := by
  unfold maxLen at hn
  by_cases h : left < n
  · rw [szLeft_no h]
    go_enter Try.func15, Try.ntmps15
    go_wp2
    go_ret
    exact ⟨rfl, rfl⟩
  · rw [szLeft_yes h]
    go_enter Try.func15, Try.ntmps15
    go_wp2
    go_ret
    exact ⟨rfl, rfl⟩

set_option maxHeartbeats 1600000 in
theorem eqOrderS_any (A1 A2 : Option Addr) (c1 c2 : Nat) (l1 l2 : List Od) (w : World) (B : Nat) (h1 : RdOd w B A1 l1) (h2 : RdOd w B A2 l2) (hB : B ≤ w.heap.size) (n1 : l1.length ≤ 1048576) :
    Calls Try.prog 19 #[.slice A1 l1.length c1, .slice A2 l2.length c2] w fun e w' => e = .returned (.bool (decide (l1 = l2))) ∧ Below w.heap.size w w' := by
  by_cases hl : l1.length = l2.length
  · have hb : ((l1.length : Int) != (l2.length : Int)) = false := by simp [hl]
    have hb' : (l1.length != l2.length) = false := by simp [hl]
    have Hl := Lib.hid hl
    clear hl
    go_enter Try.func19, Try.ntmps19
    go_wp2
    go_loopw [5] (fun i wr => ∃ k : Nat, k ≤ l1.length ∧ i = .int .i64 k ∧ l1.take k = l2.take k ∧ Below w.heap.size w wr) (fun i _ => l1.length - (intOf i).toNat)
    case atStart => exact ⟨0, Nat.zero_le _, rfl, by simp, Below.refl _ _⟩
    case round =>
      obtain ⟨k, hk, rfl, hall, hs⟩ := hrel
      have Hall := Lib.hid hall
      clear hall
      by_cases hlt : k < l1.length
      · have hlt2 : k < l2.length := by rw [← Hl.out]; exact hlt
        obtain ⟨b, o, x, rfl, hbB, hx, hc⟩ := (h1.below hs hB).at_ hlt
        obtain ⟨b2, o2, y, rfl, hbB2, hy, hd⟩ := (h2.below hs hB).at_ hlt2
        obtain ⟨p0, p1, p2⟩ := hc
        obtain ⟨q0, q1, q2⟩ := hd
        have Hx := Lib.hid hx
        have Hy := Lib.hid hy
        have Hs := Lib.hid hs
        clear hx hy h1 h2 hs
        cases hxy : odEq x y
        · have Hxy := Lib.hid hxy
          clear hxy
          go_wp2
          go_region_with (go_at_call 60; refine (eqOrder_any x y _).mono ?_; rintro e w1 ⟨rfl, hb⟩; rw [Hxy.out]; have Hb := Lib.hid hb; clear hb)
          all_goals
            go_wp2
            go_ret
            exact ⟨ret_bool (decide_eq_false (ne_of_get Hx.out Hy.out (odEq_ne Hxy.out))).symm, below_step Hs.out Hb.out⟩
        · have Hxy := Lib.hid hxy
          clear hxy
          go_wp2
          go_region_with (go_at_call 60; refine (eqOrder_any x y _).mono ?_; rintro e w1 ⟨rfl, hb⟩; rw [Hxy.out]; have Hb := Lib.hid hb; clear hb)
          all_goals
            go_wp2
            go_roundw
            case rel => exact ⟨k + 1, by omega, by go_num, take_eq_succ Hall.out Hx.out (by rw [odEq_eq Hxy.out]; exact Hy.out), below_step Hs.out Hb.out⟩
            case measure => simp [intOf]; omega
      · go_wp2
        go_ret
        exact ⟨ret_bool (decide_eq_true (eq_of_take (by omega) (by rw [← Hl.out]; omega) Hall.out)).symm, hs⟩
  · have hb' : (l1.length != l2.length) = true := by simp [hl]
    have Hl : Hid (¬ l1.length = l2.length) := hl
    clear hl
    go_enter Try.func19, Try.ntmps19
    go_wp2
    go_ret
    exact ⟨ret_bool (by rw [decide_eq_false]; intro e; exact Hl.out (by rw [e])), Below.refl _ _⟩

/-- n marks, the first number of which is k. -/
def mkOd (n : Nat) (k : Int) : List Od := (List.range n).map fun i : Nat => ⟨k + 3 * i, k + 3 * i + 1, k + 3 * i + 2⟩
theorem mkOd_len (n : Nat) (k : Int) : (mkOd n k).length = n := by simp [mkOd]
theorem mkOd_get {n : Nat} {k : Int} {i : Nat} (h : i < n) : (mkOd n k)[i]? = some ⟨k + 3 * i, k + 3 * i + 1, k + 3 * i + 2⟩ := by simp [mkOd, h]
theorem mkOd_at {n : Nat} {k m : Int} {i : Nat} (h : i < n) (hm : m = k + 3 * i) : (mkOd n k)[i]? = some ⟨m, m + 1, m + 2⟩ := by rw [mkOd_get h, hm]

set_option maxHeartbeats 3200000 in
theorem markOrderS_h {lo hi : Nat} {A : Option Addr} {c : Nat} {l : List Od} {w : World} (k : Int) (h : OwnOd w lo hi A l) (hn : l.length ≤ 1048576) (hk0 : 0 ≤ k) (hk1 : k ≤ 16777216) :
    Calls Try.prog 38 #[.slice A l.length c, .int .i64 k] w fun e w' => e = .returned (.int .i64 (k + 3 * l.length)) ∧ OwnOd w' lo hi A (mkOd l.length k) ∧ Chg lo hi w w' := by
  by_cases hl : 0 < l.length
  · obtain ⟨g, o, cs, rfl, hlo, hhi, hb0, hc0⟩ := h hl
    obtain ⟨n, hnl⟩ : ∃ n : Nat, n = l.length := ⟨_, rfl⟩
    have hcs : o + n * 3 ≤ cs.length := by
      obtain ⟨x, hx⟩ := get_of_lt l (k := n - 1) (by omega)
      have := (List.getElem?_eq_some_iff.1 (hc0 (n - 1) x hx).c2).1
      omega
    have Hb0 := Lib.hid hb0
    have hn2 : n ≤ 1048576 := by omega
    rw [← hnl]
    clear h hb0 hc0 hnl hl hn
    go_enter Try.func38, Try.ntmps38
    go_wp2
    go_loopw [1, 5] (fun s i wr => ∃ j : Nat, j ≤ n ∧ i = .int .i64 j ∧ (∃ m : Int, m = k + 3 * j ∧ s = .int .i64 m) ∧ (∃ ds, Bk wr g 71 ds ∧ ds.length = cs.length ∧ ∀ (i : Nat) (x : Od), i < j → (mkOd n k)[i]? = some x → OdIn ds (o + i * 3) x) ∧ Chg lo hi w wr) (fun _ i _ => n - (intOf i).toNat)
    case atStart => exact ⟨0, Nat.zero_le _, rfl, ⟨k, by simp, rfl⟩, ⟨cs, Hb0.out, rfl, fun i x hi => absurd hi (by omega)⟩, Chg.refl _ _ _⟩
    case round =>
      obtain ⟨j, hj, rfl, ⟨m, hm, rfl⟩, ⟨ds, hds, hdl, hdc⟩, hg⟩ := hrel
      have hm0 : 0 ≤ m := by omega
      have hm1 : m ≤ 33554432 := by omega
      by_cases hlt : j < n
      · obtain ⟨u0, u1, u2, hold⟩ := hds.oldOd (o := o + j * 3) (by omega)
        obtain ⟨d0, d1, d2, f0, f1, f2⟩ := hold
        have Hds := Lib.hid hds
        have Hdl := Lib.hid hdl
        have Hdc := Lib.hid hdc
        have Hg := Lib.hid hg
        have Hm := Lib.hid hm
        clear hds hdl hdc hg hm
        go_wp2
        go_roundw
        case rel =>
          refine ⟨j + 1, by omega, by go_num, ⟨_, by rw [Hm.out]; omega, rfl⟩, ⟨_, (((Hds.out).set_ _ _).set_ _ _).set_ _ _, by simp only [List.length_set]; exact Hdl.out, fun i y hi hy => ?_⟩, (((Hg.out).set hlo hhi _ _).set hlo hhi _ _).set hlo hhi _ _⟩
          by_cases e : i = j
          · subst e
            obtain rfl := Option.some.inj ((mkOd_at hlt Hm.out).symm.trans hy)
            have := OdIn.set_self (cs := ds) (o := o + i * 3) ⟨m, m + 1, m + 2⟩ (by have := Hdl.out; omega)
            simpa [Nat.add_assoc, Int.add_assoc] using this
          · have hin := Hdc.out i y (by omega) hy
            exact (((hin).set_far (by omega)).set_far (by omega)).set_far (by omega)
        case measure => simp [intOf]; omega
      · obtain rfl : j = n := by omega
        have Hds := Lib.hid hds
        have Hdc := Lib.hid hdc
        have Hg := Lib.hid hg
        have Hm := Lib.hid hm
        clear hds hdc hg hm hdl
        go_wp2
        go_ret
        refine ⟨ret_int (by rw [Hm.out]), fun _ => ⟨g, o, ds, rfl, hlo, hhi, Hds.out, fun i x hx => ?_⟩, Hg.out⟩
        exact Hdc.out i x (by have := (List.getElem?_eq_some_iff.1 hx).1; rwa [mkOd_len] at this) hx
  · have hl0 : l = [] := List.eq_nil_of_length_eq_zero (by omega)
    subst hl0
    clear h
    go_enter Try.func38, Try.ntmps38
    go_wp2
    refine wp_loop_rounds 1 ?_
    rw [rounds_succ]
    go_wp2
    go_ret
    exact ⟨by simp, fun h => absurd h (by simp [mkOd]), Chg.refl _ _ _⟩

end Go.Proofs.Ytkkgpddpplokfaa
