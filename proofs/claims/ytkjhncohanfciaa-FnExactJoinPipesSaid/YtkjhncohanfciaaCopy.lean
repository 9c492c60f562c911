/- Contracts of the functions that copy lists of numbers into new memory, compare them, and count them. -/
import Derived.Test.YtkjhncohanfciaaSrcA
import Derived.Deep.QuietTactic
import Derived.BigQuiet
namespace Go.Proofs.Ytkjhncohanfciaa
open Go.RowKit

theorem Try.infoInt : (Try.prog.info? 3).map (fun i => (i.zero, i.size, i.bytes)) = some (some (.int .i64 0), 1, 8) := by kernel_rfl
theorem Try.infoInts : (Try.prog.info? 28).map (fun i => (i.zero, i.size, i.bytes)) = some (some (.slice none 0 0), 1, 24) := by kernel_rfl

set_option maxHeartbeats 400000 in
theorem eqIntS_any (A1 A2 : Option Addr) (c1 c2 : Nat) (l1 l2 : List Int) (w : World) (B : Nat) (h1 : RdI w B A1 l1) (h2 : RdI w B A2 l2) (n1 : l1.length ≤ 1048576) :
    Calls Try.prog 15 #[.slice A1 l1.length c1, .slice A2 l2.length c2] w fun e w' => e = .returned (.bool (decide (l1 = l2))) ∧ Same w w' := by
  by_cases hl : l1.length = l2.length
  · have hb' : (l1.length != l2.length) = false := by simp [hl]
    have Hl := Lib.hid hl
    clear hl
    go_enter Try.func15, Try.ntmps15
    go_wp2
    go_loopw [5] (fun i wr => ∃ k : Nat, k ≤ l1.length ∧ i = .int .i64 k ∧ l1.take k = l2.take k ∧ Same w wr) (fun i _ => l1.length - (intOf i).toNat)
    case atStart => exact ⟨0, Nat.zero_le _, rfl, by simp, Same.refl _⟩
    case round =>
      obtain ⟨k, hk, rfl, hall, hs⟩ := hrel
      have Hall := Lib.hid hall
      clear hall
      by_cases hlt : k < l1.length
      · have hlt2 : k < l2.length := by rw [← Hl.out]; exact hlt
        obtain ⟨ad, x, rfl, hx, hc⟩ := (h1.same hs).at_ hlt
        obtain ⟨ad2, y, rfl, hy, hc2⟩ := (h2.same hs).at_ hlt2
        have Hx := Lib.hid hx
        have Hy := Lib.hid hy
        have Hs := Lib.hid hs
        clear hx hy h1 h2 hs
        by_cases hxy : x = y
        · subst hxy
          go_wp2
          go_quiet (fail)
          all_goals go_wp2
          go_roundw
          case rel => exact ⟨k + 1, by omega, by go_num, take_eq_succ Hall.out Hx.out Hy.out, Hs.out.drewN _⟩
          case measure => simp [intOf]; omega
        · have hb2 : (x != y) = true := by simp [hxy]
          have Hxy : Hid (¬ x = y) := hxy
          clear hxy
          go_wp2
          go_quiet (fail)
          all_goals go_wp2
          go_ret
          exact ⟨ret_bool (decide_eq_false (ne_of_get Hx.out Hy.out Hxy.out)).symm, Hs.out.drewN _⟩
      · go_wp2
        go_ret
        exact ⟨ret_bool (decide_eq_true (eq_of_take (by omega) (by rw [← Hl.out]; omega) Hall.out)).symm, hs⟩
  · have hb' : (l1.length != l2.length) = true := by simp [hl]
    have Hl : Hid (¬ l1.length = l2.length) := hl
    clear hl
    go_enter Try.func15, Try.ntmps15
    go_wp2
    go_ret
    exact ⟨ret_bool (by rw [decide_eq_false]; intro e; exact Hl.out (by rw [e])), Same.refl _⟩

/-- The same, met inside a region that draws its order. -/
theorem eqIntS_q {A1 A2 : Option Addr} {c1 c2 : Nat} {l1 l2 : List Int} {w : World} {B n : Nat} {b : Bool} (h1 : RdI w B A1 l1) (h2 : RdI w B A2 l2) (n1 : l1.length ≤ 1048576) (hb : Hid (decide (l1 = l2) = b)) :
    Calls Try.prog 15 #[.slice A1 l1.length c1, .slice A2 l2.length c2] (w.drewN n) fun e w' => e = .returned (.bool b) ∧ ∃ m, w' = w.drewN m :=
  Calls.quiet_of ((eqIntS_any A1 A2 c1 c2 l1 l2 (w.drewN n) B (h1.drewN n) (h2.drewN n) n1).mono fun _ _ ⟨he, hs⟩ => ⟨by rw [he, hb.out], hs⟩)

set_option maxHeartbeats 400000 in
theorem eqIntSS_any (A1 A2 : Option Addr) (c1 c2 : Nat) (l1 l2 : List (List Int)) (w : World) (B : Nat) (h1 : RdR w B A1 l1) (h2 : RdR w B A2 l2) (n1 : l1.length ≤ 1048576)
    (m1 : ∀ r ∈ l1, r.length ≤ 1048576) :
    Calls Try.prog 17 #[.slice A1 l1.length c1, .slice A2 l2.length c2] w fun e w' => e = .returned (.bool (decide (l1 = l2))) ∧ Same w w' := by
  by_cases hl : l1.length = l2.length
  · have hb' : (l1.length != l2.length) = false := by simp [hl]
    have Hl := Lib.hid hl
    clear hl
    go_enter Try.func17, Try.ntmps17
    go_wp2
    go_loopw [5] (fun i wr => ∃ k : Nat, k ≤ l1.length ∧ i = .int .i64 k ∧ l1.take k = l2.take k ∧ Same w wr) (fun i _ => l1.length - (intOf i).toNat)
    case atStart => exact ⟨0, Nat.zero_le _, rfl, by simp, Same.refl _⟩
    case round =>
      obtain ⟨k, hk, rfl, hall, hs⟩ := hrel
      have Hall := Lib.hid hall
      clear hall
      by_cases hlt : k < l1.length
      · have hlt2 : k < l2.length := by rw [← Hl.out]; exact hlt
        obtain ⟨ad, x, Ax, cx, rfl, hx, hc, hrx⟩ := (h1.same hs).at_ hlt
        obtain ⟨ad2, y, Ay, cy, rfl, hy, hc2, hry⟩ := (h2.same hs).at_ hlt2
        have hnx := m1 x (List.mem_of_getElem? hx)
        have Hx := Lib.hid hx
        have Hy := Lib.hid hy
        have Hs := Lib.hid hs
        have Hrx := Lib.hid hrx
        have Hry := Lib.hid hry
        clear hx hy h1 h2 m1 hrx hry hs
        by_cases hxy : x = y
        · have Hd : Hid (decide (x = y) = true) := decide_eq_true hxy
          have Hxy := Lib.hid hxy
          clear hxy
          go_wp2
          go_quiet ((go_at_call 15; exact eqIntS_q Hrx.out Hry.out hnx Hd))
          all_goals go_wp2
          go_roundw
          case rel => exact ⟨k + 1, by omega, by go_num, take_eq_succ Hall.out Hx.out (by rw [Hxy.out]; exact Hy.out), Hs.out.drewN _⟩
          case measure => simp [intOf]; omega
        · have Hd : Hid (decide (x = y) = false) := decide_eq_false hxy
          have Hxy : Hid (¬ x = y) := hxy
          clear hxy
          go_wp2
          go_quiet ((go_at_call 15; exact eqIntS_q Hrx.out Hry.out hnx Hd))
          all_goals go_wp2
          go_ret
          exact ⟨ret_bool (decide_eq_false (ne_of_get Hx.out Hy.out Hxy.out)).symm, Hs.out.drewN _⟩
      · go_wp2
        go_ret
        exact ⟨ret_bool (decide_eq_true (eq_of_take (by omega) (by rw [← Hl.out]; omega) Hall.out)).symm, hs⟩
  · have hb' : (l1.length != l2.length) = true := by simp [hl]
    have Hl : Hid (¬ l1.length = l2.length) := hl
    clear hl
    go_enter Try.func17, Try.ntmps17
    go_wp2
    go_ret
    exact ⟨ret_bool (by rw [decide_eq_false]; intro e; exact Hl.out (by rw [e])), Same.refl _⟩

theorem bk_made (w : World) (t : TypeId) (l : List Int) (z : Value) {n : Nat} : Bk (w.alloc (.cells (madeCells #[z] n) t)) w.heap.size t (ints (l.take 0) ++ List.replicate (n - 0) z) := by
  have e : madeCells #[z] n = (List.replicate n z).toArray := by rw [← toList_madeCells_one]
  rw [e]
  have h := Bk.new w t (List.replicate n z)
  simpa [ints] using h
theorem fill_ints {w : World} {g k n : Nat} {t : TypeId} {l : List Int} {x : Int} (h : Bk w g t (ints (l.take k) ++ List.replicate (n - k) (.int .i64 0))) (hx : l[k]? = some x) (hk : k < n) :
    Bk (w.setCell ⟨g, k, none⟩ (.int .i64 x)) g t (ints (l.take (k + 1)) ++ List.replicate (n - (k + 1)) (.int .i64 0)) := by
  have h2 := h.set_ k (.int .i64 x)
  have hl : k < l.length := (List.getElem?_eq_some_iff.1 hx).1
  rw [fill_set _ _ _ (by simp [ints]; omega) hk] at h2
  rw [take_succ_of hx]
  simpa [ints] using h2

set_option maxHeartbeats 400000 in
theorem toIntS_any (A : Option Addr) (c : Nat) (l : List Int) (w : World) (B : Nat) (h : RdI w B A l) (hB : B ≤ w.heap.size) (hn : l.length ≤ 1048576) :
    Calls Try.prog 38 #[.slice A l.length c] w fun e w' => e = .returned (.slice (some ⟨w.heap.size, 0, none⟩) l.length l.length) ∧ Bk w' w.heap.size 3 (ints l) ∧ Below w.heap.size w w' := by
  have hmk := run_make_row' (P := Try.prog) 28 3 (.int .i64 0) 8 Try.underlying28 Try.infoInt rfl .i64 .i64 l.length (by omega) (by omega)
  go_enter Try.func38, Try.ntmps38
  go_wp2
  clear hmk
  go_loopw [4] (fun i wr => ∃ k : Nat, k ≤ l.length ∧ i = .int .i64 k ∧ Bk wr w.heap.size 3 (ints (l.take k) ++ List.replicate (l.length - k) (.int .i64 0)) ∧ Below w.heap.size w wr) (fun i _ => l.length - (intOf i).toNat)
  case atStart => exact ⟨0, Nat.zero_le _, rfl, bk_made _ _ _ _, (Below.refl _ _).alloc (Nat.le_refl _) _⟩
  case round =>
    obtain ⟨k, hk, rfl, hbk, hbl⟩ := hrel
    have Hbl := Lib.hid hbl
    clear hbl
    by_cases hlt : k < l.length
    · obtain ⟨ad, x, rfl, hx, hc⟩ := (h.below Hbl.out hB).at_ hlt
      have hold : ∃ u, wr.cell? ⟨w.heap.size, k, none⟩ = some u := by
        rw [hbk.cell]; exact get_of_lt _ (by simp [ints]; omega)
      obtain ⟨u, hu⟩ := hold
      have hf := hbk.free k
      have Hx := Lib.hid hx
      have Hbk := Lib.hid hbk
      clear hx h hbk
      go_wp2
      go_roundw
      case rel => exact ⟨k + 1, by omega, by go_num, fill_ints Hbk.out Hx.out hlt, Hbl.out.setCell (Nat.le_refl _) _⟩
      case measure => simp [intOf]; omega
    · go_wp2
      go_ret
      obtain rfl : k = l.length := by omega
      exact ⟨rfl, by simpa using hbk, Hbl.out⟩

set_option maxHeartbeats 400000 in
theorem toIntSS_any (A : Option Addr) (c : Nat) (rows : List (List Int)) (w : World) (B : Nat) (h : RdR w B A rows) (hB : B ≤ w.heap.size) (hn : rows.length ≤ 1048576) (hm : ∀ r ∈ rows, r.length ≤ 1048576) :
    Calls Try.prog 13 #[.slice A rows.length c] w fun e w' => e = .returned (.slice (some ⟨w.heap.size, 0, none⟩) rows.length rows.length) ∧ (∃ gs, OwnR w' 28 3 w.heap.size w.heap.size gs rows) ∧ Below w.heap.size w w' := by
  have hmk := run_make_row' (P := Try.prog) 25 28 (.slice none 0 0) 24 Try.underlying25 Try.infoInts rfl .i64 .i64 rows.length (by omega) (by omega)
  go_enter Try.func13, Try.ntmps13
  go_wp2
  clear hmk
  go_loopw [4] (fun i wr => ∃ gs : List Nat, gs.length ≤ rows.length ∧ i = .int .i64 gs.length ∧ PartR wr 28 3 w.heap.size gs rows ∧ Below w.heap.size w wr) (fun i _ => rows.length - (intOf i).toNat)
  case atStart => exact ⟨[], Nat.zero_le _, rfl, PartR.start (by simpa [ints] using bk_made w 28 [] (.slice none 0 0) (n := rows.length)), (Below.refl _ _).alloc (Nat.le_refl _) _⟩
  case round =>
    obtain ⟨gs, hk, rfl, hp, hbl⟩ := hrel
    by_cases hlt : gs.length < rows.length
    · obtain ⟨ad, r, Ar, cr, rfl, hx, hc, hrd⟩ := (h.below hbl hB).at_ hlt
      have hrn := hm r (List.mem_of_getElem? hx)
      have hsz := hbl.size
      have hgl := hp.top.lt
      have hold := hp.old hlt
      have hfr := hp.top.free gs.length
      have Hbl := Lib.hid hbl
      have Hx := Lib.hid hx
      have Hp := Lib.hid hp
      have Hrd := Lib.hid hrd
      have Hold := Lib.hid hold
      have Hfr := Lib.hid hfr
      clear hx h hp hm hrd hbl hold hfr
      go_wp2_with (go_at_call 38; refine (toIntS_any _ _ _ _ _ Hrd.out (by omega) hrn).mono ?_; rintro e w1 ⟨rfl, hb1, hb2⟩; have hc1 := (hb2.cell (p := ⟨w.heap.size, gs.length, none⟩) hgl).trans Hold.out; have hf1 := (hb2.frozen (p := ⟨w.heap.size, gs.length, none⟩) hgl).trans Hfr.out; have Hb1 := Lib.hid hb1; have Hb2 := Lib.hid hb2; clear hb1 hb2)
      go_roundw
      case rel => exact ⟨gs ++ [wr.heap.size], by rw [List.length_append]; exact hlt, by simp, Hp.out.step Hx.out Hb2.out Hb1.out, (Hbl.out.trans (Hb2.out.mono hsz)).setCell (Nat.le_refl _) _⟩
      case measure => simp [intOf]; omega
    · go_wp2
      go_ret
      exact ⟨rfl, ⟨gs, hp.done (by omega) (Nat.le_refl _)⟩, hbl⟩

set_option maxHeartbeats 400000 in
theorem szIntSS_any (A : Option Addr) (c : Nat) (rows : List (List Int)) (left : Int) (w : World) (B : Nat) (h : RdR w B A rows) (h0 : 0 ≤ left) (h1 : left ≤ 1048576) (hn : rows.length ≤ maxLen) (hm : ∀ r ∈ rows, r.length ≤ maxLen) :
    Calls Try.prog 10 #[.slice A rows.length c, .int .i64 left] w fun e w' => e = .returned (.int .i64 (szLeft left (bulk rows))) ∧ w = w' := by
  unfold maxLen at hn
  by_cases hl : left < rows.length
  · rw [szLeft_no (by unfold bulk; omega)]
    go_enter Try.func10, Try.ntmps10
    go_wp2
    go_ret
    exact ⟨rfl, rfl⟩
  · go_enter Try.func10, Try.ntmps10
    go_wp2
    go_loop [1, 5] (fun l i => ∃ k : Nat, k ≤ rows.length ∧ i = .int .i64 k ∧ ∃ m : Int, m = left - rows.length - ((rows.take k).map List.length).sum ∧ 0 ≤ m ∧ l = .int .i64 m) (fun _ i => rows.length - (intOf i).toNat)
    case atStart => exact ⟨0, Nat.zero_le _, rfl, _, by simp, by omega, rfl⟩
    case round =>
      obtain ⟨k, hk, rfl, m, hmm, hm0, rfl⟩ := hrel
      have hm1 : m ≤ 1048576 := by omega
      by_cases hlt : k < rows.length
      · obtain ⟨ad, r, Ar, cr, rfl, hx, hc, hrd⟩ := h.at_ hlt
        have hrn := hm r (List.mem_of_getElem? hx)
        have e1 := sum_take_succ hx
        have e2 := sum_take_le rows (k + 1)
        by_cases hfit : m < r.length
        · have Hfin : Hid (left < bulk rows) := by unfold bulk; show left < _; omega
          clear hx h hm hmm e1 e2
          go_wp2_with (go_at_call 34; refine (szIntS_any _ _ _ _ _ hm0 hm1 hrn).mono ?_; rintro e w1 ⟨rfl, rfl⟩; rw [szLeft_no hfit])
          go_ret
          exact ⟨ret_int (szLeft_no Hfin.out).symm, rfl⟩
        · have Hnew : Hid (m - r.length = left - rows.length - ((rows.take (k + 1)).map List.length).sum) := by show _ = _; omega
          clear hx h hm hmm e1 e2
          go_wp2_with (go_at_call 34; refine (szIntS_any _ _ _ _ _ hm0 hm1 hrn).mono ?_; rintro e w1 ⟨rfl, rfl⟩; rw [szLeft_yes hfit])
          go_round
          case rel => exact ⟨k + 1, by omega, by go_num, _, Hnew.out, by omega, rfl⟩
          case measure => simp [intOf]; omega
      · obtain rfl : k = rows.length := by omega
        rw [List.take_length] at hmm
        have Hfin : Hid ((bulk rows : Int) ≤ left ∧ m = left - bulk rows) := by
          unfold bulk
          exact ⟨by omega, by omega⟩
        clear hmm
        go_wp2
        go_ret
        exact ⟨ret_int (Hfin.out.2.trans (szLeft_yes (Int.not_lt.2 Hfin.out.1)).symm), rfl⟩

end Go.Proofs.Ytkjhncohanfciaa
