/- Contracts of the functions on states (a box of a slice of cells), and of those that make new ones. -/
import Derived.Test.YtjfdbcbmpgnahaaClC
import Derived.Test.YtjfdbcbmpgnahaaPipeS
import Derived.Deep.DeepMust
namespace Go.Proofs.Ytjfdbcbmpgnahaa
open Go.RowKit

set_option maxHeartbeats 800000 in
theorem eqState_any (A1 A2 : Option Addr) (c1 c2 : Nat) (l1 l2 : List Cl) (w : World) (B : Nat) (h1 : RdCl w B A1 l1) (h2 : RdCl w B A2 l2) (hB : B ≤ w.heap.size) (n1 : l1.length ≤ 1048576) :
    Calls Try.prog 41 #[.agg #[.slice A1 l1.length c1], .agg #[.slice A2 l2.length c2]] w fun e w' => e = .returned (.bool (decide (l1 = l2))) ∧ Below w.heap.size w w' := by
  have hB0 := ((Below.refl w.heap.size w).alloc (Nat.le_refl _) (.cells #[.slice A1 l1.length c1] 57)).alloc (by simp) (.cells #[.slice A2 l2.length c2] 57)
  cases hd : decide (l1 = l2)
  all_goals
    have Hd := Lib.hid hd
    have Hh1 := Lib.hid h1
    have Hh2 := Lib.hid h2
    have HB0 := Lib.hid hB0
    clear hd h1 h2 hB0
    go_enter Try.func41, Try.ntmps41
    go_wp2_with fail
    refine (eqCellS_any _ _ _ _ _ _ _ B (Hh1.out.below HB0.out hB) (Hh2.out.below HB0.out hB) (by simp; omega) n1).mono ?_
    rintro e w1 ⟨rfl, hb⟩
    rw [Hd.out]
    have Hb := Lib.hid hb
    clear hb
    go_wp2_with fail
    go_ret
    exact ⟨rfl, HB0.out.trans (Hb.out.mono (by simp; omega))⟩

set_option maxHeartbeats 800000 in
theorem szState_any (A : Option Addr) (n c : Nat) (left : Int) (w : World) (h0 : 0 ≤ left) (h1 : left ≤ 1048576) (hn : n ≤ maxLen) :
    Calls Try.prog 37 #[.agg #[.slice A n c], .int .i64 left] w fun e w' => e = .returned (.int .i64 (szLeft left n)) ∧ Below w.heap.size w w' := by
  by_cases h : left < n
  · have Hz := Lib.hid (szLeft_no h)
    go_enter Try.func37, Try.ntmps37
    go_wp2_with (go_at_call 79; refine (szCellS_any _ _ _ _ _ h0 h1 hn).mono ?_; rintro e w1 ⟨rfl, rfl⟩; rw [Hz.out])
    go_ret
    exact ⟨ret_int Hz.out.symm, (Below.refl _ _).alloc (Nat.le_refl _) _⟩
  · have Hz := Lib.hid (szLeft_yes h)
    go_enter Try.func37, Try.ntmps37
    go_wp2_with (go_at_call 79; refine (szCellS_any _ _ _ _ _ h0 h1 hn).mono ?_; rintro e w1 ⟨rfl, rfl⟩; rw [Hz.out])
    go_ret
    exact ⟨ret_int Hz.out.symm, (Below.refl _ _).alloc (Nat.le_refl _) _⟩

set_option maxHeartbeats 800000 in
theorem toState_any (A : Option Addr) (c : Nat) (l : List Cl) (w : World) (B : Nat) (h : RdCl w B A l) (hB : B ≤ w.heap.size) (hn : l.length ≤ 1048576) :
    Calls Try.prog 39 #[.agg #[.slice A l.length c]] w fun e w' => ∃ g, e = .returned (.agg #[.slice (some ⟨g, 0, none⟩) l.length l.length]) ∧ w.heap.size ≤ g ∧ OwnCl w' w.heap.size w'.heap.size (some ⟨g, 0, none⟩) l ∧ Below w.heap.size w w' := by
  go_enter Try.func39, Try.ntmps39
  have Hh := Lib.hid h
  clear h
  go_wp2_with fail
  have hB0 := (((Below.refl w.heap.size w).alloc (Nat.le_refl _) (.cells #[.slice A l.length c] 52)).alloc (by simp) (.cells #[.slice none 0 0] 57)).alloc (by simp; omega) (.cells #[.slice none 0 0] 57)
  refine (toCellS_any A c l _ B (Hh.out.below hB0 hB) (by simp; omega) hn).mono ?_
  rintro e w1 ⟨rfl, hb1, hlt, hb2⟩
  simp only [World.size_alloc] at hb1 hb2 hlt
  have d1 : w1.cell? ⟨w.heap.size + 1, 0, none⟩ = some (.slice none 0 0) := (hb2.cell (p := ⟨w.heap.size + 1, 0, none⟩) (by simp)).trans (by simp [go_sem])
  have f1 : w1.frozen? ⟨w.heap.size + 1, 0, none⟩ = false := (hb2.frozen (p := ⟨w.heap.size + 1, 0, none⟩) (by simp)).trans (by simp [go_sem])
  have d2 : w1.cell? ⟨w.heap.size + 2, 0, none⟩ = some (.slice none 0 0) := (hb2.cell (p := ⟨w.heap.size + 2, 0, none⟩) (by simp)).trans (by simp [go_sem])
  have f2 : w1.frozen? ⟨w.heap.size + 2, 0, none⟩ = false := (hb2.frozen (p := ⟨w.heap.size + 2, 0, none⟩) (by simp)).trans (by simp [go_sem])
  have Hb1 := Lib.hid hb1
  have Hb2 := Lib.hid hb2
  have HB0 := Lib.hid hB0
  clear hb1 hb2 hB0
  go_wp2
  refine bodyPost_ret (v := .agg #[.slice (some ⟨w.heap.size + 3, 0, none⟩) l.length l.length]) (by simp [results, Try.results39, go_sem, d1]) rfl ⟨_, rfl, by omega, ?_, ?_⟩
  · refine OwnCl.wide (lo := w.heap.size + 3) (hi := w.heap.size + 4) ?_ (by omega) (by simp [World.setCell]; omega)
    refine Hb1.out.agree fun b h1 h2 => ?_
    rw [Below.heap_setCell _ _ _ _ (by show b ≠ _; simp; omega), Below.heap_setCell _ _ _ _ (by show b ≠ _; simp; omega)]
  · exact ((HB0.out.trans (Hb2.out.mono (by omega))).setCell (by show w.heap.size ≤ w.heap.size + 2; omega) _).setCell (by show w.heap.size ≤ w.heap.size + 1; omega) _

set_option maxHeartbeats 800000 in
theorem heldState_any (A : Option Addr) (c n : Nat) (k : Int) (w : World) (B : Nat) (h : RdCl w B A (mkCl n k)) (hB : B ≤ w.heap.size) (hn : n ≤ 1048576) (hk0 : 0 ≤ k) (hk1 : k ≤ 16777216) :
    Calls Try.prog 45 #[.agg #[.slice A n c], .int .i64 k] w fun e w' => e = .returned (.int .i64 (k + 6 * n)) ∧ Below w.heap.size w w' := by
  have hb0 := (Below.refl w.heap.size w).alloc (Nat.le_refl _) (.cells #[.slice A n c] 57)
  have Hh := Lib.hid (h.below hb0 hB)
  have Hb0 := Lib.hid hb0
  have hpos : (0 : Int) ≤ k + 6 * n := by omega
  clear h hb0
  go_enter Try.func45, Try.ntmps45
  go_wp2_with fail
  refine (heldCellS_any A c n k _ B Hh.out hn hk0 hk1).mono ?_
  rintro e w1 ⟨rfl, rfl⟩
  go_wp2_with fail
  go_ret
  exact ⟨rfl, Hb0.out⟩

set_option maxHeartbeats 800000 in
theorem markState_h {lo hi : Nat} {A : Option Addr} {c : Nat} {l : List Cl} {w : World} (k : Int) (h : OwnCl w lo hi A l) (hn : l.length ≤ 1048576) (hk0 : 0 ≤ k) (hk1 : k ≤ 16777216) (hhi : hi ≤ w.heap.size) :
    Calls Try.prog 44 #[.agg #[.slice A l.length c], .int .i64 k] w fun e w' => e = .returned (.int .i64 (k + 6 * l.length)) ∧ OwnCl w' lo hi A (mkCl l.length k) ∧ Chg lo hi w w' := by
  have hb0 := (Below.refl w.heap.size w).alloc (Nat.le_refl _) (.cells #[.slice A l.length c] 57)
  have Hh : Hid (OwnCl (w.alloc (.cells #[.slice A l.length c] 57)) lo hi A l) := Lib.hid (h.agree fun b h1 h2 => hb0.block b (by omega))
  have Hb0 := Lib.hid hb0
  clear h hb0
  go_enter Try.func44, Try.ntmps44
  go_wp2_with fail
  refine (markCellS_h k Hh.out hn hk0 hk1).mono ?_
  rintro e w1 ⟨rfl, ho, hc⟩
  have Ho := Lib.hid ho
  have Hc := Lib.hid hc
  clear ho hc
  go_wp2_with fail
  go_ret
  exact ⟨rfl, Ho.out, (Chg.of_below Hb0.out).trans Hc.out⟩

end Go.Proofs.Ytjfdbcbmpgnahaa
