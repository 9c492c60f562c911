/- Contracts of the functions that test whether lists are sources, the program's and the reference's. -/
import Derived.Test.YtjfdbcbmpgnahaaSrcA
import Derived.Deep.QuietTactic
import Derived.BigQuiet
namespace Go.Proofs.Ytjfdbcbmpgnahaa
open Go.RowKit

set_option maxHeartbeats 400000 in
theorem validItems_any (A : Option Addr) (c : Nat) (l : List Int) (w : World) (B : Nat) (h : RdI w B A l) (hn : l.length ≤ 1048576) :
    Calls Try.prog 99 #[.slice A l.length c] w fun e w' => e = .returned (.bool (rowOk l)) ∧ w = w' := by
  unfold rowOk
  by_cases hlt : l.length ≤ 12
  · cases hb : allB l 0 99
    all_goals
      have Hb := Lib.hid hb
      clear hb
      go_enter Try.func99, Try.ntmps99
      go_wp2_with (go_at_call 72; refine (allWithin_any _ _ _ _ _ _ _ h hn).mono ?_; rintro e w' ⟨rfl, rfl⟩; rw [Hb.out])
      go_ret
      exact ⟨ret_bool (by simp [hlt]), rfl⟩
  · go_enter Try.func99, Try.ntmps99
    go_wp2
    go_ret
    exact ⟨rfl, rfl⟩

set_option maxHeartbeats 400000 in
theorem implValidSources_any (A : Option Addr) (c : Nat) (rows : List (List Int)) (w : World) (B : Nat) (h : RdR w B A rows) (hn : rows.length ≤ 1048576) (hr : ∀ r ∈ rows, r.length ≤ 1048576) :
    Calls Try.prog 63 #[.slice A rows.length c] w fun e w' => e = .returned (.bool (srcOk rows)) ∧ w = w' := by
  by_cases h3 : rows.length = 3
  · have h3' : ((rows.length : Int) != 3) = false := by simp [h3]
    have H3 := Lib.hid h3
    clear h3
    go_enter Try.func63, Try.ntmps63
    go_wp2
    go_loop [10] (fun i => ∃ k : Nat, k ≤ rows.length ∧ i = .int .i64 k ∧ (rows.take k).all rowOk = true) (fun i => rows.length - (intOf i).toNat)
    case atStart => exact ⟨0, Nat.zero_le _, rfl, by simp⟩
    case round =>
      obtain ⟨k, hk, rfl, hall⟩ := hrel
      have Hall := Lib.hid hall
      clear hall
      by_cases hlt : k < rows.length
      · obtain ⟨ad, r, Ar, cr, rfl, hx, hc, hrd⟩ := h.at_ hlt
        have hrn := hr r (List.mem_of_getElem? hx)
        have Hx := Lib.hid hx
        have Hrd := Lib.hid hrd
        clear hx h hr hrd
        cases hin : rowOk r
        · have Hin := Lib.hid hin
          clear hin
          go_wp2_with (go_at_call 99; refine (validItems_any _ _ _ _ _ Hrd.out hrn).mono ?_; rintro e w' ⟨rfl, rfl⟩; rw [Hin.out])
          go_ret
          exact ⟨ret_bool (by rw [srcOk, all_false_of Hx.out Hin.out]; rfl), rfl⟩
        · have Hin := Lib.hid hin
          clear hin
          go_wp2_with (go_at_call 99; refine (validItems_any _ _ _ _ _ Hrd.out hrn).mono ?_; rintro e w' ⟨rfl, rfl⟩; rw [Hin.out])
          go_round
          case rel => exact ⟨k + 1, by omega, by go_num, all_take_succ Hx.out Hin.out Hall.out⟩
          case measure => simp [intOf]; omega
      · go_wp2
        go_ret
        exact ⟨ret_bool (by rw [srcOk, all_of_take (by omega) Hall.out, H3.out]; rfl), rfl⟩
  · have h3' : ((rows.length : Int) != 3) = true := by simp; omega
    have H3 : Hid (rows.length ≠ 3) := h3
    clear h3
    go_enter Try.func63, Try.ntmps63
    go_wp2
    go_ret
    exact ⟨ret_bool (by simp [srcOk, H3.out]), rfl⟩

set_option maxHeartbeats 400000 in
theorem specvalidSources_any (A : Option Addr) (c : Nat) (rows : List (List Int)) (w : World) (B : Nat) (h : RdR w B A rows) (hn : rows.length ≤ 1048576) (hr : ∀ r ∈ rows, r.length ≤ 1048576) :
    Calls Try.prog 92 #[.slice A rows.length c] w fun e w' => e = .returned (.bool (srcOk rows)) ∧ w = w' := by
  go_enter Try.func92, Try.ntmps92
  go_wp2
  go_loop [3] (fun i => ∃ k : Nat, k ≤ rows.length ∧ i = .int .i64 k ∧ (rows.take k).all rowOk = true) (fun i => rows.length - (intOf i).toNat)
  case atStart => exact ⟨0, Nat.zero_le _, rfl, by simp⟩
  case round =>
    obtain ⟨k, hk, rfl, hall⟩ := hrel
    have Hall := Lib.hid hall
    clear hall
    by_cases hlt : k < rows.length
    · obtain ⟨ad, r, Ar, cr, rfl, hx, hc, hrd⟩ := h.at_ hlt
      have hrn := hr r (List.mem_of_getElem? hx)
      have Hx := Lib.hid hx
      have Hrd := Lib.hid hrd
      clear hx h hr hrd
      by_cases h12 : r.length ≤ 12
      · cases hb : allB r 0 99
        · have Hb := Lib.hid hb
          clear hb
          go_wp2_with (go_at_call 71; refine (allIn_any _ _ _ _ _ _ _ Hrd.out hrn).mono ?_; rintro e w' ⟨rfl, rfl⟩; rw [Hb.out])
          go_ret
          exact ⟨ret_bool (by rw [srcOk, all_false_of Hx.out (by rw [rowOk, Hb.out, Bool.and_false])]; rfl), rfl⟩
        · have Hb := Lib.hid hb
          clear hb
          go_wp2_with (go_at_call 71; refine (allIn_any _ _ _ _ _ _ _ Hrd.out hrn).mono ?_; rintro e w' ⟨rfl, rfl⟩; rw [Hb.out])
          go_round
          case rel => exact ⟨k + 1, by omega, by go_num, all_take_succ Hx.out (by rw [rowOk, Hb.out, decide_eq_true h12]; rfl) Hall.out⟩
          case measure => simp [intOf]; omega
      · go_wp2
        go_ret
        exact ⟨ret_bool (by rw [srcOk, all_false_of Hx.out (by rw [rowOk, decide_eq_false h12, Bool.false_and])]; rfl), rfl⟩
    · go_wp2
      go_ret
      exact ⟨ret_bool (by rw [srcOk, all_of_take (by omega) Hall.out, Bool.true_and]; exact beq_three _), rfl⟩

end Go.Proofs.Ytjfdbcbmpgnahaa
