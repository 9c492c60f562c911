/- Contracts of the functions that test whether lists are sources, the program's and the reference's. -/
import Derived.Test.YtjkieedomljelaaSrcA
import Derived.Deep.QuietTactic
import Derived.BigQuiet
namespace Go.Proofs.Ytjkieedomljelaa
open Go.RowKit

set_option maxHeartbeats 400000 in
theorem validItems_any (A : Option Addr) (c : Nat) (l : List Int) (w : World) (B : Nat) (h : RdI w B A l) (hn : l.length ≤ 1048576) :
    Calls Try.prog 77 #[.slice A l.length c] w fun e w' => e = .returned (.bool (rowOk l)) ∧ w = w' := by
  unfold rowOk
  by_cases hlt : l.length ≤ 12
  · cases hb : allB l 0 99
    all_goals
      have Hb := Lib.hid hb
      clear hb
      go_enter Try.func77, Try.ntmps77
      go_wp2_with (go_at_call 79; refine (allWithin_any _ _ _ _ _ _ _ h hn).mono ?_; rintro e w' ⟨rfl, rfl⟩; rw [Hb.out])
      go_ret
      exact ⟨ret_bool (by simp [hlt]), rfl⟩
  · go_enter Try.func77, Try.ntmps77
    go_wp2
    go_ret
    exact ⟨rfl, rfl⟩

end Go.Proofs.Ytjkieedomljelaa
