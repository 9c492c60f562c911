/- ValidResume, both sides. -/
import Derived.Test.YtkkgpddpplokfaaGenA
import Derived.Test.YtkkgpddpplokfaaReM
namespace Go.Proofs.Ytkkgpddpplokfaa
open Go.RowKit

/-- A valid resume. -/
def reTop (k : Int) : Int := if k = 1 then 99 else 0
def reOk (x : Re) : Bool := inR x.k 0 3 && inR x.v 0 (reTop x.k)
theorem reTop_val (k : Int) : (k = 1 ∧ reTop k = 99) ∨ (k ≠ 1 ∧ reTop k = 0) := by
  unfold reTop
  by_cases h : k = 1
  · exact .inl ⟨h, if_pos h⟩
  · exact .inr ⟨h, if_neg h⟩

set_option maxHeartbeats 400000 in
theorem toResume1_any (x : Re) (w : World) :
    Calls Try.prog 27 #[.agg #[.int .i64 x.k, .int .i64 x.v]] w fun e w' => e = .returned (.agg #[.int .i64 x.k, .int .i64 x.v]) ∧ Below w.heap.size w w' := by
  go_enter Try.func27, Try.ntmps27
  go_wp2
  refine bodyPost_ret (v := .agg #[.int .i64 x.k, .int .i64 x.v]) (by simp [results, Try.results27, go_sem]) rfl ⟨rfl, ?_⟩
  exact (((Below.refl _ _).alloc (Nat.le_refl _) _).alloc (by simp) _).alloc (by simp; omega) _

set_option maxHeartbeats 1600000 in
theorem implValidResume_any (x : Re) (w : World) :
    Calls Try.prog 28 #[.agg #[.int .i64 x.k, .int .i64 x.v]] w fun e w' => e = .returned (.bool (reOk x)) ∧ Below w.heap.size w w' := by
  have HN := Lib.hid (reTop_val x.k)
  go_enter Try.func28, Try.ntmps28
  go_wp2_with (go_at_call 62; refine (within_any _ _ _ _).mono ?_; rintro e w' ⟨rfl, rfl⟩)
  all_goals
    go_ret
    refine ⟨ret_bool ?_, (Below.refl _ _).alloc (Nat.le_refl _) _⟩
    have hN := HN.out
    clear HN
    rw [Bool.eq_iff_iff]
    simp only [reOk, Bool.and_eq_true, inR_iff, beq_iff_eq, beq_eq_false_iff_ne, Bool.false_eq_true, ne_eq, false_iff] at *
    omega

set_option maxHeartbeats 1600000 in
theorem specvalidResume_any (x : Re) (w : World) :
    Calls Try.prog 63 #[.agg #[.int .i64 x.k, .int .i64 x.v]] w fun e w' => e = .returned (.bool (reOk x)) ∧ Below w.heap.size w w' := by
  have HN := Lib.hid (reTop_val x.k)
  go_enter Try.func63, Try.ntmps63
  go_wp2_with (go_at_call 72; refine (specInR_any _ _ _ _).mono ?_; rintro e w' ⟨rfl, rfl⟩)
  all_goals
    go_ret
    refine ⟨ret_bool ?_, (Below.refl _ _).alloc (Nat.le_refl _) _⟩
    have hN := HN.out
    clear HN
    first
    | (refine (show reOk x = true from ?_).symm
       simp only [reOk, Bool.and_eq_true, inR_iff] at *
       omega)
    | (rw [Bool.eq_iff_iff]
       simp only [reOk, Bool.and_eq_true, inR_iff, beq_iff_eq, Bool.false_eq_true, false_iff] at *
       omega)

set_option maxHeartbeats 400000 in
theorem specValidResume_any (x : Re) (w : World) :
    Calls Try.prog 26 #[.agg #[.int .i64 x.k, .int .i64 x.v]] w fun e w' => e = .returned (.bool (reOk x)) ∧ Below w.heap.size w w' := by
  go_enter Try.func26, Try.ntmps26
  go_wp2_with (go_at_call 63; refine (specvalidResume_any x _).mono ?_; rintro e w1 ⟨rfl, hb1⟩; have Hb1 := Lib.hid hb1; clear hb1)
  go_ret
  exact ⟨rfl, ((Below.refl _ _).alloc (Nat.le_refl _) _).trans (Hb1.out.mono (by simp))⟩

end Go.Proofs.Ytkkgpddpplokfaa
