/- Codes of generators: what a valid order, code, generator and resume is, by the program and by the reference. -/
import Derived.Test.YtkkgpddpplokfaaOdC
import Derived.Test.YtkkgpddpplokfaaSrcA
namespace Go.Proofs.Ytkkgpddpplokfaa
open Go.RowKit Go.Deep

def nTop (k : Int) : Int := if k = 0 ∨ k = 1 ∨ k = 3 then 99 else 0
def mTop (k n : Int) : Int := if k = 3 ∨ k = 4 then n - 1 else 0
/-- A valid order of a code of n. -/
def odOk (n : Int) (x : Od) : Bool := inR x.k 0 7 && inR x.n 0 (nTop x.k) && inR x.m 0 (mTop x.k n)
theorem nTop_val (k : Int) : (k = 0 ∨ k = 1 ∨ k = 3) ∧ nTop k = 99 ∨ (k ≠ 0 ∧ k ≠ 1 ∧ k ≠ 3) ∧ nTop k = 0 := by
  unfold nTop
  split
  · rename_i h; exact .inl ⟨h, rfl⟩
  · rename_i h; exact .inr ⟨by omega, rfl⟩
theorem mTop_val (k n : Int) : (k = 3 ∨ k = 4) ∧ mTop k n = n - 1 ∨ (k ≠ 3 ∧ k ≠ 4) ∧ mTop k n = 0 := by
  unfold mTop
  split
  · rename_i h; exact .inl ⟨h, rfl⟩
  · rename_i h; exact .inr ⟨by omega, rfl⟩
theorem inR_false {n lo hi : Int} : inR n lo hi = false ↔ n < lo ∨ hi < n := by
  have := @inR_iff n lo hi
  cases h : inR n lo hi
  · simp [h] at this; simp; omega
  · simp [h] at this; simp; omega
/-- A valid code. -/
def codeOk (l : List Od) : Bool := l.all (odOk l.length) && decide (l.length ≤ 10)

set_option maxHeartbeats 1600000 in
theorem implvalidOrder_any (x : Od) (n : Int) (w : World) (hn0 : 0 ≤ n) (hn1 : n ≤ 1048576) :
    Calls Try.prog 59 #[.agg #[.int .i64 x.k, .int .i64 x.n, .int .i64 x.m], .int .i64 n] w fun e w' => e = .returned (.bool (odOk n x)) ∧ Below w.heap.size w w' := by
  have HN := Lib.hid (nTop_val x.k)
  have HM := Lib.hid (mTop_val x.k n)
  go_enter Try.func59, Try.ntmps59
  go_wp2_with (go_at_call 62; refine (within_any _ _ _ _).mono ?_; rintro e w' ⟨rfl, rfl⟩)
  all_goals
    go_ret
    refine ⟨ret_bool ?_, (Below.refl _ _).alloc (Nat.le_refl _) _⟩
    have hN := HN.out
    have hM := HM.out
    clear HN HM
    rw [Bool.eq_iff_iff]
    simp only [odOk, Bool.and_eq_true, inR_iff, beq_iff_eq, beq_eq_false_iff_ne, Bool.false_eq_true, ne_eq, false_iff] at *
    omega

set_option maxHeartbeats 1600000 in
theorem specvalidOrder_any (x : Od) (n : Int) (w : World) (hn0 : 0 ≤ n) (hn1 : n ≤ 1048576) :
    Calls Try.prog 83 #[.agg #[.int .i64 x.k, .int .i64 x.n, .int .i64 x.m], .int .i64 n] w fun e w' => e = .returned (.bool (odOk n x)) ∧ Below w.heap.size w w' := by
  have HN := Lib.hid (nTop_val x.k)
  have HM := Lib.hid (mTop_val x.k n)
  go_enter Try.func83, Try.ntmps83
  go_wp2_with (go_at_call 72; refine (specInR_any _ _ _ _).mono ?_; rintro e w' ⟨rfl, rfl⟩)
  all_goals
    go_ret
    refine ⟨ret_bool ?_, (Below.refl _ _).alloc (Nat.le_refl _) _⟩
    have hN := HN.out
    have hM := HM.out
    clear HN HM
    rw [Bool.eq_iff_iff]
    simp only [odOk, Bool.and_eq_true, inR_iff, beq_iff_eq, beq_eq_false_iff_ne, Bool.false_eq_true, ne_eq, false_iff] at *
    omega

end Go.Proofs.Ytkkgpddpplokfaa
