/- Contracts of the functions on generators. -/
import Derived.Test.YtkkgpddpplokfaaGnM
import Derived.Test.YtkkgpddpplokfaaNodeE
import Derived.Deep.QuietTactic
import Derived.BigQuiet
import Derived.Deep.RegionWith
namespace Go.Proofs.Ytkkgpddpplokfaa
open Go.RowKit

set_option maxHeartbeats 400000 in
theorem toGen_any (x : Gn) (w : World) :
    Calls Try.prog 21 #[.agg #[.int .i64 x.at_, .int .i64 x.sum, .int .i64 x.sent, .int .i64 x.hd, .int .i64 x.ph]] w fun e w' => e = .returned (.agg #[.int .i64 x.at_, .int .i64 x.sum, .int .i64 x.sent, .int .i64 x.hd, .int .i64 x.ph]) ∧ Below w.heap.size w w' := by
  go_enter Try.func21, Try.ntmps21
  go_wp2
  refine bodyPost_ret (v := .agg #[.int .i64 x.at_, .int .i64 x.sum, .int .i64 x.sent, .int .i64 x.hd, .int .i64 x.ph]) (by simp [results, Try.results21, go_sem]) rfl ⟨rfl, ?_⟩
  exact (((Below.refl _ _).alloc (Nat.le_refl _) _).alloc (by simp) _).alloc (by simp; omega) _

set_option maxHeartbeats 800000 in
theorem eqGen_any (x y : Gn) (w : World) :
    Calls Try.prog 25 #[.agg #[.int .i64 x.at_, .int .i64 x.sum, .int .i64 x.sent, .int .i64 x.hd, .int .i64 x.ph], .agg #[.int .i64 y.at_, .int .i64 y.sum, .int .i64 y.sent, .int .i64 y.hd, .int .i64 y.ph]] w
      fun e w' => e = .returned (.bool (gnEq x y)) ∧ Below w.heap.size w w' := by
  go_enter Try.func25, Try.ntmps25
  go_wp2
  all_goals
    go_ret
    refine ⟨ret_bool ?_, ((Below.refl _ _).alloc (Nat.le_refl _) _).alloc (by simp) _⟩
    first | exact (gnEq_no0 (by assumption)).symm | exact (gnEq_no1 (by assumption)).symm | exact (gnEq_no2 (by assumption)).symm | exact (gnEq_no3 (by assumption)).symm | exact (gnEq_no4 (by assumption)).symm | exact (gnEq_yes (by assumption) (by assumption) (by assumption) (by assumption) (by assumption)).symm

/-- n marks, the first number of which is k. -/
def mkGn (n : Nat) (k : Int) : List Gn := (List.range n).map fun i : Nat => ⟨k + 5 * i, k + 5 * i + 1, k + 5 * i + 2, k + 5 * i + 3, k + 5 * i + 4⟩
theorem mkGn_len (n : Nat) (k : Int) : (mkGn n k).length = n := by simp [mkGn]
theorem mkGn_get {n : Nat} {k : Int} {i : Nat} (h : i < n) : (mkGn n k)[i]? = some ⟨k + 5 * i, k + 5 * i + 1, k + 5 * i + 2, k + 5 * i + 3, k + 5 * i + 4⟩ := by simp [mkGn, h]
theorem mkGn_at {n : Nat} {k m : Int} {i : Nat} (h : i < n) (hm : m = k + 5 * i) : (mkGn n k)[i]? = some ⟨m, m + 1, m + 2, m + 3, m + 4⟩ := by rw [mkGn_get h, hm]

end Go.Proofs.Ytkkgpddpplokfaa
