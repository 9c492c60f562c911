/- Contracts of the functions on one node. -/
import Derived.Test.YtkjhncohanfciaaSrcA
import Derived.Deep.QuietTactic
import Derived.BigQuiet
namespace Go.Proofs.Ytkjhncohanfciaa
open Go.RowKit

set_option maxHeartbeats 400000 in
theorem toNode_any (x : Nd) (w : World) :
    Calls Try.prog 58 #[.agg #[.int .i64 x.k, .int .i64 x.a, .int .i64 x.b, .int .i64 x.n, .int .i64 x.m]] w fun e w' => e = .returned (.agg #[.int .i64 x.k, .int .i64 x.a, .int .i64 x.b, .int .i64 x.n, .int .i64 x.m]) ∧ Below w.heap.size w w' := by
  go_enter Try.func58, Try.ntmps58
  go_wp2
  refine bodyPost_ret (v := .agg #[.int .i64 x.k, .int .i64 x.a, .int .i64 x.b, .int .i64 x.n, .int .i64 x.m]) (by simp [results, Try.results58, go_sem]) rfl ⟨rfl, ?_⟩
  exact (((Below.refl _ _).alloc (Nat.le_refl _) _).alloc (by simp) _).alloc (by simp; omega) _

set_option maxHeartbeats 400000 in
theorem eqNode_any (x y : Nd) (w : World) :
    Calls Try.prog 67 #[.agg #[.int .i64 x.k, .int .i64 x.a, .int .i64 x.b, .int .i64 x.n, .int .i64 x.m], .agg #[.int .i64 y.k, .int .i64 y.a, .int .i64 y.b, .int .i64 y.n, .int .i64 y.m]] w
      fun e w' => e = .returned (.bool (ndEq x y)) ∧ Below w.heap.size w w' := by
  go_enter Try.func67, Try.ntmps67
  go_wp2
  all_goals
    go_ret
    refine ⟨ret_bool ?_, ((Below.refl _ _).alloc (Nat.le_refl _) _).alloc (by simp) _⟩
    first | exact (ndEq_no (.inl (by assumption))).symm | exact (ndEq_no (.inr (.inl (by assumption)))).symm | exact (ndEq_no (.inr (.inr (.inl (by assumption))))).symm | exact (ndEq_no (.inr (.inr (.inr (.inl (by assumption)))))).symm | exact (ndEq_no (.inr (.inr (.inr (.inr (by assumption)))))).symm | exact (ndEq_yes (by assumption) (by assumption) (by assumption) (by assumption) (by assumption)).symm

end Go.Proofs.Ytkjhncohanfciaa
