/- Contracts of the functions that look at the numbers of a node, the reference's and the program's. -/
import Derived.Test.YtkjhncohanfciaaNodeA
namespace Go.Proofs.Ytkjhncohanfciaa
open Go.RowKit

set_option maxHeartbeats 400000 in
theorem goodNumbers_k0_no1 (a b n m : Int) (w : World) (h : Hid (inR n 0 2 = false)) :
    Calls Try.prog 68 #[.agg #[.int .i64 0, .int .i64 a, .int .i64 b, .int .i64 n, .int .i64 m]] w fun e w' => e = .returned (.bool false) ∧ Below w.heap.size w w' := by
  go_enter Try.func68, Try.ntmps68
  go_wp2_with (first | (go_at_call 50; refine (specInR_any _ _ _ _).mono ?_; rintro e w1 ⟨rfl, rfl⟩; rw [h.out]))
  go_ret
  exact ⟨rfl, (Below.refl _ _).alloc (Nat.le_refl _) _⟩

set_option maxHeartbeats 400000 in
theorem goodNumbers_k0_no2 (a b n m : Int) (w : World) (h : Hid (inR n 0 2 = true)) (hm : (m == 0) = false) :
    Calls Try.prog 68 #[.agg #[.int .i64 0, .int .i64 a, .int .i64 b, .int .i64 n, .int .i64 m]] w fun e w' => e = .returned (.bool false) ∧ Below w.heap.size w w' := by
  go_enter Try.func68, Try.ntmps68
  go_wp2_with (first | (go_at_call 50; refine (specInR_any _ _ _ _).mono ?_; rintro e w1 ⟨rfl, rfl⟩; rw [h.out]))
  go_ret
  exact ⟨rfl, (Below.refl _ _).alloc (Nat.le_refl _) _⟩

set_option maxHeartbeats 400000 in
theorem goodNumbers_k0_yes (a b n m : Int) (w : World) (h : Hid (inR n 0 2 = true)) (hm : (m == 0) = true) :
    Calls Try.prog 68 #[.agg #[.int .i64 0, .int .i64 a, .int .i64 b, .int .i64 n, .int .i64 m]] w fun e w' => e = .returned (.bool true) ∧ Below w.heap.size w w' := by
  go_enter Try.func68, Try.ntmps68
  go_wp2_with (first | (go_at_call 50; refine (specInR_any _ _ _ _).mono ?_; rintro e w1 ⟨rfl, rfl⟩; rw [h.out]))
  go_ret
  exact ⟨rfl, (Below.refl _ _).alloc (Nat.le_refl _) _⟩

set_option maxHeartbeats 400000 in
theorem goodNumbers_k1_no1 (a b n m : Int) (w : World) (h : Hid (inR n 0 99 = false)) :
    Calls Try.prog 68 #[.agg #[.int .i64 1, .int .i64 a, .int .i64 b, .int .i64 n, .int .i64 m]] w fun e w' => e = .returned (.bool false) ∧ Below w.heap.size w w' := by
  go_enter Try.func68, Try.ntmps68
  go_wp2_with (first | (go_at_call 50; refine (specInR_any _ _ _ _).mono ?_; rintro e w1 ⟨rfl, rfl⟩; rw [h.out]))
  go_ret
  exact ⟨rfl, (Below.refl _ _).alloc (Nat.le_refl _) _⟩

set_option maxHeartbeats 400000 in
theorem goodNumbers_k1_no2 (a b n m : Int) (w : World) (h : Hid (inR n 0 99 = true)) (g : Hid (inR m 0 (99) = false)) :
    Calls Try.prog 68 #[.agg #[.int .i64 1, .int .i64 a, .int .i64 b, .int .i64 n, .int .i64 m]] w fun e w' => e = .returned (.bool false) ∧ Below w.heap.size w w' := by
  go_enter Try.func68, Try.ntmps68
  go_wp2_with fail
  refine (specInR_any _ _ _ _).mono ?_
  rintro e w1 ⟨rfl, rfl⟩
  rw [h.out]
  go_wp2_with fail
  refine (specInR_any _ _ _ _).mono ?_
  rintro e w1 ⟨rfl, rfl⟩
  rw [g.out]
  go_wp2_with fail
  go_ret
  exact ⟨rfl, (Below.refl _ _).alloc (Nat.le_refl _) _⟩

set_option maxHeartbeats 400000 in
theorem goodNumbers_k1_yes (a b n m : Int) (w : World) (h : Hid (inR n 0 99 = true)) (g : Hid (inR m 0 (99) = true)) :
    Calls Try.prog 68 #[.agg #[.int .i64 1, .int .i64 a, .int .i64 b, .int .i64 n, .int .i64 m]] w fun e w' => e = .returned (.bool true) ∧ Below w.heap.size w w' := by
  go_enter Try.func68, Try.ntmps68
  go_wp2_with fail
  refine (specInR_any _ _ _ _).mono ?_
  rintro e w1 ⟨rfl, rfl⟩
  rw [h.out]
  go_wp2_with fail
  refine (specInR_any _ _ _ _).mono ?_
  rintro e w1 ⟨rfl, rfl⟩
  rw [g.out]
  go_wp2_with fail
  go_ret
  exact ⟨rfl, (Below.refl _ _).alloc (Nat.le_refl _) _⟩

set_option maxHeartbeats 400000 in
theorem goodNumbers_k2_no1 (a b n m : Int) (w : World) (h : Hid (inR n 1 30 = false)) :
    Calls Try.prog 68 #[.agg #[.int .i64 2, .int .i64 a, .int .i64 b, .int .i64 n, .int .i64 m]] w fun e w' => e = .returned (.bool false) ∧ Below w.heap.size w w' := by
  go_enter Try.func68, Try.ntmps68
  go_wp2_with (first | (go_at_call 50; refine (specInR_any _ _ _ _).mono ?_; rintro e w1 ⟨rfl, rfl⟩; rw [h.out]))
  go_ret
  exact ⟨rfl, (Below.refl _ _).alloc (Nat.le_refl _) _⟩

set_option maxHeartbeats 400000 in
theorem goodNumbers_k2_no2 (a b n m : Int) (w : World) (h : Hid (inR n 1 30 = true)) (g : Hid (inR m 0 (n - 1) = false)) (h1 : 1 ≤ n) (h2 : n ≤ 30) :
    Calls Try.prog 68 #[.agg #[.int .i64 2, .int .i64 a, .int .i64 b, .int .i64 n, .int .i64 m]] w fun e w' => e = .returned (.bool false) ∧ Below w.heap.size w w' := by
  go_enter Try.func68, Try.ntmps68
  go_wp2_with fail
  refine (specInR_any _ _ _ _).mono ?_
  rintro e w1 ⟨rfl, rfl⟩
  rw [h.out]
  go_wp2_with fail
  refine (specInR_any _ _ _ _).mono ?_
  rintro e w1 ⟨rfl, rfl⟩
  rw [g.out]
  go_wp2_with fail
  go_ret
  exact ⟨rfl, (Below.refl _ _).alloc (Nat.le_refl _) _⟩

set_option maxHeartbeats 400000 in
theorem goodNumbers_k2_yes (a b n m : Int) (w : World) (h : Hid (inR n 1 30 = true)) (g : Hid (inR m 0 (n - 1) = true)) (h1 : 1 ≤ n) (h2 : n ≤ 30) :
    Calls Try.prog 68 #[.agg #[.int .i64 2, .int .i64 a, .int .i64 b, .int .i64 n, .int .i64 m]] w fun e w' => e = .returned (.bool true) ∧ Below w.heap.size w w' := by
  go_enter Try.func68, Try.ntmps68
  go_wp2_with fail
  refine (specInR_any _ _ _ _).mono ?_
  rintro e w1 ⟨rfl, rfl⟩
  rw [h.out]
  go_wp2_with fail
  refine (specInR_any _ _ _ _).mono ?_
  rintro e w1 ⟨rfl, rfl⟩
  rw [g.out]
  go_wp2_with fail
  go_ret
  exact ⟨rfl, (Below.refl _ _).alloc (Nat.le_refl _) _⟩

set_option maxHeartbeats 400000 in
theorem goodNumbers_k3_no1 (a b n m : Int) (w : World) (h : Hid (inR n 0 30 = false)) :
    Calls Try.prog 68 #[.agg #[.int .i64 3, .int .i64 a, .int .i64 b, .int .i64 n, .int .i64 m]] w fun e w' => e = .returned (.bool false) ∧ Below w.heap.size w w' := by
  go_enter Try.func68, Try.ntmps68
  go_wp2_with (first | (go_at_call 50; refine (specInR_any _ _ _ _).mono ?_; rintro e w1 ⟨rfl, rfl⟩; rw [h.out]))
  go_ret
  exact ⟨rfl, (Below.refl _ _).alloc (Nat.le_refl _) _⟩

set_option maxHeartbeats 400000 in
theorem goodNumbers_k3_no2 (a b n m : Int) (w : World) (h : Hid (inR n 0 30 = true)) (hm : (m == 0) = false) :
    Calls Try.prog 68 #[.agg #[.int .i64 3, .int .i64 a, .int .i64 b, .int .i64 n, .int .i64 m]] w fun e w' => e = .returned (.bool false) ∧ Below w.heap.size w w' := by
  go_enter Try.func68, Try.ntmps68
  go_wp2_with (first | (go_at_call 50; refine (specInR_any _ _ _ _).mono ?_; rintro e w1 ⟨rfl, rfl⟩; rw [h.out]))
  go_ret
  exact ⟨rfl, (Below.refl _ _).alloc (Nat.le_refl _) _⟩

set_option maxHeartbeats 400000 in
theorem goodNumbers_k3_yes (a b n m : Int) (w : World) (h : Hid (inR n 0 30 = true)) (hm : (m == 0) = true) :
    Calls Try.prog 68 #[.agg #[.int .i64 3, .int .i64 a, .int .i64 b, .int .i64 n, .int .i64 m]] w fun e w' => e = .returned (.bool true) ∧ Below w.heap.size w w' := by
  go_enter Try.func68, Try.ntmps68
  go_wp2_with (first | (go_at_call 50; refine (specInR_any _ _ _ _).mono ?_; rintro e w1 ⟨rfl, rfl⟩; rw [h.out]))
  go_ret
  exact ⟨rfl, (Below.refl _ _).alloc (Nat.le_refl _) _⟩

set_option maxHeartbeats 400000 in
theorem goodNumbers_k4_no1 (a b n m : Int) (w : World) (h : Hid (inR n 0 30 = false)) :
    Calls Try.prog 68 #[.agg #[.int .i64 4, .int .i64 a, .int .i64 b, .int .i64 n, .int .i64 m]] w fun e w' => e = .returned (.bool false) ∧ Below w.heap.size w w' := by
  go_enter Try.func68, Try.ntmps68
  go_wp2_with (first | (go_at_call 50; refine (specInR_any _ _ _ _).mono ?_; rintro e w1 ⟨rfl, rfl⟩; rw [h.out]))
  go_ret
  exact ⟨rfl, (Below.refl _ _).alloc (Nat.le_refl _) _⟩

set_option maxHeartbeats 400000 in
theorem goodNumbers_k4_no2 (a b n m : Int) (w : World) (h : Hid (inR n 0 30 = true)) (hm : (m == 0) = false) :
    Calls Try.prog 68 #[.agg #[.int .i64 4, .int .i64 a, .int .i64 b, .int .i64 n, .int .i64 m]] w fun e w' => e = .returned (.bool false) ∧ Below w.heap.size w w' := by
  go_enter Try.func68, Try.ntmps68
  go_wp2_with (first | (go_at_call 50; refine (specInR_any _ _ _ _).mono ?_; rintro e w1 ⟨rfl, rfl⟩; rw [h.out]))
  go_ret
  exact ⟨rfl, (Below.refl _ _).alloc (Nat.le_refl _) _⟩

set_option maxHeartbeats 400000 in
theorem goodNumbers_k4_yes (a b n m : Int) (w : World) (h : Hid (inR n 0 30 = true)) (hm : (m == 0) = true) :
    Calls Try.prog 68 #[.agg #[.int .i64 4, .int .i64 a, .int .i64 b, .int .i64 n, .int .i64 m]] w fun e w' => e = .returned (.bool true) ∧ Below w.heap.size w w' := by
  go_enter Try.func68, Try.ntmps68
  go_wp2_with (first | (go_at_call 50; refine (specInR_any _ _ _ _).mono ?_; rintro e w1 ⟨rfl, rfl⟩; rw [h.out]))
  go_ret
  exact ⟨rfl, (Below.refl _ _).alloc (Nat.le_refl _) _⟩

set_option maxHeartbeats 400000 in
theorem goodNumbers_k5_no1 (a b n m : Int) (w : World) (h : Hid (inR n 0 99 = false)) :
    Calls Try.prog 68 #[.agg #[.int .i64 5, .int .i64 a, .int .i64 b, .int .i64 n, .int .i64 m]] w fun e w' => e = .returned (.bool false) ∧ Below w.heap.size w w' := by
  go_enter Try.func68, Try.ntmps68
  go_wp2_with (first | (go_at_call 50; refine (specInR_any _ _ _ _).mono ?_; rintro e w1 ⟨rfl, rfl⟩; rw [h.out]))
  go_ret
  exact ⟨rfl, (Below.refl _ _).alloc (Nat.le_refl _) _⟩

set_option maxHeartbeats 400000 in
theorem goodNumbers_k5_no2 (a b n m : Int) (w : World) (h : Hid (inR n 0 99 = true)) (hm : (m == 0) = false) :
    Calls Try.prog 68 #[.agg #[.int .i64 5, .int .i64 a, .int .i64 b, .int .i64 n, .int .i64 m]] w fun e w' => e = .returned (.bool false) ∧ Below w.heap.size w w' := by
  go_enter Try.func68, Try.ntmps68
  go_wp2_with (first | (go_at_call 50; refine (specInR_any _ _ _ _).mono ?_; rintro e w1 ⟨rfl, rfl⟩; rw [h.out]))
  go_ret
  exact ⟨rfl, (Below.refl _ _).alloc (Nat.le_refl _) _⟩

set_option maxHeartbeats 400000 in
theorem goodNumbers_k5_yes (a b n m : Int) (w : World) (h : Hid (inR n 0 99 = true)) (hm : (m == 0) = true) :
    Calls Try.prog 68 #[.agg #[.int .i64 5, .int .i64 a, .int .i64 b, .int .i64 n, .int .i64 m]] w fun e w' => e = .returned (.bool true) ∧ Below w.heap.size w w' := by
  go_enter Try.func68, Try.ntmps68
  go_wp2_with (first | (go_at_call 50; refine (specInR_any _ _ _ _).mono ?_; rintro e w1 ⟨rfl, rfl⟩; rw [h.out]))
  go_ret
  exact ⟨rfl, (Below.refl _ _).alloc (Nat.le_refl _) _⟩

set_option maxHeartbeats 400000 in
theorem goodNumbers_k6_no1 (a b n m : Int) (w : World) (h : Hid (inR n 0 99 = false)) :
    Calls Try.prog 68 #[.agg #[.int .i64 6, .int .i64 a, .int .i64 b, .int .i64 n, .int .i64 m]] w fun e w' => e = .returned (.bool false) ∧ Below w.heap.size w w' := by
  go_enter Try.func68, Try.ntmps68
  go_wp2_with (first | (go_at_call 50; refine (specInR_any _ _ _ _).mono ?_; rintro e w1 ⟨rfl, rfl⟩; rw [h.out]))
  go_ret
  exact ⟨rfl, (Below.refl _ _).alloc (Nat.le_refl _) _⟩

set_option maxHeartbeats 400000 in
theorem goodNumbers_k6_no2 (a b n m : Int) (w : World) (h : Hid (inR n 0 99 = true)) (hm : (m == 0) = false) :
    Calls Try.prog 68 #[.agg #[.int .i64 6, .int .i64 a, .int .i64 b, .int .i64 n, .int .i64 m]] w fun e w' => e = .returned (.bool false) ∧ Below w.heap.size w w' := by
  go_enter Try.func68, Try.ntmps68
  go_wp2_with (first | (go_at_call 50; refine (specInR_any _ _ _ _).mono ?_; rintro e w1 ⟨rfl, rfl⟩; rw [h.out]))
  go_ret
  exact ⟨rfl, (Below.refl _ _).alloc (Nat.le_refl _) _⟩

set_option maxHeartbeats 400000 in
theorem goodNumbers_k6_yes (a b n m : Int) (w : World) (h : Hid (inR n 0 99 = true)) (hm : (m == 0) = true) :
    Calls Try.prog 68 #[.agg #[.int .i64 6, .int .i64 a, .int .i64 b, .int .i64 n, .int .i64 m]] w fun e w' => e = .returned (.bool true) ∧ Below w.heap.size w w' := by
  go_enter Try.func68, Try.ntmps68
  go_wp2_with (first | (go_at_call 50; refine (specInR_any _ _ _ _).mono ?_; rintro e w1 ⟨rfl, rfl⟩; rw [h.out]))
  go_ret
  exact ⟨rfl, (Below.refl _ _).alloc (Nat.le_refl _) _⟩

set_option maxHeartbeats 400000 in
theorem goodNumbers_k12_no1 (a b n m : Int) (w : World) (h : Hid (inR n 1 30 = false)) :
    Calls Try.prog 68 #[.agg #[.int .i64 12, .int .i64 a, .int .i64 b, .int .i64 n, .int .i64 m]] w fun e w' => e = .returned (.bool false) ∧ Below w.heap.size w w' := by
  go_enter Try.func68, Try.ntmps68
  go_wp2_with (first | (go_at_call 50; refine (specInR_any _ _ _ _).mono ?_; rintro e w1 ⟨rfl, rfl⟩; rw [h.out]))
  go_ret
  exact ⟨rfl, (Below.refl _ _).alloc (Nat.le_refl _) _⟩

set_option maxHeartbeats 400000 in
theorem goodNumbers_k12_no2 (a b n m : Int) (w : World) (h : Hid (inR n 1 30 = true)) (hm : (m == 0) = false) :
    Calls Try.prog 68 #[.agg #[.int .i64 12, .int .i64 a, .int .i64 b, .int .i64 n, .int .i64 m]] w fun e w' => e = .returned (.bool false) ∧ Below w.heap.size w w' := by
  go_enter Try.func68, Try.ntmps68
  go_wp2_with (first | (go_at_call 50; refine (specInR_any _ _ _ _).mono ?_; rintro e w1 ⟨rfl, rfl⟩; rw [h.out]))
  go_ret
  exact ⟨rfl, (Below.refl _ _).alloc (Nat.le_refl _) _⟩

set_option maxHeartbeats 400000 in
theorem goodNumbers_k12_yes (a b n m : Int) (w : World) (h : Hid (inR n 1 30 = true)) (hm : (m == 0) = true) :
    Calls Try.prog 68 #[.agg #[.int .i64 12, .int .i64 a, .int .i64 b, .int .i64 n, .int .i64 m]] w fun e w' => e = .returned (.bool true) ∧ Below w.heap.size w w' := by
  go_enter Try.func68, Try.ntmps68
  go_wp2_with (first | (go_at_call 50; refine (specInR_any _ _ _ _).mono ?_; rintro e w1 ⟨rfl, rfl⟩; rw [h.out]))
  go_ret
  exact ⟨rfl, (Below.refl _ _).alloc (Nat.le_refl _) _⟩

set_option maxHeartbeats 400000 in
theorem goodNumbers_rest_no1 (a b n m : Int) (w : World) (k : Int) (h0 : (k == 0) = false) (h1 : (k == 1) = false) (h2 : (k == 2) = false) (h3 : (k == 3) = false) (h4 : (k == 4) = false) (h5 : (k == 5) = false) (h6 : (k == 6) = false) (h12 : (k == 12) = false) (hn : (n == 0) = false) :
    Calls Try.prog 68 #[.agg #[.int .i64 k, .int .i64 a, .int .i64 b, .int .i64 n, .int .i64 m]] w fun e w' => e = .returned (.bool false) ∧ Below w.heap.size w w' := by
  go_enter Try.func68, Try.ntmps68
  go_wp2
  go_ret
  exact ⟨rfl, (Below.refl _ _).alloc (Nat.le_refl _) _⟩

set_option maxHeartbeats 400000 in
theorem goodNumbers_rest_no2 (a b n m : Int) (w : World) (k : Int) (h0 : (k == 0) = false) (h1 : (k == 1) = false) (h2 : (k == 2) = false) (h3 : (k == 3) = false) (h4 : (k == 4) = false) (h5 : (k == 5) = false) (h6 : (k == 6) = false) (h12 : (k == 12) = false) (hn : (n == 0) = true) (hm : (m == 0) = false) :
    Calls Try.prog 68 #[.agg #[.int .i64 k, .int .i64 a, .int .i64 b, .int .i64 n, .int .i64 m]] w fun e w' => e = .returned (.bool false) ∧ Below w.heap.size w w' := by
  go_enter Try.func68, Try.ntmps68
  go_wp2
  go_ret
  exact ⟨rfl, (Below.refl _ _).alloc (Nat.le_refl _) _⟩

set_option maxHeartbeats 400000 in
theorem goodNumbers_rest_yes (a b n m : Int) (w : World) (k : Int) (h0 : (k == 0) = false) (h1 : (k == 1) = false) (h2 : (k == 2) = false) (h3 : (k == 3) = false) (h4 : (k == 4) = false) (h5 : (k == 5) = false) (h6 : (k == 6) = false) (h12 : (k == 12) = false) (hn : (n == 0) = true) (hm : (m == 0) = true) :
    Calls Try.prog 68 #[.agg #[.int .i64 k, .int .i64 a, .int .i64 b, .int .i64 n, .int .i64 m]] w fun e w' => e = .returned (.bool true) ∧ Below w.heap.size w w' := by
  go_enter Try.func68, Try.ntmps68
  go_wp2
  go_ret
  exact ⟨rfl, (Below.refl _ _).alloc (Nat.le_refl _) _⟩

set_option maxHeartbeats 400000 in
theorem numbersFit_k0_no1 (a b n m : Int) (w : World) (h : Hid (inR n 0 2 = false)) :
    Calls Try.prog 60 #[.agg #[.int .i64 0, .int .i64 a, .int .i64 b, .int .i64 n, .int .i64 m]] w fun e w' => e = .returned (.bool false) ∧ Below w.heap.size w w' := by
  go_enter Try.func60, Try.ntmps60
  go_wp2_with (first | (go_at_call 59; refine (within_any _ _ _ _).mono ?_; rintro e w1 ⟨rfl, rfl⟩; rw [h.out]))
  go_ret
  exact ⟨rfl, (Below.refl _ _).alloc (Nat.le_refl _) _⟩

set_option maxHeartbeats 400000 in
theorem numbersFit_k0_no2 (a b n m : Int) (w : World) (h : Hid (inR n 0 2 = true)) (hm : (m == 0) = false) :
    Calls Try.prog 60 #[.agg #[.int .i64 0, .int .i64 a, .int .i64 b, .int .i64 n, .int .i64 m]] w fun e w' => e = .returned (.bool false) ∧ Below w.heap.size w w' := by
  go_enter Try.func60, Try.ntmps60
  go_wp2_with (first | (go_at_call 59; refine (within_any _ _ _ _).mono ?_; rintro e w1 ⟨rfl, rfl⟩; rw [h.out]))
  go_ret
  exact ⟨rfl, (Below.refl _ _).alloc (Nat.le_refl _) _⟩

set_option maxHeartbeats 400000 in
theorem numbersFit_k0_yes (a b n m : Int) (w : World) (h : Hid (inR n 0 2 = true)) (hm : (m == 0) = true) :
    Calls Try.prog 60 #[.agg #[.int .i64 0, .int .i64 a, .int .i64 b, .int .i64 n, .int .i64 m]] w fun e w' => e = .returned (.bool true) ∧ Below w.heap.size w w' := by
  go_enter Try.func60, Try.ntmps60
  go_wp2_with (first | (go_at_call 59; refine (within_any _ _ _ _).mono ?_; rintro e w1 ⟨rfl, rfl⟩; rw [h.out]))
  go_ret
  exact ⟨rfl, (Below.refl _ _).alloc (Nat.le_refl _) _⟩

set_option maxHeartbeats 400000 in
theorem numbersFit_k1_no1 (a b n m : Int) (w : World) (h : Hid (inR n 0 99 = false)) :
    Calls Try.prog 60 #[.agg #[.int .i64 1, .int .i64 a, .int .i64 b, .int .i64 n, .int .i64 m]] w fun e w' => e = .returned (.bool false) ∧ Below w.heap.size w w' := by
  go_enter Try.func60, Try.ntmps60
  go_wp2_with (first | (go_at_call 59; refine (within_any _ _ _ _).mono ?_; rintro e w1 ⟨rfl, rfl⟩; rw [h.out]))
  go_ret
  exact ⟨rfl, (Below.refl _ _).alloc (Nat.le_refl _) _⟩

set_option maxHeartbeats 400000 in
theorem numbersFit_k1_no2 (a b n m : Int) (w : World) (h : Hid (inR n 0 99 = true)) (g : Hid (inR m 0 (99) = false)) :
    Calls Try.prog 60 #[.agg #[.int .i64 1, .int .i64 a, .int .i64 b, .int .i64 n, .int .i64 m]] w fun e w' => e = .returned (.bool false) ∧ Below w.heap.size w w' := by
  go_enter Try.func60, Try.ntmps60
  go_wp2_with fail
  refine (within_any _ _ _ _).mono ?_
  rintro e w1 ⟨rfl, rfl⟩
  rw [h.out]
  go_wp2_with fail
  refine (within_any _ _ _ _).mono ?_
  rintro e w1 ⟨rfl, rfl⟩
  rw [g.out]
  go_wp2_with fail
  go_ret
  exact ⟨rfl, (Below.refl _ _).alloc (Nat.le_refl _) _⟩

set_option maxHeartbeats 400000 in
theorem numbersFit_k1_yes (a b n m : Int) (w : World) (h : Hid (inR n 0 99 = true)) (g : Hid (inR m 0 (99) = true)) :
    Calls Try.prog 60 #[.agg #[.int .i64 1, .int .i64 a, .int .i64 b, .int .i64 n, .int .i64 m]] w fun e w' => e = .returned (.bool true) ∧ Below w.heap.size w w' := by
  go_enter Try.func60, Try.ntmps60
  go_wp2_with fail
  refine (within_any _ _ _ _).mono ?_
  rintro e w1 ⟨rfl, rfl⟩
  rw [h.out]
  go_wp2_with fail
  refine (within_any _ _ _ _).mono ?_
  rintro e w1 ⟨rfl, rfl⟩
  rw [g.out]
  go_wp2_with fail
  go_ret
  exact ⟨rfl, (Below.refl _ _).alloc (Nat.le_refl _) _⟩

set_option maxHeartbeats 400000 in
theorem numbersFit_k2_no1 (a b n m : Int) (w : World) (h : Hid (inR n 1 30 = false)) :
    Calls Try.prog 60 #[.agg #[.int .i64 2, .int .i64 a, .int .i64 b, .int .i64 n, .int .i64 m]] w fun e w' => e = .returned (.bool false) ∧ Below w.heap.size w w' := by
  go_enter Try.func60, Try.ntmps60
  go_wp2_with (first | (go_at_call 59; refine (within_any _ _ _ _).mono ?_; rintro e w1 ⟨rfl, rfl⟩; rw [h.out]))
  go_ret
  exact ⟨rfl, (Below.refl _ _).alloc (Nat.le_refl _) _⟩

set_option maxHeartbeats 400000 in
theorem numbersFit_k2_no2 (a b n m : Int) (w : World) (h : Hid (inR n 1 30 = true)) (g : Hid (inR m 0 (n - 1) = false)) (h1 : 1 ≤ n) (h2 : n ≤ 30) :
    Calls Try.prog 60 #[.agg #[.int .i64 2, .int .i64 a, .int .i64 b, .int .i64 n, .int .i64 m]] w fun e w' => e = .returned (.bool false) ∧ Below w.heap.size w w' := by
  go_enter Try.func60, Try.ntmps60
  go_wp2_with fail
  refine (within_any _ _ _ _).mono ?_
  rintro e w1 ⟨rfl, rfl⟩
  rw [h.out]
  go_wp2_with fail
  refine (within_any _ _ _ _).mono ?_
  rintro e w1 ⟨rfl, rfl⟩
  rw [g.out]
  go_wp2_with fail
  go_ret
  exact ⟨rfl, (Below.refl _ _).alloc (Nat.le_refl _) _⟩

set_option maxHeartbeats 400000 in
theorem numbersFit_k2_yes (a b n m : Int) (w : World) (h : Hid (inR n 1 30 = true)) (g : Hid (inR m 0 (n - 1) = true)) (h1 : 1 ≤ n) (h2 : n ≤ 30) :
    Calls Try.prog 60 #[.agg #[.int .i64 2, .int .i64 a, .int .i64 b, .int .i64 n, .int .i64 m]] w fun e w' => e = .returned (.bool true) ∧ Below w.heap.size w w' := by
  go_enter Try.func60, Try.ntmps60
  go_wp2_with fail
  refine (within_any _ _ _ _).mono ?_
  rintro e w1 ⟨rfl, rfl⟩
  rw [h.out]
  go_wp2_with fail
  refine (within_any _ _ _ _).mono ?_
  rintro e w1 ⟨rfl, rfl⟩
  rw [g.out]
  go_wp2_with fail
  go_ret
  exact ⟨rfl, (Below.refl _ _).alloc (Nat.le_refl _) _⟩

set_option maxHeartbeats 400000 in
theorem numbersFit_k3_no1 (a b n m : Int) (w : World) (h : Hid (inR n 0 30 = false)) :
    Calls Try.prog 60 #[.agg #[.int .i64 3, .int .i64 a, .int .i64 b, .int .i64 n, .int .i64 m]] w fun e w' => e = .returned (.bool false) ∧ Below w.heap.size w w' := by
  go_enter Try.func60, Try.ntmps60
  go_wp2_with (first | (go_at_call 59; refine (within_any _ _ _ _).mono ?_; rintro e w1 ⟨rfl, rfl⟩; rw [h.out]))
  go_ret
  exact ⟨rfl, (Below.refl _ _).alloc (Nat.le_refl _) _⟩

set_option maxHeartbeats 400000 in
theorem numbersFit_k3_no2 (a b n m : Int) (w : World) (h : Hid (inR n 0 30 = true)) (hm : (m == 0) = false) :
    Calls Try.prog 60 #[.agg #[.int .i64 3, .int .i64 a, .int .i64 b, .int .i64 n, .int .i64 m]] w fun e w' => e = .returned (.bool false) ∧ Below w.heap.size w w' := by
  go_enter Try.func60, Try.ntmps60
  go_wp2_with (first | (go_at_call 59; refine (within_any _ _ _ _).mono ?_; rintro e w1 ⟨rfl, rfl⟩; rw [h.out]))
  go_ret
  exact ⟨rfl, (Below.refl _ _).alloc (Nat.le_refl _) _⟩

set_option maxHeartbeats 400000 in
theorem numbersFit_k3_yes (a b n m : Int) (w : World) (h : Hid (inR n 0 30 = true)) (hm : (m == 0) = true) :
    Calls Try.prog 60 #[.agg #[.int .i64 3, .int .i64 a, .int .i64 b, .int .i64 n, .int .i64 m]] w fun e w' => e = .returned (.bool true) ∧ Below w.heap.size w w' := by
  go_enter Try.func60, Try.ntmps60
  go_wp2_with (first | (go_at_call 59; refine (within_any _ _ _ _).mono ?_; rintro e w1 ⟨rfl, rfl⟩; rw [h.out]))
  go_ret
  exact ⟨rfl, (Below.refl _ _).alloc (Nat.le_refl _) _⟩

set_option maxHeartbeats 400000 in
theorem numbersFit_k4_no1 (a b n m : Int) (w : World) (h : Hid (inR n 0 30 = false)) :
    Calls Try.prog 60 #[.agg #[.int .i64 4, .int .i64 a, .int .i64 b, .int .i64 n, .int .i64 m]] w fun e w' => e = .returned (.bool false) ∧ Below w.heap.size w w' := by
  go_enter Try.func60, Try.ntmps60
  go_wp2_with (first | (go_at_call 59; refine (within_any _ _ _ _).mono ?_; rintro e w1 ⟨rfl, rfl⟩; rw [h.out]))
  go_ret
  exact ⟨rfl, (Below.refl _ _).alloc (Nat.le_refl _) _⟩

set_option maxHeartbeats 400000 in
theorem numbersFit_k4_no2 (a b n m : Int) (w : World) (h : Hid (inR n 0 30 = true)) (hm : (m == 0) = false) :
    Calls Try.prog 60 #[.agg #[.int .i64 4, .int .i64 a, .int .i64 b, .int .i64 n, .int .i64 m]] w fun e w' => e = .returned (.bool false) ∧ Below w.heap.size w w' := by
  go_enter Try.func60, Try.ntmps60
  go_wp2_with (first | (go_at_call 59; refine (within_any _ _ _ _).mono ?_; rintro e w1 ⟨rfl, rfl⟩; rw [h.out]))
  go_ret
  exact ⟨rfl, (Below.refl _ _).alloc (Nat.le_refl _) _⟩

set_option maxHeartbeats 400000 in
theorem numbersFit_k4_yes (a b n m : Int) (w : World) (h : Hid (inR n 0 30 = true)) (hm : (m == 0) = true) :
    Calls Try.prog 60 #[.agg #[.int .i64 4, .int .i64 a, .int .i64 b, .int .i64 n, .int .i64 m]] w fun e w' => e = .returned (.bool true) ∧ Below w.heap.size w w' := by
  go_enter Try.func60, Try.ntmps60
  go_wp2_with (first | (go_at_call 59; refine (within_any _ _ _ _).mono ?_; rintro e w1 ⟨rfl, rfl⟩; rw [h.out]))
  go_ret
  exact ⟨rfl, (Below.refl _ _).alloc (Nat.le_refl _) _⟩

set_option maxHeartbeats 400000 in
theorem numbersFit_k5_no1 (a b n m : Int) (w : World) (h : Hid (inR n 0 99 = false)) :
    Calls Try.prog 60 #[.agg #[.int .i64 5, .int .i64 a, .int .i64 b, .int .i64 n, .int .i64 m]] w fun e w' => e = .returned (.bool false) ∧ Below w.heap.size w w' := by
  go_enter Try.func60, Try.ntmps60
  go_wp2_with (first | (go_at_call 59; refine (within_any _ _ _ _).mono ?_; rintro e w1 ⟨rfl, rfl⟩; rw [h.out]))
  go_ret
  exact ⟨rfl, (Below.refl _ _).alloc (Nat.le_refl _) _⟩

set_option maxHeartbeats 400000 in
theorem numbersFit_k5_no2 (a b n m : Int) (w : World) (h : Hid (inR n 0 99 = true)) (hm : (m == 0) = false) :
    Calls Try.prog 60 #[.agg #[.int .i64 5, .int .i64 a, .int .i64 b, .int .i64 n, .int .i64 m]] w fun e w' => e = .returned (.bool false) ∧ Below w.heap.size w w' := by
  go_enter Try.func60, Try.ntmps60
  go_wp2_with (first | (go_at_call 59; refine (within_any _ _ _ _).mono ?_; rintro e w1 ⟨rfl, rfl⟩; rw [h.out]))
  go_ret
  exact ⟨rfl, (Below.refl _ _).alloc (Nat.le_refl _) _⟩

set_option maxHeartbeats 400000 in
theorem numbersFit_k5_yes (a b n m : Int) (w : World) (h : Hid (inR n 0 99 = true)) (hm : (m == 0) = true) :
    Calls Try.prog 60 #[.agg #[.int .i64 5, .int .i64 a, .int .i64 b, .int .i64 n, .int .i64 m]] w fun e w' => e = .returned (.bool true) ∧ Below w.heap.size w w' := by
  go_enter Try.func60, Try.ntmps60
  go_wp2_with (first | (go_at_call 59; refine (within_any _ _ _ _).mono ?_; rintro e w1 ⟨rfl, rfl⟩; rw [h.out]))
  go_ret
  exact ⟨rfl, (Below.refl _ _).alloc (Nat.le_refl _) _⟩

set_option maxHeartbeats 400000 in
theorem numbersFit_k6_no1 (a b n m : Int) (w : World) (h : Hid (inR n 0 99 = false)) :
    Calls Try.prog 60 #[.agg #[.int .i64 6, .int .i64 a, .int .i64 b, .int .i64 n, .int .i64 m]] w fun e w' => e = .returned (.bool false) ∧ Below w.heap.size w w' := by
  go_enter Try.func60, Try.ntmps60
  go_wp2_with (first | (go_at_call 59; refine (within_any _ _ _ _).mono ?_; rintro e w1 ⟨rfl, rfl⟩; rw [h.out]))
  go_ret
  exact ⟨rfl, (Below.refl _ _).alloc (Nat.le_refl _) _⟩

set_option maxHeartbeats 400000 in
theorem numbersFit_k6_no2 (a b n m : Int) (w : World) (h : Hid (inR n 0 99 = true)) (hm : (m == 0) = false) :
    Calls Try.prog 60 #[.agg #[.int .i64 6, .int .i64 a, .int .i64 b, .int .i64 n, .int .i64 m]] w fun e w' => e = .returned (.bool false) ∧ Below w.heap.size w w' := by
  go_enter Try.func60, Try.ntmps60
  go_wp2_with (first | (go_at_call 59; refine (within_any _ _ _ _).mono ?_; rintro e w1 ⟨rfl, rfl⟩; rw [h.out]))
  go_ret
  exact ⟨rfl, (Below.refl _ _).alloc (Nat.le_refl _) _⟩

set_option maxHeartbeats 400000 in
theorem numbersFit_k6_yes (a b n m : Int) (w : World) (h : Hid (inR n 0 99 = true)) (hm : (m == 0) = true) :
    Calls Try.prog 60 #[.agg #[.int .i64 6, .int .i64 a, .int .i64 b, .int .i64 n, .int .i64 m]] w fun e w' => e = .returned (.bool true) ∧ Below w.heap.size w w' := by
  go_enter Try.func60, Try.ntmps60
  go_wp2_with (first | (go_at_call 59; refine (within_any _ _ _ _).mono ?_; rintro e w1 ⟨rfl, rfl⟩; rw [h.out]))
  go_ret
  exact ⟨rfl, (Below.refl _ _).alloc (Nat.le_refl _) _⟩

set_option maxHeartbeats 400000 in
theorem numbersFit_k12_no1 (a b n m : Int) (w : World) (h : Hid (inR n 1 30 = false)) :
    Calls Try.prog 60 #[.agg #[.int .i64 12, .int .i64 a, .int .i64 b, .int .i64 n, .int .i64 m]] w fun e w' => e = .returned (.bool false) ∧ Below w.heap.size w w' := by
  go_enter Try.func60, Try.ntmps60
  go_wp2_with (first | (go_at_call 59; refine (within_any _ _ _ _).mono ?_; rintro e w1 ⟨rfl, rfl⟩; rw [h.out]))
  go_ret
  exact ⟨rfl, (Below.refl _ _).alloc (Nat.le_refl _) _⟩

set_option maxHeartbeats 400000 in
theorem numbersFit_k12_no2 (a b n m : Int) (w : World) (h : Hid (inR n 1 30 = true)) (hm : (m == 0) = false) :
    Calls Try.prog 60 #[.agg #[.int .i64 12, .int .i64 a, .int .i64 b, .int .i64 n, .int .i64 m]] w fun e w' => e = .returned (.bool false) ∧ Below w.heap.size w w' := by
  go_enter Try.func60, Try.ntmps60
  go_wp2_with (first | (go_at_call 59; refine (within_any _ _ _ _).mono ?_; rintro e w1 ⟨rfl, rfl⟩; rw [h.out]))
  go_ret
  exact ⟨rfl, (Below.refl _ _).alloc (Nat.le_refl _) _⟩

set_option maxHeartbeats 400000 in
theorem numbersFit_k12_yes (a b n m : Int) (w : World) (h : Hid (inR n 1 30 = true)) (hm : (m == 0) = true) :
    Calls Try.prog 60 #[.agg #[.int .i64 12, .int .i64 a, .int .i64 b, .int .i64 n, .int .i64 m]] w fun e w' => e = .returned (.bool true) ∧ Below w.heap.size w w' := by
  go_enter Try.func60, Try.ntmps60
  go_wp2_with (first | (go_at_call 59; refine (within_any _ _ _ _).mono ?_; rintro e w1 ⟨rfl, rfl⟩; rw [h.out]))
  go_ret
  exact ⟨rfl, (Below.refl _ _).alloc (Nat.le_refl _) _⟩

set_option maxHeartbeats 400000 in
theorem numbersFit_k7_no1 (a b n m : Int) (w : World) (hn : (n == 0) = false) :
    Calls Try.prog 60 #[.agg #[.int .i64 7, .int .i64 a, .int .i64 b, .int .i64 n, .int .i64 m]] w fun e w' => e = .returned (.bool false) ∧ Below w.heap.size w w' := by
  go_enter Try.func60, Try.ntmps60
  go_wp2
  go_ret
  exact ⟨rfl, (Below.refl _ _).alloc (Nat.le_refl _) _⟩

set_option maxHeartbeats 400000 in
theorem numbersFit_k7_no2 (a b n m : Int) (w : World) (hn : (n == 0) = true) (hm : (m == 0) = false) :
    Calls Try.prog 60 #[.agg #[.int .i64 7, .int .i64 a, .int .i64 b, .int .i64 n, .int .i64 m]] w fun e w' => e = .returned (.bool false) ∧ Below w.heap.size w w' := by
  go_enter Try.func60, Try.ntmps60
  go_wp2
  go_ret
  exact ⟨rfl, (Below.refl _ _).alloc (Nat.le_refl _) _⟩

set_option maxHeartbeats 400000 in
theorem numbersFit_k7_yes (a b n m : Int) (w : World) (hn : (n == 0) = true) (hm : (m == 0) = true) :
    Calls Try.prog 60 #[.agg #[.int .i64 7, .int .i64 a, .int .i64 b, .int .i64 n, .int .i64 m]] w fun e w' => e = .returned (.bool true) ∧ Below w.heap.size w w' := by
  go_enter Try.func60, Try.ntmps60
  go_wp2
  go_ret
  exact ⟨rfl, (Below.refl _ _).alloc (Nat.le_refl _) _⟩

set_option maxHeartbeats 400000 in
theorem numbersFit_k8_no1 (a b n m : Int) (w : World) (hn : (n == 0) = false) :
    Calls Try.prog 60 #[.agg #[.int .i64 8, .int .i64 a, .int .i64 b, .int .i64 n, .int .i64 m]] w fun e w' => e = .returned (.bool false) ∧ Below w.heap.size w w' := by
  go_enter Try.func60, Try.ntmps60
  go_wp2
  go_ret
  exact ⟨rfl, (Below.refl _ _).alloc (Nat.le_refl _) _⟩

set_option maxHeartbeats 400000 in
theorem numbersFit_k8_no2 (a b n m : Int) (w : World) (hn : (n == 0) = true) (hm : (m == 0) = false) :
    Calls Try.prog 60 #[.agg #[.int .i64 8, .int .i64 a, .int .i64 b, .int .i64 n, .int .i64 m]] w fun e w' => e = .returned (.bool false) ∧ Below w.heap.size w w' := by
  go_enter Try.func60, Try.ntmps60
  go_wp2
  go_ret
  exact ⟨rfl, (Below.refl _ _).alloc (Nat.le_refl _) _⟩

set_option maxHeartbeats 400000 in
theorem numbersFit_k8_yes (a b n m : Int) (w : World) (hn : (n == 0) = true) (hm : (m == 0) = true) :
    Calls Try.prog 60 #[.agg #[.int .i64 8, .int .i64 a, .int .i64 b, .int .i64 n, .int .i64 m]] w fun e w' => e = .returned (.bool true) ∧ Below w.heap.size w w' := by
  go_enter Try.func60, Try.ntmps60
  go_wp2
  go_ret
  exact ⟨rfl, (Below.refl _ _).alloc (Nat.le_refl _) _⟩

set_option maxHeartbeats 400000 in
theorem numbersFit_k9_no1 (a b n m : Int) (w : World) (hn : (n == 0) = false) :
    Calls Try.prog 60 #[.agg #[.int .i64 9, .int .i64 a, .int .i64 b, .int .i64 n, .int .i64 m]] w fun e w' => e = .returned (.bool false) ∧ Below w.heap.size w w' := by
  go_enter Try.func60, Try.ntmps60
  go_wp2
  go_ret
  exact ⟨rfl, (Below.refl _ _).alloc (Nat.le_refl _) _⟩

set_option maxHeartbeats 400000 in
theorem numbersFit_k9_no2 (a b n m : Int) (w : World) (hn : (n == 0) = true) (hm : (m == 0) = false) :
    Calls Try.prog 60 #[.agg #[.int .i64 9, .int .i64 a, .int .i64 b, .int .i64 n, .int .i64 m]] w fun e w' => e = .returned (.bool false) ∧ Below w.heap.size w w' := by
  go_enter Try.func60, Try.ntmps60
  go_wp2
  go_ret
  exact ⟨rfl, (Below.refl _ _).alloc (Nat.le_refl _) _⟩

set_option maxHeartbeats 400000 in
theorem numbersFit_k9_yes (a b n m : Int) (w : World) (hn : (n == 0) = true) (hm : (m == 0) = true) :
    Calls Try.prog 60 #[.agg #[.int .i64 9, .int .i64 a, .int .i64 b, .int .i64 n, .int .i64 m]] w fun e w' => e = .returned (.bool true) ∧ Below w.heap.size w w' := by
  go_enter Try.func60, Try.ntmps60
  go_wp2
  go_ret
  exact ⟨rfl, (Below.refl _ _).alloc (Nat.le_refl _) _⟩

set_option maxHeartbeats 400000 in
theorem numbersFit_k10_no1 (a b n m : Int) (w : World) (hn : (n == 0) = false) :
    Calls Try.prog 60 #[.agg #[.int .i64 10, .int .i64 a, .int .i64 b, .int .i64 n, .int .i64 m]] w fun e w' => e = .returned (.bool false) ∧ Below w.heap.size w w' := by
  go_enter Try.func60, Try.ntmps60
  go_wp2
  go_ret
  exact ⟨rfl, (Below.refl _ _).alloc (Nat.le_refl _) _⟩

set_option maxHeartbeats 400000 in
theorem numbersFit_k10_no2 (a b n m : Int) (w : World) (hn : (n == 0) = true) (hm : (m == 0) = false) :
    Calls Try.prog 60 #[.agg #[.int .i64 10, .int .i64 a, .int .i64 b, .int .i64 n, .int .i64 m]] w fun e w' => e = .returned (.bool false) ∧ Below w.heap.size w w' := by
  go_enter Try.func60, Try.ntmps60
  go_wp2
  go_ret
  exact ⟨rfl, (Below.refl _ _).alloc (Nat.le_refl _) _⟩

set_option maxHeartbeats 400000 in
theorem numbersFit_k10_yes (a b n m : Int) (w : World) (hn : (n == 0) = true) (hm : (m == 0) = true) :
    Calls Try.prog 60 #[.agg #[.int .i64 10, .int .i64 a, .int .i64 b, .int .i64 n, .int .i64 m]] w fun e w' => e = .returned (.bool true) ∧ Below w.heap.size w w' := by
  go_enter Try.func60, Try.ntmps60
  go_wp2
  go_ret
  exact ⟨rfl, (Below.refl _ _).alloc (Nat.le_refl _) _⟩

set_option maxHeartbeats 400000 in
theorem numbersFit_k11_no1 (a b n m : Int) (w : World) (hn : (n == 0) = false) :
    Calls Try.prog 60 #[.agg #[.int .i64 11, .int .i64 a, .int .i64 b, .int .i64 n, .int .i64 m]] w fun e w' => e = .returned (.bool false) ∧ Below w.heap.size w w' := by
  go_enter Try.func60, Try.ntmps60
  go_wp2
  go_ret
  exact ⟨rfl, (Below.refl _ _).alloc (Nat.le_refl _) _⟩

set_option maxHeartbeats 400000 in
theorem numbersFit_k11_no2 (a b n m : Int) (w : World) (hn : (n == 0) = true) (hm : (m == 0) = false) :
    Calls Try.prog 60 #[.agg #[.int .i64 11, .int .i64 a, .int .i64 b, .int .i64 n, .int .i64 m]] w fun e w' => e = .returned (.bool false) ∧ Below w.heap.size w w' := by
  go_enter Try.func60, Try.ntmps60
  go_wp2
  go_ret
  exact ⟨rfl, (Below.refl _ _).alloc (Nat.le_refl _) _⟩

set_option maxHeartbeats 400000 in
theorem numbersFit_k11_yes (a b n m : Int) (w : World) (hn : (n == 0) = true) (hm : (m == 0) = true) :
    Calls Try.prog 60 #[.agg #[.int .i64 11, .int .i64 a, .int .i64 b, .int .i64 n, .int .i64 m]] w fun e w' => e = .returned (.bool true) ∧ Below w.heap.size w w' := by
  go_enter Try.func60, Try.ntmps60
  go_wp2
  go_ret
  exact ⟨rfl, (Below.refl _ _).alloc (Nat.le_refl _) _⟩

set_option maxHeartbeats 400000 in
theorem numbersFit_k13_no1 (a b n m : Int) (w : World) (hn : (n == 0) = false) :
    Calls Try.prog 60 #[.agg #[.int .i64 13, .int .i64 a, .int .i64 b, .int .i64 n, .int .i64 m]] w fun e w' => e = .returned (.bool false) ∧ Below w.heap.size w w' := by
  go_enter Try.func60, Try.ntmps60
  go_wp2
  go_ret
  exact ⟨rfl, (Below.refl _ _).alloc (Nat.le_refl _) _⟩

set_option maxHeartbeats 400000 in
theorem numbersFit_k13_no2 (a b n m : Int) (w : World) (hn : (n == 0) = true) (hm : (m == 0) = false) :
    Calls Try.prog 60 #[.agg #[.int .i64 13, .int .i64 a, .int .i64 b, .int .i64 n, .int .i64 m]] w fun e w' => e = .returned (.bool false) ∧ Below w.heap.size w w' := by
  go_enter Try.func60, Try.ntmps60
  go_wp2
  go_ret
  exact ⟨rfl, (Below.refl _ _).alloc (Nat.le_refl _) _⟩

set_option maxHeartbeats 400000 in
theorem numbersFit_k13_yes (a b n m : Int) (w : World) (hn : (n == 0) = true) (hm : (m == 0) = true) :
    Calls Try.prog 60 #[.agg #[.int .i64 13, .int .i64 a, .int .i64 b, .int .i64 n, .int .i64 m]] w fun e w' => e = .returned (.bool true) ∧ Below w.heap.size w w' := by
  go_enter Try.func60, Try.ntmps60
  go_wp2
  go_ret
  exact ⟨rfl, (Below.refl _ _).alloc (Nat.le_refl _) _⟩

set_option maxHeartbeats 400000 in
theorem numbersFit_none (a b n m : Int) (w : World) (k : Int) (h0 : (k == 0) = false) (h1 : (k == 1) = false) (h2 : (k == 2) = false) (h3 : (k == 3) = false) (h4 : (k == 4) = false) (h5 : (k == 5) = false) (h6 : (k == 6) = false) (h12 : (k == 12) = false) (h7 : (k == 7) = false) (h8 : (k == 8) = false) (h9 : (k == 9) = false) (h10 : (k == 10) = false) (h11 : (k == 11) = false) (h13 : (k == 13) = false) :
    Calls Try.prog 60 #[.agg #[.int .i64 k, .int .i64 a, .int .i64 b, .int .i64 n, .int .i64 m]] w fun e w' => e = .returned (.bool false) ∧ Below w.heap.size w w' := by
  go_enter Try.func60, Try.ntmps60
  go_wp2
  go_ret
  exact ⟨rfl, (Below.refl _ _).alloc (Nat.le_refl _) _⟩

end Go.Proofs.Ytkjhncohanfciaa
