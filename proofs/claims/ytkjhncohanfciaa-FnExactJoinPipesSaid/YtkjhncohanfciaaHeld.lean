/- Contracts: marks in nodes are read again; marks in pipes. -/
import Derived.Test.YtkjhncohanfciaaOwn
namespace Go.Proofs.Ytkjhncohanfciaa
open Go.RowKit

set_option maxHeartbeats 1600000 in
theorem heldNodeS_any (A : Option Addr) (c n : Nat) (k : Int) (w : World) (B : Nat) (h : RdN w B A (mkN n k)) (hn : n ≤ 1048576) (hk0 : 0 ≤ k) (hk1 : k ≤ 16777216) :
    Calls Try.prog 49 #[.slice A n c, .int .i64 k] w fun e w' => e = .returned (.int .i64 (k + 5 * n)) ∧ w = w' := by
  have Hh := Lib.hid h
  clear h
  go_enter Try.func49, Try.ntmps49
  go_wp2
  go_loop [1, 5] (fun s i => ∃ j : Nat, j ≤ n ∧ i = .int .i64 j ∧ ∃ m : Int, m = k + 5 * j ∧ s = .int .i64 m) (fun _ i => n - (intOf i).toNat)
  case atStart => exact ⟨0, Nat.zero_le _, rfl, k, by simp, rfl⟩
  case round =>
    obtain ⟨j, hj, rfl, m, hm, rfl⟩ := hrel
    have hm0 : 0 ≤ m := by omega
    have hm1 : m ≤ 33554432 := by omega
    by_cases hlt : j < n
    · obtain ⟨b, o, x, rfl, hbB, hx, hc⟩ := Hh.out.at_ (k := j) (by rw [mkN_len]; exact hlt)
      rw [mkN_get hlt] at hx
      obtain rfl := Option.some.inj hx
      obtain ⟨c0, c1, c2, c3, c4⟩ := hc
      simp only [← hm] at c0 c1 c2 c3 c4
      have Hm := Lib.hid hm
      clear hm hx
      go_wp2
      go_round
      case rel => exact ⟨j + 1, by omega, by go_num, _, by rw [Hm.out]; omega, rfl⟩
      case measure => simp [intOf]; omega
    · obtain rfl : j = n := by omega
      have Hm := Lib.hid hm
      clear hm
      go_wp2
      go_ret
      exact ⟨ret_int (by rw [Hm.out]), rfl⟩

set_option maxHeartbeats 800000 in
theorem heldPipe_any (A : Option Addr) (c n : Nat) (k : Int) (w : World) (B : Nat) (h : RdN w B A (mkN n k)) (hB : B ≤ w.heap.size) (hn : n ≤ 1048576) (hk0 : 0 ≤ k) (hk1 : k ≤ 16777216) :
    Calls Try.prog 28 #[.agg #[.slice A n c], .int .i64 k] w fun e w' => e = .returned (.int .i64 (k + 5 * n)) ∧ Below w.heap.size w w' := by
  have hb0 := (Below.refl w.heap.size w).alloc (Nat.le_refl _) (.cells #[.slice A n c] 32)
  have Hh := Lib.hid (h.below hb0 hB)
  have Hb0 := Lib.hid hb0
  have hpos : (0 : Int) ≤ k + 5 * n := by omega
  clear h hb0
  go_enter Try.func28, Try.ntmps28
  go_wp2_with fail
  refine (heldNodeS_any A c n k _ B Hh.out hn hk0 hk1).mono ?_
  rintro e w1 ⟨rfl, rfl⟩
  go_wp2_with fail
  go_ret
  exact ⟨rfl, Hb0.out⟩

set_option maxHeartbeats 800000 in
theorem markPipe_any (A : Option Addr) (c : Nat) (l : List Nd) (k : Int) (w : World) (base : Nat) (h : OwnN w base A c l) (hn : l.length ≤ 1048576) (hk0 : 0 ≤ k) (hk1 : k ≤ 16777216) :
    Calls Try.prog 18 #[.agg #[.slice A l.length c], .int .i64 k] w fun e w' => e = .returned (.int .i64 (k + 5 * l.length)) ∧ OwnN w' base A c (mkN l.length k) ∧ w.grownBy w' (rowOf A) := by
  have hb0 := (Below.refl w.heap.size w).alloc (Nat.le_refl _) (.cells #[.slice A l.length c] 32)
  have Hh := Lib.hid (h.below hb0 (Nat.le_refl _))
  have Hb0 := Lib.hid (World.grownBy_alloc w (.cells #[.slice A l.length c] 32) (rowOf A))
  clear h hb0
  go_enter Try.func18, Try.ntmps18
  go_wp2_with fail
  refine (markNodeS_any A c l k _ base Hh.out hn hk0 hk1).mono ?_
  rintro e w1 ⟨rfl, ho, hg⟩
  have Ho := Lib.hid ho
  have Hg := Lib.hid hg
  clear ho hg
  go_wp2_with fail
  go_ret
  exact ⟨rfl, Ho.out, ⟨Hg.out.os.trans Hb0.out.os, Hg.out.tape.trans Hb0.out.tape, Hg.out.output.trans Hb0.out.output, Nat.le_trans Hb0.out.size Hg.out.size, fun j hj hne => (Hg.out.block j (Nat.lt_of_lt_of_le hj Hb0.out.size) hne).trans (Hb0.out.block j hj hne)⟩⟩

end Go.Proofs.Ytkjhncohanfciaa
