/- Contracts: whether a pipe is a line, told by the reference and by the program. -/
import Derived.Test.YtggaahblhdphaaaPipeS
namespace Go.Proofs.Ytggaahblhdphaaa
open Go.RowKit

/-- Whether a pipe is valid and has no node with two below. -/
def lineOk (l : List Nd) : Bool := pipeOk l && l.all (fun x => !(arity x.k == 2))
theorem lineOk_no {l : List Nd} (h : pipeOk l = false) : lineOk l = false := by rw [lineOk, h]; rfl
theorem lineOk_two {l : List Nd} {k : Nat} {x : Nd} (hx : l[k]? = some x) (h : arity x.k = 2) : lineOk l = false := by
  rw [lineOk, all_false_of (p := fun x : Nd => !(arity x.k == 2)) hx (by simp [h]), Bool.and_false]
theorem lineOk_yes {l : List Nd} (h : pipeOk l = true) (h2 : (l.take l.length).all (fun x : Nd => !(arity x.k == 2)) = true) : lineOk l = true := by
  rw [List.take_length] at h2
  rw [lineOk, h, h2]; rfl

set_option maxHeartbeats 1600000 in
theorem specIsLine_any (A : Option Addr) (c : Nat) (l : List Nd) (w : World) (B : Nat) (h : RdN w B A l) (hB : B ≤ w.heap.size) (hn : l.length ≤ 1048576) :
    Calls Try.prog 36 #[.agg #[.slice A l.length c]] w fun e w' => e = .returned (.bool (lineOk l)) ∧ Below w.heap.size w w' := by
  obtain ⟨W0, hW0⟩ : ∃ W0 : World, W0 = w.alloc (.cells #[.slice A l.length c] 34) := ⟨_, rfl⟩
  have hb0 : Below w.heap.size w W0 := by rw [hW0]; exact (Below.refl w.heap.size w).alloc (Nat.le_refl _) _
  have hx0 : Bk W0 w.heap.size 34 [.slice A l.length c] := by rw [hW0]; exact Bk.new _ _ _
  have H0 := Lib.hid (h.below hb0 hB)
  have Hb0 := Lib.hid hb0
  have Hx0 := Lib.hid hx0
  have HW0 := Lib.hid hW0
  have hz0 := hb0.size
  clear h hb0 hx0 hW0
  go_enter Try.func36, Try.ntmps36
  go_wp2_with fail
  rw [← HW0.out]
  refine (specvalidPipe_any A c l W0 B H0.out (by omega) hn).mono ?_
  rintro e w1 ⟨rfl, hb1⟩
  have Hb1 := Lib.hid (Hb0.out.trans (hb1.mono hz0))
  have Hx1 := Lib.hid (Hx0.out.below hb1 Hx0.out.lt)
  have H1 := Lib.hid (H0.out.below hb1 (by omega))
  have hc1 : w1.cell? ⟨w.heap.size, 0, none⟩ = some (.slice A l.length c) := Hx1.out.cell 0
  clear hb1 HW0
  cases hv : pipeOk l
  · have Hv := Lib.hid hv
    clear hv
    go_wp2_with fail
    go_ret
    exact ⟨ret_bool (lineOk_no Hv.out).symm, Hb1.out⟩
  · have Hv := Lib.hid hv
    clear hv
    go_wp2_with fail
    go_loop [3] (fun i => ∃ k : Nat, k ≤ l.length ∧ i = .int .i64 k ∧ (l.take k).all (fun x : Nd => !(arity x.k == 2)) = true) (fun i => l.length - (intOf i).toNat)
    case atStart => exact ⟨0, Nat.zero_le _, rfl, by simp⟩
    case round =>
      obtain ⟨k, hk, rfl, hall⟩ := hrel
      have Hall := Lib.hid hall
      clear hall
      by_cases hlt : k < l.length
      · obtain ⟨b, o, x, rfl, hbB, hx, hc⟩ := H1.out.at_ hlt
        have c0 := hc.c0
        have Hx := Lib.hid hx
        clear hx hc
        by_cases h2 : arity x.k = 2
        · have H2 := Lib.hid h2
          clear h2
          go_wp2_with (go_at_call 71; refine (arity_any _ _).mono ?_; rintro e w2 ⟨rfl, rfl⟩; rw [H2.out])
          go_ret
          exact ⟨ret_bool (lineOk_two Hx.out H2.out).symm, Hb1.out⟩
        · have hb2 : (arity x.k == 2) = false := by simp [h2]
          have H2 : Hid ((!(arity x.k == 2)) = true) := by show (!(arity x.k == 2)) = true; rw [hb2]; rfl
          clear h2
          go_wp2_with (go_at_call 71; refine (arity_any _ _).mono ?_; rintro e w2 ⟨rfl, rfl⟩)
          go_round
          case rel => exact ⟨k + 1, by omega, by go_num, all_take_succ (p := fun x : Nd => !(arity x.k == 2)) Hx.out H2.out Hall.out⟩
          case measure => simp [intOf]; omega
      · obtain rfl : k = l.length := by omega
        go_wp2
        go_ret
        exact ⟨ret_bool (lineOk_yes Hv.out Hall.out).symm, Hb1.out⟩

set_option maxHeartbeats 1600000 in
theorem implIsLine_any (A : Option Addr) (c : Nat) (l : List Nd) (w : World) (B : Nat) (h : RdN w B A l) (hB : B ≤ w.heap.size) (hn : l.length ≤ 1048576) :
    Calls Try.prog 37 #[.agg #[.slice A l.length c]] w fun e w' => e = .returned (.bool (lineOk l)) ∧ Below w.heap.size w w' := by
  obtain ⟨W0, hW0⟩ : ∃ W0 : World, W0 = w.alloc (.cells #[.slice A l.length c] 34) := ⟨_, rfl⟩
  have hb0 : Below w.heap.size w W0 := by rw [hW0]; exact (Below.refl w.heap.size w).alloc (Nat.le_refl _) _
  have hx0 : Bk W0 w.heap.size 34 [.slice A l.length c] := by rw [hW0]; exact Bk.new _ _ _
  have H0 := Lib.hid (h.below hb0 hB)
  have Hb0 := Lib.hid hb0
  have Hx0 := Lib.hid hx0
  have HW0 := Lib.hid hW0
  have hz0 := hb0.size
  clear h hb0 hx0 hW0
  go_enter Try.func37, Try.ntmps37
  go_wp2_with fail
  rw [← HW0.out]
  refine (implValidPipe_any A c l W0 B H0.out (by omega) hn).mono ?_
  rintro e w1 ⟨rfl, hb1⟩
  have Hb1 := Lib.hid (Hb0.out.trans (hb1.mono hz0))
  have Hx1 := Lib.hid (Hx0.out.below hb1 Hx0.out.lt)
  have H1 := Lib.hid (H0.out.below hb1 (by omega))
  have hz1 := Hb1.out.size
  have hc1 : w1.cell? ⟨w.heap.size, 0, none⟩ = some (.slice A l.length c) := Hx1.out.cell 0
  clear hb1 HW0
  cases hv : pipeOk l
  · have Hv := Lib.hid hv
    clear hv
    go_wp2_with fail
    go_ret
    exact ⟨ret_bool (lineOk_no Hv.out).symm, Hb1.out⟩
  · have Hv := Lib.hid hv
    clear hv
    go_wp2_with fail
    clear hc1
    go_loopw [11] (fun i wr => ∃ k : Nat, k ≤ l.length ∧ i = .int .i64 k ∧ (l.take k).all (fun x : Nd => !(arity x.k == 2)) = true ∧ Below w1.heap.size w1 wr) (fun i _ => l.length - (intOf i).toNat)
    case atStart => exact ⟨0, Nat.zero_le _, rfl, by simp, Below.refl _ _⟩
    case round =>
      obtain ⟨k, hk, rfl, hall, hbr⟩ := hrel
      have Hall := Lib.hid hall
      have Hbr := Lib.hid hbr
      have Hr := Lib.hid (H1.out.below hbr (by omega))
      clear hall hbr
      by_cases hlt : k < l.length
      · obtain ⟨b, o, x, rfl, hbB, hx, hc⟩ := Hr.out.at_ hlt
        obtain ⟨c0, c1, c2, c3, c4⟩ := hc
        have Hx := Lib.hid hx
        have Hnew := Lib.hid (Hbr.out.alloc Hbr.out.size (.cells #[.int .i64 x.k, .int .i64 x.a, .int .i64 x.b, .int .i64 x.n, .int .i64 x.m] 59))
        clear hx
        by_cases h2 : arity x.k = 2
        · have H2 := Lib.hid h2
          clear h2
          go_wp2_with (go_at_call 72; refine (nodesBelow_any _ _).mono ?_; rintro e w2 ⟨rfl, rfl⟩; rw [H2.out])
          go_ret
          exact ⟨ret_bool (lineOk_two Hx.out H2.out).symm, Hb1.out.trans (Hnew.out.mono hz1)⟩
        · have hb2 : (arity x.k == 2) = false := by simp [h2]
          have H2 : Hid ((!(arity x.k == 2)) = true) := by show (!(arity x.k == 2)) = true; rw [hb2]; rfl
          clear h2
          go_wp2_with (go_at_call 72; refine (nodesBelow_any _ _).mono ?_; rintro e w2 ⟨rfl, rfl⟩)
          go_roundw
          case rel => exact ⟨k + 1, by omega, by go_num, all_take_succ (p := fun x : Nd => !(arity x.k == 2)) Hx.out H2.out Hall.out, Hnew.out⟩
          case measure => simp [intOf]; omega
      · obtain rfl : k = l.length := by omega
        go_wp2
        go_ret
        exact ⟨ret_bool (lineOk_yes Hv.out Hall.out).symm, Hb1.out.trans (Hbr.out.mono hz1)⟩

end Go.Proofs.Ytggaahblhdphaaa
