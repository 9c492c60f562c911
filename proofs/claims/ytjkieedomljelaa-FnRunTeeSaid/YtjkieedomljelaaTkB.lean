/- RunTee, TeeAfter and MostHeld by the program; whether turns are allowed, by the reference. -/
import Derived.Test.YtjkieedomljelaaTkA
namespace Go.Proofs.Ytjkieedomljelaa
open Go.RowKit Go.Conc Go.Deep

theorem fd_tk0 (v0 v1 v2 v3 v4 v5 : Value) (w : World) : (Instr.field 74 (.agg #[v0, v1, v2, v3, v4, v5]) 0).run Try.prog w = .ok v0 w := by kernel_rfl

theorem fd_tk1 (v0 v1 v2 v3 v4 v5 : Value) (w : World) : (Instr.field 74 (.agg #[v0, v1, v2, v3, v4, v5]) 1).run Try.prog w = .ok (.agg #[v1, v2, v3, v4]) w := by kernel_rfl

theorem fd_tk2 (v0 v1 v2 v3 v4 v5 : Value) (w : World) : (Instr.field 74 (.agg #[v0, v1, v2, v3, v4, v5]) 2).run Try.prog w = .ok v5 w := by kernel_rfl

set_option maxRecDepth 100000 in
set_option maxHeartbeats 3200000 in
theorem implRunTee_cap (A : Option Addr) (c : Nat) (l : List Int) (i : Int) (A2 : Option Addr) (c2 : Nat) (ts : List Int) (w : World) (B : Nat) (h : RdI w B A l) (h2 : RdI w B A2 ts) (hB : B ≤ w.heap.size) (hn : l.length ≤ 1048576) (hn2 : ts.length ≤ 1048576) (q : List Int) (hq : Hid (tkR l i ts = q)) :
    Calls Try.prog 26 #[.slice A l.length c, .int .i64 i, .slice A2 ts.length c2] w fun e w' => ∃ (R : Option Addr) (cR : Nat), e = .returned (.slice R q.length cR) ∧ OwnI w' w.heap.size w'.heap.size R q ∧ Below w.heap.size w w' ∧ q.length ≤ cR := by
  go_enter Try.func26, Try.ntmps26
  go_wp2_with fail
  refine (takeTurns_any A c l i A2 c2 ts w B h h2 hB hn hn2 q _ _ hq (Lib.hid rfl) (Lib.hid rfl)).mono ?_
  rintro e w1 ⟨R, cR, r', rfl, ho, -, hb, hcp⟩
  have Ho := Lib.hid ho
  have Hb := Lib.hid hb
  clear ho hb
  have hf := fd_tk0
  go_wp2_with fail
  go_ret
  first | exact ⟨R, cR, rfl, Ho.out, Hb.out, hcp⟩ | exact ⟨R, ⟨cR, rfl, Ho.out, Hb.out, hcp⟩⟩ | exact ⟨R, Ho.out, Hb.out, cR, rfl, hcp⟩ | exact ⟨R, ⟨cR, rfl, hcp⟩, Ho.out, Hb.out⟩

theorem implRunTee_any (A : Option Addr) (c : Nat) (l : List Int) (i : Int) (A2 : Option Addr) (c2 : Nat) (ts : List Int) (w : World) (B : Nat) (h : RdI w B A l) (h2 : RdI w B A2 ts) (hB : B ≤ w.heap.size) (hn : l.length ≤ 1048576) (hn2 : ts.length ≤ 1048576) (q : List Int) (hq : Hid (tkR l i ts = q)) :
    Calls Try.prog 26 #[.slice A l.length c, .int .i64 i, .slice A2 ts.length c2] w fun e w' => ∃ (R : Option Addr) (cR : Nat), e = .returned (.slice R q.length cR) ∧ OwnI w' w.heap.size w'.heap.size R q ∧ Below w.heap.size w w' := by
  refine (implRunTee_cap A c l i A2 c2 ts w B h h2 hB hn hn2 q hq).mono ?_
  rintro e w1 ⟨R, cR, rfl, ho, hb, -⟩
  exact ⟨R, cR, rfl, ho, hb⟩

set_option maxRecDepth 100000 in
set_option maxHeartbeats 3200000 in
theorem implMostHeld_any (A : Option Addr) (c : Nat) (l : List Int) (i : Int) (A2 : Option Addr) (c2 : Nat) (ts : List Int) (w : World) (B : Nat) (h : RdI w B A l) (h2 : RdI w B A2 ts) (hB : B ≤ w.heap.size) (hn : l.length ≤ 1048576) (hn2 : ts.length ≤ 1048576) (q : Int) (hq : Hid (tkM l i ts = q)) :
    Calls Try.prog 33 #[.slice A l.length c, .int .i64 i, .slice A2 ts.length c2] w fun e w' => e = .returned (.int .i64 q) ∧ Below w.heap.size w w' := by
  go_enter Try.func33, Try.ntmps33
  go_wp2_with fail
  refine (takeTurns_any A c l i A2 c2 ts w B h h2 hB hn hn2 _ _ q (Lib.hid rfl) (Lib.hid rfl) hq).mono ?_
  rintro e w1 ⟨R, cR, r', rfl, -, -, hb, -⟩
  have Hb := Lib.hid hb
  clear hb
  have hf := fd_tk2
  go_wp2_with fail
  go_ret
  exact ⟨rfl, Hb.out⟩

set_option maxRecDepth 100000 in
set_option maxHeartbeats 3200000 in
theorem implTeeAfter_any (A : Option Addr) (c : Nat) (l : List Int) (i : Int) (A2 : Option Addr) (c2 : Nat) (ts : List Int) (w : World) (B : Nat) (h : RdI w B A l) (h2 : RdI w B A2 ts) (hB : B ≤ w.heap.size) (hn : l.length ≤ 1048576) (hn2 : ts.length ≤ 1048576) (q : Te) (hq : Hid (tkT l i ts = q)) :
    Calls Try.prog 31 #[.slice A l.length c, .int .i64 i, .slice A2 ts.length c2] w fun e w' => ∃ r' : Tr, e = .returned (.agg #[.slice r'.a1 q.it.length r'.c1, .int .i64 q.fd, .slice r'.a2 q.pl.length r'.c2, .slice r'.a3 q.op.length r'.c3]) ∧ OwnT w' w.heap.size w'.heap.size r' q ∧ Below w.heap.size w w' := by
  obtain ⟨W0, hW0⟩ : ∃ W : World, W = w.alloc (.cells #[.slice none 0 0, .int .i64 0, .slice none 0 0, .slice none 0 0] 27) := ⟨_, rfl⟩
  have hb0 : Below w.heap.size w W0 := by rw [hW0]; exact (Below.refl _ _).alloc (Nat.le_refl _) _
  have hs0 : W0.heap.size = w.heap.size + 1 := by rw [hW0]; simp
  have br : Bk W0 w.heap.size 27 [.slice none 0 0, .int .i64 0, .slice none 0 0, .slice none 0 0] := by rw [hW0]; exact Bk.new _ _ [.slice none 0 0, .int .i64 0, .slice none 0 0, .slice none 0 0]
  have H := Lib.hid (h.below hb0 hB)
  have H2 := Lib.hid (h2.below hb0 hB)
  have Hb0 := Lib.hid hb0
  have HW0 := Lib.hid hW0
  have Br := Lib.hid br
  have Hs0 := Lib.hid hs0
  clear h h2 hb0 hW0 hs0 br
  go_enter Try.func31, Try.ntmps31
  go_wp2_with fail
  rw [← HW0.out]
  have hs0 := Hs0.out
  refine (takeTurns_any A c l i A2 c2 ts W0 B H.out H2.out (by omega) hn hn2 _ q _ (Lib.hid rfl) hq (Lib.hid rfl)).mono ?_
  rintro e w1 ⟨R, cR, r', rfl, -, ho, hb, -⟩
  have hz1 := hb.size
  have Ho := Lib.hid ho
  have Hb := Lib.hid (Hb0.out.trans (hb.mono (by omega)))
  have Br1 := Lib.hid (Br.out.below hb (by omega))
  obtain ⟨cr0, cr1, cr2, cr3⟩ := Br1.out.cellsT
  obtain ⟨fr0, fr1, fr2, fr3⟩ := Br1.out.freeT
  clear ho hb hs0
  have hf := fd_tk1
  go_wp2_with fail

  have hs0 := Hs0.out
  have fn : w.heap.size < W0.heap.size ∨ w1.heap.size ≤ w.heap.size := by omega
  refine bodyPost_ret (v := .agg #[.slice r'.a1 q.it.length r'.c1, .int .i64 q.fd, .slice r'.a2 q.pl.length r'.c2, .slice r'.a3 q.op.length r'.c3]) (by simp [results, Try.results31, go_sem, cr0, cr1, cr2, cr3]) rfl ⟨r', rfl, ?_, ?_⟩
  · have hsz : ((((w1.setCell ⟨w.heap.size, 0, none⟩ (.slice r'.a1 q.it.length r'.c1)).setCell ⟨w.heap.size, 1, none⟩ (.int .i64 q.fd)).setCell ⟨w.heap.size, 2, none⟩ (.slice r'.a2 q.pl.length r'.c2)).setCell ⟨w.heap.size, 3, none⟩ (.slice r'.a3 q.op.length r'.c3)).heap.size = w1.heap.size := by simp [World.setCell]
    rw [hsz]
    exact ((((Ho.out.far fn _).far fn _).far fn _).far fn _).wide (by omega) (Nat.le_refl _)
  · exact (((Hb.out.setCell (Nat.le_refl _) _).setCell (Nat.le_refl _) _).setCell (Nat.le_refl _) _).setCell (Nat.le_refl _) _

set_option maxRecDepth 100000 in
set_option maxHeartbeats 3200000 in
theorem validTurns_any (A : Option Addr) (c : Nat) (l : List Int) (i : Int) (A2 : Option Addr) (c2 : Nat) (ts : List Int) (w : World) (B : Nat) (h : RdI w B A l) (h2 : RdI w B A2 ts) (hn : l.length ≤ 1048576) (hn2 : ts.length ≤ 1048576) :
    Calls Try.prog 70 #[.slice A l.length c, .int .i64 i, .slice A2 ts.length c2] w fun e w' => e = .returned (.bool (turnsOk l i ts)) ∧ w = w' := by
  cases hv : (rowOk l && inR i 1 4)
  · have hno : turnsOk l i ts = false := by unfold turnsOk; rw [hv]; rfl
    have Hv := Lib.hid hv
    have Hno := Lib.hid hno
    clear hv hno
    go_enter Try.func70, Try.ntmps70
    go_wp2_with fail
    refine (goodTee_any A c l i w B h hn).mono ?_
    rintro e w1 ⟨rfl, rfl⟩
    rw [Hv.out]
    go_wp2_with fail
    go_ret
    exact ⟨ret_bool Hno.out.symm, rfl⟩
  have hr := hv
  rw [Bool.and_eq_true] at hr
  obtain ⟨hi0, hi1⟩ := inR_iff.1 hr.2
  by_cases hlen : ts.length ≤ 60
  rotate_left
  · have hno : turnsOk l i ts = false := by unfold turnsOk; rw [hv, decide_eq_false hlen]; rfl
    have Hv := Lib.hid hv
    have Hno := Lib.hid hno
    have hgi : ¬ ((ts.length : Int) ≤ 60) := by omega
    clear hv hno hr hlen
    go_enter Try.func70, Try.ntmps70
    go_wp2_with fail
    refine (goodTee_any A c l i w B h hn).mono ?_
    rintro e w1 ⟨rfl, rfl⟩
    rw [Hv.out]
    go_wp2_with fail
    go_ret
    exact ⟨ret_bool Hno.out.symm, rfl⟩
  · have hyes : turnsOk l i ts = allB ts 0 (i - 1) := by unfold turnsOk; rw [hv, decide_eq_true hlen]; rfl
    have Hv := Lib.hid hv
    have Hyes := Lib.hid hyes
    have hgi : (ts.length : Int) ≤ 60 := by omega
    clear hv hyes hr hlen
    go_enter Try.func70, Try.ntmps70
    go_wp2_with fail
    refine (goodTee_any A c l i w B h hn).mono ?_
    rintro e w1 ⟨rfl, rfl⟩
    rw [Hv.out]
    go_wp2_with fail
    refine (allIn_any A2 c2 ts 0 (i - 1) w B h2 hn2).mono ?_
    rintro e w1 ⟨rfl, rfl⟩
    go_wp2_with fail
    all_goals go_ret
    all_goals exact ⟨ret_bool Hyes.out.symm, rfl⟩

end Go.Proofs.Ytjkieedomljelaa
