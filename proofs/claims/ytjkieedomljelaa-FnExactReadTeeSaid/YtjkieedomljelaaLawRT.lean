/- The law FnExactReadTee returns true for every input, and its arguments read afterwards as before. Conditions: none. -/
import Derived.Test.YtjkieedomljelaaRows
import Derived.Test.YtjkieedomljelaaRdU
import Derived.Test.YtjkieedomljelaaOpenT
import Derived.Test.YtjkieedomljelaaOpen
import Derived.Deep.RegionHeld3
import Derived.Deep.CutRange
import Derived.Deep.DeepMust
namespace Go.Proofs.Ytjkieedomljelaa.LawRT
open Go.ChangeShapes Go.WideShapes Go.ChangeAt Go.RowKit Go.Deep

theorem own : ownKnob Try.prog.godebug = none := by kernel_rfl
theorem laidOut : laidOutB Try.prog = true := by kernel_rfl

set_option maxRecDepth 100000 in
set_option maxHeartbeats 12800000 in
theorem walk0 (r0 : Tr) (l0 : Te) (i1 : Int) (w : World) (q : Te) (x : Int) (b : Bool) (hq : Hid (readQ l0 i1 = q)) (hqx : Hid (readQx l0 i1 = x)) (hqb : Hid (readQb l0 i1 = b)) (hqn_0 : q.it.length ≤ 1048576) (hqn_1 : q.pl.length ≤ 1048576) (hqn_2 : q.op.length ≤ 1048576) (hqs : szT q ≤ 1048576) (hr0 : RdT w w.heap.size r0 l0) (hn0_0 : l0.it.length ≤ maxLen) (hn0_1 : l0.pl.length ≤ maxLen) (hn0_2 : l0.op.length ≤ maxLen)  :
    Calls Try.prog 3 #[.agg #[.slice r0.a1 l0.it.length r0.c1, .int .i64 l0.fd, .slice r0.a2 l0.pl.length r0.c2, .slice r0.a3 l0.op.length r0.c3], .int .i64 i1] w fun e w' => e = .returned (.bool true) ∧ Below w.heap.size w w' := by
  obtain ⟨W0, hW0⟩ : ∃ W0 : World, W0 = w.alloc (.cells #[.slice r0.a1 l0.it.length r0.c1, .int .i64 l0.fd, .slice r0.a2 l0.pl.length r0.c2, .slice r0.a3 l0.op.length r0.c3] 25) := ⟨_, rfl⟩
  have hb0 : Below w.heap.size w W0 := by rw [hW0]; exact (Below.refl w.heap.size w).alloc (Nat.le_refl _) _
  have hx0 : Bk W0 w.heap.size 25 [.slice r0.a1 l0.it.length r0.c1, .int .i64 l0.fd, .slice r0.a2 l0.pl.length r0.c2, .slice r0.a3 l0.op.length r0.c3] := by rw [hW0]; exact Bk.new w 25 [.slice r0.a1 l0.it.length r0.c1, .int .i64 l0.fd, .slice r0.a2 l0.pl.length r0.c2, .slice r0.a3 l0.op.length r0.c3]
  have Hab0 := Lib.hid hx0.held
  have hz_W0 : w.heap.size + 1 ≤ W0.heap.size := by rw [hW0]; simp
  have Ha0 : Hid (Held W0 0 w.heap.size (fun v => RdT v w.heap.size r0 l0)) := Lib.hid ((hr0.held (Nat.le_refl _)).below hb0 (Nat.le_refl _))
  have Hb := Lib.hid hb0
  have HW0 := Lib.hid hW0
  clear hb0 hW0 hx0 hr0
  go_enter Try.func3, Try.ntmps3
  go_wp2_with fail
  rw [← HW0.out]
  refine (szTee_any r0 l0 1048576 _ (by omega) (by omega) hn0_0 hn0_1 hn0_2).mono ?_
  rintro e w1 ⟨rfl, hb1⟩
  have hz_w1 : W0.heap.size ≤ w1.heap.size := hb1.size
  replace Hb := Lib.hid (Hb.out.trans (hb1.mono Hb.out.size))
  replace Hab0 := Lib.hid (Hab0.out.below hb1 Hab0.out.top)
  replace Ha0 := Lib.hid (Ha0.out.below hb1 Ha0.out.top)
  clear hb1
  by_cases hlt0 : (1048576 : Int) < (szT l0 : Nat)
  · rw [szLeft_no hlt0]
    clear hlt0
    go_wp2_with fail
    go_ret
    exact ⟨rfl, Hb.out⟩
  rw [szLeft_yes hlt0]
  have hleft0 : (0 : Int) ≤ 1048576 - (szT l0 : Nat) := by omega
  have hs0_0 : l0.it.length ≤ 1048576 := by unfold szT at hlt0; omega
  have hs0_1 : l0.pl.length ≤ 1048576 := by unfold szT at hlt0; omega
  have hs0_2 : l0.op.length ≤ 1048576 := by unfold szT at hlt0; omega
  have hsz0 : szT l0 ≤ 1048576 := by omega
  clear hlt0
  have cb0_Hab0 : w1.cell? ⟨w.heap.size, 0, none⟩ = some (.slice r0.a1 l0.it.length r0.c1) := Hab0.out.out.cell 0
  have cb1_Hab0 : w1.cell? ⟨w.heap.size, 1, none⟩ = some (.int .i64 l0.fd) := Hab0.out.out.cell 1
  have cb2_Hab0 : w1.cell? ⟨w.heap.size, 2, none⟩ = some (.slice r0.a2 l0.pl.length r0.c2) := Hab0.out.out.cell 2
  have cb3_Hab0 : w1.cell? ⟨w.heap.size, 3, none⟩ = some (.slice r0.a3 l0.op.length r0.c3) := Hab0.out.out.cell 3
  have lb_Hab0 : w.heap.size < w1.heap.size := by have := Hab0.out.top; omega
  go_wp2_with fail
  refine (toTee_h r0 l0 _ w.heap.size Ha0.out.out Hb.out.size hs0_0 hs0_1 hs0_2).mono ?_
  rintro e w2 ⟨r_Ht0, rfl, ho2, hb2, hcap_Ht0⟩
  have Ht0 : Hid (Held w2 w1.heap.size w2.heap.size (fun v => OwnT v w1.heap.size w2.heap.size r_Ht0 l0)) := Lib.hid (ho2.held hb2.size (Nat.le_refl _))
  clear cb0_Hab0 cb1_Hab0 cb2_Hab0 cb3_Hab0 lb_Hab0
  have hz_w2 : w1.heap.size ≤ w2.heap.size := hb2.size
  replace Hb := Lib.hid (Hb.out.trans (hb2.mono Hb.out.size))
  replace Hab0 := Lib.hid (Hab0.out.below hb2 Hab0.out.top)
  replace Ha0 := Lib.hid (Ha0.out.below hb2 Ha0.out.top)
  clear ho2 hb2
  go_wp2_with fail
  refine (specReadTee_any r_Ht0 l0 i1 _ w2.heap.size (Ht0.out.out.rdt Ht0.out.top) (Nat.le_refl _) hs0_0 hs0_1 hs0_2 q x b hq hqx hqb).mono ?_
  rintro e w3 ⟨r_Hw, rfl, ho3, hb3⟩
  have Hw : Hid (Held w3 w2.heap.size w3.heap.size (fun v => OwnT v w2.heap.size w3.heap.size r_Hw q)) := Lib.hid (ho3.held hb3.size (Nat.le_refl _))
  have hz_w3 : w2.heap.size ≤ w3.heap.size := hb3.size
  replace Hb := Lib.hid (Hb.out.trans (hb3.mono Hb.out.size))
  replace Hab0 := Lib.hid (Hab0.out.below hb3 Hab0.out.top)
  replace Ha0 := Lib.hid (Ha0.out.below hb3 Ha0.out.top)
  replace Ht0 := Lib.hid (Ht0.out.below hb3 Ht0.out.top)
  clear ho3 hb3
  have cb0_Hab0 : w3.cell? ⟨w.heap.size, 0, none⟩ = some (.slice r0.a1 l0.it.length r0.c1) := Hab0.out.out.cell 0
  have cb1_Hab0 : w3.cell? ⟨w.heap.size, 1, none⟩ = some (.int .i64 l0.fd) := Hab0.out.out.cell 1
  have cb2_Hab0 : w3.cell? ⟨w.heap.size, 2, none⟩ = some (.slice r0.a2 l0.pl.length r0.c2) := Hab0.out.out.cell 2
  have cb3_Hab0 : w3.cell? ⟨w.heap.size, 3, none⟩ = some (.slice r0.a3 l0.op.length r0.c3) := Hab0.out.out.cell 3
  have lb_Hab0 : w.heap.size < w3.heap.size := by have := Hab0.out.top; omega
  obtain ⟨Vw3, hVw3⟩ : ∃ W : World, W = w3.alloc (.cells #[.slice r_Hw.a1 q.it.length r_Hw.c1, .int .i64 q.fd, .slice r_Hw.a2 q.pl.length r_Hw.c2, .slice r_Hw.a3 q.op.length r_Hw.c3] 27) := ⟨_, rfl⟩
  have hbVw3 : Below w3.heap.size w3 Vw3 := by rw [hVw3]; exact (Below.refl _ _).alloc (Nat.le_refl _) _
  have Hwb : Hid (Held Vw3 w3.heap.size (w3.heap.size + 1) (fun v => Bk v w3.heap.size 27 [.slice r_Hw.a1 q.it.length r_Hw.c1, .int .i64 q.fd, .slice r_Hw.a2 q.pl.length r_Hw.c2, .slice r_Hw.a3 q.op.length r_Hw.c3])) := Lib.hid (by rw [hVw3]; exact (Bk.new _ _ [_, _, _, _]).held)
  have ht_Hwb : w3.heap.size + 1 ≤ Vw3.heap.size := Hwb.out.top
  have hz_Vw3 : w3.heap.size ≤ Vw3.heap.size := hbVw3.size
  replace Hb := Lib.hid (Hb.out.trans (hbVw3.mono Hb.out.size))
  replace Hab0 := Lib.hid (Hab0.out.below hbVw3 Hab0.out.top)
  replace Ha0 := Lib.hid (Ha0.out.below hbVw3 Ha0.out.top)
  replace Hw := Lib.hid (Hw.out.below hbVw3 Hw.out.top)
  have HVw3 := Lib.hid hVw3
  clear hVw3 hbVw3
  go_wp2_with fail
  rw [← HVw3.out]
  refine (toTee_h r0 l0 _ w.heap.size Ha0.out.out Hb.out.size hs0_0 hs0_1 hs0_2).mono ?_
  rintro e w4 ⟨r_Hx0, rfl, ho4, hb4, hcap_Hx0⟩
  have Hx0 : Hid (Held w4 Vw3.heap.size w4.heap.size (fun v => OwnT v Vw3.heap.size w4.heap.size r_Hx0 l0)) := Lib.hid (ho4.held hb4.size (Nat.le_refl _))
  clear cb0_Hab0 cb1_Hab0 cb2_Hab0 cb3_Hab0 lb_Hab0
  have hz_w4 : Vw3.heap.size ≤ w4.heap.size := hb4.size
  replace Hb := Lib.hid (Hb.out.trans (hb4.mono Hb.out.size))
  replace Hab0 := Lib.hid (Hab0.out.below hb4 Hab0.out.top)
  replace Ha0 := Lib.hid (Ha0.out.below hb4 Ha0.out.top)
  replace Hw := Lib.hid (Hw.out.below hb4 Hw.out.top)
  replace Hwb := Lib.hid (Hwb.out.below hb4 Hwb.out.top)
  clear ho4 hb4
  obtain ⟨Vw4, hVw4⟩ : ∃ W : World, W = w4.alloc (.cells #[.slice r_Hx0.a1 l0.it.length r_Hx0.c1, .int .i64 l0.fd, .slice r_Hx0.a2 l0.pl.length r_Hx0.c2, .slice r_Hx0.a3 l0.op.length r_Hx0.c3] 27) := ⟨_, rfl⟩
  have hbVw4 : Below w4.heap.size w4 Vw4 := by rw [hVw4]; exact (Below.refl _ _).alloc (Nat.le_refl _) _
  have Hxb0 : Hid (Held Vw4 w4.heap.size (w4.heap.size + 1) (fun v => Bk v w4.heap.size 27 [.slice r_Hx0.a1 l0.it.length r_Hx0.c1, .int .i64 l0.fd, .slice r_Hx0.a2 l0.pl.length r_Hx0.c2, .slice r_Hx0.a3 l0.op.length r_Hx0.c3])) := Lib.hid (by rw [hVw4]; exact (Bk.new _ _ [_, _, _, _]).held)
  have ht_Hxb0 : w4.heap.size + 1 ≤ Vw4.heap.size := Hxb0.out.top
  have hz_Vw4 : w4.heap.size ≤ Vw4.heap.size := hbVw4.size
  replace Hb := Lib.hid (Hb.out.trans (hbVw4.mono Hb.out.size))
  replace Hab0 := Lib.hid (Hab0.out.below hbVw4 Hab0.out.top)
  replace Ha0 := Lib.hid (Ha0.out.below hbVw4 Ha0.out.top)
  replace Hw := Lib.hid (Hw.out.below hbVw4 Hw.out.top)
  replace Hwb := Lib.hid (Hwb.out.below hbVw4 Hwb.out.top)
  replace Hx0 := Lib.hid (Hx0.out.below hbVw4 Hx0.out.top)
  have HVw4 := Lib.hid hVw4
  clear hVw4 hbVw4
  go_wp2_with fail
  rw [← HVw4.out]
  refine (implReadTee_any r_Hx0 l0 i1 _ Vw4.heap.size (Hx0.out.out.rdt Hx0.out.top) (Nat.le_refl _) hs0_0 hs0_1 hs0_2 hcap_Hx0 q x b hq hqx hqb).mono ?_
  rintro e w5 ⟨r_Hg, rfl, ho5, hb5⟩
  have Hg : Hid (Held w5 Vw4.heap.size w5.heap.size (fun v => OwnT v Vw4.heap.size w5.heap.size r_Hg q)) := Lib.hid (ho5.held hb5.size (Nat.le_refl _))
  have hz_w5 : Vw4.heap.size ≤ w5.heap.size := hb5.size
  replace Hb := Lib.hid (Hb.out.trans (hb5.mono Hb.out.size))
  replace Hab0 := Lib.hid (Hab0.out.below hb5 Hab0.out.top)
  replace Ha0 := Lib.hid (Ha0.out.below hb5 Ha0.out.top)
  replace Hw := Lib.hid (Hw.out.below hb5 Hw.out.top)
  replace Hwb := Lib.hid (Hwb.out.below hb5 Hwb.out.top)
  replace Hx0 := Lib.hid (Hx0.out.below hb5 Hx0.out.top)
  replace Hxb0 := Lib.hid (Hxb0.out.below hb5 Hxb0.out.top)
  clear ho5 hb5
  have cb0_Hwb : w5.cell? ⟨w3.heap.size, 0, none⟩ = some (.slice r_Hw.a1 q.it.length r_Hw.c1) := Hwb.out.out.cell 0
  have cb1_Hwb : w5.cell? ⟨w3.heap.size, 1, none⟩ = some (.int .i64 q.fd) := Hwb.out.out.cell 1
  have cb2_Hwb : w5.cell? ⟨w3.heap.size, 2, none⟩ = some (.slice r_Hw.a2 q.pl.length r_Hw.c2) := Hwb.out.out.cell 2
  have cb3_Hwb : w5.cell? ⟨w3.heap.size, 3, none⟩ = some (.slice r_Hw.a3 q.op.length r_Hw.c3) := Hwb.out.out.cell 3
  have lb_Hwb : w3.heap.size < w5.heap.size := by have := Hwb.out.top; omega
  obtain ⟨Vw5, hVw5⟩ : ∃ W : World, W = w5.alloc (.cells #[.slice r_Hg.a1 q.it.length r_Hg.c1, .int .i64 q.fd, .slice r_Hg.a2 q.pl.length r_Hg.c2, .slice r_Hg.a3 q.op.length r_Hg.c3] 27) := ⟨_, rfl⟩
  have hbVw5 : Below w5.heap.size w5 Vw5 := by rw [hVw5]; exact (Below.refl _ _).alloc (Nat.le_refl _) _
  have Hgb : Hid (Held Vw5 w5.heap.size (w5.heap.size + 1) (fun v => Bk v w5.heap.size 27 [.slice r_Hg.a1 q.it.length r_Hg.c1, .int .i64 q.fd, .slice r_Hg.a2 q.pl.length r_Hg.c2, .slice r_Hg.a3 q.op.length r_Hg.c3])) := Lib.hid (by rw [hVw5]; exact (Bk.new _ _ [_, _, _, _]).held)
  have ht_Hgb : w5.heap.size + 1 ≤ Vw5.heap.size := Hgb.out.top
  have hz_Vw5 : w5.heap.size ≤ Vw5.heap.size := hbVw5.size
  replace Hb := Lib.hid (Hb.out.trans (hbVw5.mono Hb.out.size))
  replace Hab0 := Lib.hid (Hab0.out.below hbVw5 Hab0.out.top)
  replace Ha0 := Lib.hid (Ha0.out.below hbVw5 Ha0.out.top)
  replace Hw := Lib.hid (Hw.out.below hbVw5 Hw.out.top)
  replace Hwb := Lib.hid (Hwb.out.below hbVw5 Hwb.out.top)
  replace Hx0 := Lib.hid (Hx0.out.below hbVw5 Hx0.out.top)
  replace Hxb0 := Lib.hid (Hxb0.out.below hbVw5 Hxb0.out.top)
  replace Hg := Lib.hid (Hg.out.below hbVw5 Hg.out.top)
  have HVw5 := Lib.hid hVw5
  clear hVw5 hbVw5
  go_wp2_with fail
  rw [← HVw5.out]
  refine (eqTee_any _ _ q _ Vw5.heap.size (Hg.out.out.rdt Hg.out.top) (Hw.out.out.rdt Hw.out.top) (Nat.le_refl _) hqn_0 hqn_1 hqn_2).mono ?_
  rintro e w6 ⟨rfl, hb6⟩
  clear cb0_Hwb cb1_Hwb cb2_Hwb cb3_Hwb lb_Hwb
  have hz_w6 : Vw5.heap.size ≤ w6.heap.size := hb6.size
  replace Hb := Lib.hid (Hb.out.trans (hb6.mono Hb.out.size))
  replace Hab0 := Lib.hid (Hab0.out.below hb6 Hab0.out.top)
  replace Ha0 := Lib.hid (Ha0.out.below hb6 Ha0.out.top)
  replace Hw := Lib.hid (Hw.out.below hb6 Hw.out.top)
  replace Hwb := Lib.hid (Hwb.out.below hb6 Hwb.out.top)
  replace Hx0 := Lib.hid (Hx0.out.below hb6 Hx0.out.top)
  replace Hxb0 := Lib.hid (Hxb0.out.below hb6 Hxb0.out.top)
  replace Hg := Lib.hid (Hg.out.below hb6 Hg.out.top)
  replace Hgb := Lib.hid (Hgb.out.below hb6 Hgb.out.top)
  clear hb6
  have cb0_Hab0 : w6.cell? ⟨w.heap.size, 0, none⟩ = some (.slice r0.a1 l0.it.length r0.c1) := Hab0.out.out.cell 0
  have cb1_Hab0 : w6.cell? ⟨w.heap.size, 1, none⟩ = some (.int .i64 l0.fd) := Hab0.out.out.cell 1
  have cb2_Hab0 : w6.cell? ⟨w.heap.size, 2, none⟩ = some (.slice r0.a2 l0.pl.length r0.c2) := Hab0.out.out.cell 2
  have cb3_Hab0 : w6.cell? ⟨w.heap.size, 3, none⟩ = some (.slice r0.a3 l0.op.length r0.c3) := Hab0.out.out.cell 3
  have lb_Hab0 : w.heap.size < w6.heap.size := by have := Hab0.out.top; omega
  have cb0_Hxb0 : w6.cell? ⟨w4.heap.size, 0, none⟩ = some (.slice r_Hx0.a1 l0.it.length r_Hx0.c1) := Hxb0.out.out.cell 0
  have cb1_Hxb0 : w6.cell? ⟨w4.heap.size, 1, none⟩ = some (.int .i64 l0.fd) := Hxb0.out.out.cell 1
  have cb2_Hxb0 : w6.cell? ⟨w4.heap.size, 2, none⟩ = some (.slice r_Hx0.a2 l0.pl.length r_Hx0.c2) := Hxb0.out.out.cell 2
  have cb3_Hxb0 : w6.cell? ⟨w4.heap.size, 3, none⟩ = some (.slice r_Hx0.a3 l0.op.length r_Hx0.c3) := Hxb0.out.out.cell 3
  have lb_Hxb0 : w4.heap.size < w6.heap.size := by have := Hxb0.out.top; omega
  have HS : Hid (∀ W' : World, Below w6.heap.size w6 W' → W'.cell? ⟨w4.heap.size, 0, none⟩ = some (.slice r_Hx0.a1 l0.it.length r_Hx0.c1) ∧ W'.cell? ⟨w4.heap.size, 1, none⟩ = some (.int .i64 l0.fd) ∧ W'.cell? ⟨w4.heap.size, 2, none⟩ = some (.slice r_Hx0.a2 l0.pl.length r_Hx0.c2) ∧ W'.cell? ⟨w4.heap.size, 3, none⟩ = some (.slice r_Hx0.a3 l0.op.length r_Hx0.c3) ∧ W'.cell? ⟨w.heap.size, 0, none⟩ = some (.slice r0.a1 l0.it.length r0.c1) ∧ W'.cell? ⟨w.heap.size, 1, none⟩ = some (.int .i64 l0.fd) ∧ W'.cell? ⟨w.heap.size, 2, none⟩ = some (.slice r0.a2 l0.pl.length r0.c2) ∧ W'.cell? ⟨w.heap.size, 3, none⟩ = some (.slice r0.a3 l0.op.length r0.c3)) := Lib.hid (fun W' hb => ⟨(Hxb0.out.below hb Hxb0.out.top).out.cell 0, (Hxb0.out.below hb Hxb0.out.top).out.cell 1, (Hxb0.out.below hb Hxb0.out.top).out.cell 2, (Hxb0.out.below hb Hxb0.out.top).out.cell 3, (Hab0.out.below hb Hab0.out.top).out.cell 0, (Hab0.out.below hb Hab0.out.top).out.cell 1, (Hab0.out.below hb Hab0.out.top).out.cell 2, (Hab0.out.below hb Hab0.out.top).out.cell 3⟩)
  go_wp2_with fail
  go_region_held3 (fun w' => w'.cell? ⟨w4.heap.size, 0, none⟩ = some (.slice r_Hx0.a1 l0.it.length r_Hx0.c1) ∧ w'.cell? ⟨w4.heap.size, 1, none⟩ = some (.int .i64 l0.fd) ∧ w'.cell? ⟨w4.heap.size, 2, none⟩ = some (.slice r_Hx0.a2 l0.pl.length r_Hx0.c2) ∧ w'.cell? ⟨w4.heap.size, 3, none⟩ = some (.slice r_Hx0.a3 l0.op.length r_Hx0.c3) ∧ w'.cell? ⟨w.heap.size, 0, none⟩ = some (.slice r0.a1 l0.it.length r0.c1) ∧ w'.cell? ⟨w.heap.size, 1, none⟩ = some (.int .i64 l0.fd) ∧ w'.cell? ⟨w.heap.size, 2, none⟩ = some (.slice r0.a2 l0.pl.length r0.c2) ∧ w'.cell? ⟨w.heap.size, 3, none⟩ = some (.slice r0.a3 l0.op.length r0.c3))
    (go_keep)
    (first
        | (
          go_at_call 19
          refine (toTee_h r0 l0 _ w.heap.size (Ha0.out.drewN 1).out (by first | omega | (simp; omega)) hs0_0 hs0_1 hs0_2).mono ?_
          rintro e w7 ⟨r_Hc0, rfl, ho7, hb7z, hcap_Hc0⟩
          replace ho7 : OwnT w7 w6.heap.size w7.heap.size r_Hc0 l0 := by simpa using ho7
          have hb7 : Below w6.heap.size w6 w7 := ((Below.refl w6.heap.size w6).drew).trans (hb7z.mono (by simp))
          have Hc0 : Hid (Held w7 w6.heap.size w7.heap.size (fun v => OwnT v w6.heap.size w7.heap.size r_Hc0 l0)) := Lib.hid (ho7.held hb7.size (Nat.le_refl _))
          have ks7 := HS.out _ hb7
          have hz_w7 : w6.heap.size ≤ w7.heap.size := hb7.size
          replace Hb := Lib.hid (Hb.out.trans (hb7.mono Hb.out.size))
          replace Hab0 := Lib.hid (Hab0.out.below hb7 Hab0.out.top)
          replace Ha0 := Lib.hid (Ha0.out.below hb7 Ha0.out.top)
          replace Hw := Lib.hid (Hw.out.below hb7 Hw.out.top)
          replace Hwb := Lib.hid (Hwb.out.below hb7 Hwb.out.top)
          replace Hx0 := Lib.hid (Hx0.out.below hb7 Hx0.out.top)
          replace Hxb0 := Lib.hid (Hxb0.out.below hb7 Hxb0.out.top)
          replace Hg := Lib.hid (Hg.out.below hb7 Hg.out.top)
          replace Hgb := Lib.hid (Hgb.out.below hb7 Hgb.out.top)
          clear ho7 hb7 hb7z)
        | (
          go_at_call 21
          refine (eqTee_any _ _ l0 _ w7.heap.size (Hx0.out.out.rdt Hx0.out.top) (Hc0.out.out.rdt Hc0.out.top) (Nat.le_refl _) hs0_0 hs0_1 hs0_2).mono ?_
          rintro e w8 ⟨rfl, hb8⟩
          have ks8 : w8.cell? ⟨w4.heap.size, 0, none⟩ = some (.slice r_Hx0.a1 l0.it.length r_Hx0.c1) ∧ w8.cell? ⟨w4.heap.size, 1, none⟩ = some (.int .i64 l0.fd) ∧ w8.cell? ⟨w4.heap.size, 2, none⟩ = some (.slice r_Hx0.a2 l0.pl.length r_Hx0.c2) ∧ w8.cell? ⟨w4.heap.size, 3, none⟩ = some (.slice r_Hx0.a3 l0.op.length r_Hx0.c3) ∧ w8.cell? ⟨w.heap.size, 0, none⟩ = some (.slice r0.a1 l0.it.length r0.c1) ∧ w8.cell? ⟨w.heap.size, 1, none⟩ = some (.int .i64 l0.fd) ∧ w8.cell? ⟨w.heap.size, 2, none⟩ = some (.slice r0.a2 l0.pl.length r0.c2) ∧ w8.cell? ⟨w.heap.size, 3, none⟩ = some (.slice r0.a3 l0.op.length r0.c3) := ⟨(Hxb0.out.below hb8 Hxb0.out.top).out.cell 0, (Hxb0.out.below hb8 Hxb0.out.top).out.cell 1, (Hxb0.out.below hb8 Hxb0.out.top).out.cell 2, (Hxb0.out.below hb8 Hxb0.out.top).out.cell 3, (Hab0.out.below hb8 Hab0.out.top).out.cell 0, (Hab0.out.below hb8 Hab0.out.top).out.cell 1, (Hab0.out.below hb8 Hab0.out.top).out.cell 2, (Hab0.out.below hb8 Hab0.out.top).out.cell 3⟩
          have hz_w8 : w7.heap.size ≤ w8.heap.size := hb8.size
          replace Hb := Lib.hid (Hb.out.trans (hb8.mono Hb.out.size))
          replace Hab0 := Lib.hid (Hab0.out.below hb8 Hab0.out.top)
          replace Ha0 := Lib.hid (Ha0.out.below hb8 Ha0.out.top)
          replace Hw := Lib.hid (Hw.out.below hb8 Hw.out.top)
          replace Hwb := Lib.hid (Hwb.out.below hb8 Hwb.out.top)
          replace Hx0 := Lib.hid (Hx0.out.below hb8 Hx0.out.top)
          replace Hxb0 := Lib.hid (Hxb0.out.below hb8 Hxb0.out.top)
          replace Hg := Lib.hid (Hg.out.below hb8 Hg.out.top)
          replace Hgb := Lib.hid (Hgb.out.below hb8 Hgb.out.top)
          replace Hc0 := Lib.hid (Hc0.out.below hb8 Hc0.out.top)
          clear hb8))
  clear HS ks7 ks8 cb0_Hab0 cb1_Hab0 cb2_Hab0 cb3_Hab0 lb_Hab0 cb0_Hxb0 cb1_Hxb0 cb2_Hxb0 cb3_Hxb0 lb_Hxb0 Hc0
  have cb0_Hxb0 : w8.cell? ⟨w4.heap.size, 0, none⟩ = some (.slice r_Hx0.a1 l0.it.length r_Hx0.c1) := Hxb0.out.out.cell 0
  have cb1_Hxb0 : w8.cell? ⟨w4.heap.size, 1, none⟩ = some (.int .i64 l0.fd) := Hxb0.out.out.cell 1
  have cb2_Hxb0 : w8.cell? ⟨w4.heap.size, 2, none⟩ = some (.slice r_Hx0.a2 l0.pl.length r_Hx0.c2) := Hxb0.out.out.cell 2
  have cb3_Hxb0 : w8.cell? ⟨w4.heap.size, 3, none⟩ = some (.slice r_Hx0.a3 l0.op.length r_Hx0.c3) := Hxb0.out.out.cell 3
  have lb_Hxb0 : w4.heap.size < w8.heap.size := by have := Hxb0.out.top; omega
  go_wp2_with fail
  refine (markTee_h (1) Hx0.out.out hs0_0 hs0_1 hs0_2 (by omega) (by omega) Hx0.out.top).mono ?_
  rintro e w9 ⟨rfl, -, hc9⟩
  clear cb0_Hxb0 cb1_Hxb0 cb2_Hxb0 cb3_Hxb0 lb_Hxb0
  have hz_w9 : w8.heap.size ≤ w9.heap.size := hc9.size
  replace Hb := Lib.hid (hc9.below_ Hb.out (by omega) Hb.out.size)
  replace Hab0 := Lib.hid (Hab0.out.chg hc9 (by omega))
  replace Ha0 := Lib.hid (Ha0.out.chg hc9 (by omega))
  replace Hw := Lib.hid (Hw.out.chg hc9 (by omega))
  replace Hwb := Lib.hid (Hwb.out.chg hc9 (by omega))
  replace Hxb0 := Lib.hid (Hxb0.out.chg hc9 (by omega))
  replace Hg := Lib.hid (Hg.out.chg hc9 (by omega))
  replace Hgb := Lib.hid (Hgb.out.chg hc9 (by omega))
  clear hc9 Hx0
  have hpos0 : (0 : Int) ≤ 1 + (szT l0 : Nat) := by omega
  have cb0_Hwb : w9.cell? ⟨w3.heap.size, 0, none⟩ = some (.slice r_Hw.a1 q.it.length r_Hw.c1) := Hwb.out.out.cell 0
  have cb1_Hwb : w9.cell? ⟨w3.heap.size, 1, none⟩ = some (.int .i64 q.fd) := Hwb.out.out.cell 1
  have cb2_Hwb : w9.cell? ⟨w3.heap.size, 2, none⟩ = some (.slice r_Hw.a2 q.pl.length r_Hw.c2) := Hwb.out.out.cell 2
  have cb3_Hwb : w9.cell? ⟨w3.heap.size, 3, none⟩ = some (.slice r_Hw.a3 q.op.length r_Hw.c3) := Hwb.out.out.cell 3
  have lb_Hwb : w3.heap.size < w9.heap.size := by have := Hwb.out.top; omega
  have cb0_Hgb : w9.cell? ⟨w5.heap.size, 0, none⟩ = some (.slice r_Hg.a1 q.it.length r_Hg.c1) := Hgb.out.out.cell 0
  have cb1_Hgb : w9.cell? ⟨w5.heap.size, 1, none⟩ = some (.int .i64 q.fd) := Hgb.out.out.cell 1
  have cb2_Hgb : w9.cell? ⟨w5.heap.size, 2, none⟩ = some (.slice r_Hg.a2 q.pl.length r_Hg.c2) := Hgb.out.out.cell 2
  have cb3_Hgb : w9.cell? ⟨w5.heap.size, 3, none⟩ = some (.slice r_Hg.a3 q.op.length r_Hg.c3) := Hgb.out.out.cell 3
  have lb_Hgb : w5.heap.size < w9.heap.size := by have := Hgb.out.top; omega
  go_wp2_with fail
  refine (eqTee_any _ _ q _ w9.heap.size (Hg.out.out.rdt Hg.out.top) (Hw.out.out.rdt Hw.out.top) (Nat.le_refl _) hqn_0 hqn_1 hqn_2).mono ?_
  rintro e w10 ⟨rfl, hb10⟩
  clear cb0_Hwb cb1_Hwb cb2_Hwb cb3_Hwb lb_Hwb cb0_Hgb cb1_Hgb cb2_Hgb cb3_Hgb lb_Hgb
  have hz_w10 : w9.heap.size ≤ w10.heap.size := hb10.size
  replace Hb := Lib.hid (Hb.out.trans (hb10.mono Hb.out.size))
  replace Hab0 := Lib.hid (Hab0.out.below hb10 Hab0.out.top)
  replace Ha0 := Lib.hid (Ha0.out.below hb10 Ha0.out.top)
  replace Hw := Lib.hid (Hw.out.below hb10 Hw.out.top)
  replace Hwb := Lib.hid (Hwb.out.below hb10 Hwb.out.top)
  replace Hxb0 := Lib.hid (Hxb0.out.below hb10 Hxb0.out.top)
  replace Hg := Lib.hid (Hg.out.below hb10 Hg.out.top)
  replace Hgb := Lib.hid (Hgb.out.below hb10 Hgb.out.top)
  clear hb10
  have cb0_Hgb : w10.cell? ⟨w5.heap.size, 0, none⟩ = some (.slice r_Hg.a1 q.it.length r_Hg.c1) := Hgb.out.out.cell 0
  have cb1_Hgb : w10.cell? ⟨w5.heap.size, 1, none⟩ = some (.int .i64 q.fd) := Hgb.out.out.cell 1
  have cb2_Hgb : w10.cell? ⟨w5.heap.size, 2, none⟩ = some (.slice r_Hg.a2 q.pl.length r_Hg.c2) := Hgb.out.out.cell 2
  have cb3_Hgb : w10.cell? ⟨w5.heap.size, 3, none⟩ = some (.slice r_Hg.a3 q.op.length r_Hg.c3) := Hgb.out.out.cell 3
  have lb_Hgb : w5.heap.size < w10.heap.size := by have := Hgb.out.top; omega
  go_wp2_with fail
  refine (markTee_h 1 Hg.out.out hqn_0 hqn_1 hqn_2 (by decide) (by decide) Hg.out.top).mono ?_
  rintro e w11 ⟨rfl, ho11, hc11⟩
  clear cb0_Hgb cb1_Hgb cb2_Hgb cb3_Hgb lb_Hgb
  have hle_g : Vw4.heap.size ≤ w5.heap.size := Hg.out.le
  have htop_g : w5.heap.size ≤ w11.heap.size := Nat.le_trans Hg.out.top hc11.size
  have Hgm : Hid (Held w11 Vw4.heap.size w5.heap.size (fun v => OwnT v Vw4.heap.size w5.heap.size r_Hg (mkT q 1))) := Lib.hid (ho11.held hle_g htop_g)
  have hz_w11 : w10.heap.size ≤ w11.heap.size := hc11.size
  replace Hb := Lib.hid (hc11.below_ Hb.out (by omega) Hb.out.size)
  replace Hab0 := Lib.hid (Hab0.out.chg hc11 (by omega))
  replace Ha0 := Lib.hid (Ha0.out.chg hc11 (by omega))
  replace Hw := Lib.hid (Hw.out.chg hc11 (by omega))
  replace Hwb := Lib.hid (Hwb.out.chg hc11 (by omega))
  replace Hxb0 := Lib.hid (Hxb0.out.chg hc11 (by omega))
  replace Hgb := Lib.hid (Hgb.out.chg hc11 (by omega))
  clear hc11 ho11 Hg
  have hposq : (0 : Int) ≤ 1 + (szT q : Nat) := by omega
  have cb0_Hgb : w11.cell? ⟨w5.heap.size, 0, none⟩ = some (.slice r_Hg.a1 q.it.length r_Hg.c1) := Hgb.out.out.cell 0
  have cb1_Hgb : w11.cell? ⟨w5.heap.size, 1, none⟩ = some (.int .i64 q.fd) := Hgb.out.out.cell 1
  have cb2_Hgb : w11.cell? ⟨w5.heap.size, 2, none⟩ = some (.slice r_Hg.a2 q.pl.length r_Hg.c2) := Hgb.out.out.cell 2
  have cb3_Hgb : w11.cell? ⟨w5.heap.size, 3, none⟩ = some (.slice r_Hg.a3 q.op.length r_Hg.c3) := Hgb.out.out.cell 3
  have lb_Hgb : w5.heap.size < w11.heap.size := by have := Hgb.out.top; omega
  go_wp2_with fail
  refine (heldTee_any _ q 1 _ w11.heap.size (Hgm.out.out.rdt Hgm.out.top) (Nat.le_refl _) hqn_0 hqn_1 hqn_2 (by decide) (by decide)).mono ?_
  rintro e w12 ⟨rfl, hb12⟩
  clear cb0_Hgb cb1_Hgb cb2_Hgb cb3_Hgb lb_Hgb
  have hz_w12 : w11.heap.size ≤ w12.heap.size := hb12.size
  replace Hb := Lib.hid (Hb.out.trans (hb12.mono Hb.out.size))
  replace Hab0 := Lib.hid (Hab0.out.below hb12 Hab0.out.top)
  replace Ha0 := Lib.hid (Ha0.out.below hb12 Ha0.out.top)
  replace Hw := Lib.hid (Hw.out.below hb12 Hw.out.top)
  replace Hwb := Lib.hid (Hwb.out.below hb12 Hwb.out.top)
  replace Hxb0 := Lib.hid (Hxb0.out.below hb12 Hxb0.out.top)
  replace Hgb := Lib.hid (Hgb.out.below hb12 Hgb.out.top)
  replace Hgm := Lib.hid (Hgm.out.below hb12 Hgm.out.top)
  clear hb12
  have cb0_Hab0 : w12.cell? ⟨w.heap.size, 0, none⟩ = some (.slice r0.a1 l0.it.length r0.c1) := Hab0.out.out.cell 0
  have cb1_Hab0 : w12.cell? ⟨w.heap.size, 1, none⟩ = some (.int .i64 l0.fd) := Hab0.out.out.cell 1
  have cb2_Hab0 : w12.cell? ⟨w.heap.size, 2, none⟩ = some (.slice r0.a2 l0.pl.length r0.c2) := Hab0.out.out.cell 2
  have cb3_Hab0 : w12.cell? ⟨w.heap.size, 3, none⟩ = some (.slice r0.a3 l0.op.length r0.c3) := Hab0.out.out.cell 3
  have lb_Hab0 : w.heap.size < w12.heap.size := by have := Hab0.out.top; omega
  go_wp2_with fail
  refine (toTee_h r0 l0 _ w.heap.size Ha0.out.out Hb.out.size hs0_0 hs0_1 hs0_2).mono ?_
  rintro e w13 ⟨r_Hu0, rfl, ho13, hb13, hcap_Hu0⟩
  have Hu0 : Hid (Held w13 w12.heap.size w13.heap.size (fun v => OwnT v w12.heap.size w13.heap.size r_Hu0 l0)) := Lib.hid (ho13.held hb13.size (Nat.le_refl _))
  clear cb0_Hab0 cb1_Hab0 cb2_Hab0 cb3_Hab0 lb_Hab0
  have hz_w13 : w12.heap.size ≤ w13.heap.size := hb13.size
  replace Hb := Lib.hid (Hb.out.trans (hb13.mono Hb.out.size))
  replace Hab0 := Lib.hid (Hab0.out.below hb13 Hab0.out.top)
  replace Ha0 := Lib.hid (Ha0.out.below hb13 Ha0.out.top)
  replace Hw := Lib.hid (Hw.out.below hb13 Hw.out.top)
  replace Hwb := Lib.hid (Hwb.out.below hb13 Hwb.out.top)
  replace Hxb0 := Lib.hid (Hxb0.out.below hb13 Hxb0.out.top)
  replace Hgb := Lib.hid (Hgb.out.below hb13 Hgb.out.top)
  replace Hgm := Lib.hid (Hgm.out.below hb13 Hgm.out.top)
  clear ho13 hb13
  go_wp2_with fail
  refine (implReadTee_any r_Hu0 l0 i1 _ w13.heap.size (Hu0.out.out.rdt Hu0.out.top) (Nat.le_refl _) hs0_0 hs0_1 hs0_2 hcap_Hu0 q x b hq hqx hqb).mono ?_
  rintro e w14 ⟨r_Hh, rfl, ho14, hb14⟩
  have Hh : Hid (Held w14 w13.heap.size w14.heap.size (fun v => OwnT v w13.heap.size w14.heap.size r_Hh q)) := Lib.hid (ho14.held hb14.size (Nat.le_refl _))
  have hz_w14 : w13.heap.size ≤ w14.heap.size := hb14.size
  replace Hb := Lib.hid (Hb.out.trans (hb14.mono Hb.out.size))
  replace Hab0 := Lib.hid (Hab0.out.below hb14 Hab0.out.top)
  replace Ha0 := Lib.hid (Ha0.out.below hb14 Ha0.out.top)
  replace Hw := Lib.hid (Hw.out.below hb14 Hw.out.top)
  replace Hwb := Lib.hid (Hwb.out.below hb14 Hwb.out.top)
  replace Hxb0 := Lib.hid (Hxb0.out.below hb14 Hxb0.out.top)
  replace Hgb := Lib.hid (Hgb.out.below hb14 Hgb.out.top)
  replace Hgm := Lib.hid (Hgm.out.below hb14 Hgm.out.top)
  replace Hu0 := Lib.hid (Hu0.out.below hb14 Hu0.out.top)
  clear ho14 hb14
  have cb0_Hwb : w14.cell? ⟨w3.heap.size, 0, none⟩ = some (.slice r_Hw.a1 q.it.length r_Hw.c1) := Hwb.out.out.cell 0
  have cb1_Hwb : w14.cell? ⟨w3.heap.size, 1, none⟩ = some (.int .i64 q.fd) := Hwb.out.out.cell 1
  have cb2_Hwb : w14.cell? ⟨w3.heap.size, 2, none⟩ = some (.slice r_Hw.a2 q.pl.length r_Hw.c2) := Hwb.out.out.cell 2
  have cb3_Hwb : w14.cell? ⟨w3.heap.size, 3, none⟩ = some (.slice r_Hw.a3 q.op.length r_Hw.c3) := Hwb.out.out.cell 3
  have lb_Hwb : w3.heap.size < w14.heap.size := by have := Hwb.out.top; omega
  obtain ⟨Vw14, hVw14⟩ : ∃ W : World, W = w14.alloc (.cells #[.slice r_Hh.a1 q.it.length r_Hh.c1, .int .i64 q.fd, .slice r_Hh.a2 q.pl.length r_Hh.c2, .slice r_Hh.a3 q.op.length r_Hh.c3] 27) := ⟨_, rfl⟩
  have hbVw14 : Below w14.heap.size w14 Vw14 := by rw [hVw14]; exact (Below.refl _ _).alloc (Nat.le_refl _) _
  have Hhb : Hid (Held Vw14 w14.heap.size (w14.heap.size + 1) (fun v => Bk v w14.heap.size 27 [.slice r_Hh.a1 q.it.length r_Hh.c1, .int .i64 q.fd, .slice r_Hh.a2 q.pl.length r_Hh.c2, .slice r_Hh.a3 q.op.length r_Hh.c3])) := Lib.hid (by rw [hVw14]; exact (Bk.new _ _ [_, _, _, _]).held)
  have ht_Hhb : w14.heap.size + 1 ≤ Vw14.heap.size := Hhb.out.top
  have hz_Vw14 : w14.heap.size ≤ Vw14.heap.size := hbVw14.size
  replace Hb := Lib.hid (Hb.out.trans (hbVw14.mono Hb.out.size))
  replace Hab0 := Lib.hid (Hab0.out.below hbVw14 Hab0.out.top)
  replace Ha0 := Lib.hid (Ha0.out.below hbVw14 Ha0.out.top)
  replace Hw := Lib.hid (Hw.out.below hbVw14 Hw.out.top)
  replace Hwb := Lib.hid (Hwb.out.below hbVw14 Hwb.out.top)
  replace Hxb0 := Lib.hid (Hxb0.out.below hbVw14 Hxb0.out.top)
  replace Hgb := Lib.hid (Hgb.out.below hbVw14 Hgb.out.top)
  replace Hgm := Lib.hid (Hgm.out.below hbVw14 Hgm.out.top)
  replace Hh := Lib.hid (Hh.out.below hbVw14 Hh.out.top)
  have HVw14 := Lib.hid hVw14
  clear hVw14 hbVw14
  go_wp2_with fail
  rw [← HVw14.out]
  refine (eqTee_any _ _ q _ Vw14.heap.size (Hh.out.out.rdt Hh.out.top) (Hw.out.out.rdt Hw.out.top) (Nat.le_refl _) hqn_0 hqn_1 hqn_2).mono ?_
  rintro e w15 ⟨rfl, hb15⟩
  clear cb0_Hwb cb1_Hwb cb2_Hwb cb3_Hwb lb_Hwb
  have hz_w15 : Vw14.heap.size ≤ w15.heap.size := hb15.size
  replace Hb := Lib.hid (Hb.out.trans (hb15.mono Hb.out.size))
  replace Hab0 := Lib.hid (Hab0.out.below hb15 Hab0.out.top)
  replace Ha0 := Lib.hid (Ha0.out.below hb15 Ha0.out.top)
  replace Hw := Lib.hid (Hw.out.below hb15 Hw.out.top)
  replace Hwb := Lib.hid (Hwb.out.below hb15 Hwb.out.top)
  replace Hxb0 := Lib.hid (Hxb0.out.below hb15 Hxb0.out.top)
  replace Hgb := Lib.hid (Hgb.out.below hb15 Hgb.out.top)
  replace Hgm := Lib.hid (Hgm.out.below hb15 Hgm.out.top)
  replace Hh := Lib.hid (Hh.out.below hb15 Hh.out.top)
  replace Hhb := Lib.hid (Hhb.out.below hb15 Hhb.out.top)
  clear hb15
  have cb0_Hgb : w15.cell? ⟨w5.heap.size, 0, none⟩ = some (.slice r_Hg.a1 q.it.length r_Hg.c1) := Hgb.out.out.cell 0
  have cb1_Hgb : w15.cell? ⟨w5.heap.size, 1, none⟩ = some (.int .i64 q.fd) := Hgb.out.out.cell 1
  have cb2_Hgb : w15.cell? ⟨w5.heap.size, 2, none⟩ = some (.slice r_Hg.a2 q.pl.length r_Hg.c2) := Hgb.out.out.cell 2
  have cb3_Hgb : w15.cell? ⟨w5.heap.size, 3, none⟩ = some (.slice r_Hg.a3 q.op.length r_Hg.c3) := Hgb.out.out.cell 3
  have lb_Hgb : w5.heap.size < w15.heap.size := by have := Hgb.out.top; omega
  go_wp2_with fail
  refine (heldTee_any _ q 1 _ w15.heap.size (Hgm.out.out.rdt Hgm.out.top) (Nat.le_refl _) hqn_0 hqn_1 hqn_2 (by decide) (by decide)).mono ?_
  rintro e w16 ⟨rfl, hb16⟩
  clear cb0_Hgb cb1_Hgb cb2_Hgb cb3_Hgb lb_Hgb
  have hz_w16 : w15.heap.size ≤ w16.heap.size := hb16.size
  replace Hb := Lib.hid (Hb.out.trans (hb16.mono Hb.out.size))
  replace Hab0 := Lib.hid (Hab0.out.below hb16 Hab0.out.top)
  replace Ha0 := Lib.hid (Ha0.out.below hb16 Ha0.out.top)
  replace Hw := Lib.hid (Hw.out.below hb16 Hw.out.top)
  replace Hwb := Lib.hid (Hwb.out.below hb16 Hwb.out.top)
  replace Hxb0 := Lib.hid (Hxb0.out.below hb16 Hxb0.out.top)
  replace Hgb := Lib.hid (Hgb.out.below hb16 Hgb.out.top)
  replace Hgm := Lib.hid (Hgm.out.below hb16 Hgm.out.top)
  replace Hh := Lib.hid (Hh.out.below hb16 Hh.out.top)
  replace Hhb := Lib.hid (Hhb.out.below hb16 Hhb.out.top)
  clear hb16
  go_wp2_with fail
  go_ret
  first | exact ⟨rfl, Hb.out⟩ | (have h9 := Hb.out; rw [← HW0.out] at h9; exact ⟨rfl, h9⟩)

theorem readQ_small (t : Te) (c : Int) : (readQ t c).it.length ≤ 12 ∧ (readQ t c).pl.length ≤ 4 ∧ (readQ t c).op.length ≤ 4 := by
  unfold readQ
  split
  · rename_i h
    rw [Bool.and_eq_true] at h
    have hok := teeOk_iff.1 h.1
    have h1 := hok.len
    have h2 := hok.many1
    have h3 := hok.open_
    rw [readT_it, readT_pl, readT_op]
    omega
  · simp [zeroTe]

theorem walk (r0 : Tr) (l0 : Te) (i1 : Int) (w : World) (hr0 : RdT w w.heap.size r0 l0) (hn0_0 : l0.it.length ≤ maxLen) (hn0_1 : l0.pl.length ≤ maxLen) (hn0_2 : l0.op.length ≤ maxLen) :
    Calls Try.prog 3 #[.agg #[.slice r0.a1 l0.it.length r0.c1, .int .i64 l0.fd, .slice r0.a2 l0.pl.length r0.c2, .slice r0.a3 l0.op.length r0.c3], .int .i64 i1] w fun e w' => e = .returned (.bool true) ∧ Below w.heap.size w w' := by
  obtain ⟨h1, h2, h3⟩ := readQ_small l0 i1
  exact walk0 r0 l0 i1 w _ _ _ (Lib.hid rfl) (Lib.hid rfl) (Lib.hid rfl) (by omega) (by omega) (by omega) (by unfold szT; omega) hr0 hn0_0 hn0_1 hn0_2


set_option maxRecDepth 100000 in
theorem lifted (os : Os) (started : os.Started) (H : Type) (enc : TypeId × Value → H) :
    ReturnsInHanded {} Try.checked os 3 .any (Rows.fnExactReadTeeSpec.pre6 enc Try.prog Try.f3 Rows.fnExactReadTeeRow.domain false) (Rows.fnExactReadTeeSpec.post enc Try.prog Try.f3 false true false false) := by
  refine returnsInHanded_of_change (C := Try.checked) own started (by kernel_rfl) Try.func3
    (ChangeSpec.witness6 (enc := enc) (C := Try.checked) false ⟨#[], #[.agg #[.slice none 0 0, .int .i64 0, .slice none 0 0, .slice none 0 0], .int .i64 0], []⟩ 8 (by kernel_rfl) (by kernel_rfl) (by kernel_rfl) (by kernel_rfl)) ?_
  intro W base args ds gs before hval0 hW _ _
  have hval : ∀ (j : Nat) t v, Try.f3.params[j]? = some t → args[j]? = some v → Value.okWide Try.prog W .any base t v := hval0
  have hW' := hW
  obtain ⟨p, q, hA0, hV, rfl, hfz, hnd⟩ := hW
  have hA : DataW.TrodAll enc Try.prog W 0 (fun _ => true) true Try.f3.params.toList args.toList ds p := hA0
  rw [Try.params3] at hA hval
  obtain ⟨v0, vs0, d0, ds0, p0, q0, hargs, rfl, rfl, h0, r0⟩ := trodAll_cons hA
  obtain ⟨v1, vs1, d1, ds1, p1, q1, rfl, rfl, rfl, h1, r1⟩ := trodAll_cons r0
  obtain ⟨rfl, rfl, rfl⟩ := trodAll_nil r1
  obtain rfl : args = #[v0, v1] := by cases args; simp_all
  obtain ⟨rfl, rfl⟩ := trodVars_none hV
  have k0 := h0
  have lt0 : ∀ x ∈ p0, x.block < W.heap.size := by obtain ⟨m, hm⟩ := k0; exact DataW.trod_lt m _ _ _ hm
  obtain ⟨rt0, l0, rfl, hrd0, hn0_0, hn0_1, hn0_2⟩ := open_tee Try.underlying25 (by kernel_rfl) rfl (by kernel_rfl) Try.underlying22 Try.underlying3 (by kernel_rfl) Try.underlying23 Try.underlying4 (by kernel_rfl) (hval 0 25 v0 rfl rfl) h0
  obtain ⟨i1, rfl, rfl, rfl, wi1⟩ := open_int Try.underlying3 (hval 1 3 v1 rfl rfl) h1
  clear hA0 hval0
  refine (walk rt0 l0 i1 W hrd0 hn0_0 hn0_1 hn0_2).mono fun e W' ⟨he, bel⟩ => ?_
  subst he
  exact ⟨_, rfl, _, _, _, [], _, [], hW', trodAll_mk1 (shut_bool Try.underlying4 _), (trodAll_cons_mk (Below.trod laidOut (by kernel_rfl) (of_decide_eq_true (by kernel_rfl)) k0 bel lt0) (trodAll_cons_mk (shut_int Try.underlying3 wi1) trodAll_mk0)), rfl, bel.frame _, fun h => by cases h⟩

theorem fnExactReadTee_holds : Rows.FnExactReadTeeSaid :=
  OpenClaim.holds_of_wide 3 Try.f3 rfl rfl rfl rfl rfl rfl rfl ⟨rfl, rfl, rfl, rfl, rfl⟩ rfl rfl rfl rfl rfl (by kernel_rfl) Try.func3 (by kernel_rfl)
    (of_decide_eq_true (by kernel_rfl)) (by unfold Func.isWrapper; rw [if_neg (of_decide_eq_false (by kernel_rfl))]; exact ⟨rfl, rfl⟩)
    (fun os started H enc _ => lifted os started H enc)

end Go.Proofs.Ytjkieedomljelaa.LawRT
