/- The law FnExactHeldItems returns true for every input, and its arguments read afterwards as before. Conditions: none. -/
import Derived.Test.YtebnpddgbmckcaaRows
import Derived.Test.YtebnpddgbmckcaaTeeH
import Derived.Test.YtebnpddgbmckcaaOpenT
import Derived.Deep.RegionHeld3
import Derived.Deep.CutRange
import Derived.Deep.DeepMust
namespace Go.Proofs.Ytebnpddgbmckcaa.LawHI
open Go.ChangeShapes Go.WideShapes Go.ChangeAt Go.RowKit Go.Deep

theorem own : ownKnob Try.prog.godebug = none := by kernel_rfl
theorem laidOut : laidOutB Try.prog = true := by kernel_rfl

set_option maxRecDepth 100000 in
set_option maxHeartbeats 12800000 in
theorem walk0 (r0 : Tr) (l0 : Te) (w : World) (q : List Int) (hq : Hid (heldOr l0 = q)) (hqn_0 : q.length ≤ 1048576) (hr0 : RdT w w.heap.size r0 l0) (hn0_0 : l0.it.length ≤ maxLen) (hn0_1 : l0.pl.length ≤ maxLen) (hn0_2 : l0.op.length ≤ maxLen) :
    Calls Try.prog 8 #[.agg #[.slice r0.a1 l0.it.length r0.c1, .int .i64 l0.fd, .slice r0.a2 l0.pl.length r0.c2, .slice r0.a3 l0.op.length r0.c3]] w fun e w' => e = .returned (.bool true) ∧ Below w.heap.size w w' := by
  obtain ⟨W0, hW0⟩ : ∃ W0 : World, W0 = w.alloc (.cells #[.slice r0.a1 l0.it.length r0.c1, .int .i64 l0.fd, .slice r0.a2 l0.pl.length r0.c2, .slice r0.a3 l0.op.length r0.c3] 39) := ⟨_, rfl⟩
  have hb0 : Below w.heap.size w W0 := by rw [hW0]; exact (Below.refl w.heap.size w).alloc (Nat.le_refl _) _
  have hx0 : Bk W0 w.heap.size 39 [.slice r0.a1 l0.it.length r0.c1, .int .i64 l0.fd, .slice r0.a2 l0.pl.length r0.c2, .slice r0.a3 l0.op.length r0.c3] := by rw [hW0]; exact Bk.new w 39 [.slice r0.a1 l0.it.length r0.c1, .int .i64 l0.fd, .slice r0.a2 l0.pl.length r0.c2, .slice r0.a3 l0.op.length r0.c3]
  have Hab0 := Lib.hid hx0.held
  have hz_W0 : w.heap.size + 1 ≤ W0.heap.size := by rw [hW0]; simp
  have Ha0 : Hid (Held W0 0 w.heap.size (fun v => RdT v w.heap.size r0 l0)) := Lib.hid ((hr0.held (Nat.le_refl _)).below hb0 (Nat.le_refl _))
  have Hb := Lib.hid hb0
  have HW0 := Lib.hid hW0
  clear hb0 hW0 hx0 hr0
  go_enter Try.func8, Try.ntmps8
  go_wp2_with fail
  rw [← HW0.out]
  refine (szTee_any r0 l0 1048576 _ (by omega) (by omega) hn0_0 hn0_1 hn0_2).mono ?_
  rintro e w1 ⟨rfl, hb1⟩
  have hz_w1 : W0.heap.size ≤ w1.heap.size := hb1.size
  replace Hb := Lib.hid (Hb.out.trans (hb1.mono Hb.out.size))
  replace Hab0 := Lib.hid (Hab0.out.below hb1 Hab0.out.top)
  replace Ha0 := Lib.hid (Ha0.out.below hb1 Ha0.out.top)
  clear hb1
  by_cases hlt0 : (1048576 : Int) < (szT l0 : Nat)
  · rw [szLeft_no hlt0]
    clear hlt0
    go_wp2_with fail
    go_ret
    exact ⟨rfl, Hb.out⟩
  rw [szLeft_yes hlt0]
  have hleft0 : (0 : Int) ≤ 1048576 - (szT l0 : Nat) := by omega
  have hs0_0 : l0.it.length ≤ 1048576 := by unfold szT at hlt0; omega
  have hs0_1 : l0.pl.length ≤ 1048576 := by unfold szT at hlt0; omega
  have hs0_2 : l0.op.length ≤ 1048576 := by unfold szT at hlt0; omega
  have hsz0 : szT l0 ≤ 1048576 := by omega
  clear hlt0
  have cb0_Hab0 : w1.cell? ⟨w.heap.size, 0, none⟩ = some (.slice r0.a1 l0.it.length r0.c1) := Hab0.out.out.cell 0
  have cb1_Hab0 : w1.cell? ⟨w.heap.size, 1, none⟩ = some (.int .i64 l0.fd) := Hab0.out.out.cell 1
  have cb2_Hab0 : w1.cell? ⟨w.heap.size, 2, none⟩ = some (.slice r0.a2 l0.pl.length r0.c2) := Hab0.out.out.cell 2
  have cb3_Hab0 : w1.cell? ⟨w.heap.size, 3, none⟩ = some (.slice r0.a3 l0.op.length r0.c3) := Hab0.out.out.cell 3
  have lb_Hab0 : w.heap.size < w1.heap.size := by have := Hab0.out.top; omega
  go_wp2_with fail
  refine (toTee_h r0 l0 _ w.heap.size Ha0.out.out Hb.out.size hs0_0 hs0_1 hs0_2).mono ?_
  rintro e w2 ⟨r_Ht0, rfl, ho2, hb2, hcap_Ht0⟩
  have Ht0 : Hid (Held w2 w1.heap.size w2.heap.size (fun v => OwnT v w1.heap.size w2.heap.size r_Ht0 l0)) := Lib.hid (ho2.held hb2.size (Nat.le_refl _))
  clear cb0_Hab0 cb1_Hab0 cb2_Hab0 cb3_Hab0 lb_Hab0
  have hz_w2 : w1.heap.size ≤ w2.heap.size := hb2.size
  replace Hb := Lib.hid (Hb.out.trans (hb2.mono Hb.out.size))
  replace Hab0 := Lib.hid (Hab0.out.below hb2 Hab0.out.top)
  replace Ha0 := Lib.hid (Ha0.out.below hb2 Ha0.out.top)
  clear ho2 hb2
  go_wp2_with fail
  refine (specHeldItems_q r_Ht0 l0 _ w2.heap.size (Ht0.out.out.rdt Ht0.out.top) (Nat.le_refl _) hs0_0 hs0_1 hs0_2 hcap_Ht0 q hq).mono ?_
  rintro e w3 ⟨AHw, cHw, rfl, ho3, hb3⟩
  have Hw : Hid (Held w3 w2.heap.size w3.heap.size (fun v => OwnI v w2.heap.size w3.heap.size AHw q)) := Lib.hid (ho3.held hb3.size (Nat.le_refl _))
  have hz_w3 : w2.heap.size ≤ w3.heap.size := hb3.size
  replace Hb := Lib.hid (Hb.out.trans (hb3.mono Hb.out.size))
  replace Hab0 := Lib.hid (Hab0.out.below hb3 Hab0.out.top)
  replace Ha0 := Lib.hid (Ha0.out.below hb3 Ha0.out.top)
  replace Ht0 := Lib.hid (Ht0.out.below hb3 Ht0.out.top)
  clear ho3 hb3
  have cb0_Hab0 : w3.cell? ⟨w.heap.size, 0, none⟩ = some (.slice r0.a1 l0.it.length r0.c1) := Hab0.out.out.cell 0
  have cb1_Hab0 : w3.cell? ⟨w.heap.size, 1, none⟩ = some (.int .i64 l0.fd) := Hab0.out.out.cell 1
  have cb2_Hab0 : w3.cell? ⟨w.heap.size, 2, none⟩ = some (.slice r0.a2 l0.pl.length r0.c2) := Hab0.out.out.cell 2
  have cb3_Hab0 : w3.cell? ⟨w.heap.size, 3, none⟩ = some (.slice r0.a3 l0.op.length r0.c3) := Hab0.out.out.cell 3
  have lb_Hab0 : w.heap.size < w3.heap.size := by have := Hab0.out.top; omega
  go_wp2_with fail
  refine (toTee_h r0 l0 _ w.heap.size Ha0.out.out Hb.out.size hs0_0 hs0_1 hs0_2).mono ?_
  rintro e w4 ⟨r_Hx0, rfl, ho4, hb4, hcap_Hx0⟩
  have Hx0 : Hid (Held w4 w3.heap.size w4.heap.size (fun v => OwnT v w3.heap.size w4.heap.size r_Hx0 l0)) := Lib.hid (ho4.held hb4.size (Nat.le_refl _))
  clear cb0_Hab0 cb1_Hab0 cb2_Hab0 cb3_Hab0 lb_Hab0
  have hz_w4 : w3.heap.size ≤ w4.heap.size := hb4.size
  replace Hb := Lib.hid (Hb.out.trans (hb4.mono Hb.out.size))
  replace Hab0 := Lib.hid (Hab0.out.below hb4 Hab0.out.top)
  replace Ha0 := Lib.hid (Ha0.out.below hb4 Ha0.out.top)
  replace Hw := Lib.hid (Hw.out.below hb4 Hw.out.top)
  clear ho4 hb4
  obtain ⟨Vw4, hVw4⟩ : ∃ W : World, W = w4.alloc (.cells #[.slice r_Hx0.a1 l0.it.length r_Hx0.c1, .int .i64 l0.fd, .slice r_Hx0.a2 l0.pl.length r_Hx0.c2, .slice r_Hx0.a3 l0.op.length r_Hx0.c3] 28) := ⟨_, rfl⟩
  have hbVw4 : Below w4.heap.size w4 Vw4 := by rw [hVw4]; exact (Below.refl _ _).alloc (Nat.le_refl _) _
  have Hxb0 : Hid (Held Vw4 w4.heap.size (w4.heap.size + 1) (fun v => Bk v w4.heap.size 28 [.slice r_Hx0.a1 l0.it.length r_Hx0.c1, .int .i64 l0.fd, .slice r_Hx0.a2 l0.pl.length r_Hx0.c2, .slice r_Hx0.a3 l0.op.length r_Hx0.c3])) := Lib.hid (by rw [hVw4]; exact (Bk.new _ _ [_, _, _, _]).held)
  have ht_Hxb0 : w4.heap.size + 1 ≤ Vw4.heap.size := Hxb0.out.top
  have hz_Vw4 : w4.heap.size ≤ Vw4.heap.size := hbVw4.size
  replace Hb := Lib.hid (Hb.out.trans (hbVw4.mono Hb.out.size))
  replace Hab0 := Lib.hid (Hab0.out.below hbVw4 Hab0.out.top)
  replace Ha0 := Lib.hid (Ha0.out.below hbVw4 Ha0.out.top)
  replace Hw := Lib.hid (Hw.out.below hbVw4 Hw.out.top)
  replace Hx0 := Lib.hid (Hx0.out.below hbVw4 Hx0.out.top)
  have HVw4 := Lib.hid hVw4
  clear hVw4 hbVw4
  go_wp2_with fail
  rw [← HVw4.out]
  refine (implHeldItems_q r_Hx0 l0 _ Vw4.heap.size (Hx0.out.out.rdt Hx0.out.top) (Nat.le_refl _) hs0_0 hs0_1 hs0_2 hcap_Hx0 q hq).mono ?_
  rintro e w5 ⟨AHg, cHg, rfl, ho5, hb5⟩
  have Hg : Hid (Held w5 Vw4.heap.size w5.heap.size (fun v => OwnI v Vw4.heap.size w5.heap.size AHg q)) := Lib.hid (ho5.held hb5.size (Nat.le_refl _))
  have hz_w5 : Vw4.heap.size ≤ w5.heap.size := hb5.size
  replace Hb := Lib.hid (Hb.out.trans (hb5.mono Hb.out.size))
  replace Hab0 := Lib.hid (Hab0.out.below hb5 Hab0.out.top)
  replace Ha0 := Lib.hid (Ha0.out.below hb5 Ha0.out.top)
  replace Hw := Lib.hid (Hw.out.below hb5 Hw.out.top)
  replace Hx0 := Lib.hid (Hx0.out.below hb5 Hx0.out.top)
  replace Hxb0 := Lib.hid (Hxb0.out.below hb5 Hxb0.out.top)
  clear ho5 hb5
  go_wp2_with fail
  refine (eqIntS_any _ _ _ _ q q _ w5.heap.size (Hg.out.out.rdt Hg.out.top) (Hw.out.out.rdt Hw.out.top) hqn_0).mono ?_
  rintro e w6 ⟨rfl, hsm6⟩
  have hb6 := hsm6.below w5.heap.size
  rw [decide_eq_true rfl]
  have hz_w6 : w5.heap.size ≤ w6.heap.size := hb6.size
  replace Hb := Lib.hid (Hb.out.trans (hb6.mono Hb.out.size))
  replace Hab0 := Lib.hid (Hab0.out.below hb6 Hab0.out.top)
  replace Ha0 := Lib.hid (Ha0.out.below hb6 Ha0.out.top)
  replace Hw := Lib.hid (Hw.out.below hb6 Hw.out.top)
  replace Hx0 := Lib.hid (Hx0.out.below hb6 Hx0.out.top)
  replace Hxb0 := Lib.hid (Hxb0.out.below hb6 Hxb0.out.top)
  replace Hg := Lib.hid (Hg.out.below hb6 Hg.out.top)
  clear hb6 hsm6
  have cb0_Hab0 : w6.cell? ⟨w.heap.size, 0, none⟩ = some (.slice r0.a1 l0.it.length r0.c1) := Hab0.out.out.cell 0
  have cb1_Hab0 : w6.cell? ⟨w.heap.size, 1, none⟩ = some (.int .i64 l0.fd) := Hab0.out.out.cell 1
  have cb2_Hab0 : w6.cell? ⟨w.heap.size, 2, none⟩ = some (.slice r0.a2 l0.pl.length r0.c2) := Hab0.out.out.cell 2
  have cb3_Hab0 : w6.cell? ⟨w.heap.size, 3, none⟩ = some (.slice r0.a3 l0.op.length r0.c3) := Hab0.out.out.cell 3
  have lb_Hab0 : w.heap.size < w6.heap.size := by have := Hab0.out.top; omega
  have cb0_Hxb0 : w6.cell? ⟨w4.heap.size, 0, none⟩ = some (.slice r_Hx0.a1 l0.it.length r_Hx0.c1) := Hxb0.out.out.cell 0
  have cb1_Hxb0 : w6.cell? ⟨w4.heap.size, 1, none⟩ = some (.int .i64 l0.fd) := Hxb0.out.out.cell 1
  have cb2_Hxb0 : w6.cell? ⟨w4.heap.size, 2, none⟩ = some (.slice r_Hx0.a2 l0.pl.length r_Hx0.c2) := Hxb0.out.out.cell 2
  have cb3_Hxb0 : w6.cell? ⟨w4.heap.size, 3, none⟩ = some (.slice r_Hx0.a3 l0.op.length r_Hx0.c3) := Hxb0.out.out.cell 3
  have lb_Hxb0 : w4.heap.size < w6.heap.size := by have := Hxb0.out.top; omega
  have HS : Hid (∀ W' : World, Below w6.heap.size w6 W' → W'.cell? ⟨w4.heap.size, 0, none⟩ = some (.slice r_Hx0.a1 l0.it.length r_Hx0.c1) ∧ W'.cell? ⟨w4.heap.size, 1, none⟩ = some (.int .i64 l0.fd) ∧ W'.cell? ⟨w4.heap.size, 2, none⟩ = some (.slice r_Hx0.a2 l0.pl.length r_Hx0.c2) ∧ W'.cell? ⟨w4.heap.size, 3, none⟩ = some (.slice r_Hx0.a3 l0.op.length r_Hx0.c3) ∧ W'.cell? ⟨w.heap.size, 0, none⟩ = some (.slice r0.a1 l0.it.length r0.c1) ∧ W'.cell? ⟨w.heap.size, 1, none⟩ = some (.int .i64 l0.fd) ∧ W'.cell? ⟨w.heap.size, 2, none⟩ = some (.slice r0.a2 l0.pl.length r0.c2) ∧ W'.cell? ⟨w.heap.size, 3, none⟩ = some (.slice r0.a3 l0.op.length r0.c3)) := Lib.hid (fun W' hb => ⟨(Hxb0.out.below hb Hxb0.out.top).out.cell 0, (Hxb0.out.below hb Hxb0.out.top).out.cell 1, (Hxb0.out.below hb Hxb0.out.top).out.cell 2, (Hxb0.out.below hb Hxb0.out.top).out.cell 3, (Hab0.out.below hb Hab0.out.top).out.cell 0, (Hab0.out.below hb Hab0.out.top).out.cell 1, (Hab0.out.below hb Hab0.out.top).out.cell 2, (Hab0.out.below hb Hab0.out.top).out.cell 3⟩)
  go_wp2_with fail
  go_region_held3 (fun w' => w'.cell? ⟨w4.heap.size, 0, none⟩ = some (.slice r_Hx0.a1 l0.it.length r_Hx0.c1) ∧ w'.cell? ⟨w4.heap.size, 1, none⟩ = some (.int .i64 l0.fd) ∧ w'.cell? ⟨w4.heap.size, 2, none⟩ = some (.slice r_Hx0.a2 l0.pl.length r_Hx0.c2) ∧ w'.cell? ⟨w4.heap.size, 3, none⟩ = some (.slice r_Hx0.a3 l0.op.length r_Hx0.c3) ∧ w'.cell? ⟨w.heap.size, 0, none⟩ = some (.slice r0.a1 l0.it.length r0.c1) ∧ w'.cell? ⟨w.heap.size, 1, none⟩ = some (.int .i64 l0.fd) ∧ w'.cell? ⟨w.heap.size, 2, none⟩ = some (.slice r0.a2 l0.pl.length r0.c2) ∧ w'.cell? ⟨w.heap.size, 3, none⟩ = some (.slice r0.a3 l0.op.length r0.c3))
    (go_keep)
    (first
        | (
          go_at_call 28
          refine (toTee_h r0 l0 _ w.heap.size (Ha0.out.drewN 1).out (by first | omega | (simp; omega)) hs0_0 hs0_1 hs0_2).mono ?_
          rintro e w7 ⟨r_Hc0, rfl, ho7, hb7z, hcap_Hc0⟩
          replace ho7 : OwnT w7 w6.heap.size w7.heap.size r_Hc0 l0 := by simpa using ho7
          have hb7 : Below w6.heap.size w6 w7 := ((Below.refl w6.heap.size w6).drew).trans (hb7z.mono (by simp))
          have Hc0 : Hid (Held w7 w6.heap.size w7.heap.size (fun v => OwnT v w6.heap.size w7.heap.size r_Hc0 l0)) := Lib.hid (ho7.held hb7.size (Nat.le_refl _))
          have ks7 := HS.out _ hb7
          have hz_w7 : w6.heap.size ≤ w7.heap.size := hb7.size
          replace Hb := Lib.hid (Hb.out.trans (hb7.mono Hb.out.size))
          replace Hab0 := Lib.hid (Hab0.out.below hb7 Hab0.out.top)
          replace Ha0 := Lib.hid (Ha0.out.below hb7 Ha0.out.top)
          replace Hw := Lib.hid (Hw.out.below hb7 Hw.out.top)
          replace Hx0 := Lib.hid (Hx0.out.below hb7 Hx0.out.top)
          replace Hxb0 := Lib.hid (Hxb0.out.below hb7 Hxb0.out.top)
          replace Hg := Lib.hid (Hg.out.below hb7 Hg.out.top)
          clear ho7 hb7 hb7z)
        | (
          go_at_call 29
          refine (eqTee_any _ _ l0 _ w7.heap.size (Hx0.out.out.rdt Hx0.out.top) (Hc0.out.out.rdt Hc0.out.top) (Nat.le_refl _) hs0_0 hs0_1 hs0_2).mono ?_
          rintro e w8 ⟨rfl, hb8⟩
          have ks8 : w8.cell? ⟨w4.heap.size, 0, none⟩ = some (.slice r_Hx0.a1 l0.it.length r_Hx0.c1) ∧ w8.cell? ⟨w4.heap.size, 1, none⟩ = some (.int .i64 l0.fd) ∧ w8.cell? ⟨w4.heap.size, 2, none⟩ = some (.slice r_Hx0.a2 l0.pl.length r_Hx0.c2) ∧ w8.cell? ⟨w4.heap.size, 3, none⟩ = some (.slice r_Hx0.a3 l0.op.length r_Hx0.c3) ∧ w8.cell? ⟨w.heap.size, 0, none⟩ = some (.slice r0.a1 l0.it.length r0.c1) ∧ w8.cell? ⟨w.heap.size, 1, none⟩ = some (.int .i64 l0.fd) ∧ w8.cell? ⟨w.heap.size, 2, none⟩ = some (.slice r0.a2 l0.pl.length r0.c2) ∧ w8.cell? ⟨w.heap.size, 3, none⟩ = some (.slice r0.a3 l0.op.length r0.c3) := ⟨(Hxb0.out.below hb8 Hxb0.out.top).out.cell 0, (Hxb0.out.below hb8 Hxb0.out.top).out.cell 1, (Hxb0.out.below hb8 Hxb0.out.top).out.cell 2, (Hxb0.out.below hb8 Hxb0.out.top).out.cell 3, (Hab0.out.below hb8 Hab0.out.top).out.cell 0, (Hab0.out.below hb8 Hab0.out.top).out.cell 1, (Hab0.out.below hb8 Hab0.out.top).out.cell 2, (Hab0.out.below hb8 Hab0.out.top).out.cell 3⟩
          have hz_w8 : w7.heap.size ≤ w8.heap.size := hb8.size
          replace Hb := Lib.hid (Hb.out.trans (hb8.mono Hb.out.size))
          replace Hab0 := Lib.hid (Hab0.out.below hb8 Hab0.out.top)
          replace Ha0 := Lib.hid (Ha0.out.below hb8 Ha0.out.top)
          replace Hw := Lib.hid (Hw.out.below hb8 Hw.out.top)
          replace Hx0 := Lib.hid (Hx0.out.below hb8 Hx0.out.top)
          replace Hxb0 := Lib.hid (Hxb0.out.below hb8 Hxb0.out.top)
          replace Hg := Lib.hid (Hg.out.below hb8 Hg.out.top)
          replace Hc0 := Lib.hid (Hc0.out.below hb8 Hc0.out.top)
          clear hb8))
  clear HS ks7 ks8 cb0_Hab0 cb1_Hab0 cb2_Hab0 cb3_Hab0 lb_Hab0 cb0_Hxb0 cb1_Hxb0 cb2_Hxb0 cb3_Hxb0 lb_Hxb0 Hc0
  have cb0_Hxb0 : w8.cell? ⟨w4.heap.size, 0, none⟩ = some (.slice r_Hx0.a1 l0.it.length r_Hx0.c1) := Hxb0.out.out.cell 0
  have cb1_Hxb0 : w8.cell? ⟨w4.heap.size, 1, none⟩ = some (.int .i64 l0.fd) := Hxb0.out.out.cell 1
  have cb2_Hxb0 : w8.cell? ⟨w4.heap.size, 2, none⟩ = some (.slice r_Hx0.a2 l0.pl.length r_Hx0.c2) := Hxb0.out.out.cell 2
  have cb3_Hxb0 : w8.cell? ⟨w4.heap.size, 3, none⟩ = some (.slice r_Hx0.a3 l0.op.length r_Hx0.c3) := Hxb0.out.out.cell 3
  have lb_Hxb0 : w4.heap.size < w8.heap.size := by have := Hxb0.out.top; omega
  go_wp2_with fail
  refine (markTee_h (1) Hx0.out.out hs0_0 hs0_1 hs0_2 (by omega) (by omega) Hx0.out.top).mono ?_
  rintro e w9 ⟨rfl, -, hc9⟩
  clear cb0_Hxb0 cb1_Hxb0 cb2_Hxb0 cb3_Hxb0 lb_Hxb0
  have hz_w9 : w8.heap.size ≤ w9.heap.size := hc9.size
  replace Hb := Lib.hid (hc9.below_ Hb.out (by omega) Hb.out.size)
  replace Hab0 := Lib.hid (Hab0.out.chg hc9 (by omega))
  replace Ha0 := Lib.hid (Ha0.out.chg hc9 (by omega))
  replace Hw := Lib.hid (Hw.out.chg hc9 (by omega))
  replace Hxb0 := Lib.hid (Hxb0.out.chg hc9 (by omega))
  replace Hg := Lib.hid (Hg.out.chg hc9 (by omega))
  clear hc9 Hx0
  have hpos0 : (0 : Int) ≤ 1 + (szT l0 : Nat) := by omega
  go_wp2_with fail
  refine (eqIntS_any _ _ _ _ q q _ w9.heap.size (Hg.out.out.rdt Hg.out.top) (Hw.out.out.rdt Hw.out.top) hqn_0).mono ?_
  rintro e w10 ⟨rfl, hsm10⟩
  have hb10 := hsm10.below w9.heap.size
  rw [decide_eq_true rfl]
  have hz_w10 : w9.heap.size ≤ w10.heap.size := hb10.size
  replace Hb := Lib.hid (Hb.out.trans (hb10.mono Hb.out.size))
  replace Hab0 := Lib.hid (Hab0.out.below hb10 Hab0.out.top)
  replace Ha0 := Lib.hid (Ha0.out.below hb10 Ha0.out.top)
  replace Hw := Lib.hid (Hw.out.below hb10 Hw.out.top)
  replace Hxb0 := Lib.hid (Hxb0.out.below hb10 Hxb0.out.top)
  replace Hg := Lib.hid (Hg.out.below hb10 Hg.out.top)
  clear hb10 hsm10
  go_wp2_with fail
  refine (markIntS_h 1 Hg.out.out hqn_0 (by decide) (by decide)).mono ?_
  rintro e w11 ⟨rfl, ho11, hc11⟩
  have hle_g : Vw4.heap.size ≤ w5.heap.size := Hg.out.le
  have htop_g : w5.heap.size ≤ w11.heap.size := Nat.le_trans Hg.out.top hc11.size
  have Hgm : Hid (Held w11 Vw4.heap.size w5.heap.size (fun v => OwnI v Vw4.heap.size w5.heap.size AHg (mkI q.length 1))) := Lib.hid (ho11.held hle_g htop_g)
  have hz_w11 : w10.heap.size ≤ w11.heap.size := hc11.size
  replace Hb := Lib.hid (hc11.below_ Hb.out (by omega) Hb.out.size)
  replace Hab0 := Lib.hid (Hab0.out.chg hc11 (by omega))
  replace Ha0 := Lib.hid (Ha0.out.chg hc11 (by omega))
  replace Hw := Lib.hid (Hw.out.chg hc11 (by omega))
  replace Hxb0 := Lib.hid (Hxb0.out.chg hc11 (by omega))
  clear hc11 ho11 Hg
  have hposq : (0 : Int) ≤ 1 + q.length := by omega
  go_wp2_with fail
  refine (heldIntS_any _ _ q.length 1 _ w11.heap.size (Hgm.out.out.rdt Hgm.out.top) hqn_0 (by decide) (by decide)).mono ?_
  rintro e w12 ⟨rfl, rfl⟩
  have cb0_Hab0 : w11.cell? ⟨w.heap.size, 0, none⟩ = some (.slice r0.a1 l0.it.length r0.c1) := Hab0.out.out.cell 0
  have cb1_Hab0 : w11.cell? ⟨w.heap.size, 1, none⟩ = some (.int .i64 l0.fd) := Hab0.out.out.cell 1
  have cb2_Hab0 : w11.cell? ⟨w.heap.size, 2, none⟩ = some (.slice r0.a2 l0.pl.length r0.c2) := Hab0.out.out.cell 2
  have cb3_Hab0 : w11.cell? ⟨w.heap.size, 3, none⟩ = some (.slice r0.a3 l0.op.length r0.c3) := Hab0.out.out.cell 3
  have lb_Hab0 : w.heap.size < w11.heap.size := by have := Hab0.out.top; omega
  go_wp2_with fail
  refine (toTee_h r0 l0 _ w.heap.size Ha0.out.out Hb.out.size hs0_0 hs0_1 hs0_2).mono ?_
  rintro e w13 ⟨r_Hu0, rfl, ho13, hb13, hcap_Hu0⟩
  have Hu0 : Hid (Held w13 w11.heap.size w13.heap.size (fun v => OwnT v w11.heap.size w13.heap.size r_Hu0 l0)) := Lib.hid (ho13.held hb13.size (Nat.le_refl _))
  clear cb0_Hab0 cb1_Hab0 cb2_Hab0 cb3_Hab0 lb_Hab0
  have hz_w13 : w11.heap.size ≤ w13.heap.size := hb13.size
  replace Hb := Lib.hid (Hb.out.trans (hb13.mono Hb.out.size))
  replace Hab0 := Lib.hid (Hab0.out.below hb13 Hab0.out.top)
  replace Ha0 := Lib.hid (Ha0.out.below hb13 Ha0.out.top)
  replace Hw := Lib.hid (Hw.out.below hb13 Hw.out.top)
  replace Hxb0 := Lib.hid (Hxb0.out.below hb13 Hxb0.out.top)
  replace Hgm := Lib.hid (Hgm.out.below hb13 Hgm.out.top)
  clear ho13 hb13
  go_wp2_with fail
  refine (implHeldItems_q r_Hu0 l0 _ w13.heap.size (Hu0.out.out.rdt Hu0.out.top) (Nat.le_refl _) hs0_0 hs0_1 hs0_2 hcap_Hu0 q hq).mono ?_
  rintro e w14 ⟨AHh, cHh, rfl, ho14, hb14⟩
  have Hh : Hid (Held w14 w13.heap.size w14.heap.size (fun v => OwnI v w13.heap.size w14.heap.size AHh q)) := Lib.hid (ho14.held hb14.size (Nat.le_refl _))
  have hz_w14 : w13.heap.size ≤ w14.heap.size := hb14.size
  replace Hb := Lib.hid (Hb.out.trans (hb14.mono Hb.out.size))
  replace Hab0 := Lib.hid (Hab0.out.below hb14 Hab0.out.top)
  replace Ha0 := Lib.hid (Ha0.out.below hb14 Ha0.out.top)
  replace Hw := Lib.hid (Hw.out.below hb14 Hw.out.top)
  replace Hxb0 := Lib.hid (Hxb0.out.below hb14 Hxb0.out.top)
  replace Hgm := Lib.hid (Hgm.out.below hb14 Hgm.out.top)
  replace Hu0 := Lib.hid (Hu0.out.below hb14 Hu0.out.top)
  clear ho14 hb14
  go_wp2_with fail
  refine (eqIntS_any _ _ _ _ q q _ w14.heap.size (Hh.out.out.rdt Hh.out.top) (Hw.out.out.rdt Hw.out.top) hqn_0).mono ?_
  rintro e w15 ⟨rfl, hsm15⟩
  have hb15 := hsm15.below w14.heap.size
  rw [decide_eq_true rfl]
  have hz_w15 : w14.heap.size ≤ w15.heap.size := hb15.size
  replace Hb := Lib.hid (Hb.out.trans (hb15.mono Hb.out.size))
  replace Hab0 := Lib.hid (Hab0.out.below hb15 Hab0.out.top)
  replace Ha0 := Lib.hid (Ha0.out.below hb15 Ha0.out.top)
  replace Hw := Lib.hid (Hw.out.below hb15 Hw.out.top)
  replace Hxb0 := Lib.hid (Hxb0.out.below hb15 Hxb0.out.top)
  replace Hgm := Lib.hid (Hgm.out.below hb15 Hgm.out.top)
  replace Hh := Lib.hid (Hh.out.below hb15 Hh.out.top)
  clear hb15 hsm15
  go_wp2_with fail
  refine (heldIntS_any _ _ q.length 1 _ w15.heap.size (Hgm.out.out.rdt Hgm.out.top) hqn_0 (by decide) (by decide)).mono ?_
  rintro e w16 ⟨rfl, rfl⟩
  go_wp2_with fail
  go_ret
  exact ⟨rfl, Hb.out⟩



set_option maxRecDepth 100000 in
theorem lifted (os : Os) (started : os.Started) (H : Type) (enc : TypeId × Value → H) :
    ReturnsInHanded {} Try.checked os 8 .any (Rows.fnExactHeldItemsSpec.pre6 enc Try.prog Try.f8 Rows.fnExactHeldItemsRow.domain false) (Rows.fnExactHeldItemsSpec.post enc Try.prog Try.f8 false true false false) := by
  refine returnsInHanded_of_change (C := Try.checked) own started (by kernel_rfl) Try.func8
    (ChangeSpec.witness6 (enc := enc) (C := Try.checked) false ⟨#[], #[.agg #[.slice none 0 0, .int .i64 0, .slice none 0 0, .slice none 0 0]], []⟩ 8 (by kernel_rfl) (by kernel_rfl) (by kernel_rfl) (by kernel_rfl)) ?_
  intro W base args ds gs before hval0 hW _ _
  have hval : ∀ (j : Nat) t v, Try.f8.params[j]? = some t → args[j]? = some v → Value.okWide Try.prog W .any base t v := hval0
  have hW' := hW
  obtain ⟨p, q, hA0, hV, rfl, hfz, hnd⟩ := hW
  have hA : DataW.TrodAll enc Try.prog W 0 (fun _ => true) true Try.f8.params.toList args.toList ds p := hA0
  rw [Try.params8] at hA hval
  obtain ⟨v0, vs0, d0, ds0, p0, q0, hargs, rfl, rfl, h0, r0⟩ := trodAll_cons hA
  obtain ⟨rfl, rfl, rfl⟩ := trodAll_nil r0
  obtain rfl : args = #[v0] := by cases args; simp_all
  obtain ⟨rfl, rfl⟩ := trodVars_none hV
  have k0 := h0
  have lt0 : ∀ x ∈ p0, x.block < W.heap.size := by obtain ⟨m, hm⟩ := k0; exact DataW.trod_lt m _ _ _ hm
  obtain ⟨r0, l0, rfl, hrd0, hn0_0, hn0_1, hn0_2⟩ := open_tee Try.underlying39 (by kernel_rfl) rfl (by kernel_rfl) Try.underlying23 Try.underlying3 (by kernel_rfl) Try.underlying26 Try.underlying4 (by kernel_rfl) (hval 0 39 v0 rfl rfl) h0
  clear hA0 hval0
  refine (walk0 r0 l0 W _ (Lib.hid rfl) (by have := heldOr_len l0; omega) hrd0 hn0_0 hn0_1 hn0_2).mono fun e W' ⟨he, bel⟩ => ?_
  subst he
  exact ⟨_, rfl, _, _, _, [], _, [], hW', trodAll_mk1 (shut_bool Try.underlying4 _), (trodAll_cons_mk (Below.trod laidOut (by kernel_rfl) (of_decide_eq_true (by kernel_rfl)) k0 bel lt0) trodAll_mk0), rfl, bel.frame _, fun h => by cases h⟩

theorem fnExactHeldItems_holds : Rows.FnExactHeldItemsSaid :=
  OpenClaim.holds_of_wide 8 Try.f8 rfl rfl rfl rfl rfl rfl rfl ⟨rfl, rfl, rfl, rfl, rfl⟩ rfl rfl rfl rfl rfl (by kernel_rfl) Try.func8 (by kernel_rfl)
    (of_decide_eq_true (by kernel_rfl)) (by unfold Func.isWrapper; rw [if_neg (of_decide_eq_false (by kernel_rfl))]; exact ⟨rfl, rfl⟩)
    (fun os started H enc _ => lifted os started H enc)

end Go.Proofs.Ytebnpddgbmckcaa.LawHI
