/- The law FnExactNewTee returns true for every input, and its arguments read afterwards as before. Conditions: none. -/
import Derived.Test.YtebnpddgbmckcaaRows
import Derived.Test.YtebnpddgbmckcaaNtC
import Derived.Test.YtebnpddgbmckcaaTeeA
import Derived.Test.YtebnpddgbmckcaaOpenI
import Derived.Test.YtebnpddgbmckcaaOpen
import Derived.Deep.RegionHeld3
import Derived.Deep.CutRange
import Derived.Deep.DeepMust
namespace Go.Proofs.Ytebnpddgbmckcaa.LawNT
open Go.ChangeShapes Go.WideShapes Go.ChangeAt Go.RowKit Go.Deep

theorem own : ownKnob Try.prog.godebug = none := by kernel_rfl
theorem laidOut : laidOutB Try.prog = true := by kernel_rfl

set_option maxRecDepth 100000 in
set_option maxHeartbeats 12800000 in
theorem walk0 (A0 : Option Addr) (c0 : Nat) (l0 : List Int) (i1 : Int) (w : World) (q : Te) (hq : Hid (newQ l0 i1 = q)) (hqn_0 : q.it.length ≤ 1048576) (hqn_1 : q.pl.length ≤ 1048576) (hqn_2 : q.op.length ≤ 1048576) (hqs : szT q ≤ 1048576) (hr0 : RdI w w.heap.size A0 l0) (_hn0_0 : l0.length ≤ maxLen)  :
    Calls Try.prog 6 #[.slice A0 l0.length c0, .int .i64 i1] w fun e w' => e = .returned (.bool true) ∧ Below w.heap.size w w' := by
  by_cases hgate0 : 1048576 < l0.length
  · have hgi0 : (1048576 : Int) < l0.length := by omega
    clear hgate0
    go_enter Try.func6, Try.ntmps6
    go_wp2_with fail
    go_ret
    exact ⟨rfl, Below.refl _ _⟩
  have hs0_0 : l0.length ≤ 1048576 := by omega
  have hgi0 : ¬ (1048576 : Int) < l0.length := by omega
  clear hgate0
  obtain ⟨W0, hW0⟩ : ∃ W0 : World, W0 = w := ⟨_, rfl⟩
  have hb0 : Below w.heap.size w W0 := by rw [hW0]; exact Below.refl w.heap.size w
  have hz_W0 : w.heap.size ≤ W0.heap.size := by rw [hW0]; exact Nat.le_refl _
  have Ha0 : Hid (Held W0 0 w.heap.size (fun v => RdI v w.heap.size A0 l0)) := Lib.hid ((hr0.held (Nat.le_refl _)).below hb0 (Nat.le_refl _))
  have Hb := Lib.hid hb0
  have HW0 := Lib.hid hW0
  clear hb0 hW0  hr0
  go_enter Try.func6, Try.ntmps6
  rw [← HW0.out]
  go_wp2_with fail
  refine (toIntS_any A0 c0 l0 _ w.heap.size Ha0.out.out Hb.out.size hs0_0).mono ?_
  rintro e w1 ⟨rfl, hk1, hb1⟩
  have ho1 : OwnI w1 W0.heap.size w1.heap.size (some ⟨W0.heap.size, 0, none⟩) l0 := hk1.ownI (Nat.le_refl _) hk1.lt
  have Ht0 : Hid (Held w1 W0.heap.size w1.heap.size (fun v => OwnI v W0.heap.size w1.heap.size (some ⟨W0.heap.size, 0, none⟩) l0)) := Lib.hid (ho1.held hb1.size (Nat.le_refl _))
  have hz_w1 : W0.heap.size ≤ w1.heap.size := hb1.size
  replace Hb := Lib.hid (Hb.out.trans (hb1.mono Hb.out.size))
  replace Ha0 := Lib.hid (Ha0.out.below hb1 Ha0.out.top)
  clear ho1 hb1 hk1
  go_wp2_with fail
  refine (specNewTee_q _ _ l0 i1 _ w1.heap.size (Ht0.out.out.rdt Ht0.out.top) (Nat.le_refl _) hs0_0 q hq).mono ?_
  rintro e w2 ⟨r_Hw, rfl, ho2, hb2⟩
  have Hw : Hid (Held w2 w1.heap.size w2.heap.size (fun v => OwnT v w1.heap.size w2.heap.size r_Hw q)) := Lib.hid (ho2.held hb2.size (Nat.le_refl _))
  have hz_w2 : w1.heap.size ≤ w2.heap.size := hb2.size
  replace Hb := Lib.hid (Hb.out.trans (hb2.mono Hb.out.size))
  replace Ha0 := Lib.hid (Ha0.out.below hb2 Ha0.out.top)
  replace Ht0 := Lib.hid (Ht0.out.below hb2 Ht0.out.top)
  clear ho2 hb2
  obtain ⟨Vw2, hVw2⟩ : ∃ W : World, W = w2.alloc (.cells #[.slice r_Hw.a1 q.it.length r_Hw.c1, .int .i64 q.fd, .slice r_Hw.a2 q.pl.length r_Hw.c2, .slice r_Hw.a3 q.op.length r_Hw.c3] 28) := ⟨_, rfl⟩
  have hbVw2 : Below w2.heap.size w2 Vw2 := by rw [hVw2]; exact (Below.refl _ _).alloc (Nat.le_refl _) _
  have Hwb : Hid (Held Vw2 w2.heap.size (w2.heap.size + 1) (fun v => Bk v w2.heap.size 28 [.slice r_Hw.a1 q.it.length r_Hw.c1, .int .i64 q.fd, .slice r_Hw.a2 q.pl.length r_Hw.c2, .slice r_Hw.a3 q.op.length r_Hw.c3])) := Lib.hid (by rw [hVw2]; exact (Bk.new _ _ [_, _, _, _]).held)
  have ht_Hwb : w2.heap.size + 1 ≤ Vw2.heap.size := Hwb.out.top
  have hz_Vw2 : w2.heap.size ≤ Vw2.heap.size := hbVw2.size
  replace Hb := Lib.hid (Hb.out.trans (hbVw2.mono Hb.out.size))
  replace Ha0 := Lib.hid (Ha0.out.below hbVw2 Ha0.out.top)
  replace Hw := Lib.hid (Hw.out.below hbVw2 Hw.out.top)
  have HVw2 := Lib.hid hVw2
  clear hVw2 hbVw2
  go_wp2_with fail
  rw [← HVw2.out]
  refine (toIntS_any A0 c0 l0 _ w.heap.size Ha0.out.out Hb.out.size hs0_0).mono ?_
  rintro e w3 ⟨rfl, hk3, hb3⟩
  have ho3 : OwnI w3 Vw2.heap.size w3.heap.size (some ⟨Vw2.heap.size, 0, none⟩) l0 := hk3.ownI (Nat.le_refl _) hk3.lt
  have Hx0 : Hid (Held w3 Vw2.heap.size w3.heap.size (fun v => OwnI v Vw2.heap.size w3.heap.size (some ⟨Vw2.heap.size, 0, none⟩) l0)) := Lib.hid (ho3.held hb3.size (Nat.le_refl _))
  have hz_w3 : Vw2.heap.size ≤ w3.heap.size := hb3.size
  replace Hb := Lib.hid (Hb.out.trans (hb3.mono Hb.out.size))
  replace Ha0 := Lib.hid (Ha0.out.below hb3 Ha0.out.top)
  replace Hw := Lib.hid (Hw.out.below hb3 Hw.out.top)
  replace Hwb := Lib.hid (Hwb.out.below hb3 Hwb.out.top)
  clear ho3 hb3 hk3
  go_wp2_with fail
  refine (implNewTee_q _ _ l0 i1 _ w3.heap.size (Hx0.out.out.rdt Hx0.out.top) (Nat.le_refl _) hs0_0 q hq).mono ?_
  rintro e w4 ⟨r_Hg, rfl, ho4, hb4⟩
  have Hg : Hid (Held w4 w3.heap.size w4.heap.size (fun v => OwnT v w3.heap.size w4.heap.size r_Hg q)) := Lib.hid (ho4.held hb4.size (Nat.le_refl _))
  have hz_w4 : w3.heap.size ≤ w4.heap.size := hb4.size
  replace Hb := Lib.hid (Hb.out.trans (hb4.mono Hb.out.size))
  replace Ha0 := Lib.hid (Ha0.out.below hb4 Ha0.out.top)
  replace Hw := Lib.hid (Hw.out.below hb4 Hw.out.top)
  replace Hwb := Lib.hid (Hwb.out.below hb4 Hwb.out.top)
  replace Hx0 := Lib.hid (Hx0.out.below hb4 Hx0.out.top)
  clear ho4 hb4
  have cb0_Hwb : w4.cell? ⟨w2.heap.size, 0, none⟩ = some (.slice r_Hw.a1 q.it.length r_Hw.c1) := Hwb.out.out.cell 0
  have cb1_Hwb : w4.cell? ⟨w2.heap.size, 1, none⟩ = some (.int .i64 q.fd) := Hwb.out.out.cell 1
  have cb2_Hwb : w4.cell? ⟨w2.heap.size, 2, none⟩ = some (.slice r_Hw.a2 q.pl.length r_Hw.c2) := Hwb.out.out.cell 2
  have cb3_Hwb : w4.cell? ⟨w2.heap.size, 3, none⟩ = some (.slice r_Hw.a3 q.op.length r_Hw.c3) := Hwb.out.out.cell 3
  have lb_Hwb : w2.heap.size < w4.heap.size := by have := Hwb.out.top; omega
  obtain ⟨Vw4, hVw4⟩ : ∃ W : World, W = w4.alloc (.cells #[.slice r_Hg.a1 q.it.length r_Hg.c1, .int .i64 q.fd, .slice r_Hg.a2 q.pl.length r_Hg.c2, .slice r_Hg.a3 q.op.length r_Hg.c3] 28) := ⟨_, rfl⟩
  have hbVw4 : Below w4.heap.size w4 Vw4 := by rw [hVw4]; exact (Below.refl _ _).alloc (Nat.le_refl _) _
  have Hgb : Hid (Held Vw4 w4.heap.size (w4.heap.size + 1) (fun v => Bk v w4.heap.size 28 [.slice r_Hg.a1 q.it.length r_Hg.c1, .int .i64 q.fd, .slice r_Hg.a2 q.pl.length r_Hg.c2, .slice r_Hg.a3 q.op.length r_Hg.c3])) := Lib.hid (by rw [hVw4]; exact (Bk.new _ _ [_, _, _, _]).held)
  have ht_Hgb : w4.heap.size + 1 ≤ Vw4.heap.size := Hgb.out.top
  have hz_Vw4 : w4.heap.size ≤ Vw4.heap.size := hbVw4.size
  replace Hb := Lib.hid (Hb.out.trans (hbVw4.mono Hb.out.size))
  replace Ha0 := Lib.hid (Ha0.out.below hbVw4 Ha0.out.top)
  replace Hw := Lib.hid (Hw.out.below hbVw4 Hw.out.top)
  replace Hwb := Lib.hid (Hwb.out.below hbVw4 Hwb.out.top)
  replace Hx0 := Lib.hid (Hx0.out.below hbVw4 Hx0.out.top)
  replace Hg := Lib.hid (Hg.out.below hbVw4 Hg.out.top)
  have HVw4 := Lib.hid hVw4
  clear hVw4 hbVw4
  go_wp2_with fail
  rw [← HVw4.out]
  refine (eqTee_any _ _ q _ Vw4.heap.size (Hg.out.out.rdt Hg.out.top) (Hw.out.out.rdt Hw.out.top) (Nat.le_refl _) hqn_0 hqn_1 hqn_2).mono ?_
  rintro e w5 ⟨rfl, hb5⟩
  clear cb0_Hwb cb1_Hwb cb2_Hwb cb3_Hwb lb_Hwb
  have hz_w5 : Vw4.heap.size ≤ w5.heap.size := hb5.size
  replace Hb := Lib.hid (Hb.out.trans (hb5.mono Hb.out.size))
  replace Ha0 := Lib.hid (Ha0.out.below hb5 Ha0.out.top)
  replace Hw := Lib.hid (Hw.out.below hb5 Hw.out.top)
  replace Hwb := Lib.hid (Hwb.out.below hb5 Hwb.out.top)
  replace Hx0 := Lib.hid (Hx0.out.below hb5 Hx0.out.top)
  replace Hg := Lib.hid (Hg.out.below hb5 Hg.out.top)
  replace Hgb := Lib.hid (Hgb.out.below hb5 Hgb.out.top)
  clear hb5
  go_wp2_with fail
  refine (toIntS_any A0 c0 l0 _ w.heap.size Ha0.out.out Hb.out.size hs0_0).mono ?_
  rintro e w6 ⟨rfl, hk6, hb6⟩
  have ho6 : OwnI w6 w5.heap.size w6.heap.size (some ⟨w5.heap.size, 0, none⟩) l0 := hk6.ownI (Nat.le_refl _) hk6.lt
  have Hc0 : Hid (Held w6 w5.heap.size w6.heap.size (fun v => OwnI v w5.heap.size w6.heap.size (some ⟨w5.heap.size, 0, none⟩) l0)) := Lib.hid (ho6.held hb6.size (Nat.le_refl _))
  have hz_w6 : w5.heap.size ≤ w6.heap.size := hb6.size
  replace Hb := Lib.hid (Hb.out.trans (hb6.mono Hb.out.size))
  replace Ha0 := Lib.hid (Ha0.out.below hb6 Ha0.out.top)
  replace Hw := Lib.hid (Hw.out.below hb6 Hw.out.top)
  replace Hwb := Lib.hid (Hwb.out.below hb6 Hwb.out.top)
  replace Hx0 := Lib.hid (Hx0.out.below hb6 Hx0.out.top)
  replace Hg := Lib.hid (Hg.out.below hb6 Hg.out.top)
  replace Hgb := Lib.hid (Hgb.out.below hb6 Hgb.out.top)
  clear ho6 hb6 hk6
  go_wp2_with fail
  refine (eqIntS_any _ _ _ _ l0 l0 _ w6.heap.size (Hx0.out.out.rdt Hx0.out.top) (Hc0.out.out.rdt Hc0.out.top) hs0_0).mono ?_
  rintro e w7 ⟨rfl, hsm7⟩
  have hb7 := hsm7.below w6.heap.size
  rw [decide_eq_true rfl]
  have hz_w7 : w6.heap.size ≤ w7.heap.size := hb7.size
  replace Hb := Lib.hid (Hb.out.trans (hb7.mono Hb.out.size))
  replace Ha0 := Lib.hid (Ha0.out.below hb7 Ha0.out.top)
  replace Hw := Lib.hid (Hw.out.below hb7 Hw.out.top)
  replace Hwb := Lib.hid (Hwb.out.below hb7 Hwb.out.top)
  replace Hx0 := Lib.hid (Hx0.out.below hb7 Hx0.out.top)
  replace Hg := Lib.hid (Hg.out.below hb7 Hg.out.top)
  replace Hgb := Lib.hid (Hgb.out.below hb7 Hgb.out.top)
  replace Hc0 := Lib.hid (Hc0.out.below hb7 Hc0.out.top)
  clear hb7 hsm7
  clear Hc0
  go_wp2_with fail
  refine (markIntS_h (1) Hx0.out.out hs0_0 (by omega) (by omega)).mono ?_
  rintro e w8 ⟨rfl, -, hc8⟩
  have hz_w8 : w7.heap.size ≤ w8.heap.size := hc8.size
  replace Hb := Lib.hid (hc8.below_ Hb.out (by omega) Hb.out.size)
  replace Ha0 := Lib.hid (Ha0.out.chg hc8 (by omega))
  replace Hw := Lib.hid (Hw.out.chg hc8 (by omega))
  replace Hwb := Lib.hid (Hwb.out.chg hc8 (by omega))
  replace Hg := Lib.hid (Hg.out.chg hc8 (by omega))
  replace Hgb := Lib.hid (Hgb.out.chg hc8 (by omega))
  clear hc8 Hx0
  have hpos0 : (0 : Int) ≤ 1 + l0.length := by omega
  have cb0_Hwb : w8.cell? ⟨w2.heap.size, 0, none⟩ = some (.slice r_Hw.a1 q.it.length r_Hw.c1) := Hwb.out.out.cell 0
  have cb1_Hwb : w8.cell? ⟨w2.heap.size, 1, none⟩ = some (.int .i64 q.fd) := Hwb.out.out.cell 1
  have cb2_Hwb : w8.cell? ⟨w2.heap.size, 2, none⟩ = some (.slice r_Hw.a2 q.pl.length r_Hw.c2) := Hwb.out.out.cell 2
  have cb3_Hwb : w8.cell? ⟨w2.heap.size, 3, none⟩ = some (.slice r_Hw.a3 q.op.length r_Hw.c3) := Hwb.out.out.cell 3
  have lb_Hwb : w2.heap.size < w8.heap.size := by have := Hwb.out.top; omega
  have cb0_Hgb : w8.cell? ⟨w4.heap.size, 0, none⟩ = some (.slice r_Hg.a1 q.it.length r_Hg.c1) := Hgb.out.out.cell 0
  have cb1_Hgb : w8.cell? ⟨w4.heap.size, 1, none⟩ = some (.int .i64 q.fd) := Hgb.out.out.cell 1
  have cb2_Hgb : w8.cell? ⟨w4.heap.size, 2, none⟩ = some (.slice r_Hg.a2 q.pl.length r_Hg.c2) := Hgb.out.out.cell 2
  have cb3_Hgb : w8.cell? ⟨w4.heap.size, 3, none⟩ = some (.slice r_Hg.a3 q.op.length r_Hg.c3) := Hgb.out.out.cell 3
  have lb_Hgb : w4.heap.size < w8.heap.size := by have := Hgb.out.top; omega
  go_wp2_with fail
  refine (eqTee_any _ _ q _ w8.heap.size (Hg.out.out.rdt Hg.out.top) (Hw.out.out.rdt Hw.out.top) (Nat.le_refl _) hqn_0 hqn_1 hqn_2).mono ?_
  rintro e w9 ⟨rfl, hb9⟩
  clear cb0_Hwb cb1_Hwb cb2_Hwb cb3_Hwb lb_Hwb cb0_Hgb cb1_Hgb cb2_Hgb cb3_Hgb lb_Hgb
  have hz_w9 : w8.heap.size ≤ w9.heap.size := hb9.size
  replace Hb := Lib.hid (Hb.out.trans (hb9.mono Hb.out.size))
  replace Ha0 := Lib.hid (Ha0.out.below hb9 Ha0.out.top)
  replace Hw := Lib.hid (Hw.out.below hb9 Hw.out.top)
  replace Hwb := Lib.hid (Hwb.out.below hb9 Hwb.out.top)
  replace Hg := Lib.hid (Hg.out.below hb9 Hg.out.top)
  replace Hgb := Lib.hid (Hgb.out.below hb9 Hgb.out.top)
  clear hb9
  have cb0_Hgb : w9.cell? ⟨w4.heap.size, 0, none⟩ = some (.slice r_Hg.a1 q.it.length r_Hg.c1) := Hgb.out.out.cell 0
  have cb1_Hgb : w9.cell? ⟨w4.heap.size, 1, none⟩ = some (.int .i64 q.fd) := Hgb.out.out.cell 1
  have cb2_Hgb : w9.cell? ⟨w4.heap.size, 2, none⟩ = some (.slice r_Hg.a2 q.pl.length r_Hg.c2) := Hgb.out.out.cell 2
  have cb3_Hgb : w9.cell? ⟨w4.heap.size, 3, none⟩ = some (.slice r_Hg.a3 q.op.length r_Hg.c3) := Hgb.out.out.cell 3
  have lb_Hgb : w4.heap.size < w9.heap.size := by have := Hgb.out.top; omega
  go_wp2_with fail
  refine (markTee_h 1 Hg.out.out hqn_0 hqn_1 hqn_2 (by decide) (by decide) Hg.out.top).mono ?_
  rintro e w10 ⟨rfl, ho10, hc10⟩
  clear cb0_Hgb cb1_Hgb cb2_Hgb cb3_Hgb lb_Hgb
  have hle_g : w3.heap.size ≤ w4.heap.size := Hg.out.le
  have htop_g : w4.heap.size ≤ w10.heap.size := Nat.le_trans Hg.out.top hc10.size
  have Hgm : Hid (Held w10 w3.heap.size w4.heap.size (fun v => OwnT v w3.heap.size w4.heap.size r_Hg (mkT q 1))) := Lib.hid (ho10.held hle_g htop_g)
  have hz_w10 : w9.heap.size ≤ w10.heap.size := hc10.size
  replace Hb := Lib.hid (hc10.below_ Hb.out (by omega) Hb.out.size)
  replace Ha0 := Lib.hid (Ha0.out.chg hc10 (by omega))
  replace Hw := Lib.hid (Hw.out.chg hc10 (by omega))
  replace Hwb := Lib.hid (Hwb.out.chg hc10 (by omega))
  replace Hgb := Lib.hid (Hgb.out.chg hc10 (by omega))
  clear hc10 ho10 Hg
  have hposq : (0 : Int) ≤ 1 + (szT q : Nat) := by omega
  have cb0_Hgb : w10.cell? ⟨w4.heap.size, 0, none⟩ = some (.slice r_Hg.a1 q.it.length r_Hg.c1) := Hgb.out.out.cell 0
  have cb1_Hgb : w10.cell? ⟨w4.heap.size, 1, none⟩ = some (.int .i64 q.fd) := Hgb.out.out.cell 1
  have cb2_Hgb : w10.cell? ⟨w4.heap.size, 2, none⟩ = some (.slice r_Hg.a2 q.pl.length r_Hg.c2) := Hgb.out.out.cell 2
  have cb3_Hgb : w10.cell? ⟨w4.heap.size, 3, none⟩ = some (.slice r_Hg.a3 q.op.length r_Hg.c3) := Hgb.out.out.cell 3
  have lb_Hgb : w4.heap.size < w10.heap.size := by have := Hgb.out.top; omega
  go_wp2_with fail
  refine (heldTee_any _ q 1 _ w10.heap.size (Hgm.out.out.rdt Hgm.out.top) (Nat.le_refl _) hqn_0 hqn_1 hqn_2 (by decide) (by decide)).mono ?_
  rintro e w11 ⟨rfl, hb11⟩
  clear cb0_Hgb cb1_Hgb cb2_Hgb cb3_Hgb lb_Hgb
  have hz_w11 : w10.heap.size ≤ w11.heap.size := hb11.size
  replace Hb := Lib.hid (Hb.out.trans (hb11.mono Hb.out.size))
  replace Ha0 := Lib.hid (Ha0.out.below hb11 Ha0.out.top)
  replace Hw := Lib.hid (Hw.out.below hb11 Hw.out.top)
  replace Hwb := Lib.hid (Hwb.out.below hb11 Hwb.out.top)
  replace Hgb := Lib.hid (Hgb.out.below hb11 Hgb.out.top)
  replace Hgm := Lib.hid (Hgm.out.below hb11 Hgm.out.top)
  clear hb11
  go_wp2_with fail
  refine (toIntS_any A0 c0 l0 _ w.heap.size Ha0.out.out Hb.out.size hs0_0).mono ?_
  rintro e w12 ⟨rfl, hk12, hb12⟩
  have ho12 : OwnI w12 w11.heap.size w12.heap.size (some ⟨w11.heap.size, 0, none⟩) l0 := hk12.ownI (Nat.le_refl _) hk12.lt
  have Hu0 : Hid (Held w12 w11.heap.size w12.heap.size (fun v => OwnI v w11.heap.size w12.heap.size (some ⟨w11.heap.size, 0, none⟩) l0)) := Lib.hid (ho12.held hb12.size (Nat.le_refl _))
  have hz_w12 : w11.heap.size ≤ w12.heap.size := hb12.size
  replace Hb := Lib.hid (Hb.out.trans (hb12.mono Hb.out.size))
  replace Ha0 := Lib.hid (Ha0.out.below hb12 Ha0.out.top)
  replace Hw := Lib.hid (Hw.out.below hb12 Hw.out.top)
  replace Hwb := Lib.hid (Hwb.out.below hb12 Hwb.out.top)
  replace Hgb := Lib.hid (Hgb.out.below hb12 Hgb.out.top)
  replace Hgm := Lib.hid (Hgm.out.below hb12 Hgm.out.top)
  clear ho12 hb12 hk12
  go_wp2_with fail
  refine (implNewTee_q _ _ l0 i1 _ w12.heap.size (Hu0.out.out.rdt Hu0.out.top) (Nat.le_refl _) hs0_0 q hq).mono ?_
  rintro e w13 ⟨r_Hh, rfl, ho13, hb13⟩
  have Hh : Hid (Held w13 w12.heap.size w13.heap.size (fun v => OwnT v w12.heap.size w13.heap.size r_Hh q)) := Lib.hid (ho13.held hb13.size (Nat.le_refl _))
  have hz_w13 : w12.heap.size ≤ w13.heap.size := hb13.size
  replace Hb := Lib.hid (Hb.out.trans (hb13.mono Hb.out.size))
  replace Ha0 := Lib.hid (Ha0.out.below hb13 Ha0.out.top)
  replace Hw := Lib.hid (Hw.out.below hb13 Hw.out.top)
  replace Hwb := Lib.hid (Hwb.out.below hb13 Hwb.out.top)
  replace Hgb := Lib.hid (Hgb.out.below hb13 Hgb.out.top)
  replace Hgm := Lib.hid (Hgm.out.below hb13 Hgm.out.top)
  replace Hu0 := Lib.hid (Hu0.out.below hb13 Hu0.out.top)
  clear ho13 hb13
  have cb0_Hwb : w13.cell? ⟨w2.heap.size, 0, none⟩ = some (.slice r_Hw.a1 q.it.length r_Hw.c1) := Hwb.out.out.cell 0
  have cb1_Hwb : w13.cell? ⟨w2.heap.size, 1, none⟩ = some (.int .i64 q.fd) := Hwb.out.out.cell 1
  have cb2_Hwb : w13.cell? ⟨w2.heap.size, 2, none⟩ = some (.slice r_Hw.a2 q.pl.length r_Hw.c2) := Hwb.out.out.cell 2
  have cb3_Hwb : w13.cell? ⟨w2.heap.size, 3, none⟩ = some (.slice r_Hw.a3 q.op.length r_Hw.c3) := Hwb.out.out.cell 3
  have lb_Hwb : w2.heap.size < w13.heap.size := by have := Hwb.out.top; omega
  obtain ⟨Vw13, hVw13⟩ : ∃ W : World, W = w13.alloc (.cells #[.slice r_Hh.a1 q.it.length r_Hh.c1, .int .i64 q.fd, .slice r_Hh.a2 q.pl.length r_Hh.c2, .slice r_Hh.a3 q.op.length r_Hh.c3] 28) := ⟨_, rfl⟩
  have hbVw13 : Below w13.heap.size w13 Vw13 := by rw [hVw13]; exact (Below.refl _ _).alloc (Nat.le_refl _) _
  have Hhb : Hid (Held Vw13 w13.heap.size (w13.heap.size + 1) (fun v => Bk v w13.heap.size 28 [.slice r_Hh.a1 q.it.length r_Hh.c1, .int .i64 q.fd, .slice r_Hh.a2 q.pl.length r_Hh.c2, .slice r_Hh.a3 q.op.length r_Hh.c3])) := Lib.hid (by rw [hVw13]; exact (Bk.new _ _ [_, _, _, _]).held)
  have ht_Hhb : w13.heap.size + 1 ≤ Vw13.heap.size := Hhb.out.top
  have hz_Vw13 : w13.heap.size ≤ Vw13.heap.size := hbVw13.size
  replace Hb := Lib.hid (Hb.out.trans (hbVw13.mono Hb.out.size))
  replace Ha0 := Lib.hid (Ha0.out.below hbVw13 Ha0.out.top)
  replace Hw := Lib.hid (Hw.out.below hbVw13 Hw.out.top)
  replace Hwb := Lib.hid (Hwb.out.below hbVw13 Hwb.out.top)
  replace Hgb := Lib.hid (Hgb.out.below hbVw13 Hgb.out.top)
  replace Hgm := Lib.hid (Hgm.out.below hbVw13 Hgm.out.top)
  replace Hh := Lib.hid (Hh.out.below hbVw13 Hh.out.top)
  have HVw13 := Lib.hid hVw13
  clear hVw13 hbVw13
  go_wp2_with fail
  rw [← HVw13.out]
  refine (eqTee_any _ _ q _ Vw13.heap.size (Hh.out.out.rdt Hh.out.top) (Hw.out.out.rdt Hw.out.top) (Nat.le_refl _) hqn_0 hqn_1 hqn_2).mono ?_
  rintro e w14 ⟨rfl, hb14⟩
  clear cb0_Hwb cb1_Hwb cb2_Hwb cb3_Hwb lb_Hwb
  have hz_w14 : Vw13.heap.size ≤ w14.heap.size := hb14.size
  replace Hb := Lib.hid (Hb.out.trans (hb14.mono Hb.out.size))
  replace Ha0 := Lib.hid (Ha0.out.below hb14 Ha0.out.top)
  replace Hw := Lib.hid (Hw.out.below hb14 Hw.out.top)
  replace Hwb := Lib.hid (Hwb.out.below hb14 Hwb.out.top)
  replace Hgb := Lib.hid (Hgb.out.below hb14 Hgb.out.top)
  replace Hgm := Lib.hid (Hgm.out.below hb14 Hgm.out.top)
  replace Hh := Lib.hid (Hh.out.below hb14 Hh.out.top)
  replace Hhb := Lib.hid (Hhb.out.below hb14 Hhb.out.top)
  clear hb14
  have cb0_Hgb : w14.cell? ⟨w4.heap.size, 0, none⟩ = some (.slice r_Hg.a1 q.it.length r_Hg.c1) := Hgb.out.out.cell 0
  have cb1_Hgb : w14.cell? ⟨w4.heap.size, 1, none⟩ = some (.int .i64 q.fd) := Hgb.out.out.cell 1
  have cb2_Hgb : w14.cell? ⟨w4.heap.size, 2, none⟩ = some (.slice r_Hg.a2 q.pl.length r_Hg.c2) := Hgb.out.out.cell 2
  have cb3_Hgb : w14.cell? ⟨w4.heap.size, 3, none⟩ = some (.slice r_Hg.a3 q.op.length r_Hg.c3) := Hgb.out.out.cell 3
  have lb_Hgb : w4.heap.size < w14.heap.size := by have := Hgb.out.top; omega
  go_wp2_with fail
  refine (heldTee_any _ q 1 _ w14.heap.size (Hgm.out.out.rdt Hgm.out.top) (Nat.le_refl _) hqn_0 hqn_1 hqn_2 (by decide) (by decide)).mono ?_
  rintro e w15 ⟨rfl, hb15⟩
  clear cb0_Hgb cb1_Hgb cb2_Hgb cb3_Hgb lb_Hgb
  have hz_w15 : w14.heap.size ≤ w15.heap.size := hb15.size
  replace Hb := Lib.hid (Hb.out.trans (hb15.mono Hb.out.size))
  replace Ha0 := Lib.hid (Ha0.out.below hb15 Ha0.out.top)
  replace Hw := Lib.hid (Hw.out.below hb15 Hw.out.top)
  replace Hwb := Lib.hid (Hwb.out.below hb15 Hwb.out.top)
  replace Hgb := Lib.hid (Hgb.out.below hb15 Hgb.out.top)
  replace Hgm := Lib.hid (Hgm.out.below hb15 Hgm.out.top)
  replace Hh := Lib.hid (Hh.out.below hb15 Hh.out.top)
  replace Hhb := Lib.hid (Hhb.out.below hb15 Hhb.out.top)
  clear hb15
  go_wp2_with fail
  go_ret
  first | exact ⟨rfl, Hb.out⟩ | (have h9 := Hb.out; rw [← HW0.out] at h9; exact ⟨rfl, h9⟩)

theorem walk (A0 : Option Addr) (c0 : Nat) (l0 : List Int) (i1 : Int) (w : World) (hr0 : RdI w w.heap.size A0 l0) (hn0_0 : l0.length ≤ maxLen) :
    Calls Try.prog 6 #[.slice A0 l0.length c0, .int .i64 i1] w fun e w' => e = .returned (.bool true) ∧ Below w.heap.size w w' := by
  obtain ⟨h1, h2, h3⟩ := newQ_small l0 i1
  exact walk0 A0 c0 l0 i1 w _ (Lib.hid rfl) (by omega) (by omega) (by omega) (by unfold szT; omega) hr0 hn0_0


set_option maxRecDepth 100000 in
theorem lifted (os : Os) (started : os.Started) (H : Type) (enc : TypeId × Value → H) :
    ReturnsInHanded {} Try.checked os 6 .any (Rows.fnExactNewTeeSpec.pre6 enc Try.prog Try.f6 Rows.fnExactNewTeeRow.domain false) (Rows.fnExactNewTeeSpec.post enc Try.prog Try.f6 false true false false) := by
  refine returnsInHanded_of_change (C := Try.checked) own started (by kernel_rfl) Try.func6
    (ChangeSpec.witness6 (enc := enc) (C := Try.checked) false ⟨#[], #[.slice none 0 0, .int .i64 0], []⟩ 8 (by kernel_rfl) (by kernel_rfl) (by kernel_rfl) (by kernel_rfl)) ?_
  intro W base args ds gs before hval0 hW _ _
  have hval : ∀ (j : Nat) t v, Try.f6.params[j]? = some t → args[j]? = some v → Value.okWide Try.prog W .any base t v := hval0
  have hW' := hW
  obtain ⟨p, q, hA0, hV, rfl, hfz, hnd⟩ := hW
  have hA : DataW.TrodAll enc Try.prog W 0 (fun _ => true) true Try.f6.params.toList args.toList ds p := hA0
  rw [Try.params6] at hA hval
  obtain ⟨v0, vs0, d0, ds0, p0, q0, hargs, rfl, rfl, h0, r0⟩ := trodAll_cons hA
  obtain ⟨v1, vs1, d1, ds1, p1, q1, rfl, rfl, rfl, h1, r1⟩ := trodAll_cons r0
  obtain ⟨rfl, rfl, rfl⟩ := trodAll_nil r1
  obtain rfl : args = #[v0, v1] := by cases args; simp_all
  obtain ⟨rfl, rfl⟩ := trodVars_none hV
  obtain ⟨a0, len0, cap0, rfl⟩ := okWide_slice Try.underlying23 (hval 0 23 v0 rfl rfl)
  have k0 := h0
  have lt0 : ∀ x ∈ p0, x.block < W.heap.size := by obtain ⟨m, hm⟩ := k0; exact DataW.trod_lt m _ _ _ hm
  obtain ⟨l0, rfl, hl0, hrd0⟩ := open_nums Try.underlying23 Try.underlying3 (by kernel_rfl) h0
  obtain ⟨i1, rfl, rfl, rfl, wi1⟩ := open_int Try.underlying3 (hval 1 3 v1 rfl rfl) h1
  clear hA0 hval0
  refine (walk a0 cap0 l0 i1 W hrd0 hl0).mono fun e W' ⟨he, bel⟩ => ?_
  subst he
  exact ⟨_, rfl, _, _, _, [], _, [], hW', trodAll_mk1 (shut_bool Try.underlying4 _), (trodAll_cons_mk (Below.trod laidOut (by kernel_rfl) (of_decide_eq_true (by kernel_rfl)) k0 bel lt0) (trodAll_cons_mk (shut_int Try.underlying3 wi1) trodAll_mk0)), rfl, bel.frame _, fun h => by cases h⟩

theorem fnExactNewTee_holds : Rows.FnExactNewTeeSaid :=
  OpenClaim.holds_of_wide 6 Try.f6 rfl rfl rfl rfl rfl rfl rfl ⟨rfl, rfl, rfl, rfl, rfl⟩ rfl rfl rfl rfl rfl (by kernel_rfl) Try.func6 (by kernel_rfl)
    (of_decide_eq_true (by kernel_rfl)) (by unfold Func.isWrapper; rw [if_neg (of_decide_eq_false (by kernel_rfl))]; exact ⟨rfl, rfl⟩)
    (fun os started H enc _ => lifted os started H enc)

end Go.Proofs.Ytebnpddgbmckcaa.LawNT
