/- The law FnExactReadBy returns true for every input, and its arguments read afterwards as before. Conditions: none. -/
import Derived.Test.YtjkieedomljelaaRows
import Derived.Test.YtjkieedomljelaaTkG
import Derived.Test.YtjkieedomljelaaOpenI
import Derived.Test.YtjkieedomljelaaOpen
import Derived.Deep.RegionHeld3
import Derived.Deep.CutRange
import Derived.Deep.DeepMust
namespace Go.Proofs.Ytjkieedomljelaa.LawRB
open Go.ChangeShapes Go.WideShapes Go.ChangeAt Go.RowKit Go.Deep

theorem own : ownKnob Try.prog.godebug = none := by kernel_rfl
theorem laidOut : laidOutB Try.prog = true := by kernel_rfl

set_option maxRecDepth 100000 in
set_option maxHeartbeats 12800000 in
theorem walk0 (A0 : Option Addr) (c0 : Nat) (l0 : List Int) (i1 : Int) (A2 : Option Addr) (c2 : Nat) (l2 : List Int) (i3 : Int) (w : World) (q : List Int) (hq : Hid (rbQ l0 i1 l2 i3 = q)) (hqn_0 : q.length ≤ 1048576) (hr0 : RdI w w.heap.size A0 l0) (_hn0_0 : l0.length ≤ maxLen)  (hr2 : RdI w w.heap.size A2 l2) (_hn2_0 : l2.length ≤ maxLen)  :
    Calls Try.prog 7 #[.slice A0 l0.length c0, .int .i64 i1, .slice A2 l2.length c2, .int .i64 i3] w fun e w' => e = .returned (.bool true) ∧ Below w.heap.size w w' := by
  by_cases hgate0 : 1048576 < l0.length
  · have hgi0 : (1048576 : Int) < l0.length := by omega
    clear hgate0
    go_enter Try.func7, Try.ntmps7
    go_wp2_with fail
    go_ret
    exact ⟨rfl, Below.refl _ _⟩
  have hs0_0 : l0.length ≤ 1048576 := by omega
  have hgi0 : ¬ (1048576 : Int) < l0.length := by omega
  clear hgate0
  by_cases hgate2 : 1048576 < l2.length
  · have hgi2 : (1048576 : Int) < l2.length := by omega
    clear hgate2
    go_enter Try.func7, Try.ntmps7
    go_wp2_with fail
    go_ret
    exact ⟨rfl, Below.refl _ _⟩
  have hs2_0 : l2.length ≤ 1048576 := by omega
  have hgi2 : ¬ (1048576 : Int) < l2.length := by omega
  clear hgate2
  obtain ⟨W0, hW0⟩ : ∃ W0 : World, W0 = w := ⟨_, rfl⟩
  have hb0 : Below w.heap.size w W0 := by rw [hW0]; exact Below.refl w.heap.size w
  have hz_W0 : w.heap.size ≤ W0.heap.size := by rw [hW0]; exact Nat.le_refl _
  have Ha0 : Hid (Held W0 0 w.heap.size (fun v => RdI v w.heap.size A0 l0)) := Lib.hid ((hr0.held (Nat.le_refl _)).below hb0 (Nat.le_refl _))
  have Ha2 : Hid (Held W0 0 w.heap.size (fun v => RdI v w.heap.size A2 l2)) := Lib.hid ((hr2.held (Nat.le_refl _)).below hb0 (Nat.le_refl _))
  have Hb := Lib.hid hb0
  have HW0 := Lib.hid hW0
  clear hb0 hW0  hr0 hr2
  go_enter Try.func7, Try.ntmps7
  rw [← HW0.out]
  go_wp2_with fail
  refine (toIntS_any A0 c0 l0 _ w.heap.size Ha0.out.out Hb.out.size hs0_0).mono ?_
  rintro e w1 ⟨rfl, hk1, hb1⟩
  have ho1 : OwnI w1 W0.heap.size w1.heap.size (some ⟨W0.heap.size, 0, none⟩) l0 := hk1.ownI (Nat.le_refl _) hk1.lt
  have Ht0 : Hid (Held w1 W0.heap.size w1.heap.size (fun v => OwnI v W0.heap.size w1.heap.size (some ⟨W0.heap.size, 0, none⟩) l0)) := Lib.hid (ho1.held hb1.size (Nat.le_refl _))
  have hz_w1 : W0.heap.size ≤ w1.heap.size := hb1.size
  replace Hb := Lib.hid (Hb.out.trans (hb1.mono Hb.out.size))
  replace Ha0 := Lib.hid (Ha0.out.below hb1 Ha0.out.top)
  replace Ha2 := Lib.hid (Ha2.out.below hb1 Ha2.out.top)
  clear ho1 hb1 hk1
  go_wp2_with fail
  refine (toIntS_any A2 c2 l2 _ w.heap.size Ha2.out.out Hb.out.size hs2_0).mono ?_
  rintro e w2 ⟨rfl, hk2, hb2⟩
  have ho2 : OwnI w2 w1.heap.size w2.heap.size (some ⟨w1.heap.size, 0, none⟩) l2 := hk2.ownI (Nat.le_refl _) hk2.lt
  have Ht2 : Hid (Held w2 w1.heap.size w2.heap.size (fun v => OwnI v w1.heap.size w2.heap.size (some ⟨w1.heap.size, 0, none⟩) l2)) := Lib.hid (ho2.held hb2.size (Nat.le_refl _))
  have hz_w2 : w1.heap.size ≤ w2.heap.size := hb2.size
  replace Hb := Lib.hid (Hb.out.trans (hb2.mono Hb.out.size))
  replace Ha0 := Lib.hid (Ha0.out.below hb2 Ha0.out.top)
  replace Ha2 := Lib.hid (Ha2.out.below hb2 Ha2.out.top)
  replace Ht0 := Lib.hid (Ht0.out.below hb2 Ht0.out.top)
  clear ho2 hb2 hk2
  go_wp2_with fail
  refine (specReadBy_any _ _ l0 i1 _ _ l2 i3 _ w2.heap.size (Ht0.out.out.rdt Ht0.out.top) (Ht2.out.out.rdt Ht2.out.top) (Nat.le_refl _) hs0_0 hs2_0 q hq).mono ?_
  rintro e w3 ⟨AHw, cHw, rfl, ho3, hb3⟩
  have Hw : Hid (Held w3 w2.heap.size w3.heap.size (fun v => OwnI v w2.heap.size w3.heap.size AHw q)) := Lib.hid (ho3.held hb3.size (Nat.le_refl _))
  have hz_w3 : w2.heap.size ≤ w3.heap.size := hb3.size
  replace Hb := Lib.hid (Hb.out.trans (hb3.mono Hb.out.size))
  replace Ha0 := Lib.hid (Ha0.out.below hb3 Ha0.out.top)
  replace Ha2 := Lib.hid (Ha2.out.below hb3 Ha2.out.top)
  replace Ht0 := Lib.hid (Ht0.out.below hb3 Ht0.out.top)
  replace Ht2 := Lib.hid (Ht2.out.below hb3 Ht2.out.top)
  clear ho3 hb3
  go_wp2_with fail
  refine (toIntS_any A0 c0 l0 _ w.heap.size Ha0.out.out Hb.out.size hs0_0).mono ?_
  rintro e w4 ⟨rfl, hk4, hb4⟩
  have ho4 : OwnI w4 w3.heap.size w4.heap.size (some ⟨w3.heap.size, 0, none⟩) l0 := hk4.ownI (Nat.le_refl _) hk4.lt
  have Hx0 : Hid (Held w4 w3.heap.size w4.heap.size (fun v => OwnI v w3.heap.size w4.heap.size (some ⟨w3.heap.size, 0, none⟩) l0)) := Lib.hid (ho4.held hb4.size (Nat.le_refl _))
  have hz_w4 : w3.heap.size ≤ w4.heap.size := hb4.size
  replace Hb := Lib.hid (Hb.out.trans (hb4.mono Hb.out.size))
  replace Ha0 := Lib.hid (Ha0.out.below hb4 Ha0.out.top)
  replace Ha2 := Lib.hid (Ha2.out.below hb4 Ha2.out.top)
  replace Hw := Lib.hid (Hw.out.below hb4 Hw.out.top)
  clear ho4 hb4 hk4
  go_wp2_with fail
  refine (toIntS_any A2 c2 l2 _ w.heap.size Ha2.out.out Hb.out.size hs2_0).mono ?_
  rintro e w5 ⟨rfl, hk5, hb5⟩
  have ho5 : OwnI w5 w4.heap.size w5.heap.size (some ⟨w4.heap.size, 0, none⟩) l2 := hk5.ownI (Nat.le_refl _) hk5.lt
  have Hx2 : Hid (Held w5 w4.heap.size w5.heap.size (fun v => OwnI v w4.heap.size w5.heap.size (some ⟨w4.heap.size, 0, none⟩) l2)) := Lib.hid (ho5.held hb5.size (Nat.le_refl _))
  have hz_w5 : w4.heap.size ≤ w5.heap.size := hb5.size
  replace Hb := Lib.hid (Hb.out.trans (hb5.mono Hb.out.size))
  replace Ha0 := Lib.hid (Ha0.out.below hb5 Ha0.out.top)
  replace Ha2 := Lib.hid (Ha2.out.below hb5 Ha2.out.top)
  replace Hw := Lib.hid (Hw.out.below hb5 Hw.out.top)
  replace Hx0 := Lib.hid (Hx0.out.below hb5 Hx0.out.top)
  clear ho5 hb5 hk5
  go_wp2_with fail
  refine (implReadBy_any _ _ l0 i1 _ _ l2 i3 _ w5.heap.size (Hx0.out.out.rdt Hx0.out.top) (Hx2.out.out.rdt Hx2.out.top) (Nat.le_refl _) hs0_0 hs2_0 q hq).mono ?_
  rintro e w6 ⟨AHg, cHg, rfl, ho6, hb6⟩
  have Hg : Hid (Held w6 w5.heap.size w6.heap.size (fun v => OwnI v w5.heap.size w6.heap.size AHg q)) := Lib.hid (ho6.held hb6.size (Nat.le_refl _))
  have hz_w6 : w5.heap.size ≤ w6.heap.size := hb6.size
  replace Hb := Lib.hid (Hb.out.trans (hb6.mono Hb.out.size))
  replace Ha0 := Lib.hid (Ha0.out.below hb6 Ha0.out.top)
  replace Ha2 := Lib.hid (Ha2.out.below hb6 Ha2.out.top)
  replace Hw := Lib.hid (Hw.out.below hb6 Hw.out.top)
  replace Hx0 := Lib.hid (Hx0.out.below hb6 Hx0.out.top)
  replace Hx2 := Lib.hid (Hx2.out.below hb6 Hx2.out.top)
  clear ho6 hb6
  go_wp2_with fail
  refine (eqIntS_any _ _ _ _ q q _ w6.heap.size (Hg.out.out.rdt Hg.out.top) (Hw.out.out.rdt Hw.out.top) hqn_0).mono ?_
  rintro e w7 ⟨rfl, hsm7⟩
  have hb7 := hsm7.below w6.heap.size
  rw [decide_eq_true rfl]
  have hz_w7 : w6.heap.size ≤ w7.heap.size := hb7.size
  replace Hb := Lib.hid (Hb.out.trans (hb7.mono Hb.out.size))
  replace Ha0 := Lib.hid (Ha0.out.below hb7 Ha0.out.top)
  replace Ha2 := Lib.hid (Ha2.out.below hb7 Ha2.out.top)
  replace Hw := Lib.hid (Hw.out.below hb7 Hw.out.top)
  replace Hx0 := Lib.hid (Hx0.out.below hb7 Hx0.out.top)
  replace Hx2 := Lib.hid (Hx2.out.below hb7 Hx2.out.top)
  replace Hg := Lib.hid (Hg.out.below hb7 Hg.out.top)
  clear hb7 hsm7
  go_wp2_with fail
  refine (toIntS_any A0 c0 l0 _ w.heap.size Ha0.out.out Hb.out.size hs0_0).mono ?_
  rintro e w8 ⟨rfl, hk8, hb8⟩
  have ho8 : OwnI w8 w7.heap.size w8.heap.size (some ⟨w7.heap.size, 0, none⟩) l0 := hk8.ownI (Nat.le_refl _) hk8.lt
  have Hc0 : Hid (Held w8 w7.heap.size w8.heap.size (fun v => OwnI v w7.heap.size w8.heap.size (some ⟨w7.heap.size, 0, none⟩) l0)) := Lib.hid (ho8.held hb8.size (Nat.le_refl _))
  have hz_w8 : w7.heap.size ≤ w8.heap.size := hb8.size
  replace Hb := Lib.hid (Hb.out.trans (hb8.mono Hb.out.size))
  replace Ha0 := Lib.hid (Ha0.out.below hb8 Ha0.out.top)
  replace Ha2 := Lib.hid (Ha2.out.below hb8 Ha2.out.top)
  replace Hw := Lib.hid (Hw.out.below hb8 Hw.out.top)
  replace Hx0 := Lib.hid (Hx0.out.below hb8 Hx0.out.top)
  replace Hx2 := Lib.hid (Hx2.out.below hb8 Hx2.out.top)
  replace Hg := Lib.hid (Hg.out.below hb8 Hg.out.top)
  clear ho8 hb8 hk8
  go_wp2_with fail
  refine (eqIntS_any _ _ _ _ l0 l0 _ w8.heap.size (Hx0.out.out.rdt Hx0.out.top) (Hc0.out.out.rdt Hc0.out.top) hs0_0).mono ?_
  rintro e w9 ⟨rfl, hsm9⟩
  have hb9 := hsm9.below w8.heap.size
  rw [decide_eq_true rfl]
  have hz_w9 : w8.heap.size ≤ w9.heap.size := hb9.size
  replace Hb := Lib.hid (Hb.out.trans (hb9.mono Hb.out.size))
  replace Ha0 := Lib.hid (Ha0.out.below hb9 Ha0.out.top)
  replace Ha2 := Lib.hid (Ha2.out.below hb9 Ha2.out.top)
  replace Hw := Lib.hid (Hw.out.below hb9 Hw.out.top)
  replace Hx0 := Lib.hid (Hx0.out.below hb9 Hx0.out.top)
  replace Hx2 := Lib.hid (Hx2.out.below hb9 Hx2.out.top)
  replace Hg := Lib.hid (Hg.out.below hb9 Hg.out.top)
  replace Hc0 := Lib.hid (Hc0.out.below hb9 Hc0.out.top)
  clear hb9 hsm9
  clear Hc0
  go_wp2_with fail
  refine (toIntS_any A2 c2 l2 _ w.heap.size Ha2.out.out Hb.out.size hs2_0).mono ?_
  rintro e w10 ⟨rfl, hk10, hb10⟩
  have ho10 : OwnI w10 w9.heap.size w10.heap.size (some ⟨w9.heap.size, 0, none⟩) l2 := hk10.ownI (Nat.le_refl _) hk10.lt
  have Hc2 : Hid (Held w10 w9.heap.size w10.heap.size (fun v => OwnI v w9.heap.size w10.heap.size (some ⟨w9.heap.size, 0, none⟩) l2)) := Lib.hid (ho10.held hb10.size (Nat.le_refl _))
  have hz_w10 : w9.heap.size ≤ w10.heap.size := hb10.size
  replace Hb := Lib.hid (Hb.out.trans (hb10.mono Hb.out.size))
  replace Ha0 := Lib.hid (Ha0.out.below hb10 Ha0.out.top)
  replace Ha2 := Lib.hid (Ha2.out.below hb10 Ha2.out.top)
  replace Hw := Lib.hid (Hw.out.below hb10 Hw.out.top)
  replace Hx0 := Lib.hid (Hx0.out.below hb10 Hx0.out.top)
  replace Hx2 := Lib.hid (Hx2.out.below hb10 Hx2.out.top)
  replace Hg := Lib.hid (Hg.out.below hb10 Hg.out.top)
  clear ho10 hb10 hk10
  go_wp2_with fail
  refine (eqIntS_any _ _ _ _ l2 l2 _ w10.heap.size (Hx2.out.out.rdt Hx2.out.top) (Hc2.out.out.rdt Hc2.out.top) hs2_0).mono ?_
  rintro e w11 ⟨rfl, hsm11⟩
  have hb11 := hsm11.below w10.heap.size
  rw [decide_eq_true rfl]
  have hz_w11 : w10.heap.size ≤ w11.heap.size := hb11.size
  replace Hb := Lib.hid (Hb.out.trans (hb11.mono Hb.out.size))
  replace Ha0 := Lib.hid (Ha0.out.below hb11 Ha0.out.top)
  replace Ha2 := Lib.hid (Ha2.out.below hb11 Ha2.out.top)
  replace Hw := Lib.hid (Hw.out.below hb11 Hw.out.top)
  replace Hx0 := Lib.hid (Hx0.out.below hb11 Hx0.out.top)
  replace Hx2 := Lib.hid (Hx2.out.below hb11 Hx2.out.top)
  replace Hg := Lib.hid (Hg.out.below hb11 Hg.out.top)
  replace Hc2 := Lib.hid (Hc2.out.below hb11 Hc2.out.top)
  clear hb11 hsm11
  clear Hc2
  go_wp2_with fail
  refine (markIntS_h (1) Hx0.out.out hs0_0 (by omega) (by omega)).mono ?_
  rintro e w12 ⟨rfl, -, hc12⟩
  have hz_w12 : w11.heap.size ≤ w12.heap.size := hc12.size
  replace Hb := Lib.hid (hc12.below_ Hb.out (by omega) Hb.out.size)
  replace Ha0 := Lib.hid (Ha0.out.chg hc12 (by omega))
  replace Ha2 := Lib.hid (Ha2.out.chg hc12 (by omega))
  replace Hw := Lib.hid (Hw.out.chg hc12 (by omega))
  replace Hx2 := Lib.hid (Hx2.out.chg hc12 (by omega))
  replace Hg := Lib.hid (Hg.out.chg hc12 (by omega))
  clear hc12 Hx0
  have hpos0 : (0 : Int) ≤ 1 + l0.length := by omega
  go_wp2_with fail
  refine (markIntS_h (1 + l0.length) Hx2.out.out hs2_0 (by omega) (by omega)).mono ?_
  rintro e w13 ⟨rfl, -, hc13⟩
  have hz_w13 : w12.heap.size ≤ w13.heap.size := hc13.size
  replace Hb := Lib.hid (hc13.below_ Hb.out (by omega) Hb.out.size)
  replace Ha0 := Lib.hid (Ha0.out.chg hc13 (by omega))
  replace Ha2 := Lib.hid (Ha2.out.chg hc13 (by omega))
  replace Hw := Lib.hid (Hw.out.chg hc13 (by omega))
  replace Hg := Lib.hid (Hg.out.chg hc13 (by omega))
  clear hc13 Hx2
  have hpos2 : (0 : Int) ≤ 1 + l0.length + l2.length := by omega
  go_wp2_with fail
  refine (eqIntS_any _ _ _ _ q q _ w13.heap.size (Hg.out.out.rdt Hg.out.top) (Hw.out.out.rdt Hw.out.top) hqn_0).mono ?_
  rintro e w14 ⟨rfl, hsm14⟩
  have hb14 := hsm14.below w13.heap.size
  rw [decide_eq_true rfl]
  have hz_w14 : w13.heap.size ≤ w14.heap.size := hb14.size
  replace Hb := Lib.hid (Hb.out.trans (hb14.mono Hb.out.size))
  replace Ha0 := Lib.hid (Ha0.out.below hb14 Ha0.out.top)
  replace Ha2 := Lib.hid (Ha2.out.below hb14 Ha2.out.top)
  replace Hw := Lib.hid (Hw.out.below hb14 Hw.out.top)
  replace Hg := Lib.hid (Hg.out.below hb14 Hg.out.top)
  clear hb14 hsm14
  go_wp2_with fail
  refine (markIntS_h 1 Hg.out.out hqn_0 (by decide) (by decide)).mono ?_
  rintro e w15 ⟨rfl, ho15, hc15⟩
  have hle_g : w5.heap.size ≤ w6.heap.size := Hg.out.le
  have htop_g : w6.heap.size ≤ w15.heap.size := Nat.le_trans Hg.out.top hc15.size
  have Hgm : Hid (Held w15 w5.heap.size w6.heap.size (fun v => OwnI v w5.heap.size w6.heap.size AHg (mkI q.length 1))) := Lib.hid (ho15.held hle_g htop_g)
  have hz_w15 : w14.heap.size ≤ w15.heap.size := hc15.size
  replace Hb := Lib.hid (hc15.below_ Hb.out (by omega) Hb.out.size)
  replace Ha0 := Lib.hid (Ha0.out.chg hc15 (by omega))
  replace Ha2 := Lib.hid (Ha2.out.chg hc15 (by omega))
  replace Hw := Lib.hid (Hw.out.chg hc15 (by omega))
  clear hc15 ho15 Hg
  have hposq : (0 : Int) ≤ 1 + q.length := by omega
  go_wp2_with fail
  refine (heldIntS_any _ _ q.length 1 _ w15.heap.size (Hgm.out.out.rdt Hgm.out.top) hqn_0 (by decide) (by decide)).mono ?_
  rintro e w16 ⟨rfl, rfl⟩
  go_wp2_with fail
  refine (toIntS_any A0 c0 l0 _ w.heap.size Ha0.out.out Hb.out.size hs0_0).mono ?_
  rintro e w17 ⟨rfl, hk17, hb17⟩
  have ho17 : OwnI w17 w15.heap.size w17.heap.size (some ⟨w15.heap.size, 0, none⟩) l0 := hk17.ownI (Nat.le_refl _) hk17.lt
  have Hu0 : Hid (Held w17 w15.heap.size w17.heap.size (fun v => OwnI v w15.heap.size w17.heap.size (some ⟨w15.heap.size, 0, none⟩) l0)) := Lib.hid (ho17.held hb17.size (Nat.le_refl _))
  have hz_w17 : w15.heap.size ≤ w17.heap.size := hb17.size
  replace Hb := Lib.hid (Hb.out.trans (hb17.mono Hb.out.size))
  replace Ha0 := Lib.hid (Ha0.out.below hb17 Ha0.out.top)
  replace Ha2 := Lib.hid (Ha2.out.below hb17 Ha2.out.top)
  replace Hw := Lib.hid (Hw.out.below hb17 Hw.out.top)
  replace Hgm := Lib.hid (Hgm.out.below hb17 Hgm.out.top)
  clear ho17 hb17 hk17
  go_wp2_with fail
  refine (toIntS_any A2 c2 l2 _ w.heap.size Ha2.out.out Hb.out.size hs2_0).mono ?_
  rintro e w18 ⟨rfl, hk18, hb18⟩
  have ho18 : OwnI w18 w17.heap.size w18.heap.size (some ⟨w17.heap.size, 0, none⟩) l2 := hk18.ownI (Nat.le_refl _) hk18.lt
  have Hu2 : Hid (Held w18 w17.heap.size w18.heap.size (fun v => OwnI v w17.heap.size w18.heap.size (some ⟨w17.heap.size, 0, none⟩) l2)) := Lib.hid (ho18.held hb18.size (Nat.le_refl _))
  have hz_w18 : w17.heap.size ≤ w18.heap.size := hb18.size
  replace Hb := Lib.hid (Hb.out.trans (hb18.mono Hb.out.size))
  replace Ha0 := Lib.hid (Ha0.out.below hb18 Ha0.out.top)
  replace Ha2 := Lib.hid (Ha2.out.below hb18 Ha2.out.top)
  replace Hw := Lib.hid (Hw.out.below hb18 Hw.out.top)
  replace Hgm := Lib.hid (Hgm.out.below hb18 Hgm.out.top)
  replace Hu0 := Lib.hid (Hu0.out.below hb18 Hu0.out.top)
  clear ho18 hb18 hk18
  go_wp2_with fail
  refine (implReadBy_any _ _ l0 i1 _ _ l2 i3 _ w18.heap.size (Hu0.out.out.rdt Hu0.out.top) (Hu2.out.out.rdt Hu2.out.top) (Nat.le_refl _) hs0_0 hs2_0 q hq).mono ?_
  rintro e w19 ⟨AHh, cHh, rfl, ho19, hb19⟩
  have Hh : Hid (Held w19 w18.heap.size w19.heap.size (fun v => OwnI v w18.heap.size w19.heap.size AHh q)) := Lib.hid (ho19.held hb19.size (Nat.le_refl _))
  have hz_w19 : w18.heap.size ≤ w19.heap.size := hb19.size
  replace Hb := Lib.hid (Hb.out.trans (hb19.mono Hb.out.size))
  replace Ha0 := Lib.hid (Ha0.out.below hb19 Ha0.out.top)
  replace Ha2 := Lib.hid (Ha2.out.below hb19 Ha2.out.top)
  replace Hw := Lib.hid (Hw.out.below hb19 Hw.out.top)
  replace Hgm := Lib.hid (Hgm.out.below hb19 Hgm.out.top)
  replace Hu0 := Lib.hid (Hu0.out.below hb19 Hu0.out.top)
  replace Hu2 := Lib.hid (Hu2.out.below hb19 Hu2.out.top)
  clear ho19 hb19
  go_wp2_with fail
  refine (eqIntS_any _ _ _ _ q q _ w19.heap.size (Hh.out.out.rdt Hh.out.top) (Hw.out.out.rdt Hw.out.top) hqn_0).mono ?_
  rintro e w20 ⟨rfl, hsm20⟩
  have hb20 := hsm20.below w19.heap.size
  rw [decide_eq_true rfl]
  have hz_w20 : w19.heap.size ≤ w20.heap.size := hb20.size
  replace Hb := Lib.hid (Hb.out.trans (hb20.mono Hb.out.size))
  replace Ha0 := Lib.hid (Ha0.out.below hb20 Ha0.out.top)
  replace Ha2 := Lib.hid (Ha2.out.below hb20 Ha2.out.top)
  replace Hw := Lib.hid (Hw.out.below hb20 Hw.out.top)
  replace Hgm := Lib.hid (Hgm.out.below hb20 Hgm.out.top)
  replace Hh := Lib.hid (Hh.out.below hb20 Hh.out.top)
  clear hb20 hsm20
  go_wp2_with fail
  refine (heldIntS_any _ _ q.length 1 _ w20.heap.size (Hgm.out.out.rdt Hgm.out.top) hqn_0 (by decide) (by decide)).mono ?_
  rintro e w21 ⟨rfl, rfl⟩
  go_wp2_with fail
  go_ret
  first | exact ⟨rfl, Hb.out⟩ | (have h9 := Hb.out; rw [← HW0.out] at h9; exact ⟨rfl, h9⟩)



set_option maxRecDepth 100000 in
theorem lifted (os : Os) (started : os.Started) (H : Type) (enc : TypeId × Value → H) :
    ReturnsInHanded {} Try.checked os 7 .any (Rows.fnExactReadBySpec.pre6 enc Try.prog Try.f7 Rows.fnExactReadByRow.domain false) (Rows.fnExactReadBySpec.post enc Try.prog Try.f7 false true false false) := by
  refine returnsInHanded_of_change (C := Try.checked) own started (by kernel_rfl) Try.func7
    (ChangeSpec.witness6 (enc := enc) (C := Try.checked) false ⟨#[], #[.slice none 0 0, .int .i64 0, .slice none 0 0, .int .i64 0], []⟩ 8 (by kernel_rfl) (by kernel_rfl) (by kernel_rfl) (by kernel_rfl)) ?_
  intro W base args ds gs before hval0 hW _ _
  have hval : ∀ (j : Nat) t v, Try.f7.params[j]? = some t → args[j]? = some v → Value.okWide Try.prog W .any base t v := hval0
  have hW' := hW
  obtain ⟨p, q, hA0, hV, rfl, hfz, hnd⟩ := hW
  have hA : DataW.TrodAll enc Try.prog W 0 (fun _ => true) true Try.f7.params.toList args.toList ds p := hA0
  rw [Try.params7] at hA hval
  obtain ⟨v0, vs0, d0, ds0, p0, q0, hargs, rfl, rfl, h0, r0⟩ := trodAll_cons hA
  obtain ⟨v1, vs1, d1, ds1, p1, q1, rfl, rfl, rfl, h1, r1⟩ := trodAll_cons r0
  obtain ⟨v2, vs2, d2, ds2, p2, q2, rfl, rfl, rfl, h2, r2⟩ := trodAll_cons r1
  obtain ⟨v3, vs3, d3, ds3, p3, q3, rfl, rfl, rfl, h3, r3⟩ := trodAll_cons r2
  obtain ⟨rfl, rfl, rfl⟩ := trodAll_nil r3
  obtain rfl : args = #[v0, v1, v2, v3] := by cases args; simp_all
  obtain ⟨rfl, rfl⟩ := trodVars_none hV
  obtain ⟨a0, len0, cap0, rfl⟩ := okWide_slice Try.underlying22 (hval 0 22 v0 rfl rfl)
  have k0 := h0
  have lt0 : ∀ x ∈ p0, x.block < W.heap.size := by obtain ⟨m, hm⟩ := k0; exact DataW.trod_lt m _ _ _ hm
  obtain ⟨l0, rfl, hl0, hrd0⟩ := open_nums Try.underlying22 Try.underlying3 (by kernel_rfl) h0
  obtain ⟨i1, rfl, rfl, rfl, wi1⟩ := open_int Try.underlying3 (hval 1 3 v1 rfl rfl) h1
  obtain ⟨a2, len2, cap2, rfl⟩ := okWide_slice Try.underlying22 (hval 2 22 v2 rfl rfl)
  have k2 := h2
  have lt2 : ∀ x ∈ p2, x.block < W.heap.size := by obtain ⟨m, hm⟩ := k2; exact DataW.trod_lt m _ _ _ hm
  obtain ⟨l2, rfl, hl2, hrd2⟩ := open_nums Try.underlying22 Try.underlying3 (by kernel_rfl) h2
  obtain ⟨i3, rfl, rfl, rfl, wi3⟩ := open_int Try.underlying3 (hval 3 3 v3 rfl rfl) h3
  clear hA0 hval0
  refine (walk0 a0 cap0 l0 i1 a2 cap2 l2 i3 W _ (Lib.hid rfl) (by have := rbQ_len l0 i1 l2 i3; omega) hrd0 hl0 hrd2 hl2).mono fun e W' ⟨he, bel⟩ => ?_
  subst he
  exact ⟨_, rfl, _, _, _, [], _, [], hW', trodAll_mk1 (shut_bool Try.underlying4 _), (trodAll_cons_mk (Below.trod laidOut (by kernel_rfl) (of_decide_eq_true (by kernel_rfl)) k0 bel lt0) (trodAll_cons_mk (shut_int Try.underlying3 wi1) (trodAll_cons_mk (Below.trod laidOut (by kernel_rfl) (of_decide_eq_true (by kernel_rfl)) k2 bel lt2) (trodAll_cons_mk (shut_int Try.underlying3 wi3) trodAll_mk0)))), rfl, bel.frame _, fun h => by cases h⟩

theorem fnExactReadBy_holds : Rows.FnExactReadBySaid :=
  OpenClaim.holds_of_wide 7 Try.f7 rfl rfl rfl rfl rfl rfl rfl ⟨rfl, rfl, rfl, rfl, rfl⟩ rfl rfl rfl rfl rfl (by kernel_rfl) Try.func7 (by kernel_rfl)
    (of_decide_eq_true (by kernel_rfl)) (by unfold Func.isWrapper; rw [if_neg (of_decide_eq_false (by kernel_rfl))]; exact ⟨rfl, rfl⟩)
    (fun os started H enc _ => lifted os started H enc)

end Go.Proofs.Ytjkieedomljelaa.LawRB
