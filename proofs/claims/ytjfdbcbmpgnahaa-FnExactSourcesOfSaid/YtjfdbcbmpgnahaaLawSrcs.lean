/- The law FnExactSourcesOf returns true for every input, and its arguments read afterwards as before. Conditions: none. -/
import Derived.Test.YtjfdbcbmpgnahaaRows
import Derived.Test.YtjfdbcbmpgnahaaSrcsI
import Derived.Test.YtjfdbcbmpgnahaaHld
import Derived.Test.YtjfdbcbmpgnahaaNodeE
import Derived.Test.YtjfdbcbmpgnahaaOpenN
import Derived.Deep.RegionHeld3
import Derived.Deep.CutRange
import Derived.Deep.DeepMust
namespace Go.Proofs.Ytjfdbcbmpgnahaa.LawSrcs
open Go.ChangeShapes Go.WideShapes Go.ChangeAt Go.RowKit Go.Deep

theorem own : ownKnob Try.prog.godebug = none := by kernel_rfl
theorem laidOut : laidOutB Try.prog = true := by kernel_rfl

set_option maxRecDepth 100000 in
set_option maxHeartbeats 12800000 in
theorem walk0 (A0 : Option Addr) (c0 : Nat) (l0 : List Nd) (w : World) (q : List Int) (hq : Hid (SrcsOf l0 q)) (hqn : q.length ≤ 1048576) (hr0 : RdN w w.heap.size A0 l0) (hn0 : l0.length ≤ maxLen) :
    Calls Try.prog 5 #[.agg #[.slice A0 l0.length c0]] w fun e w' => e = .returned (.bool true) ∧ Below w.heap.size w w' := by
  obtain ⟨W0, hW0⟩ : ∃ W0 : World, W0 = w.alloc (.cells #[.slice A0 l0.length c0] 24) := ⟨_, rfl⟩
  have hb0 : Below w.heap.size w W0 := by rw [hW0]; exact (Below.refl w.heap.size w).alloc (by first | exact Nat.le_refl _ | (simp; done) | (simp; omega)) _
  have hx0 : Bk W0 w.heap.size 24 [.slice A0 l0.length c0] := by
    rw [hW0]
    skip
    have := Bk.new w 24 [.slice A0 l0.length c0]
    exact this
  have Hab0 := Lib.hid hx0.held
  have Ha0 : Hid (Held W0 0 w.heap.size (fun v => RdN v w.heap.size A0 l0)) := Lib.hid ((hr0.held (Nat.le_refl _)).below hb0 (Nat.le_refl _))
  have hz_W0 : w.heap.size + 1 ≤ W0.heap.size := by rw [hW0]; simp
  have Hb := Lib.hid hb0
  have HW0 := Lib.hid hW0
  clear hb0 hW0 hx0 hr0 
  go_enter Try.func5, Try.ntmps5
  go_wp2_with fail
  rw [← HW0.out]
  refine (szPipe_any _ _ _ _ _ (by omega) (by omega) hn0).mono ?_
  rintro e w1 ⟨rfl, hb1⟩
  have hz_w1 : W0.heap.size ≤ w1.heap.size := hb1.size
  replace Hb := Lib.hid (Hb.out.trans (hb1.mono Hb.out.size))
  replace Hab0 := Lib.hid (Hab0.out.below hb1 Hab0.out.top)
  replace Ha0 := Lib.hid (Ha0.out.below hb1 Ha0.out.top)
  clear hb1
  by_cases hlt0 : (1048576 : Int) < (l0.length : Int)
  · rw [szLeft_no hlt0]
    clear hlt0
    go_wp2_with fail
    go_ret
    exact ⟨rfl, Hb.out⟩
  rw [szLeft_yes hlt0]
  have hleft0 : (0 : Int) ≤ 1048576 - (l0.length : Int) := by omega
  have hs0 : l0.length ≤ 1048576 := by omega
  clear hlt0
  have cb_Hab0 : w1.cell? ⟨w.heap.size, 0, none⟩ = some (.slice A0 l0.length c0) := Hab0.out.out.cell 0
  have lb_Hab0 : w.heap.size < w1.heap.size := by have := Hab0.out.top; omega
  go_wp2_with fail
  refine (toPipe_any A0 c0 l0 _ w.heap.size Ha0.out.out Hb.out.size hs0).mono ?_
  rintro e w2 ⟨g2, rfl, hg2, hk2, hb2⟩
  have ho2 : OwnP w2 w1.heap.size w2.heap.size (some ⟨g2, 0, none⟩) l0.length l0 := OwnP.of (hk2.own (base := w1.heap.size) (by first | exact hg2 | omega) hs0) (Nat.le_refl _)
  have Ht0 : Hid (Held w2 w1.heap.size w2.heap.size (fun v => OwnP v w1.heap.size w2.heap.size (some ⟨g2, 0, none⟩) l0.length l0)) := Lib.hid (ho2.held hb2.size (Nat.le_refl _))
  clear cb_Hab0 lb_Hab0
  have hz_w2 : w1.heap.size ≤ w2.heap.size := hb2.size
  replace Hb := Lib.hid (Hb.out.trans (hb2.mono Hb.out.size))
  replace Hab0 := Lib.hid (Hab0.out.below hb2 Hab0.out.top)
  replace Ha0 := Lib.hid (Ha0.out.below hb2 Ha0.out.top)
  clear ho2 hb2 hk2 hg2
  go_wp2_with fail
  refine (specSourcesOf_any _ _ l0 _ w2.heap.size q hq (Ht0.out.out.rdt Ht0.out.top) (Nat.le_refl _) hs0).mono ?_
  rintro e w3 ⟨AHw, cHw, rfl, ho3, hb3⟩
  have Hw : Hid (Held w3 w2.heap.size w3.heap.size (fun v => OwnI v w2.heap.size w3.heap.size AHw q)) := Lib.hid ((ho3 : OwnI w3 w2.heap.size w3.heap.size AHw q).held hb3.size (Nat.le_refl _))
  have hz_w3 : w2.heap.size ≤ w3.heap.size := hb3.size
  replace Hb := Lib.hid (Hb.out.trans (hb3.mono Hb.out.size))
  replace Hab0 := Lib.hid (Hab0.out.below hb3 Hab0.out.top)
  replace Ha0 := Lib.hid (Ha0.out.below hb3 Ha0.out.top)
  replace Ht0 := Lib.hid (Ht0.out.below hb3 Ht0.out.top)
  clear ho3 hb3
  have cb_Hab0 : w3.cell? ⟨w.heap.size, 0, none⟩ = some (.slice A0 l0.length c0) := Hab0.out.out.cell 0
  have lb_Hab0 : w.heap.size < w3.heap.size := by have := Hab0.out.top; omega
  go_wp2_with fail
  refine (toPipe_any A0 c0 l0 _ w.heap.size Ha0.out.out Hb.out.size hs0).mono ?_
  rintro e w4 ⟨g4, rfl, hg4, hk4, hb4⟩
  have ho4 : OwnP w4 w3.heap.size w4.heap.size (some ⟨g4, 0, none⟩) l0.length l0 := OwnP.of (hk4.own (base := w3.heap.size) (by first | exact hg4 | omega) hs0) (Nat.le_refl _)
  have Hx0 : Hid (Held w4 w3.heap.size w4.heap.size (fun v => OwnP v w3.heap.size w4.heap.size (some ⟨g4, 0, none⟩) l0.length l0)) := Lib.hid (ho4.held hb4.size (Nat.le_refl _))
  clear cb_Hab0 lb_Hab0
  have hz_w4 : w3.heap.size ≤ w4.heap.size := hb4.size
  replace Hb := Lib.hid (Hb.out.trans (hb4.mono Hb.out.size))
  replace Hab0 := Lib.hid (Hab0.out.below hb4 Hab0.out.top)
  replace Ha0 := Lib.hid (Ha0.out.below hb4 Ha0.out.top)
  replace Hw := Lib.hid (Hw.out.below hb4 Hw.out.top)
  clear ho4 hb4 hk4 hg4
  obtain ⟨Vw4, hVw4⟩ : ∃ W : World, W = w4.alloc (.cells #[.slice (some ⟨g4, 0, none⟩) l0.length l0.length] 32) := ⟨_, rfl⟩
  have hbVw4 : Below w4.heap.size w4 Vw4 := by rw [hVw4]; exact (Below.refl _ _).alloc (Nat.le_refl _) _
  have Hxb0 : Hid (Held Vw4 w4.heap.size (w4.heap.size + 1) (fun v => Bk v w4.heap.size 32 [.slice (some ⟨g4, 0, none⟩) l0.length l0.length])) := Lib.hid (by rw [hVw4]; exact (Bk.new _ _ [_]).held)
  have ht_Hxb0 : w4.heap.size + 1 ≤ Vw4.heap.size := Hxb0.out.top
  have hz_Vw4 : w4.heap.size ≤ Vw4.heap.size := hbVw4.size
  replace Hb := Lib.hid (Hb.out.trans (hbVw4.mono Hb.out.size))
  replace Hab0 := Lib.hid (Hab0.out.below hbVw4 Hab0.out.top)
  replace Ha0 := Lib.hid (Ha0.out.below hbVw4 Ha0.out.top)
  replace Hw := Lib.hid (Hw.out.below hbVw4 Hw.out.top)
  replace Hx0 := Lib.hid (Hx0.out.below hbVw4 Hx0.out.top)
  have HVw4 := Lib.hid hVw4
  clear hVw4 hbVw4
  go_wp2_with fail
  rw [← HVw4.out]
  refine (implSourcesOf_any _ _ l0 _ Vw4.heap.size q hq (Hx0.out.out.rdt Hx0.out.top) (Nat.le_refl _) hs0).mono ?_
  rintro e w5 ⟨AHg, cHg, rfl, ho5, hb5⟩
  have Hg : Hid (Held w5 Vw4.heap.size w5.heap.size (fun v => OwnI v Vw4.heap.size w5.heap.size AHg q)) := Lib.hid ((ho5 : OwnI w5 Vw4.heap.size w5.heap.size AHg q).held hb5.size (Nat.le_refl _))
  have hz_w5 : Vw4.heap.size ≤ w5.heap.size := hb5.size
  replace Hb := Lib.hid (Hb.out.trans (hb5.mono Hb.out.size))
  replace Hab0 := Lib.hid (Hab0.out.below hb5 Hab0.out.top)
  replace Ha0 := Lib.hid (Ha0.out.below hb5 Ha0.out.top)
  replace Hw := Lib.hid (Hw.out.below hb5 Hw.out.top)
  replace Hx0 := Lib.hid (Hx0.out.below hb5 Hx0.out.top)
  replace Hxb0 := Lib.hid (Hxb0.out.below hb5 Hxb0.out.top)
  clear ho5 hb5
  go_wp2_with fail
  refine (eqIntS_any _ _ _ _ q q _ w5.heap.size (Hg.out.out.rdt Hg.out.top) (Hw.out.out.rdt Hw.out.top) hqn).mono ?_
  rintro e w6 ⟨rfl, hsm6⟩
  have hb6 := hsm6.below w5.heap.size
  rw [decide_eq_true rfl]
  have hz_w6 : w5.heap.size ≤ w6.heap.size := hb6.size
  replace Hb := Lib.hid (Hb.out.trans (hb6.mono Hb.out.size))
  replace Hab0 := Lib.hid (Hab0.out.below hb6 Hab0.out.top)
  replace Ha0 := Lib.hid (Ha0.out.below hb6 Ha0.out.top)
  replace Hw := Lib.hid (Hw.out.below hb6 Hw.out.top)
  replace Hx0 := Lib.hid (Hx0.out.below hb6 Hx0.out.top)
  replace Hxb0 := Lib.hid (Hxb0.out.below hb6 Hxb0.out.top)
  replace Hg := Lib.hid (Hg.out.below hb6 Hg.out.top)
  clear hb6 hsm6
  have cb_Hab0 : w6.cell? ⟨w.heap.size, 0, none⟩ = some (.slice A0 l0.length c0) := Hab0.out.out.cell 0
  have lb_Hab0 : w.heap.size < w6.heap.size := by have := Hab0.out.top; omega
  have cb_Hxb0 : w6.cell? ⟨w4.heap.size, 0, none⟩ = some (.slice (some ⟨g4, 0, none⟩) l0.length l0.length) := Hxb0.out.out.cell 0
  have lb_Hxb0 : w4.heap.size < w6.heap.size := by have := Hxb0.out.top; omega
  have HS : Hid (∀ W' : World, Below w6.heap.size w6 W' → W'.cell? ⟨w4.heap.size, 0, none⟩ = some (.slice (some ⟨g4, 0, none⟩) l0.length l0.length) ∧ W'.cell? ⟨w.heap.size, 0, none⟩ = some (.slice A0 l0.length c0)) := Lib.hid (fun W' hb => ⟨(Hxb0.out.below hb Hxb0.out.top).out.cell 0, (Hab0.out.below hb Hab0.out.top).out.cell 0⟩)
  go_wp2_with fail
  go_region_held3 (fun w' => w'.cell? ⟨w4.heap.size, 0, none⟩ = some (.slice (some ⟨g4, 0, none⟩) l0.length l0.length) ∧ w'.cell? ⟨w.heap.size, 0, none⟩ = some (.slice A0 l0.length c0))
    (go_keep)
    (first
        | (
          go_at_call 17
          refine (toPipe_any A0 c0 l0 _ w.heap.size (Ha0.out.drewN 1).out (by first | omega | (simp; omega)) hs0).mono ?_
          rintro e w7 ⟨g7, rfl, hg7, hk7, hb7z⟩
          have hb7 : Below w6.heap.size w6 w7 := ((Below.refl w6.heap.size w6).drew).trans (hb7z.mono (by simp))
          have ks7 := HS.out _ hb7
          have ho7 : OwnP w7 w6.heap.size w7.heap.size (some ⟨g7, 0, none⟩) l0.length l0 := OwnP.of (hk7.own (base := w6.heap.size) (by first | exact hg7 | omega) hs0) (Nat.le_refl _)
          have Hc0 : Hid (Held w7 w6.heap.size w7.heap.size (fun v => OwnP v w6.heap.size w7.heap.size (some ⟨g7, 0, none⟩) l0.length l0)) := Lib.hid (ho7.held hb7.size (Nat.le_refl _))
          have hz_w7 : w6.heap.size ≤ w7.heap.size := hb7.size
          replace Hb := Lib.hid (Hb.out.trans (hb7.mono Hb.out.size))
          replace Hab0 := Lib.hid (Hab0.out.below hb7 Hab0.out.top)
          replace Ha0 := Lib.hid (Ha0.out.below hb7 Ha0.out.top)
          replace Hw := Lib.hid (Hw.out.below hb7 Hw.out.top)
          replace Hx0 := Lib.hid (Hx0.out.below hb7 Hx0.out.top)
          replace Hxb0 := Lib.hid (Hxb0.out.below hb7 Hxb0.out.top)
          replace Hg := Lib.hid (Hg.out.below hb7 Hg.out.top)
          clear ho7 hb7 hk7 hg7 hb7z)
        | (
          go_at_call 21
          refine (eqPipe_any _ _ _ _ l0 l0 _ w7.heap.size (Hx0.out.out.rdt Hx0.out.top) (Hc0.out.out.rdt Hc0.out.top) (Nat.le_refl _) hs0).mono ?_
          rintro e w8 ⟨rfl, hb8⟩
          rw [decide_eq_true rfl]
          have ks8 : w8.cell? ⟨w4.heap.size, 0, none⟩ = some (.slice (some ⟨g4, 0, none⟩) l0.length l0.length) ∧ w8.cell? ⟨w.heap.size, 0, none⟩ = some (.slice A0 l0.length c0) := ⟨(Hxb0.out.below hb8 Hxb0.out.top).out.cell 0, (Hab0.out.below hb8 Hab0.out.top).out.cell 0⟩
          have hz_w8 : w7.heap.size ≤ w8.heap.size := hb8.size
          replace Hb := Lib.hid (Hb.out.trans (hb8.mono Hb.out.size))
          replace Hab0 := Lib.hid (Hab0.out.below hb8 Hab0.out.top)
          replace Ha0 := Lib.hid (Ha0.out.below hb8 Ha0.out.top)
          replace Hw := Lib.hid (Hw.out.below hb8 Hw.out.top)
          replace Hx0 := Lib.hid (Hx0.out.below hb8 Hx0.out.top)
          replace Hxb0 := Lib.hid (Hxb0.out.below hb8 Hxb0.out.top)
          replace Hg := Lib.hid (Hg.out.below hb8 Hg.out.top)
          replace Hc0 := Lib.hid (Hc0.out.below hb8 Hc0.out.top)
          clear hb8))
  clear HS ks7 ks8 cb_Hab0 lb_Hab0 cb_Hxb0 lb_Hxb0 Hc0
  have cb_Hxb0 : w8.cell? ⟨w4.heap.size, 0, none⟩ = some (.slice (some ⟨g4, 0, none⟩) l0.length l0.length) := Hxb0.out.out.cell 0
  have lb_Hxb0 : w4.heap.size < w8.heap.size := by have := Hxb0.out.top; omega
  go_wp2_with fail
  refine (markPipe_h (1) Hx0.out.out hs0 (by omega) (by omega)).mono ?_
  rintro e w9 ⟨rfl, -, hc9⟩
  clear cb_Hxb0 lb_Hxb0
  have hz_w9 : w8.heap.size ≤ w9.heap.size := hc9.size
  replace Hb := Lib.hid (hc9.below_ Hb.out (by omega) Hb.out.size)
  replace Hab0 := Lib.hid (Hab0.out.chg hc9 (by omega))
  replace Ha0 := Lib.hid (Ha0.out.chg hc9 (by omega))
  replace Hw := Lib.hid (Hw.out.chg hc9 (by omega))
  replace Hxb0 := Lib.hid (Hxb0.out.chg hc9 (by omega))
  replace Hg := Lib.hid (Hg.out.chg hc9 (by omega))
  clear hc9 Hx0
  have hpos0 : (0 : Int) ≤ 1 + 5 * l0.length := by omega
  go_wp2_with fail
  refine (eqIntS_any _ _ _ _ q q _ w9.heap.size (Hg.out.out.rdt Hg.out.top) (Hw.out.out.rdt Hw.out.top) hqn).mono ?_
  rintro e w10 ⟨rfl, hsm10⟩
  have hb10 := hsm10.below w9.heap.size
  rw [decide_eq_true rfl]
  have hz_w10 : w9.heap.size ≤ w10.heap.size := hb10.size
  replace Hb := Lib.hid (Hb.out.trans (hb10.mono Hb.out.size))
  replace Hab0 := Lib.hid (Hab0.out.below hb10 Hab0.out.top)
  replace Ha0 := Lib.hid (Ha0.out.below hb10 Ha0.out.top)
  replace Hw := Lib.hid (Hw.out.below hb10 Hw.out.top)
  replace Hxb0 := Lib.hid (Hxb0.out.below hb10 Hxb0.out.top)
  replace Hg := Lib.hid (Hg.out.below hb10 Hg.out.top)
  clear hb10 hsm10
  go_wp2_with fail
  refine (markIntS_h 1 Hg.out.out hqn (by decide) (by decide)).mono ?_
  rintro e w11 ⟨rfl, ho11, hc11⟩
  have hle_g : Vw4.heap.size ≤ w5.heap.size := Hg.out.le
  have htop_g : w5.heap.size ≤ w11.heap.size := Nat.le_trans Hg.out.top hc11.size
  have Hgm : Hid (Held w11 Vw4.heap.size w5.heap.size (fun v => OwnI v Vw4.heap.size w5.heap.size AHg (mkI q.length 1))) := Lib.hid (ho11.held hle_g htop_g)
  have hz_w11 : w10.heap.size ≤ w11.heap.size := hc11.size
  replace Hb := Lib.hid (hc11.below_ Hb.out (by omega) Hb.out.size)
  replace Hab0 := Lib.hid (Hab0.out.chg hc11 (by omega))
  replace Ha0 := Lib.hid (Ha0.out.chg hc11 (by omega))
  replace Hw := Lib.hid (Hw.out.chg hc11 (by omega))
  replace Hxb0 := Lib.hid (Hxb0.out.chg hc11 (by omega))
  clear hc11 ho11 Hg
  have hposq : (0 : Int) ≤ 1 + q.length := by omega
  go_wp2_with fail
  refine (heldIntS_any _ _ q.length 1 _ w11.heap.size (Hgm.out.out.rdt Hgm.out.top) hqn (by decide) (by decide)).mono ?_
  rintro e w12 ⟨rfl, rfl⟩
  have cb_Hab0 : w11.cell? ⟨w.heap.size, 0, none⟩ = some (.slice A0 l0.length c0) := Hab0.out.out.cell 0
  have lb_Hab0 : w.heap.size < w11.heap.size := by have := Hab0.out.top; omega
  go_wp2_with fail
  refine (toPipe_any A0 c0 l0 _ w.heap.size Ha0.out.out Hb.out.size hs0).mono ?_
  rintro e w13 ⟨g13, rfl, hg13, hk13, hb13⟩
  have ho13 : OwnP w13 w11.heap.size w13.heap.size (some ⟨g13, 0, none⟩) l0.length l0 := OwnP.of (hk13.own (base := w11.heap.size) (by first | exact hg13 | omega) hs0) (Nat.le_refl _)
  have Hu0 : Hid (Held w13 w11.heap.size w13.heap.size (fun v => OwnP v w11.heap.size w13.heap.size (some ⟨g13, 0, none⟩) l0.length l0)) := Lib.hid (ho13.held hb13.size (Nat.le_refl _))
  clear cb_Hab0 lb_Hab0
  have hz_w13 : w11.heap.size ≤ w13.heap.size := hb13.size
  replace Hb := Lib.hid (Hb.out.trans (hb13.mono Hb.out.size))
  replace Hab0 := Lib.hid (Hab0.out.below hb13 Hab0.out.top)
  replace Ha0 := Lib.hid (Ha0.out.below hb13 Ha0.out.top)
  replace Hw := Lib.hid (Hw.out.below hb13 Hw.out.top)
  replace Hxb0 := Lib.hid (Hxb0.out.below hb13 Hxb0.out.top)
  replace Hgm := Lib.hid (Hgm.out.below hb13 Hgm.out.top)
  clear ho13 hb13 hk13 hg13
  go_wp2_with fail
  refine (implSourcesOf_any _ _ l0 _ w13.heap.size q hq (Hu0.out.out.rdt Hu0.out.top) (Nat.le_refl _) hs0).mono ?_
  rintro e w14 ⟨AHh, cHh, rfl, ho14, hb14⟩
  have Hh : Hid (Held w14 w13.heap.size w14.heap.size (fun v => OwnI v w13.heap.size w14.heap.size AHh q)) := Lib.hid ((ho14 : OwnI w14 w13.heap.size w14.heap.size AHh q).held hb14.size (Nat.le_refl _))
  have hz_w14 : w13.heap.size ≤ w14.heap.size := hb14.size
  replace Hb := Lib.hid (Hb.out.trans (hb14.mono Hb.out.size))
  replace Hab0 := Lib.hid (Hab0.out.below hb14 Hab0.out.top)
  replace Ha0 := Lib.hid (Ha0.out.below hb14 Ha0.out.top)
  replace Hw := Lib.hid (Hw.out.below hb14 Hw.out.top)
  replace Hxb0 := Lib.hid (Hxb0.out.below hb14 Hxb0.out.top)
  replace Hgm := Lib.hid (Hgm.out.below hb14 Hgm.out.top)
  replace Hu0 := Lib.hid (Hu0.out.below hb14 Hu0.out.top)
  clear ho14 hb14
  go_wp2_with fail
  refine (eqIntS_any _ _ _ _ q q _ w14.heap.size (Hh.out.out.rdt Hh.out.top) (Hw.out.out.rdt Hw.out.top) hqn).mono ?_
  rintro e w15 ⟨rfl, hsm15⟩
  have hb15 := hsm15.below w14.heap.size
  rw [decide_eq_true rfl]
  have hz_w15 : w14.heap.size ≤ w15.heap.size := hb15.size
  replace Hb := Lib.hid (Hb.out.trans (hb15.mono Hb.out.size))
  replace Hab0 := Lib.hid (Hab0.out.below hb15 Hab0.out.top)
  replace Ha0 := Lib.hid (Ha0.out.below hb15 Ha0.out.top)
  replace Hw := Lib.hid (Hw.out.below hb15 Hw.out.top)
  replace Hxb0 := Lib.hid (Hxb0.out.below hb15 Hxb0.out.top)
  replace Hgm := Lib.hid (Hgm.out.below hb15 Hgm.out.top)
  replace Hh := Lib.hid (Hh.out.below hb15 Hh.out.top)
  clear hb15 hsm15
  go_wp2_with fail
  refine (heldIntS_any _ _ q.length 1 _ w15.heap.size (Hgm.out.out.rdt Hgm.out.top) hqn (by decide) (by decide)).mono ?_
  rintro e w16 ⟨rfl, rfl⟩
  go_wp2_with fail
  go_ret
  exact ⟨rfl, Hb.out⟩

theorem walk (A0 : Option Addr) (c0 : Nat) (l0 : List Nd) (w : World) (hr0 : RdN w w.heap.size A0 l0) (hn0 : l0.length ≤ maxLen) :
    Calls Try.prog 5 #[.agg #[.slice A0 l0.length c0]] w fun e w' => e = .returned (.bool true) ∧ Below w.heap.size w w' := by
  cases hv : pipeOk l0
  · exact walk0 A0 c0 l0 w [] ⟨fun _ => rfl, fun h => absurd (hv.symm.trans h) (by decide)⟩ (by simp) hr0 hn0
  · refine walk0 A0 c0 l0 w (srcs l0 3) ⟨fun h => absurd (hv.symm.trans h) (by decide), fun _ => rfl⟩ ?_ hr0 hn0
    have := srcs_len l0 3
    omega


set_option maxRecDepth 100000 in
theorem lifted (os : Os) (started : os.Started) (H : Type) (enc : TypeId × Value → H) :
    ReturnsInHanded {} Try.checked os 5 .any (Rows.fnExactSourcesOfSpec.pre6 enc Try.prog Try.f5 Rows.fnExactSourcesOfRow.domain false) (Rows.fnExactSourcesOfSpec.post enc Try.prog Try.f5 false true false false) := by
  refine returnsInHanded_of_change (C := Try.checked) own started (by kernel_rfl) Try.func5
    (ChangeSpec.witness6 (enc := enc) (C := Try.checked) false ⟨#[], #[.agg #[.slice none 0 0]], []⟩ 8 (by kernel_rfl) (by kernel_rfl) (by kernel_rfl) (by kernel_rfl)) ?_
  intro W base args ds gs before hval0 hW _ _
  have hval : ∀ (j : Nat) t v, Try.f5.params[j]? = some t → args[j]? = some v → Value.okWide Try.prog W .any base t v := hval0
  have hW' := hW
  obtain ⟨p, q, hA0, hV, rfl, hfz, hnd⟩ := hW
  have hA : DataW.TrodAll enc Try.prog W 0 (fun _ => true) true Try.f5.params.toList args.toList ds p := hA0
  rw [Try.params5] at hA hval
  obtain ⟨v0, vs0, d0, ds0, p0, q0, hargs, rfl, rfl, h0, r0⟩ := trodAll_cons hA
  obtain ⟨rfl, rfl, rfl⟩ := trodAll_nil r0
  obtain rfl : args = #[v0] := by cases args; simp_all
  obtain ⟨rfl, rfl⟩ := trodVars_none hV
  have k0 := h0
  have lt0 : ∀ x ∈ p0, x.block < W.heap.size := by obtain ⟨m, hm⟩ := k0; exact DataW.trod_lt m _ _ _ hm
  obtain ⟨A0, len0, cap0, l0, rfl, rfl, hl0, hrd0⟩ := open_pipe Try.underlying24 (by kernel_rfl) rfl (by kernel_rfl) Try.underlying22 Try.underlying114 rfl (by kernel_rfl) (by kernel_rfl) Try.underlying3 (by kernel_rfl) (hval 0 24 v0 rfl rfl) h0
  clear hA0 hval0
  refine (walk A0 cap0 l0 W hrd0 hl0).mono fun e W' ⟨he, bel⟩ => ?_
  subst he
  exact ⟨_, rfl, _, _, _, [], _, [], hW', trodAll_mk1 (shut_bool Try.underlying4 _), (trodAll_cons_mk (Below.trod laidOut (by kernel_rfl) (of_decide_eq_true (by kernel_rfl)) k0 bel lt0) trodAll_mk0), rfl, bel.frame _, fun h => by cases h⟩

theorem fnExactSourcesOf_holds : Rows.FnExactSourcesOfSaid :=
  OpenClaim.holds_of_wide 5 Try.f5 rfl rfl rfl rfl rfl rfl rfl ⟨rfl, rfl, rfl, rfl, rfl⟩ rfl rfl rfl rfl rfl (by kernel_rfl) Try.func5 (by kernel_rfl)
    (of_decide_eq_true (by kernel_rfl)) (by unfold Func.isWrapper; rw [if_neg (of_decide_eq_false (by kernel_rfl))]; exact ⟨rfl, rfl⟩)
    (fun os started H enc _ => lifted os started H enc)

end Go.Proofs.Ytjfdbcbmpgnahaa.LawSrcs
