/- The law FnExactJoinPipes returns true for every input, and its arguments read afterwards as before. Conditions: none. -/
import Derived.Test.YtkjhncohanfciaaRows
import Derived.Test.YtkjhncohanfciaaJoinI
import Derived.Test.YtkjhncohanfciaaHld
import Derived.Test.YtkjhncohanfciaaCutP
import Derived.Test.YtkjhncohanfciaaNodeE
import Derived.Test.YtkjhncohanfciaaOpenN
import Derived.Deep.RegionHeld3
import Derived.Deep.CutRange
import Derived.Deep.DeepMust
namespace Go.Proofs.Ytkjhncohanfciaa.LawJoin
open Go.ChangeShapes Go.WideShapes Go.ChangeAt Go.RowKit Go.Deep

theorem own : ownKnob Try.prog.godebug = none := by kernel_rfl
theorem laidOut : laidOutB Try.prog = true := by kernel_rfl

set_option maxRecDepth 100000 in
set_option maxHeartbeats 12800000 in
theorem walk0 (A0 : Option Addr) (c0 : Nat) (l0 : List Nd) (A1 : Option Addr) (c1 : Nat) (l1 : List Nd) (i2 : Int) (w : World) (q : List Nd) (ok : Bool) (hq : Hid (JoinOf l0 l1 i2 q ok)) (hqn : q.length ≤ 1048576) (hr0 : RdN w w.heap.size A0 l0) (hn0 : l0.length ≤ maxLen) (hr1 : RdN w w.heap.size A1 l1) (hn1 : l1.length ≤ maxLen) :
    Calls Try.prog 8 #[.agg #[.slice A0 l0.length c0], .agg #[.slice A1 l1.length c1], .int .i64 i2] w fun e w' => e = .returned (.bool true) ∧ Below w.heap.size w w' := by
  obtain ⟨W0, hW0⟩ : ∃ W0 : World, W0 = (w.alloc (.cells #[.slice A0 l0.length c0] 24)).alloc (.cells #[.slice A1 l1.length c1] 24) := ⟨_, rfl⟩
  have hb0 : Below w.heap.size w W0 := by rw [hW0]; exact ((Below.refl w.heap.size w).alloc (by first | exact Nat.le_refl _ | (simp; done) | (simp; omega)) _).alloc (by first | exact Nat.le_refl _ | (simp; done) | (simp; omega)) _
  have hx0 : Bk W0 w.heap.size 24 [.slice A0 l0.length c0] := by
    rw [hW0]
    skip
    have := Bk.new w 24 [.slice A0 l0.length c0]
    exact (this.alloc _)
  have Hab0 := Lib.hid hx0.held
  have hx1 : Bk W0 (w.heap.size + 1) 24 [.slice A1 l1.length c1] := by
    rw [hW0]
    have hs : (w.alloc (.cells #[.slice A0 l0.length c0] 24)).heap.size = (w.heap.size + 1) := by simp
    have := Bk.new (w.alloc (.cells #[.slice A0 l0.length c0] 24)) 24 [.slice A1 l1.length c1]
    rw [hs] at this
    exact this
  have Hab1 := Lib.hid hx1.held
  have Ha0 : Hid (Held W0 0 w.heap.size (fun v => RdN v w.heap.size A0 l0)) := Lib.hid ((hr0.held (Nat.le_refl _)).below hb0 (Nat.le_refl _))
  have Ha1 : Hid (Held W0 0 w.heap.size (fun v => RdN v w.heap.size A1 l1)) := Lib.hid ((hr1.held (Nat.le_refl _)).below hb0 (Nat.le_refl _))
  have hz_W0 : w.heap.size + 2 ≤ W0.heap.size := by rw [hW0]; simp
  have Hb := Lib.hid hb0
  have HW0 := Lib.hid hW0
  clear hb0 hW0 hx0 hx1 hr0 hr1 
  go_enter Try.func8, Try.ntmps8
  go_wp2_with fail
  rw [← HW0.out]
  refine (szPipe_any _ _ _ _ _ (by omega) (by omega) hn0).mono ?_
  rintro e w1 ⟨rfl, hb1⟩
  have hz_w1 : W0.heap.size ≤ w1.heap.size := hb1.size
  replace Hb := Lib.hid (Hb.out.trans (hb1.mono Hb.out.size))
  replace Hab0 := Lib.hid (Hab0.out.below hb1 Hab0.out.top)
  replace Hab1 := Lib.hid (Hab1.out.below hb1 Hab1.out.top)
  replace Ha0 := Lib.hid (Ha0.out.below hb1 Ha0.out.top)
  replace Ha1 := Lib.hid (Ha1.out.below hb1 Ha1.out.top)
  clear hb1
  by_cases hlt0 : (1048576 : Int) < (l0.length : Int)
  · rw [szLeft_no hlt0]
    clear hlt0
    go_wp2_with fail
    go_ret
    exact ⟨rfl, Hb.out⟩
  rw [szLeft_yes hlt0]
  have hleft0 : (0 : Int) ≤ 1048576 - (l0.length : Int) := by omega
  have hs0 : l0.length ≤ 1048576 := by omega
  clear hlt0
  have cb_Hab1 : w1.cell? ⟨w.heap.size + 1, 0, none⟩ = some (.slice A1 l1.length c1) := Hab1.out.out.cell 0
  have lb_Hab1 : w.heap.size + 1 < w1.heap.size := by have := Hab1.out.top; omega
  go_wp2_with fail
  refine (szPipe_any _ _ _ _ _ (by omega) (by omega) hn1).mono ?_
  rintro e w2 ⟨rfl, hb2⟩
  clear cb_Hab1 lb_Hab1
  have hz_w2 : w1.heap.size ≤ w2.heap.size := hb2.size
  replace Hb := Lib.hid (Hb.out.trans (hb2.mono Hb.out.size))
  replace Hab0 := Lib.hid (Hab0.out.below hb2 Hab0.out.top)
  replace Hab1 := Lib.hid (Hab1.out.below hb2 Hab1.out.top)
  replace Ha0 := Lib.hid (Ha0.out.below hb2 Ha0.out.top)
  replace Ha1 := Lib.hid (Ha1.out.below hb2 Ha1.out.top)
  clear hb2
  by_cases hlt1 : (1048576 - (l0.length : Int) : Int) < (l1.length : Int)
  · rw [szLeft_no hlt1]
    clear hlt1
    go_wp2_with fail
    go_ret
    exact ⟨rfl, Hb.out⟩
  rw [szLeft_yes hlt1]
  have hleft1 : (0 : Int) ≤ 1048576 - (l0.length : Int) - (l1.length : Int) := by omega
  have hs1 : l1.length ≤ 1048576 := by omega
  clear hlt1
  have cb_Hab0 : w2.cell? ⟨w.heap.size, 0, none⟩ = some (.slice A0 l0.length c0) := Hab0.out.out.cell 0
  have lb_Hab0 : w.heap.size < w2.heap.size := by have := Hab0.out.top; omega
  have cb_Hab1 : w2.cell? ⟨w.heap.size + 1, 0, none⟩ = some (.slice A1 l1.length c1) := Hab1.out.out.cell 0
  have lb_Hab1 : w.heap.size + 1 < w2.heap.size := by have := Hab1.out.top; omega
  have HS_Hw : Hid (∀ W' : World, Below w2.heap.size w2 W' → W'.cell? ⟨w.heap.size, 0, none⟩ = some (.slice A0 l0.length c0) ∧ W'.cell? ⟨w.heap.size + 1, 0, none⟩ = some (.slice A1 l1.length c1)) := Lib.hid (fun W' hb => ⟨(Hab0.out.below hb Hab0.out.top).out.cell 0, (Hab1.out.below hb Hab1.out.top).out.cell 0⟩)
  go_wp2_with fail
  go_cut [8, 9] from 29 to 37 (fun s8 s9 wx => ∃ bw Aw cw, s8 = .pointer (some ⟨bw, 0, none⟩) ∧ s9 = .bool ok ∧ CutP w2 wx bw Aw cw q)
  case first =>
    go_region_held3 (fun w' => w'.cell? ⟨w.heap.size, 0, none⟩ = some (.slice A0 l0.length c0) ∧ w'.cell? ⟨w.heap.size + 1, 0, none⟩ = some (.slice A1 l1.length c1))
      (go_keep)
      (first
        | (
          go_at_call 12
          refine (toPipe_any A0 c0 l0 _ w.heap.size (by first | exact (Ha0.out.drewN 1).out | exact ((Ha0.out.below ((Below.refl _ _).alloc (Nat.le_refl _) _) Ha0.out.top).drewN 1).out) (by first | omega | (simp; omega)) hs0).mono ?_
          rintro e x0Hw ⟨gx0Hw, rfl, hgx0Hw, hkx0Hw, hqx0Hw⟩
          have hbx0Hw : Below w2.heap.size w2 x0Hw := by first | exact ((Below.refl w2.heap.size w2).drew).trans (hqx0Hw.mono (by simp)) | exact (((Below.refl _ _).alloc (Nat.le_refl _) _).drew).trans (hqx0Hw.mono (by simp))
          have ksx0Hw := HS_Hw.out _ hbx0Hw
          have hzx0Hw := hbx0Hw.size
          first | have Qb := Lib.hid ((Bk.drew_ (Bk.new w2 32 [.slice none 0 0])).below hqx0Hw (by simp)) | skip)
        | (
          go_at_call 12
          refine (toPipe_any A1 c1 l1 _ w.heap.size (by first | exact (Ha1.out.below hbx0Hw Ha1.out.top).out | exact ((Ha1.out.below hbx0Hw Ha1.out.top).below ((Below.refl _ _).alloc (Nat.le_refl _) _) (Nat.le_trans Ha1.out.top hbx0Hw.size)).out) (by first | omega | (simp; omega)) hs1).mono ?_
          rintro e x1Hw ⟨gx1Hw, rfl, hgx1Hw, hkx1Hw, hqx1Hw⟩
          have hvx1Hw : Below x0Hw.heap.size x0Hw x1Hw := by first | exact hqx1Hw | exact ((Below.refl _ _).alloc (Nat.le_refl _) _).trans (hqx1Hw.mono (by simp))
          have hbx1Hw : Below w2.heap.size w2 x1Hw := hbx0Hw.trans (hvx1Hw.mono hzx0Hw)
          have ksx1Hw := HS_Hw.out _ hbx1Hw
          have hzx1Hw := hbx1Hw.size
          have hzzx1Hw := hvx1Hw.size
          first | have Qb := Lib.hid (Qb.out.below hqx1Hw Qb.out.lt) | have Qb := Lib.hid ((Bk.new x0Hw 32 [.slice none 0 0]).below hqx1Hw (by simp)) | skip
          have hkx0Hw := hkx0Hw.below hvx1Hw hkx0Hw.lt)
        | (
          go_at_call 31
          refine (specJoinPipes_any _ _ l0 _ _ l1 i2 _ x1Hw.heap.size q ok hq (by first | exact hkx0Hw.rdN hkx0Hw.lt | exact (hkx0Hw.alloc _).rdN hkx0Hw.lt) (by first | exact hkx1Hw.rdN hkx1Hw.lt | exact (hkx1Hw.alloc _).rdN hkx1Hw.lt) (by first | exact Nat.le_refl _ | (simp; done) | (simp; omega)) hs0 hs1).mono ?_
          rintro e yHw ⟨Aw, cw, rfl, ho0, hqyHw⟩
          have hvyHw : Below x1Hw.heap.size x1Hw yHw := by first | exact hqyHw | exact ((Below.refl _ _).alloc (Nat.le_refl _) _).trans (hqyHw.mono (by simp))
          have hbyHw : Below w2.heap.size w2 yHw := hbx1Hw.trans (hvyHw.mono hzx1Hw)
          have ho : OwnN yHw x1Hw.heap.size Aw cw q := ho0.base_ (by first | omega | simp)
          have ksyHw := HS_Hw.out _ hbyHw
          have hzyHw := hbyHw.size
          have hzzyHw := hvyHw.size
          first | have hql := Qb.out.lt | skip
          first | have hrow : ∀ g, rowOf Aw = some g → x1Hw.heap.size < g := (fun g hg => by (have h9 := (ho0.row_lt g hg).1; simp at h9; omega)) | have hrow : ∀ g, rowOf Aw = some g → x1Hw.heap.size ≤ g := (fun g hg => (ho0.row_lt g hg).1)
          first | have Qb := Lib.hid (Qb.out.below hqyHw Qb.out.lt) | have Qb := Lib.hid ((Bk.new x1Hw 32 [.slice none 0 0]).below hqyHw (by simp)) | skip
          first | have qc : yHw.cell? ⟨_, 0, none⟩ = some (.slice none 0 0) := Qb.out.cell 0 | skip
          first | have qf := Qb.out.free 0 | skip
          have e0 : w2.heap.size ≠ w.heap.size := by omega
          have e1 : x0Hw.heap.size ≠ w.heap.size := by omega
          have e2 : x1Hw.heap.size ≠ w.heap.size := by omega
          have e3 : w2.heap.size ≠ w.heap.size + 1 := by omega
          have e4 : x0Hw.heap.size ≠ w.heap.size + 1 := by omega
          have e5 : x1Hw.heap.size ≠ w.heap.size + 1 := by omega
          have Ho := Lib.hid ho
          have Hbw := Lib.hid hbyHw
          clear ho ho0 hbyHw hqyHw hvyHw))
    all_goals
      go_wp2_with fail
      go_meet
      first
      | exact ⟨_, Aw, cw, rfl, rfl, CutP.new Hbw.out Ho.out (by omega)⟩
      | exact ⟨_, Aw, cw, rfl, rfl, CutP.set Hbw.out Ho.out Qb.out (by omega) (by omega) (fun g hg => by have := hrow g hg; omega)⟩
  case rest =>
    obtain ⟨w3, rfl⟩ : ∃ W : World, W = wc := ⟨_, rfl⟩
    obtain ⟨bHw, AHw, cHw, rfl, rfl, hcp⟩ := hcut
    have hlo_Hw : w2.heap.size ≤ bHw := hcp.lo
    have hhi_Hw : bHw < w3.heap.size := hcp.box.lt
    have hb3 := hcp.bel
    have Hw : Hid (Held w3 w2.heap.size w3.heap.size (fun v => OwnP v w2.heap.size w3.heap.size AHw cHw q)) := Lib.hid ((OwnP.of hcp.own (Nat.le_refl _)).held hb3.size (Nat.le_refl _))
    have Hwb : Hid (Held w3 bHw (bHw + 1) (fun v => Bk v bHw 32 [.slice AHw q.length cHw])) := Lib.hid hcp.box.held
    clear cb_Hab0 lb_Hab0 cb_Hab1 lb_Hab1
    have hz_w3 : w2.heap.size ≤ w3.heap.size := hb3.size
    replace Hb := Lib.hid (Hb.out.trans (hb3.mono Hb.out.size))
    replace Hab0 := Lib.hid (Hab0.out.below hb3 Hab0.out.top)
    replace Hab1 := Lib.hid (Hab1.out.below hb3 Hab1.out.top)
    replace Ha0 := Lib.hid (Ha0.out.below hb3 Ha0.out.top)
    replace Ha1 := Lib.hid (Ha1.out.below hb3 Ha1.out.top)
    clear hb3 hcp HS_Hw
    have cb_Hab0 : w3.cell? ⟨w.heap.size, 0, none⟩ = some (.slice A0 l0.length c0) := Hab0.out.out.cell 0
    have lb_Hab0 : w.heap.size < w3.heap.size := by have := Hab0.out.top; omega
    go_wp2_with fail
    refine (toPipe_any A0 c0 l0 _ w.heap.size Ha0.out.out Hb.out.size hs0).mono ?_
    rintro e w4 ⟨g4, rfl, hg4, hk4, hb4⟩
    have ho4 : OwnP w4 w3.heap.size w4.heap.size (some ⟨g4, 0, none⟩) l0.length l0 := OwnP.of (hk4.own (base := w3.heap.size) (by first | exact hg4 | omega) hs0) (Nat.le_refl _)
    have Hx0 : Hid (Held w4 w3.heap.size w4.heap.size (fun v => OwnP v w3.heap.size w4.heap.size (some ⟨g4, 0, none⟩) l0.length l0)) := Lib.hid (ho4.held hb4.size (Nat.le_refl _))
    clear cb_Hab0 lb_Hab0
    have hz_w4 : w3.heap.size ≤ w4.heap.size := hb4.size
    replace Hb := Lib.hid (Hb.out.trans (hb4.mono Hb.out.size))
    replace Hab0 := Lib.hid (Hab0.out.below hb4 Hab0.out.top)
    replace Hab1 := Lib.hid (Hab1.out.below hb4 Hab1.out.top)
    replace Ha0 := Lib.hid (Ha0.out.below hb4 Ha0.out.top)
    replace Ha1 := Lib.hid (Ha1.out.below hb4 Ha1.out.top)
    replace Hw := Lib.hid (Hw.out.below hb4 Hw.out.top)
    replace Hwb := Lib.hid (Hwb.out.below hb4 Hwb.out.top)
    clear ho4 hb4 hk4 hg4
    have cb_Hab1 : w4.cell? ⟨w.heap.size + 1, 0, none⟩ = some (.slice A1 l1.length c1) := Hab1.out.out.cell 0
    have lb_Hab1 : w.heap.size + 1 < w4.heap.size := by have := Hab1.out.top; omega
    obtain ⟨Vw4, hVw4⟩ : ∃ W : World, W = w4.alloc (.cells #[.slice (some ⟨g4, 0, none⟩) l0.length l0.length] 32) := ⟨_, rfl⟩
    have hbVw4 : Below w4.heap.size w4 Vw4 := by rw [hVw4]; exact (Below.refl _ _).alloc (Nat.le_refl _) _
    have Hxb0 : Hid (Held Vw4 w4.heap.size (w4.heap.size + 1) (fun v => Bk v w4.heap.size 32 [.slice (some ⟨g4, 0, none⟩) l0.length l0.length])) := Lib.hid (by rw [hVw4]; exact (Bk.new _ _ [_]).held)
    have ht_Hxb0 : w4.heap.size + 1 ≤ Vw4.heap.size := Hxb0.out.top
    have hz_Vw4 : w4.heap.size ≤ Vw4.heap.size := hbVw4.size
    replace Hb := Lib.hid (Hb.out.trans (hbVw4.mono Hb.out.size))
    replace Hab0 := Lib.hid (Hab0.out.below hbVw4 Hab0.out.top)
    replace Hab1 := Lib.hid (Hab1.out.below hbVw4 Hab1.out.top)
    replace Ha0 := Lib.hid (Ha0.out.below hbVw4 Ha0.out.top)
    replace Ha1 := Lib.hid (Ha1.out.below hbVw4 Ha1.out.top)
    replace Hw := Lib.hid (Hw.out.below hbVw4 Hw.out.top)
    replace Hwb := Lib.hid (Hwb.out.below hbVw4 Hwb.out.top)
    replace Hx0 := Lib.hid (Hx0.out.below hbVw4 Hx0.out.top)
    have HVw4 := Lib.hid hVw4
    clear hVw4 hbVw4
    go_wp2_with fail
    rw [← HVw4.out]
    refine (toPipe_any A1 c1 l1 _ w.heap.size Ha1.out.out Hb.out.size hs1).mono ?_
    rintro e w5 ⟨g5, rfl, hg5, hk5, hb5⟩
    have ho5 : OwnP w5 Vw4.heap.size w5.heap.size (some ⟨g5, 0, none⟩) l1.length l1 := OwnP.of (hk5.own (base := Vw4.heap.size) (by first | exact hg5 | omega) hs1) (Nat.le_refl _)
    have Hx1 : Hid (Held w5 Vw4.heap.size w5.heap.size (fun v => OwnP v Vw4.heap.size w5.heap.size (some ⟨g5, 0, none⟩) l1.length l1)) := Lib.hid (ho5.held hb5.size (Nat.le_refl _))
    clear cb_Hab1 lb_Hab1
    have hz_w5 : Vw4.heap.size ≤ w5.heap.size := hb5.size
    replace Hb := Lib.hid (Hb.out.trans (hb5.mono Hb.out.size))
    replace Hab0 := Lib.hid (Hab0.out.below hb5 Hab0.out.top)
    replace Hab1 := Lib.hid (Hab1.out.below hb5 Hab1.out.top)
    replace Ha0 := Lib.hid (Ha0.out.below hb5 Ha0.out.top)
    replace Ha1 := Lib.hid (Ha1.out.below hb5 Ha1.out.top)
    replace Hw := Lib.hid (Hw.out.below hb5 Hw.out.top)
    replace Hwb := Lib.hid (Hwb.out.below hb5 Hwb.out.top)
    replace Hx0 := Lib.hid (Hx0.out.below hb5 Hx0.out.top)
    replace Hxb0 := Lib.hid (Hxb0.out.below hb5 Hxb0.out.top)
    clear ho5 hb5 hk5 hg5
    have cb_Hxb0 : w5.cell? ⟨w4.heap.size, 0, none⟩ = some (.slice (some ⟨g4, 0, none⟩) l0.length l0.length) := Hxb0.out.out.cell 0
    have lb_Hxb0 : w4.heap.size < w5.heap.size := by have := Hxb0.out.top; omega
    obtain ⟨Vw5, hVw5⟩ : ∃ W : World, W = w5.alloc (.cells #[.slice (some ⟨g5, 0, none⟩) l1.length l1.length] 32) := ⟨_, rfl⟩
    have hbVw5 : Below w5.heap.size w5 Vw5 := by rw [hVw5]; exact (Below.refl _ _).alloc (Nat.le_refl _) _
    have Hxb1 : Hid (Held Vw5 w5.heap.size (w5.heap.size + 1) (fun v => Bk v w5.heap.size 32 [.slice (some ⟨g5, 0, none⟩) l1.length l1.length])) := Lib.hid (by rw [hVw5]; exact (Bk.new _ _ [_]).held)
    have ht_Hxb1 : w5.heap.size + 1 ≤ Vw5.heap.size := Hxb1.out.top
    have hz_Vw5 : w5.heap.size ≤ Vw5.heap.size := hbVw5.size
    replace Hb := Lib.hid (Hb.out.trans (hbVw5.mono Hb.out.size))
    replace Hab0 := Lib.hid (Hab0.out.below hbVw5 Hab0.out.top)
    replace Hab1 := Lib.hid (Hab1.out.below hbVw5 Hab1.out.top)
    replace Ha0 := Lib.hid (Ha0.out.below hbVw5 Ha0.out.top)
    replace Ha1 := Lib.hid (Ha1.out.below hbVw5 Ha1.out.top)
    replace Hw := Lib.hid (Hw.out.below hbVw5 Hw.out.top)
    replace Hwb := Lib.hid (Hwb.out.below hbVw5 Hwb.out.top)
    replace Hx0 := Lib.hid (Hx0.out.below hbVw5 Hx0.out.top)
    replace Hxb0 := Lib.hid (Hxb0.out.below hbVw5 Hxb0.out.top)
    replace Hx1 := Lib.hid (Hx1.out.below hbVw5 Hx1.out.top)
    have HVw5 := Lib.hid hVw5
    clear hVw5 hbVw5
    go_wp2_with fail
    rw [← HVw5.out]
    refine (implJoinPipes_any _ _ l0 _ _ l1 i2 _ Vw5.heap.size q ok hq (Hx0.out.out.rdt Hx0.out.top) (Hx1.out.out.rdt Hx1.out.top) (Nat.le_refl _) hs0 hs1).mono ?_
    rintro e w6 ⟨AHg, cHg, rfl, ho6, hb6⟩
    have Hg : Hid (Held w6 Vw5.heap.size w6.heap.size (fun v => OwnP v Vw5.heap.size w6.heap.size AHg cHg q)) := Lib.hid ((OwnP.of ho6 (Nat.le_refl _) : OwnP w6 Vw5.heap.size w6.heap.size AHg cHg q).held hb6.size (Nat.le_refl _))
    clear cb_Hxb0 lb_Hxb0
    have hz_w6 : Vw5.heap.size ≤ w6.heap.size := hb6.size
    replace Hb := Lib.hid (Hb.out.trans (hb6.mono Hb.out.size))
    replace Hab0 := Lib.hid (Hab0.out.below hb6 Hab0.out.top)
    replace Hab1 := Lib.hid (Hab1.out.below hb6 Hab1.out.top)
    replace Ha0 := Lib.hid (Ha0.out.below hb6 Ha0.out.top)
    replace Ha1 := Lib.hid (Ha1.out.below hb6 Ha1.out.top)
    replace Hw := Lib.hid (Hw.out.below hb6 Hw.out.top)
    replace Hwb := Lib.hid (Hwb.out.below hb6 Hwb.out.top)
    replace Hx0 := Lib.hid (Hx0.out.below hb6 Hx0.out.top)
    replace Hxb0 := Lib.hid (Hxb0.out.below hb6 Hxb0.out.top)
    replace Hx1 := Lib.hid (Hx1.out.below hb6 Hx1.out.top)
    replace Hxb1 := Lib.hid (Hxb1.out.below hb6 Hxb1.out.top)
    clear ho6 hb6
    have cb_Hwb : w6.cell? ⟨bHw, 0, none⟩ = some (.slice AHw q.length cHw) := Hwb.out.out.cell 0
    have lb_Hwb : bHw < w6.heap.size := by have := Hwb.out.top; omega
    obtain ⟨Vw6, hVw6⟩ : ∃ W : World, W = w6.alloc (.cells #[.slice AHg q.length cHg] 32) := ⟨_, rfl⟩
    have hbVw6 : Below w6.heap.size w6 Vw6 := by rw [hVw6]; exact (Below.refl _ _).alloc (Nat.le_refl _) _
    have Hgb : Hid (Held Vw6 w6.heap.size (w6.heap.size + 1) (fun v => Bk v w6.heap.size 32 [.slice AHg q.length cHg])) := Lib.hid (by rw [hVw6]; exact (Bk.new _ _ [_]).held)
    have ht_Hgb : w6.heap.size + 1 ≤ Vw6.heap.size := Hgb.out.top
    have hz_Vw6 : w6.heap.size ≤ Vw6.heap.size := hbVw6.size
    replace Hb := Lib.hid (Hb.out.trans (hbVw6.mono Hb.out.size))
    replace Hab0 := Lib.hid (Hab0.out.below hbVw6 Hab0.out.top)
    replace Hab1 := Lib.hid (Hab1.out.below hbVw6 Hab1.out.top)
    replace Ha0 := Lib.hid (Ha0.out.below hbVw6 Ha0.out.top)
    replace Ha1 := Lib.hid (Ha1.out.below hbVw6 Ha1.out.top)
    replace Hw := Lib.hid (Hw.out.below hbVw6 Hw.out.top)
    replace Hwb := Lib.hid (Hwb.out.below hbVw6 Hwb.out.top)
    replace Hx0 := Lib.hid (Hx0.out.below hbVw6 Hx0.out.top)
    replace Hxb0 := Lib.hid (Hxb0.out.below hbVw6 Hxb0.out.top)
    replace Hx1 := Lib.hid (Hx1.out.below hbVw6 Hx1.out.top)
    replace Hxb1 := Lib.hid (Hxb1.out.below hbVw6 Hxb1.out.top)
    replace Hg := Lib.hid (Hg.out.below hbVw6 Hg.out.top)
    have HVw6 := Lib.hid hVw6
    clear hVw6 hbVw6
    go_wp2_with fail
    rw [← HVw6.out]
    refine (eqPipe_any _ _ _ _ q q _ Vw6.heap.size (Hg.out.out.rdt Hg.out.top) (Hw.out.out.rdt Hw.out.top) (Nat.le_refl _) hqn).mono ?_
    rintro e w7 ⟨rfl, hb7⟩
    rw [decide_eq_true rfl]
    clear cb_Hwb lb_Hwb
    have hz_w7 : Vw6.heap.size ≤ w7.heap.size := hb7.size
    replace Hb := Lib.hid (Hb.out.trans (hb7.mono Hb.out.size))
    replace Hab0 := Lib.hid (Hab0.out.below hb7 Hab0.out.top)
    replace Hab1 := Lib.hid (Hab1.out.below hb7 Hab1.out.top)
    replace Ha0 := Lib.hid (Ha0.out.below hb7 Ha0.out.top)
    replace Ha1 := Lib.hid (Ha1.out.below hb7 Ha1.out.top)
    replace Hw := Lib.hid (Hw.out.below hb7 Hw.out.top)
    replace Hwb := Lib.hid (Hwb.out.below hb7 Hwb.out.top)
    replace Hx0 := Lib.hid (Hx0.out.below hb7 Hx0.out.top)
    replace Hxb0 := Lib.hid (Hxb0.out.below hb7 Hxb0.out.top)
    replace Hx1 := Lib.hid (Hx1.out.below hb7 Hx1.out.top)
    replace Hxb1 := Lib.hid (Hxb1.out.below hb7 Hxb1.out.top)
    replace Hg := Lib.hid (Hg.out.below hb7 Hg.out.top)
    replace Hgb := Lib.hid (Hgb.out.below hb7 Hgb.out.top)
    clear hb7
    have cb_Hab0 : w7.cell? ⟨w.heap.size, 0, none⟩ = some (.slice A0 l0.length c0) := Hab0.out.out.cell 0
    have lb_Hab0 : w.heap.size < w7.heap.size := by have := Hab0.out.top; omega
    have cb_Hxb0 : w7.cell? ⟨w4.heap.size, 0, none⟩ = some (.slice (some ⟨g4, 0, none⟩) l0.length l0.length) := Hxb0.out.out.cell 0
    have lb_Hxb0 : w4.heap.size < w7.heap.size := by have := Hxb0.out.top; omega
    have HS : Hid (∀ W' : World, Below w7.heap.size w7 W' → W'.cell? ⟨w4.heap.size, 0, none⟩ = some (.slice (some ⟨g4, 0, none⟩) l0.length l0.length) ∧ W'.cell? ⟨w.heap.size, 0, none⟩ = some (.slice A0 l0.length c0)) := Lib.hid (fun W' hb => ⟨(Hxb0.out.below hb Hxb0.out.top).out.cell 0, (Hab0.out.below hb Hab0.out.top).out.cell 0⟩)
    go_wp2_with fail
    go_region_held3 (fun w' => w'.cell? ⟨w4.heap.size, 0, none⟩ = some (.slice (some ⟨g4, 0, none⟩) l0.length l0.length) ∧ w'.cell? ⟨w.heap.size, 0, none⟩ = some (.slice A0 l0.length c0))
      (go_keep)
      (first
          | (
            go_at_call 12
            refine (toPipe_any A0 c0 l0 _ w.heap.size (Ha0.out.drewN 1).out (by first | omega | (simp; omega)) hs0).mono ?_
            rintro e w8 ⟨g8, rfl, hg8, hk8, hb8z⟩
            have hb8 : Below w7.heap.size w7 w8 := ((Below.refl w7.heap.size w7).drew).trans (hb8z.mono (by simp))
            have ks8 := HS.out _ hb8
            have ho8 : OwnP w8 w7.heap.size w8.heap.size (some ⟨g8, 0, none⟩) l0.length l0 := OwnP.of (hk8.own (base := w7.heap.size) (by first | exact hg8 | omega) hs0) (Nat.le_refl _)
            have Hc0 : Hid (Held w8 w7.heap.size w8.heap.size (fun v => OwnP v w7.heap.size w8.heap.size (some ⟨g8, 0, none⟩) l0.length l0)) := Lib.hid (ho8.held hb8.size (Nat.le_refl _))
            have hz_w8 : w7.heap.size ≤ w8.heap.size := hb8.size
            replace Hb := Lib.hid (Hb.out.trans (hb8.mono Hb.out.size))
            replace Hab0 := Lib.hid (Hab0.out.below hb8 Hab0.out.top)
            replace Hab1 := Lib.hid (Hab1.out.below hb8 Hab1.out.top)
            replace Ha0 := Lib.hid (Ha0.out.below hb8 Ha0.out.top)
            replace Ha1 := Lib.hid (Ha1.out.below hb8 Ha1.out.top)
            replace Hw := Lib.hid (Hw.out.below hb8 Hw.out.top)
            replace Hwb := Lib.hid (Hwb.out.below hb8 Hwb.out.top)
            replace Hx0 := Lib.hid (Hx0.out.below hb8 Hx0.out.top)
            replace Hxb0 := Lib.hid (Hxb0.out.below hb8 Hxb0.out.top)
            replace Hx1 := Lib.hid (Hx1.out.below hb8 Hx1.out.top)
            replace Hxb1 := Lib.hid (Hxb1.out.below hb8 Hxb1.out.top)
            replace Hg := Lib.hid (Hg.out.below hb8 Hg.out.top)
            replace Hgb := Lib.hid (Hgb.out.below hb8 Hgb.out.top)
            clear ho8 hb8 hk8 hg8 hb8z)
          | (
            go_at_call 16
            refine (eqPipe_any _ _ _ _ l0 l0 _ w8.heap.size (Hx0.out.out.rdt Hx0.out.top) (Hc0.out.out.rdt Hc0.out.top) (Nat.le_refl _) hs0).mono ?_
            rintro e w9 ⟨rfl, hb9⟩
            rw [decide_eq_true rfl]
            have ks9 : w9.cell? ⟨w4.heap.size, 0, none⟩ = some (.slice (some ⟨g4, 0, none⟩) l0.length l0.length) ∧ w9.cell? ⟨w.heap.size, 0, none⟩ = some (.slice A0 l0.length c0) := ⟨(Hxb0.out.below hb9 Hxb0.out.top).out.cell 0, (Hab0.out.below hb9 Hab0.out.top).out.cell 0⟩
            have hz_w9 : w8.heap.size ≤ w9.heap.size := hb9.size
            replace Hb := Lib.hid (Hb.out.trans (hb9.mono Hb.out.size))
            replace Hab0 := Lib.hid (Hab0.out.below hb9 Hab0.out.top)
            replace Hab1 := Lib.hid (Hab1.out.below hb9 Hab1.out.top)
            replace Ha0 := Lib.hid (Ha0.out.below hb9 Ha0.out.top)
            replace Ha1 := Lib.hid (Ha1.out.below hb9 Ha1.out.top)
            replace Hw := Lib.hid (Hw.out.below hb9 Hw.out.top)
            replace Hwb := Lib.hid (Hwb.out.below hb9 Hwb.out.top)
            replace Hx0 := Lib.hid (Hx0.out.below hb9 Hx0.out.top)
            replace Hxb0 := Lib.hid (Hxb0.out.below hb9 Hxb0.out.top)
            replace Hx1 := Lib.hid (Hx1.out.below hb9 Hx1.out.top)
            replace Hxb1 := Lib.hid (Hxb1.out.below hb9 Hxb1.out.top)
            replace Hg := Lib.hid (Hg.out.below hb9 Hg.out.top)
            replace Hgb := Lib.hid (Hgb.out.below hb9 Hgb.out.top)
            replace Hc0 := Lib.hid (Hc0.out.below hb9 Hc0.out.top)
            clear hb9))
    clear HS ks8 ks9 cb_Hab0 lb_Hab0 cb_Hxb0 lb_Hxb0 Hc0
    have cb_Hab1 : w9.cell? ⟨w.heap.size + 1, 0, none⟩ = some (.slice A1 l1.length c1) := Hab1.out.out.cell 0
    have lb_Hab1 : w.heap.size + 1 < w9.heap.size := by have := Hab1.out.top; omega
    have cb_Hxb1 : w9.cell? ⟨w5.heap.size, 0, none⟩ = some (.slice (some ⟨g5, 0, none⟩) l1.length l1.length) := Hxb1.out.out.cell 0
    have lb_Hxb1 : w5.heap.size < w9.heap.size := by have := Hxb1.out.top; omega
    have HS : Hid (∀ W' : World, Below w9.heap.size w9 W' → W'.cell? ⟨w5.heap.size, 0, none⟩ = some (.slice (some ⟨g5, 0, none⟩) l1.length l1.length) ∧ W'.cell? ⟨w.heap.size + 1, 0, none⟩ = some (.slice A1 l1.length c1)) := Lib.hid (fun W' hb => ⟨(Hxb1.out.below hb Hxb1.out.top).out.cell 0, (Hab1.out.below hb Hab1.out.top).out.cell 0⟩)
    go_wp2_with fail
    go_region_held3 (fun w' => w'.cell? ⟨w5.heap.size, 0, none⟩ = some (.slice (some ⟨g5, 0, none⟩) l1.length l1.length) ∧ w'.cell? ⟨w.heap.size + 1, 0, none⟩ = some (.slice A1 l1.length c1))
      (go_keep)
      (first
          | (
            go_at_call 12
            refine (toPipe_any A1 c1 l1 _ w.heap.size (Ha1.out.drewN 1).out (by first | omega | (simp; omega)) hs1).mono ?_
            rintro e w10 ⟨g10, rfl, hg10, hk10, hb10z⟩
            have hb10 : Below w9.heap.size w9 w10 := ((Below.refl w9.heap.size w9).drew).trans (hb10z.mono (by simp))
            have ks10 := HS.out _ hb10
            have ho10 : OwnP w10 w9.heap.size w10.heap.size (some ⟨g10, 0, none⟩) l1.length l1 := OwnP.of (hk10.own (base := w9.heap.size) (by first | exact hg10 | omega) hs1) (Nat.le_refl _)
            have Hc1 : Hid (Held w10 w9.heap.size w10.heap.size (fun v => OwnP v w9.heap.size w10.heap.size (some ⟨g10, 0, none⟩) l1.length l1)) := Lib.hid (ho10.held hb10.size (Nat.le_refl _))
            have hz_w10 : w9.heap.size ≤ w10.heap.size := hb10.size
            replace Hb := Lib.hid (Hb.out.trans (hb10.mono Hb.out.size))
            replace Hab0 := Lib.hid (Hab0.out.below hb10 Hab0.out.top)
            replace Hab1 := Lib.hid (Hab1.out.below hb10 Hab1.out.top)
            replace Ha0 := Lib.hid (Ha0.out.below hb10 Ha0.out.top)
            replace Ha1 := Lib.hid (Ha1.out.below hb10 Ha1.out.top)
            replace Hw := Lib.hid (Hw.out.below hb10 Hw.out.top)
            replace Hwb := Lib.hid (Hwb.out.below hb10 Hwb.out.top)
            replace Hx0 := Lib.hid (Hx0.out.below hb10 Hx0.out.top)
            replace Hxb0 := Lib.hid (Hxb0.out.below hb10 Hxb0.out.top)
            replace Hx1 := Lib.hid (Hx1.out.below hb10 Hx1.out.top)
            replace Hxb1 := Lib.hid (Hxb1.out.below hb10 Hxb1.out.top)
            replace Hg := Lib.hid (Hg.out.below hb10 Hg.out.top)
            replace Hgb := Lib.hid (Hgb.out.below hb10 Hgb.out.top)
            clear ho10 hb10 hk10 hg10 hb10z)
          | (
            go_at_call 16
            refine (eqPipe_any _ _ _ _ l1 l1 _ w10.heap.size (Hx1.out.out.rdt Hx1.out.top) (Hc1.out.out.rdt Hc1.out.top) (Nat.le_refl _) hs1).mono ?_
            rintro e w11 ⟨rfl, hb11⟩
            rw [decide_eq_true rfl]
            have ks11 : w11.cell? ⟨w5.heap.size, 0, none⟩ = some (.slice (some ⟨g5, 0, none⟩) l1.length l1.length) ∧ w11.cell? ⟨w.heap.size + 1, 0, none⟩ = some (.slice A1 l1.length c1) := ⟨(Hxb1.out.below hb11 Hxb1.out.top).out.cell 0, (Hab1.out.below hb11 Hab1.out.top).out.cell 0⟩
            have hz_w11 : w10.heap.size ≤ w11.heap.size := hb11.size
            replace Hb := Lib.hid (Hb.out.trans (hb11.mono Hb.out.size))
            replace Hab0 := Lib.hid (Hab0.out.below hb11 Hab0.out.top)
            replace Hab1 := Lib.hid (Hab1.out.below hb11 Hab1.out.top)
            replace Ha0 := Lib.hid (Ha0.out.below hb11 Ha0.out.top)
            replace Ha1 := Lib.hid (Ha1.out.below hb11 Ha1.out.top)
            replace Hw := Lib.hid (Hw.out.below hb11 Hw.out.top)
            replace Hwb := Lib.hid (Hwb.out.below hb11 Hwb.out.top)
            replace Hx0 := Lib.hid (Hx0.out.below hb11 Hx0.out.top)
            replace Hxb0 := Lib.hid (Hxb0.out.below hb11 Hxb0.out.top)
            replace Hx1 := Lib.hid (Hx1.out.below hb11 Hx1.out.top)
            replace Hxb1 := Lib.hid (Hxb1.out.below hb11 Hxb1.out.top)
            replace Hg := Lib.hid (Hg.out.below hb11 Hg.out.top)
            replace Hgb := Lib.hid (Hgb.out.below hb11 Hgb.out.top)
            replace Hc1 := Lib.hid (Hc1.out.below hb11 Hc1.out.top)
            clear hb11))
    clear HS ks10 ks11 cb_Hab1 lb_Hab1 cb_Hxb1 lb_Hxb1 Hc1
    have cb_Hxb0 : w11.cell? ⟨w4.heap.size, 0, none⟩ = some (.slice (some ⟨g4, 0, none⟩) l0.length l0.length) := Hxb0.out.out.cell 0
    have lb_Hxb0 : w4.heap.size < w11.heap.size := by have := Hxb0.out.top; omega
    go_wp2_with fail
    refine (markPipe_h (1) Hx0.out.out hs0 (by omega) (by omega)).mono ?_
    rintro e w12 ⟨rfl, -, hc12⟩
    clear cb_Hxb0 lb_Hxb0
    have hz_w12 : w11.heap.size ≤ w12.heap.size := hc12.size
    replace Hb := Lib.hid (hc12.below_ Hb.out (by omega) Hb.out.size)
    replace Hab0 := Lib.hid (Hab0.out.chg hc12 (by omega))
    replace Hab1 := Lib.hid (Hab1.out.chg hc12 (by omega))
    replace Ha0 := Lib.hid (Ha0.out.chg hc12 (by omega))
    replace Ha1 := Lib.hid (Ha1.out.chg hc12 (by omega))
    replace Hw := Lib.hid (Hw.out.chg hc12 (by omega))
    replace Hwb := Lib.hid (Hwb.out.chg hc12 (by omega))
    replace Hxb0 := Lib.hid (Hxb0.out.chg hc12 (by omega))
    replace Hx1 := Lib.hid (Hx1.out.chg hc12 (by omega))
    replace Hxb1 := Lib.hid (Hxb1.out.chg hc12 (by omega))
    replace Hg := Lib.hid (Hg.out.chg hc12 (by omega))
    replace Hgb := Lib.hid (Hgb.out.chg hc12 (by omega))
    clear hc12 Hx0
    have hpos0 : (0 : Int) ≤ 1 + 5 * l0.length := by omega
    have cb_Hxb1 : w12.cell? ⟨w5.heap.size, 0, none⟩ = some (.slice (some ⟨g5, 0, none⟩) l1.length l1.length) := Hxb1.out.out.cell 0
    have lb_Hxb1 : w5.heap.size < w12.heap.size := by have := Hxb1.out.top; omega
    go_wp2_with fail
    refine (markPipe_h (1 + 5 * l0.length) Hx1.out.out hs1 (by omega) (by omega)).mono ?_
    rintro e w13 ⟨rfl, -, hc13⟩
    clear cb_Hxb1 lb_Hxb1
    have hz_w13 : w12.heap.size ≤ w13.heap.size := hc13.size
    replace Hb := Lib.hid (hc13.below_ Hb.out (by omega) Hb.out.size)
    replace Hab0 := Lib.hid (Hab0.out.chg hc13 (by omega))
    replace Hab1 := Lib.hid (Hab1.out.chg hc13 (by omega))
    replace Ha0 := Lib.hid (Ha0.out.chg hc13 (by omega))
    replace Ha1 := Lib.hid (Ha1.out.chg hc13 (by omega))
    replace Hw := Lib.hid (Hw.out.chg hc13 (by omega))
    replace Hwb := Lib.hid (Hwb.out.chg hc13 (by omega))
    replace Hxb0 := Lib.hid (Hxb0.out.chg hc13 (by omega))
    replace Hxb1 := Lib.hid (Hxb1.out.chg hc13 (by omega))
    replace Hg := Lib.hid (Hg.out.chg hc13 (by omega))
    replace Hgb := Lib.hid (Hgb.out.chg hc13 (by omega))
    clear hc13 Hx1
    have hpos1 : (0 : Int) ≤ 1 + 5 * l0.length + 5 * l1.length := by omega
    have cb_Hwb : w13.cell? ⟨bHw, 0, none⟩ = some (.slice AHw q.length cHw) := Hwb.out.out.cell 0
    have lb_Hwb : bHw < w13.heap.size := by have := Hwb.out.top; omega
    have cb_Hgb : w13.cell? ⟨w6.heap.size, 0, none⟩ = some (.slice AHg q.length cHg) := Hgb.out.out.cell 0
    have lb_Hgb : w6.heap.size < w13.heap.size := by have := Hgb.out.top; omega
    go_wp2_with fail
    refine (eqPipe_any _ _ _ _ q q _ w13.heap.size (Hg.out.out.rdt Hg.out.top) (Hw.out.out.rdt Hw.out.top) (Nat.le_refl _) hqn).mono ?_
    rintro e w14 ⟨rfl, hb14⟩
    rw [decide_eq_true rfl]
    clear cb_Hwb lb_Hwb cb_Hgb lb_Hgb
    have hz_w14 : w13.heap.size ≤ w14.heap.size := hb14.size
    replace Hb := Lib.hid (Hb.out.trans (hb14.mono Hb.out.size))
    replace Hab0 := Lib.hid (Hab0.out.below hb14 Hab0.out.top)
    replace Hab1 := Lib.hid (Hab1.out.below hb14 Hab1.out.top)
    replace Ha0 := Lib.hid (Ha0.out.below hb14 Ha0.out.top)
    replace Ha1 := Lib.hid (Ha1.out.below hb14 Ha1.out.top)
    replace Hw := Lib.hid (Hw.out.below hb14 Hw.out.top)
    replace Hwb := Lib.hid (Hwb.out.below hb14 Hwb.out.top)
    replace Hxb0 := Lib.hid (Hxb0.out.below hb14 Hxb0.out.top)
    replace Hxb1 := Lib.hid (Hxb1.out.below hb14 Hxb1.out.top)
    replace Hg := Lib.hid (Hg.out.below hb14 Hg.out.top)
    replace Hgb := Lib.hid (Hgb.out.below hb14 Hgb.out.top)
    clear hb14
    have cb_Hgb : w14.cell? ⟨w6.heap.size, 0, none⟩ = some (.slice AHg q.length cHg) := Hgb.out.out.cell 0
    have lb_Hgb : w6.heap.size < w14.heap.size := by have := Hgb.out.top; omega
    go_wp2_with fail
    refine (markPipe_h 1 Hg.out.out hqn (by decide) (by decide)).mono ?_
    rintro e w15 ⟨rfl, ho15, hc15⟩
    clear cb_Hgb lb_Hgb
    have hle_g : Vw5.heap.size ≤ w6.heap.size := Hg.out.le
    have htop_g : w6.heap.size ≤ w15.heap.size := Nat.le_trans Hg.out.top hc15.size
    have Hgm : Hid (Held w15 Vw5.heap.size w6.heap.size (fun v => OwnP v Vw5.heap.size w6.heap.size AHg cHg (mkN q.length 1))) := Lib.hid (ho15.held hle_g htop_g)
    have hz_w15 : w14.heap.size ≤ w15.heap.size := hc15.size
    replace Hb := Lib.hid (hc15.below_ Hb.out (by omega) Hb.out.size)
    replace Hab0 := Lib.hid (Hab0.out.chg hc15 (by omega))
    replace Hab1 := Lib.hid (Hab1.out.chg hc15 (by omega))
    replace Ha0 := Lib.hid (Ha0.out.chg hc15 (by omega))
    replace Ha1 := Lib.hid (Ha1.out.chg hc15 (by omega))
    replace Hw := Lib.hid (Hw.out.chg hc15 (by omega))
    replace Hwb := Lib.hid (Hwb.out.chg hc15 (by omega))
    replace Hxb0 := Lib.hid (Hxb0.out.chg hc15 (by omega))
    replace Hxb1 := Lib.hid (Hxb1.out.chg hc15 (by omega))
    replace Hgb := Lib.hid (Hgb.out.chg hc15 (by omega))
    clear hc15 ho15 Hg
    have hposq : (0 : Int) ≤ 1 + 5 * q.length := by omega
    have cb_Hgb : w15.cell? ⟨w6.heap.size, 0, none⟩ = some (.slice AHg q.length cHg) := Hgb.out.out.cell 0
    have lb_Hgb : w6.heap.size < w15.heap.size := by have := Hgb.out.top; omega
    go_wp2_with fail
    refine (heldPipe_any _ _ q.length 1 _ w15.heap.size (Hgm.out.out.rdt Hgm.out.top) (Nat.le_refl _) hqn (by decide) (by decide)).mono ?_
    rintro e w16 ⟨rfl, hb16⟩
    clear cb_Hgb lb_Hgb
    have hz_w16 : w15.heap.size ≤ w16.heap.size := hb16.size
    replace Hb := Lib.hid (Hb.out.trans (hb16.mono Hb.out.size))
    replace Hab0 := Lib.hid (Hab0.out.below hb16 Hab0.out.top)
    replace Hab1 := Lib.hid (Hab1.out.below hb16 Hab1.out.top)
    replace Ha0 := Lib.hid (Ha0.out.below hb16 Ha0.out.top)
    replace Ha1 := Lib.hid (Ha1.out.below hb16 Ha1.out.top)
    replace Hw := Lib.hid (Hw.out.below hb16 Hw.out.top)
    replace Hwb := Lib.hid (Hwb.out.below hb16 Hwb.out.top)
    replace Hxb0 := Lib.hid (Hxb0.out.below hb16 Hxb0.out.top)
    replace Hxb1 := Lib.hid (Hxb1.out.below hb16 Hxb1.out.top)
    replace Hgb := Lib.hid (Hgb.out.below hb16 Hgb.out.top)
    replace Hgm := Lib.hid (Hgm.out.below hb16 Hgm.out.top)
    clear hb16
    have cb_Hab0 : w16.cell? ⟨w.heap.size, 0, none⟩ = some (.slice A0 l0.length c0) := Hab0.out.out.cell 0
    have lb_Hab0 : w.heap.size < w16.heap.size := by have := Hab0.out.top; omega
    have cb_Hab1 : w16.cell? ⟨w.heap.size + 1, 0, none⟩ = some (.slice A1 l1.length c1) := Hab1.out.out.cell 0
    have lb_Hab1 : w.heap.size + 1 < w16.heap.size := by have := Hab1.out.top; omega
    have HS_Hh : Hid (∀ W' : World, Below w16.heap.size w16 W' → W'.cell? ⟨w.heap.size, 0, none⟩ = some (.slice A0 l0.length c0) ∧ W'.cell? ⟨w.heap.size + 1, 0, none⟩ = some (.slice A1 l1.length c1)) := Lib.hid (fun W' hb => ⟨(Hab0.out.below hb Hab0.out.top).out.cell 0, (Hab1.out.below hb Hab1.out.top).out.cell 0⟩)
    go_wp2_with fail
    go_cut [17, 18] from 98 to 106 (fun s8 s9 wx => ∃ bw Aw cw, s8 = .pointer (some ⟨bw, 0, none⟩) ∧ s9 = .bool ok ∧ CutP w16 wx bw Aw cw q)
    case first =>
      go_region_held3 (fun w' => w'.cell? ⟨w.heap.size, 0, none⟩ = some (.slice A0 l0.length c0) ∧ w'.cell? ⟨w.heap.size + 1, 0, none⟩ = some (.slice A1 l1.length c1))
        (go_keep)
        (first
          | (
            go_at_call 12
            refine (toPipe_any A0 c0 l0 _ w.heap.size (by first | exact (Ha0.out.drewN 1).out | exact ((Ha0.out.below ((Below.refl _ _).alloc (Nat.le_refl _) _) Ha0.out.top).drewN 1).out) (by first | omega | (simp; omega)) hs0).mono ?_
            rintro e x0Hh ⟨gx0Hh, rfl, hgx0Hh, hkx0Hh, hqx0Hh⟩
            have hbx0Hh : Below w16.heap.size w16 x0Hh := by first | exact ((Below.refl w16.heap.size w16).drew).trans (hqx0Hh.mono (by simp)) | exact (((Below.refl _ _).alloc (Nat.le_refl _) _).drew).trans (hqx0Hh.mono (by simp))
            have ksx0Hh := HS_Hh.out _ hbx0Hh
            have hzx0Hh := hbx0Hh.size
            first | have Qb := Lib.hid ((Bk.drew_ (Bk.new w16 32 [.slice none 0 0])).below hqx0Hh (by simp)) | skip)
          | (
            go_at_call 12
            refine (toPipe_any A1 c1 l1 _ w.heap.size (by first | exact (Ha1.out.below hbx0Hh Ha1.out.top).out | exact ((Ha1.out.below hbx0Hh Ha1.out.top).below ((Below.refl _ _).alloc (Nat.le_refl _) _) (Nat.le_trans Ha1.out.top hbx0Hh.size)).out) (by first | omega | (simp; omega)) hs1).mono ?_
            rintro e x1Hh ⟨gx1Hh, rfl, hgx1Hh, hkx1Hh, hqx1Hh⟩
            have hvx1Hh : Below x0Hh.heap.size x0Hh x1Hh := by first | exact hqx1Hh | exact ((Below.refl _ _).alloc (Nat.le_refl _) _).trans (hqx1Hh.mono (by simp))
            have hbx1Hh : Below w16.heap.size w16 x1Hh := hbx0Hh.trans (hvx1Hh.mono hzx0Hh)
            have ksx1Hh := HS_Hh.out _ hbx1Hh
            have hzx1Hh := hbx1Hh.size
            have hzzx1Hh := hvx1Hh.size
            first | have Qb := Lib.hid (Qb.out.below hqx1Hh Qb.out.lt) | have Qb := Lib.hid ((Bk.new x0Hh 32 [.slice none 0 0]).below hqx1Hh (by simp)) | skip
            have hkx0Hh := hkx0Hh.below hvx1Hh hkx0Hh.lt)
          | (
            go_at_call 32
            refine (implJoinPipes_any _ _ l0 _ _ l1 i2 _ x1Hh.heap.size q ok hq (by first | exact hkx0Hh.rdN hkx0Hh.lt | exact (hkx0Hh.alloc _).rdN hkx0Hh.lt) (by first | exact hkx1Hh.rdN hkx1Hh.lt | exact (hkx1Hh.alloc _).rdN hkx1Hh.lt) (by first | exact Nat.le_refl _ | (simp; done) | (simp; omega)) hs0 hs1).mono ?_
            rintro e yHh ⟨Aw, cw, rfl, ho0, hqyHh⟩
            have hvyHh : Below x1Hh.heap.size x1Hh yHh := by first | exact hqyHh | exact ((Below.refl _ _).alloc (Nat.le_refl _) _).trans (hqyHh.mono (by simp))
            have hbyHh : Below w16.heap.size w16 yHh := hbx1Hh.trans (hvyHh.mono hzx1Hh)
            have ho : OwnN yHh x1Hh.heap.size Aw cw q := ho0.base_ (by first | omega | simp)
            have ksyHh := HS_Hh.out _ hbyHh
            have hzyHh := hbyHh.size
            have hzzyHh := hvyHh.size
            first | have hql := Qb.out.lt | skip
            first | have hrow : ∀ g, rowOf Aw = some g → x1Hh.heap.size < g := (fun g hg => by (have h9 := (ho0.row_lt g hg).1; simp at h9; omega)) | have hrow : ∀ g, rowOf Aw = some g → x1Hh.heap.size ≤ g := (fun g hg => (ho0.row_lt g hg).1)
            first | have Qb := Lib.hid (Qb.out.below hqyHh Qb.out.lt) | have Qb := Lib.hid ((Bk.new x1Hh 32 [.slice none 0 0]).below hqyHh (by simp)) | skip
            first | have qc : yHh.cell? ⟨_, 0, none⟩ = some (.slice none 0 0) := Qb.out.cell 0 | skip
            first | have qf := Qb.out.free 0 | skip
            have e0 : w16.heap.size ≠ w.heap.size := by omega
            have e1 : x0Hh.heap.size ≠ w.heap.size := by omega
            have e2 : x1Hh.heap.size ≠ w.heap.size := by omega
            have e3 : w16.heap.size ≠ w.heap.size + 1 := by omega
            have e4 : x0Hh.heap.size ≠ w.heap.size + 1 := by omega
            have e5 : x1Hh.heap.size ≠ w.heap.size + 1 := by omega
            have Ho := Lib.hid ho
            have Hbw := Lib.hid hbyHh
            clear ho ho0 hbyHh hqyHh hvyHh))
      all_goals
        go_wp2_with fail
        go_meet
        first
        | exact ⟨_, Aw, cw, rfl, rfl, CutP.new Hbw.out Ho.out (by omega)⟩
        | exact ⟨_, Aw, cw, rfl, rfl, CutP.set Hbw.out Ho.out Qb.out (by omega) (by omega) (fun g hg => by have := hrow g hg; omega)⟩
    case rest =>
      obtain ⟨w17, rfl⟩ : ∃ W : World, W = wc := ⟨_, rfl⟩
      obtain ⟨bHh, AHh, cHh, rfl, rfl, hcp⟩ := hcut
      have hlo_Hh : w16.heap.size ≤ bHh := hcp.lo
      have hhi_Hh : bHh < w17.heap.size := hcp.box.lt
      have hb17 := hcp.bel
      have Hh : Hid (Held w17 w16.heap.size w17.heap.size (fun v => OwnP v w16.heap.size w17.heap.size AHh cHh q)) := Lib.hid ((OwnP.of hcp.own (Nat.le_refl _)).held hb17.size (Nat.le_refl _))
      have Hhb : Hid (Held w17 bHh (bHh + 1) (fun v => Bk v bHh 32 [.slice AHh q.length cHh])) := Lib.hid hcp.box.held
      clear cb_Hab0 lb_Hab0 cb_Hab1 lb_Hab1
      have hz_w17 : w16.heap.size ≤ w17.heap.size := hb17.size
      replace Hb := Lib.hid (Hb.out.trans (hb17.mono Hb.out.size))
      replace Hab0 := Lib.hid (Hab0.out.below hb17 Hab0.out.top)
      replace Hab1 := Lib.hid (Hab1.out.below hb17 Hab1.out.top)
      replace Ha0 := Lib.hid (Ha0.out.below hb17 Ha0.out.top)
      replace Ha1 := Lib.hid (Ha1.out.below hb17 Ha1.out.top)
      replace Hw := Lib.hid (Hw.out.below hb17 Hw.out.top)
      replace Hwb := Lib.hid (Hwb.out.below hb17 Hwb.out.top)
      replace Hxb0 := Lib.hid (Hxb0.out.below hb17 Hxb0.out.top)
      replace Hxb1 := Lib.hid (Hxb1.out.below hb17 Hxb1.out.top)
      replace Hgb := Lib.hid (Hgb.out.below hb17 Hgb.out.top)
      replace Hgm := Lib.hid (Hgm.out.below hb17 Hgm.out.top)
      clear hb17 hcp HS_Hh
      have cb_Hwb : w17.cell? ⟨bHw, 0, none⟩ = some (.slice AHw q.length cHw) := Hwb.out.out.cell 0
      have lb_Hwb : bHw < w17.heap.size := by have := Hwb.out.top; omega
      have cb_Hhb : w17.cell? ⟨bHh, 0, none⟩ = some (.slice AHh q.length cHh) := Hhb.out.out.cell 0
      have lb_Hhb : bHh < w17.heap.size := by have := Hhb.out.top; omega
      go_wp2_with fail
      refine (eqPipe_any _ _ _ _ q q _ w17.heap.size (Hh.out.out.rdt Hh.out.top) (Hw.out.out.rdt Hw.out.top) (Nat.le_refl _) hqn).mono ?_
      rintro e w18 ⟨rfl, hb18⟩
      rw [decide_eq_true rfl]
      clear cb_Hwb lb_Hwb cb_Hhb lb_Hhb
      have hz_w18 : w17.heap.size ≤ w18.heap.size := hb18.size
      replace Hb := Lib.hid (Hb.out.trans (hb18.mono Hb.out.size))
      replace Hab0 := Lib.hid (Hab0.out.below hb18 Hab0.out.top)
      replace Hab1 := Lib.hid (Hab1.out.below hb18 Hab1.out.top)
      replace Ha0 := Lib.hid (Ha0.out.below hb18 Ha0.out.top)
      replace Ha1 := Lib.hid (Ha1.out.below hb18 Ha1.out.top)
      replace Hw := Lib.hid (Hw.out.below hb18 Hw.out.top)
      replace Hwb := Lib.hid (Hwb.out.below hb18 Hwb.out.top)
      replace Hxb0 := Lib.hid (Hxb0.out.below hb18 Hxb0.out.top)
      replace Hxb1 := Lib.hid (Hxb1.out.below hb18 Hxb1.out.top)
      replace Hgb := Lib.hid (Hgb.out.below hb18 Hgb.out.top)
      replace Hgm := Lib.hid (Hgm.out.below hb18 Hgm.out.top)
      replace Hh := Lib.hid (Hh.out.below hb18 Hh.out.top)
      replace Hhb := Lib.hid (Hhb.out.below hb18 Hhb.out.top)
      clear hb18
      have cb_Hgb : w18.cell? ⟨w6.heap.size, 0, none⟩ = some (.slice AHg q.length cHg) := Hgb.out.out.cell 0
      have lb_Hgb : w6.heap.size < w18.heap.size := by have := Hgb.out.top; omega
      go_wp2_with fail
      refine (heldPipe_any _ _ q.length 1 _ w18.heap.size (Hgm.out.out.rdt Hgm.out.top) (Nat.le_refl _) hqn (by decide) (by decide)).mono ?_
      rintro e w19 ⟨rfl, hb19⟩
      clear cb_Hgb lb_Hgb
      have hz_w19 : w18.heap.size ≤ w19.heap.size := hb19.size
      replace Hb := Lib.hid (Hb.out.trans (hb19.mono Hb.out.size))
      replace Hab0 := Lib.hid (Hab0.out.below hb19 Hab0.out.top)
      replace Hab1 := Lib.hid (Hab1.out.below hb19 Hab1.out.top)
      replace Ha0 := Lib.hid (Ha0.out.below hb19 Ha0.out.top)
      replace Ha1 := Lib.hid (Ha1.out.below hb19 Ha1.out.top)
      replace Hw := Lib.hid (Hw.out.below hb19 Hw.out.top)
      replace Hwb := Lib.hid (Hwb.out.below hb19 Hwb.out.top)
      replace Hxb0 := Lib.hid (Hxb0.out.below hb19 Hxb0.out.top)
      replace Hxb1 := Lib.hid (Hxb1.out.below hb19 Hxb1.out.top)
      replace Hgb := Lib.hid (Hgb.out.below hb19 Hgb.out.top)
      replace Hgm := Lib.hid (Hgm.out.below hb19 Hgm.out.top)
      replace Hh := Lib.hid (Hh.out.below hb19 Hh.out.top)
      replace Hhb := Lib.hid (Hhb.out.below hb19 Hhb.out.top)
      clear hb19
      go_wp2_with fail
      go_ret
      exact ⟨rfl, Hb.out⟩

theorem walk (A0 : Option Addr) (c0 : Nat) (l0 : List Nd) (A1 : Option Addr) (c1 : Nat) (l1 : List Nd) (i2 : Int) (w : World) (hr0 : RdN w w.heap.size A0 l0) (hn0 : l0.length ≤ maxLen) (hr1 : RdN w w.heap.size A1 l1) (hn1 : l1.length ≤ maxLen) :
    Calls Try.prog 8 #[.agg #[.slice A0 l0.length c0], .agg #[.slice A1 l1.length c1], .int .i64 i2] w fun e w' => e = .returned (.bool true) ∧ Below w.heap.size w w' := by
  cases hv : joinOk l0 l1 i2
  · exact walk0 A0 c0 l0 A1 c1 l1 i2 w [] false ⟨fun _ => ⟨rfl, rfl⟩, fun h => absurd (hv.symm.trans h) (by decide)⟩ (by simp) hr0 hn0 hr1 hn1
  · have hp : pipeOk l0 = true := (Bool.and_eq_true_iff.1 hv).1
    have hp2 : pipeOk l1 = true := (Bool.and_eq_true_iff.1 (Bool.and_eq_true_iff.1 hv).2).1
    obtain ⟨ta, hta⟩ := tree_of_pipe hp
    obtain ⟨tb, htb⟩ := tree_of_pipe hp2
    refine walk0 A0 c0 l0 A1 c1 l1 i2 w ((T.fork ⟨i2, 0, 0, 0, 0⟩ ta tb).put 0) true ⟨fun h => absurd (hv.symm.trans h) (by decide), fun _ ha hb => by rw [hta.same ha, htb.same hb]; exact ⟨rfl, rfl⟩⟩ ?_ hr0 hn0 hr1 hn1
    rw [T.put_len]
    have := high_of hp
    have := high_of hp2
    have := hta.size_12 (by omega)
    have := htb.size_12 (by omega)
    simp only [T.size]
    omega


set_option maxRecDepth 100000 in
theorem lifted (os : Os) (started : os.Started) (H : Type) (enc : TypeId × Value → H) :
    ReturnsInHanded {} Try.checked os 8 .any (Rows.fnExactJoinPipesSpec.pre6 enc Try.prog Try.f8 Rows.fnExactJoinPipesRow.domain false) (Rows.fnExactJoinPipesSpec.post enc Try.prog Try.f8 false true false false) := by
  refine returnsInHanded_of_change (C := Try.checked) own started (by kernel_rfl) Try.func8
    (ChangeSpec.witness6 (enc := enc) (C := Try.checked) false ⟨#[], #[.agg #[.slice none 0 0], .agg #[.slice none 0 0], .int .i64 0], []⟩ 8 (by kernel_rfl) (by kernel_rfl) (by kernel_rfl) (by kernel_rfl)) ?_
  intro W base args ds gs before hval0 hW _ _
  have hval : ∀ (j : Nat) t v, Try.f8.params[j]? = some t → args[j]? = some v → Value.okWide Try.prog W .any base t v := hval0
  have hW' := hW
  obtain ⟨p, q, hA0, hV, rfl, hfz, hnd⟩ := hW
  have hA : DataW.TrodAll enc Try.prog W 0 (fun _ => true) true Try.f8.params.toList args.toList ds p := hA0
  rw [Try.params8] at hA hval
  obtain ⟨v0, vs0, d0, ds0, p0, q0, hargs, rfl, rfl, h0, r0⟩ := trodAll_cons hA
  obtain ⟨v1, vs1, d1, ds1, p1, q1, rfl, rfl, rfl, h1, r1⟩ := trodAll_cons r0
  obtain ⟨v2, vs2, d2, ds2, p2, q2, rfl, rfl, rfl, h2, r2⟩ := trodAll_cons r1
  obtain ⟨rfl, rfl, rfl⟩ := trodAll_nil r2
  obtain rfl : args = #[v0, v1, v2] := by cases args; simp_all
  obtain ⟨rfl, rfl⟩ := trodVars_none hV
  have k0 := h0
  have lt0 : ∀ x ∈ p0, x.block < W.heap.size := by obtain ⟨m, hm⟩ := k0; exact DataW.trod_lt m _ _ _ hm
  obtain ⟨A0, len0, cap0, l0, rfl, rfl, hl0, hrd0⟩ := open_pipe Try.underlying24 (by kernel_rfl) rfl (by kernel_rfl) Try.underlying22 Try.underlying74 rfl (by kernel_rfl) (by kernel_rfl) Try.underlying3 (by kernel_rfl) (hval 0 24 v0 rfl rfl) h0
  have k1 := h1
  have lt1 : ∀ x ∈ p1, x.block < W.heap.size := by obtain ⟨m, hm⟩ := k1; exact DataW.trod_lt m _ _ _ hm
  obtain ⟨A1, len1, cap1, l1, rfl, rfl, hl1, hrd1⟩ := open_pipe Try.underlying24 (by kernel_rfl) rfl (by kernel_rfl) Try.underlying22 Try.underlying74 rfl (by kernel_rfl) (by kernel_rfl) Try.underlying3 (by kernel_rfl) (hval 1 24 v1 rfl rfl) h1
  obtain ⟨i2, rfl, rfl, rfl, wi2⟩ := open_int Try.underlying3 (hval 2 3 v2 rfl rfl) h2
  clear hA0 hval0
  refine (walk A0 cap0 l0 A1 cap1 l1 i2 W hrd0 hl0 hrd1 hl1).mono fun e W' ⟨he, bel⟩ => ?_
  subst he
  exact ⟨_, rfl, _, _, _, [], _, [], hW', trodAll_mk1 (shut_bool Try.underlying4 _), (trodAll_cons_mk (Below.trod laidOut (by kernel_rfl) (of_decide_eq_true (by kernel_rfl)) k0 bel lt0) (trodAll_cons_mk (Below.trod laidOut (by kernel_rfl) (of_decide_eq_true (by kernel_rfl)) k1 bel lt1) (trodAll_cons_mk (shut_int Try.underlying3 wi2) trodAll_mk0))), rfl, bel.frame _, fun h => by cases h⟩

theorem fnExactJoinPipes_holds : Rows.FnExactJoinPipesSaid :=
  OpenClaim.holds_of_wide 8 Try.f8 rfl rfl rfl rfl rfl rfl rfl ⟨rfl, rfl, rfl, rfl, rfl⟩ rfl rfl rfl rfl rfl (by kernel_rfl) Try.func8 (by kernel_rfl)
    (of_decide_eq_true (by kernel_rfl)) (by unfold Func.isWrapper; rw [if_neg (of_decide_eq_false (by kernel_rfl))]; exact ⟨rfl, rfl⟩)
    (fun os started H enc _ => lifted os started H enc)

end Go.Proofs.Ytkjhncohanfciaa.LawJoin
