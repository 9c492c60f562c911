/- The law FnExactMoveSources returns true for every input, and its arguments read afterwards as before. Conditions: none. -/
import Derived.Test.YtjfdbcbmpgnahaaRows
import Derived.Test.YtjfdbcbmpgnahaaMove
import Derived.Test.YtjfdbcbmpgnahaaHld
import Derived.Test.YtjfdbcbmpgnahaaNodeE
import Derived.Test.YtjfdbcbmpgnahaaOpenN
import Derived.Test.YtjfdbcbmpgnahaaOpenI
import Derived.Deep.RegionHeld3
import Derived.Deep.DeepMust
namespace Go.Proofs.Ytjfdbcbmpgnahaa.LawMove
open Go.ChangeShapes Go.WideShapes Go.ChangeAt Go.RowKit Go.Deep

theorem own : ownKnob Try.prog.godebug = none := by kernel_rfl
theorem laidOut : laidOutB Try.prog = true := by kernel_rfl

set_option maxRecDepth 100000 in
set_option maxHeartbeats 3200000 in
theorem walk0 (A0 : Option Addr) (c0 : Nat) (l0 : List Nd) (A1 : Option Addr) (c1 : Nat) (l1 : List Int) (w : World) (q : List Nd) (hq : Hid (MoveOf l0 l1 q)) (hqn : q.length ≤ 1048576) (hr0 : RdN w w.heap.size A0 l0) (hn0 : l0.length ≤ maxLen) (hr1 : RdI w w.heap.size A1 l1) (_hn1 : l1.length ≤ maxLen) :
    Calls Try.prog 6 #[.agg #[.slice A0 l0.length c0], .slice A1 l1.length c1] w fun e w' => e = .returned (.bool true) ∧ Below w.heap.size w w' := by
  by_cases hgate1 : 1048576 < l1.length
  · have hgi1 : (1048576 : Int) < l1.length := by omega
    clear hgate1
    go_enter Try.func6, Try.ntmps6
    go_wp2_with fail
    go_ret
    exact ⟨rfl, (Below.refl _ _).alloc (by first | exact Nat.le_refl _ | (simp; done) | (simp; omega)) _⟩
  have hs1 : l1.length ≤ 1048576 := by omega
  have hgi1 : ¬ (1048576 : Int) < l1.length := by omega
  clear hgate1
  obtain ⟨W0, hW0⟩ : ∃ W0 : World, W0 = w.alloc (.cells #[.slice A0 l0.length c0] 24) := ⟨_, rfl⟩
  have hb0 : Below w.heap.size w W0 := by rw [hW0]; exact (Below.refl w.heap.size w).alloc (by first | exact Nat.le_refl _ | (simp; done) | (simp; omega)) _
  have hx0 : Bk W0 w.heap.size 24 [.slice A0 l0.length c0] := by
    rw [hW0]
    skip
    have := Bk.new w 24 [.slice A0 l0.length c0]
    exact this
  have Hab0 := Lib.hid hx0.held
  have Ha0 : Hid (Held W0 0 w.heap.size (fun v => RdN v w.heap.size A0 l0)) := Lib.hid ((hr0.held (Nat.le_refl _)).below hb0 (Nat.le_refl _))
  have Ha1 : Hid (Held W0 0 w.heap.size (fun v => RdI v w.heap.size A1 l1)) := Lib.hid ((hr1.held (Nat.le_refl _)).below hb0 (Nat.le_refl _))
  have hz_W0 : w.heap.size + 1 ≤ W0.heap.size := by rw [hW0]; simp
  have Hb := Lib.hid hb0
  have HW0 := Lib.hid hW0
  clear hb0 hW0 hx0 hr0 hr1 
  go_enter Try.func6, Try.ntmps6
  go_wp2_with fail
  rw [← HW0.out]
  refine (szPipe_any _ _ _ _ _ (by omega) (by omega) hn0).mono ?_
  rintro e w1 ⟨rfl, hb1⟩
  have hz_w1 : W0.heap.size ≤ w1.heap.size := hb1.size
  replace Hb := Lib.hid (Hb.out.trans (hb1.mono Hb.out.size))
  replace Hab0 := Lib.hid (Hab0.out.below hb1 Hab0.out.top)
  replace Ha0 := Lib.hid (Ha0.out.below hb1 Ha0.out.top)
  replace Ha1 := Lib.hid (Ha1.out.below hb1 Ha1.out.top)
  clear hb1
  by_cases hlt0 : (1048576 : Int) < (l0.length : Int)
  · rw [szLeft_no hlt0]
    clear hlt0
    go_wp2_with fail
    go_ret
    exact ⟨rfl, Hb.out⟩
  rw [szLeft_yes hlt0]
  have hleft0 : (0 : Int) ≤ 1048576 - (l0.length : Int) := by omega
  have hs0 : l0.length ≤ 1048576 := by omega
  clear hlt0
  have cb_Hab0 : w1.cell? ⟨w.heap.size, 0, none⟩ = some (.slice A0 l0.length c0) := Hab0.out.out.cell 0
  have lb_Hab0 : w.heap.size < w1.heap.size := by have := Hab0.out.top; omega
  go_wp2_with fail
  refine (toPipe_any A0 c0 l0 _ w.heap.size Ha0.out.out Hb.out.size hs0).mono ?_
  rintro e w2 ⟨g2, rfl, hg2, hk2, hb2⟩
  have ho2 : OwnP w2 w1.heap.size w2.heap.size (some ⟨g2, 0, none⟩) l0.length l0 := OwnP.of (hk2.own (base := w1.heap.size) (by first | exact hg2 | omega) hs0) (Nat.le_refl _)
  have Ht0 : Hid (Held w2 w1.heap.size w2.heap.size (fun v => OwnP v w1.heap.size w2.heap.size (some ⟨g2, 0, none⟩) l0.length l0)) := Lib.hid (ho2.held hb2.size (Nat.le_refl _))
  clear cb_Hab0 lb_Hab0
  have hz_w2 : w1.heap.size ≤ w2.heap.size := hb2.size
  replace Hb := Lib.hid (Hb.out.trans (hb2.mono Hb.out.size))
  replace Hab0 := Lib.hid (Hab0.out.below hb2 Hab0.out.top)
  replace Ha0 := Lib.hid (Ha0.out.below hb2 Ha0.out.top)
  replace Ha1 := Lib.hid (Ha1.out.below hb2 Ha1.out.top)
  clear ho2 hb2 hk2 hg2
  go_wp2_with fail
  refine (toIntS_any A1 c1 l1 _ w.heap.size Ha1.out.out Hb.out.size hs1).mono ?_
  rintro e w3 ⟨rfl, hk3, hb3⟩
  have ho3 : OwnI w3 w2.heap.size w3.heap.size (some ⟨w2.heap.size, 0, none⟩) l1 := hk3.ownI (Nat.le_refl _) hk3.lt
  have Ht1 : Hid (Held w3 w2.heap.size w3.heap.size (fun v => OwnI v w2.heap.size w3.heap.size (some ⟨w2.heap.size, 0, none⟩) l1)) := Lib.hid (ho3.held hb3.size (Nat.le_refl _))
  have hz_w3 : w2.heap.size ≤ w3.heap.size := hb3.size
  replace Hb := Lib.hid (Hb.out.trans (hb3.mono Hb.out.size))
  replace Hab0 := Lib.hid (Hab0.out.below hb3 Hab0.out.top)
  replace Ha0 := Lib.hid (Ha0.out.below hb3 Ha0.out.top)
  replace Ha1 := Lib.hid (Ha1.out.below hb3 Ha1.out.top)
  replace Ht0 := Lib.hid (Ht0.out.below hb3 Ht0.out.top)
  clear ho3 hb3 hk3
  go_wp2_with fail
  refine (specMoveSources_any _ _ l0 _ _ l1 _ w3.heap.size q hq (Ht0.out.out.rdt Ht0.out.top) (Ht1.out.out.rdt Ht1.out.top) (Nat.le_refl _) hs0 hs1).mono ?_
  rintro e w4 ⟨AHw, cHw, rfl, ho4, hb4⟩
  have Hw : Hid (Held w4 w3.heap.size w4.heap.size (fun v => OwnP v w3.heap.size w4.heap.size AHw cHw q)) := Lib.hid ((OwnP.of ho4 (Nat.le_refl _) : OwnP w4 w3.heap.size w4.heap.size AHw cHw q).held hb4.size (Nat.le_refl _))
  have hz_w4 : w3.heap.size ≤ w4.heap.size := hb4.size
  replace Hb := Lib.hid (Hb.out.trans (hb4.mono Hb.out.size))
  replace Hab0 := Lib.hid (Hab0.out.below hb4 Hab0.out.top)
  replace Ha0 := Lib.hid (Ha0.out.below hb4 Ha0.out.top)
  replace Ha1 := Lib.hid (Ha1.out.below hb4 Ha1.out.top)
  replace Ht0 := Lib.hid (Ht0.out.below hb4 Ht0.out.top)
  replace Ht1 := Lib.hid (Ht1.out.below hb4 Ht1.out.top)
  clear ho4 hb4
  have cb_Hab0 : w4.cell? ⟨w.heap.size, 0, none⟩ = some (.slice A0 l0.length c0) := Hab0.out.out.cell 0
  have lb_Hab0 : w.heap.size < w4.heap.size := by have := Hab0.out.top; omega
  obtain ⟨Vw4, hVw4⟩ : ∃ W : World, W = w4.alloc (.cells #[.slice AHw q.length cHw] 32) := ⟨_, rfl⟩
  have hbVw4 : Below w4.heap.size w4 Vw4 := by rw [hVw4]; exact (Below.refl _ _).alloc (Nat.le_refl _) _
  have Hwb : Hid (Held Vw4 w4.heap.size (w4.heap.size + 1) (fun v => Bk v w4.heap.size 32 [.slice AHw q.length cHw])) := Lib.hid (by rw [hVw4]; exact (Bk.new _ _ [_]).held)
  have ht_Hwb : w4.heap.size + 1 ≤ Vw4.heap.size := Hwb.out.top
  have hz_Vw4 : w4.heap.size ≤ Vw4.heap.size := hbVw4.size
  replace Hb := Lib.hid (Hb.out.trans (hbVw4.mono Hb.out.size))
  replace Hab0 := Lib.hid (Hab0.out.below hbVw4 Hab0.out.top)
  replace Ha0 := Lib.hid (Ha0.out.below hbVw4 Ha0.out.top)
  replace Ha1 := Lib.hid (Ha1.out.below hbVw4 Ha1.out.top)
  replace Hw := Lib.hid (Hw.out.below hbVw4 Hw.out.top)
  have HVw4 := Lib.hid hVw4
  clear hVw4 hbVw4
  go_wp2_with fail
  rw [← HVw4.out]
  refine (toPipe_any A0 c0 l0 _ w.heap.size Ha0.out.out Hb.out.size hs0).mono ?_
  rintro e w5 ⟨g5, rfl, hg5, hk5, hb5⟩
  have ho5 : OwnP w5 Vw4.heap.size w5.heap.size (some ⟨g5, 0, none⟩) l0.length l0 := OwnP.of (hk5.own (base := Vw4.heap.size) (by first | exact hg5 | omega) hs0) (Nat.le_refl _)
  have Hx0 : Hid (Held w5 Vw4.heap.size w5.heap.size (fun v => OwnP v Vw4.heap.size w5.heap.size (some ⟨g5, 0, none⟩) l0.length l0)) := Lib.hid (ho5.held hb5.size (Nat.le_refl _))
  clear cb_Hab0 lb_Hab0
  have hz_w5 : Vw4.heap.size ≤ w5.heap.size := hb5.size
  replace Hb := Lib.hid (Hb.out.trans (hb5.mono Hb.out.size))
  replace Hab0 := Lib.hid (Hab0.out.below hb5 Hab0.out.top)
  replace Ha0 := Lib.hid (Ha0.out.below hb5 Ha0.out.top)
  replace Ha1 := Lib.hid (Ha1.out.below hb5 Ha1.out.top)
  replace Hw := Lib.hid (Hw.out.below hb5 Hw.out.top)
  replace Hwb := Lib.hid (Hwb.out.below hb5 Hwb.out.top)
  clear ho5 hb5 hk5 hg5
  obtain ⟨Vw5, hVw5⟩ : ∃ W : World, W = w5.alloc (.cells #[.slice (some ⟨g5, 0, none⟩) l0.length l0.length] 32) := ⟨_, rfl⟩
  have hbVw5 : Below w5.heap.size w5 Vw5 := by rw [hVw5]; exact (Below.refl _ _).alloc (Nat.le_refl _) _
  have Hxb0 : Hid (Held Vw5 w5.heap.size (w5.heap.size + 1) (fun v => Bk v w5.heap.size 32 [.slice (some ⟨g5, 0, none⟩) l0.length l0.length])) := Lib.hid (by rw [hVw5]; exact (Bk.new _ _ [_]).held)
  have ht_Hxb0 : w5.heap.size + 1 ≤ Vw5.heap.size := Hxb0.out.top
  have hz_Vw5 : w5.heap.size ≤ Vw5.heap.size := hbVw5.size
  replace Hb := Lib.hid (Hb.out.trans (hbVw5.mono Hb.out.size))
  replace Hab0 := Lib.hid (Hab0.out.below hbVw5 Hab0.out.top)
  replace Ha0 := Lib.hid (Ha0.out.below hbVw5 Ha0.out.top)
  replace Ha1 := Lib.hid (Ha1.out.below hbVw5 Ha1.out.top)
  replace Hw := Lib.hid (Hw.out.below hbVw5 Hw.out.top)
  replace Hwb := Lib.hid (Hwb.out.below hbVw5 Hwb.out.top)
  replace Hx0 := Lib.hid (Hx0.out.below hbVw5 Hx0.out.top)
  have HVw5 := Lib.hid hVw5
  clear hVw5 hbVw5
  go_wp2_with fail
  rw [← HVw5.out]
  refine (toIntS_any A1 c1 l1 _ w.heap.size Ha1.out.out Hb.out.size hs1).mono ?_
  rintro e w6 ⟨rfl, hk6, hb6⟩
  have ho6 : OwnI w6 Vw5.heap.size w6.heap.size (some ⟨Vw5.heap.size, 0, none⟩) l1 := hk6.ownI (Nat.le_refl _) hk6.lt
  have Hx1 : Hid (Held w6 Vw5.heap.size w6.heap.size (fun v => OwnI v Vw5.heap.size w6.heap.size (some ⟨Vw5.heap.size, 0, none⟩) l1)) := Lib.hid (ho6.held hb6.size (Nat.le_refl _))
  have hz_w6 : Vw5.heap.size ≤ w6.heap.size := hb6.size
  replace Hb := Lib.hid (Hb.out.trans (hb6.mono Hb.out.size))
  replace Hab0 := Lib.hid (Hab0.out.below hb6 Hab0.out.top)
  replace Ha0 := Lib.hid (Ha0.out.below hb6 Ha0.out.top)
  replace Ha1 := Lib.hid (Ha1.out.below hb6 Ha1.out.top)
  replace Hw := Lib.hid (Hw.out.below hb6 Hw.out.top)
  replace Hwb := Lib.hid (Hwb.out.below hb6 Hwb.out.top)
  replace Hx0 := Lib.hid (Hx0.out.below hb6 Hx0.out.top)
  replace Hxb0 := Lib.hid (Hxb0.out.below hb6 Hxb0.out.top)
  clear ho6 hb6 hk6
  have cb_Hxb0 : w6.cell? ⟨w5.heap.size, 0, none⟩ = some (.slice (some ⟨g5, 0, none⟩) l0.length l0.length) := Hxb0.out.out.cell 0
  have lb_Hxb0 : w5.heap.size < w6.heap.size := by have := Hxb0.out.top; omega
  go_wp2_with fail
  refine (implMoveSources_any _ _ l0 _ _ l1 _ w6.heap.size q hq (Hx0.out.out.rdt Hx0.out.top) (Hx1.out.out.rdt Hx1.out.top) (Nat.le_refl _) hs0 hs1).mono ?_
  rintro e w7 ⟨AHg, cHg, rfl, ho7, hb7⟩
  have Hg : Hid (Held w7 w6.heap.size w7.heap.size (fun v => OwnP v w6.heap.size w7.heap.size AHg cHg q)) := Lib.hid ((OwnP.of ho7 (Nat.le_refl _) : OwnP w7 w6.heap.size w7.heap.size AHg cHg q).held hb7.size (Nat.le_refl _))
  clear cb_Hxb0 lb_Hxb0
  have hz_w7 : w6.heap.size ≤ w7.heap.size := hb7.size
  replace Hb := Lib.hid (Hb.out.trans (hb7.mono Hb.out.size))
  replace Hab0 := Lib.hid (Hab0.out.below hb7 Hab0.out.top)
  replace Ha0 := Lib.hid (Ha0.out.below hb7 Ha0.out.top)
  replace Ha1 := Lib.hid (Ha1.out.below hb7 Ha1.out.top)
  replace Hw := Lib.hid (Hw.out.below hb7 Hw.out.top)
  replace Hwb := Lib.hid (Hwb.out.below hb7 Hwb.out.top)
  replace Hx0 := Lib.hid (Hx0.out.below hb7 Hx0.out.top)
  replace Hxb0 := Lib.hid (Hxb0.out.below hb7 Hxb0.out.top)
  replace Hx1 := Lib.hid (Hx1.out.below hb7 Hx1.out.top)
  clear ho7 hb7
  have cb_Hwb : w7.cell? ⟨w4.heap.size, 0, none⟩ = some (.slice AHw q.length cHw) := Hwb.out.out.cell 0
  have lb_Hwb : w4.heap.size < w7.heap.size := by have := Hwb.out.top; omega
  obtain ⟨Vw7, hVw7⟩ : ∃ W : World, W = w7.alloc (.cells #[.slice AHg q.length cHg] 32) := ⟨_, rfl⟩
  have hbVw7 : Below w7.heap.size w7 Vw7 := by rw [hVw7]; exact (Below.refl _ _).alloc (Nat.le_refl _) _
  have Hgb : Hid (Held Vw7 w7.heap.size (w7.heap.size + 1) (fun v => Bk v w7.heap.size 32 [.slice AHg q.length cHg])) := Lib.hid (by rw [hVw7]; exact (Bk.new _ _ [_]).held)
  have ht_Hgb : w7.heap.size + 1 ≤ Vw7.heap.size := Hgb.out.top
  have hz_Vw7 : w7.heap.size ≤ Vw7.heap.size := hbVw7.size
  replace Hb := Lib.hid (Hb.out.trans (hbVw7.mono Hb.out.size))
  replace Hab0 := Lib.hid (Hab0.out.below hbVw7 Hab0.out.top)
  replace Ha0 := Lib.hid (Ha0.out.below hbVw7 Ha0.out.top)
  replace Ha1 := Lib.hid (Ha1.out.below hbVw7 Ha1.out.top)
  replace Hw := Lib.hid (Hw.out.below hbVw7 Hw.out.top)
  replace Hwb := Lib.hid (Hwb.out.below hbVw7 Hwb.out.top)
  replace Hx0 := Lib.hid (Hx0.out.below hbVw7 Hx0.out.top)
  replace Hxb0 := Lib.hid (Hxb0.out.below hbVw7 Hxb0.out.top)
  replace Hx1 := Lib.hid (Hx1.out.below hbVw7 Hx1.out.top)
  replace Hg := Lib.hid (Hg.out.below hbVw7 Hg.out.top)
  have HVw7 := Lib.hid hVw7
  clear hVw7 hbVw7
  go_wp2_with fail
  rw [← HVw7.out]
  refine (eqPipe_any _ _ _ _ q q _ Vw7.heap.size (Hg.out.out.rdt Hg.out.top) (Hw.out.out.rdt Hw.out.top) (Nat.le_refl _) hqn).mono ?_
  rintro e w8 ⟨rfl, hb8⟩
  rw [decide_eq_true rfl]
  clear cb_Hwb lb_Hwb
  have hz_w8 : Vw7.heap.size ≤ w8.heap.size := hb8.size
  replace Hb := Lib.hid (Hb.out.trans (hb8.mono Hb.out.size))
  replace Hab0 := Lib.hid (Hab0.out.below hb8 Hab0.out.top)
  replace Ha0 := Lib.hid (Ha0.out.below hb8 Ha0.out.top)
  replace Ha1 := Lib.hid (Ha1.out.below hb8 Ha1.out.top)
  replace Hw := Lib.hid (Hw.out.below hb8 Hw.out.top)
  replace Hwb := Lib.hid (Hwb.out.below hb8 Hwb.out.top)
  replace Hx0 := Lib.hid (Hx0.out.below hb8 Hx0.out.top)
  replace Hxb0 := Lib.hid (Hxb0.out.below hb8 Hxb0.out.top)
  replace Hx1 := Lib.hid (Hx1.out.below hb8 Hx1.out.top)
  replace Hg := Lib.hid (Hg.out.below hb8 Hg.out.top)
  replace Hgb := Lib.hid (Hgb.out.below hb8 Hgb.out.top)
  clear hb8
  have cb_Hab0 : w8.cell? ⟨w.heap.size, 0, none⟩ = some (.slice A0 l0.length c0) := Hab0.out.out.cell 0
  have lb_Hab0 : w.heap.size < w8.heap.size := by have := Hab0.out.top; omega
  have cb_Hxb0 : w8.cell? ⟨w5.heap.size, 0, none⟩ = some (.slice (some ⟨g5, 0, none⟩) l0.length l0.length) := Hxb0.out.out.cell 0
  have lb_Hxb0 : w5.heap.size < w8.heap.size := by have := Hxb0.out.top; omega
  have HS : Hid (∀ W' : World, Below w8.heap.size w8 W' → W'.cell? ⟨w5.heap.size, 0, none⟩ = some (.slice (some ⟨g5, 0, none⟩) l0.length l0.length) ∧ W'.cell? ⟨w.heap.size, 0, none⟩ = some (.slice A0 l0.length c0)) := Lib.hid (fun W' hb => ⟨(Hxb0.out.below hb Hxb0.out.top).out.cell 0, (Hab0.out.below hb Hab0.out.top).out.cell 0⟩)
  go_wp2_with fail
  go_region_held3 (fun w' => w'.cell? ⟨w5.heap.size, 0, none⟩ = some (.slice (some ⟨g5, 0, none⟩) l0.length l0.length) ∧ w'.cell? ⟨w.heap.size, 0, none⟩ = some (.slice A0 l0.length c0))
    (go_keep)
    (first
        | (
          go_at_call 17
          refine (toPipe_any A0 c0 l0 _ w.heap.size (Ha0.out.drewN 1).out (by first | omega | (simp; omega)) hs0).mono ?_
          rintro e w9 ⟨g9, rfl, hg9, hk9, hb9z⟩
          have hb9 : Below w8.heap.size w8 w9 := ((Below.refl w8.heap.size w8).drew).trans (hb9z.mono (by simp))
          have ks9 := HS.out _ hb9
          have ho9 : OwnP w9 w8.heap.size w9.heap.size (some ⟨g9, 0, none⟩) l0.length l0 := OwnP.of (hk9.own (base := w8.heap.size) (by first | exact hg9 | omega) hs0) (Nat.le_refl _)
          have Hc0 : Hid (Held w9 w8.heap.size w9.heap.size (fun v => OwnP v w8.heap.size w9.heap.size (some ⟨g9, 0, none⟩) l0.length l0)) := Lib.hid (ho9.held hb9.size (Nat.le_refl _))
          have hz_w9 : w8.heap.size ≤ w9.heap.size := hb9.size
          replace Hb := Lib.hid (Hb.out.trans (hb9.mono Hb.out.size))
          replace Hab0 := Lib.hid (Hab0.out.below hb9 Hab0.out.top)
          replace Ha0 := Lib.hid (Ha0.out.below hb9 Ha0.out.top)
          replace Ha1 := Lib.hid (Ha1.out.below hb9 Ha1.out.top)
          replace Hw := Lib.hid (Hw.out.below hb9 Hw.out.top)
          replace Hwb := Lib.hid (Hwb.out.below hb9 Hwb.out.top)
          replace Hx0 := Lib.hid (Hx0.out.below hb9 Hx0.out.top)
          replace Hxb0 := Lib.hid (Hxb0.out.below hb9 Hxb0.out.top)
          replace Hx1 := Lib.hid (Hx1.out.below hb9 Hx1.out.top)
          replace Hg := Lib.hid (Hg.out.below hb9 Hg.out.top)
          replace Hgb := Lib.hid (Hgb.out.below hb9 Hgb.out.top)
          clear ho9 hb9 hk9 hg9 hb9z)
        | (
          go_at_call 21
          refine (eqPipe_any _ _ _ _ l0 l0 _ w9.heap.size (Hx0.out.out.rdt Hx0.out.top) (Hc0.out.out.rdt Hc0.out.top) (Nat.le_refl _) hs0).mono ?_
          rintro e w10 ⟨rfl, hb10⟩
          rw [decide_eq_true rfl]
          have ks10 : w10.cell? ⟨w5.heap.size, 0, none⟩ = some (.slice (some ⟨g5, 0, none⟩) l0.length l0.length) ∧ w10.cell? ⟨w.heap.size, 0, none⟩ = some (.slice A0 l0.length c0) := ⟨(Hxb0.out.below hb10 Hxb0.out.top).out.cell 0, (Hab0.out.below hb10 Hab0.out.top).out.cell 0⟩
          have hz_w10 : w9.heap.size ≤ w10.heap.size := hb10.size
          replace Hb := Lib.hid (Hb.out.trans (hb10.mono Hb.out.size))
          replace Hab0 := Lib.hid (Hab0.out.below hb10 Hab0.out.top)
          replace Ha0 := Lib.hid (Ha0.out.below hb10 Ha0.out.top)
          replace Ha1 := Lib.hid (Ha1.out.below hb10 Ha1.out.top)
          replace Hw := Lib.hid (Hw.out.below hb10 Hw.out.top)
          replace Hwb := Lib.hid (Hwb.out.below hb10 Hwb.out.top)
          replace Hx0 := Lib.hid (Hx0.out.below hb10 Hx0.out.top)
          replace Hxb0 := Lib.hid (Hxb0.out.below hb10 Hxb0.out.top)
          replace Hx1 := Lib.hid (Hx1.out.below hb10 Hx1.out.top)
          replace Hg := Lib.hid (Hg.out.below hb10 Hg.out.top)
          replace Hgb := Lib.hid (Hgb.out.below hb10 Hgb.out.top)
          replace Hc0 := Lib.hid (Hc0.out.below hb10 Hc0.out.top)
          clear hb10))
  clear HS ks9 ks10 cb_Hab0 lb_Hab0 cb_Hxb0 lb_Hxb0 Hc0
  go_wp2_with fail
  refine (toIntS_any A1 c1 l1 _ w.heap.size Ha1.out.out Hb.out.size hs1).mono ?_
  rintro e w11 ⟨rfl, hk11, hb11⟩
  have ho11 : OwnI w11 w10.heap.size w11.heap.size (some ⟨w10.heap.size, 0, none⟩) l1 := hk11.ownI (Nat.le_refl _) hk11.lt
  have Hc1 : Hid (Held w11 w10.heap.size w11.heap.size (fun v => OwnI v w10.heap.size w11.heap.size (some ⟨w10.heap.size, 0, none⟩) l1)) := Lib.hid (ho11.held hb11.size (Nat.le_refl _))
  have hz_w11 : w10.heap.size ≤ w11.heap.size := hb11.size
  replace Hb := Lib.hid (Hb.out.trans (hb11.mono Hb.out.size))
  replace Hab0 := Lib.hid (Hab0.out.below hb11 Hab0.out.top)
  replace Ha0 := Lib.hid (Ha0.out.below hb11 Ha0.out.top)
  replace Ha1 := Lib.hid (Ha1.out.below hb11 Ha1.out.top)
  replace Hw := Lib.hid (Hw.out.below hb11 Hw.out.top)
  replace Hwb := Lib.hid (Hwb.out.below hb11 Hwb.out.top)
  replace Hx0 := Lib.hid (Hx0.out.below hb11 Hx0.out.top)
  replace Hxb0 := Lib.hid (Hxb0.out.below hb11 Hxb0.out.top)
  replace Hx1 := Lib.hid (Hx1.out.below hb11 Hx1.out.top)
  replace Hg := Lib.hid (Hg.out.below hb11 Hg.out.top)
  replace Hgb := Lib.hid (Hgb.out.below hb11 Hgb.out.top)
  clear ho11 hb11 hk11
  go_wp2_with fail
  refine (eqIntS_any _ _ _ _ l1 l1 _ w11.heap.size (Hx1.out.out.rdt Hx1.out.top) (Hc1.out.out.rdt Hc1.out.top) hs1).mono ?_
  rintro e w12 ⟨rfl, hsm12⟩
  have hb12 := hsm12.below w11.heap.size
  rw [decide_eq_true rfl]
  have hz_w12 : w11.heap.size ≤ w12.heap.size := hb12.size
  replace Hb := Lib.hid (Hb.out.trans (hb12.mono Hb.out.size))
  replace Hab0 := Lib.hid (Hab0.out.below hb12 Hab0.out.top)
  replace Ha0 := Lib.hid (Ha0.out.below hb12 Ha0.out.top)
  replace Ha1 := Lib.hid (Ha1.out.below hb12 Ha1.out.top)
  replace Hw := Lib.hid (Hw.out.below hb12 Hw.out.top)
  replace Hwb := Lib.hid (Hwb.out.below hb12 Hwb.out.top)
  replace Hx0 := Lib.hid (Hx0.out.below hb12 Hx0.out.top)
  replace Hxb0 := Lib.hid (Hxb0.out.below hb12 Hxb0.out.top)
  replace Hx1 := Lib.hid (Hx1.out.below hb12 Hx1.out.top)
  replace Hg := Lib.hid (Hg.out.below hb12 Hg.out.top)
  replace Hgb := Lib.hid (Hgb.out.below hb12 Hgb.out.top)
  replace Hc1 := Lib.hid (Hc1.out.below hb12 Hc1.out.top)
  clear hb12 hsm12
  clear Hc1
  have cb_Hxb0 : w12.cell? ⟨w5.heap.size, 0, none⟩ = some (.slice (some ⟨g5, 0, none⟩) l0.length l0.length) := Hxb0.out.out.cell 0
  have lb_Hxb0 : w5.heap.size < w12.heap.size := by have := Hxb0.out.top; omega
  go_wp2_with fail
  refine (markPipe_h (1) Hx0.out.out hs0 (by omega) (by omega)).mono ?_
  rintro e w13 ⟨rfl, -, hc13⟩
  clear cb_Hxb0 lb_Hxb0
  have hz_w13 : w12.heap.size ≤ w13.heap.size := hc13.size
  replace Hb := Lib.hid (hc13.below_ Hb.out (by omega) Hb.out.size)
  replace Hab0 := Lib.hid (Hab0.out.chg hc13 (by omega))
  replace Ha0 := Lib.hid (Ha0.out.chg hc13 (by omega))
  replace Ha1 := Lib.hid (Ha1.out.chg hc13 (by omega))
  replace Hw := Lib.hid (Hw.out.chg hc13 (by omega))
  replace Hwb := Lib.hid (Hwb.out.chg hc13 (by omega))
  replace Hxb0 := Lib.hid (Hxb0.out.chg hc13 (by omega))
  replace Hx1 := Lib.hid (Hx1.out.chg hc13 (by omega))
  replace Hg := Lib.hid (Hg.out.chg hc13 (by omega))
  replace Hgb := Lib.hid (Hgb.out.chg hc13 (by omega))
  clear hc13 Hx0
  have hpos0 : (0 : Int) ≤ 1 + 5 * l0.length := by omega
  go_wp2_with fail
  refine (markIntS_h (1 + 5 * l0.length) Hx1.out.out hs1 (by omega) (by omega)).mono ?_
  rintro e w14 ⟨rfl, -, hc14⟩
  have hz_w14 : w13.heap.size ≤ w14.heap.size := hc14.size
  replace Hb := Lib.hid (hc14.below_ Hb.out (by omega) Hb.out.size)
  replace Hab0 := Lib.hid (Hab0.out.chg hc14 (by omega))
  replace Ha0 := Lib.hid (Ha0.out.chg hc14 (by omega))
  replace Ha1 := Lib.hid (Ha1.out.chg hc14 (by omega))
  replace Hw := Lib.hid (Hw.out.chg hc14 (by omega))
  replace Hwb := Lib.hid (Hwb.out.chg hc14 (by omega))
  replace Hxb0 := Lib.hid (Hxb0.out.chg hc14 (by omega))
  replace Hg := Lib.hid (Hg.out.chg hc14 (by omega))
  replace Hgb := Lib.hid (Hgb.out.chg hc14 (by omega))
  clear hc14 Hx1
  have hpos1 : (0 : Int) ≤ 1 + 5 * l0.length + l1.length := by omega
  have cb_Hwb : w14.cell? ⟨w4.heap.size, 0, none⟩ = some (.slice AHw q.length cHw) := Hwb.out.out.cell 0
  have lb_Hwb : w4.heap.size < w14.heap.size := by have := Hwb.out.top; omega
  have cb_Hgb : w14.cell? ⟨w7.heap.size, 0, none⟩ = some (.slice AHg q.length cHg) := Hgb.out.out.cell 0
  have lb_Hgb : w7.heap.size < w14.heap.size := by have := Hgb.out.top; omega
  go_wp2_with fail
  refine (eqPipe_any _ _ _ _ q q _ w14.heap.size (Hg.out.out.rdt Hg.out.top) (Hw.out.out.rdt Hw.out.top) (Nat.le_refl _) hqn).mono ?_
  rintro e w15 ⟨rfl, hb15⟩
  rw [decide_eq_true rfl]
  clear cb_Hwb lb_Hwb cb_Hgb lb_Hgb
  have hz_w15 : w14.heap.size ≤ w15.heap.size := hb15.size
  replace Hb := Lib.hid (Hb.out.trans (hb15.mono Hb.out.size))
  replace Hab0 := Lib.hid (Hab0.out.below hb15 Hab0.out.top)
  replace Ha0 := Lib.hid (Ha0.out.below hb15 Ha0.out.top)
  replace Ha1 := Lib.hid (Ha1.out.below hb15 Ha1.out.top)
  replace Hw := Lib.hid (Hw.out.below hb15 Hw.out.top)
  replace Hwb := Lib.hid (Hwb.out.below hb15 Hwb.out.top)
  replace Hxb0 := Lib.hid (Hxb0.out.below hb15 Hxb0.out.top)
  replace Hg := Lib.hid (Hg.out.below hb15 Hg.out.top)
  replace Hgb := Lib.hid (Hgb.out.below hb15 Hgb.out.top)
  clear hb15
  have cb_Hgb : w15.cell? ⟨w7.heap.size, 0, none⟩ = some (.slice AHg q.length cHg) := Hgb.out.out.cell 0
  have lb_Hgb : w7.heap.size < w15.heap.size := by have := Hgb.out.top; omega
  go_wp2_with fail
  refine (markPipe_h 1 Hg.out.out hqn (by decide) (by decide)).mono ?_
  rintro e w16 ⟨rfl, ho16, hc16⟩
  clear cb_Hgb lb_Hgb
  have hle_g : w6.heap.size ≤ w7.heap.size := Hg.out.le
  have htop_g : w7.heap.size ≤ w16.heap.size := Nat.le_trans Hg.out.top hc16.size
  have Hgm : Hid (Held w16 w6.heap.size w7.heap.size (fun v => OwnP v w6.heap.size w7.heap.size AHg cHg (mkN q.length 1))) := Lib.hid (ho16.held hle_g htop_g)
  have hz_w16 : w15.heap.size ≤ w16.heap.size := hc16.size
  replace Hb := Lib.hid (hc16.below_ Hb.out (by omega) Hb.out.size)
  replace Hab0 := Lib.hid (Hab0.out.chg hc16 (by omega))
  replace Ha0 := Lib.hid (Ha0.out.chg hc16 (by omega))
  replace Ha1 := Lib.hid (Ha1.out.chg hc16 (by omega))
  replace Hw := Lib.hid (Hw.out.chg hc16 (by omega))
  replace Hwb := Lib.hid (Hwb.out.chg hc16 (by omega))
  replace Hxb0 := Lib.hid (Hxb0.out.chg hc16 (by omega))
  replace Hgb := Lib.hid (Hgb.out.chg hc16 (by omega))
  clear hc16 ho16 Hg
  have hposq : (0 : Int) ≤ 1 + 5 * q.length := by omega
  have cb_Hgb : w16.cell? ⟨w7.heap.size, 0, none⟩ = some (.slice AHg q.length cHg) := Hgb.out.out.cell 0
  have lb_Hgb : w7.heap.size < w16.heap.size := by have := Hgb.out.top; omega
  go_wp2_with fail
  refine (heldPipe_any _ _ q.length 1 _ w16.heap.size (Hgm.out.out.rdt Hgm.out.top) (Nat.le_refl _) hqn (by decide) (by decide)).mono ?_
  rintro e w17 ⟨rfl, hb17⟩
  clear cb_Hgb lb_Hgb
  have hz_w17 : w16.heap.size ≤ w17.heap.size := hb17.size
  replace Hb := Lib.hid (Hb.out.trans (hb17.mono Hb.out.size))
  replace Hab0 := Lib.hid (Hab0.out.below hb17 Hab0.out.top)
  replace Ha0 := Lib.hid (Ha0.out.below hb17 Ha0.out.top)
  replace Ha1 := Lib.hid (Ha1.out.below hb17 Ha1.out.top)
  replace Hw := Lib.hid (Hw.out.below hb17 Hw.out.top)
  replace Hwb := Lib.hid (Hwb.out.below hb17 Hwb.out.top)
  replace Hxb0 := Lib.hid (Hxb0.out.below hb17 Hxb0.out.top)
  replace Hgb := Lib.hid (Hgb.out.below hb17 Hgb.out.top)
  replace Hgm := Lib.hid (Hgm.out.below hb17 Hgm.out.top)
  clear hb17
  have cb_Hab0 : w17.cell? ⟨w.heap.size, 0, none⟩ = some (.slice A0 l0.length c0) := Hab0.out.out.cell 0
  have lb_Hab0 : w.heap.size < w17.heap.size := by have := Hab0.out.top; omega
  go_wp2_with fail
  refine (toPipe_any A0 c0 l0 _ w.heap.size Ha0.out.out Hb.out.size hs0).mono ?_
  rintro e w18 ⟨g18, rfl, hg18, hk18, hb18⟩
  have ho18 : OwnP w18 w17.heap.size w18.heap.size (some ⟨g18, 0, none⟩) l0.length l0 := OwnP.of (hk18.own (base := w17.heap.size) (by first | exact hg18 | omega) hs0) (Nat.le_refl _)
  have Hu0 : Hid (Held w18 w17.heap.size w18.heap.size (fun v => OwnP v w17.heap.size w18.heap.size (some ⟨g18, 0, none⟩) l0.length l0)) := Lib.hid (ho18.held hb18.size (Nat.le_refl _))
  clear cb_Hab0 lb_Hab0
  have hz_w18 : w17.heap.size ≤ w18.heap.size := hb18.size
  replace Hb := Lib.hid (Hb.out.trans (hb18.mono Hb.out.size))
  replace Hab0 := Lib.hid (Hab0.out.below hb18 Hab0.out.top)
  replace Ha0 := Lib.hid (Ha0.out.below hb18 Ha0.out.top)
  replace Ha1 := Lib.hid (Ha1.out.below hb18 Ha1.out.top)
  replace Hw := Lib.hid (Hw.out.below hb18 Hw.out.top)
  replace Hwb := Lib.hid (Hwb.out.below hb18 Hwb.out.top)
  replace Hxb0 := Lib.hid (Hxb0.out.below hb18 Hxb0.out.top)
  replace Hgb := Lib.hid (Hgb.out.below hb18 Hgb.out.top)
  replace Hgm := Lib.hid (Hgm.out.below hb18 Hgm.out.top)
  clear ho18 hb18 hk18 hg18
  go_wp2_with fail
  refine (toIntS_any A1 c1 l1 _ w.heap.size Ha1.out.out Hb.out.size hs1).mono ?_
  rintro e w19 ⟨rfl, hk19, hb19⟩
  have ho19 : OwnI w19 w18.heap.size w19.heap.size (some ⟨w18.heap.size, 0, none⟩) l1 := hk19.ownI (Nat.le_refl _) hk19.lt
  have Hu1 : Hid (Held w19 w18.heap.size w19.heap.size (fun v => OwnI v w18.heap.size w19.heap.size (some ⟨w18.heap.size, 0, none⟩) l1)) := Lib.hid (ho19.held hb19.size (Nat.le_refl _))
  have hz_w19 : w18.heap.size ≤ w19.heap.size := hb19.size
  replace Hb := Lib.hid (Hb.out.trans (hb19.mono Hb.out.size))
  replace Hab0 := Lib.hid (Hab0.out.below hb19 Hab0.out.top)
  replace Ha0 := Lib.hid (Ha0.out.below hb19 Ha0.out.top)
  replace Ha1 := Lib.hid (Ha1.out.below hb19 Ha1.out.top)
  replace Hw := Lib.hid (Hw.out.below hb19 Hw.out.top)
  replace Hwb := Lib.hid (Hwb.out.below hb19 Hwb.out.top)
  replace Hxb0 := Lib.hid (Hxb0.out.below hb19 Hxb0.out.top)
  replace Hgb := Lib.hid (Hgb.out.below hb19 Hgb.out.top)
  replace Hgm := Lib.hid (Hgm.out.below hb19 Hgm.out.top)
  replace Hu0 := Lib.hid (Hu0.out.below hb19 Hu0.out.top)
  clear ho19 hb19 hk19
  go_wp2_with fail
  refine (implMoveSources_any _ _ l0 _ _ l1 _ w19.heap.size q hq (Hu0.out.out.rdt Hu0.out.top) (Hu1.out.out.rdt Hu1.out.top) (Nat.le_refl _) hs0 hs1).mono ?_
  rintro e w20 ⟨AHh, cHh, rfl, ho20, hb20⟩
  have Hh : Hid (Held w20 w19.heap.size w20.heap.size (fun v => OwnP v w19.heap.size w20.heap.size AHh cHh q)) := Lib.hid ((OwnP.of ho20 (Nat.le_refl _) : OwnP w20 w19.heap.size w20.heap.size AHh cHh q).held hb20.size (Nat.le_refl _))
  have hz_w20 : w19.heap.size ≤ w20.heap.size := hb20.size
  replace Hb := Lib.hid (Hb.out.trans (hb20.mono Hb.out.size))
  replace Hab0 := Lib.hid (Hab0.out.below hb20 Hab0.out.top)
  replace Ha0 := Lib.hid (Ha0.out.below hb20 Ha0.out.top)
  replace Ha1 := Lib.hid (Ha1.out.below hb20 Ha1.out.top)
  replace Hw := Lib.hid (Hw.out.below hb20 Hw.out.top)
  replace Hwb := Lib.hid (Hwb.out.below hb20 Hwb.out.top)
  replace Hxb0 := Lib.hid (Hxb0.out.below hb20 Hxb0.out.top)
  replace Hgb := Lib.hid (Hgb.out.below hb20 Hgb.out.top)
  replace Hgm := Lib.hid (Hgm.out.below hb20 Hgm.out.top)
  replace Hu0 := Lib.hid (Hu0.out.below hb20 Hu0.out.top)
  replace Hu1 := Lib.hid (Hu1.out.below hb20 Hu1.out.top)
  clear ho20 hb20
  have cb_Hwb : w20.cell? ⟨w4.heap.size, 0, none⟩ = some (.slice AHw q.length cHw) := Hwb.out.out.cell 0
  have lb_Hwb : w4.heap.size < w20.heap.size := by have := Hwb.out.top; omega
  obtain ⟨Vw20, hVw20⟩ : ∃ W : World, W = w20.alloc (.cells #[.slice AHh q.length cHh] 32) := ⟨_, rfl⟩
  have hbVw20 : Below w20.heap.size w20 Vw20 := by rw [hVw20]; exact (Below.refl _ _).alloc (Nat.le_refl _) _
  have Hhb : Hid (Held Vw20 w20.heap.size (w20.heap.size + 1) (fun v => Bk v w20.heap.size 32 [.slice AHh q.length cHh])) := Lib.hid (by rw [hVw20]; exact (Bk.new _ _ [_]).held)
  have ht_Hhb : w20.heap.size + 1 ≤ Vw20.heap.size := Hhb.out.top
  have hz_Vw20 : w20.heap.size ≤ Vw20.heap.size := hbVw20.size
  replace Hb := Lib.hid (Hb.out.trans (hbVw20.mono Hb.out.size))
  replace Hab0 := Lib.hid (Hab0.out.below hbVw20 Hab0.out.top)
  replace Ha0 := Lib.hid (Ha0.out.below hbVw20 Ha0.out.top)
  replace Ha1 := Lib.hid (Ha1.out.below hbVw20 Ha1.out.top)
  replace Hw := Lib.hid (Hw.out.below hbVw20 Hw.out.top)
  replace Hwb := Lib.hid (Hwb.out.below hbVw20 Hwb.out.top)
  replace Hxb0 := Lib.hid (Hxb0.out.below hbVw20 Hxb0.out.top)
  replace Hgb := Lib.hid (Hgb.out.below hbVw20 Hgb.out.top)
  replace Hgm := Lib.hid (Hgm.out.below hbVw20 Hgm.out.top)
  replace Hh := Lib.hid (Hh.out.below hbVw20 Hh.out.top)
  have HVw20 := Lib.hid hVw20
  clear hVw20 hbVw20
  go_wp2_with fail
  rw [← HVw20.out]
  refine (eqPipe_any _ _ _ _ q q _ Vw20.heap.size (Hh.out.out.rdt Hh.out.top) (Hw.out.out.rdt Hw.out.top) (Nat.le_refl _) hqn).mono ?_
  rintro e w21 ⟨rfl, hb21⟩
  rw [decide_eq_true rfl]
  clear cb_Hwb lb_Hwb
  have hz_w21 : Vw20.heap.size ≤ w21.heap.size := hb21.size
  replace Hb := Lib.hid (Hb.out.trans (hb21.mono Hb.out.size))
  replace Hab0 := Lib.hid (Hab0.out.below hb21 Hab0.out.top)
  replace Ha0 := Lib.hid (Ha0.out.below hb21 Ha0.out.top)
  replace Ha1 := Lib.hid (Ha1.out.below hb21 Ha1.out.top)
  replace Hw := Lib.hid (Hw.out.below hb21 Hw.out.top)
  replace Hwb := Lib.hid (Hwb.out.below hb21 Hwb.out.top)
  replace Hxb0 := Lib.hid (Hxb0.out.below hb21 Hxb0.out.top)
  replace Hgb := Lib.hid (Hgb.out.below hb21 Hgb.out.top)
  replace Hgm := Lib.hid (Hgm.out.below hb21 Hgm.out.top)
  replace Hh := Lib.hid (Hh.out.below hb21 Hh.out.top)
  replace Hhb := Lib.hid (Hhb.out.below hb21 Hhb.out.top)
  clear hb21
  have cb_Hgb : w21.cell? ⟨w7.heap.size, 0, none⟩ = some (.slice AHg q.length cHg) := Hgb.out.out.cell 0
  have lb_Hgb : w7.heap.size < w21.heap.size := by have := Hgb.out.top; omega
  go_wp2_with fail
  refine (heldPipe_any _ _ q.length 1 _ w21.heap.size (Hgm.out.out.rdt Hgm.out.top) (Nat.le_refl _) hqn (by decide) (by decide)).mono ?_
  rintro e w22 ⟨rfl, hb22⟩
  clear cb_Hgb lb_Hgb
  have hz_w22 : w21.heap.size ≤ w22.heap.size := hb22.size
  replace Hb := Lib.hid (Hb.out.trans (hb22.mono Hb.out.size))
  replace Hab0 := Lib.hid (Hab0.out.below hb22 Hab0.out.top)
  replace Ha0 := Lib.hid (Ha0.out.below hb22 Ha0.out.top)
  replace Ha1 := Lib.hid (Ha1.out.below hb22 Ha1.out.top)
  replace Hw := Lib.hid (Hw.out.below hb22 Hw.out.top)
  replace Hwb := Lib.hid (Hwb.out.below hb22 Hwb.out.top)
  replace Hxb0 := Lib.hid (Hxb0.out.below hb22 Hxb0.out.top)
  replace Hgb := Lib.hid (Hgb.out.below hb22 Hgb.out.top)
  replace Hgm := Lib.hid (Hgm.out.below hb22 Hgm.out.top)
  replace Hh := Lib.hid (Hh.out.below hb22 Hh.out.top)
  replace Hhb := Lib.hid (Hhb.out.below hb22 Hhb.out.top)
  clear hb22
  go_wp2_with fail
  go_ret
  exact ⟨rfl, Hb.out⟩

theorem walk (A0 : Option Addr) (c0 : Nat) (l0 : List Nd) (A1 : Option Addr) (c1 : Nat) (l1 : List Int) (w : World) (hr0 : RdN w w.heap.size A0 l0) (hn0 : l0.length ≤ maxLen) (hr1 : RdI w w.heap.size A1 l1) (hn1 : l1.length ≤ maxLen) :
    Calls Try.prog 6 #[.agg #[.slice A0 l0.length c0], .slice A1 l1.length c1] w fun e w' => e = .returned (.bool true) ∧ Below w.heap.size w w' := by
  cases hv : moveOk l0 l1
  · exact walk0 A0 c0 l0 A1 c1 l1 w [] ⟨fun _ => rfl, fun h => absurd (hv.symm.trans h) (by decide)⟩ (by simp) hr0 hn0 hr1 hn1
  · refine walk0 A0 c0 l0 A1 c1 l1 w (l0.map (mvNd l1)) ⟨fun h => absurd (hv.symm.trans h) (by decide), fun _ => rfl⟩ ?_ hr0 hn0 hr1 hn1
    have hp : pipeOk l0 = true := (Bool.and_eq_true_iff.1 hv).1
    have := high_of hp
    rw [List.length_map]
    omega


set_option maxRecDepth 100000 in
theorem lifted (os : Os) (started : os.Started) (H : Type) (enc : TypeId × Value → H) :
    ReturnsInHanded {} Try.checked os 6 .any (Rows.fnExactMoveSourcesSpec.pre6 enc Try.prog Try.f6 Rows.fnExactMoveSourcesRow.domain false) (Rows.fnExactMoveSourcesSpec.post enc Try.prog Try.f6 false true false false) := by
  refine returnsInHanded_of_change (C := Try.checked) own started (by kernel_rfl) Try.func6
    (ChangeSpec.witness6 (enc := enc) (C := Try.checked) false ⟨#[], #[.agg #[.slice none 0 0], .slice none 0 0], []⟩ 8 (by kernel_rfl) (by kernel_rfl) (by kernel_rfl) (by kernel_rfl)) ?_
  intro W base args ds gs before hval0 hW _ _
  have hval : ∀ (j : Nat) t v, Try.f6.params[j]? = some t → args[j]? = some v → Value.okWide Try.prog W .any base t v := hval0
  have hW' := hW
  obtain ⟨p, q, hA0, hV, rfl, hfz, hnd⟩ := hW
  have hA : DataW.TrodAll enc Try.prog W 0 (fun _ => true) true Try.f6.params.toList args.toList ds p := hA0
  rw [Try.params6] at hA hval
  obtain ⟨v0, vs0, d0, ds0, p0, q0, hargs, rfl, rfl, h0, r0⟩ := trodAll_cons hA
  obtain ⟨v1, vs1, d1, ds1, p1, q1, rfl, rfl, rfl, h1, r1⟩ := trodAll_cons r0
  obtain ⟨rfl, rfl, rfl⟩ := trodAll_nil r1
  obtain rfl : args = #[v0, v1] := by cases args; simp_all
  obtain ⟨rfl, rfl⟩ := trodVars_none hV
  have k0 := h0
  have lt0 : ∀ x ∈ p0, x.block < W.heap.size := by obtain ⟨m, hm⟩ := k0; exact DataW.trod_lt m _ _ _ hm
  obtain ⟨A0, len0, cap0, l0, rfl, rfl, hl0, hrd0⟩ := open_pipe Try.underlying24 (by kernel_rfl) rfl (by kernel_rfl) Try.underlying22 Try.underlying114 rfl (by kernel_rfl) (by kernel_rfl) Try.underlying3 (by kernel_rfl) (hval 0 24 v0 rfl rfl) h0
  obtain ⟨a1, len1, cap1, rfl⟩ := okWide_slice Try.underlying28 (hval 1 28 v1 rfl rfl)
  have k1 := h1
  have lt1 : ∀ x ∈ p1, x.block < W.heap.size := by obtain ⟨m, hm⟩ := k1; exact DataW.trod_lt m _ _ _ hm
  obtain ⟨l1, rfl, hl1, hrd1⟩ := open_nums Try.underlying28 Try.underlying3 (by kernel_rfl) h1
  clear hA0 hval0
  refine (walk A0 cap0 l0 a1 cap1 l1 W hrd0 hl0 hrd1 hl1).mono fun e W' ⟨he, bel⟩ => ?_
  subst he
  exact ⟨_, rfl, _, _, _, [], _, [], hW', trodAll_mk1 (shut_bool Try.underlying4 _), (trodAll_cons_mk (Below.trod laidOut (by kernel_rfl) (of_decide_eq_true (by kernel_rfl)) k0 bel lt0) (trodAll_cons_mk (Below.trod laidOut (by kernel_rfl) (of_decide_eq_true (by kernel_rfl)) k1 bel lt1) trodAll_mk0)), rfl, bel.frame _, fun h => by cases h⟩

theorem fnExactMoveSources_holds : Rows.FnExactMoveSourcesSaid :=
  OpenClaim.holds_of_wide 6 Try.f6 rfl rfl rfl rfl rfl rfl rfl ⟨rfl, rfl, rfl, rfl, rfl⟩ rfl rfl rfl rfl rfl (by kernel_rfl) Try.func6 (by kernel_rfl)
    (of_decide_eq_true (by kernel_rfl)) (by unfold Func.isWrapper; rw [if_neg (of_decide_eq_false (by kernel_rfl))]; exact ⟨rfl, rfl⟩)
    (fun os started H enc _ => lifted os started H enc)

end Go.Proofs.Ytjfdbcbmpgnahaa.LawMove
