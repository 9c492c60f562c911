/- The law FnExactDrainAll returns true for every input, and its arguments read afterwards as before. Conditions: none. -/
import Derived.Test.YtjhdjfobbgfpfaaRows
import Derived.Test.YtjhdjfobbgfpfaaMPT
import Derived.Test.YtjhdjfobbgfpfaaMPS
import Derived.Test.YtjhdjfobbgfpfaaMPR
import Derived.Test.YtjhdjfobbgfpfaaMPB
import Derived.Deep.RegionHeld3
import Derived.Deep.CutRange
import Derived.Deep.DeepMust
namespace Go.Proofs.Ytjhdjfobbgfpfaa.LawDrain
open Go.ChangeShapes Go.WideShapes Go.ChangeAt Go.RowKit Go.Deep

theorem own : ownKnob Try.prog.godebug = none := by kernel_rfl
theorem laidOut : laidOutB Try.prog = true := by kernel_rfl

set_option maxRecDepth 100000 in
set_option maxHeartbeats 12800000 in
theorem walk0 (A0 : Option Addr) (c0 : Nat) (l0 : List Nd) (A1 : Option Addr) (c1 : Nat) (l1 : List (List Int)) (w : World) (q : List Int) (p : List Pl) (hq : Hid (DrainQ l0 l1 q p)) (hqn0 : q.length ≤ 1048576) (hqn1 : p.length ≤ 1048576) (hr0 : RdN w w.heap.size A0 l0) (hn0 : l0.length ≤ maxLen) (hr1 : RdR w w.heap.size A1 l1) (hn1 : l1.length ≤ maxLen) (hm1 : ∀ r ∈ l1, r.length ≤ maxLen) :
    Calls Try.prog 6 #[.agg #[.slice A0 l0.length c0], .slice A1 l1.length c1] w fun e w' => e = .returned (.bool true) ∧ Below w.heap.size w w' := by
  obtain ⟨W0, hW0⟩ : ∃ W0 : World, W0 = w.alloc (.cells #[.slice A0 l0.length c0] 24) := ⟨_, rfl⟩
  have hb0 : Below w.heap.size w W0 := by rw [hW0]; exact (Below.refl w.heap.size w).alloc (by first | exact Nat.le_refl _ | (simp; done) | (simp; omega)) _
  have hx0 : Bk W0 w.heap.size 24 [.slice A0 l0.length c0] := by
    rw [hW0]
    skip
    have := Bk.new w 24 [.slice A0 l0.length c0]
    exact this
  have Hab0 := Lib.hid hx0.held
  have Ha0 : Hid (Held W0 0 w.heap.size (fun v => RdN v w.heap.size A0 l0)) := Lib.hid ((hr0.held (Nat.le_refl _)).below hb0 (Nat.le_refl _))
  have Ha1 : Hid (Held W0 0 w.heap.size (fun v => RdR v w.heap.size A1 l1)) := Lib.hid ((hr1.held (Nat.le_refl _)).below hb0 (Nat.le_refl _))
  have Hml1 := Lib.hid hm1
  have hz_W0 : w.heap.size + 1 ≤ W0.heap.size := by rw [hW0]; simp
  have Hb := Lib.hid hb0
  have HW0 := Lib.hid hW0
  clear hb0 hW0 hx0 hr0 hr1 hm1
  go_enter Try.func6, Try.ntmps6
  go_wp2_with fail
  rw [← HW0.out]
  refine (szPipe_any _ _ _ _ _ (by omega) (by omega) hn0).mono ?_
  rintro e w1 ⟨rfl, hb1⟩
  have hz_w1 : W0.heap.size ≤ w1.heap.size := hb1.size
  replace Hb := Lib.hid (Hb.out.trans (hb1.mono Hb.out.size))
  replace Hab0 := Lib.hid (Hab0.out.below hb1 Hab0.out.top)
  replace Ha0 := Lib.hid (Ha0.out.below hb1 Ha0.out.top)
  replace Ha1 := Lib.hid (Ha1.out.below hb1 Ha1.out.top)
  clear hb1
  by_cases hlt0 : (1048576 : Int) < (l0.length : Int)
  · rw [szLeft_no hlt0]
    clear hlt0
    go_wp2_with fail
    go_ret
    exact ⟨rfl, Hb.out⟩
  rw [szLeft_yes hlt0]
  have hleft0 : (0 : Int) ≤ 1048576 - (l0.length : Int) := by omega
  have hs0 : l0.length ≤ 1048576 := by omega
  clear hlt0
  go_wp2_with fail
  refine (szIntSS_any _ _ _ _ _ _ Ha1.out.out (by omega) (by omega) hn1 Hml1.out).mono ?_
  rintro e w2 ⟨rfl, rfl⟩
  -- the world is the same
  by_cases hlt1 : (1048576 - (l0.length : Int) : Int) < (bulk l1 : Int)
  · rw [szLeft_no hlt1]
    clear hlt1
    go_wp2_with fail
    go_ret
    exact ⟨rfl, Hb.out⟩
  rw [szLeft_yes hlt1]
  have hleft1 : (0 : Int) ≤ 1048576 - (l0.length : Int) - (bulk l1 : Int) := by omega
  have hs1 : l1.length ≤ 1048576 := by have := bulk_len l1; omega
  have hbk1 : bulk l1 ≤ 1048576 := by omega
  have Hm1 : Hid (∀ r ∈ l1, r.length ≤ 1048576) := Lib.hid (fun r hr => by have := bulk_row hr; omega)
  clear hlt1
  have cb_Hab0 : w1.cell? ⟨w.heap.size, 0, none⟩ = some (.slice A0 l0.length c0) := Hab0.out.out.cell 0
  have lb_Hab0 : w.heap.size < w1.heap.size := by have := Hab0.out.top; omega
  go_wp2_with fail
  refine (toPipe_any A0 c0 l0 _ w.heap.size Ha0.out.out Hb.out.size hs0).mono ?_
  rintro e w3 ⟨g3, rfl, hg3, hk3, hb3⟩
  have ho3 : OwnP w3 w1.heap.size w3.heap.size (some ⟨g3, 0, none⟩) l0.length l0 := OwnP.of (hk3.own (base := w1.heap.size) (by first | exact hg3 | omega) hs0) (Nat.le_refl _)
  have Ht0 : Hid (Held w3 w1.heap.size w3.heap.size (fun v => OwnP v w1.heap.size w3.heap.size (some ⟨g3, 0, none⟩) l0.length l0)) := Lib.hid (ho3.held hb3.size (Nat.le_refl _))
  clear cb_Hab0 lb_Hab0
  have hz_w3 : w1.heap.size ≤ w3.heap.size := hb3.size
  replace Hb := Lib.hid (Hb.out.trans (hb3.mono Hb.out.size))
  replace Hab0 := Lib.hid (Hab0.out.below hb3 Hab0.out.top)
  replace Ha0 := Lib.hid (Ha0.out.below hb3 Ha0.out.top)
  replace Ha1 := Lib.hid (Ha1.out.below hb3 Ha1.out.top)
  clear ho3 hb3 hk3 hg3
  go_wp2_with fail
  refine (toIntSS_any A1 c1 l1 _ w.heap.size Ha1.out.out Hb.out.size hs1 Hm1.out).mono ?_
  rintro e w4 ⟨rfl, hk4, hb4⟩
  have ho4 : OwnS w4 w3.heap.size w4.heap.size (some ⟨w3.heap.size, 0, none⟩) l1 := OwnS.of hk4
  have Ht1 : Hid (Held w4 w3.heap.size w4.heap.size (fun v => OwnS v w3.heap.size w4.heap.size (some ⟨w3.heap.size, 0, none⟩) l1)) := Lib.hid (ho4.held hb4.size (Nat.le_refl _))
  have hz_w4 : w3.heap.size ≤ w4.heap.size := hb4.size
  replace Hb := Lib.hid (Hb.out.trans (hb4.mono Hb.out.size))
  replace Hab0 := Lib.hid (Hab0.out.below hb4 Hab0.out.top)
  replace Ha0 := Lib.hid (Ha0.out.below hb4 Ha0.out.top)
  replace Ha1 := Lib.hid (Ha1.out.below hb4 Ha1.out.top)
  replace Ht0 := Lib.hid (Ht0.out.below hb4 Ht0.out.top)
  clear ho4 hb4 hk4
  go_wp2_with fail
  refine (specDrainAll_l (A := _) (c := _) l0 (As := _) (ca := _) l1 _ w4.heap.size q p hq (Ht0.out.out.rdt Ht0.out.top) (Ht1.out.out.rdt Ht1.out.top) (Nat.le_refl _) hs0 hs1 Hm1).mono ?_
  rintro e w5 ⟨AHw0, cHw0, AHw1, cHw1, loHw0, hiHw0, loHw1, hiHw1, rfl, hap, ho0_5, ho1_5, hb5⟩
  obtain ⟨hapHw0, hapHw1, hapHw2, hapHw3, hapHw4, hapHw5, hapHw6⟩ := hap
  have Hw0 : Hid (Held w5 loHw0 hiHw0 (fun v => OwnI v loHw0 hiHw0 AHw0 q)) := Lib.hid ((ho0_5 : OwnI w5 loHw0 hiHw0 AHw0 q).held (by omega) (by omega))
  have Hw1 : Hid (Held w5 loHw1 hiHw1 (fun v => OwnPl v loHw1 hiHw1 AHw1 p)) := Lib.hid ((ho1_5 : OwnPl w5 loHw1 hiHw1 AHw1 p).held (by omega) (by omega))
  have hz_w5 : w4.heap.size ≤ w5.heap.size := hb5.size
  replace Hb := Lib.hid (Hb.out.trans (hb5.mono Hb.out.size))
  replace Hab0 := Lib.hid (Hab0.out.below hb5 Hab0.out.top)
  replace Ha0 := Lib.hid (Ha0.out.below hb5 Ha0.out.top)
  replace Ha1 := Lib.hid (Ha1.out.below hb5 Ha1.out.top)
  replace Ht0 := Lib.hid (Ht0.out.below hb5 Ht0.out.top)
  replace Ht1 := Lib.hid (Ht1.out.below hb5 Ht1.out.top)
  clear hb5 ho0_5 ho1_5
  have cb_Hab0 : w5.cell? ⟨w.heap.size, 0, none⟩ = some (.slice A0 l0.length c0) := Hab0.out.out.cell 0
  have lb_Hab0 : w.heap.size < w5.heap.size := by have := Hab0.out.top; omega
  go_wp2_with fail
  refine (toPipe_any A0 c0 l0 _ w.heap.size Ha0.out.out Hb.out.size hs0).mono ?_
  rintro e w6 ⟨g6, rfl, hg6, hk6, hb6⟩
  have ho6 : OwnP w6 w5.heap.size w6.heap.size (some ⟨g6, 0, none⟩) l0.length l0 := OwnP.of (hk6.own (base := w5.heap.size) (by first | exact hg6 | omega) hs0) (Nat.le_refl _)
  have Hx0 : Hid (Held w6 w5.heap.size w6.heap.size (fun v => OwnP v w5.heap.size w6.heap.size (some ⟨g6, 0, none⟩) l0.length l0)) := Lib.hid (ho6.held hb6.size (Nat.le_refl _))
  clear cb_Hab0 lb_Hab0
  have hz_w6 : w5.heap.size ≤ w6.heap.size := hb6.size
  replace Hb := Lib.hid (Hb.out.trans (hb6.mono Hb.out.size))
  replace Hab0 := Lib.hid (Hab0.out.below hb6 Hab0.out.top)
  replace Ha0 := Lib.hid (Ha0.out.below hb6 Ha0.out.top)
  replace Ha1 := Lib.hid (Ha1.out.below hb6 Ha1.out.top)
  replace Hw0 := Lib.hid (Hw0.out.below hb6 Hw0.out.top)
  replace Hw1 := Lib.hid (Hw1.out.below hb6 Hw1.out.top)
  clear ho6 hb6 hk6 hg6
  obtain ⟨Vw6, hVw6⟩ : ∃ W : World, W = w6.alloc (.cells #[.slice (some ⟨g6, 0, none⟩) l0.length l0.length] 32) := ⟨_, rfl⟩
  have hbVw6 : Below w6.heap.size w6 Vw6 := by rw [hVw6]; exact (Below.refl _ _).alloc (Nat.le_refl _) _
  have Hxb0 : Hid (Held Vw6 w6.heap.size (w6.heap.size + 1) (fun v => Bk v w6.heap.size 32 [.slice (some ⟨g6, 0, none⟩) l0.length l0.length])) := Lib.hid (by rw [hVw6]; exact (Bk.new _ _ [_]).held)
  have ht_Hxb0 : w6.heap.size + 1 ≤ Vw6.heap.size := Hxb0.out.top
  have hz_Vw6 : w6.heap.size ≤ Vw6.heap.size := hbVw6.size
  replace Hb := Lib.hid (Hb.out.trans (hbVw6.mono Hb.out.size))
  replace Hab0 := Lib.hid (Hab0.out.below hbVw6 Hab0.out.top)
  replace Ha0 := Lib.hid (Ha0.out.below hbVw6 Ha0.out.top)
  replace Ha1 := Lib.hid (Ha1.out.below hbVw6 Ha1.out.top)
  replace Hw0 := Lib.hid (Hw0.out.below hbVw6 Hw0.out.top)
  replace Hw1 := Lib.hid (Hw1.out.below hbVw6 Hw1.out.top)
  replace Hx0 := Lib.hid (Hx0.out.below hbVw6 Hx0.out.top)
  have HVw6 := Lib.hid hVw6
  clear hVw6 hbVw6
  go_wp2_with fail
  rw [← HVw6.out]
  refine (toIntSS_any A1 c1 l1 _ w.heap.size Ha1.out.out Hb.out.size hs1 Hm1.out).mono ?_
  rintro e w7 ⟨rfl, hk7, hb7⟩
  have ho7 : OwnS w7 Vw6.heap.size w7.heap.size (some ⟨Vw6.heap.size, 0, none⟩) l1 := OwnS.of hk7
  have Hx1 : Hid (Held w7 Vw6.heap.size w7.heap.size (fun v => OwnS v Vw6.heap.size w7.heap.size (some ⟨Vw6.heap.size, 0, none⟩) l1)) := Lib.hid (ho7.held hb7.size (Nat.le_refl _))
  have hz_w7 : Vw6.heap.size ≤ w7.heap.size := hb7.size
  replace Hb := Lib.hid (Hb.out.trans (hb7.mono Hb.out.size))
  replace Hab0 := Lib.hid (Hab0.out.below hb7 Hab0.out.top)
  replace Ha0 := Lib.hid (Ha0.out.below hb7 Ha0.out.top)
  replace Ha1 := Lib.hid (Ha1.out.below hb7 Ha1.out.top)
  replace Hw0 := Lib.hid (Hw0.out.below hb7 Hw0.out.top)
  replace Hw1 := Lib.hid (Hw1.out.below hb7 Hw1.out.top)
  replace Hx0 := Lib.hid (Hx0.out.below hb7 Hx0.out.top)
  replace Hxb0 := Lib.hid (Hxb0.out.below hb7 Hxb0.out.top)
  clear ho7 hb7 hk7
  have cb_Hxb0 : w7.cell? ⟨w6.heap.size, 0, none⟩ = some (.slice (some ⟨g6, 0, none⟩) l0.length l0.length) := Hxb0.out.out.cell 0
  have lb_Hxb0 : w6.heap.size < w7.heap.size := by have := Hxb0.out.top; omega
  go_wp2_with fail
  refine (implDrainAll_l (A := _) (c := _) l0 (As := _) (ca := _) l1 _ w7.heap.size q p hq (Hx0.out.out.rdt Hx0.out.top) (Hx1.out.out.rdt Hx1.out.top) (Nat.le_refl _) hs0 hs1 Hm1).mono ?_
  rintro e w8 ⟨AHg0, cHg0, AHg1, cHg1, loHg0, hiHg0, loHg1, hiHg1, rfl, hap, ho0_8, ho1_8, hb8⟩
  obtain ⟨hapHg0, hapHg1, hapHg2, hapHg3, hapHg4, hapHg5, hapHg6⟩ := hap
  have Hg0 : Hid (Held w8 loHg0 hiHg0 (fun v => OwnI v loHg0 hiHg0 AHg0 q)) := Lib.hid ((ho0_8 : OwnI w8 loHg0 hiHg0 AHg0 q).held (by omega) (by omega))
  have Hg1 : Hid (Held w8 loHg1 hiHg1 (fun v => OwnPl v loHg1 hiHg1 AHg1 p)) := Lib.hid ((ho1_8 : OwnPl w8 loHg1 hiHg1 AHg1 p).held (by omega) (by omega))
  clear cb_Hxb0 lb_Hxb0
  have hz_w8 : w7.heap.size ≤ w8.heap.size := hb8.size
  replace Hb := Lib.hid (Hb.out.trans (hb8.mono Hb.out.size))
  replace Hab0 := Lib.hid (Hab0.out.below hb8 Hab0.out.top)
  replace Ha0 := Lib.hid (Ha0.out.below hb8 Ha0.out.top)
  replace Ha1 := Lib.hid (Ha1.out.below hb8 Ha1.out.top)
  replace Hw0 := Lib.hid (Hw0.out.below hb8 Hw0.out.top)
  replace Hw1 := Lib.hid (Hw1.out.below hb8 Hw1.out.top)
  replace Hx0 := Lib.hid (Hx0.out.below hb8 Hx0.out.top)
  replace Hxb0 := Lib.hid (Hxb0.out.below hb8 Hxb0.out.top)
  replace Hx1 := Lib.hid (Hx1.out.below hb8 Hx1.out.top)
  clear hb8 ho0_8 ho1_8
  go_wp2_with fail
  refine (eqIntS_any _ _ _ _ q q _ w8.heap.size (Hg0.out.out.rdt Hg0.out.top) (Hw0.out.out.rdt Hw0.out.top) hqn0).mono ?_
  rintro e w9 ⟨rfl, hsm9⟩
  have hb9 := hsm9.below w8.heap.size
  rw [decide_eq_true rfl]
  have hz_w9 : w8.heap.size ≤ w9.heap.size := hb9.size
  replace Hb := Lib.hid (Hb.out.trans (hb9.mono Hb.out.size))
  replace Hab0 := Lib.hid (Hab0.out.below hb9 Hab0.out.top)
  replace Ha0 := Lib.hid (Ha0.out.below hb9 Ha0.out.top)
  replace Ha1 := Lib.hid (Ha1.out.below hb9 Ha1.out.top)
  replace Hw0 := Lib.hid (Hw0.out.below hb9 Hw0.out.top)
  replace Hw1 := Lib.hid (Hw1.out.below hb9 Hw1.out.top)
  replace Hx0 := Lib.hid (Hx0.out.below hb9 Hx0.out.top)
  replace Hxb0 := Lib.hid (Hxb0.out.below hb9 Hxb0.out.top)
  replace Hx1 := Lib.hid (Hx1.out.below hb9 Hx1.out.top)
  replace Hg0 := Lib.hid (Hg0.out.below hb9 Hg0.out.top)
  replace Hg1 := Lib.hid (Hg1.out.below hb9 Hg1.out.top)
  clear hb9 hsm9
  go_wp2_with fail
  refine (eqPullS_any _ _ _ _ p p _ w9.heap.size (Hg1.out.out.rdt Hg1.out.top) (Hw1.out.out.rdt Hw1.out.top) (Nat.le_refl _) hqn1).mono ?_
  rintro e w10 ⟨rfl, hb10⟩
  rw [decide_eq_true rfl]
  have hz_w10 : w9.heap.size ≤ w10.heap.size := hb10.size
  replace Hb := Lib.hid (Hb.out.trans (hb10.mono Hb.out.size))
  replace Hab0 := Lib.hid (Hab0.out.below hb10 Hab0.out.top)
  replace Ha0 := Lib.hid (Ha0.out.below hb10 Ha0.out.top)
  replace Ha1 := Lib.hid (Ha1.out.below hb10 Ha1.out.top)
  replace Hw0 := Lib.hid (Hw0.out.below hb10 Hw0.out.top)
  replace Hw1 := Lib.hid (Hw1.out.below hb10 Hw1.out.top)
  replace Hx0 := Lib.hid (Hx0.out.below hb10 Hx0.out.top)
  replace Hxb0 := Lib.hid (Hxb0.out.below hb10 Hxb0.out.top)
  replace Hx1 := Lib.hid (Hx1.out.below hb10 Hx1.out.top)
  replace Hg0 := Lib.hid (Hg0.out.below hb10 Hg0.out.top)
  replace Hg1 := Lib.hid (Hg1.out.below hb10 Hg1.out.top)
  clear hb10
  have cb_Hab0 : w10.cell? ⟨w.heap.size, 0, none⟩ = some (.slice A0 l0.length c0) := Hab0.out.out.cell 0
  have lb_Hab0 : w.heap.size < w10.heap.size := by have := Hab0.out.top; omega
  have cb_Hxb0 : w10.cell? ⟨w6.heap.size, 0, none⟩ = some (.slice (some ⟨g6, 0, none⟩) l0.length l0.length) := Hxb0.out.out.cell 0
  have lb_Hxb0 : w6.heap.size < w10.heap.size := by have := Hxb0.out.top; omega
  have HS : Hid (∀ W' : World, Below w10.heap.size w10 W' → W'.cell? ⟨w6.heap.size, 0, none⟩ = some (.slice (some ⟨g6, 0, none⟩) l0.length l0.length) ∧ W'.cell? ⟨w.heap.size, 0, none⟩ = some (.slice A0 l0.length c0)) := Lib.hid (fun W' hb => ⟨(Hxb0.out.below hb Hxb0.out.top).out.cell 0, (Hab0.out.below hb Hab0.out.top).out.cell 0⟩)
  go_wp2_with fail
  go_region_held3 (fun w' => w'.cell? ⟨w6.heap.size, 0, none⟩ = some (.slice (some ⟨g6, 0, none⟩) l0.length l0.length) ∧ w'.cell? ⟨w.heap.size, 0, none⟩ = some (.slice A0 l0.length c0))
    (go_keep)
    (first
        | (
          go_at_call 17
          refine (toPipe_any A0 c0 l0 _ w.heap.size (Ha0.out.drewN 1).out (by first | omega | (simp; omega)) hs0).mono ?_
          rintro e w11 ⟨g11, rfl, hg11, hk11, hb11z⟩
          have hb11 : Below w10.heap.size w10 w11 := ((Below.refl w10.heap.size w10).drew).trans (hb11z.mono (by simp))
          have ks11 := HS.out _ hb11
          have ho11 : OwnP w11 w10.heap.size w11.heap.size (some ⟨g11, 0, none⟩) l0.length l0 := OwnP.of (hk11.own (base := w10.heap.size) (by first | exact hg11 | omega) hs0) (Nat.le_refl _)
          have Hc0 : Hid (Held w11 w10.heap.size w11.heap.size (fun v => OwnP v w10.heap.size w11.heap.size (some ⟨g11, 0, none⟩) l0.length l0)) := Lib.hid (ho11.held hb11.size (Nat.le_refl _))
          have hz_w11 : w10.heap.size ≤ w11.heap.size := hb11.size
          replace Hb := Lib.hid (Hb.out.trans (hb11.mono Hb.out.size))
          replace Hab0 := Lib.hid (Hab0.out.below hb11 Hab0.out.top)
          replace Ha0 := Lib.hid (Ha0.out.below hb11 Ha0.out.top)
          replace Ha1 := Lib.hid (Ha1.out.below hb11 Ha1.out.top)
          replace Hw0 := Lib.hid (Hw0.out.below hb11 Hw0.out.top)
          replace Hw1 := Lib.hid (Hw1.out.below hb11 Hw1.out.top)
          replace Hx0 := Lib.hid (Hx0.out.below hb11 Hx0.out.top)
          replace Hxb0 := Lib.hid (Hxb0.out.below hb11 Hxb0.out.top)
          replace Hx1 := Lib.hid (Hx1.out.below hb11 Hx1.out.top)
          replace Hg0 := Lib.hid (Hg0.out.below hb11 Hg0.out.top)
          replace Hg1 := Lib.hid (Hg1.out.below hb11 Hg1.out.top)
          clear ho11 hb11 hk11 hg11 hb11z)
        | (
          go_at_call 21
          refine (eqPipe_any _ _ _ _ l0 l0 _ w11.heap.size (Hx0.out.out.rdt Hx0.out.top) (Hc0.out.out.rdt Hc0.out.top) (Nat.le_refl _) hs0).mono ?_
          rintro e w12 ⟨rfl, hb12⟩
          rw [decide_eq_true rfl]
          have ks12 : w12.cell? ⟨w6.heap.size, 0, none⟩ = some (.slice (some ⟨g6, 0, none⟩) l0.length l0.length) ∧ w12.cell? ⟨w.heap.size, 0, none⟩ = some (.slice A0 l0.length c0) := ⟨(Hxb0.out.below hb12 Hxb0.out.top).out.cell 0, (Hab0.out.below hb12 Hab0.out.top).out.cell 0⟩
          have hz_w12 : w11.heap.size ≤ w12.heap.size := hb12.size
          replace Hb := Lib.hid (Hb.out.trans (hb12.mono Hb.out.size))
          replace Hab0 := Lib.hid (Hab0.out.below hb12 Hab0.out.top)
          replace Ha0 := Lib.hid (Ha0.out.below hb12 Ha0.out.top)
          replace Ha1 := Lib.hid (Ha1.out.below hb12 Ha1.out.top)
          replace Hw0 := Lib.hid (Hw0.out.below hb12 Hw0.out.top)
          replace Hw1 := Lib.hid (Hw1.out.below hb12 Hw1.out.top)
          replace Hx0 := Lib.hid (Hx0.out.below hb12 Hx0.out.top)
          replace Hxb0 := Lib.hid (Hxb0.out.below hb12 Hxb0.out.top)
          replace Hx1 := Lib.hid (Hx1.out.below hb12 Hx1.out.top)
          replace Hg0 := Lib.hid (Hg0.out.below hb12 Hg0.out.top)
          replace Hg1 := Lib.hid (Hg1.out.below hb12 Hg1.out.top)
          replace Hc0 := Lib.hid (Hc0.out.below hb12 Hc0.out.top)
          clear hb12))
  clear HS ks11 ks12 cb_Hab0 lb_Hab0 cb_Hxb0 lb_Hxb0 Hc0
  go_wp2_with fail
  refine (toIntSS_any A1 c1 l1 _ w.heap.size Ha1.out.out Hb.out.size hs1 Hm1.out).mono ?_
  rintro e w13 ⟨rfl, hk13, hb13⟩
  have ho13 : OwnS w13 w12.heap.size w13.heap.size (some ⟨w12.heap.size, 0, none⟩) l1 := OwnS.of hk13
  have Hc1 : Hid (Held w13 w12.heap.size w13.heap.size (fun v => OwnS v w12.heap.size w13.heap.size (some ⟨w12.heap.size, 0, none⟩) l1)) := Lib.hid (ho13.held hb13.size (Nat.le_refl _))
  have hz_w13 : w12.heap.size ≤ w13.heap.size := hb13.size
  replace Hb := Lib.hid (Hb.out.trans (hb13.mono Hb.out.size))
  replace Hab0 := Lib.hid (Hab0.out.below hb13 Hab0.out.top)
  replace Ha0 := Lib.hid (Ha0.out.below hb13 Ha0.out.top)
  replace Ha1 := Lib.hid (Ha1.out.below hb13 Ha1.out.top)
  replace Hw0 := Lib.hid (Hw0.out.below hb13 Hw0.out.top)
  replace Hw1 := Lib.hid (Hw1.out.below hb13 Hw1.out.top)
  replace Hx0 := Lib.hid (Hx0.out.below hb13 Hx0.out.top)
  replace Hxb0 := Lib.hid (Hxb0.out.below hb13 Hxb0.out.top)
  replace Hx1 := Lib.hid (Hx1.out.below hb13 Hx1.out.top)
  replace Hg0 := Lib.hid (Hg0.out.below hb13 Hg0.out.top)
  replace Hg1 := Lib.hid (Hg1.out.below hb13 Hg1.out.top)
  clear ho13 hb13 hk13
  go_wp2_with fail
  refine (eqIntSS_any _ _ _ _ l1 l1 _ w13.heap.size (Hx1.out.out.rdt Hx1.out.top) (Hc1.out.out.rdt Hc1.out.top) hs1 Hm1.out).mono ?_
  rintro e w14 ⟨rfl, hsm14⟩
  have hb14 := hsm14.below w13.heap.size
  rw [decide_eq_true rfl]
  have hz_w14 : w13.heap.size ≤ w14.heap.size := hb14.size
  replace Hb := Lib.hid (Hb.out.trans (hb14.mono Hb.out.size))
  replace Hab0 := Lib.hid (Hab0.out.below hb14 Hab0.out.top)
  replace Ha0 := Lib.hid (Ha0.out.below hb14 Ha0.out.top)
  replace Ha1 := Lib.hid (Ha1.out.below hb14 Ha1.out.top)
  replace Hw0 := Lib.hid (Hw0.out.below hb14 Hw0.out.top)
  replace Hw1 := Lib.hid (Hw1.out.below hb14 Hw1.out.top)
  replace Hx0 := Lib.hid (Hx0.out.below hb14 Hx0.out.top)
  replace Hxb0 := Lib.hid (Hxb0.out.below hb14 Hxb0.out.top)
  replace Hx1 := Lib.hid (Hx1.out.below hb14 Hx1.out.top)
  replace Hg0 := Lib.hid (Hg0.out.below hb14 Hg0.out.top)
  replace Hg1 := Lib.hid (Hg1.out.below hb14 Hg1.out.top)
  replace Hc1 := Lib.hid (Hc1.out.below hb14 Hc1.out.top)
  clear hb14 hsm14
  clear Hc1
  have cb_Hxb0 : w14.cell? ⟨w6.heap.size, 0, none⟩ = some (.slice (some ⟨g6, 0, none⟩) l0.length l0.length) := Hxb0.out.out.cell 0
  have lb_Hxb0 : w6.heap.size < w14.heap.size := by have := Hxb0.out.top; omega
  go_wp2_with fail
  refine (markPipe_h (1) Hx0.out.out hs0 (by omega) (by omega)).mono ?_
  rintro e w15 ⟨rfl, -, hc15⟩
  clear cb_Hxb0 lb_Hxb0
  have hz_w15 : w14.heap.size ≤ w15.heap.size := hc15.size
  replace Hb := Lib.hid (hc15.below_ Hb.out (by omega) Hb.out.size)
  replace Hab0 := Lib.hid (Hab0.out.chg hc15 (by omega))
  replace Ha0 := Lib.hid (Ha0.out.chg hc15 (by omega))
  replace Ha1 := Lib.hid (Ha1.out.chg hc15 (by omega))
  replace Hw0 := Lib.hid (Hw0.out.chg hc15 (by omega))
  replace Hw1 := Lib.hid (Hw1.out.chg hc15 (by omega))
  replace Hxb0 := Lib.hid (Hxb0.out.chg hc15 (by omega))
  replace Hx1 := Lib.hid (Hx1.out.chg hc15 (by omega))
  replace Hg0 := Lib.hid (Hg0.out.chg hc15 (by omega))
  replace Hg1 := Lib.hid (Hg1.out.chg hc15 (by omega))
  clear hc15 Hx0
  have hpos0 : (0 : Int) ≤ 1 + 5 * l0.length := by omega
  go_wp2_with fail
  refine (markIntSS_h (1 + 5 * l0.length) Hx1.out.out hs1 Hm1.out hbk1 (by omega) (by omega)).mono ?_
  rintro e w16 ⟨rfl, hc16⟩
  have hz_w16 : w15.heap.size ≤ w16.heap.size := hc16.size
  replace Hb := Lib.hid (hc16.below_ Hb.out (by omega) Hb.out.size)
  replace Hab0 := Lib.hid (Hab0.out.chg hc16 (by omega))
  replace Ha0 := Lib.hid (Ha0.out.chg hc16 (by omega))
  replace Ha1 := Lib.hid (Ha1.out.chg hc16 (by omega))
  replace Hw0 := Lib.hid (Hw0.out.chg hc16 (by omega))
  replace Hw1 := Lib.hid (Hw1.out.chg hc16 (by omega))
  replace Hxb0 := Lib.hid (Hxb0.out.chg hc16 (by omega))
  replace Hg0 := Lib.hid (Hg0.out.chg hc16 (by omega))
  replace Hg1 := Lib.hid (Hg1.out.chg hc16 (by omega))
  clear hc16 Hx1
  have hpos1 : (0 : Int) ≤ 1 + 5 * l0.length + ((l1.map List.length).sum : Nat) := by omega
  go_wp2_with fail
  refine (eqIntS_any _ _ _ _ q q _ w16.heap.size (Hg0.out.out.rdt Hg0.out.top) (Hw0.out.out.rdt Hw0.out.top) hqn0).mono ?_
  rintro e w17 ⟨rfl, hsm17⟩
  have hb17 := hsm17.below w16.heap.size
  rw [decide_eq_true rfl]
  have hz_w17 : w16.heap.size ≤ w17.heap.size := hb17.size
  replace Hb := Lib.hid (Hb.out.trans (hb17.mono Hb.out.size))
  replace Hab0 := Lib.hid (Hab0.out.below hb17 Hab0.out.top)
  replace Ha0 := Lib.hid (Ha0.out.below hb17 Ha0.out.top)
  replace Ha1 := Lib.hid (Ha1.out.below hb17 Ha1.out.top)
  replace Hw0 := Lib.hid (Hw0.out.below hb17 Hw0.out.top)
  replace Hw1 := Lib.hid (Hw1.out.below hb17 Hw1.out.top)
  replace Hxb0 := Lib.hid (Hxb0.out.below hb17 Hxb0.out.top)
  replace Hg0 := Lib.hid (Hg0.out.below hb17 Hg0.out.top)
  replace Hg1 := Lib.hid (Hg1.out.below hb17 Hg1.out.top)
  clear hb17 hsm17
  go_wp2_with fail
  refine (eqPullS_any _ _ _ _ p p _ w17.heap.size (Hg1.out.out.rdt Hg1.out.top) (Hw1.out.out.rdt Hw1.out.top) (Nat.le_refl _) hqn1).mono ?_
  rintro e w18 ⟨rfl, hb18⟩
  rw [decide_eq_true rfl]
  have hz_w18 : w17.heap.size ≤ w18.heap.size := hb18.size
  replace Hb := Lib.hid (Hb.out.trans (hb18.mono Hb.out.size))
  replace Hab0 := Lib.hid (Hab0.out.below hb18 Hab0.out.top)
  replace Ha0 := Lib.hid (Ha0.out.below hb18 Ha0.out.top)
  replace Ha1 := Lib.hid (Ha1.out.below hb18 Ha1.out.top)
  replace Hw0 := Lib.hid (Hw0.out.below hb18 Hw0.out.top)
  replace Hw1 := Lib.hid (Hw1.out.below hb18 Hw1.out.top)
  replace Hxb0 := Lib.hid (Hxb0.out.below hb18 Hxb0.out.top)
  replace Hg0 := Lib.hid (Hg0.out.below hb18 Hg0.out.top)
  replace Hg1 := Lib.hid (Hg1.out.below hb18 Hg1.out.top)
  clear hb18
  go_wp2_with fail
  refine (markIntS_h (1) Hg0.out.out hqn0 (by omega) (by omega)).mono ?_
  rintro e w19 ⟨rfl, ho19, hc19⟩
  have hle_0 : loHg0 ≤ hiHg0 := Hg0.out.le
  have htop_0 : hiHg0 ≤ w19.heap.size := Nat.le_trans Hg0.out.top hc19.size
  have Hgm0 : Hid (Held w19 loHg0 hiHg0 (fun v => OwnI v loHg0 hiHg0 AHg0 (mkI q.length (1)))) := Lib.hid (ho19.held hle_0 htop_0)
  have hz_w19 : w18.heap.size ≤ w19.heap.size := hc19.size
  replace Hb := Lib.hid (hc19.below_ Hb.out (by omega) Hb.out.size)
  replace Hab0 := Lib.hid (Hab0.out.chg hc19 (by omega))
  replace Ha0 := Lib.hid (Ha0.out.chg hc19 (by omega))
  replace Ha1 := Lib.hid (Ha1.out.chg hc19 (by omega))
  replace Hw0 := Lib.hid (Hw0.out.chg hc19 (by omega))
  replace Hw1 := Lib.hid (Hw1.out.chg hc19 (by omega))
  replace Hxb0 := Lib.hid (Hxb0.out.chg hc19 (by omega))
  replace Hg1 := Lib.hid (Hg1.out.chg hc19 (by omega))
  clear hc19 ho19 Hg0
  have hposq0 : (0 : Int) ≤ 1 + q.length := by omega
  go_wp2_with fail
  refine (markPullS_h (1 + q.length) Hg1.out.out hqn1 (by omega) (by omega)).mono ?_
  rintro e w20 ⟨rfl, ho20, hc20⟩
  have hle_1 : loHg1 ≤ hiHg1 := Hg1.out.le
  have htop_1 : hiHg1 ≤ w20.heap.size := Nat.le_trans Hg1.out.top hc20.size
  have Hgm1 : Hid (Held w20 loHg1 hiHg1 (fun v => OwnPl v loHg1 hiHg1 AHg1 (mkPl p.length (1 + q.length)))) := Lib.hid (ho20.held hle_1 htop_1)
  have hz_w20 : w19.heap.size ≤ w20.heap.size := hc20.size
  replace Hb := Lib.hid (hc20.below_ Hb.out (by omega) Hb.out.size)
  replace Hab0 := Lib.hid (Hab0.out.chg hc20 (by omega))
  replace Ha0 := Lib.hid (Ha0.out.chg hc20 (by omega))
  replace Ha1 := Lib.hid (Ha1.out.chg hc20 (by omega))
  replace Hw0 := Lib.hid (Hw0.out.chg hc20 (by omega))
  replace Hw1 := Lib.hid (Hw1.out.chg hc20 (by omega))
  replace Hxb0 := Lib.hid (Hxb0.out.chg hc20 (by omega))
  replace Hgm0 := Lib.hid (Hgm0.out.chg hc20 (by omega))
  clear hc20 ho20 Hg1
  have hposq1 : (0 : Int) ≤ 1 + q.length + 2 * p.length := by omega
  go_wp2_with fail
  refine (heldIntS_any _ _ q.length (1) _ w20.heap.size (Hgm0.out.out.rdt Hgm0.out.top) hqn0 (by omega) (by omega)).mono ?_
  rintro e w21 ⟨rfl, rfl⟩
  -- the same world
  go_wp2_with fail
  refine (heldPullS_any _ _ p.length (1 + q.length) _ w20.heap.size (Hgm1.out.out.rdt Hgm1.out.top) hqn1 (by omega) (by omega)).mono ?_
  rintro e w22 ⟨rfl, rfl⟩
  -- the same world
  have cb_Hab0 : w20.cell? ⟨w.heap.size, 0, none⟩ = some (.slice A0 l0.length c0) := Hab0.out.out.cell 0
  have lb_Hab0 : w.heap.size < w20.heap.size := by have := Hab0.out.top; omega
  go_wp2_with fail
  refine (toPipe_any A0 c0 l0 _ w.heap.size Ha0.out.out Hb.out.size hs0).mono ?_
  rintro e w23 ⟨g23, rfl, hg23, hk23, hb23⟩
  have ho23 : OwnP w23 w20.heap.size w23.heap.size (some ⟨g23, 0, none⟩) l0.length l0 := OwnP.of (hk23.own (base := w20.heap.size) (by first | exact hg23 | omega) hs0) (Nat.le_refl _)
  have Hu0 : Hid (Held w23 w20.heap.size w23.heap.size (fun v => OwnP v w20.heap.size w23.heap.size (some ⟨g23, 0, none⟩) l0.length l0)) := Lib.hid (ho23.held hb23.size (Nat.le_refl _))
  clear cb_Hab0 lb_Hab0
  have hz_w23 : w20.heap.size ≤ w23.heap.size := hb23.size
  replace Hb := Lib.hid (Hb.out.trans (hb23.mono Hb.out.size))
  replace Hab0 := Lib.hid (Hab0.out.below hb23 Hab0.out.top)
  replace Ha0 := Lib.hid (Ha0.out.below hb23 Ha0.out.top)
  replace Ha1 := Lib.hid (Ha1.out.below hb23 Ha1.out.top)
  replace Hw0 := Lib.hid (Hw0.out.below hb23 Hw0.out.top)
  replace Hw1 := Lib.hid (Hw1.out.below hb23 Hw1.out.top)
  replace Hxb0 := Lib.hid (Hxb0.out.below hb23 Hxb0.out.top)
  replace Hgm0 := Lib.hid (Hgm0.out.below hb23 Hgm0.out.top)
  replace Hgm1 := Lib.hid (Hgm1.out.below hb23 Hgm1.out.top)
  clear ho23 hb23 hk23 hg23
  go_wp2_with fail
  refine (toIntSS_any A1 c1 l1 _ w.heap.size Ha1.out.out Hb.out.size hs1 Hm1.out).mono ?_
  rintro e w24 ⟨rfl, hk24, hb24⟩
  have ho24 : OwnS w24 w23.heap.size w24.heap.size (some ⟨w23.heap.size, 0, none⟩) l1 := OwnS.of hk24
  have Hu1 : Hid (Held w24 w23.heap.size w24.heap.size (fun v => OwnS v w23.heap.size w24.heap.size (some ⟨w23.heap.size, 0, none⟩) l1)) := Lib.hid (ho24.held hb24.size (Nat.le_refl _))
  have hz_w24 : w23.heap.size ≤ w24.heap.size := hb24.size
  replace Hb := Lib.hid (Hb.out.trans (hb24.mono Hb.out.size))
  replace Hab0 := Lib.hid (Hab0.out.below hb24 Hab0.out.top)
  replace Ha0 := Lib.hid (Ha0.out.below hb24 Ha0.out.top)
  replace Ha1 := Lib.hid (Ha1.out.below hb24 Ha1.out.top)
  replace Hw0 := Lib.hid (Hw0.out.below hb24 Hw0.out.top)
  replace Hw1 := Lib.hid (Hw1.out.below hb24 Hw1.out.top)
  replace Hxb0 := Lib.hid (Hxb0.out.below hb24 Hxb0.out.top)
  replace Hgm0 := Lib.hid (Hgm0.out.below hb24 Hgm0.out.top)
  replace Hgm1 := Lib.hid (Hgm1.out.below hb24 Hgm1.out.top)
  replace Hu0 := Lib.hid (Hu0.out.below hb24 Hu0.out.top)
  clear ho24 hb24 hk24
  go_wp2_with fail
  refine (implDrainAll_l (A := _) (c := _) l0 (As := _) (ca := _) l1 _ w24.heap.size q p hq (Hu0.out.out.rdt Hu0.out.top) (Hu1.out.out.rdt Hu1.out.top) (Nat.le_refl _) hs0 hs1 Hm1).mono ?_
  rintro e w25 ⟨AHh0, cHh0, AHh1, cHh1, loHh0, hiHh0, loHh1, hiHh1, rfl, hap, ho0_25, ho1_25, hb25⟩
  obtain ⟨hapHh0, hapHh1, hapHh2, hapHh3, hapHh4, hapHh5, hapHh6⟩ := hap
  have Hh0 : Hid (Held w25 loHh0 hiHh0 (fun v => OwnI v loHh0 hiHh0 AHh0 q)) := Lib.hid ((ho0_25 : OwnI w25 loHh0 hiHh0 AHh0 q).held (by omega) (by omega))
  have Hh1 : Hid (Held w25 loHh1 hiHh1 (fun v => OwnPl v loHh1 hiHh1 AHh1 p)) := Lib.hid ((ho1_25 : OwnPl w25 loHh1 hiHh1 AHh1 p).held (by omega) (by omega))
  have hz_w25 : w24.heap.size ≤ w25.heap.size := hb25.size
  replace Hb := Lib.hid (Hb.out.trans (hb25.mono Hb.out.size))
  replace Hab0 := Lib.hid (Hab0.out.below hb25 Hab0.out.top)
  replace Ha0 := Lib.hid (Ha0.out.below hb25 Ha0.out.top)
  replace Ha1 := Lib.hid (Ha1.out.below hb25 Ha1.out.top)
  replace Hw0 := Lib.hid (Hw0.out.below hb25 Hw0.out.top)
  replace Hw1 := Lib.hid (Hw1.out.below hb25 Hw1.out.top)
  replace Hxb0 := Lib.hid (Hxb0.out.below hb25 Hxb0.out.top)
  replace Hgm0 := Lib.hid (Hgm0.out.below hb25 Hgm0.out.top)
  replace Hgm1 := Lib.hid (Hgm1.out.below hb25 Hgm1.out.top)
  replace Hu0 := Lib.hid (Hu0.out.below hb25 Hu0.out.top)
  replace Hu1 := Lib.hid (Hu1.out.below hb25 Hu1.out.top)
  clear hb25 ho0_25 ho1_25
  go_wp2_with fail
  refine (eqIntS_any _ _ _ _ q q _ w25.heap.size (Hh0.out.out.rdt Hh0.out.top) (Hw0.out.out.rdt Hw0.out.top) hqn0).mono ?_
  rintro e w26 ⟨rfl, hsm26⟩
  have hb26 := hsm26.below w25.heap.size
  rw [decide_eq_true rfl]
  have hz_w26 : w25.heap.size ≤ w26.heap.size := hb26.size
  replace Hb := Lib.hid (Hb.out.trans (hb26.mono Hb.out.size))
  replace Hab0 := Lib.hid (Hab0.out.below hb26 Hab0.out.top)
  replace Ha0 := Lib.hid (Ha0.out.below hb26 Ha0.out.top)
  replace Ha1 := Lib.hid (Ha1.out.below hb26 Ha1.out.top)
  replace Hw0 := Lib.hid (Hw0.out.below hb26 Hw0.out.top)
  replace Hw1 := Lib.hid (Hw1.out.below hb26 Hw1.out.top)
  replace Hxb0 := Lib.hid (Hxb0.out.below hb26 Hxb0.out.top)
  replace Hgm0 := Lib.hid (Hgm0.out.below hb26 Hgm0.out.top)
  replace Hgm1 := Lib.hid (Hgm1.out.below hb26 Hgm1.out.top)
  replace Hh0 := Lib.hid (Hh0.out.below hb26 Hh0.out.top)
  replace Hh1 := Lib.hid (Hh1.out.below hb26 Hh1.out.top)
  clear hb26 hsm26
  go_wp2_with fail
  refine (eqPullS_any _ _ _ _ p p _ w26.heap.size (Hh1.out.out.rdt Hh1.out.top) (Hw1.out.out.rdt Hw1.out.top) (Nat.le_refl _) hqn1).mono ?_
  rintro e w27 ⟨rfl, hb27⟩
  rw [decide_eq_true rfl]
  have hz_w27 : w26.heap.size ≤ w27.heap.size := hb27.size
  replace Hb := Lib.hid (Hb.out.trans (hb27.mono Hb.out.size))
  replace Hab0 := Lib.hid (Hab0.out.below hb27 Hab0.out.top)
  replace Ha0 := Lib.hid (Ha0.out.below hb27 Ha0.out.top)
  replace Ha1 := Lib.hid (Ha1.out.below hb27 Ha1.out.top)
  replace Hw0 := Lib.hid (Hw0.out.below hb27 Hw0.out.top)
  replace Hw1 := Lib.hid (Hw1.out.below hb27 Hw1.out.top)
  replace Hxb0 := Lib.hid (Hxb0.out.below hb27 Hxb0.out.top)
  replace Hgm0 := Lib.hid (Hgm0.out.below hb27 Hgm0.out.top)
  replace Hgm1 := Lib.hid (Hgm1.out.below hb27 Hgm1.out.top)
  replace Hh0 := Lib.hid (Hh0.out.below hb27 Hh0.out.top)
  replace Hh1 := Lib.hid (Hh1.out.below hb27 Hh1.out.top)
  clear hb27
  go_wp2_with fail
  refine (heldIntS_any _ _ q.length (1) _ w27.heap.size (Hgm0.out.out.rdt Hgm0.out.top) hqn0 (by omega) (by omega)).mono ?_
  rintro e w28 ⟨rfl, rfl⟩
  -- the same world
  go_wp2_with fail
  refine (heldPullS_any _ _ p.length (1 + q.length) _ w27.heap.size (Hgm1.out.out.rdt Hgm1.out.top) hqn1 (by omega) (by omega)).mono ?_
  rintro e w29 ⟨rfl, rfl⟩
  -- the same world
  go_wp2_with fail
  go_ret
  exact ⟨rfl, Hb.out⟩

theorem walk (A0 : Option Addr) (c0 : Nat) (l0 : List Nd) (A1 : Option Addr) (c1 : Nat) (l1 : List (List Int)) (w : World) (hr0 : RdN w w.heap.size A0 l0) (hn0 : l0.length ≤ maxLen) (hr1 : RdR w w.heap.size A1 l1) (hn1 : l1.length ≤ maxLen) (hm1 : ∀ r ∈ l1, r.length ≤ maxLen) :
    Calls Try.prog 6 #[.agg #[.slice A0 l0.length c0], .slice A1 l1.length c1] w fun e w' => e = .returned (.bool true) ∧ Below w.heap.size w w' := by
  obtain ⟨pre, s, h⟩ := OutQ.ex l0 l1 200
  have hz := h.sizes
  exact walk0 A0 c0 l0 A1 c1 l1 w pre s.lg (Lib.hid ⟨s, h, rfl⟩) (by omega) (by omega) hr0 hn0 hr1 hn1 hm1


set_option maxRecDepth 100000 in
theorem lifted (os : Os) (started : os.Started) (H : Type) (enc : TypeId × Value → H) :
    ReturnsInHanded {} Try.checked os 6 .any (Rows.fnExactDrainAllSpec.pre6 enc Try.prog Try.f6 Rows.fnExactDrainAllRow.domain false) (Rows.fnExactDrainAllSpec.post enc Try.prog Try.f6 false true false false) := by
  refine returnsInHanded_of_change (C := Try.checked) own started (by kernel_rfl) Try.func6
    (ChangeSpec.witness6 (enc := enc) (C := Try.checked) false ⟨#[], #[.agg #[.slice none 0 0], .slice none 0 0], []⟩ 8 (by kernel_rfl) (by kernel_rfl) (by kernel_rfl) (by kernel_rfl)) ?_
  intro W base args ds gs before hval0 hW _ _
  have hval : ∀ (j : Nat) t v, Try.f6.params[j]? = some t → args[j]? = some v → Value.okWide Try.prog W .any base t v := hval0
  have hW' := hW
  obtain ⟨p, q, hA0, hV, rfl, hfz, hnd⟩ := hW
  have hA : DataW.TrodAll enc Try.prog W 0 (fun _ => true) true Try.f6.params.toList args.toList ds p := hA0
  rw [Try.params6] at hA hval
  obtain ⟨v0, vs0, d0, ds0, p0, q0, hargs, rfl, rfl, h0, r0⟩ := trodAll_cons hA
  obtain ⟨v1, vs1, d1, ds1, p1, q1, rfl, rfl, rfl, h1, r1⟩ := trodAll_cons r0
  obtain ⟨rfl, rfl, rfl⟩ := trodAll_nil r1
  obtain rfl : args = #[v0, v1] := by cases args; simp_all
  obtain ⟨rfl, rfl⟩ := trodVars_none hV
  have k0 := h0
  have lt0 : ∀ x ∈ p0, x.block < W.heap.size := by obtain ⟨m, hm⟩ := k0; exact DataW.trod_lt m _ _ _ hm
  obtain ⟨A0, len0, cap0, l0, rfl, rfl, hl0, hrd0⟩ := open_pipe Try.underlying24 (by kernel_rfl) rfl (by kernel_rfl) Try.underlying22 Try.underlying106 rfl (by kernel_rfl) (by kernel_rfl) Try.underlying3 (by kernel_rfl) (hval 0 24 v0 rfl rfl) h0
  obtain ⟨a1, len1, cap1, rfl⟩ := okWide_slice Try.underlying25 (hval 1 25 v1 rfl rfl)
  have k1 := h1
  have lt1 : ∀ x ∈ p1, x.block < W.heap.size := by obtain ⟨m, hm⟩ := k1; exact DataW.trod_lt m _ _ _ hm
  obtain ⟨rows1, rfl, hl1, hm1, hrd1⟩ := open_rows Try.underlying25 Try.underlying28 Try.underlying3 (by kernel_rfl) (by kernel_rfl) h1
  clear hA0 hval0
  refine (walk A0 cap0 l0 a1 cap1 rows1 W hrd0 hl0 hrd1 hl1 hm1).mono fun e W' ⟨he, bel⟩ => ?_
  subst he
  exact ⟨_, rfl, _, _, _, [], _, [], hW', trodAll_mk1 (shut_bool Try.underlying4 _), (trodAll_cons_mk (Below.trod laidOut (by kernel_rfl) (of_decide_eq_true (by kernel_rfl)) k0 bel lt0) (trodAll_cons_mk (Below.trod laidOut (by kernel_rfl) (of_decide_eq_true (by kernel_rfl)) k1 bel lt1) trodAll_mk0)), rfl, bel.frame _, fun h => by cases h⟩

theorem fnExactDrainAll_holds : Rows.FnExactDrainAllSaid :=
  OpenClaim.holds_of_wide 6 Try.f6 rfl rfl rfl rfl rfl rfl rfl ⟨rfl, rfl, rfl, rfl, rfl⟩ rfl rfl rfl rfl rfl (by kernel_rfl) Try.func6 (by kernel_rfl)
    (of_decide_eq_true (by kernel_rfl)) (by unfold Func.isWrapper; rw [if_neg (of_decide_eq_false (by kernel_rfl))]; exact ⟨rfl, rfl⟩)
    (fun os started H enc _ => lifted os started H enc)

end Go.Proofs.Ytjhdjfobbgfpfaa.LawDrain
