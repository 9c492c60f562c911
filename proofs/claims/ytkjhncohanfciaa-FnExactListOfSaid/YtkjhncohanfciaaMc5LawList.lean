/- The law FnExactListOf returns true for every input, and its arguments read afterwards as before. Conditions: none. -/
import Derived.Test.YtkjhncohanfciaaRows
import Derived.Test.YtkjhncohanfciaaMc5M
import Derived.Test.YtkjhncohanfciaaMc5N
import Derived.Test.YtkjhncohanfciaaMc5G
import Derived.Deep.RegionHeld3
import Derived.Deep.CutRange
import Derived.Deep.DeepMust
namespace Go.Proofs.Ytkjhncohanfciaa.LawList
open Go.ChangeShapes Go.WideShapes Go.ChangeAt Go.RowKit Go.Deep

theorem own : ownKnob Try.prog.godebug = none := by kernel_rfl
theorem laidOut : laidOutB Try.prog = true := by kernel_rfl

set_option maxRecDepth 100000 in
set_option maxHeartbeats 12800000 in
theorem walk0 (A0 : Option Addr) (c0 : Nat) (l0 : List Nd) (A1 : Option Addr) (c1 : Nat) (l1 : List (List Int)) (w : World) (q : List Int) (hq : Hid (ListOfq l0 l1 q)) (hqn : q.length ≤ 1048576) (hr0 : RdN w w.heap.size A0 l0) (hn0 : l0.length ≤ maxLen) (hr1 : RdR w w.heap.size A1 l1) (hn1 : l1.length ≤ maxLen) (hm1 : ∀ r ∈ l1, r.length ≤ maxLen) :
    Calls Try.prog 3 #[.agg #[.slice A0 l0.length c0], .slice A1 l1.length c1] w fun e w' => e = .returned (.bool true) ∧ Below w.heap.size w w' := by
  obtain ⟨W0, hW0⟩ : ∃ W0 : World, W0 = w.alloc (.cells #[.slice A0 l0.length c0] 24) := ⟨_, rfl⟩
  have hb0 : Below w.heap.size w W0 := by rw [hW0]; exact (Below.refl w.heap.size w).alloc (by first | exact Nat.le_refl _ | (simp; done) | (simp; omega)) _
  have hx0 : Bk W0 w.heap.size 24 [.slice A0 l0.length c0] := by
    rw [hW0]
    skip
    have := Bk.new w 24 [.slice A0 l0.length c0]
    exact this
  have Hab0 := Lib.hid hx0.held
  have Ha0 : Hid (Held W0 0 w.heap.size (fun v => RdN v w.heap.size A0 l0)) := Lib.hid ((hr0.held (Nat.le_refl _)).below hb0 (Nat.le_refl _))
  have Ha1 : Hid (Held W0 0 w.heap.size (fun v => RdR v w.heap.size A1 l1)) := Lib.hid ((hr1.held (Nat.le_refl _)).below hb0 (Nat.le_refl _))
  have Hml1 := Lib.hid hm1
  have hz_W0 : w.heap.size + 1 ≤ W0.heap.size := by rw [hW0]; simp
  have Hb := Lib.hid hb0
  have HW0 := Lib.hid hW0
  clear hb0 hW0 hx0 hr0 hr1 hm1
  go_enter Try.func3, Try.ntmps3
  go_wp2_with fail
  rw [← HW0.out]
  refine (szPipe_any _ _ _ _ _ (by omega) (by omega) hn0).mono ?_
  rintro e w1 ⟨rfl, hb1⟩
  have hz_w1 : W0.heap.size ≤ w1.heap.size := hb1.size
  replace Hb := Lib.hid (Hb.out.trans (hb1.mono Hb.out.size))
  replace Hab0 := Lib.hid (Hab0.out.below hb1 Hab0.out.top)
  replace Ha0 := Lib.hid (Ha0.out.below hb1 Ha0.out.top)
  replace Ha1 := Lib.hid (Ha1.out.below hb1 Ha1.out.top)
  clear hb1
  by_cases hlt0 : (1048576 : Int) < (l0.length : Int)
  · rw [szLeft_no hlt0]
    clear hlt0
    go_wp2_with fail
    go_ret
    exact ⟨rfl, Hb.out⟩
  rw [szLeft_yes hlt0]
  have hleft0 : (0 : Int) ≤ 1048576 - (l0.length : Int) := by omega
  have hs0 : l0.length ≤ 1048576 := by omega
  clear hlt0
  go_wp2_with fail
  refine (szIntSS_any _ _ _ _ _ _ Ha1.out.out (by omega) (by omega) hn1 Hml1.out).mono ?_
  rintro e w2 ⟨rfl, rfl⟩
  -- the world is the same
  by_cases hlt1 : (1048576 - (l0.length : Int) : Int) < (bulk l1 : Int)
  · rw [szLeft_no hlt1]
    clear hlt1
    go_wp2_with fail
    go_ret
    exact ⟨rfl, Hb.out⟩
  rw [szLeft_yes hlt1]
  have hleft1 : (0 : Int) ≤ 1048576 - (l0.length : Int) - (bulk l1 : Int) := by omega
  have hs1 : l1.length ≤ 1048576 := by have := bulk_len l1; omega
  have hbk1 : bulk l1 ≤ 1048576 := by omega
  have Hm1 : Hid (∀ r ∈ l1, r.length ≤ 1048576) := Lib.hid (fun r hr => by have := bulk_row hr; omega)
  clear hlt1
  have cb_Hab0 : w1.cell? ⟨w.heap.size, 0, none⟩ = some (.slice A0 l0.length c0) := Hab0.out.out.cell 0
  have lb_Hab0 : w.heap.size < w1.heap.size := by have := Hab0.out.top; omega
  go_wp2_with fail
  refine (toPipe_any A0 c0 l0 _ w.heap.size Ha0.out.out Hb.out.size hs0).mono ?_
  rintro e w3 ⟨g3, rfl, hg3, hk3, hb3⟩
  have ho3 : OwnP w3 w1.heap.size w3.heap.size (some ⟨g3, 0, none⟩) l0.length l0 := OwnP.of (hk3.own (base := w1.heap.size) (by first | exact hg3 | omega) hs0) (Nat.le_refl _)
  have Ht0 : Hid (Held w3 w1.heap.size w3.heap.size (fun v => OwnP v w1.heap.size w3.heap.size (some ⟨g3, 0, none⟩) l0.length l0)) := Lib.hid (ho3.held hb3.size (Nat.le_refl _))
  clear cb_Hab0 lb_Hab0
  have hz_w3 : w1.heap.size ≤ w3.heap.size := hb3.size
  replace Hb := Lib.hid (Hb.out.trans (hb3.mono Hb.out.size))
  replace Hab0 := Lib.hid (Hab0.out.below hb3 Hab0.out.top)
  replace Ha0 := Lib.hid (Ha0.out.below hb3 Ha0.out.top)
  replace Ha1 := Lib.hid (Ha1.out.below hb3 Ha1.out.top)
  clear ho3 hb3 hk3 hg3
  go_wp2_with fail
  refine (toIntSS_any A1 c1 l1 _ w.heap.size Ha1.out.out Hb.out.size hs1 Hm1.out).mono ?_
  rintro e w4 ⟨rfl, hk4, hb4⟩
  have ho4 : OwnS w4 w3.heap.size w4.heap.size (some ⟨w3.heap.size, 0, none⟩) l1 := OwnS.of hk4
  have Ht1 : Hid (Held w4 w3.heap.size w4.heap.size (fun v => OwnS v w3.heap.size w4.heap.size (some ⟨w3.heap.size, 0, none⟩) l1)) := Lib.hid (ho4.held hb4.size (Nat.le_refl _))
  have hz_w4 : w3.heap.size ≤ w4.heap.size := hb4.size
  replace Hb := Lib.hid (Hb.out.trans (hb4.mono Hb.out.size))
  replace Hab0 := Lib.hid (Hab0.out.below hb4 Hab0.out.top)
  replace Ha0 := Lib.hid (Ha0.out.below hb4 Ha0.out.top)
  replace Ha1 := Lib.hid (Ha1.out.below hb4 Ha1.out.top)
  replace Ht0 := Lib.hid (Ht0.out.below hb4 Ht0.out.top)
  clear ho4 hb4 hk4
  go_wp2_with fail
  refine (specListOf_any _ _ l0 _ _ l1 _ w4.heap.size q hq (Ht0.out.out.rdt Ht0.out.top) (Ht1.out.out.rdt Ht1.out.top) (Nat.le_refl _) hs0 hs1 Hm1).mono ?_
  rintro e w5 ⟨AHw, cHw, rfl, ho5, hb5⟩
  have Hw : Hid (Held w5 w4.heap.size w5.heap.size (fun v => OwnI v w4.heap.size w5.heap.size AHw q)) := Lib.hid ((ho5 : OwnI w5 w4.heap.size w5.heap.size AHw q).held hb5.size (Nat.le_refl _))
  have hz_w5 : w4.heap.size ≤ w5.heap.size := hb5.size
  replace Hb := Lib.hid (Hb.out.trans (hb5.mono Hb.out.size))
  replace Hab0 := Lib.hid (Hab0.out.below hb5 Hab0.out.top)
  replace Ha0 := Lib.hid (Ha0.out.below hb5 Ha0.out.top)
  replace Ha1 := Lib.hid (Ha1.out.below hb5 Ha1.out.top)
  replace Ht0 := Lib.hid (Ht0.out.below hb5 Ht0.out.top)
  replace Ht1 := Lib.hid (Ht1.out.below hb5 Ht1.out.top)
  clear ho5 hb5
  have cb_Hab0 : w5.cell? ⟨w.heap.size, 0, none⟩ = some (.slice A0 l0.length c0) := Hab0.out.out.cell 0
  have lb_Hab0 : w.heap.size < w5.heap.size := by have := Hab0.out.top; omega
  go_wp2_with fail
  refine (toPipe_any A0 c0 l0 _ w.heap.size Ha0.out.out Hb.out.size hs0).mono ?_
  rintro e w6 ⟨g6, rfl, hg6, hk6, hb6⟩
  have ho6 : OwnP w6 w5.heap.size w6.heap.size (some ⟨g6, 0, none⟩) l0.length l0 := OwnP.of (hk6.own (base := w5.heap.size) (by first | exact hg6 | omega) hs0) (Nat.le_refl _)
  have Hx0 : Hid (Held w6 w5.heap.size w6.heap.size (fun v => OwnP v w5.heap.size w6.heap.size (some ⟨g6, 0, none⟩) l0.length l0)) := Lib.hid (ho6.held hb6.size (Nat.le_refl _))
  clear cb_Hab0 lb_Hab0
  have hz_w6 : w5.heap.size ≤ w6.heap.size := hb6.size
  replace Hb := Lib.hid (Hb.out.trans (hb6.mono Hb.out.size))
  replace Hab0 := Lib.hid (Hab0.out.below hb6 Hab0.out.top)
  replace Ha0 := Lib.hid (Ha0.out.below hb6 Ha0.out.top)
  replace Ha1 := Lib.hid (Ha1.out.below hb6 Ha1.out.top)
  replace Hw := Lib.hid (Hw.out.below hb6 Hw.out.top)
  clear ho6 hb6 hk6 hg6
  obtain ⟨Vw6, hVw6⟩ : ∃ W : World, W = w6.alloc (.cells #[.slice (some ⟨g6, 0, none⟩) l0.length l0.length] 32) := ⟨_, rfl⟩
  have hbVw6 : Below w6.heap.size w6 Vw6 := by rw [hVw6]; exact (Below.refl _ _).alloc (Nat.le_refl _) _
  have Hxb0 : Hid (Held Vw6 w6.heap.size (w6.heap.size + 1) (fun v => Bk v w6.heap.size 32 [.slice (some ⟨g6, 0, none⟩) l0.length l0.length])) := Lib.hid (by rw [hVw6]; exact (Bk.new _ _ [_]).held)
  have ht_Hxb0 : w6.heap.size + 1 ≤ Vw6.heap.size := Hxb0.out.top
  have hz_Vw6 : w6.heap.size ≤ Vw6.heap.size := hbVw6.size
  replace Hb := Lib.hid (Hb.out.trans (hbVw6.mono Hb.out.size))
  replace Hab0 := Lib.hid (Hab0.out.below hbVw6 Hab0.out.top)
  replace Ha0 := Lib.hid (Ha0.out.below hbVw6 Ha0.out.top)
  replace Ha1 := Lib.hid (Ha1.out.below hbVw6 Ha1.out.top)
  replace Hw := Lib.hid (Hw.out.below hbVw6 Hw.out.top)
  replace Hx0 := Lib.hid (Hx0.out.below hbVw6 Hx0.out.top)
  have HVw6 := Lib.hid hVw6
  clear hVw6 hbVw6
  go_wp2_with fail
  rw [← HVw6.out]
  refine (toIntSS_any A1 c1 l1 _ w.heap.size Ha1.out.out Hb.out.size hs1 Hm1.out).mono ?_
  rintro e w7 ⟨rfl, hk7, hb7⟩
  have ho7 : OwnS w7 Vw6.heap.size w7.heap.size (some ⟨Vw6.heap.size, 0, none⟩) l1 := OwnS.of hk7
  have Hx1 : Hid (Held w7 Vw6.heap.size w7.heap.size (fun v => OwnS v Vw6.heap.size w7.heap.size (some ⟨Vw6.heap.size, 0, none⟩) l1)) := Lib.hid (ho7.held hb7.size (Nat.le_refl _))
  have hz_w7 : Vw6.heap.size ≤ w7.heap.size := hb7.size
  replace Hb := Lib.hid (Hb.out.trans (hb7.mono Hb.out.size))
  replace Hab0 := Lib.hid (Hab0.out.below hb7 Hab0.out.top)
  replace Ha0 := Lib.hid (Ha0.out.below hb7 Ha0.out.top)
  replace Ha1 := Lib.hid (Ha1.out.below hb7 Ha1.out.top)
  replace Hw := Lib.hid (Hw.out.below hb7 Hw.out.top)
  replace Hx0 := Lib.hid (Hx0.out.below hb7 Hx0.out.top)
  replace Hxb0 := Lib.hid (Hxb0.out.below hb7 Hxb0.out.top)
  clear ho7 hb7 hk7
  have cb_Hxb0 : w7.cell? ⟨w6.heap.size, 0, none⟩ = some (.slice (some ⟨g6, 0, none⟩) l0.length l0.length) := Hxb0.out.out.cell 0
  have lb_Hxb0 : w6.heap.size < w7.heap.size := by have := Hxb0.out.top; omega
  go_wp2_with fail
  refine (implListOf_any batched_any _ _ l0 _ _ l1 _ w7.heap.size q hq (Hx0.out.out.rdt Hx0.out.top) (Hx1.out.out.rdt Hx1.out.top) (Nat.le_refl _) hs0 hs1 Hm1).mono ?_
  rintro e w8 ⟨AHg, cHg, rfl, ho8, hb8⟩
  have Hg : Hid (Held w8 w7.heap.size w8.heap.size (fun v => OwnI v w7.heap.size w8.heap.size AHg q)) := Lib.hid ((ho8 : OwnI w8 w7.heap.size w8.heap.size AHg q).held hb8.size (Nat.le_refl _))
  clear cb_Hxb0 lb_Hxb0
  have hz_w8 : w7.heap.size ≤ w8.heap.size := hb8.size
  replace Hb := Lib.hid (Hb.out.trans (hb8.mono Hb.out.size))
  replace Hab0 := Lib.hid (Hab0.out.below hb8 Hab0.out.top)
  replace Ha0 := Lib.hid (Ha0.out.below hb8 Ha0.out.top)
  replace Ha1 := Lib.hid (Ha1.out.below hb8 Ha1.out.top)
  replace Hw := Lib.hid (Hw.out.below hb8 Hw.out.top)
  replace Hx0 := Lib.hid (Hx0.out.below hb8 Hx0.out.top)
  replace Hxb0 := Lib.hid (Hxb0.out.below hb8 Hxb0.out.top)
  replace Hx1 := Lib.hid (Hx1.out.below hb8 Hx1.out.top)
  clear ho8 hb8
  go_wp2_with fail
  refine (eqIntS_any _ _ _ _ q q _ w8.heap.size (Hg.out.out.rdt Hg.out.top) (Hw.out.out.rdt Hw.out.top) hqn).mono ?_
  rintro e w9 ⟨rfl, hsm9⟩
  have hb9 := hsm9.below w8.heap.size
  rw [decide_eq_true rfl]
  have hz_w9 : w8.heap.size ≤ w9.heap.size := hb9.size
  replace Hb := Lib.hid (Hb.out.trans (hb9.mono Hb.out.size))
  replace Hab0 := Lib.hid (Hab0.out.below hb9 Hab0.out.top)
  replace Ha0 := Lib.hid (Ha0.out.below hb9 Ha0.out.top)
  replace Ha1 := Lib.hid (Ha1.out.below hb9 Ha1.out.top)
  replace Hw := Lib.hid (Hw.out.below hb9 Hw.out.top)
  replace Hx0 := Lib.hid (Hx0.out.below hb9 Hx0.out.top)
  replace Hxb0 := Lib.hid (Hxb0.out.below hb9 Hxb0.out.top)
  replace Hx1 := Lib.hid (Hx1.out.below hb9 Hx1.out.top)
  replace Hg := Lib.hid (Hg.out.below hb9 Hg.out.top)
  clear hb9 hsm9
  have cb_Hab0 : w9.cell? ⟨w.heap.size, 0, none⟩ = some (.slice A0 l0.length c0) := Hab0.out.out.cell 0
  have lb_Hab0 : w.heap.size < w9.heap.size := by have := Hab0.out.top; omega
  have cb_Hxb0 : w9.cell? ⟨w6.heap.size, 0, none⟩ = some (.slice (some ⟨g6, 0, none⟩) l0.length l0.length) := Hxb0.out.out.cell 0
  have lb_Hxb0 : w6.heap.size < w9.heap.size := by have := Hxb0.out.top; omega
  have HS : Hid (∀ W' : World, Below w9.heap.size w9 W' → W'.cell? ⟨w6.heap.size, 0, none⟩ = some (.slice (some ⟨g6, 0, none⟩) l0.length l0.length) ∧ W'.cell? ⟨w.heap.size, 0, none⟩ = some (.slice A0 l0.length c0)) := Lib.hid (fun W' hb => ⟨(Hxb0.out.below hb Hxb0.out.top).out.cell 0, (Hab0.out.below hb Hab0.out.top).out.cell 0⟩)
  go_wp2_with fail
  go_region_held3 (fun w' => w'.cell? ⟨w6.heap.size, 0, none⟩ = some (.slice (some ⟨g6, 0, none⟩) l0.length l0.length) ∧ w'.cell? ⟨w.heap.size, 0, none⟩ = some (.slice A0 l0.length c0))
    (go_keep)
    (first
        | (
          go_at_call 12
          refine (toPipe_any A0 c0 l0 _ w.heap.size (Ha0.out.drewN 1).out (by first | omega | (simp; omega)) hs0).mono ?_
          rintro e w10 ⟨g10, rfl, hg10, hk10, hb10z⟩
          have hb10 : Below w9.heap.size w9 w10 := ((Below.refl w9.heap.size w9).drew).trans (hb10z.mono (by simp))
          have ks10 := HS.out _ hb10
          have ho10 : OwnP w10 w9.heap.size w10.heap.size (some ⟨g10, 0, none⟩) l0.length l0 := OwnP.of (hk10.own (base := w9.heap.size) (by first | exact hg10 | omega) hs0) (Nat.le_refl _)
          have Hc0 : Hid (Held w10 w9.heap.size w10.heap.size (fun v => OwnP v w9.heap.size w10.heap.size (some ⟨g10, 0, none⟩) l0.length l0)) := Lib.hid (ho10.held hb10.size (Nat.le_refl _))
          have hz_w10 : w9.heap.size ≤ w10.heap.size := hb10.size
          replace Hb := Lib.hid (Hb.out.trans (hb10.mono Hb.out.size))
          replace Hab0 := Lib.hid (Hab0.out.below hb10 Hab0.out.top)
          replace Ha0 := Lib.hid (Ha0.out.below hb10 Ha0.out.top)
          replace Ha1 := Lib.hid (Ha1.out.below hb10 Ha1.out.top)
          replace Hw := Lib.hid (Hw.out.below hb10 Hw.out.top)
          replace Hx0 := Lib.hid (Hx0.out.below hb10 Hx0.out.top)
          replace Hxb0 := Lib.hid (Hxb0.out.below hb10 Hxb0.out.top)
          replace Hx1 := Lib.hid (Hx1.out.below hb10 Hx1.out.top)
          replace Hg := Lib.hid (Hg.out.below hb10 Hg.out.top)
          clear ho10 hb10 hk10 hg10 hb10z)
        | (
          go_at_call 16
          refine (eqPipe_any _ _ _ _ l0 l0 _ w10.heap.size (Hx0.out.out.rdt Hx0.out.top) (Hc0.out.out.rdt Hc0.out.top) (Nat.le_refl _) hs0).mono ?_
          rintro e w11 ⟨rfl, hb11⟩
          rw [decide_eq_true rfl]
          have ks11 : w11.cell? ⟨w6.heap.size, 0, none⟩ = some (.slice (some ⟨g6, 0, none⟩) l0.length l0.length) ∧ w11.cell? ⟨w.heap.size, 0, none⟩ = some (.slice A0 l0.length c0) := ⟨(Hxb0.out.below hb11 Hxb0.out.top).out.cell 0, (Hab0.out.below hb11 Hab0.out.top).out.cell 0⟩
          have hz_w11 : w10.heap.size ≤ w11.heap.size := hb11.size
          replace Hb := Lib.hid (Hb.out.trans (hb11.mono Hb.out.size))
          replace Hab0 := Lib.hid (Hab0.out.below hb11 Hab0.out.top)
          replace Ha0 := Lib.hid (Ha0.out.below hb11 Ha0.out.top)
          replace Ha1 := Lib.hid (Ha1.out.below hb11 Ha1.out.top)
          replace Hw := Lib.hid (Hw.out.below hb11 Hw.out.top)
          replace Hx0 := Lib.hid (Hx0.out.below hb11 Hx0.out.top)
          replace Hxb0 := Lib.hid (Hxb0.out.below hb11 Hxb0.out.top)
          replace Hx1 := Lib.hid (Hx1.out.below hb11 Hx1.out.top)
          replace Hg := Lib.hid (Hg.out.below hb11 Hg.out.top)
          replace Hc0 := Lib.hid (Hc0.out.below hb11 Hc0.out.top)
          clear hb11))
  clear HS ks10 ks11 cb_Hab0 lb_Hab0 cb_Hxb0 lb_Hxb0 Hc0
  go_wp2_with fail
  refine (toIntSS_any A1 c1 l1 _ w.heap.size Ha1.out.out Hb.out.size hs1 Hm1.out).mono ?_
  rintro e w12 ⟨rfl, hk12, hb12⟩
  have ho12 : OwnS w12 w11.heap.size w12.heap.size (some ⟨w11.heap.size, 0, none⟩) l1 := OwnS.of hk12
  have Hc1 : Hid (Held w12 w11.heap.size w12.heap.size (fun v => OwnS v w11.heap.size w12.heap.size (some ⟨w11.heap.size, 0, none⟩) l1)) := Lib.hid (ho12.held hb12.size (Nat.le_refl _))
  have hz_w12 : w11.heap.size ≤ w12.heap.size := hb12.size
  replace Hb := Lib.hid (Hb.out.trans (hb12.mono Hb.out.size))
  replace Hab0 := Lib.hid (Hab0.out.below hb12 Hab0.out.top)
  replace Ha0 := Lib.hid (Ha0.out.below hb12 Ha0.out.top)
  replace Ha1 := Lib.hid (Ha1.out.below hb12 Ha1.out.top)
  replace Hw := Lib.hid (Hw.out.below hb12 Hw.out.top)
  replace Hx0 := Lib.hid (Hx0.out.below hb12 Hx0.out.top)
  replace Hxb0 := Lib.hid (Hxb0.out.below hb12 Hxb0.out.top)
  replace Hx1 := Lib.hid (Hx1.out.below hb12 Hx1.out.top)
  replace Hg := Lib.hid (Hg.out.below hb12 Hg.out.top)
  clear ho12 hb12 hk12
  go_wp2_with fail
  refine (eqIntSS_any _ _ _ _ l1 l1 _ w12.heap.size (Hx1.out.out.rdt Hx1.out.top) (Hc1.out.out.rdt Hc1.out.top) hs1 Hm1.out).mono ?_
  rintro e w13 ⟨rfl, hsm13⟩
  have hb13 := hsm13.below w12.heap.size
  rw [decide_eq_true rfl]
  have hz_w13 : w12.heap.size ≤ w13.heap.size := hb13.size
  replace Hb := Lib.hid (Hb.out.trans (hb13.mono Hb.out.size))
  replace Hab0 := Lib.hid (Hab0.out.below hb13 Hab0.out.top)
  replace Ha0 := Lib.hid (Ha0.out.below hb13 Ha0.out.top)
  replace Ha1 := Lib.hid (Ha1.out.below hb13 Ha1.out.top)
  replace Hw := Lib.hid (Hw.out.below hb13 Hw.out.top)
  replace Hx0 := Lib.hid (Hx0.out.below hb13 Hx0.out.top)
  replace Hxb0 := Lib.hid (Hxb0.out.below hb13 Hxb0.out.top)
  replace Hx1 := Lib.hid (Hx1.out.below hb13 Hx1.out.top)
  replace Hg := Lib.hid (Hg.out.below hb13 Hg.out.top)
  replace Hc1 := Lib.hid (Hc1.out.below hb13 Hc1.out.top)
  clear hb13 hsm13
  clear Hc1
  have cb_Hxb0 : w13.cell? ⟨w6.heap.size, 0, none⟩ = some (.slice (some ⟨g6, 0, none⟩) l0.length l0.length) := Hxb0.out.out.cell 0
  have lb_Hxb0 : w6.heap.size < w13.heap.size := by have := Hxb0.out.top; omega
  go_wp2_with fail
  refine (markPipe_h (1) Hx0.out.out hs0 (by omega) (by omega)).mono ?_
  rintro e w14 ⟨rfl, -, hc14⟩
  clear cb_Hxb0 lb_Hxb0
  have hz_w14 : w13.heap.size ≤ w14.heap.size := hc14.size
  replace Hb := Lib.hid (hc14.below_ Hb.out (by omega) Hb.out.size)
  replace Hab0 := Lib.hid (Hab0.out.chg hc14 (by omega))
  replace Ha0 := Lib.hid (Ha0.out.chg hc14 (by omega))
  replace Ha1 := Lib.hid (Ha1.out.chg hc14 (by omega))
  replace Hw := Lib.hid (Hw.out.chg hc14 (by omega))
  replace Hxb0 := Lib.hid (Hxb0.out.chg hc14 (by omega))
  replace Hx1 := Lib.hid (Hx1.out.chg hc14 (by omega))
  replace Hg := Lib.hid (Hg.out.chg hc14 (by omega))
  clear hc14 Hx0
  have hpos0 : (0 : Int) ≤ 1 + 5 * l0.length := by omega
  go_wp2_with fail
  refine (markIntSS_h (1 + 5 * l0.length) Hx1.out.out hs1 Hm1.out hbk1 (by omega) (by omega)).mono ?_
  rintro e w15 ⟨rfl, hc15⟩
  have hz_w15 : w14.heap.size ≤ w15.heap.size := hc15.size
  replace Hb := Lib.hid (hc15.below_ Hb.out (by omega) Hb.out.size)
  replace Hab0 := Lib.hid (Hab0.out.chg hc15 (by omega))
  replace Ha0 := Lib.hid (Ha0.out.chg hc15 (by omega))
  replace Ha1 := Lib.hid (Ha1.out.chg hc15 (by omega))
  replace Hw := Lib.hid (Hw.out.chg hc15 (by omega))
  replace Hxb0 := Lib.hid (Hxb0.out.chg hc15 (by omega))
  replace Hg := Lib.hid (Hg.out.chg hc15 (by omega))
  clear hc15 Hx1
  have hpos1 : (0 : Int) ≤ 1 + 5 * l0.length + ((l1.map List.length).sum : Nat) := by omega
  go_wp2_with fail
  refine (eqIntS_any _ _ _ _ q q _ w15.heap.size (Hg.out.out.rdt Hg.out.top) (Hw.out.out.rdt Hw.out.top) hqn).mono ?_
  rintro e w16 ⟨rfl, hsm16⟩
  have hb16 := hsm16.below w15.heap.size
  rw [decide_eq_true rfl]
  have hz_w16 : w15.heap.size ≤ w16.heap.size := hb16.size
  replace Hb := Lib.hid (Hb.out.trans (hb16.mono Hb.out.size))
  replace Hab0 := Lib.hid (Hab0.out.below hb16 Hab0.out.top)
  replace Ha0 := Lib.hid (Ha0.out.below hb16 Ha0.out.top)
  replace Ha1 := Lib.hid (Ha1.out.below hb16 Ha1.out.top)
  replace Hw := Lib.hid (Hw.out.below hb16 Hw.out.top)
  replace Hxb0 := Lib.hid (Hxb0.out.below hb16 Hxb0.out.top)
  replace Hg := Lib.hid (Hg.out.below hb16 Hg.out.top)
  clear hb16 hsm16
  go_wp2_with fail
  refine (markIntS_h 1 Hg.out.out hqn (by decide) (by decide)).mono ?_
  rintro e w17 ⟨rfl, ho17, hc17⟩
  have hle_g : w7.heap.size ≤ w8.heap.size := Hg.out.le
  have htop_g : w8.heap.size ≤ w17.heap.size := Nat.le_trans Hg.out.top hc17.size
  have Hgm : Hid (Held w17 w7.heap.size w8.heap.size (fun v => OwnI v w7.heap.size w8.heap.size AHg (mkI q.length 1))) := Lib.hid (ho17.held hle_g htop_g)
  have hz_w17 : w16.heap.size ≤ w17.heap.size := hc17.size
  replace Hb := Lib.hid (hc17.below_ Hb.out (by omega) Hb.out.size)
  replace Hab0 := Lib.hid (Hab0.out.chg hc17 (by omega))
  replace Ha0 := Lib.hid (Ha0.out.chg hc17 (by omega))
  replace Ha1 := Lib.hid (Ha1.out.chg hc17 (by omega))
  replace Hw := Lib.hid (Hw.out.chg hc17 (by omega))
  replace Hxb0 := Lib.hid (Hxb0.out.chg hc17 (by omega))
  clear hc17 ho17 Hg
  have hposq : (0 : Int) ≤ 1 + q.length := by omega
  go_wp2_with fail
  refine (heldIntS_any _ _ q.length 1 _ w17.heap.size (Hgm.out.out.rdt Hgm.out.top) hqn (by decide) (by decide)).mono ?_
  rintro e w18 ⟨rfl, rfl⟩
  have cb_Hab0 : w17.cell? ⟨w.heap.size, 0, none⟩ = some (.slice A0 l0.length c0) := Hab0.out.out.cell 0
  have lb_Hab0 : w.heap.size < w17.heap.size := by have := Hab0.out.top; omega
  go_wp2_with fail
  refine (toPipe_any A0 c0 l0 _ w.heap.size Ha0.out.out Hb.out.size hs0).mono ?_
  rintro e w19 ⟨g19, rfl, hg19, hk19, hb19⟩
  have ho19 : OwnP w19 w17.heap.size w19.heap.size (some ⟨g19, 0, none⟩) l0.length l0 := OwnP.of (hk19.own (base := w17.heap.size) (by first | exact hg19 | omega) hs0) (Nat.le_refl _)
  have Hu0 : Hid (Held w19 w17.heap.size w19.heap.size (fun v => OwnP v w17.heap.size w19.heap.size (some ⟨g19, 0, none⟩) l0.length l0)) := Lib.hid (ho19.held hb19.size (Nat.le_refl _))
  clear cb_Hab0 lb_Hab0
  have hz_w19 : w17.heap.size ≤ w19.heap.size := hb19.size
  replace Hb := Lib.hid (Hb.out.trans (hb19.mono Hb.out.size))
  replace Hab0 := Lib.hid (Hab0.out.below hb19 Hab0.out.top)
  replace Ha0 := Lib.hid (Ha0.out.below hb19 Ha0.out.top)
  replace Ha1 := Lib.hid (Ha1.out.below hb19 Ha1.out.top)
  replace Hw := Lib.hid (Hw.out.below hb19 Hw.out.top)
  replace Hxb0 := Lib.hid (Hxb0.out.below hb19 Hxb0.out.top)
  replace Hgm := Lib.hid (Hgm.out.below hb19 Hgm.out.top)
  clear ho19 hb19 hk19 hg19
  go_wp2_with fail
  refine (toIntSS_any A1 c1 l1 _ w.heap.size Ha1.out.out Hb.out.size hs1 Hm1.out).mono ?_
  rintro e w20 ⟨rfl, hk20, hb20⟩
  have ho20 : OwnS w20 w19.heap.size w20.heap.size (some ⟨w19.heap.size, 0, none⟩) l1 := OwnS.of hk20
  have Hu1 : Hid (Held w20 w19.heap.size w20.heap.size (fun v => OwnS v w19.heap.size w20.heap.size (some ⟨w19.heap.size, 0, none⟩) l1)) := Lib.hid (ho20.held hb20.size (Nat.le_refl _))
  have hz_w20 : w19.heap.size ≤ w20.heap.size := hb20.size
  replace Hb := Lib.hid (Hb.out.trans (hb20.mono Hb.out.size))
  replace Hab0 := Lib.hid (Hab0.out.below hb20 Hab0.out.top)
  replace Ha0 := Lib.hid (Ha0.out.below hb20 Ha0.out.top)
  replace Ha1 := Lib.hid (Ha1.out.below hb20 Ha1.out.top)
  replace Hw := Lib.hid (Hw.out.below hb20 Hw.out.top)
  replace Hxb0 := Lib.hid (Hxb0.out.below hb20 Hxb0.out.top)
  replace Hgm := Lib.hid (Hgm.out.below hb20 Hgm.out.top)
  replace Hu0 := Lib.hid (Hu0.out.below hb20 Hu0.out.top)
  clear ho20 hb20 hk20
  go_wp2_with fail
  refine (implListOf_any batched_any _ _ l0 _ _ l1 _ w20.heap.size q hq (Hu0.out.out.rdt Hu0.out.top) (Hu1.out.out.rdt Hu1.out.top) (Nat.le_refl _) hs0 hs1 Hm1).mono ?_
  rintro e w21 ⟨AHh, cHh, rfl, ho21, hb21⟩
  have Hh : Hid (Held w21 w20.heap.size w21.heap.size (fun v => OwnI v w20.heap.size w21.heap.size AHh q)) := Lib.hid ((ho21 : OwnI w21 w20.heap.size w21.heap.size AHh q).held hb21.size (Nat.le_refl _))
  have hz_w21 : w20.heap.size ≤ w21.heap.size := hb21.size
  replace Hb := Lib.hid (Hb.out.trans (hb21.mono Hb.out.size))
  replace Hab0 := Lib.hid (Hab0.out.below hb21 Hab0.out.top)
  replace Ha0 := Lib.hid (Ha0.out.below hb21 Ha0.out.top)
  replace Ha1 := Lib.hid (Ha1.out.below hb21 Ha1.out.top)
  replace Hw := Lib.hid (Hw.out.below hb21 Hw.out.top)
  replace Hxb0 := Lib.hid (Hxb0.out.below hb21 Hxb0.out.top)
  replace Hgm := Lib.hid (Hgm.out.below hb21 Hgm.out.top)
  replace Hu0 := Lib.hid (Hu0.out.below hb21 Hu0.out.top)
  replace Hu1 := Lib.hid (Hu1.out.below hb21 Hu1.out.top)
  clear ho21 hb21
  go_wp2_with fail
  refine (eqIntS_any _ _ _ _ q q _ w21.heap.size (Hh.out.out.rdt Hh.out.top) (Hw.out.out.rdt Hw.out.top) hqn).mono ?_
  rintro e w22 ⟨rfl, hsm22⟩
  have hb22 := hsm22.below w21.heap.size
  rw [decide_eq_true rfl]
  have hz_w22 : w21.heap.size ≤ w22.heap.size := hb22.size
  replace Hb := Lib.hid (Hb.out.trans (hb22.mono Hb.out.size))
  replace Hab0 := Lib.hid (Hab0.out.below hb22 Hab0.out.top)
  replace Ha0 := Lib.hid (Ha0.out.below hb22 Ha0.out.top)
  replace Ha1 := Lib.hid (Ha1.out.below hb22 Ha1.out.top)
  replace Hw := Lib.hid (Hw.out.below hb22 Hw.out.top)
  replace Hxb0 := Lib.hid (Hxb0.out.below hb22 Hxb0.out.top)
  replace Hgm := Lib.hid (Hgm.out.below hb22 Hgm.out.top)
  replace Hh := Lib.hid (Hh.out.below hb22 Hh.out.top)
  clear hb22 hsm22
  go_wp2_with fail
  refine (heldIntS_any _ _ q.length 1 _ w22.heap.size (Hgm.out.out.rdt Hgm.out.top) hqn (by decide) (by decide)).mono ?_
  rintro e w23 ⟨rfl, rfl⟩
  go_wp2_with fail
  go_ret
  exact ⟨rfl, Hb.out⟩

theorem listOfq_len {l : List Nd} {src : List (List Int)} {q : List Int} (h : ListOfq l src q) : q.length ≤ 1048576 := by
  cases hv : (pipeOk l && srcOk src)
  · rw [h.no hv]; simp
  · have hv2 := hv
    rw [Bool.and_eq_true] at hv2
    obtain ⟨t, ht⟩ := tree_of_pipe hv2.1
    rw [h.yes hv ht]
    have h1 := lst_len hv2.2 t
    have h2 := ht.depth_le
    have h3 := high_of hv2.1
    have h4 : 2 ^ (t.depth - 1) ≤ 2 ^ 11 := Nat.pow_le_pow_right (by omega) (by omega)
    omega

theorem walk (A0 : Option Addr) (c0 : Nat) (l0 : List Nd) (A1 : Option Addr) (c1 : Nat) (l1 : List (List Int)) (w : World) (hr0 : RdN w w.heap.size A0 l0) (hn0 : l0.length ≤ maxLen) (hr1 : RdR w w.heap.size A1 l1) (hn1 : l1.length ≤ maxLen) (hm1 : ∀ r ∈ l1, r.length ≤ maxLen) :
    Calls Try.prog 3 #[.agg #[.slice A0 l0.length c0], .slice A1 l1.length c1] w fun e w' => e = .returned (.bool true) ∧ Below w.heap.size w w' := by
  obtain ⟨q, hq⟩ := ListOfq.ex l0 l1
  exact walk0 A0 c0 l0 A1 c1 l1 w q (Lib.hid hq) (listOfq_len hq) hr0 hn0 hr1 hn1 hm1


set_option maxRecDepth 100000 in
theorem lifted (os : Os) (started : os.Started) (H : Type) (enc : TypeId × Value → H) :
    ReturnsInHanded {} Try.checked os 3 .any (Rows.fnExactListOfSpec.pre6 enc Try.prog Try.f3 Rows.fnExactListOfRow.domain false) (Rows.fnExactListOfSpec.post enc Try.prog Try.f3 false true false false) := by
  refine returnsInHanded_of_change (C := Try.checked) own started (by kernel_rfl) Try.func3
    (ChangeSpec.witness6 (enc := enc) (C := Try.checked) false ⟨#[], #[.agg #[.slice none 0 0], .slice none 0 0], []⟩ 8 (by kernel_rfl) (by kernel_rfl) (by kernel_rfl) (by kernel_rfl)) ?_
  intro W base args ds gs before hval0 hW _ _
  have hval : ∀ (j : Nat) t v, Try.f3.params[j]? = some t → args[j]? = some v → Value.okWide Try.prog W .any base t v := hval0
  have hW' := hW
  obtain ⟨p, q, hA0, hV, rfl, hfz, hnd⟩ := hW
  have hA : DataW.TrodAll enc Try.prog W 0 (fun _ => true) true Try.f3.params.toList args.toList ds p := hA0
  rw [Try.params3] at hA hval
  obtain ⟨v0, vs0, d0, ds0, p0, q0, hargs, rfl, rfl, h0, r0⟩ := trodAll_cons hA
  obtain ⟨v1, vs1, d1, ds1, p1, q1, rfl, rfl, rfl, h1, r1⟩ := trodAll_cons r0
  obtain ⟨rfl, rfl, rfl⟩ := trodAll_nil r1
  obtain rfl : args = #[v0, v1] := by cases args; simp_all
  obtain ⟨rfl, rfl⟩ := trodVars_none hV
  have k0 := h0
  have lt0 : ∀ x ∈ p0, x.block < W.heap.size := by obtain ⟨m, hm⟩ := k0; exact DataW.trod_lt m _ _ _ hm
  obtain ⟨A0, len0, cap0, l0, rfl, rfl, hl0, hrd0⟩ := open_pipe Try.underlying24 (by kernel_rfl) rfl (by kernel_rfl) Try.underlying22 Try.underlying74 rfl (by kernel_rfl) (by kernel_rfl) Try.underlying3 (by kernel_rfl) (hval 0 24 v0 rfl rfl) h0
  obtain ⟨a1, len1, cap1, rfl⟩ := okWide_slice Try.underlying25 (hval 1 25 v1 rfl rfl)
  have k1 := h1
  have lt1 : ∀ x ∈ p1, x.block < W.heap.size := by obtain ⟨m, hm⟩ := k1; exact DataW.trod_lt m _ _ _ hm
  obtain ⟨rows1, rfl, hl1, hm1, hrd1⟩ := open_rows Try.underlying25 Try.underlying28 Try.underlying3 (by kernel_rfl) (by kernel_rfl) h1
  clear hA0 hval0
  refine (walk A0 cap0 l0 a1 cap1 rows1 W hrd0 hl0 hrd1 hl1 hm1).mono fun e W' ⟨he, bel⟩ => ?_
  subst he
  exact ⟨_, rfl, _, _, _, [], _, [], hW', trodAll_mk1 (shut_bool Try.underlying4 _), (trodAll_cons_mk (Below.trod laidOut (by kernel_rfl) (of_decide_eq_true (by kernel_rfl)) k0 bel lt0) (trodAll_cons_mk (Below.trod laidOut (by kernel_rfl) (of_decide_eq_true (by kernel_rfl)) k1 bel lt1) trodAll_mk0)), rfl, bel.frame _, fun h => by cases h⟩

theorem fnExactListOf_holds : Rows.FnExactListOfSaid :=
  OpenClaim.holds_of_wide 3 Try.f3 rfl rfl rfl rfl rfl rfl rfl ⟨rfl, rfl, rfl, rfl, rfl⟩ rfl rfl rfl rfl rfl (by kernel_rfl) Try.func3 (by kernel_rfl)
    (of_decide_eq_true (by kernel_rfl)) (by unfold Func.isWrapper; rw [if_neg (of_decide_eq_false (by kernel_rfl))]; exact ⟨rfl, rfl⟩)
    (fun os started H enc _ => lifted os started H enc)

end Go.Proofs.Ytkjhncohanfciaa.LawList
