/- The law FnExactValidState returns true for every input, and its arguments read afterwards as before. Conditions: none. -/
import Derived.Test.YtjfdbcbmpgnahaaRows
import Derived.Test.YtjfdbcbmpgnahaaVSc
import Derived.Test.YtjfdbcbmpgnahaaVSd
import Derived.Test.YtjfdbcbmpgnahaaRowM
import Derived.Test.YtjfdbcbmpgnahaaHld
import Derived.Test.YtjfdbcbmpgnahaaNodeE
import Derived.Test.YtjfdbcbmpgnahaaOpenN
import Derived.Test.YtjfdbcbmpgnahaaOpen
import Derived.Test.YtjfdbcbmpgnahaaOpenS
import Derived.Deep.RegionHeld3
import Derived.Deep.CutRange
import Derived.Deep.DeepMust
namespace Go.Proofs.Ytjfdbcbmpgnahaa.LawVS
open Go.ChangeShapes Go.WideShapes Go.ChangeAt Go.RowKit Go.Deep

theorem own : ownKnob Try.prog.godebug = none := by kernel_rfl
theorem laidOut : laidOutB Try.prog = true := by kernel_rfl

set_option maxRecDepth 100000 in
set_option maxHeartbeats 12800000 in
theorem walk0 (A0 : Option Addr) (c0 : Nat) (l0 : List Nd) (A1 : Option Addr) (c1 : Nat) (l1 : List (List Int)) (A2 : Option Addr) (c2 : Nat) (l2 : List Cl) (w : World)  (hr0 : RdN w w.heap.size A0 l0) (hn0 : l0.length ≤ maxLen) (hr1 : RdR w w.heap.size A1 l1) (hn1 : l1.length ≤ maxLen) (hm1 : ∀ r ∈ l1, r.length ≤ maxLen) (hr2 : RdCl w w.heap.size A2 l2) (hn2 : l2.length ≤ maxLen) :
    Calls Try.prog 8 #[.agg #[.slice A0 l0.length c0], .slice A1 l1.length c1, .agg #[.slice A2 l2.length c2]] w fun e w' => e = .returned (.bool true) ∧ Below w.heap.size w w' := by
  obtain ⟨W0, hW0⟩ : ∃ W0 : World, W0 = (w.alloc (.cells #[.slice A0 l0.length c0] 24)).alloc (.cells #[.slice A2 l2.length c2] 52) := ⟨_, rfl⟩
  have hb0 : Below w.heap.size w W0 := by rw [hW0]; exact ((Below.refl w.heap.size w).alloc (by first | exact Nat.le_refl _ | (simp; done) | (simp; omega)) _).alloc (by first | exact Nat.le_refl _ | (simp; done) | (simp; omega)) _
  have hx0 : Bk W0 w.heap.size 24 [.slice A0 l0.length c0] := by
    rw [hW0]
    skip
    have := Bk.new w 24 [.slice A0 l0.length c0]
    exact (this.alloc _)
  have Hab0 := Lib.hid hx0.held
  have hx2 : Bk W0 (w.heap.size + 1) 52 [.slice A2 l2.length c2] := by
    rw [hW0]
    have hs : (w.alloc (.cells #[.slice A0 l0.length c0] 24)).heap.size = (w.heap.size + 1) := by simp
    have := Bk.new (w.alloc (.cells #[.slice A0 l0.length c0] 24)) 52 [.slice A2 l2.length c2]
    rw [hs] at this
    exact this
  have Hab2 := Lib.hid hx2.held
  have Ha0 : Hid (Held W0 0 w.heap.size (fun v => RdN v w.heap.size A0 l0)) := Lib.hid ((hr0.held (Nat.le_refl _)).below hb0 (Nat.le_refl _))
  have Ha1 : Hid (Held W0 0 w.heap.size (fun v => RdR v w.heap.size A1 l1)) := Lib.hid ((hr1.held (Nat.le_refl _)).below hb0 (Nat.le_refl _))
  have Hml1 := Lib.hid hm1
  have Ha2 : Hid (Held W0 0 w.heap.size (fun v => RdCl v w.heap.size A2 l2)) := Lib.hid ((hr2.held (Nat.le_refl _)).below hb0 (Nat.le_refl _))
  have hz_W0 : w.heap.size + 2 ≤ W0.heap.size := by rw [hW0]; simp
  have Hb := Lib.hid hb0
  have HW0 := Lib.hid hW0
  clear hb0 hW0 hx0 hx2 hr0 hr1 hr2 hm1
  go_enter Try.func8, Try.ntmps8
  go_wp2_with fail
  rw [← HW0.out]
  refine (szPipe_any _ _ _ _ _ (by omega) (by omega) hn0).mono ?_
  rintro e w1 ⟨rfl, hb1⟩
  have hz_w1 : W0.heap.size ≤ w1.heap.size := hb1.size
  replace Hb := Lib.hid (Hb.out.trans (hb1.mono Hb.out.size))
  replace Hab0 := Lib.hid (Hab0.out.below hb1 Hab0.out.top)
  replace Hab2 := Lib.hid (Hab2.out.below hb1 Hab2.out.top)
  replace Ha0 := Lib.hid (Ha0.out.below hb1 Ha0.out.top)
  replace Ha1 := Lib.hid (Ha1.out.below hb1 Ha1.out.top)
  replace Ha2 := Lib.hid (Ha2.out.below hb1 Ha2.out.top)
  clear hb1
  by_cases hlt0 : (1048576 : Int) < (l0.length : Int)
  · rw [szLeft_no hlt0]
    clear hlt0
    go_wp2_with fail
    go_ret
    exact ⟨rfl, Hb.out⟩
  rw [szLeft_yes hlt0]
  have hleft0 : (0 : Int) ≤ 1048576 - (l0.length : Int) := by omega
  have hs0 : l0.length ≤ 1048576 := by omega
  clear hlt0
  go_wp2_with fail
  refine (szIntSS_any _ _ _ _ _ _ Ha1.out.out (by omega) (by omega) hn1 Hml1.out).mono ?_
  rintro e w2 ⟨rfl, rfl⟩
  -- the world is the same
  by_cases hlt1 : (1048576 - (l0.length : Int) : Int) < (bulk l1 : Int)
  · rw [szLeft_no hlt1]
    clear hlt1
    go_wp2_with fail
    go_ret
    exact ⟨rfl, Hb.out⟩
  rw [szLeft_yes hlt1]
  have hleft1 : (0 : Int) ≤ 1048576 - (l0.length : Int) - (bulk l1 : Int) := by omega
  have hs1 : l1.length ≤ 1048576 := by have := bulk_len l1; omega
  have hbk1 : bulk l1 ≤ 1048576 := by omega
  have Hm1 : Hid (∀ r ∈ l1, r.length ≤ 1048576) := Lib.hid (fun r hr => by have := bulk_row hr; omega)
  clear hlt1
  have cb_Hab2 : w1.cell? ⟨w.heap.size + 1, 0, none⟩ = some (.slice A2 l2.length c2) := Hab2.out.out.cell 0
  have lb_Hab2 : w.heap.size + 1 < w1.heap.size := by have := Hab2.out.top; omega
  go_wp2_with fail
  refine (szState_any _ _ _ _ _ (by omega) (by omega) hn2).mono ?_
  rintro e w3 ⟨rfl, hb3⟩
  clear cb_Hab2 lb_Hab2
  have hz_w3 : w1.heap.size ≤ w3.heap.size := hb3.size
  replace Hb := Lib.hid (Hb.out.trans (hb3.mono Hb.out.size))
  replace Hab0 := Lib.hid (Hab0.out.below hb3 Hab0.out.top)
  replace Hab2 := Lib.hid (Hab2.out.below hb3 Hab2.out.top)
  replace Ha0 := Lib.hid (Ha0.out.below hb3 Ha0.out.top)
  replace Ha1 := Lib.hid (Ha1.out.below hb3 Ha1.out.top)
  replace Ha2 := Lib.hid (Ha2.out.below hb3 Ha2.out.top)
  clear hb3
  by_cases hlt2 : (1048576 - (l0.length : Int) - (bulk l1 : Int) : Int) < (l2.length : Int)
  · rw [szLeft_no hlt2]
    clear hlt2
    go_wp2_with fail
    go_ret
    exact ⟨rfl, Hb.out⟩
  rw [szLeft_yes hlt2]
  have hleft2 : (0 : Int) ≤ 1048576 - (l0.length : Int) - (bulk l1 : Int) - (l2.length : Int) := by omega
  have hs2 : l2.length ≤ 1048576 := by omega
  clear hlt2
  have cb_Hab0 : w3.cell? ⟨w.heap.size, 0, none⟩ = some (.slice A0 l0.length c0) := Hab0.out.out.cell 0
  have lb_Hab0 : w.heap.size < w3.heap.size := by have := Hab0.out.top; omega
  have cb_Hab2 : w3.cell? ⟨w.heap.size + 1, 0, none⟩ = some (.slice A2 l2.length c2) := Hab2.out.out.cell 0
  have lb_Hab2 : w.heap.size + 1 < w3.heap.size := by have := Hab2.out.top; omega
  have HS : Hid (∀ W' : World, Below w3.heap.size w3 W' → W'.cell? ⟨w.heap.size, 0, none⟩ = some (.slice A0 l0.length c0) ∧ W'.cell? ⟨w.heap.size + 1, 0, none⟩ = some (.slice A2 l2.length c2)) := Lib.hid (fun W' hb => ⟨(Hab0.out.below hb Hab0.out.top).out.cell 0, (Hab2.out.below hb Hab2.out.top).out.cell 0⟩)
  go_wp2_with fail
  go_region_held3 (fun w' => w'.cell? ⟨w.heap.size, 0, none⟩ = some (.slice A0 l0.length c0) ∧ w'.cell? ⟨w.heap.size + 1, 0, none⟩ = some (.slice A2 l2.length c2))
    (go_keep)
    (first
        | (
          go_at_call 17
          refine (toPipe_any A0 c0 l0 _ w.heap.size (Ha0.out.drewN 1).out (by first | omega | (simp; omega)) hs0).mono ?_
          rintro e w4 ⟨g4, rfl, hg4, hk4, hb4z⟩
          have hb4 : Below w3.heap.size w3 w4 := ((Below.refl w3.heap.size w3).drew).trans (hb4z.mono (by simp))
          have ks4 := HS.out _ hb4
          have ho4 : OwnP w4 w3.heap.size w4.heap.size (some ⟨g4, 0, none⟩) l0.length l0 := OwnP.of (hk4.own (base := w3.heap.size) (by first | exact hg4 | omega) hs0) (Nat.le_refl _)
          have Ht0 : Hid (Held w4 w3.heap.size w4.heap.size (fun v => OwnP v w3.heap.size w4.heap.size (some ⟨g4, 0, none⟩) l0.length l0)) := Lib.hid (ho4.held hb4.size (Nat.le_refl _))
          have Hq := Lib.hid hb4
          have hz_w4 : w3.heap.size ≤ w4.heap.size := hb4.size
          replace Hb := Lib.hid (Hb.out.trans (hb4.mono Hb.out.size))
          replace Hab0 := Lib.hid (Hab0.out.below hb4 Hab0.out.top)
          replace Hab2 := Lib.hid (Hab2.out.below hb4 Hab2.out.top)
          replace Ha0 := Lib.hid (Ha0.out.below hb4 Ha0.out.top)
          replace Ha1 := Lib.hid (Ha1.out.below hb4 Ha1.out.top)
          replace Ha2 := Lib.hid (Ha2.out.below hb4 Ha2.out.top)
          clear ho4 hb4 hk4 hg4 hb4z)
        | (
          go_at_call 18
          refine (toIntSS_any A1 c1 l1 _ w.heap.size Ha1.out.out Hb.out.size hs1 Hm1.out).mono ?_
          rintro e w5 ⟨rfl, hk5, hb5⟩
          have ho5 : OwnS w5 w4.heap.size w5.heap.size (some ⟨w4.heap.size, 0, none⟩) l1 := OwnS.of hk5
          have Ht1 : Hid (Held w5 w4.heap.size w5.heap.size (fun v => OwnS v w4.heap.size w5.heap.size (some ⟨w4.heap.size, 0, none⟩) l1)) := Lib.hid (ho5.held hb5.size (Nat.le_refl _))
          have Hq := Lib.hid (Hq.out.trans (hb5.mono Hq.out.size))
          have ks5 := HS.out _ Hq.out
          have hz_w5 : w4.heap.size ≤ w5.heap.size := hb5.size
          replace Hb := Lib.hid (Hb.out.trans (hb5.mono Hb.out.size))
          replace Hab0 := Lib.hid (Hab0.out.below hb5 Hab0.out.top)
          replace Hab2 := Lib.hid (Hab2.out.below hb5 Hab2.out.top)
          replace Ha0 := Lib.hid (Ha0.out.below hb5 Ha0.out.top)
          replace Ha1 := Lib.hid (Ha1.out.below hb5 Ha1.out.top)
          replace Ha2 := Lib.hid (Ha2.out.below hb5 Ha2.out.top)
          replace Ht0 := Lib.hid (Ht0.out.below hb5 Ht0.out.top)
          clear ho5 hb5 hk5)
        | (
          go_at_call 39
          refine (toState_any A2 c2 l2 _ w.heap.size Ha2.out.out Hb.out.size hs2).mono ?_
          rintro e w6 ⟨g6, rfl, hg6, hk6, hb6⟩
          have ho6 : OwnCl w6 w5.heap.size w6.heap.size (some ⟨g6, 0, none⟩) l2 := hk6
          have Ht2 : Hid (Held w6 w5.heap.size w6.heap.size (fun v => OwnCl v w5.heap.size w6.heap.size (some ⟨g6, 0, none⟩) l2)) := Lib.hid (ho6.held hb6.size (Nat.le_refl _))
          have Hq := Lib.hid (Hq.out.trans (hb6.mono Hq.out.size))
          have ks6 := HS.out _ Hq.out
          have hz_w6 : w5.heap.size ≤ w6.heap.size := hb6.size
          replace Hb := Lib.hid (Hb.out.trans (hb6.mono Hb.out.size))
          replace Hab0 := Lib.hid (Hab0.out.below hb6 Hab0.out.top)
          replace Hab2 := Lib.hid (Hab2.out.below hb6 Hab2.out.top)
          replace Ha0 := Lib.hid (Ha0.out.below hb6 Ha0.out.top)
          replace Ha1 := Lib.hid (Ha1.out.below hb6 Ha1.out.top)
          replace Ha2 := Lib.hid (Ha2.out.below hb6 Ha2.out.top)
          replace Ht0 := Lib.hid (Ht0.out.below hb6 Ht0.out.top)
          replace Ht1 := Lib.hid (Ht1.out.below hb6 Ht1.out.top)
          clear ho6 hb6 hk6 hg6)
        | (
          go_at_call 38
          refine (specValidState_any _ _ l0 _ _ l1 _ _ l2 _ w6.heap.size (Ht0.out.out.rdt Ht0.out.top) (Ht1.out.out.rdt Ht1.out.top) (Ht2.out.out.rdt Ht2.out.top) (Nat.le_refl _) hs0 hs1 Hm1).mono ?_
          rintro e w7 ⟨rfl, hb7⟩
          have Hq := Lib.hid (Hq.out.trans (hb7.mono Hq.out.size))
          have ks7 := HS.out _ Hq.out
          have hz_w7 : w6.heap.size ≤ w7.heap.size := hb7.size
          replace Hb := Lib.hid (Hb.out.trans (hb7.mono Hb.out.size))
          replace Hab0 := Lib.hid (Hab0.out.below hb7 Hab0.out.top)
          replace Hab2 := Lib.hid (Hab2.out.below hb7 Hab2.out.top)
          replace Ha0 := Lib.hid (Ha0.out.below hb7 Ha0.out.top)
          replace Ha1 := Lib.hid (Ha1.out.below hb7 Ha1.out.top)
          replace Ha2 := Lib.hid (Ha2.out.below hb7 Ha2.out.top)
          replace Ht0 := Lib.hid (Ht0.out.below hb7 Ht0.out.top)
          replace Ht1 := Lib.hid (Ht1.out.below hb7 Ht1.out.top)
          replace Ht2 := Lib.hid (Ht2.out.below hb7 Ht2.out.top)
          clear hb7))
  clear HS Hq cb_Hab0 lb_Hab0 cb_Hab2 lb_Hab2 ks4 ks5 ks6 ks7
  clear Ht0
  clear Ht1
  clear Ht2
  have cb_Hab0 : w7.cell? ⟨w.heap.size, 0, none⟩ = some (.slice A0 l0.length c0) := Hab0.out.out.cell 0
  have lb_Hab0 : w.heap.size < w7.heap.size := by have := Hab0.out.top; omega
  go_wp2_with fail
  refine (toPipe_any A0 c0 l0 _ w.heap.size Ha0.out.out Hb.out.size hs0).mono ?_
  rintro e w8 ⟨g8, rfl, hg8, hk8, hb8⟩
  have ho8 : OwnP w8 w7.heap.size w8.heap.size (some ⟨g8, 0, none⟩) l0.length l0 := OwnP.of (hk8.own (base := w7.heap.size) (by first | exact hg8 | omega) hs0) (Nat.le_refl _)
  have Hx0 : Hid (Held w8 w7.heap.size w8.heap.size (fun v => OwnP v w7.heap.size w8.heap.size (some ⟨g8, 0, none⟩) l0.length l0)) := Lib.hid (ho8.held hb8.size (Nat.le_refl _))
  clear cb_Hab0 lb_Hab0
  have hz_w8 : w7.heap.size ≤ w8.heap.size := hb8.size
  replace Hb := Lib.hid (Hb.out.trans (hb8.mono Hb.out.size))
  replace Hab0 := Lib.hid (Hab0.out.below hb8 Hab0.out.top)
  replace Hab2 := Lib.hid (Hab2.out.below hb8 Hab2.out.top)
  replace Ha0 := Lib.hid (Ha0.out.below hb8 Ha0.out.top)
  replace Ha1 := Lib.hid (Ha1.out.below hb8 Ha1.out.top)
  replace Ha2 := Lib.hid (Ha2.out.below hb8 Ha2.out.top)
  clear ho8 hb8 hk8 hg8
  obtain ⟨Vw8, hVw8⟩ : ∃ W : World, W = w8.alloc (.cells #[.slice (some ⟨g8, 0, none⟩) l0.length l0.length] 32) := ⟨_, rfl⟩
  have hbVw8 : Below w8.heap.size w8 Vw8 := by rw [hVw8]; exact (Below.refl _ _).alloc (Nat.le_refl _) _
  have Hxb0 : Hid (Held Vw8 w8.heap.size (w8.heap.size + 1) (fun v => Bk v w8.heap.size 32 [.slice (some ⟨g8, 0, none⟩) l0.length l0.length])) := Lib.hid (by rw [hVw8]; exact (Bk.new _ _ [_]).held)
  have ht_Hxb0 : w8.heap.size + 1 ≤ Vw8.heap.size := Hxb0.out.top
  have hz_Vw8 : w8.heap.size ≤ Vw8.heap.size := hbVw8.size
  replace Hb := Lib.hid (Hb.out.trans (hbVw8.mono Hb.out.size))
  replace Hab0 := Lib.hid (Hab0.out.below hbVw8 Hab0.out.top)
  replace Hab2 := Lib.hid (Hab2.out.below hbVw8 Hab2.out.top)
  replace Ha0 := Lib.hid (Ha0.out.below hbVw8 Ha0.out.top)
  replace Ha1 := Lib.hid (Ha1.out.below hbVw8 Ha1.out.top)
  replace Ha2 := Lib.hid (Ha2.out.below hbVw8 Ha2.out.top)
  replace Hx0 := Lib.hid (Hx0.out.below hbVw8 Hx0.out.top)
  have HVw8 := Lib.hid hVw8
  clear hVw8 hbVw8
  go_wp2_with fail
  rw [← HVw8.out]
  refine (toIntSS_any A1 c1 l1 _ w.heap.size Ha1.out.out Hb.out.size hs1 Hm1.out).mono ?_
  rintro e w9 ⟨rfl, hk9, hb9⟩
  have ho9 : OwnS w9 Vw8.heap.size w9.heap.size (some ⟨Vw8.heap.size, 0, none⟩) l1 := OwnS.of hk9
  have Hx1 : Hid (Held w9 Vw8.heap.size w9.heap.size (fun v => OwnS v Vw8.heap.size w9.heap.size (some ⟨Vw8.heap.size, 0, none⟩) l1)) := Lib.hid (ho9.held hb9.size (Nat.le_refl _))
  have hz_w9 : Vw8.heap.size ≤ w9.heap.size := hb9.size
  replace Hb := Lib.hid (Hb.out.trans (hb9.mono Hb.out.size))
  replace Hab0 := Lib.hid (Hab0.out.below hb9 Hab0.out.top)
  replace Hab2 := Lib.hid (Hab2.out.below hb9 Hab2.out.top)
  replace Ha0 := Lib.hid (Ha0.out.below hb9 Ha0.out.top)
  replace Ha1 := Lib.hid (Ha1.out.below hb9 Ha1.out.top)
  replace Ha2 := Lib.hid (Ha2.out.below hb9 Ha2.out.top)
  replace Hx0 := Lib.hid (Hx0.out.below hb9 Hx0.out.top)
  replace Hxb0 := Lib.hid (Hxb0.out.below hb9 Hxb0.out.top)
  clear ho9 hb9 hk9
  have cb_Hab2 : w9.cell? ⟨w.heap.size + 1, 0, none⟩ = some (.slice A2 l2.length c2) := Hab2.out.out.cell 0
  have lb_Hab2 : w.heap.size + 1 < w9.heap.size := by have := Hab2.out.top; omega
  go_wp2_with fail
  refine (toState_any A2 c2 l2 _ w.heap.size Ha2.out.out Hb.out.size hs2).mono ?_
  rintro e w10 ⟨g10, rfl, hg10, hk10, hb10⟩
  have ho10 : OwnCl w10 w9.heap.size w10.heap.size (some ⟨g10, 0, none⟩) l2 := hk10
  have Hx2 : Hid (Held w10 w9.heap.size w10.heap.size (fun v => OwnCl v w9.heap.size w10.heap.size (some ⟨g10, 0, none⟩) l2)) := Lib.hid (ho10.held hb10.size (Nat.le_refl _))
  clear cb_Hab2 lb_Hab2
  have hz_w10 : w9.heap.size ≤ w10.heap.size := hb10.size
  replace Hb := Lib.hid (Hb.out.trans (hb10.mono Hb.out.size))
  replace Hab0 := Lib.hid (Hab0.out.below hb10 Hab0.out.top)
  replace Hab2 := Lib.hid (Hab2.out.below hb10 Hab2.out.top)
  replace Ha0 := Lib.hid (Ha0.out.below hb10 Ha0.out.top)
  replace Ha1 := Lib.hid (Ha1.out.below hb10 Ha1.out.top)
  replace Ha2 := Lib.hid (Ha2.out.below hb10 Ha2.out.top)
  replace Hx0 := Lib.hid (Hx0.out.below hb10 Hx0.out.top)
  replace Hxb0 := Lib.hid (Hxb0.out.below hb10 Hxb0.out.top)
  replace Hx1 := Lib.hid (Hx1.out.below hb10 Hx1.out.top)
  clear ho10 hb10 hk10 hg10
  have cb_Hxb0 : w10.cell? ⟨w8.heap.size, 0, none⟩ = some (.slice (some ⟨g8, 0, none⟩) l0.length l0.length) := Hxb0.out.out.cell 0
  have lb_Hxb0 : w8.heap.size < w10.heap.size := by have := Hxb0.out.top; omega
  obtain ⟨Vw10, hVw10⟩ : ∃ W : World, W = w10.alloc (.cells #[.slice (some ⟨g10, 0, none⟩) l2.length l2.length] 57) := ⟨_, rfl⟩
  have hbVw10 : Below w10.heap.size w10 Vw10 := by rw [hVw10]; exact (Below.refl _ _).alloc (Nat.le_refl _) _
  have Hxb2 : Hid (Held Vw10 w10.heap.size (w10.heap.size + 1) (fun v => Bk v w10.heap.size 57 [.slice (some ⟨g10, 0, none⟩) l2.length l2.length])) := Lib.hid (by rw [hVw10]; exact (Bk.new _ _ [_]).held)
  have ht_Hxb2 : w10.heap.size + 1 ≤ Vw10.heap.size := Hxb2.out.top
  have hz_Vw10 : w10.heap.size ≤ Vw10.heap.size := hbVw10.size
  replace Hb := Lib.hid (Hb.out.trans (hbVw10.mono Hb.out.size))
  replace Hab0 := Lib.hid (Hab0.out.below hbVw10 Hab0.out.top)
  replace Hab2 := Lib.hid (Hab2.out.below hbVw10 Hab2.out.top)
  replace Ha0 := Lib.hid (Ha0.out.below hbVw10 Ha0.out.top)
  replace Ha1 := Lib.hid (Ha1.out.below hbVw10 Ha1.out.top)
  replace Ha2 := Lib.hid (Ha2.out.below hbVw10 Ha2.out.top)
  replace Hx0 := Lib.hid (Hx0.out.below hbVw10 Hx0.out.top)
  replace Hxb0 := Lib.hid (Hxb0.out.below hbVw10 Hxb0.out.top)
  replace Hx1 := Lib.hid (Hx1.out.below hbVw10 Hx1.out.top)
  replace Hx2 := Lib.hid (Hx2.out.below hbVw10 Hx2.out.top)
  have HVw10 := Lib.hid hVw10
  clear hVw10 hbVw10
  go_wp2_with fail
  rw [← HVw10.out]
  refine (implValidState_any _ _ l0 _ _ l1 _ _ l2 _ Vw10.heap.size (Hx0.out.out.rdt Hx0.out.top) (Hx1.out.out.rdt Hx1.out.top) (Hx2.out.out.rdt Hx2.out.top) (Nat.le_refl _) hs0 hs1 Hm1).mono ?_
  rintro e w11 ⟨rfl, hb11⟩
  clear cb_Hxb0 lb_Hxb0
  have hz_w11 : Vw10.heap.size ≤ w11.heap.size := hb11.size
  replace Hb := Lib.hid (Hb.out.trans (hb11.mono Hb.out.size))
  replace Hab0 := Lib.hid (Hab0.out.below hb11 Hab0.out.top)
  replace Hab2 := Lib.hid (Hab2.out.below hb11 Hab2.out.top)
  replace Ha0 := Lib.hid (Ha0.out.below hb11 Ha0.out.top)
  replace Ha1 := Lib.hid (Ha1.out.below hb11 Ha1.out.top)
  replace Ha2 := Lib.hid (Ha2.out.below hb11 Ha2.out.top)
  replace Hx0 := Lib.hid (Hx0.out.below hb11 Hx0.out.top)
  replace Hxb0 := Lib.hid (Hxb0.out.below hb11 Hxb0.out.top)
  replace Hx1 := Lib.hid (Hx1.out.below hb11 Hx1.out.top)
  replace Hx2 := Lib.hid (Hx2.out.below hb11 Hx2.out.top)
  replace Hxb2 := Lib.hid (Hxb2.out.below hb11 Hxb2.out.top)
  clear hb11
  have cb_Hab0 : w11.cell? ⟨w.heap.size, 0, none⟩ = some (.slice A0 l0.length c0) := Hab0.out.out.cell 0
  have lb_Hab0 : w.heap.size < w11.heap.size := by have := Hab0.out.top; omega
  have cb_Hxb0 : w11.cell? ⟨w8.heap.size, 0, none⟩ = some (.slice (some ⟨g8, 0, none⟩) l0.length l0.length) := Hxb0.out.out.cell 0
  have lb_Hxb0 : w8.heap.size < w11.heap.size := by have := Hxb0.out.top; omega
  have HS : Hid (∀ W' : World, Below w11.heap.size w11 W' → W'.cell? ⟨w8.heap.size, 0, none⟩ = some (.slice (some ⟨g8, 0, none⟩) l0.length l0.length) ∧ W'.cell? ⟨w.heap.size, 0, none⟩ = some (.slice A0 l0.length c0)) := Lib.hid (fun W' hb => ⟨(Hxb0.out.below hb Hxb0.out.top).out.cell 0, (Hab0.out.below hb Hab0.out.top).out.cell 0⟩)
  go_wp2_with fail
  go_region_held3 (fun w' => w'.cell? ⟨w8.heap.size, 0, none⟩ = some (.slice (some ⟨g8, 0, none⟩) l0.length l0.length) ∧ w'.cell? ⟨w.heap.size, 0, none⟩ = some (.slice A0 l0.length c0))
    (go_keep)
    (first
        | (
          go_at_call 17
          refine (toPipe_any A0 c0 l0 _ w.heap.size (Ha0.out.drewN 1).out (by first | omega | (simp; omega)) hs0).mono ?_
          rintro e w12 ⟨g12, rfl, hg12, hk12, hb12z⟩
          have hb12 : Below w11.heap.size w11 w12 := ((Below.refl w11.heap.size w11).drew).trans (hb12z.mono (by simp))
          have ks12 := HS.out _ hb12
          have ho12 : OwnP w12 w11.heap.size w12.heap.size (some ⟨g12, 0, none⟩) l0.length l0 := OwnP.of (hk12.own (base := w11.heap.size) (by first | exact hg12 | omega) hs0) (Nat.le_refl _)
          have Hc0 : Hid (Held w12 w11.heap.size w12.heap.size (fun v => OwnP v w11.heap.size w12.heap.size (some ⟨g12, 0, none⟩) l0.length l0)) := Lib.hid (ho12.held hb12.size (Nat.le_refl _))
          have hz_w12 : w11.heap.size ≤ w12.heap.size := hb12.size
          replace Hb := Lib.hid (Hb.out.trans (hb12.mono Hb.out.size))
          replace Hab0 := Lib.hid (Hab0.out.below hb12 Hab0.out.top)
          replace Hab2 := Lib.hid (Hab2.out.below hb12 Hab2.out.top)
          replace Ha0 := Lib.hid (Ha0.out.below hb12 Ha0.out.top)
          replace Ha1 := Lib.hid (Ha1.out.below hb12 Ha1.out.top)
          replace Ha2 := Lib.hid (Ha2.out.below hb12 Ha2.out.top)
          replace Hx0 := Lib.hid (Hx0.out.below hb12 Hx0.out.top)
          replace Hxb0 := Lib.hid (Hxb0.out.below hb12 Hxb0.out.top)
          replace Hx1 := Lib.hid (Hx1.out.below hb12 Hx1.out.top)
          replace Hx2 := Lib.hid (Hx2.out.below hb12 Hx2.out.top)
          replace Hxb2 := Lib.hid (Hxb2.out.below hb12 Hxb2.out.top)
          clear ho12 hb12 hk12 hg12 hb12z)
        | (
          go_at_call 21
          refine (eqPipe_any _ _ _ _ l0 l0 _ w12.heap.size (Hx0.out.out.rdt Hx0.out.top) (Hc0.out.out.rdt Hc0.out.top) (Nat.le_refl _) hs0).mono ?_
          rintro e w13 ⟨rfl, hb13⟩
          rw [decide_eq_true rfl]
          have ks13 : w13.cell? ⟨w8.heap.size, 0, none⟩ = some (.slice (some ⟨g8, 0, none⟩) l0.length l0.length) ∧ w13.cell? ⟨w.heap.size, 0, none⟩ = some (.slice A0 l0.length c0) := ⟨(Hxb0.out.below hb13 Hxb0.out.top).out.cell 0, (Hab0.out.below hb13 Hab0.out.top).out.cell 0⟩
          have hz_w13 : w12.heap.size ≤ w13.heap.size := hb13.size
          replace Hb := Lib.hid (Hb.out.trans (hb13.mono Hb.out.size))
          replace Hab0 := Lib.hid (Hab0.out.below hb13 Hab0.out.top)
          replace Hab2 := Lib.hid (Hab2.out.below hb13 Hab2.out.top)
          replace Ha0 := Lib.hid (Ha0.out.below hb13 Ha0.out.top)
          replace Ha1 := Lib.hid (Ha1.out.below hb13 Ha1.out.top)
          replace Ha2 := Lib.hid (Ha2.out.below hb13 Ha2.out.top)
          replace Hx0 := Lib.hid (Hx0.out.below hb13 Hx0.out.top)
          replace Hxb0 := Lib.hid (Hxb0.out.below hb13 Hxb0.out.top)
          replace Hx1 := Lib.hid (Hx1.out.below hb13 Hx1.out.top)
          replace Hx2 := Lib.hid (Hx2.out.below hb13 Hx2.out.top)
          replace Hxb2 := Lib.hid (Hxb2.out.below hb13 Hxb2.out.top)
          replace Hc0 := Lib.hid (Hc0.out.below hb13 Hc0.out.top)
          clear hb13))
  clear HS ks12 ks13 cb_Hab0 lb_Hab0 cb_Hxb0 lb_Hxb0 Hc0
  go_wp2_with fail
  refine (toIntSS_any A1 c1 l1 _ w.heap.size Ha1.out.out Hb.out.size hs1 Hm1.out).mono ?_
  rintro e w14 ⟨rfl, hk14, hb14⟩
  have ho14 : OwnS w14 w13.heap.size w14.heap.size (some ⟨w13.heap.size, 0, none⟩) l1 := OwnS.of hk14
  have Hc1 : Hid (Held w14 w13.heap.size w14.heap.size (fun v => OwnS v w13.heap.size w14.heap.size (some ⟨w13.heap.size, 0, none⟩) l1)) := Lib.hid (ho14.held hb14.size (Nat.le_refl _))
  have hz_w14 : w13.heap.size ≤ w14.heap.size := hb14.size
  replace Hb := Lib.hid (Hb.out.trans (hb14.mono Hb.out.size))
  replace Hab0 := Lib.hid (Hab0.out.below hb14 Hab0.out.top)
  replace Hab2 := Lib.hid (Hab2.out.below hb14 Hab2.out.top)
  replace Ha0 := Lib.hid (Ha0.out.below hb14 Ha0.out.top)
  replace Ha1 := Lib.hid (Ha1.out.below hb14 Ha1.out.top)
  replace Ha2 := Lib.hid (Ha2.out.below hb14 Ha2.out.top)
  replace Hx0 := Lib.hid (Hx0.out.below hb14 Hx0.out.top)
  replace Hxb0 := Lib.hid (Hxb0.out.below hb14 Hxb0.out.top)
  replace Hx1 := Lib.hid (Hx1.out.below hb14 Hx1.out.top)
  replace Hx2 := Lib.hid (Hx2.out.below hb14 Hx2.out.top)
  replace Hxb2 := Lib.hid (Hxb2.out.below hb14 Hxb2.out.top)
  clear ho14 hb14 hk14
  go_wp2_with fail
  refine (eqIntSS_any _ _ _ _ l1 l1 _ w14.heap.size (Hx1.out.out.rdt Hx1.out.top) (Hc1.out.out.rdt Hc1.out.top) hs1 Hm1.out).mono ?_
  rintro e w15 ⟨rfl, hsm15⟩
  have hb15 := hsm15.below w14.heap.size
  rw [decide_eq_true rfl]
  have hz_w15 : w14.heap.size ≤ w15.heap.size := hb15.size
  replace Hb := Lib.hid (Hb.out.trans (hb15.mono Hb.out.size))
  replace Hab0 := Lib.hid (Hab0.out.below hb15 Hab0.out.top)
  replace Hab2 := Lib.hid (Hab2.out.below hb15 Hab2.out.top)
  replace Ha0 := Lib.hid (Ha0.out.below hb15 Ha0.out.top)
  replace Ha1 := Lib.hid (Ha1.out.below hb15 Ha1.out.top)
  replace Ha2 := Lib.hid (Ha2.out.below hb15 Ha2.out.top)
  replace Hx0 := Lib.hid (Hx0.out.below hb15 Hx0.out.top)
  replace Hxb0 := Lib.hid (Hxb0.out.below hb15 Hxb0.out.top)
  replace Hx1 := Lib.hid (Hx1.out.below hb15 Hx1.out.top)
  replace Hx2 := Lib.hid (Hx2.out.below hb15 Hx2.out.top)
  replace Hxb2 := Lib.hid (Hxb2.out.below hb15 Hxb2.out.top)
  replace Hc1 := Lib.hid (Hc1.out.below hb15 Hc1.out.top)
  clear hb15 hsm15
  clear Hc1
  have cb_Hab2 : w15.cell? ⟨w.heap.size + 1, 0, none⟩ = some (.slice A2 l2.length c2) := Hab2.out.out.cell 0
  have lb_Hab2 : w.heap.size + 1 < w15.heap.size := by have := Hab2.out.top; omega
  have cb_Hxb2 : w15.cell? ⟨w10.heap.size, 0, none⟩ = some (.slice (some ⟨g10, 0, none⟩) l2.length l2.length) := Hxb2.out.out.cell 0
  have lb_Hxb2 : w10.heap.size < w15.heap.size := by have := Hxb2.out.top; omega
  have HS : Hid (∀ W' : World, Below w15.heap.size w15 W' → W'.cell? ⟨w10.heap.size, 0, none⟩ = some (.slice (some ⟨g10, 0, none⟩) l2.length l2.length) ∧ W'.cell? ⟨w.heap.size + 1, 0, none⟩ = some (.slice A2 l2.length c2)) := Lib.hid (fun W' hb => ⟨(Hxb2.out.below hb Hxb2.out.top).out.cell 0, (Hab2.out.below hb Hab2.out.top).out.cell 0⟩)
  go_wp2_with fail
  go_region_held3 (fun w' => w'.cell? ⟨w10.heap.size, 0, none⟩ = some (.slice (some ⟨g10, 0, none⟩) l2.length l2.length) ∧ w'.cell? ⟨w.heap.size + 1, 0, none⟩ = some (.slice A2 l2.length c2))
    (go_keep)
    (first
        | (
          go_at_call 39
          refine (toState_any A2 c2 l2 _ w.heap.size (Ha2.out.drewN 1).out (by first | omega | (simp; omega)) hs2).mono ?_
          rintro e w16 ⟨g16, rfl, hg16, hk16, hb16z⟩
          have hb16 : Below w15.heap.size w15 w16 := ((Below.refl w15.heap.size w15).drew).trans (hb16z.mono (by simp))
          have ks16 := HS.out _ hb16
          have ho16 : OwnCl w16 w15.heap.size w16.heap.size (some ⟨g16, 0, none⟩) l2 := hk16
          have Hc2 : Hid (Held w16 w15.heap.size w16.heap.size (fun v => OwnCl v w15.heap.size w16.heap.size (some ⟨g16, 0, none⟩) l2)) := Lib.hid (ho16.held hb16.size (Nat.le_refl _))
          have hz_w16 : w15.heap.size ≤ w16.heap.size := hb16.size
          replace Hb := Lib.hid (Hb.out.trans (hb16.mono Hb.out.size))
          replace Hab0 := Lib.hid (Hab0.out.below hb16 Hab0.out.top)
          replace Hab2 := Lib.hid (Hab2.out.below hb16 Hab2.out.top)
          replace Ha0 := Lib.hid (Ha0.out.below hb16 Ha0.out.top)
          replace Ha1 := Lib.hid (Ha1.out.below hb16 Ha1.out.top)
          replace Ha2 := Lib.hid (Ha2.out.below hb16 Ha2.out.top)
          replace Hx0 := Lib.hid (Hx0.out.below hb16 Hx0.out.top)
          replace Hxb0 := Lib.hid (Hxb0.out.below hb16 Hxb0.out.top)
          replace Hx1 := Lib.hid (Hx1.out.below hb16 Hx1.out.top)
          replace Hx2 := Lib.hid (Hx2.out.below hb16 Hx2.out.top)
          replace Hxb2 := Lib.hid (Hxb2.out.below hb16 Hxb2.out.top)
          clear ho16 hb16 hk16 hg16 hb16z)
        | (
          go_at_call 41
          refine (eqState_any _ _ _ _ l2 l2 _ w16.heap.size (Hx2.out.out.rdt Hx2.out.top) (Hc2.out.out.rdt Hc2.out.top) (Nat.le_refl _) hs2).mono ?_
          rintro e w17 ⟨rfl, hb17⟩
          rw [decide_eq_true rfl]
          have ks17 : w17.cell? ⟨w10.heap.size, 0, none⟩ = some (.slice (some ⟨g10, 0, none⟩) l2.length l2.length) ∧ w17.cell? ⟨w.heap.size + 1, 0, none⟩ = some (.slice A2 l2.length c2) := ⟨(Hxb2.out.below hb17 Hxb2.out.top).out.cell 0, (Hab2.out.below hb17 Hab2.out.top).out.cell 0⟩
          have hz_w17 : w16.heap.size ≤ w17.heap.size := hb17.size
          replace Hb := Lib.hid (Hb.out.trans (hb17.mono Hb.out.size))
          replace Hab0 := Lib.hid (Hab0.out.below hb17 Hab0.out.top)
          replace Hab2 := Lib.hid (Hab2.out.below hb17 Hab2.out.top)
          replace Ha0 := Lib.hid (Ha0.out.below hb17 Ha0.out.top)
          replace Ha1 := Lib.hid (Ha1.out.below hb17 Ha1.out.top)
          replace Ha2 := Lib.hid (Ha2.out.below hb17 Ha2.out.top)
          replace Hx0 := Lib.hid (Hx0.out.below hb17 Hx0.out.top)
          replace Hxb0 := Lib.hid (Hxb0.out.below hb17 Hxb0.out.top)
          replace Hx1 := Lib.hid (Hx1.out.below hb17 Hx1.out.top)
          replace Hx2 := Lib.hid (Hx2.out.below hb17 Hx2.out.top)
          replace Hxb2 := Lib.hid (Hxb2.out.below hb17 Hxb2.out.top)
          replace Hc2 := Lib.hid (Hc2.out.below hb17 Hc2.out.top)
          clear hb17))
  clear HS ks16 ks17 cb_Hab2 lb_Hab2 cb_Hxb2 lb_Hxb2 Hc2
  go_wp2_with fail
  go_ret
  exact ⟨rfl, Hb.out⟩



set_option maxRecDepth 100000 in
theorem lifted (os : Os) (started : os.Started) (H : Type) (enc : TypeId × Value → H) :
    ReturnsInHanded {} Try.checked os 8 .any (Rows.fnExactValidStateSpec.pre6 enc Try.prog Try.f8 Rows.fnExactValidStateRow.domain false) (Rows.fnExactValidStateSpec.post enc Try.prog Try.f8 false true false false) := by
  refine returnsInHanded_of_change (C := Try.checked) own started (by kernel_rfl) Try.func8
    (ChangeSpec.witness6 (enc := enc) (C := Try.checked) false ⟨#[], #[.agg #[.slice none 0 0], .slice none 0 0, .agg #[.slice none 0 0]], []⟩ 8 (by kernel_rfl) (by kernel_rfl) (by kernel_rfl) (by kernel_rfl)) ?_
  intro W base args ds gs before hval0 hW _ _
  have hval : ∀ (j : Nat) t v, Try.f8.params[j]? = some t → args[j]? = some v → Value.okWide Try.prog W .any base t v := hval0
  have hW' := hW
  obtain ⟨p, q, hA0, hV, rfl, hfz, hnd⟩ := hW
  have hA : DataW.TrodAll enc Try.prog W 0 (fun _ => true) true Try.f8.params.toList args.toList ds p := hA0
  rw [Try.params8] at hA hval
  obtain ⟨v0, vs0, d0, ds0, p0, q0, hargs, rfl, rfl, h0, r0⟩ := trodAll_cons hA
  obtain ⟨v1, vs1, d1, ds1, p1, q1, rfl, rfl, rfl, h1, r1⟩ := trodAll_cons r0
  obtain ⟨v2, vs2, d2, ds2, p2, q2, rfl, rfl, rfl, h2, r2⟩ := trodAll_cons r1
  obtain ⟨rfl, rfl, rfl⟩ := trodAll_nil r2
  obtain rfl : args = #[v0, v1, v2] := by cases args; simp_all
  obtain ⟨rfl, rfl⟩ := trodVars_none hV
  have k0 := h0
  have lt0 : ∀ x ∈ p0, x.block < W.heap.size := by obtain ⟨m, hm⟩ := k0; exact DataW.trod_lt m _ _ _ hm
  obtain ⟨A0, len0, cap0, l0, rfl, rfl, hl0, hrd0⟩ := open_pipe Try.underlying24 (by kernel_rfl) rfl (by kernel_rfl) Try.underlying22 Try.underlying114 rfl (by kernel_rfl) (by kernel_rfl) Try.underlying3 (by kernel_rfl) (hval 0 24 v0 rfl rfl) h0
  obtain ⟨a1, len1, cap1, rfl⟩ := okWide_slice Try.underlying25 (hval 1 25 v1 rfl rfl)
  have k1 := h1
  have lt1 : ∀ x ∈ p1, x.block < W.heap.size := by obtain ⟨m, hm⟩ := k1; exact DataW.trod_lt m _ _ _ hm
  obtain ⟨rows1, rfl, hl1, hm1, hrd1⟩ := open_rows Try.underlying25 Try.underlying28 Try.underlying3 (by kernel_rfl) (by kernel_rfl) h1
  have k2 := h2
  have lt2 : ∀ x ∈ p2, x.block < W.heap.size := by obtain ⟨m, hm⟩ := k2; exact DataW.trod_lt m _ _ _ hm
  obtain ⟨A2, len2, cap2, l2, rfl, rfl, hl2, hrd2⟩ := open_state Try.underlying52 (by kernel_rfl) rfl (by kernel_rfl) Try.underlying50 Try.underlying134 (by kernel_rfl) (by kernel_rfl) Try.underlying3 Try.underlying4 (by kernel_rfl) (hval 2 52 v2 rfl rfl) h2
  clear hA0 hval0
  refine (walk0 A0 cap0 l0 a1 cap1 rows1 A2 cap2 l2 W hrd0 hl0 hrd1 hl1 hm1 hrd2 hl2).mono fun e W' ⟨he, bel⟩ => ?_
  subst he
  exact ⟨_, rfl, _, _, _, [], _, [], hW', trodAll_mk1 (shut_bool Try.underlying4 _), (trodAll_cons_mk (Below.trod laidOut (by kernel_rfl) (of_decide_eq_true (by kernel_rfl)) k0 bel lt0) (trodAll_cons_mk (Below.trod laidOut (by kernel_rfl) (of_decide_eq_true (by kernel_rfl)) k1 bel lt1) (trodAll_cons_mk (Below.trod laidOut (by kernel_rfl) (of_decide_eq_true (by kernel_rfl)) k2 bel lt2) trodAll_mk0))), rfl, bel.frame _, fun h => by cases h⟩

theorem fnExactValidState_holds : Rows.FnExactValidStateSaid :=
  OpenClaim.holds_of_wide 8 Try.f8 rfl rfl rfl rfl rfl rfl rfl ⟨rfl, rfl, rfl, rfl, rfl⟩ rfl rfl rfl rfl rfl (by kernel_rfl) Try.func8 (by kernel_rfl)
    (of_decide_eq_true (by kernel_rfl)) (by unfold Func.isWrapper; rw [if_neg (of_decide_eq_false (by kernel_rfl))]; exact ⟨rfl, rfl⟩)
    (fun os started H enc _ => lifted os started H enc)

end Go.Proofs.Ytjfdbcbmpgnahaa.LawVS
