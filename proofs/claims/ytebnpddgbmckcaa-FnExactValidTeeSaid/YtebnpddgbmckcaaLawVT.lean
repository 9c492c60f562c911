/- The law FnExactValidTee returns true for every input, and its arguments read afterwards as before. Conditions: none. -/
import Derived.Test.YtebnpddgbmckcaaRows
import Derived.Test.YtebnpddgbmckcaaTeeV
import Derived.Test.YtebnpddgbmckcaaOpenT
import Derived.Deep.RegionHeld3
import Derived.Deep.CutRange
import Derived.Deep.DeepMust
namespace Go.Proofs.Ytebnpddgbmckcaa.LawVT
open Go.ChangeShapes Go.WideShapes Go.ChangeAt Go.RowKit Go.Deep

theorem own : ownKnob Try.prog.godebug = none := by kernel_rfl
theorem laidOut : laidOutB Try.prog = true := by kernel_rfl

set_option maxRecDepth 100000 in
set_option maxHeartbeats 12800000 in
theorem walk0 (r0 : Tr) (l0 : Te) (w : World)  (hr0 : RdT w w.heap.size r0 l0) (hn0_0 : l0.it.length ≤ maxLen) (hn0_1 : l0.pl.length ≤ maxLen) (hn0_2 : l0.op.length ≤ maxLen) :
    Calls Try.prog 5 #[.agg #[.slice r0.a1 l0.it.length r0.c1, .int .i64 l0.fd, .slice r0.a2 l0.pl.length r0.c2, .slice r0.a3 l0.op.length r0.c3]] w fun e w' => e = .returned (.bool true) ∧ Below w.heap.size w w' := by
  obtain ⟨W0, hW0⟩ : ∃ W0 : World, W0 = w.alloc (.cells #[.slice r0.a1 l0.it.length r0.c1, .int .i64 l0.fd, .slice r0.a2 l0.pl.length r0.c2, .slice r0.a3 l0.op.length r0.c3] 39) := ⟨_, rfl⟩
  have hb0 : Below w.heap.size w W0 := by rw [hW0]; exact (Below.refl w.heap.size w).alloc (Nat.le_refl _) _
  have hx0 : Bk W0 w.heap.size 39 [.slice r0.a1 l0.it.length r0.c1, .int .i64 l0.fd, .slice r0.a2 l0.pl.length r0.c2, .slice r0.a3 l0.op.length r0.c3] := by rw [hW0]; exact Bk.new w 39 [.slice r0.a1 l0.it.length r0.c1, .int .i64 l0.fd, .slice r0.a2 l0.pl.length r0.c2, .slice r0.a3 l0.op.length r0.c3]
  have Hab0 := Lib.hid hx0.held
  have hz_W0 : w.heap.size + 1 ≤ W0.heap.size := by rw [hW0]; simp
  have Ha0 : Hid (Held W0 0 w.heap.size (fun v => RdT v w.heap.size r0 l0)) := Lib.hid ((hr0.held (Nat.le_refl _)).below hb0 (Nat.le_refl _))
  have Hb := Lib.hid hb0
  have HW0 := Lib.hid hW0
  clear hb0 hW0 hx0 hr0
  go_enter Try.func5, Try.ntmps5
  go_wp2_with fail
  rw [← HW0.out]
  refine (szTee_any r0 l0 1048576 _ (by omega) (by omega) hn0_0 hn0_1 hn0_2).mono ?_
  rintro e w1 ⟨rfl, hb1⟩
  have hz_w1 : W0.heap.size ≤ w1.heap.size := hb1.size
  replace Hb := Lib.hid (Hb.out.trans (hb1.mono Hb.out.size))
  replace Hab0 := Lib.hid (Hab0.out.below hb1 Hab0.out.top)
  replace Ha0 := Lib.hid (Ha0.out.below hb1 Ha0.out.top)
  clear hb1
  by_cases hlt0 : (1048576 : Int) < (szT l0 : Nat)
  · rw [szLeft_no hlt0]
    clear hlt0
    go_wp2_with fail
    go_ret
    exact ⟨rfl, Hb.out⟩
  rw [szLeft_yes hlt0]
  have hleft0 : (0 : Int) ≤ 1048576 - (szT l0 : Nat) := by omega
  have hs0_0 : l0.it.length ≤ 1048576 := by unfold szT at hlt0; omega
  have hs0_1 : l0.pl.length ≤ 1048576 := by unfold szT at hlt0; omega
  have hs0_2 : l0.op.length ≤ 1048576 := by unfold szT at hlt0; omega
  have hsz0 : szT l0 ≤ 1048576 := by omega
  clear hlt0
  have cb0_Hab0 : w1.cell? ⟨w.heap.size, 0, none⟩ = some (.slice r0.a1 l0.it.length r0.c1) := Hab0.out.out.cell 0
  have cb1_Hab0 : w1.cell? ⟨w.heap.size, 1, none⟩ = some (.int .i64 l0.fd) := Hab0.out.out.cell 1
  have cb2_Hab0 : w1.cell? ⟨w.heap.size, 2, none⟩ = some (.slice r0.a2 l0.pl.length r0.c2) := Hab0.out.out.cell 2
  have cb3_Hab0 : w1.cell? ⟨w.heap.size, 3, none⟩ = some (.slice r0.a3 l0.op.length r0.c3) := Hab0.out.out.cell 3
  have lb_Hab0 : w.heap.size < w1.heap.size := by have := Hab0.out.top; omega
  go_wp2_with fail
  refine (toTee_h r0 l0 _ w.heap.size Ha0.out.out Hb.out.size hs0_0 hs0_1 hs0_2).mono ?_
  rintro e w2 ⟨r_Ht0, rfl, ho2, hb2, hcap_Ht0⟩
  have Ht0 : Hid (Held w2 w1.heap.size w2.heap.size (fun v => OwnT v w1.heap.size w2.heap.size r_Ht0 l0)) := Lib.hid (ho2.held hb2.size (Nat.le_refl _))
  clear cb0_Hab0 cb1_Hab0 cb2_Hab0 cb3_Hab0 lb_Hab0
  have hz_w2 : w1.heap.size ≤ w2.heap.size := hb2.size
  replace Hb := Lib.hid (Hb.out.trans (hb2.mono Hb.out.size))
  replace Hab0 := Lib.hid (Hab0.out.below hb2 Hab0.out.top)
  replace Ha0 := Lib.hid (Ha0.out.below hb2 Ha0.out.top)
  clear ho2 hb2
  go_wp2_with fail
  refine (specValidTee_any r_Ht0 l0 _ w2.heap.size (Ht0.out.out.rdt Ht0.out.top) (Nat.le_refl _) hs0_0 hs0_1 hs0_2).mono ?_
  rintro e w3 ⟨rfl, hb3⟩
  have hz_w3 : w2.heap.size ≤ w3.heap.size := hb3.size
  replace Hb := Lib.hid (Hb.out.trans (hb3.mono Hb.out.size))
  replace Hab0 := Lib.hid (Hab0.out.below hb3 Hab0.out.top)
  replace Ha0 := Lib.hid (Ha0.out.below hb3 Ha0.out.top)
  replace Ht0 := Lib.hid (Ht0.out.below hb3 Ht0.out.top)
  clear hb3
  have cb0_Hab0 : w3.cell? ⟨w.heap.size, 0, none⟩ = some (.slice r0.a1 l0.it.length r0.c1) := Hab0.out.out.cell 0
  have cb1_Hab0 : w3.cell? ⟨w.heap.size, 1, none⟩ = some (.int .i64 l0.fd) := Hab0.out.out.cell 1
  have cb2_Hab0 : w3.cell? ⟨w.heap.size, 2, none⟩ = some (.slice r0.a2 l0.pl.length r0.c2) := Hab0.out.out.cell 2
  have cb3_Hab0 : w3.cell? ⟨w.heap.size, 3, none⟩ = some (.slice r0.a3 l0.op.length r0.c3) := Hab0.out.out.cell 3
  have lb_Hab0 : w.heap.size < w3.heap.size := by have := Hab0.out.top; omega
  go_wp2_with fail
  refine (toTee_h r0 l0 _ w.heap.size Ha0.out.out Hb.out.size hs0_0 hs0_1 hs0_2).mono ?_
  rintro e w4 ⟨r_Hx0, rfl, ho4, hb4, hcap_Hx0⟩
  have Hx0 : Hid (Held w4 w3.heap.size w4.heap.size (fun v => OwnT v w3.heap.size w4.heap.size r_Hx0 l0)) := Lib.hid (ho4.held hb4.size (Nat.le_refl _))
  clear cb0_Hab0 cb1_Hab0 cb2_Hab0 cb3_Hab0 lb_Hab0
  have hz_w4 : w3.heap.size ≤ w4.heap.size := hb4.size
  replace Hb := Lib.hid (Hb.out.trans (hb4.mono Hb.out.size))
  replace Hab0 := Lib.hid (Hab0.out.below hb4 Hab0.out.top)
  replace Ha0 := Lib.hid (Ha0.out.below hb4 Ha0.out.top)
  clear ho4 hb4
  obtain ⟨Vw4, hVw4⟩ : ∃ W : World, W = w4.alloc (.cells #[.slice r_Hx0.a1 l0.it.length r_Hx0.c1, .int .i64 l0.fd, .slice r_Hx0.a2 l0.pl.length r_Hx0.c2, .slice r_Hx0.a3 l0.op.length r_Hx0.c3] 28) := ⟨_, rfl⟩
  have hbVw4 : Below w4.heap.size w4 Vw4 := by rw [hVw4]; exact (Below.refl _ _).alloc (Nat.le_refl _) _
  have Hxb0 : Hid (Held Vw4 w4.heap.size (w4.heap.size + 1) (fun v => Bk v w4.heap.size 28 [.slice r_Hx0.a1 l0.it.length r_Hx0.c1, .int .i64 l0.fd, .slice r_Hx0.a2 l0.pl.length r_Hx0.c2, .slice r_Hx0.a3 l0.op.length r_Hx0.c3])) := Lib.hid (by rw [hVw4]; exact (Bk.new _ _ [_, _, _, _]).held)
  have ht_Hxb0 : w4.heap.size + 1 ≤ Vw4.heap.size := Hxb0.out.top
  have hz_Vw4 : w4.heap.size ≤ Vw4.heap.size := hbVw4.size
  replace Hb := Lib.hid (Hb.out.trans (hbVw4.mono Hb.out.size))
  replace Hab0 := Lib.hid (Hab0.out.below hbVw4 Hab0.out.top)
  replace Ha0 := Lib.hid (Ha0.out.below hbVw4 Ha0.out.top)
  replace Hx0 := Lib.hid (Hx0.out.below hbVw4 Hx0.out.top)
  have HVw4 := Lib.hid hVw4
  clear hVw4 hbVw4
  go_wp2_with fail
  rw [← HVw4.out]
  refine (implValidTee_any r_Hx0 l0 _ Vw4.heap.size (Hx0.out.out.rdt Hx0.out.top) (Nat.le_refl _) hs0_0 hs0_1 hs0_2).mono ?_
  rintro e w5 ⟨rfl, hb5⟩
  have hz_w5 : Vw4.heap.size ≤ w5.heap.size := hb5.size
  replace Hb := Lib.hid (Hb.out.trans (hb5.mono Hb.out.size))
  replace Hab0 := Lib.hid (Hab0.out.below hb5 Hab0.out.top)
  replace Ha0 := Lib.hid (Ha0.out.below hb5 Ha0.out.top)
  replace Hx0 := Lib.hid (Hx0.out.below hb5 Hx0.out.top)
  replace Hxb0 := Lib.hid (Hxb0.out.below hb5 Hxb0.out.top)
  clear hb5
  have cb0_Hab0 : w5.cell? ⟨w.heap.size, 0, none⟩ = some (.slice r0.a1 l0.it.length r0.c1) := Hab0.out.out.cell 0
  have cb1_Hab0 : w5.cell? ⟨w.heap.size, 1, none⟩ = some (.int .i64 l0.fd) := Hab0.out.out.cell 1
  have cb2_Hab0 : w5.cell? ⟨w.heap.size, 2, none⟩ = some (.slice r0.a2 l0.pl.length r0.c2) := Hab0.out.out.cell 2
  have cb3_Hab0 : w5.cell? ⟨w.heap.size, 3, none⟩ = some (.slice r0.a3 l0.op.length r0.c3) := Hab0.out.out.cell 3
  have lb_Hab0 : w.heap.size < w5.heap.size := by have := Hab0.out.top; omega
  have cb0_Hxb0 : w5.cell? ⟨w4.heap.size, 0, none⟩ = some (.slice r_Hx0.a1 l0.it.length r_Hx0.c1) := Hxb0.out.out.cell 0
  have cb1_Hxb0 : w5.cell? ⟨w4.heap.size, 1, none⟩ = some (.int .i64 l0.fd) := Hxb0.out.out.cell 1
  have cb2_Hxb0 : w5.cell? ⟨w4.heap.size, 2, none⟩ = some (.slice r_Hx0.a2 l0.pl.length r_Hx0.c2) := Hxb0.out.out.cell 2
  have cb3_Hxb0 : w5.cell? ⟨w4.heap.size, 3, none⟩ = some (.slice r_Hx0.a3 l0.op.length r_Hx0.c3) := Hxb0.out.out.cell 3
  have lb_Hxb0 : w4.heap.size < w5.heap.size := by have := Hxb0.out.top; omega
  have HS : Hid (∀ W' : World, Below w5.heap.size w5 W' → W'.cell? ⟨w4.heap.size, 0, none⟩ = some (.slice r_Hx0.a1 l0.it.length r_Hx0.c1) ∧ W'.cell? ⟨w4.heap.size, 1, none⟩ = some (.int .i64 l0.fd) ∧ W'.cell? ⟨w4.heap.size, 2, none⟩ = some (.slice r_Hx0.a2 l0.pl.length r_Hx0.c2) ∧ W'.cell? ⟨w4.heap.size, 3, none⟩ = some (.slice r_Hx0.a3 l0.op.length r_Hx0.c3) ∧ W'.cell? ⟨w.heap.size, 0, none⟩ = some (.slice r0.a1 l0.it.length r0.c1) ∧ W'.cell? ⟨w.heap.size, 1, none⟩ = some (.int .i64 l0.fd) ∧ W'.cell? ⟨w.heap.size, 2, none⟩ = some (.slice r0.a2 l0.pl.length r0.c2) ∧ W'.cell? ⟨w.heap.size, 3, none⟩ = some (.slice r0.a3 l0.op.length r0.c3)) := Lib.hid (fun W' hb => ⟨(Hxb0.out.below hb Hxb0.out.top).out.cell 0, (Hxb0.out.below hb Hxb0.out.top).out.cell 1, (Hxb0.out.below hb Hxb0.out.top).out.cell 2, (Hxb0.out.below hb Hxb0.out.top).out.cell 3, (Hab0.out.below hb Hab0.out.top).out.cell 0, (Hab0.out.below hb Hab0.out.top).out.cell 1, (Hab0.out.below hb Hab0.out.top).out.cell 2, (Hab0.out.below hb Hab0.out.top).out.cell 3⟩)
  go_wp2_with fail
  go_region_held3 (fun w' => w'.cell? ⟨w4.heap.size, 0, none⟩ = some (.slice r_Hx0.a1 l0.it.length r_Hx0.c1) ∧ w'.cell? ⟨w4.heap.size, 1, none⟩ = some (.int .i64 l0.fd) ∧ w'.cell? ⟨w4.heap.size, 2, none⟩ = some (.slice r_Hx0.a2 l0.pl.length r_Hx0.c2) ∧ w'.cell? ⟨w4.heap.size, 3, none⟩ = some (.slice r_Hx0.a3 l0.op.length r_Hx0.c3) ∧ w'.cell? ⟨w.heap.size, 0, none⟩ = some (.slice r0.a1 l0.it.length r0.c1) ∧ w'.cell? ⟨w.heap.size, 1, none⟩ = some (.int .i64 l0.fd) ∧ w'.cell? ⟨w.heap.size, 2, none⟩ = some (.slice r0.a2 l0.pl.length r0.c2) ∧ w'.cell? ⟨w.heap.size, 3, none⟩ = some (.slice r0.a3 l0.op.length r0.c3))
    (go_keep)
    (first
        | (
          go_at_call 28
          refine (toTee_h r0 l0 _ w.heap.size (Ha0.out.drewN 1).out (by first | omega | (simp; omega)) hs0_0 hs0_1 hs0_2).mono ?_
          rintro e w6 ⟨r_Hc0, rfl, ho6, hb6z, hcap_Hc0⟩
          replace ho6 : OwnT w6 w5.heap.size w6.heap.size r_Hc0 l0 := by simpa using ho6
          have hb6 : Below w5.heap.size w5 w6 := ((Below.refl w5.heap.size w5).drew).trans (hb6z.mono (by simp))
          have Hc0 : Hid (Held w6 w5.heap.size w6.heap.size (fun v => OwnT v w5.heap.size w6.heap.size r_Hc0 l0)) := Lib.hid (ho6.held hb6.size (Nat.le_refl _))
          have ks6 := HS.out _ hb6
          have hz_w6 : w5.heap.size ≤ w6.heap.size := hb6.size
          replace Hb := Lib.hid (Hb.out.trans (hb6.mono Hb.out.size))
          replace Hab0 := Lib.hid (Hab0.out.below hb6 Hab0.out.top)
          replace Ha0 := Lib.hid (Ha0.out.below hb6 Ha0.out.top)
          replace Hx0 := Lib.hid (Hx0.out.below hb6 Hx0.out.top)
          replace Hxb0 := Lib.hid (Hxb0.out.below hb6 Hxb0.out.top)
          clear ho6 hb6 hb6z)
        | (
          go_at_call 29
          refine (eqTee_any _ _ l0 _ w6.heap.size (Hx0.out.out.rdt Hx0.out.top) (Hc0.out.out.rdt Hc0.out.top) (Nat.le_refl _) hs0_0 hs0_1 hs0_2).mono ?_
          rintro e w7 ⟨rfl, hb7⟩
          have ks7 : w7.cell? ⟨w4.heap.size, 0, none⟩ = some (.slice r_Hx0.a1 l0.it.length r_Hx0.c1) ∧ w7.cell? ⟨w4.heap.size, 1, none⟩ = some (.int .i64 l0.fd) ∧ w7.cell? ⟨w4.heap.size, 2, none⟩ = some (.slice r_Hx0.a2 l0.pl.length r_Hx0.c2) ∧ w7.cell? ⟨w4.heap.size, 3, none⟩ = some (.slice r_Hx0.a3 l0.op.length r_Hx0.c3) ∧ w7.cell? ⟨w.heap.size, 0, none⟩ = some (.slice r0.a1 l0.it.length r0.c1) ∧ w7.cell? ⟨w.heap.size, 1, none⟩ = some (.int .i64 l0.fd) ∧ w7.cell? ⟨w.heap.size, 2, none⟩ = some (.slice r0.a2 l0.pl.length r0.c2) ∧ w7.cell? ⟨w.heap.size, 3, none⟩ = some (.slice r0.a3 l0.op.length r0.c3) := ⟨(Hxb0.out.below hb7 Hxb0.out.top).out.cell 0, (Hxb0.out.below hb7 Hxb0.out.top).out.cell 1, (Hxb0.out.below hb7 Hxb0.out.top).out.cell 2, (Hxb0.out.below hb7 Hxb0.out.top).out.cell 3, (Hab0.out.below hb7 Hab0.out.top).out.cell 0, (Hab0.out.below hb7 Hab0.out.top).out.cell 1, (Hab0.out.below hb7 Hab0.out.top).out.cell 2, (Hab0.out.below hb7 Hab0.out.top).out.cell 3⟩
          have hz_w7 : w6.heap.size ≤ w7.heap.size := hb7.size
          replace Hb := Lib.hid (Hb.out.trans (hb7.mono Hb.out.size))
          replace Hab0 := Lib.hid (Hab0.out.below hb7 Hab0.out.top)
          replace Ha0 := Lib.hid (Ha0.out.below hb7 Ha0.out.top)
          replace Hx0 := Lib.hid (Hx0.out.below hb7 Hx0.out.top)
          replace Hxb0 := Lib.hid (Hxb0.out.below hb7 Hxb0.out.top)
          replace Hc0 := Lib.hid (Hc0.out.below hb7 Hc0.out.top)
          clear hb7))
  clear HS ks6 ks7 cb0_Hab0 cb1_Hab0 cb2_Hab0 cb3_Hab0 lb_Hab0 cb0_Hxb0 cb1_Hxb0 cb2_Hxb0 cb3_Hxb0 lb_Hxb0 Hc0
  go_wp2_with fail
  go_ret
  exact ⟨rfl, Hb.out⟩



set_option maxRecDepth 100000 in
theorem lifted (os : Os) (started : os.Started) (H : Type) (enc : TypeId × Value → H) :
    ReturnsInHanded {} Try.checked os 5 .any (Rows.fnExactValidTeeSpec.pre6 enc Try.prog Try.f5 Rows.fnExactValidTeeRow.domain false) (Rows.fnExactValidTeeSpec.post enc Try.prog Try.f5 false true false false) := by
  refine returnsInHanded_of_change (C := Try.checked) own started (by kernel_rfl) Try.func5
    (ChangeSpec.witness6 (enc := enc) (C := Try.checked) false ⟨#[], #[.agg #[.slice none 0 0, .int .i64 0, .slice none 0 0, .slice none 0 0]], []⟩ 8 (by kernel_rfl) (by kernel_rfl) (by kernel_rfl) (by kernel_rfl)) ?_
  intro W base args ds gs before hval0 hW _ _
  have hval : ∀ (j : Nat) t v, Try.f5.params[j]? = some t → args[j]? = some v → Value.okWide Try.prog W .any base t v := hval0
  have hW' := hW
  obtain ⟨p, q, hA0, hV, rfl, hfz, hnd⟩ := hW
  have hA : DataW.TrodAll enc Try.prog W 0 (fun _ => true) true Try.f5.params.toList args.toList ds p := hA0
  rw [Try.params5] at hA hval
  obtain ⟨v0, vs0, d0, ds0, p0, q0, hargs, rfl, rfl, h0, r0⟩ := trodAll_cons hA
  obtain ⟨rfl, rfl, rfl⟩ := trodAll_nil r0
  obtain rfl : args = #[v0] := by cases args; simp_all
  obtain ⟨rfl, rfl⟩ := trodVars_none hV
  have k0 := h0
  have lt0 : ∀ x ∈ p0, x.block < W.heap.size := by obtain ⟨m, hm⟩ := k0; exact DataW.trod_lt m _ _ _ hm
  obtain ⟨r0, l0, rfl, hrd0, hn0_0, hn0_1, hn0_2⟩ := open_tee Try.underlying39 (by kernel_rfl) rfl (by kernel_rfl) Try.underlying23 Try.underlying3 (by kernel_rfl) Try.underlying26 Try.underlying4 (by kernel_rfl) (hval 0 39 v0 rfl rfl) h0
  clear hA0 hval0
  refine (walk0 r0 l0 W hrd0 hn0_0 hn0_1 hn0_2).mono fun e W' ⟨he, bel⟩ => ?_
  subst he
  exact ⟨_, rfl, _, _, _, [], _, [], hW', trodAll_mk1 (shut_bool Try.underlying4 _), (trodAll_cons_mk (Below.trod laidOut (by kernel_rfl) (of_decide_eq_true (by kernel_rfl)) k0 bel lt0) trodAll_mk0), rfl, bel.frame _, fun h => by cases h⟩

theorem fnExactValidTee_holds : Rows.FnExactValidTeeSaid :=
  OpenClaim.holds_of_wide 5 Try.f5 rfl rfl rfl rfl rfl rfl rfl ⟨rfl, rfl, rfl, rfl, rfl⟩ rfl rfl rfl rfl rfl (by kernel_rfl) Try.func5 (by kernel_rfl)
    (of_decide_eq_true (by kernel_rfl)) (by unfold Func.isWrapper; rw [if_neg (of_decide_eq_false (by kernel_rfl))]; exact ⟨rfl, rfl⟩)
    (fun os started H enc _ => lifted os started H enc)

end Go.Proofs.Ytebnpddgbmckcaa.LawVT
