/- The law FnExactFairTurns returns true for every input, and its arguments read afterwards as before. Conditions: none. -/
import Derived.Test.YtebnpddgbmckcaaRows
import Derived.Test.YtebnpddgbmckcaaFair
import Derived.Test.YtebnpddgbmckcaaOpen
import Derived.Deep.RegionHeld3
import Derived.Deep.CutRange
import Derived.Deep.DeepMust
namespace Go.Proofs.Ytebnpddgbmckcaa.LawFT
open Go.ChangeShapes Go.WideShapes Go.ChangeAt Go.RowKit Go.Deep

theorem own : ownKnob Try.prog.godebug = none := by kernel_rfl
theorem laidOut : laidOutB Try.prog = true := by kernel_rfl

set_option maxRecDepth 100000 in
set_option maxHeartbeats 12800000 in
theorem walk0 (i0 : Int) (i1 : Int) (w : World) (q : List Int) (hq : Hid (fairQ i0 i1 = q)) (hqn_0 : q.length ≤ 1048576)   :
    Calls Try.prog 14 #[.int .i64 i0, .int .i64 i1] w fun e w' => e = .returned (.bool true) ∧ Below w.heap.size w w' := by
  obtain ⟨W0, hW0⟩ : ∃ W0 : World, W0 = w := ⟨_, rfl⟩
  have hb0 : Below w.heap.size w W0 := by rw [hW0]; exact Below.refl w.heap.size w
  have hz_W0 : w.heap.size ≤ W0.heap.size := by rw [hW0]; exact Nat.le_refl _
  have Hb := Lib.hid hb0
  have HW0 := Lib.hid hW0
  clear hb0 hW0  
  go_enter Try.func14, Try.ntmps14
  rw [← HW0.out]
  go_wp2_with fail
  refine (specFairTurns_any i0 i1 _ q hq).mono ?_
  rintro e w1 ⟨AHw, cHw, rfl, ho1, hb1⟩
  have Hw : Hid (Held w1 W0.heap.size w1.heap.size (fun v => OwnI v W0.heap.size w1.heap.size AHw q)) := Lib.hid (ho1.held hb1.size (Nat.le_refl _))
  have hz_w1 : W0.heap.size ≤ w1.heap.size := hb1.size
  replace Hb := Lib.hid (Hb.out.trans (hb1.mono Hb.out.size))
  clear ho1 hb1
  go_wp2_with fail
  refine (implFairTurns_any i0 i1 _ q hq).mono ?_
  rintro e w2 ⟨AHg, cHg, rfl, ho2, hb2⟩
  have Hg : Hid (Held w2 w1.heap.size w2.heap.size (fun v => OwnI v w1.heap.size w2.heap.size AHg q)) := Lib.hid (ho2.held hb2.size (Nat.le_refl _))
  have hz_w2 : w1.heap.size ≤ w2.heap.size := hb2.size
  replace Hb := Lib.hid (Hb.out.trans (hb2.mono Hb.out.size))
  replace Hw := Lib.hid (Hw.out.below hb2 Hw.out.top)
  clear ho2 hb2
  go_wp2_with fail
  refine (eqIntS_any _ _ _ _ q q _ w2.heap.size (Hg.out.out.rdt Hg.out.top) (Hw.out.out.rdt Hw.out.top) hqn_0).mono ?_
  rintro e w3 ⟨rfl, hsm3⟩
  have hb3 := hsm3.below w2.heap.size
  rw [decide_eq_true rfl]
  have hz_w3 : w2.heap.size ≤ w3.heap.size := hb3.size
  replace Hb := Lib.hid (Hb.out.trans (hb3.mono Hb.out.size))
  replace Hw := Lib.hid (Hw.out.below hb3 Hw.out.top)
  replace Hg := Lib.hid (Hg.out.below hb3 Hg.out.top)
  clear hb3 hsm3
  go_wp2_with fail
  refine (markIntS_h 1 Hg.out.out hqn_0 (by decide) (by decide)).mono ?_
  rintro e w4 ⟨rfl, ho4, hc4⟩
  have hle_g : w1.heap.size ≤ w2.heap.size := Hg.out.le
  have htop_g : w2.heap.size ≤ w4.heap.size := Nat.le_trans Hg.out.top hc4.size
  have Hgm : Hid (Held w4 w1.heap.size w2.heap.size (fun v => OwnI v w1.heap.size w2.heap.size AHg (mkI q.length 1))) := Lib.hid (ho4.held hle_g htop_g)
  have hz_w4 : w3.heap.size ≤ w4.heap.size := hc4.size
  replace Hb := Lib.hid (hc4.below_ Hb.out (by omega) Hb.out.size)
  replace Hw := Lib.hid (Hw.out.chg hc4 (by omega))
  clear hc4 ho4 Hg
  have hposq : (0 : Int) ≤ 1 + q.length := by omega
  go_wp2_with fail
  refine (heldIntS_any _ _ q.length 1 _ w4.heap.size (Hgm.out.out.rdt Hgm.out.top) hqn_0 (by decide) (by decide)).mono ?_
  rintro e w5 ⟨rfl, rfl⟩
  go_wp2_with fail
  refine (implFairTurns_any i0 i1 _ q hq).mono ?_
  rintro e w6 ⟨AHh, cHh, rfl, ho6, hb6⟩
  have Hh : Hid (Held w6 w4.heap.size w6.heap.size (fun v => OwnI v w4.heap.size w6.heap.size AHh q)) := Lib.hid (ho6.held hb6.size (Nat.le_refl _))
  have hz_w6 : w4.heap.size ≤ w6.heap.size := hb6.size
  replace Hb := Lib.hid (Hb.out.trans (hb6.mono Hb.out.size))
  replace Hw := Lib.hid (Hw.out.below hb6 Hw.out.top)
  replace Hgm := Lib.hid (Hgm.out.below hb6 Hgm.out.top)
  clear ho6 hb6
  go_wp2_with fail
  refine (eqIntS_any _ _ _ _ q q _ w6.heap.size (Hh.out.out.rdt Hh.out.top) (Hw.out.out.rdt Hw.out.top) hqn_0).mono ?_
  rintro e w7 ⟨rfl, hsm7⟩
  have hb7 := hsm7.below w6.heap.size
  rw [decide_eq_true rfl]
  have hz_w7 : w6.heap.size ≤ w7.heap.size := hb7.size
  replace Hb := Lib.hid (Hb.out.trans (hb7.mono Hb.out.size))
  replace Hw := Lib.hid (Hw.out.below hb7 Hw.out.top)
  replace Hgm := Lib.hid (Hgm.out.below hb7 Hgm.out.top)
  replace Hh := Lib.hid (Hh.out.below hb7 Hh.out.top)
  clear hb7 hsm7
  go_wp2_with fail
  refine (heldIntS_any _ _ q.length 1 _ w7.heap.size (Hgm.out.out.rdt Hgm.out.top) hqn_0 (by decide) (by decide)).mono ?_
  rintro e w8 ⟨rfl, rfl⟩
  go_wp2_with fail
  go_ret
  first | exact ⟨rfl, Hb.out⟩ | (have h9 := Hb.out; rw [← HW0.out] at h9; exact ⟨rfl, h9⟩)



set_option maxRecDepth 100000 in
theorem lifted (os : Os) (started : os.Started) (H : Type) (enc : TypeId × Value → H) :
    ReturnsInHanded {} Try.checked os 14 .any (Rows.fnExactFairTurnsSpec.pre6 enc Try.prog Try.f14 Rows.fnExactFairTurnsRow.domain false) (Rows.fnExactFairTurnsSpec.post enc Try.prog Try.f14 false true false false) := by
  refine returnsInHanded_of_change (C := Try.checked) own started (by kernel_rfl) Try.func14
    (ChangeSpec.witness6 (enc := enc) (C := Try.checked) false ⟨#[], #[.int .i64 0, .int .i64 0], []⟩ 8 (by kernel_rfl) (by kernel_rfl) (by kernel_rfl) (by kernel_rfl)) ?_
  intro W base args ds gs before hval0 hW _ _
  have hval : ∀ (j : Nat) t v, Try.f14.params[j]? = some t → args[j]? = some v → Value.okWide Try.prog W .any base t v := hval0
  have hW' := hW
  obtain ⟨p, q, hA0, hV, rfl, hfz, hnd⟩ := hW
  have hA : DataW.TrodAll enc Try.prog W 0 (fun _ => true) true Try.f14.params.toList args.toList ds p := hA0
  rw [Try.params14] at hA hval
  obtain ⟨v0, vs0, d0, ds0, p0, q0, hargs, rfl, rfl, h0, r0⟩ := trodAll_cons hA
  obtain ⟨v1, vs1, d1, ds1, p1, q1, rfl, rfl, rfl, h1, r1⟩ := trodAll_cons r0
  obtain ⟨rfl, rfl, rfl⟩ := trodAll_nil r1
  obtain rfl : args = #[v0, v1] := by cases args; simp_all
  obtain ⟨rfl, rfl⟩ := trodVars_none hV
  obtain ⟨i0, rfl, rfl, rfl, wi0⟩ := open_int Try.underlying3 (hval 0 3 v0 rfl rfl) h0
  obtain ⟨i1, rfl, rfl, rfl, wi1⟩ := open_int Try.underlying3 (hval 1 3 v1 rfl rfl) h1
  clear hA0 hval0
  refine (walk0 i0 i1 W _ (Lib.hid rfl) (by have := fairQ_len i0 i1; omega)).mono fun e W' ⟨he, bel⟩ => ?_
  subst he
  exact ⟨_, rfl, _, _, _, [], _, [], hW', trodAll_mk1 (shut_bool Try.underlying4 _), (trodAll_cons_mk (shut_int Try.underlying3 wi0) (trodAll_cons_mk (shut_int Try.underlying3 wi1) trodAll_mk0)), rfl, bel.frame _, fun h => by cases h⟩

theorem fnExactFairTurns_holds : Rows.FnExactFairTurnsSaid :=
  OpenClaim.holds_of_wide 14 Try.f14 rfl rfl rfl rfl rfl rfl rfl ⟨rfl, rfl, rfl, rfl, rfl⟩ rfl rfl rfl rfl rfl (by kernel_rfl) Try.func14 (by kernel_rfl)
    (of_decide_eq_true (by kernel_rfl)) (by unfold Func.isWrapper; rw [if_neg (of_decide_eq_false (by kernel_rfl))]; exact ⟨rfl, rfl⟩)
    (fun os started H enc _ => lifted os started H enc)

end Go.Proofs.Ytebnpddgbmckcaa.LawFT
