/- The law FnExactValidResume returns true for every input, and its arguments read afterwards as before. Conditions: none. -/
import Derived.Test.YtkkgpddpplokfaaRows
import Derived.Test.YtkkgpddpplokfaaVrA
import Derived.Test.YtkkgpddpplokfaaOpenR
import Derived.Test.YtkkgpddpplokfaaOpen
import Derived.Deep.CutRange
import Derived.Deep.DeepMust
namespace Go.Proofs.Ytkkgpddpplokfaa.LawVR
open Go.ChangeShapes Go.WideShapes Go.ChangeAt Go.RowKit Go.Deep

theorem own : ownKnob Try.prog.godebug = none := by kernel_rfl
theorem laidOut : laidOutB Try.prog = true := by kernel_rfl

set_option maxHeartbeats 1600000 in
theorem walk (x0 : Re) (w : World) :
    Calls Try.prog 6 #[.agg #[.int .i64 x0.k, .int .i64 x0.v]] w fun e w' => e = .returned (.bool true) ∧ Below w.heap.size w w' := by
  have hbA : Below w.heap.size w (w.alloc (.cells #[.int .i64 x0.k, .int .i64 x0.v] 38)) := (Below.refl _ _).alloc (Nat.le_refl _) _
  have hbx : Bk (w.alloc (.cells #[.int .i64 x0.k, .int .i64 x0.v] 38)) w.heap.size 38 [.int .i64 x0.k, .int .i64 x0.v] := Bk.new w _ [_, _]
  obtain ⟨W0, hW0⟩ : ∃ W0 : World, W0 = w.alloc (.cells #[.int .i64 x0.k, .int .i64 x0.v] 38) := ⟨_, rfl⟩
  rw [← hW0] at hbA hbx
  have HbA := Lib.hid hbA
  have Hbx := Lib.hid hbx
  have HW0 := Lib.hid hW0
  have hz0 := hbA.size
  have hzx := hbx.lt
  clear hbA hbx hW0
  go_enter Try.func6, Try.ntmps6
  have cx0 := Hbx.out.cell 0
  have cx1 := Hbx.out.cell 1
  go_wp2_with fail
  rw [← HW0.out]
  refine (toResume1_any x0 W0).mono ?_
  rintro e w1 ⟨rfl, hb1⟩
  have Hb1 := Lib.hid (HbA.out.trans (hb1.mono hz0))
  have Hb1x := Lib.hid (Hbx.out.below hb1 hzx)
  have hz1 := hb1.size
  clear hb1
  go_wp2_with fail
  refine (specValidResume_any x0 w1).mono ?_
  rintro e w2 ⟨rfl, hb2⟩
  have Hb2 := Lib.hid (Hb1.out.trans (hb2.mono (by omega)))
  have Hb2x := Lib.hid (Hb1x.out.below hb2 (by omega))
  have hz2 := hb2.size
  have cy0 := Hb2x.out.cell 0
  have cy1 := Hb2x.out.cell 1
  clear hb2
  go_wp2_with fail
  refine (toResume1_any x0 w2).mono ?_
  rintro e w3 ⟨rfl, hb3⟩
  have Hb3 := Lib.hid (Hb2.out.trans (hb3.mono (by omega)))
  have hz3 := hb3.size
  clear hb3
  go_wp2_with fail
  refine (implValidResume_any x0 w3).mono ?_
  rintro e w4 ⟨rfl, hb4⟩
  have Hb4 := Lib.hid (Hb3.out.trans (hb4.mono (by omega)))
  clear hb4
  go_wp2_with fail
  go_ret
  exact ⟨rfl, Hb4.out⟩


set_option maxRecDepth 100000 in
theorem lifted (os : Os) (started : os.Started) (H : Type) (enc : TypeId × Value → H) :
    ReturnsInHanded {} Try.checked os 6 .any (Rows.fnExactValidResumeSpec.pre6 enc Try.prog Try.f6 Rows.fnExactValidResumeRow.domain false) (Rows.fnExactValidResumeSpec.post enc Try.prog Try.f6 false true false false) := by
  refine returnsInHanded_of_change (C := Try.checked) own started (by kernel_rfl) Try.func6
    (ChangeSpec.witness6 (enc := enc) (C := Try.checked) false ⟨#[], #[.agg #[.int .i64 0, .int .i64 0]], []⟩ 8 (by kernel_rfl) (by kernel_rfl) (by kernel_rfl) (by kernel_rfl)) ?_
  intro W base args ds gs before hval0 hW _ _
  have hval : ∀ (j : Nat) t v, Try.f6.params[j]? = some t → args[j]? = some v → Value.okWide Try.prog W .any base t v := hval0
  have hW' := hW
  obtain ⟨p, q, hA0, hV, rfl, hfz, hnd⟩ := hW
  have hA : DataW.TrodAll enc Try.prog W 0 (fun _ => true) true Try.f6.params.toList args.toList ds p := hA0
  rw [Try.params6] at hA hval
  obtain ⟨v0, vs0, d0, ds0, p0, q0, hargs, rfl, rfl, h0, r0⟩ := trodAll_cons hA
  obtain ⟨rfl, rfl, rfl⟩ := trodAll_nil r0
  obtain rfl : args = #[v0] := by cases args; simp_all
  obtain ⟨rfl, rfl⟩ := trodVars_none hV
  have k0 := h0
  have lt0 : ∀ x ∈ p0, x.block < W.heap.size := by obtain ⟨m, hm⟩ := k0; exact DataW.trod_lt m _ _ _ hm
  obtain ⟨x0, rfl⟩ := open_oneRe Try.underlying38 (by kernel_rfl) rfl Try.underlying3 (by kernel_rfl) (hval 0 38 v0 rfl rfl) h0
  clear hA0 hval0
  refine (walk x0 W).mono fun e W' ⟨he, bel⟩ => ?_
  subst he
  exact ⟨_, rfl, _, _, _, [], _, [], hW', trodAll_mk1 (shut_bool Try.underlying4 _), (trodAll_cons_mk (Below.trod laidOut (by kernel_rfl) (of_decide_eq_true (by kernel_rfl)) k0 bel lt0) trodAll_mk0), rfl, bel.frame _, fun h => by cases h⟩

theorem fnExactValidResume_holds : Rows.FnExactValidResumeSaid :=
  OpenClaim.holds_of_wide 6 Try.f6 rfl rfl rfl rfl rfl rfl rfl ⟨rfl, rfl, rfl, rfl, rfl⟩ rfl rfl rfl rfl rfl (by kernel_rfl) Try.func6 (by kernel_rfl)
    (of_decide_eq_true (by kernel_rfl)) (by unfold Func.isWrapper; rw [if_neg (of_decide_eq_false (by kernel_rfl))]; exact ⟨rfl, rfl⟩)
    (fun os started H enc _ => lifted os started H enc)

end Go.Proofs.Ytkkgpddpplokfaa.LawVR
