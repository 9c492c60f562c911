/- The law FnExactNewGen returns true for every input, and its arguments read afterwards as before. Conditions: none. -/
import Derived.Test.YtkkgpddpplokfaaRows
import Derived.Test.YtkkgpddpplokfaaVcB
import Derived.Test.YtkkgpddpplokfaaGnC
import Derived.Test.YtkkgpddpplokfaaOpenO
import Derived.Test.YtkkgpddpplokfaaOpenG
import Derived.Test.YtkkgpddpplokfaaOpen
import Derived.Test.YtkkgpddpplokfaaLeav
import Derived.Deep.CutRange
import Derived.Deep.DeepMust
namespace Go.Proofs.Ytkkgpddpplokfaa.LawNG
open Go.ChangeShapes Go.WideShapes Go.ChangeAt Go.RowKit Go.Deep

theorem own : ownKnob Try.prog.godebug = none := by kernel_rfl
theorem laidOut : laidOutB Try.prog = true := by kernel_rfl

set_option maxRecDepth 100000 in
set_option maxHeartbeats 6400000 in
theorem walk (A0 : Option Addr) (c0 : Nat) (l0 : List Od) (w : World) (hr0 : RdOd w w.heap.size A0 l0) (hn0 : l0.length ≤ maxLen) :
    Calls Try.prog 5 #[.slice A0 l0.length c0] w fun e w' => e = .returned (.bool true) ∧ Below w.heap.size w w' := by
  obtain ⟨W0, hW0⟩ : ∃ W : World, W = w := ⟨_, rfl⟩
  have hb0 : Below w.heap.size w W0 := by rw [hW0]; exact Below.refl _ _
  have hz0 : w.heap.size ≤ W0.heap.size := hb0.size
  have HW0 := Lib.hid hW0
  clear hW0
  have Ha := Lib.hid ((hr0.held (Nat.le_refl _)).below hb0 (Nat.le_refl _))
  have Hb := Lib.hid hb0
  clear hb0 hr0
  go_enter Try.func5, Try.ntmps5
  go_wp2_with fail
  rw [← HW0.out]
  refine (szOrderS_any A0 l0.length c0 1048576 W0 (by omega) (by omega) hn0).mono ?_
  rintro e w0 ⟨rfl, rfl⟩
  by_cases hlt : (1048576 : Int) < (l0.length : Int)
  · rw [szLeft_no hlt]
    clear hlt
    go_wp2_with fail
    go_ret
    first | exact ⟨rfl, Hb.out⟩ | (have h9 := Hb.out; rw [← HW0.out] at h9; exact ⟨rfl, h9⟩)
  rw [szLeft_yes hlt]
  have hs0 : l0.length ≤ 1048576 := by omega
  have hleft : (0 : Int) ≤ 1048576 - (l0.length : Int) := by omega
  clear hlt
  go_wp2_with fail
  refine (toOrderS_any A0 c0 l0 W0 w.heap.size Ha.out.out Hb.out.size hs0).mono ?_
  rintro e w1 ⟨rfl, ho_w1, hlt_w1, hb_w1⟩
  have Ht := Lib.hid (ho_w1.held (Nat.le_succ _) hlt_w1)
  have hz_w1 : W0.heap.size ≤ w1.heap.size := hb_w1.size
  replace Hb := Lib.hid (Hb.out.trans (hb_w1.mono Hb.out.size))
  replace Ha := Lib.hid (Ha.out.below hb_w1 Ha.out.top)
  clear hb_w1 ho_w1
  go_wp2_with fail
  refine (specNewGen_any _ _ l0 w1 w1.heap.size (Ht.out.out.rdt Ht.out.top) (Nat.le_refl _) hs0).mono ?_
  rintro e w2 ⟨rfl, hb_w2⟩
  have hz_w2 : w1.heap.size ≤ w2.heap.size := hb_w2.size
  replace Hb := Lib.hid (Hb.out.trans (hb_w2.mono Hb.out.size))
  replace Ha := Lib.hid (Ha.out.below hb_w2 Ha.out.top)
  replace Ht := Lib.hid (Ht.out.below hb_w2 Ht.out.top)
  clear hb_w2
  obtain ⟨Vw2, hVw2⟩ : ∃ W : World, W = w2.alloc (.cells #[.int .i64 (newGn l0).at_, .int .i64 (newGn l0).sum, .int .i64 (newGn l0).sent, .int .i64 (newGn l0).hd, .int .i64 (newGn l0).ph] 32) := ⟨_, rfl⟩
  have hb_Vw2 : Below w2.heap.size w2 Vw2 := by rw [hVw2]; exact (Below.refl _ _).alloc (Nat.le_refl _) _
  have hk_Hw : Bk Vw2 w2.heap.size 32 [.int .i64 (newGn l0).at_, .int .i64 (newGn l0).sum, .int .i64 (newGn l0).sent, .int .i64 (newGn l0).hd, .int .i64 (newGn l0).ph] := by rw [hVw2]; exact Bk.new _ _ [.int .i64 (newGn l0).at_, .int .i64 (newGn l0).sum, .int .i64 (newGn l0).sent, .int .i64 (newGn l0).hd, .int .i64 (newGn l0).ph]
  have Hw := Lib.hid hk_Hw.held
  have HVw2 := Lib.hid hVw2
  have hz_Vw2 : w2.heap.size ≤ Vw2.heap.size := hb_Vw2.size
  replace Hb := Lib.hid (Hb.out.trans (hb_Vw2.mono Hb.out.size))
  replace Ha := Lib.hid (Ha.out.below hb_Vw2 Ha.out.top)
  replace Ht := Lib.hid (Ht.out.below hb_Vw2 Ht.out.top)
  clear hVw2 hb_Vw2 hk_Hw
  go_wp2_with fail
  rw [← HVw2.out]
  refine (toOrderS_any A0 c0 l0 Vw2 w.heap.size Ha.out.out Hb.out.size hs0).mono ?_
  rintro e w3 ⟨rfl, ho_w3, hlt_w3, hb_w3⟩
  have Hy := Lib.hid (ho_w3.held (Nat.le_succ _) hlt_w3)
  have hz_w3 : Vw2.heap.size ≤ w3.heap.size := hb_w3.size
  replace Hb := Lib.hid (Hb.out.trans (hb_w3.mono Hb.out.size))
  replace Ha := Lib.hid (Ha.out.below hb_w3 Ha.out.top)
  replace Hw := Lib.hid (Hw.out.below hb_w3 Hw.out.top)
  clear hb_w3 ho_w3
  go_wp2_with fail
  refine (implNewGen_any _ _ l0 w3 w3.heap.size (Hy.out.out.rdt Hy.out.top) (Nat.le_refl _) hs0).mono ?_
  rintro e w4 ⟨rfl, hb_w4⟩
  have hz_w4 : w3.heap.size ≤ w4.heap.size := hb_w4.size
  replace Hb := Lib.hid (Hb.out.trans (hb_w4.mono Hb.out.size))
  replace Ha := Lib.hid (Ha.out.below hb_w4 Ha.out.top)
  replace Hw := Lib.hid (Hw.out.below hb_w4 Hw.out.top)
  replace Hy := Lib.hid (Hy.out.below hb_w4 Hy.out.top)
  clear hb_w4
  have cHw0 : w4.cell? ⟨w2.heap.size, 0, none⟩ = some (.int .i64 (newGn l0).at_) := Hw.out.out.cell 0
  have cHw1 : w4.cell? ⟨w2.heap.size, 1, none⟩ = some (.int .i64 (newGn l0).sum) := Hw.out.out.cell 1
  have cHw2 : w4.cell? ⟨w2.heap.size, 2, none⟩ = some (.int .i64 (newGn l0).sent) := Hw.out.out.cell 2
  have cHw3 : w4.cell? ⟨w2.heap.size, 3, none⟩ = some (.int .i64 (newGn l0).hd) := Hw.out.out.cell 3
  have cHw4 : w4.cell? ⟨w2.heap.size, 4, none⟩ = some (.int .i64 (newGn l0).ph) := Hw.out.out.cell 4
  have lw : w2.heap.size < w4.heap.size := by have := Hw.out.top; omega
  obtain ⟨Vw4, hVw4⟩ : ∃ W : World, W = w4.alloc (.cells #[.int .i64 (newGn l0).at_, .int .i64 (newGn l0).sum, .int .i64 (newGn l0).sent, .int .i64 (newGn l0).hd, .int .i64 (newGn l0).ph] 32) := ⟨_, rfl⟩
  have hb_Vw4 : Below w4.heap.size w4 Vw4 := by rw [hVw4]; exact (Below.refl _ _).alloc (Nat.le_refl _) _
  have hk_Hg : Bk Vw4 w4.heap.size 32 [.int .i64 (newGn l0).at_, .int .i64 (newGn l0).sum, .int .i64 (newGn l0).sent, .int .i64 (newGn l0).hd, .int .i64 (newGn l0).ph] := by rw [hVw4]; exact Bk.new _ _ [.int .i64 (newGn l0).at_, .int .i64 (newGn l0).sum, .int .i64 (newGn l0).sent, .int .i64 (newGn l0).hd, .int .i64 (newGn l0).ph]
  have Hg := Lib.hid hk_Hg.held
  have HVw4 := Lib.hid hVw4
  have hz_Vw4 : w4.heap.size ≤ Vw4.heap.size := hb_Vw4.size
  replace Hb := Lib.hid (Hb.out.trans (hb_Vw4.mono Hb.out.size))
  replace Ha := Lib.hid (Ha.out.below hb_Vw4 Ha.out.top)
  replace Hw := Lib.hid (Hw.out.below hb_Vw4 Hw.out.top)
  replace Hy := Lib.hid (Hy.out.below hb_Vw4 Hy.out.top)
  clear hVw4 hb_Vw4 hk_Hg
  go_wp2_with fail
  rw [← HVw4.out]
  refine (eqGen_any (newGn l0) (newGn l0) Vw4).mono ?_
  rintro e w5 ⟨rfl, hb_w5⟩
  rw [show gnEq (newGn l0) (newGn l0) = true from decide_eq_true rfl]
  clear cHw0 cHw1 cHw2 cHw3 cHw4
  have hz_w5 : Vw4.heap.size ≤ w5.heap.size := hb_w5.size
  replace Hb := Lib.hid (Hb.out.trans (hb_w5.mono Hb.out.size))
  replace Ha := Lib.hid (Ha.out.below hb_w5 Ha.out.top)
  replace Hw := Lib.hid (Hw.out.below hb_w5 Hw.out.top)
  replace Hy := Lib.hid (Hy.out.below hb_w5 Hy.out.top)
  replace Hg := Lib.hid (Hg.out.below hb_w5 Hg.out.top)
  clear hb_w5
  go_wp2_with fail
  refine (toOrderS_any A0 c0 l0 w5 w.heap.size Ha.out.out Hb.out.size hs0).mono ?_
  rintro e w6 ⟨rfl, ho_w6, hlt_w6, hb_w6⟩
  have Hc := Lib.hid (ho_w6.held (Nat.le_succ _) hlt_w6)
  have hz_w6 : w5.heap.size ≤ w6.heap.size := hb_w6.size
  replace Hb := Lib.hid (Hb.out.trans (hb_w6.mono Hb.out.size))
  replace Ha := Lib.hid (Ha.out.below hb_w6 Ha.out.top)
  replace Hw := Lib.hid (Hw.out.below hb_w6 Hw.out.top)
  replace Hy := Lib.hid (Hy.out.below hb_w6 Hy.out.top)
  replace Hg := Lib.hid (Hg.out.below hb_w6 Hg.out.top)
  clear hb_w6 ho_w6
  go_wp2_with fail
  refine (eqOrderS_any _ _ _ _ l0 l0 w6 w6.heap.size (Hy.out.out.rdt Hy.out.top) (Hc.out.out.rdt Hc.out.top) (Nat.le_refl _) hs0).mono ?_
  rintro e w7 ⟨rfl, hb_w7⟩
  rw [decide_eq_true rfl]
  have hz_w7 : w6.heap.size ≤ w7.heap.size := hb_w7.size
  replace Hb := Lib.hid (Hb.out.trans (hb_w7.mono Hb.out.size))
  replace Ha := Lib.hid (Ha.out.below hb_w7 Ha.out.top)
  replace Hw := Lib.hid (Hw.out.below hb_w7 Hw.out.top)
  replace Hy := Lib.hid (Hy.out.below hb_w7 Hy.out.top)
  replace Hg := Lib.hid (Hg.out.below hb_w7 Hg.out.top)
  replace Hc := Lib.hid (Hc.out.below hb_w7 Hc.out.top)
  clear hb_w7
  go_wp2_with fail
  go_ret
  first | exact ⟨rfl, Hb.out⟩ | (have h9 := Hb.out; rw [← HW0.out] at h9; exact ⟨rfl, h9⟩)


set_option maxRecDepth 100000 in
theorem lifted (os : Os) (started : os.Started) (H : Type) (enc : TypeId × Value → H) :
    ReturnsInHanded {} Try.checked os 5 .any (Rows.fnExactNewGenSpec.pre6 enc Try.prog Try.f5 Rows.fnExactNewGenRow.domain false) (Rows.fnExactNewGenSpec.post enc Try.prog Try.f5 false true false false) := by
  refine returnsInHanded_of_change (C := Try.checked) own started (by kernel_rfl) Try.func5
    (ChangeSpec.witness6 (enc := enc) (C := Try.checked) false ⟨#[], #[.slice none 0 0], []⟩ 8 (by kernel_rfl) (by kernel_rfl) (by kernel_rfl) (by kernel_rfl)) ?_
  intro W base args ds gs before hval0 hW _ _
  have hval : ∀ (j : Nat) t v, Try.f5.params[j]? = some t → args[j]? = some v → Value.okWide Try.prog W .any base t v := hval0
  have hW' := hW
  obtain ⟨p, q, hA0, hV, rfl, hfz, hnd⟩ := hW
  have hA : DataW.TrodAll enc Try.prog W 0 (fun _ => true) true Try.f5.params.toList args.toList ds p := hA0
  rw [Try.params5] at hA hval
  obtain ⟨v0, vs0, d0, ds0, p0, q0, hargs, rfl, rfl, h0, r0⟩ := trodAll_cons hA
  obtain ⟨rfl, rfl, rfl⟩ := trodAll_nil r0
  obtain rfl : args = #[v0] := by cases args; simp_all
  obtain ⟨rfl, rfl⟩ := trodVars_none hV
  obtain ⟨a0, len0, cap0, rfl⟩ := okWide_slice Try.underlying22 (hval 0 22 v0 rfl rfl)
  have k0 := h0
  have lt0 : ∀ x ∈ p0, x.block < W.heap.size := by obtain ⟨m, hm⟩ := k0; exact DataW.trod_lt m _ _ _ hm
  obtain ⟨l0, rfl, hl0, hrd0⟩ := open_manyOd Try.underlying22 Try.underlying75 (by kernel_rfl) rfl Try.underlying3 (by kernel_rfl) h0
  clear hA0 hval0
  refine (walk a0 cap0 l0 W hrd0 hl0).mono fun e W' ⟨he, bel⟩ => ?_
  subst he
  exact ⟨_, rfl, _, _, _, [], _, [], hW', trodAll_mk1 (shut_bool Try.underlying4 _), (trodAll_cons_mk (Below.trod laidOut (by kernel_rfl) (of_decide_eq_true (by kernel_rfl)) k0 bel lt0) trodAll_mk0), rfl, bel.frame _, fun h => by cases h⟩

theorem fnExactNewGen_holds : Rows.FnExactNewGenSaid :=
  OpenClaim.holds_of_wide_leaving 5 Try.f5 rfl rfl rfl rfl rfl rfl rfl ⟨rfl, rfl, rfl, rfl, rfl⟩ rfl rfl rfl rfl rfl (by kernel_rfl) Try.func5 (by kernel_rfl)
    (of_decide_eq_true (by kernel_rfl)) (by unfold Func.isWrapper; rw [if_neg (of_decide_eq_false (by kernel_rfl))]; exact ⟨rfl, rfl⟩)
    (fun os started H enc _ => leaving_of_handed (lifted os started H enc))

end Go.Proofs.Ytkkgpddpplokfaa.LawNG
