/- The law FnValidResume returns true for every input, and its arguments read afterwards as before. Conditions: none. -/
import Derived.Test.YtkkgpddpplokfaaRows
import Derived.Test.YtkkgpddpplokfaaDrA
import Derived.Test.YtkkgpddpplokfaaVrA
import Derived.Test.YtkkgpddpplokfaaOpenU
import Derived.Test.YtkkgpddpplokfaaOpen
import Derived.Deep.CutRange
import Derived.Deep.DeepMust
namespace Go.Proofs.Ytkkgpddpplokfaa.LawPVR
open Go.ChangeShapes Go.WideShapes Go.ChangeAt Go.RowKit Go.Deep

theorem own : ownKnob Try.prog.godebug = none := by kernel_rfl
theorem laidOut : laidOutB Try.prog = true := by kernel_rfl

theorem reOk_more {x : Re} (h : reOk x = true) : reOk ⟨x.k, 0⟩ = true ∧ 0 ≤ x.k ∧ x.k ≤ 3 ∧ (x.v = 0 ∨ x.k = 1) := by
  have hN := reTop_val x.k
  have hN2 := reTop_val (⟨x.k, 0⟩ : Re).k
  simp only [reOk, Bool.and_eq_true, inR_iff] at *
  omega

set_option maxRecDepth 100000 in
set_option maxHeartbeats 6400000 in
theorem walk (A : Option Addr) (c : Nat) (l : List Nat) (w : World) (h : RdU w w.heap.size A l) (hl : l.length ≤ maxLen) (hc : l.length ≤ c) :
    Calls Try.prog 13 #[.slice A l.length c] w fun e w' => e = .returned (.bool true) ∧ Below w.heap.size w w' := by
  have H := Lib.hid h
  clear h
  by_cases hgate : 1048576 < l.length
  · have hgi : (1048576 : Int) < l.length := by omega
    clear hgate
    unfold maxLen at hl
    go_enter Try.func13, Try.ntmps13
    go_wp2_with fail
    go_ret
    exact ⟨rfl, Below.refl _ _⟩
  have hgi : ¬ (1048576 : Int) < l.length := by omega
  clear hgate
  go_enter Try.func13, Try.ntmps13
  go_wp2_with fail
  refine (drawResume_any A c l w w.heap.size H.out (Nat.le_refl _) hl hc).mono ?_
  rintro e w1 ⟨x, rfl, hb1⟩
  have Hb1 := Lib.hid hb1
  have hz1 := hb1.size
  clear hb1
  go_wp2_with fail
  obtain ⟨V, hV⟩ : ∃ W : World, W = w1.alloc (.cells #[.int .i64 x.k, .int .i64 x.v] 40) := ⟨_, rfl⟩
  have hbV : Below w1.heap.size w1 V := by rw [hV]; exact (Below.refl _ _).alloc (Nat.le_refl _) _
  have bx : Bk V w1.heap.size 40 [.int .i64 x.k, .int .i64 x.v] := by rw [hV]; exact Bk.new _ _ [.int .i64 x.k, .int .i64 x.v]
  have hzV := bx.lt
  rw [← hV]
  replace Hb1 := Lib.hid (Hb1.out.trans (hbV.mono hz1))
  have Hx := Lib.hid bx
  clear hV hbV bx
  refine (implValidResume_any x V).mono ?_
  rintro e w2 ⟨rfl, hb2⟩
  have hz2 := hb2.size
  have Hb2 := Lib.hid (Hb1.out.trans (hb2.mono (by omega)))
  have Hx2 := Lib.hid (Hx.out.below hb2 hzV)
  obtain ⟨c0, c1⟩ := bk2 Hx2.out
  clear hb2
  go_wp2_with fail
  refine (specValidResume_any x w2).mono ?_
  rintro e w3 ⟨rfl, hb3⟩
  have hz3 := hb3.size
  have Hb3 := Lib.hid (Hb2.out.trans (hb3.mono (by omega)))
  have Hx3 := Lib.hid (Hx2.out.below hb3 (by omega))
  obtain ⟨d0, d1⟩ := bk2 Hx3.out
  clear hb3 c0 c1
  cases hv : reOk x
  · have Hv := Lib.hid hv
    clear hv
    go_wp2_with fail
    refine (specValidResume_any x w3).mono ?_
    rintro e w4 ⟨rfl, hb4⟩
    rw [Hv.out]
    have Hb4 := Lib.hid (Hb3.out.trans (hb4.mono (by omega)))
    clear hb4
    go_wp2_with fail
    go_ret
    exact ⟨rfl, Hb4.out⟩
  obtain ⟨h0, h1, h2, h3⟩ := reOk_more hv
  have H0 := Lib.hid h0
  clear hv h0
  go_wp2_with fail
  refine (implValidResume_any ⟨x.k, 0⟩ w3).mono ?_
  rintro e w4 ⟨rfl, hb4⟩
  rw [H0.out]
  have Hb4 := Lib.hid (Hb3.out.trans (hb4.mono (by omega)))
  have Hx4 := Lib.hid (Hx3.out.below hb4 (by omega))
  obtain ⟨e0, e1⟩ := bk2 Hx4.out
  clear hb4 d0 d1
  by_cases hv0 : x.v = 0
  · have hvb : (x.v == (0 : Int)) = true := by simpa using hv0
    go_wp2_with fail
    go_ret
    exact ⟨rfl, Hb4.out⟩
  · have hvb : (x.v == (0 : Int)) = false := by simpa using hv0
    have hk1 : x.k = 1 := by omega
    have hkb : (x.k == (1 : Int)) = true := by simpa using hk1
    clear h3 hk1
    go_wp2_with fail
    go_ret
    exact ⟨rfl, Hb4.out⟩


set_option maxRecDepth 100000 in
theorem lifted (os : Os) (started : os.Started) (H : Type) (enc : TypeId × Value → H) :
    ReturnsInHanded {} Try.checked os 13 .any (Rows.fnValidResumeSpec.pre6 enc Try.prog Try.f13 Rows.fnValidResumeRow.domain false) (Rows.fnValidResumeSpec.post enc Try.prog Try.f13 false true false false) := by
  refine returnsInHanded_of_change (C := Try.checked) own started (by kernel_rfl) Try.func13
    (ChangeSpec.witness6 (enc := enc) (C := Try.checked) false ⟨#[], #[.slice none 0 0], []⟩ 8 (by kernel_rfl) (by kernel_rfl) (by kernel_rfl) (by kernel_rfl)) ?_
  intro W base args ds gs before hval0 hW _ _
  have hval : ∀ (j : Nat) t v, Try.f13.params[j]? = some t → args[j]? = some v → Value.okWide Try.prog W .any base t v := hval0
  have hW' := hW
  obtain ⟨p, q, hA0, hV, rfl, hfz, hnd⟩ := hW
  have hA : DataW.TrodAll enc Try.prog W 0 (fun _ => true) true Try.f13.params.toList args.toList ds p := hA0
  rw [Try.params13] at hA hval
  obtain ⟨v0, vs0, d0, ds0, p0, q0, hargs, rfl, rfl, h0, r0⟩ := trodAll_cons hA
  obtain ⟨rfl, rfl, rfl⟩ := trodAll_nil r0
  obtain rfl : args = #[v0] := by cases args; simp_all
  obtain ⟨rfl, rfl⟩ := trodVars_none hV
  obtain ⟨a0, len0, cap0, rfl⟩ := okWide_slice Try.underlying68 (hval 0 68 v0 rfl rfl)
  have k0 := h0
  have lt0 : ∀ x ∈ p0, x.block < W.heap.size := by obtain ⟨m, hm⟩ := k0; exact DataW.trod_lt m _ _ _ hm
  obtain ⟨l0, rfl, hl0, hcp0, hrd0⟩ := open_u8s Try.underlying68 Try.underlying5 (by kernel_rfl) h0
  clear hA0 hval0
  refine (walk a0 cap0 l0 W hrd0 hl0 hcp0).mono fun e W' ⟨he, bel⟩ => ?_
  subst he
  exact ⟨_, rfl, _, _, _, [], _, [], hW', trodAll_mk1 (shut_bool Try.underlying4 _), (trodAll_cons_mk (Below.trod laidOut (by kernel_rfl) (of_decide_eq_true (by kernel_rfl)) k0 bel lt0) trodAll_mk0), rfl, bel.frame _, fun h => by cases h⟩

theorem fnValidResume_holds : Rows.FnValidResumeSaid :=
  OpenClaim.holds_of_wide 13 Try.f13 rfl rfl rfl rfl rfl rfl rfl ⟨rfl, rfl, rfl, rfl, rfl⟩ rfl rfl rfl rfl rfl (by kernel_rfl) Try.func13 (by kernel_rfl)
    (of_decide_eq_true (by kernel_rfl)) (by unfold Func.isWrapper; rw [if_neg (of_decide_eq_false (by kernel_rfl))]; exact ⟨rfl, rfl⟩)
    (fun os started H enc _ => lifted os started H enc)

end Go.Proofs.Ytkkgpddpplokfaa.LawPVR
