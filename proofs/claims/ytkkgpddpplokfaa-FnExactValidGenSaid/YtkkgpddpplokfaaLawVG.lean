/- The law FnExactValidGen returns true for every input, and its arguments read afterwards as before. Conditions: none. -/
import Derived.Test.YtkkgpddpplokfaaRows
import Derived.Deep.RegionHeld3
import Derived.Test.YtkkgpddpplokfaaVcB
import Derived.Test.YtkkgpddpplokfaaGnC
import Derived.Test.YtkkgpddpplokfaaOpenO
import Derived.Test.YtkkgpddpplokfaaOpenG
import Derived.Test.YtkkgpddpplokfaaOpen
import Derived.Test.YtkkgpddpplokfaaLeav
import Derived.Deep.CutRange
import Derived.Deep.DeepMust
namespace Go.Proofs.Ytkkgpddpplokfaa.LawVG
open Go.ChangeShapes Go.WideShapes Go.ChangeAt Go.RowKit Go.Deep

theorem own : ownKnob Try.prog.godebug = none := by kernel_rfl
theorem laidOut : laidOutB Try.prog = true := by kernel_rfl

set_option maxRecDepth 100000 in
set_option maxHeartbeats 6400000 in
theorem walk (A0 : Option Addr) (c0 : Nat) (l0 : List Od) (x1 : Gn) (w : World) (hr0 : RdOd w w.heap.size A0 l0) (hn0 : l0.length ≤ maxLen) :
    Calls Try.prog 4 #[.slice A0 l0.length c0, .agg #[.int .i64 x1.at_, .int .i64 x1.sum, .int .i64 x1.sent, .int .i64 x1.hd, .int .i64 x1.ph]] w fun e w' => e = .returned (.bool true) ∧ Below w.heap.size w w' := by
  obtain ⟨W0, hW0⟩ : ∃ W : World, W = w.alloc (.cells #[.int .i64 x1.at_, .int .i64 x1.sum, .int .i64 x1.sent, .int .i64 x1.hd, .int .i64 x1.ph] 30) := ⟨_, rfl⟩
  have hb0 : Below w.heap.size w W0 := by rw [hW0]; exact (Below.refl _ _).alloc (Nat.le_refl _) _
  have hbx : Bk W0 w.heap.size 30 [.int .i64 x1.at_, .int .i64 x1.sum, .int .i64 x1.sent, .int .i64 x1.hd, .int .i64 x1.ph] := by rw [hW0]; exact Bk.new w _ [.int .i64 x1.at_, .int .i64 x1.sum, .int .i64 x1.sent, .int .i64 x1.hd, .int .i64 x1.ph]
  have HW0 := Lib.hid hW0
  have Hx := Lib.hid (hbx.held)
  have hz0 : w.heap.size < W0.heap.size := hbx.lt
  clear hW0 hbx
  have Ha := Lib.hid ((hr0.held (Nat.le_refl _)).below hb0 (Nat.le_refl _))
  have Hb := Lib.hid hb0
  clear hb0 hr0
  go_enter Try.func4, Try.ntmps4
  go_wp2_with fail
  rw [← HW0.out]
  refine (szOrderS_any A0 l0.length c0 1048576 W0 (by omega) (by omega) hn0).mono ?_
  rintro e w0 ⟨rfl, rfl⟩
  by_cases hlt : (1048576 : Int) < (l0.length : Int)
  · rw [szLeft_no hlt]
    clear hlt
    go_wp2_with fail
    go_ret
    first | exact ⟨rfl, Hb.out⟩ | (have h9 := Hb.out; rw [← HW0.out] at h9; exact ⟨rfl, h9⟩)
  rw [szLeft_yes hlt]
  have hs0 : l0.length ≤ 1048576 := by omega
  have hleft : (0 : Int) ≤ 1048576 - (l0.length : Int) := by omega
  clear hlt
  have HS : Hid (∀ W' : World, Below W0.heap.size W0 W' → W'.cell? ⟨w.heap.size, 0, none⟩ = some (.int .i64 x1.at_) ∧ W'.cell? ⟨w.heap.size, 1, none⟩ = some (.int .i64 x1.sum) ∧ W'.cell? ⟨w.heap.size, 2, none⟩ = some (.int .i64 x1.sent) ∧ W'.cell? ⟨w.heap.size, 3, none⟩ = some (.int .i64 x1.hd) ∧ W'.cell? ⟨w.heap.size, 4, none⟩ = some (.int .i64 x1.ph)) := Lib.hid (fun W' hb => ⟨(Hx.out.below hb Hx.out.top).out.cell 0, (Hx.out.below hb Hx.out.top).out.cell 1, (Hx.out.below hb Hx.out.top).out.cell 2, (Hx.out.below hb Hx.out.top).out.cell 3, (Hx.out.below hb Hx.out.top).out.cell 4⟩)
  obtain ⟨k0, k1, k2, k3, k4⟩ := HS.out W0 (Below.refl _ _)
  go_wp2_with fail
  go_region_held3 (fun w' => w'.cell? ⟨w.heap.size, 0, none⟩ = some (.int .i64 x1.at_) ∧ w'.cell? ⟨w.heap.size, 1, none⟩ = some (.int .i64 x1.sum) ∧ w'.cell? ⟨w.heap.size, 2, none⟩ = some (.int .i64 x1.sent) ∧ w'.cell? ⟨w.heap.size, 3, none⟩ = some (.int .i64 x1.hd) ∧ w'.cell? ⟨w.heap.size, 4, none⟩ = some (.int .i64 x1.ph))
    (first | exact ⟨k0, k1, k2, k3, k4⟩ | exact ks1 | exact ks2 | exact ks3 | go_keep)
    (first
      | (
        go_at_call 17
        refine (toOrderS_any A0 c0 l0 _ w.heap.size (Ha.out.drewN 1).out (by have := Hb.out.size; first | omega | (simp; omega)) hs0).mono ?_
        rintro e w1 ⟨rfl, ho1, hlt1, hb1z⟩
        replace ho1 : OwnOd w1 W0.heap.size (W0.heap.size + 1) (some ⟨W0.heap.size, 0, none⟩) l0 := by simpa using ho1
        replace hlt1 : W0.heap.size < w1.heap.size := by simpa using hlt1
        have hb1 : Below W0.heap.size W0 w1 := ((Below.refl W0.heap.size W0).drew).trans (hb1z.mono (by simp))
        have Ht := Lib.hid (ho1.held (Nat.le_succ _) hlt1)
        have ks1 := HS.out _ hb1
        have hz_1 := hb1.size
        have HB1 := Lib.hid hb1
        clear hb1z hb1 ho1)
      | (
        go_at_call 21
        refine (toGen_any x1 w1).mono ?_
        rintro e w2 ⟨rfl, hb2z⟩
        have hb2 : Below W0.heap.size W0 w2 := HB1.out.trans (hb2z.mono hz_1)
        replace Ht := Lib.hid (Ht.out.below hb2z Ht.out.top)
        have ks2 := HS.out _ hb2
        have hz_2 := hb2.size
        have HB2 := Lib.hid hb2
        clear hb2z hb2)
      | (
        go_at_call 20
        refine (specValidGen_any x1 _ _ l0 w2 w2.heap.size (Ht.out.out.rdt Ht.out.top) (Nat.le_refl _) hs0).mono ?_
        rintro e w3 ⟨rfl, hb3z⟩
        have hb3 : Below W0.heap.size W0 w3 := HB2.out.trans (hb3z.mono hz_2)
        have ks3 := HS.out _ hb3
        have HB3 := Lib.hid hb3
        clear hb3z hb3))
  have hb_w3 := HB3.out
  clear HS HB1 HB2 HB3 k0 k1 k2 k3 k4 ks1 ks2 ks3 Ht
  have hz_w3 : W0.heap.size ≤ w3.heap.size := hb_w3.size
  replace Hb := Lib.hid (Hb.out.trans (hb_w3.mono Hb.out.size))
  replace Ha := Lib.hid (Ha.out.below hb_w3 Ha.out.top)
  replace Hx := Lib.hid (Hx.out.below hb_w3 Hx.out.top)
  clear hb_w3
  go_wp2_with fail
  refine (toOrderS_any A0 c0 l0 w3 w.heap.size Ha.out.out Hb.out.size hs0).mono ?_
  rintro e w4 ⟨rfl, ho_w4, hlt_w4, hb_w4⟩
  have Hy := Lib.hid (ho_w4.held (Nat.le_succ _) hlt_w4)
  have hz_w4 : w3.heap.size ≤ w4.heap.size := hb_w4.size
  replace Hb := Lib.hid (Hb.out.trans (hb_w4.mono Hb.out.size))
  replace Ha := Lib.hid (Ha.out.below hb_w4 Ha.out.top)
  replace Hx := Lib.hid (Hx.out.below hb_w4 Hx.out.top)
  clear hb_w4 ho_w4
  have cx0 : w4.cell? ⟨w.heap.size, 0, none⟩ = some (.int .i64 x1.at_) := Hx.out.out.cell 0
  have cx1 : w4.cell? ⟨w.heap.size, 1, none⟩ = some (.int .i64 x1.sum) := Hx.out.out.cell 1
  have cx2 : w4.cell? ⟨w.heap.size, 2, none⟩ = some (.int .i64 x1.sent) := Hx.out.out.cell 2
  have cx3 : w4.cell? ⟨w.heap.size, 3, none⟩ = some (.int .i64 x1.hd) := Hx.out.out.cell 3
  have cx4 : w4.cell? ⟨w.heap.size, 4, none⟩ = some (.int .i64 x1.ph) := Hx.out.out.cell 4
  go_wp2_with fail
  refine (toGen_any x1 w4).mono ?_
  rintro e w5 ⟨rfl, hb_w5⟩
  clear cx0 cx1 cx2 cx3 cx4
  have hz_w5 : w4.heap.size ≤ w5.heap.size := hb_w5.size
  replace Hb := Lib.hid (Hb.out.trans (hb_w5.mono Hb.out.size))
  replace Ha := Lib.hid (Ha.out.below hb_w5 Ha.out.top)
  replace Hx := Lib.hid (Hx.out.below hb_w5 Hx.out.top)
  replace Hy := Lib.hid (Hy.out.below hb_w5 Hy.out.top)
  clear hb_w5
  go_wp2_with fail
  refine (implValidGen_any x1 _ _ l0 w5 w5.heap.size (Hy.out.out.rdt Hy.out.top) (Nat.le_refl _) hs0).mono ?_
  rintro e w6 ⟨rfl, hb_w6⟩
  have hz_w6 : w5.heap.size ≤ w6.heap.size := hb_w6.size
  replace Hb := Lib.hid (Hb.out.trans (hb_w6.mono Hb.out.size))
  replace Ha := Lib.hid (Ha.out.below hb_w6 Ha.out.top)
  replace Hx := Lib.hid (Hx.out.below hb_w6 Hx.out.top)
  replace Hy := Lib.hid (Hy.out.below hb_w6 Hy.out.top)
  clear hb_w6
  go_wp2_with fail
  refine (toOrderS_any A0 c0 l0 w6 w.heap.size Ha.out.out Hb.out.size hs0).mono ?_
  rintro e w7 ⟨rfl, ho_w7, hlt_w7, hb_w7⟩
  have Hc := Lib.hid (ho_w7.held (Nat.le_succ _) hlt_w7)
  have hz_w7 : w6.heap.size ≤ w7.heap.size := hb_w7.size
  replace Hb := Lib.hid (Hb.out.trans (hb_w7.mono Hb.out.size))
  replace Ha := Lib.hid (Ha.out.below hb_w7 Ha.out.top)
  replace Hx := Lib.hid (Hx.out.below hb_w7 Hx.out.top)
  replace Hy := Lib.hid (Hy.out.below hb_w7 Hy.out.top)
  clear hb_w7 ho_w7
  go_wp2_with fail
  refine (eqOrderS_any _ _ _ _ l0 l0 w7 w7.heap.size (Hy.out.out.rdt Hy.out.top) (Hc.out.out.rdt Hc.out.top) (Nat.le_refl _) hs0).mono ?_
  rintro e w8 ⟨rfl, hb_w8⟩
  rw [decide_eq_true rfl]
  have hz_w8 : w7.heap.size ≤ w8.heap.size := hb_w8.size
  replace Hb := Lib.hid (Hb.out.trans (hb_w8.mono Hb.out.size))
  replace Ha := Lib.hid (Ha.out.below hb_w8 Ha.out.top)
  replace Hx := Lib.hid (Hx.out.below hb_w8 Hx.out.top)
  replace Hy := Lib.hid (Hy.out.below hb_w8 Hy.out.top)
  replace Hc := Lib.hid (Hc.out.below hb_w8 Hc.out.top)
  clear hb_w8
  go_wp2_with fail
  go_ret
  first | exact ⟨rfl, Hb.out⟩ | (have h9 := Hb.out; rw [← HW0.out] at h9; exact ⟨rfl, h9⟩)


set_option maxRecDepth 100000 in
theorem lifted (os : Os) (started : os.Started) (H : Type) (enc : TypeId × Value → H) :
    ReturnsInHanded {} Try.checked os 4 .any (Rows.fnExactValidGenSpec.pre6 enc Try.prog Try.f4 Rows.fnExactValidGenRow.domain false) (Rows.fnExactValidGenSpec.post enc Try.prog Try.f4 false true false false) := by
  refine returnsInHanded_of_change (C := Try.checked) own started (by kernel_rfl) Try.func4
    (ChangeSpec.witness6 (enc := enc) (C := Try.checked) false ⟨#[], #[.slice none 0 0, .agg #[.int .i64 0, .int .i64 0, .int .i64 0, .int .i64 0, .int .i64 0]], []⟩ 8 (by kernel_rfl) (by kernel_rfl) (by kernel_rfl) (by kernel_rfl)) ?_
  intro W base args ds gs before hval0 hW _ _
  have hval : ∀ (j : Nat) t v, Try.f4.params[j]? = some t → args[j]? = some v → Value.okWide Try.prog W .any base t v := hval0
  have hW' := hW
  obtain ⟨p, q, hA0, hV, rfl, hfz, hnd⟩ := hW
  have hA : DataW.TrodAll enc Try.prog W 0 (fun _ => true) true Try.f4.params.toList args.toList ds p := hA0
  rw [Try.params4] at hA hval
  obtain ⟨v0, vs0, d0, ds0, p0, q0, hargs, rfl, rfl, h0, r0⟩ := trodAll_cons hA
  obtain ⟨v1, vs1, d1, ds1, p1, q1, rfl, rfl, rfl, h1, r1⟩ := trodAll_cons r0
  obtain ⟨rfl, rfl, rfl⟩ := trodAll_nil r1
  obtain rfl : args = #[v0, v1] := by cases args; simp_all
  obtain ⟨rfl, rfl⟩ := trodVars_none hV
  obtain ⟨a0, len0, cap0, rfl⟩ := okWide_slice Try.underlying22 (hval 0 22 v0 rfl rfl)
  have k0 := h0
  have lt0 : ∀ x ∈ p0, x.block < W.heap.size := by obtain ⟨m, hm⟩ := k0; exact DataW.trod_lt m _ _ _ hm
  obtain ⟨l0, rfl, hl0, hrd0⟩ := open_manyOd Try.underlying22 Try.underlying75 (by kernel_rfl) rfl Try.underlying3 (by kernel_rfl) h0
  have k1 := h1
  have lt1 : ∀ x ∈ p1, x.block < W.heap.size := by obtain ⟨m, hm⟩ := k1; exact DataW.trod_lt m _ _ _ hm
  obtain ⟨x1, rfl⟩ := open_oneGn Try.underlying30 (by kernel_rfl) rfl Try.underlying3 (by kernel_rfl) (hval 1 30 v1 rfl rfl) h1
  clear hA0 hval0
  refine (walk a0 cap0 l0 x1 W hrd0 hl0).mono fun e W' ⟨he, bel⟩ => ?_
  subst he
  exact ⟨_, rfl, _, _, _, [], _, [], hW', trodAll_mk1 (shut_bool Try.underlying4 _), (trodAll_cons_mk (Below.trod laidOut (by kernel_rfl) (of_decide_eq_true (by kernel_rfl)) k0 bel lt0) (trodAll_cons_mk (Below.trod laidOut (by kernel_rfl) (of_decide_eq_true (by kernel_rfl)) k1 bel lt1) trodAll_mk0)), rfl, bel.frame _, fun h => by cases h⟩

theorem fnExactValidGen_holds : Rows.FnExactValidGenSaid :=
  OpenClaim.holds_of_wide_leaving 4 Try.f4 rfl rfl rfl rfl rfl rfl rfl ⟨rfl, rfl, rfl, rfl, rfl⟩ rfl rfl rfl rfl rfl (by kernel_rfl) Try.func4 (by kernel_rfl)
    (of_decide_eq_true (by kernel_rfl)) (by unfold Func.isWrapper; rw [if_neg (of_decide_eq_false (by kernel_rfl))]; exact ⟨rfl, rfl⟩)
    (fun os started H enc _ => leaving_of_handed (lifted os started H enc))

end Go.Proofs.Ytkkgpddpplokfaa.LawVG
