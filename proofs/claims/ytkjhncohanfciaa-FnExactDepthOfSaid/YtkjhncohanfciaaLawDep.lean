/- The law FnExactDepthOf returns true for every input, and its argument reads afterwards as before. Conditions: none. -/
import Derived.Test.YtkjhncohanfciaaRows
import Derived.Test.YtkjhncohanfciaaPipeS
import Derived.Test.YtkjhncohanfciaaDepth
import Derived.Test.YtkjhncohanfciaaNodeE
import Derived.Test.YtkjhncohanfciaaOpenN
import Derived.Deep.RegionWith
import Derived.Deep.DeepMust
namespace Go.Proofs.Ytkjhncohanfciaa.LawDep
open Go.ChangeShapes Go.WideShapes Go.ChangeAt Go.RowKit Go.Deep

theorem own : ownKnob Try.prog.godebug = none := by kernel_rfl
theorem laidOut : laidOutB Try.prog = true := by kernel_rfl

set_option maxHeartbeats 1600000 in
theorem walk0 (A : Option Addr) (c : Nat) (l : List Nd) (w : World) (d : Int) (hd : Hid (DepthOf l d)) (h : RdN w w.heap.size A l) (hn : l.length ≤ maxLen) :
    Calls Try.prog 5 #[.agg #[.slice A l.length c]] w fun e w' => e = .returned (.bool true) ∧ Below w.heap.size w w' := by
  obtain ⟨W0, hW0⟩ : ∃ W0 : World, W0 = w.alloc (.cells #[.slice A l.length c] 24) := ⟨_, rfl⟩
  have hb0 : Below w.heap.size w W0 := by rw [hW0]; exact (Below.refl w.heap.size w).alloc (Nat.le_refl _) _
  have hx0 : Bk W0 w.heap.size 24 [.slice A l.length c] := by rw [hW0]; exact Bk.new _ _ _
  have h0 := h.below hb0 (Nat.le_refl _)
  have hs0 : w.heap.size + 1 ≤ W0.heap.size := by rw [hW0]; simp
  by_cases hb : (1048576 : Int) < l.length
  · have Hsz := Lib.hid (szLeft_no hb)
    have Hb0 := Lib.hid hb0
    have HW0 := Lib.hid hW0
    clear h hb hb0 hx0 h0 hW0
    go_enter Try.func5, Try.ntmps5
    go_wp2_with fail
    rw [← HW0.out]
    refine (szPipe_any _ _ _ _ _ (by omega) (by omega) hn).mono ?_
    rintro e w1 ⟨rfl, hb1⟩
    rw [Hsz.out]
    have Hb1 := Lib.hid hb1
    clear hb1
    go_wp2_with fail
    go_ret
    exact ⟨rfl, Hb0.out.trans (Hb1.out.mono Hb0.out.size)⟩
  · have hn2 : l.length ≤ 1048576 := by omega
    have hleft : (0 : Int) ≤ 1048576 - l.length := by omega
    have Hsz := Lib.hid (szLeft_yes hb)
    have Hb0 := Lib.hid hb0
    have HW0 := Lib.hid hW0
    have Hx0 := Lib.hid hx0
    have H0 := Lib.hid h0
    clear h hb hb0 hx0 h0 hW0
    go_enter Try.func5, Try.ntmps5
    go_wp2_with fail
    rw [← HW0.out]
    refine (szPipe_any _ _ _ _ _ (by omega) (by omega) hn).mono ?_
    rintro e w1 ⟨rfl, hb1⟩
    rw [Hsz.out]
    have Hb1 := Lib.hid (Hb0.out.trans (hb1.mono Hb0.out.size))
    have Hx1 := Lib.hid (Hx0.out.below hb1 Hx0.out.lt)
    have H1 := Lib.hid (H0.out.below hb1 Hb0.out.size)
    have hc1 : w1.cell? ⟨w.heap.size, 0, none⟩ = some (.slice A l.length c) := Hx1.out.cell 0
    clear hb1 Hsz HW0
    go_wp2_with fail
    refine (toPipe_any A c l w1 w.heap.size H1.out Hb1.out.size hn2).mono ?_
    rintro e w2 ⟨g2, rfl, hg2, hk2, hb2⟩
    have Hb2 := Lib.hid (Hb1.out.trans (hb2.mono Hb1.out.size))
    have Hx2 := Lib.hid (Hx1.out.below hb2 Hx1.out.lt)
    have H2 := Lib.hid (H1.out.below hb2 Hb1.out.size)
    have hl2 := hk2.lt
    have Hk2 := Lib.hid hk2
    clear hb2 hc1 hk2
    go_wp2_with fail
    refine (specDepthOf_any _ _ l w2 w2.heap.size d hd (Hk2.out.rdN hl2) (Nat.le_refl _) hn2).mono ?_
    rintro e w3 ⟨rfl, hb3⟩
    have Hb3 := Lib.hid (Hb2.out.trans (hb3.mono Hb2.out.size))
    have Hx3 := Lib.hid (Hx2.out.below hb3 Hx2.out.lt)
    have H3 := Lib.hid (H2.out.below hb3 Hb2.out.size)
    have hc3 : w3.cell? ⟨w.heap.size, 0, none⟩ = some (.slice A l.length c) := Hx3.out.cell 0
    clear hb3
    go_wp2_with fail
    refine (toPipe_any A c l w3 w.heap.size H3.out Hb3.out.size hn2).mono ?_
    rintro e w4 ⟨g4, rfl, hg4, hk4, hb4⟩
    have Hb4 := Lib.hid (Hb3.out.trans (hb4.mono Hb3.out.size))
    have Hx4 := Lib.hid (Hx3.out.below hb4 Hx3.out.lt)
    have H4 := Lib.hid (H3.out.below hb4 Hb3.out.size)
    have hl4 := hk4.lt
    have Hk4 := Lib.hid hk4
    clear hb4 hc3 hk4
    obtain ⟨W5, hW5⟩ : ∃ W5 : World, W5 = w4.alloc (.cells #[.slice (some ⟨g4, 0, none⟩) l.length l.length] 32) := ⟨_, rfl⟩
    have hb5 : Below w4.heap.size w4 W5 := by rw [hW5]; exact (Below.refl w4.heap.size w4).alloc (Nat.le_refl _) _
    have hy5 : Bk W5 w4.heap.size 32 [.slice (some ⟨g4, 0, none⟩) l.length l.length] := by rw [hW5]; exact Bk.new _ _ _
    have Hb5 := Lib.hid (Hb4.out.trans (hb5.mono Hb4.out.size))
    have Hx5 := Lib.hid (Hx4.out.below hb5 Hx4.out.lt)
    have H5 := Lib.hid (H4.out.below hb5 Hb4.out.size)
    have Hk5 := Lib.hid (Hk4.out.below hb5 hl4)
    have Hy5 := Lib.hid hy5
    have hl5 := hy5.lt
    have HW5 := Lib.hid hW5
    clear hb5 hy5 hW5
    go_wp2_with fail
    rw [← HW5.out]
    refine (implDepthOf_any _ _ l W5 w4.heap.size d hd (Hk5.out.rdN hl4) (by omega) hn2).mono ?_
    rintro e w6 ⟨rfl, hb6⟩
    have Hb6 := Lib.hid (Hb5.out.trans (hb6.mono Hb5.out.size))
    have Hx6 := Lib.hid (Hx5.out.below hb6 Hx5.out.lt)
    have H6 := Lib.hid (H5.out.below hb6 Hb5.out.size)
    have Hk6 := Lib.hid (Hk5.out.below hb6 Hk5.out.lt)
    have Hy6 := Lib.hid (Hy5.out.below hb6 Hy5.out.lt)
    have hcx : w6.cell? ⟨w.heap.size, 0, none⟩ = some (.slice A l.length c) := Hx6.out.cell 0
    have hcy : w6.cell? ⟨w4.heap.size, 0, none⟩ = some (.slice (some ⟨g4, 0, none⟩) l.length l.length) := Hy6.out.cell 0
    have hl6 := Hy6.out.lt
    have hz6 := Hb6.out.size
    clear hb6 HW5
    go_wp2_with fail
    go_region_with (first | (go_at_call 12; go_must (refine (toPipe_any A c l _ w.heap.size (H6.out.drewN 1) (by exact hz6) hn2).mono ?_; rintro e w7 ⟨g7, rfl, hg7, hk7, hb7⟩; have hcy7 := (hb7.cell (p := ⟨w4.heap.size, 0, none⟩) hl6).trans hcy; have Hk7 := Lib.hid hk7; have hl7 := hk7.lt; have Hb7 := Lib.hid hb7; have H47 := Lib.hid ((hb7.block g4 (by exact Hk6.out.lt)).trans Hk6.out); clear hk7 hb7)) | (go_at_call 16; go_must (refine (eqPipe_any _ _ _ _ l l _ w7.heap.size (Bk.rdN (by exact H47.out) (by have := lt_of_block H47.out; exact this)) (Hk7.out.rdN hl7) (Nat.le_refl _) hn2).mono ?_; rintro e w8 ⟨rfl, hb8⟩; have Hb8 := Lib.hid hb8; clear hb8; rw [decide_eq_true rfl])))
    all_goals
      go_wp2
      go_ret
      exact ⟨rfl, (below_step Hb6.out Hb7.out).trans (Hb8.out.mono (below_step Hb6.out Hb7.out).size)⟩

theorem walk (A : Option Addr) (c : Nat) (l : List Nd) (w : World) (h : RdN w w.heap.size A l) (hn : l.length ≤ maxLen) :
    Calls Try.prog 5 #[.agg #[.slice A l.length c]] w fun e w' => e = .returned (.bool true) ∧ Below w.heap.size w w' := by
  cases hv : pipeOk l
  · exact walk0 A c l w (-1) ⟨fun _ => rfl, fun h2 => absurd (hv.symm.trans h2) (by decide)⟩ h hn
  · obtain ⟨t, ht⟩ := tree_of_pipe hv
    exact walk0 A c l w (t.depth : Nat) ⟨fun h2 => absurd (hv.symm.trans h2) (by decide), fun _ ht2 => by rw [ht.same ht2]⟩ h hn

set_option maxRecDepth 100000 in
theorem lifted (os : Os) (started : os.Started) (H : Type) (enc : TypeId × Value → H) :
    ReturnsInHanded {} Try.checked os 5 .any (Rows.fnExactDepthOfSpec.pre6 enc Try.prog Try.f5 Rows.fnExactDepthOfRow.domain false) (Rows.fnExactDepthOfSpec.post enc Try.prog Try.f5 false true false false) := by
  refine returnsInHanded_of_change (C := Try.checked) own started (by kernel_rfl) Try.func5
    (ChangeSpec.witness6 (enc := enc) (C := Try.checked) false ⟨#[], #[.agg #[.slice none 0 0]], []⟩ 8 (by kernel_rfl) (by kernel_rfl) (by kernel_rfl) (by kernel_rfl)) ?_
  intro W base args ds gs before hval0 hW _ _
  have hval : ∀ (j : Nat) t v, Try.f5.params[j]? = some t → args[j]? = some v → Value.okWide Try.prog W .any base t v := hval0
  have hW' := hW
  obtain ⟨p, q, hA0, hV, rfl, hfz, hnd⟩ := hW
  have hA : DataW.TrodAll enc Try.prog W 0 (fun _ => true) true Try.f5.params.toList args.toList ds p := hA0
  rw [Try.params5] at hA hval
  obtain ⟨v0, vs0, d0, ds0, p0, q0, hargs, rfl, rfl, h0, r0⟩ := trodAll_cons hA
  obtain ⟨rfl, rfl, rfl⟩ := trodAll_nil r0
  obtain rfl : args = #[v0] := by cases args; simp_all
  obtain ⟨rfl, rfl⟩ := trodVars_none hV
  have k0 := h0
  have lt0 : ∀ x ∈ p0, x.block < W.heap.size := by obtain ⟨m, hm⟩ := k0; exact DataW.trod_lt m _ _ _ hm
  obtain ⟨A0, len0, cap0, l0, rfl, rfl, hl0, hrd0⟩ := open_pipe Try.underlying24 (by kernel_rfl) rfl (by kernel_rfl) Try.underlying22 Try.underlying74 rfl (by kernel_rfl) (by kernel_rfl) Try.underlying3 (by kernel_rfl) (hval 0 24 v0 rfl rfl) h0
  clear hA0 hval0
  refine (walk A0 cap0 l0 W hrd0 hl0).mono fun e W' ⟨he, bel⟩ => ?_
  subst he
  exact ⟨_, rfl, _, _, _, [], _, [], hW', trodAll_mk1 (shut_bool Try.underlying4 _), (trodAll_cons_mk (Below.trod laidOut (by kernel_rfl) (of_decide_eq_true (by kernel_rfl)) k0 bel lt0) trodAll_mk0), rfl, bel.frame _, fun h => by cases h⟩

theorem fnExactDepthOf_holds : Rows.FnExactDepthOfSaid :=
  OpenClaim.holds_of_wide 5 Try.f5 rfl rfl rfl rfl rfl rfl rfl ⟨rfl, rfl, rfl, rfl, rfl⟩ rfl rfl rfl rfl rfl (by kernel_rfl) Try.func5 (by kernel_rfl)
    (of_decide_eq_true (by kernel_rfl)) (by unfold Func.isWrapper; rw [if_neg (of_decide_eq_false (by kernel_rfl))]; exact ⟨rfl, rfl⟩)
    (fun os started H enc _ => lifted os started H enc)

end Go.Proofs.Ytkjhncohanfciaa.LawDep
