/- The law FnExactValidSources returns true for every input, and its argument reads afterwards as before. Conditions: none. -/
import Derived.Test.YtggaahblhdphaaaRows
import Derived.Test.YtggaahblhdphaaaSrcB
import Derived.Test.YtggaahblhdphaaaCopy
import Derived.Test.YtggaahblhdphaaaOpen
namespace Go.Proofs.Ytggaahblhdphaaa.LawSrc
open Go.ChangeShapes Go.WideShapes Go.ChangeAt Go.RowKit Go.Deep

theorem own : ownKnob Try.prog.godebug = none := by kernel_rfl
theorem laidOut : laidOutB Try.prog = true := by kernel_rfl

theorem bulk_len (rows : List (List Int)) : rows.length ≤ bulk rows := Nat.le_add_right _ _
theorem bulk_row {rows : List (List Int)} {r : List Int} (h : r ∈ rows) : r.length ≤ bulk rows := Nat.le_trans (len_le_bulk h) (Nat.le_add_left _ _)

set_option maxHeartbeats 800000 in
theorem walk (A : Option Addr) (c : Nat) (rows : List (List Int)) (w : World) (h : RdR w w.heap.size A rows) (hn : rows.length ≤ maxLen) (hm : ∀ r ∈ rows, r.length ≤ maxLen) :
    Calls Try.prog 3 #[.slice A rows.length c] w fun e w' => e = .returned (.bool true) ∧ Below w.heap.size w w' := by
  by_cases hb : (1048576 : Int) < bulk rows
  · have Hh := Lib.hid h
    have Hm := Lib.hid hm
    have Hsz := Lib.hid (szLeft_no hb)
    clear h hm hb
    go_enter Try.func3, Try.ntmps3
    go_wp2_with (go_at_call 15; refine (szIntSS_any _ _ _ _ _ _ Hh.out (by omega) (by omega) hn Hm.out).mono ?_; rintro e w1 ⟨rfl, rfl⟩; rw [Hsz.out])
    go_ret
    exact ⟨rfl, Below.refl _ _⟩
  · have hn2 : rows.length ≤ 1048576 := by have := bulk_len rows; omega
    have hm2 : ∀ r ∈ rows, r.length ≤ 1048576 := fun r hr => by have := bulk_row hr; omega
    have hleft : (0 : Int) ≤ 1048576 - bulk rows := by omega
    have Hh := Lib.hid h
    have Hm := Lib.hid hm
    have Hm2 := Lib.hid hm2
    have Hsz := Lib.hid (szLeft_yes hb)
    clear h hm hm2 hb
    go_enter Try.func3, Try.ntmps3
    go_wp2_with fail
    refine (szIntSS_any _ _ _ _ _ _ Hh.out (by omega) (by omega) hn Hm.out).mono ?_
    rintro e w1 ⟨rfl, rfl⟩
    rw [Hsz.out]
    clear Hsz
    go_wp2_with fail
    refine (toIntSS_any _ _ _ _ _ Hh.out (Nat.le_refl _) hn2 Hm2.out).mono ?_
    rintro e w1 ⟨rfl, ⟨gs1, ho1⟩, hb1⟩
    have Ho1 := Lib.hid ho1
    have Hb1 := Lib.hid hb1
    clear ho1 hb1
    go_wp2_with fail
    refine (specValidSources_any _ _ _ _ _ (Ho1.out.rd (Nat.le_refl _)) hn2 Hm2.out).mono ?_
    rintro e w' ⟨rfl, rfl⟩
    go_wp2_with fail
    refine (toIntSS_any _ _ _ _ _ (Hh.out.below Hb1.out (Nat.le_refl _)) Hb1.out.size hn2 Hm2.out).mono ?_
    rintro e w2 ⟨rfl, ⟨gs2, ho2⟩, hb2⟩
    have Ho2 := Lib.hid ho2
    have Hb2 := Lib.hid hb2
    clear ho2 hb2
    go_wp2_with fail
    refine (implValidSources_any _ _ _ _ _ (Ho2.out.rd (Nat.le_refl _)) hn2 Hm2.out).mono ?_
    rintro e w' ⟨rfl, rfl⟩
    go_wp2_with fail
    have hb12 := Hb1.out.trans (Hb2.out.mono Hb1.out.size)
    have Hb12 := Lib.hid hb12
    clear hb12
    refine (toIntSS_any _ _ _ _ _ (Hh.out.below Hb12.out (Nat.le_refl _)) Hb12.out.size hn2 Hm2.out).mono ?_
    rintro e w3 ⟨rfl, ⟨gs3, ho3⟩, hb3⟩
    have Ho3 := Lib.hid ho3
    have Hb3 := Lib.hid hb3
    clear ho3 hb3
    go_wp2_with fail
    have hd : Hid (decide (rows = rows) = true) := decide_eq_true rfl
    refine (eqIntSS_any _ _ _ _ _ _ _ w3.heap.size ((Ho2.out.below Hb3.out (Nat.le_refl _)).rd (Nat.le_refl _)) (Ho3.out.rd (Nat.le_refl _)) hn2 Hm2.out).mono ?_
    rintro e w4 ⟨rfl, hs⟩
    rw [hd.out]
    clear hd
    have Hs := Lib.hid hs
    clear hs
    go_wp2_with fail
    go_ret
    exact ⟨rfl, (Hb12.out.trans (Hb3.out.mono Hb12.out.size)).trans (Hs.out.below _)⟩

set_option maxRecDepth 100000 in
theorem lifted (os : Os) (started : os.Started) (H : Type) (enc : TypeId × Value → H) :
    ReturnsInHanded {} Try.checked os 3 .any (Rows.fnExactValidSourcesSpec.pre6 enc Try.prog Try.f3 Rows.fnExactValidSourcesRow.domain false) (Rows.fnExactValidSourcesSpec.post enc Try.prog Try.f3 false true false false) := by
  refine returnsInHanded_of_change (C := Try.checked) own started (by kernel_rfl) Try.func3
    (ChangeSpec.witness6 (enc := enc) (C := Try.checked) false ⟨#[], #[.slice none 0 0], []⟩ 8 (by kernel_rfl) (by kernel_rfl) (by kernel_rfl) (by kernel_rfl)) ?_
  intro W base args ds gs before hval0 hW _ _
  have hval : ∀ (j : Nat) t v, Try.f3.params[j]? = some t → args[j]? = some v → Value.okWide Try.prog W .any base t v := hval0
  have hW' := hW
  obtain ⟨p, q, hA0, hV, rfl, hfz, hnd⟩ := hW
  have hA : DataW.TrodAll enc Try.prog W 0 (fun _ => true) true Try.f3.params.toList args.toList ds p := hA0
  rw [Try.params3] at hA hval
  obtain ⟨v0, vs0, d0, ds0, p0, q0, hargs, rfl, rfl, h0, r0⟩ := trodAll_cons hA
  obtain ⟨rfl, rfl, rfl⟩ := trodAll_nil r0
  obtain rfl : args = #[v0] := by cases args; simp_all
  obtain ⟨rfl, rfl⟩ := trodVars_none hV
  obtain ⟨a0, len0, cap0, rfl⟩ := okWide_slice Try.underlying22 (hval 0 22 v0 rfl rfl)
  have k0 := h0
  have lt0 : ∀ x ∈ p0, x.block < W.heap.size := by obtain ⟨m, hm⟩ := k0; exact DataW.trod_lt m _ _ _ hm
  obtain ⟨rows, rfl, hl, hm, hrd⟩ := open_rows Try.underlying22 Try.underlying38 Try.underlying3 (by kernel_rfl) (by kernel_rfl) h0
  clear hA0 hval0
  refine (walk a0 cap0 rows W hrd hl hm).mono fun e W' ⟨he, bel⟩ => ?_
  subst he
  exact ⟨_, rfl, _, _, _, [], _, [], hW', trodAll_mk1 (shut_bool Try.underlying4 _), (trodAll_cons_mk (Below.trod laidOut (by kernel_rfl) (of_decide_eq_true (by kernel_rfl)) k0 bel lt0) trodAll_mk0), rfl, bel.frame _, fun h => by cases h⟩

theorem fnExactValidSources_holds : Rows.FnExactValidSourcesSaid :=
  OpenClaim.holds_of_wide 3 Try.f3 rfl rfl rfl rfl rfl rfl rfl ⟨rfl, rfl, rfl, rfl, rfl⟩ rfl rfl rfl rfl rfl (by kernel_rfl) Try.func3 (by kernel_rfl)
    (of_decide_eq_true (by kernel_rfl)) (by unfold Func.isWrapper; rw [if_neg (of_decide_eq_false (by kernel_rfl))]; exact ⟨rfl, rfl⟩)
    (fun os started H enc _ => lifted os started H enc)

end Go.Proofs.Ytggaahblhdphaaa.LawSrc
