/- The law FnExactOrderPipe returns true for every input, and its argument reads afterwards as before. Conditions: none. -/
import Derived.Test.YtkjhncohanfciaaRows
import Derived.Test.YtkjhncohanfciaaPipeS
import Derived.Test.YtkjhncohanfciaaOrd
import Derived.Test.YtkjhncohanfciaaPB
import Derived.Test.YtkjhncohanfciaaNodeE
import Derived.Test.YtkjhncohanfciaaOpenN
import Derived.Deep.RegionWith
import Derived.Deep.DeepMust
namespace Go.Proofs.Ytkjhncohanfciaa.LawOrd
open Go.ChangeShapes Go.WideShapes Go.ChangeAt Go.RowKit Go.Deep

theorem own : ownKnob Try.prog.godebug = none := by kernel_rfl
theorem laidOut : laidOutB Try.prog = true := by kernel_rfl

set_option maxHeartbeats 1600000 in
theorem walk0 (A : Option Addr) (c : Nat) (l : List Nd) (w : World) (q : List Nd) (hq : Hid (OrdOf l (pipeOk l) (l.length - 1) q)) (hqn : q.length ≤ 1048576) (h : RdN w w.heap.size A l) (hn : l.length ≤ maxLen) :
    Calls Try.prog 6 #[.agg #[.slice A l.length c]] w fun e w' => e = .returned (.bool true) ∧ Below w.heap.size w w' := by
  obtain ⟨W0, hW0⟩ : ∃ W0 : World, W0 = w.alloc (.cells #[.slice A l.length c] 24) := ⟨_, rfl⟩
  have hb0 : Below w.heap.size w W0 := by rw [hW0]; exact (Below.refl w.heap.size w).alloc (Nat.le_refl _) _
  have hx0 : Bk W0 w.heap.size 24 [.slice A l.length c] := by rw [hW0]; exact Bk.new _ _ _
  have h0 := h.below hb0 (Nat.le_refl _)
  have hs0 : w.heap.size + 1 ≤ W0.heap.size := by rw [hW0]; simp
  by_cases hb : (1048576 : Int) < l.length
  · have Hsz := Lib.hid (szLeft_no hb)
    have Hb0 := Lib.hid hb0
    have HW0 := Lib.hid hW0
    clear h hb hb0 hx0 h0 hW0
    go_enter Try.func6, Try.ntmps6
    go_wp2_with fail
    rw [← HW0.out]
    refine (szPipe_any _ _ _ _ _ (by omega) (by omega) hn).mono ?_
    rintro e w1 ⟨rfl, hb1⟩
    rw [Hsz.out]
    have Hb1 := Lib.hid hb1
    clear hb1
    go_wp2_with fail
    go_ret
    exact ⟨rfl, Hb0.out.trans (Hb1.out.mono Hb0.out.size)⟩
  · have hn2 : l.length ≤ 1048576 := by omega
    have hleft : (0 : Int) ≤ 1048576 - l.length := by omega
    have Hsz := Lib.hid (szLeft_yes hb)
    have Hb0 := Lib.hid hb0
    have HW0 := Lib.hid hW0
    have Hx0 := Lib.hid hx0
    have H0 := Lib.hid h0
    clear h hb hb0 hx0 h0 hW0
    go_enter Try.func6, Try.ntmps6
    go_wp2_with fail
    rw [← HW0.out]
    refine (szPipe_any _ _ _ _ _ (by omega) (by omega) hn).mono ?_
    rintro e w1 ⟨rfl, hb1⟩
    rw [Hsz.out]
    have Hb1 := Lib.hid (Hb0.out.trans (hb1.mono Hb0.out.size))
    have Hx1 := Lib.hid (Hx0.out.below hb1 Hx0.out.lt)
    have H1 := Lib.hid (H0.out.below hb1 Hb0.out.size)
    have hc1 : w1.cell? ⟨w.heap.size, 0, none⟩ = some (.slice A l.length c) := Hx1.out.cell 0
    clear hb1 Hsz HW0
    go_wp2_with fail
    refine (toPipe_any A c l w1 w.heap.size H1.out Hb1.out.size hn2).mono ?_
    rintro e w2 ⟨g2, rfl, hg2, hk2, hb2⟩
    have Hb2 := Lib.hid (Hb1.out.trans (hb2.mono Hb1.out.size))
    have Hx2 := Lib.hid (Hx1.out.below hb2 Hx1.out.lt)
    have H2 := Lib.hid (H1.out.below hb2 Hb1.out.size)
    have hl2 := hk2.lt
    have Hk2 := Lib.hid hk2
    clear hb2 hc1 hk2
    go_wp2_with fail
    refine (specOrderPipe_any _ _ l w2 w2.heap.size q hq (Hk2.out.rdN hl2) (Nat.le_refl _) hn2).mono ?_
    rintro e w3 ⟨Aw, cw, rfl, hwo, hb3⟩
    have Hb3 := Lib.hid (Hb2.out.trans (hb3.mono Hb2.out.size))
    have ha3 : AB w3 w.heap.size A c l := ⟨Hx2.out.below hb3 Hx2.out.lt, H2.out.below hb3 Hb2.out.size⟩
    obtain ⟨W4, hW4⟩ : ∃ W4 : World, W4 = w3.alloc (.cells #[.slice Aw q.length cw] 32) := ⟨_, rfl⟩
    have hb4 : Below w3.heap.size w3 W4 := by rw [hW4]; exact (Below.refl _ _).alloc (Nat.le_refl _) _
    have hw4 : PB W4 w3.heap.size w2.heap.size Aw cw q := by rw [hW4]; exact PB.new hwo
    have Hb4 := Lib.hid (Hb3.out.trans (hb4.mono Hb3.out.size))
    have Ha4 := Lib.hid (ha3.below hb4 ha3.box.lt)
    have Hw4 := Lib.hid hw4
    have HW4 := Lib.hid hW4
    have hs4 : W4.heap.size = w3.heap.size + 1 := by rw [hW4]; simp
    have hc3 : w3.cell? ⟨w.heap.size, 0, none⟩ = some (.slice A l.length c) := ha3.cell
    have hlt3 : w.heap.size < w3.heap.size := ha3.box.lt
    have hz3 : w2.heap.size ≤ w3.heap.size := hb3.size
    have hz2 : w.heap.size < w2.heap.size := Hx2.out.lt
    clear hb3 hwo hW4 hb4 hw4 ha3
    go_wp2_with fail
    rw [← HW4.out]
    refine (toPipe_any A c l W4 w.heap.size Ha4.out.rd Hb4.out.size hn2).mono ?_
    rintro e w5 ⟨g5, rfl, hg5, hk5, hb5⟩
    have hx5 : OwnN w5 W4.heap.size (some ⟨g5, 0, none⟩) l.length l := hk5.own (by omega) hn2
    obtain ⟨W6, hW6⟩ : ∃ W6 : World, W6 = w5.alloc (.cells #[.slice (some ⟨g5, 0, none⟩) l.length l.length] 32) := ⟨_, rfl⟩
    have hb6 : Below w5.heap.size w5 W6 := by rw [hW6]; exact (Below.refl _ _).alloc (Nat.le_refl _) _
    have hx6 : PB W6 w5.heap.size W4.heap.size (some ⟨g5, 0, none⟩) l.length l := by rw [hW6]; exact PB.new hx5
    have hb56 := hb5.trans (hb6.mono hb5.size)
    have Hb6 := Lib.hid (Hb4.out.trans (hb56.mono Hb4.out.size))
    have Ha6 := Lib.hid (Ha4.out.below hb56 Ha4.out.box.lt)
    have Hw6 := Lib.hid (Hw4.out.below hb56 (Nat.le_refl _))
    have Hx6 := Lib.hid hx6
    have HW6 := Lib.hid hW6
    have hs6 : W6.heap.size = w5.heap.size + 1 := by rw [hW6]; simp
    have hz5 : W4.heap.size ≤ w5.heap.size := hb5.size
    clear hb5 hk5 hx5 hW6 hb6 hx6 hb56 hc3 HW4
    go_wp2_with fail
    rw [← HW6.out]
    refine (implOrderPipe_any _ _ l W6 W6.heap.size q hq Hx6.out.own.rd (Nat.le_refl _) hn2).mono ?_
    rintro e w7 ⟨Ag, cg, rfl, hgo, hb7⟩
    obtain ⟨W8, hW8⟩ : ∃ W8 : World, W8 = w7.alloc (.cells #[.slice Ag q.length cg] 32) := ⟨_, rfl⟩
    have hb8 : Below w7.heap.size w7 W8 := by rw [hW8]; exact (Below.refl _ _).alloc (Nat.le_refl _) _
    have hg8 : PB W8 w7.heap.size W6.heap.size Ag cg q := by rw [hW8]; exact PB.new hgo
    have hb78 := hb7.trans (hb8.mono hb7.size)
    have Hb8 := Lib.hid (Hb6.out.trans (hb78.mono Hb6.out.size))
    have Ha8 := Lib.hid (Ha6.out.below hb78 Ha6.out.box.lt)
    have hw7 := Hw6.out.below hb7 (Nat.le_refl _)
    have Hw8 := Lib.hid (Hw6.out.below hb78 (Nat.le_refl _))
    have Hx8 := Lib.hid (Hx6.out.below hb78 (Nat.le_refl _))
    have Hg8 := Lib.hid hg8
    have HW8 := Lib.hid hW8
    have hs8 : W8.heap.size = w7.heap.size + 1 := by rw [hW8]; simp
    have hz7 : W6.heap.size ≤ w7.heap.size := hb7.size
    have cw7 : w7.cell? ⟨w3.heap.size, 0, none⟩ = some (.slice Aw q.length cw) := hw7.cell
    have hlt7 : w3.heap.size < w7.heap.size := hw7.box.lt
    clear hb7 hgo hW8 hb8 hg8 hb78 hw7 HW6
    go_wp2_with fail
    rw [← HW8.out]
    refine (eqPipe_any _ _ _ _ q q W8 W8.heap.size Hg8.out.own.rd Hw8.out.own.rd (Nat.le_refl _) hqn).mono ?_
    rintro e w9 ⟨rfl, hb9⟩
    rw [decide_eq_true rfl]
    have Hb9 := Lib.hid (Hb8.out.trans (hb9.mono Hb8.out.size))
    have Ha9 := Lib.hid (Ha8.out.below hb9 Ha8.out.box.lt)
    have Hw9 := Lib.hid (Hw8.out.below hb9 (Nat.le_refl _))
    have Hx9 := Lib.hid (Hx8.out.below hb9 (Nat.le_refl _))
    have Hg9 := Lib.hid (Hg8.out.below hb9 (Nat.le_refl _))
    have hz9 : W8.heap.size ≤ w9.heap.size := hb9.size
    have ca9 : w9.cell? ⟨w.heap.size, 0, none⟩ = some (.slice A l.length c) := Ha9.out.cell
    have cx9 : w9.cell? ⟨w5.heap.size, 0, none⟩ = some (.slice (some ⟨g5, 0, none⟩) l.length l.length) := Hx9.out.cell
    have hz09 := Hb9.out.size
    clear hb9 cw7 HW8
    go_wp2_with fail
    go_region_with (first | (go_at_call 12; go_must (refine (toPipe_any A c l _ w.heap.size (Ha9.out.rd.drewN 1) (by exact hz09) hn2).mono ?_; rintro e w10 ⟨g10, rfl, hg10, hk10, hb10⟩; have cx10 := (hb10.cell (p := ⟨w5.heap.size, 0, none⟩) (by exact Hx9.out.box.lt)).trans cx9; have Hk10 := Lib.hid hk10; have hl10 := hk10.lt; have Hb10 := Lib.hid (below_step (w := w9) (wr := w9) (Below.refl _ _) hb10); clear hk10 hb10)) | (go_at_call 16; go_must (refine (eqPipe_any _ _ _ _ l l _ w10.heap.size (Hx9.out.below Hb10.out (Nat.le_refl _)).own.rd (Hk10.out.rdN hl10) (Nat.le_refl _) hn2).mono ?_; rintro e w11 ⟨rfl, hb11⟩; have Hb11 := Lib.hid (Hb10.out.trans (hb11.mono Hb10.out.size)); clear hb11; rw [decide_eq_true rfl])))
    all_goals
      have Hba := Lib.hid (Hb9.out.trans (Hb11.out.mono Hb9.out.size))
      have Haa := Lib.hid (Ha9.out.below Hb11.out Ha9.out.box.lt)
      have Hwa := Lib.hid (Hw9.out.below Hb11.out (Nat.le_refl _))
      have Hxa := Lib.hid (Hx9.out.below Hb11.out (Nat.le_refl _))
      have Hga := Lib.hid (Hg9.out.below Hb11.out (Nat.le_refl _))
      have cxa : w11.cell? ⟨w5.heap.size, 0, none⟩ = some (.slice (some ⟨g5, 0, none⟩) l.length l.length) := Hxa.out.cell
      have hza := Hb11.out.size
      clear ca9 cx9 cx10
      go_wp2_with fail
      refine (markPipe_any _ _ l 1 w11 W4.heap.size Hxa.out.own hn2 (by decide) (by decide)).mono ?_
      rintro e w12 ⟨rfl, -, hg12⟩
      have Ha12 := Lib.hid (Haa.out.mark Hxa.out (by omega) (by omega) hg12)
      have Hw12 := Lib.hid (Hwa.out.mark_left Hxa.out (by omega) hg12)
      have Hg12 := Lib.hid (Hga.out.mark_right Hxa.out (by omega) (by omega) hg12)
      have Hg1 := Lib.hid hg12
      have hpos : (0 : Int) ≤ 1 + 5 * l.length := by omega
      have cw12 : w12.cell? ⟨w3.heap.size, 0, none⟩ = some (.slice Aw q.length cw) := Hw12.out.cell
      have cg12 : w12.cell? ⟨w7.heap.size, 0, none⟩ = some (.slice Ag q.length cg) := Hg12.out.cell
      have Hb12 := Lib.hid (Hba.out.grown hg12 Hba.out.size (fun k hk => by have : g5 = k := Option.some.inj hk; omega))
      have hz12 := hg12.size
      clear hg12 cxa
      go_wp2_with fail
      refine (eqPipe_any _ _ _ _ q q w12 w12.heap.size Hg12.out.own.rd Hw12.out.own.rd (Nat.le_refl _) hqn).mono ?_
      rintro e w13 ⟨rfl, hb13⟩
      rw [decide_eq_true rfl]
      have Hb13 := Lib.hid (Hb12.out.trans (hb13.mono Hb12.out.size))
      have Ha13 := Lib.hid (Ha12.out.below hb13 Ha12.out.box.lt)
      have Hw13 := Lib.hid (Hw12.out.below hb13 (Nat.le_refl _))
      have Hg13 := Lib.hid (Hg12.out.below hb13 (Nat.le_refl _))
      have cg13 : w13.cell? ⟨w7.heap.size, 0, none⟩ = some (.slice Ag q.length cg) := Hg13.out.cell
      have hz13 := hb13.size
      clear hb13 cw12 cg12
      go_wp2_with fail
      refine (markPipe_any _ _ q 1 w13 W6.heap.size Hg13.out.own hqn (by decide) (by decide)).mono ?_
      rintro e w14 ⟨rfl, ho14, hg14⟩
      have Ha14 := Lib.hid (Ha13.out.mark Hg13.out (by omega) (by omega) hg14)
      have Hw14 := Lib.hid (Hw13.out.mark_left Hg13.out (by omega) hg14)
      have Hg14 := Lib.hid (Hg13.out.mark_self ho14 (mkN_len _ _) hg14)
      have hposq : (0 : Int) ≤ 1 + 5 * q.length := by omega
      have cg14 : w14.cell? ⟨w7.heap.size, 0, none⟩ = some (.slice Ag q.length cg) := by rw [← mkN_len q.length 1]; exact Hg14.out.cell
      have Hb14 := Lib.hid (Hb13.out.grown hg14 Hb13.out.size (fun k hk => by have := (Hg13.out.own.row_lt k hk).1; omega))
      have hz14 := hg14.size
      clear hg14 ho14 cg13
      go_wp2_with fail
      refine (heldPipe_any _ _ q.length 1 w14 w14.heap.size Hg14.out.own.rd (Nat.le_refl _) hqn (by decide) (by decide)).mono ?_
      rintro e w15 ⟨rfl, hb15⟩
      have Hb15 := Lib.hid (Hb14.out.trans (hb15.mono Hb14.out.size))
      have Ha15 := Lib.hid (Ha14.out.below hb15 Ha14.out.box.lt)
      have Hw15 := Lib.hid (Hw14.out.below hb15 (Nat.le_refl _))
      have Hg15 := Lib.hid (Hg14.out.below hb15 (Nat.le_refl _))
      have ca15 : w15.cell? ⟨w.heap.size, 0, none⟩ = some (.slice A l.length c) := Ha15.out.cell
      have hz15 := hb15.size
      clear hb15 cg14
      go_wp2_with fail
      refine (toPipe_any A c l w15 w.heap.size Ha15.out.rd Hb15.out.size hn2).mono ?_
      rintro e w16 ⟨g16, rfl, hg16, hk16, hb16⟩
      have Hb16 := Lib.hid (Hb15.out.trans (hb16.mono Hb15.out.size))
      have Ha16 := Lib.hid (Ha15.out.below hb16 Ha15.out.box.lt)
      have Hw16 := Lib.hid (Hw15.out.below hb16 (Nat.le_refl _))
      have Hg16 := Lib.hid (Hg15.out.below hb16 (Nat.le_refl _))
      have hl16 := hk16.lt
      have Hk16 := Lib.hid hk16
      clear hk16 hb16 ca15
      go_wp2_with fail
      refine (implOrderPipe_any _ _ l w16 w16.heap.size q hq (Hk16.out.rdN hl16) (Nat.le_refl _) hn2).mono ?_
      rintro e w17 ⟨Ah, ch, rfl, ho17, hb17⟩
      obtain ⟨W18, hW18⟩ : ∃ W18 : World, W18 = w17.alloc (.cells #[.slice Ah q.length ch] 32) := ⟨_, rfl⟩
      have hb18 : Below w17.heap.size w17 W18 := by rw [hW18]; exact (Below.refl _ _).alloc (Nat.le_refl _) _
      have hh18 : PB W18 w17.heap.size w16.heap.size Ah ch q := by rw [hW18]; exact PB.new ho17
      have hb178 := hb17.trans (hb18.mono hb17.size)
      have Hb18 := Lib.hid (Hb16.out.trans (hb178.mono Hb16.out.size))
      have hw17 := Hw16.out.below hb17 (Nat.le_refl _)
      have Hw18 := Lib.hid (Hw16.out.below hb178 (Nat.le_refl _))
      have Hg18 := Lib.hid (Hg16.out.below hb178 (Nat.le_refl _))
      have Hh18 := Lib.hid hh18
      have HW18 := Lib.hid hW18
      have cw17 : w17.cell? ⟨w3.heap.size, 0, none⟩ = some (.slice Aw q.length cw) := hw17.cell
      have hlt17 : w3.heap.size < w17.heap.size := hw17.box.lt
      clear hb17 ho17 hW18 hb18 hh18 hb178 hw17
      go_wp2_with fail
      rw [← HW18.out]
      refine (eqPipe_any _ _ _ _ q q W18 W18.heap.size Hh18.out.own.rd Hw18.out.own.rd (Nat.le_refl _) hqn).mono ?_
      rintro e w19 ⟨rfl, hb19⟩
      rw [decide_eq_true rfl]
      have Hb19 := Lib.hid (Hb18.out.trans (hb19.mono Hb18.out.size))
      have Hg19 := Lib.hid (Hg18.out.below hb19 (Nat.le_refl _))
      have cg19 : w19.cell? ⟨w7.heap.size, 0, none⟩ = some (.slice Ag q.length cg) := by rw [← mkN_len q.length 1]; exact Hg19.out.cell
      clear hb19 cw17 HW18
      go_wp2_with fail
      refine (heldPipe_any _ _ q.length 1 w19 w19.heap.size Hg19.out.own.rd (Nat.le_refl _) hqn (by decide) (by decide)).mono ?_
      rintro e w20 ⟨rfl, hb20⟩
      have Hb20 := Lib.hid (Hb19.out.trans (hb20.mono Hb19.out.size))
      clear hb20 cg19
      go_wp2_with fail
      go_ret
      exact ⟨rfl, Hb20.out⟩

theorem walk (A : Option Addr) (c : Nat) (l : List Nd) (w : World) (h : RdN w w.heap.size A l) (hn : l.length ≤ maxLen) :
    Calls Try.prog 6 #[.agg #[.slice A l.length c]] w fun e w' => e = .returned (.bool true) ∧ Below w.heap.size w w' := by
  cases hv : pipeOk l
  · exact walk0 A c l w [] ⟨fun _ => rfl, fun h2 => absurd (hv.symm.trans h2) (by decide)⟩ (by simp) h hn
  · obtain ⟨t, ht⟩ := tree_of_pipe hv
    refine walk0 A c l w (t.put 0) ⟨fun h2 => absurd (hv.symm.trans h2) (by decide), fun _ ht2 => by rw [ht.same ht2]⟩ ?_ h hn
    rw [T.put_len]
    have := ht.size_12 (by have := high_of hv; omega)
    omega

set_option maxRecDepth 100000 in
theorem lifted (os : Os) (started : os.Started) (H : Type) (enc : TypeId × Value → H) :
    ReturnsInHanded {} Try.checked os 6 .any (Rows.fnExactOrderPipeSpec.pre6 enc Try.prog Try.f6 Rows.fnExactOrderPipeRow.domain false) (Rows.fnExactOrderPipeSpec.post enc Try.prog Try.f6 false true false false) := by
  refine returnsInHanded_of_change (C := Try.checked) own started (by kernel_rfl) Try.func6
    (ChangeSpec.witness6 (enc := enc) (C := Try.checked) false ⟨#[], #[.agg #[.slice none 0 0]], []⟩ 8 (by kernel_rfl) (by kernel_rfl) (by kernel_rfl) (by kernel_rfl)) ?_
  intro W base args ds gs before hval0 hW _ _
  have hval : ∀ (j : Nat) t v, Try.f6.params[j]? = some t → args[j]? = some v → Value.okWide Try.prog W .any base t v := hval0
  have hW' := hW
  obtain ⟨p, q, hA0, hV, rfl, hfz, hnd⟩ := hW
  have hA : DataW.TrodAll enc Try.prog W 0 (fun _ => true) true Try.f6.params.toList args.toList ds p := hA0
  rw [Try.params6] at hA hval
  obtain ⟨v0, vs0, d0, ds0, p0, q0, hargs, rfl, rfl, h0, r0⟩ := trodAll_cons hA
  obtain ⟨rfl, rfl, rfl⟩ := trodAll_nil r0
  obtain rfl : args = #[v0] := by cases args; simp_all
  obtain ⟨rfl, rfl⟩ := trodVars_none hV
  have k0 := h0
  have lt0 : ∀ x ∈ p0, x.block < W.heap.size := by obtain ⟨m, hm⟩ := k0; exact DataW.trod_lt m _ _ _ hm
  obtain ⟨A0, len0, cap0, l0, rfl, rfl, hl0, hrd0⟩ := open_pipe Try.underlying24 (by kernel_rfl) rfl (by kernel_rfl) Try.underlying22 Try.underlying74 rfl (by kernel_rfl) (by kernel_rfl) Try.underlying3 (by kernel_rfl) (hval 0 24 v0 rfl rfl) h0
  clear hA0 hval0
  refine (walk A0 cap0 l0 W hrd0 hl0).mono fun e W' ⟨he, bel⟩ => ?_
  subst he
  exact ⟨_, rfl, _, _, _, [], _, [], hW', trodAll_mk1 (shut_bool Try.underlying4 _), (trodAll_cons_mk (Below.trod laidOut (by kernel_rfl) (of_decide_eq_true (by kernel_rfl)) k0 bel lt0) trodAll_mk0), rfl, bel.frame _, fun h => by cases h⟩

theorem fnExactOrderPipe_holds : Rows.FnExactOrderPipeSaid :=
  OpenClaim.holds_of_wide 6 Try.f6 rfl rfl rfl rfl rfl rfl rfl ⟨rfl, rfl, rfl, rfl, rfl⟩ rfl rfl rfl rfl rfl (by kernel_rfl) Try.func6 (by kernel_rfl)
    (of_decide_eq_true (by kernel_rfl)) (by unfold Func.isWrapper; rw [if_neg (of_decide_eq_false (by kernel_rfl))]; exact ⟨rfl, rfl⟩)
    (fun os started H enc _ => lifted os started H enc)

end Go.Proofs.Ytkjhncohanfciaa.LawOrd
