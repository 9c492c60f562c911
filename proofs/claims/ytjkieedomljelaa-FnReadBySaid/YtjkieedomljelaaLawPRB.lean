/- The law FnReadBy returns true for every input, and its arguments read afterwards as before. Conditions: none. -/
import Derived.Test.YtjkieedomljelaaRows
import Derived.Test.YtjkieedomljelaaTsM
import Derived.Test.YtjkieedomljelaaOpenU
import Derived.Test.YtjkieedomljelaaOpen
import Derived.Deep.CutRange
import Derived.Deep.DeepMust
namespace Go.Proofs.Ytjkieedomljelaa.LawPRB
open Go.ChangeShapes Go.WideShapes Go.ChangeAt Go.RowKit Go.Deep

theorem own : ownKnob Try.prog.godebug = none := by kernel_rfl
theorem laidOut : laidOutB Try.prog = true := by kernel_rfl

set_option maxRecDepth 100000 in
set_option maxHeartbeats 12800000 in
theorem walk (A : Option Addr) (c : Nat) (l : List Nat) (w : World) (h : RdU w w.heap.size A l) (hl : l.length ≤ maxLen) (hc : l.length ≤ c) :
    Calls Try.prog 16 #[.slice A l.length c] w fun e w' => e = .returned (.bool true) ∧ Below w.heap.size w w' := by
  have H := Lib.hid h
  clear h
  by_cases hgate : 1048576 < l.length
  · have hgi : (1048576 : Int) < l.length := by omega
    clear hgate
    unfold maxLen at hl
    go_enter Try.func16, Try.ntmps16
    go_wp2_with fail
    go_ret
    exact ⟨rfl, Below.refl _ _⟩
  have hgi : ¬ (1048576 : Int) < l.length := by omega
  clear hgate
  go_enter Try.func16, Try.ntmps16
  go_wp2_with fail
  refine (drawReadBy_any A c l w w.heap.size H.out (Nat.le_refl _) hl hc).mono ?_
  rintro e w1 ⟨R1, c1, xs, rd, R2, c2, ts, cc, rfl, hx12, hxc, ht20, hox, hot, hb1⟩
  have Hb := Lib.hid hb1
  have Hx := Lib.hid hox
  have Ht := Lib.hid hot
  have hz1 := hb1.size
  clear hb1 hox hot hgi
  obtain ⟨q, hq⟩ : ∃ q, rbQ xs rd ts cc = q := ⟨_, rfl⟩
  have hql : q.length ≤ 60 := by rw [← hq]; exact rbQ_len _ _ _ _
  have Hq := Lib.hid hq
  clear hq
  go_wp2_with fail
  refine (implReadBy_any R1 c1 xs rd R2 c2 ts cc w1 w1.heap.size Hx.out Ht.out (Nat.le_refl _) (by omega) (by omega) q Hq).mono ?_
  rintro e w2 ⟨A_w2, c_w2, rfl, ho_w2, hb_w2⟩
  have hz_w2 := hb_w2.size
  replace Hb := Lib.hid (Hb.out.trans (hb_w2.mono Hb.out.size))
  replace Hx := Lib.hid ((Hx.out.below hb_w2 (Nat.le_refl _)).more hz_w2)
  replace Ht := Lib.hid ((Ht.out.below hb_w2 (Nat.le_refl _)).more hz_w2)
  have Hg := Lib.hid ho_w2.rd
  clear hb_w2 ho_w2
  go_wp2_with fail
  refine (specReadBy_any R1 c1 xs rd R2 c2 ts cc w2 w2.heap.size Hx.out Ht.out (Nat.le_refl _) (by omega) (by omega) q Hq).mono ?_
  rintro e w3 ⟨A_w3, c_w3, rfl, ho_w3, hb_w3⟩
  have hz_w3 := hb_w3.size
  replace Hb := Lib.hid (Hb.out.trans (hb_w3.mono Hb.out.size))
  replace Hx := Lib.hid ((Hx.out.below hb_w3 (Nat.le_refl _)).more hz_w3)
  replace Ht := Lib.hid ((Ht.out.below hb_w3 (Nat.le_refl _)).more hz_w3)
  replace Hg := Lib.hid ((Hg.out.below hb_w3 (Nat.le_refl _)).more hz_w3)
  have Hs := Lib.hid ho_w3.rd
  clear hb_w3 ho_w3
  go_wp2_with fail
  refine (equalInts_any A_w2 A_w3 c_w2 c_w3 q q w3 w3.heap.size Hg.out Hs.out (by omega)).mono ?_
  rintro e w4 ⟨rfl, hs4⟩
  rw [decide_eq_true rfl]
  have hb_w4 := hs4.below w3.heap.size
  have hz_w4 := hb_w4.size
  replace Hb := Lib.hid (Hb.out.trans (hb_w4.mono Hb.out.size))
  replace Hx := Lib.hid ((Hx.out.below hb_w4 (Nat.le_refl _)).more hz_w4)
  replace Ht := Lib.hid ((Ht.out.below hb_w4 (Nat.le_refl _)).more hz_w4)
  replace Hg := Lib.hid ((Hg.out.below hb_w4 (Nat.le_refl _)).more hz_w4)
  clear hb_w4 hs4 Hs
  obtain ⟨q0, hq0⟩ : ∃ q0, tkR xs rd ts = q0 := ⟨_, rfl⟩
  have Hq0 := Lib.hid hq0
  clear hq0
  go_wp2_with fail
  refine (implRunTee_any R1 c1 xs rd R2 c2 ts w4 w4.heap.size Hx.out Ht.out (Nat.le_refl _) (by omega) (by omega) q0 Hq0).mono ?_
  rintro e w5 ⟨A_w5, c_w5, rfl, ho_w5, hb_w5⟩
  have hz_w5 := hb_w5.size
  replace Hb := Lib.hid (Hb.out.trans (hb_w5.mono Hb.out.size))
  replace Hx := Lib.hid ((Hx.out.below hb_w5 (Nat.le_refl _)).more hz_w5)
  replace Ht := Lib.hid ((Ht.out.below hb_w5 (Nat.le_refl _)).more hz_w5)
  replace Hg := Lib.hid ((Hg.out.below hb_w5 (Nat.le_refl _)).more hz_w5)
  clear hb_w5 ho_w5
  by_cases hend : q0.length = 0 ∨ cc < 0 ∨ rd ≤ cc
  · rcases hend with h0 | h0 | h0
    · rw [h0]
      go_wp2_with fail
      refine (specReadBy_any R1 c1 xs rd R2 c2 ts cc w5 w5.heap.size Hx.out Ht.out (Nat.le_refl _) (by omega) (by omega) q Hq).mono ?_
      rintro e w6 ⟨A_w6, c_w6, rfl, ho_w6, hb_w6⟩
      have hz_w6 := hb_w6.size
      have Hb6 := Lib.hid (Hb.out.trans (hb_w6.mono Hb.out.size))
      have Hg6 := Lib.hid ((Hg.out.below hb_w6 (Nat.le_refl _)).more hz_w6)
      have Hs6 := Lib.hid ho_w6.rd
      clear hb_w6 ho_w6
      go_wp2_with fail
      refine (equalInts_any A_w2 A_w6 c_w2 c_w6 q q w6 w6.heap.size Hg6.out Hs6.out (by omega)).mono ?_
      rintro e w7 ⟨rfl, hs7⟩
      rw [decide_eq_true rfl]
      have Hs7 := Lib.hid hs7
      clear hs7
      go_wp2_with fail
      go_ret
      exact ⟨rfl, Hb6.out.trans (Hs7.out.below _)⟩
    · by_cases hq1 : q0.length = 0
      · rw [hq1]
        go_wp2_with fail
        refine (specReadBy_any R1 c1 xs rd R2 c2 ts cc w5 w5.heap.size Hx.out Ht.out (Nat.le_refl _) (by omega) (by omega) q Hq).mono ?_
        rintro e w6 ⟨A_w6, c_w6, rfl, ho_w6, hb_w6⟩
        have hz_w6 := hb_w6.size
        have Hb6 := Lib.hid (Hb.out.trans (hb_w6.mono Hb.out.size))
        have Hg6 := Lib.hid ((Hg.out.below hb_w6 (Nat.le_refl _)).more hz_w6)
        have Hs6 := Lib.hid ho_w6.rd
        clear hb_w6 ho_w6
        go_wp2_with fail
        refine (equalInts_any A_w2 A_w6 c_w2 c_w6 q q w6 w6.heap.size Hg6.out Hs6.out (by omega)).mono ?_
        rintro e w7 ⟨rfl, hs7⟩
        rw [decide_eq_true rfl]
        have Hs7 := Lib.hid hs7
        clear hs7
        go_wp2_with fail
        go_ret
        exact ⟨rfl, Hb6.out.trans (Hs7.out.below _)⟩
      · have hqn : ¬ ((q0.length : Int) = 0) := by omega
        go_wp2_with fail
        refine (specReadBy_any R1 c1 xs rd R2 c2 ts cc w5 w5.heap.size Hx.out Ht.out (Nat.le_refl _) (by omega) (by omega) q Hq).mono ?_
        rintro e w6 ⟨A_w6, c_w6, rfl, ho_w6, hb_w6⟩
        have hz_w6 := hb_w6.size
        have Hb6 := Lib.hid (Hb.out.trans (hb_w6.mono Hb.out.size))
        have Hg6 := Lib.hid ((Hg.out.below hb_w6 (Nat.le_refl _)).more hz_w6)
        have Hs6 := Lib.hid ho_w6.rd
        clear hb_w6 ho_w6
        go_wp2_with fail
        refine (equalInts_any A_w2 A_w6 c_w2 c_w6 q q w6 w6.heap.size Hg6.out Hs6.out (by omega)).mono ?_
        rintro e w7 ⟨rfl, hs7⟩
        rw [decide_eq_true rfl]
        have Hs7 := Lib.hid hs7
        clear hs7
        go_wp2_with fail
        go_ret
        exact ⟨rfl, Hb6.out.trans (Hs7.out.below _)⟩
    · by_cases hq1 : q0.length = 0
      · rw [hq1]
        go_wp2_with fail
        refine (specReadBy_any R1 c1 xs rd R2 c2 ts cc w5 w5.heap.size Hx.out Ht.out (Nat.le_refl _) (by omega) (by omega) q Hq).mono ?_
        rintro e w6 ⟨A_w6, c_w6, rfl, ho_w6, hb_w6⟩
        have hz_w6 := hb_w6.size
        have Hb6 := Lib.hid (Hb.out.trans (hb_w6.mono Hb.out.size))
        have Hg6 := Lib.hid ((Hg.out.below hb_w6 (Nat.le_refl _)).more hz_w6)
        have Hs6 := Lib.hid ho_w6.rd
        clear hb_w6 ho_w6
        go_wp2_with fail
        refine (equalInts_any A_w2 A_w6 c_w2 c_w6 q q w6 w6.heap.size Hg6.out Hs6.out (by omega)).mono ?_
        rintro e w7 ⟨rfl, hs7⟩
        rw [decide_eq_true rfl]
        have Hs7 := Lib.hid hs7
        clear hs7
        go_wp2_with fail
        go_ret
        exact ⟨rfl, Hb6.out.trans (Hs7.out.below _)⟩
      · have hqn : ¬ ((q0.length : Int) = 0) := by omega
        by_cases hc0 : cc < 0
        · go_wp2_with fail
          refine (specReadBy_any R1 c1 xs rd R2 c2 ts cc w5 w5.heap.size Hx.out Ht.out (Nat.le_refl _) (by omega) (by omega) q Hq).mono ?_
          rintro e w6 ⟨A_w6, c_w6, rfl, ho_w6, hb_w6⟩
          have hz_w6 := hb_w6.size
          have Hb6 := Lib.hid (Hb.out.trans (hb_w6.mono Hb.out.size))
          have Hg6 := Lib.hid ((Hg.out.below hb_w6 (Nat.le_refl _)).more hz_w6)
          have Hs6 := Lib.hid ho_w6.rd
          clear hb_w6 ho_w6
          go_wp2_with fail
          refine (equalInts_any A_w2 A_w6 c_w2 c_w6 q q w6 w6.heap.size Hg6.out Hs6.out (by omega)).mono ?_
          rintro e w7 ⟨rfl, hs7⟩
          rw [decide_eq_true rfl]
          have Hs7 := Lib.hid hs7
          clear hs7
          go_wp2_with fail
          go_ret
          exact ⟨rfl, Hb6.out.trans (Hs7.out.below _)⟩
        · go_wp2_with fail
          refine (specReadBy_any R1 c1 xs rd R2 c2 ts cc w5 w5.heap.size Hx.out Ht.out (Nat.le_refl _) (by omega) (by omega) q Hq).mono ?_
          rintro e w6 ⟨A_w6, c_w6, rfl, ho_w6, hb_w6⟩
          have hz_w6 := hb_w6.size
          have Hb6 := Lib.hid (Hb.out.trans (hb_w6.mono Hb.out.size))
          have Hg6 := Lib.hid ((Hg.out.below hb_w6 (Nat.le_refl _)).more hz_w6)
          have Hs6 := Lib.hid ho_w6.rd
          clear hb_w6 ho_w6
          go_wp2_with fail
          refine (equalInts_any A_w2 A_w6 c_w2 c_w6 q q w6 w6.heap.size Hg6.out Hs6.out (by omega)).mono ?_
          rintro e w7 ⟨rfl, hs7⟩
          rw [decide_eq_true rfl]
          have Hs7 := Lib.hid hs7
          clear hs7
          go_wp2_with fail
          go_ret
          exact ⟨rfl, Hb6.out.trans (Hs7.out.below _)⟩
  have hok : turnsOk xs rd ts = true := by
    cases hv : turnsOk xs rd ts
    · exfalso
      apply hend
      left
      rw [← Hq0.out]
      unfold tkR
      rw [if_neg (by rw [hv]; decide)]
      rfl
    · rfl
  have hc0 : 0 ≤ cc := by omega
  have hc1 : cc < rd := by omega
  have hqn : ¬ ((q0.length : Int) = 0) := by omega
  have hqb : ((q0.length : Int) == 0) = false := by simpa using hqn
  have hd1 : decide (cc < 0) = false := decide_eq_false (by omega)
  have hd2 : decide (rd ≤ cc) = false := decide_eq_false (by omega)
  have Htake : Hid (q = xs.take (cntT cc ts)) := Lib.hid (by rw [← Hq.out]; exact rbQ_take hok hc0 hc1)
  clear hok hend
  go_wp2_with fail
  go_loopw [8, 9] (fun nv iv wr => ∃ k : Nat, k ≤ ts.length ∧ iv = .int .i64 k ∧ ∃ m : Nat, nv = .int .i64 m ∧ m ≤ k ∧ Hid (m = cntT cc (ts.take k)) ∧ Hid (wr = w5)) (fun _ iv _ => (ts.length - intOf iv).toNat)
  case atStart => exact ⟨0, Nat.zero_le _, rfl, 0, rfl, Nat.le_refl _, Lib.hid rfl, Lib.hid rfl⟩
  case round =>
    obtain ⟨k, hk, rfl, m, rfl, hmk, Hm, Hw⟩ := hrel
    have hw := Hw.out
    subst hw
    clear Hw
    by_cases hlt : k < ts.length
    · obtain ⟨ad, d, hA, hd, hcd⟩ := Ht.out.at_ (k := k) hlt
      have Hd := Lib.hid (take_succ_of hd)
      rw [hA]
      have HA := Lib.hid hA
      clear hA hd
      cases hdc : (d == cc)
      · go_wp2_with fail
        go_roundw
        case rel => exact ⟨k + 1, by omega, by go_num, m, rfl, by omega, Lib.hid (by rw [Hd.out, cntT_snoc, hdc, Hm.out]; simp), Lib.hid trivial⟩
        case measure => simp [intOf]; omega
      · go_wp2_with fail
        go_roundw
        case rel => exact ⟨k + 1, by omega, by go_num, m + 1, by go_num, by omega, Lib.hid (by rw [Hd.out, cntT_snoc, hdc, Hm.out]; simp), Lib.hid trivial⟩
        case measure => simp [intOf]; omega
    · obtain rfl : k = ts.length := by omega
      have Hm2 : Hid (m = cntT cc ts) := Lib.hid (by have := Hm.out; rwa [List.take_length] at this)
      have Hqq : Hid (q.length = min m xs.length) := Lib.hid (by rw [Htake.out, List.length_take, Hm2.out])
      have hg := Hg.out
      have Heq := Htake
      go_wp2_with fail
      have hgt := Hg.out
      rw [Heq.out] at hgt
      rw [Heq.out]
      refine (begins_any R1 A_w2 c1 c_w2 xs (cntT cc ts) wr wr.heap.size Hx.out hgt (by omega) hxc).mono ?_
      rintro e w6 ⟨rfl, hs6⟩
      rw [← Heq.out]
      have Hs6 := Lib.hid hs6
      have hfin : ((q.length : Int) == min (m : Int) (xs.length : Int)) = true := by
        rw [beq_iff_eq]
        have := Hqq.out
        omega
      clear hs6 hg hgt
      go_wp2_with fail
      go_ret
      exact ⟨rfl, Hb.out.trans (Hs6.out.below _)⟩


set_option maxRecDepth 100000 in
theorem lifted (os : Os) (started : os.Started) (H : Type) (enc : TypeId × Value → H) :
    ReturnsInHanded {} Try.checked os 16 .any (Rows.fnReadBySpec.pre6 enc Try.prog Try.f16 Rows.fnReadByRow.domain false) (Rows.fnReadBySpec.post enc Try.prog Try.f16 false true false false) := by
  refine returnsInHanded_of_change (C := Try.checked) own started (by kernel_rfl) Try.func16
    (ChangeSpec.witness6 (enc := enc) (C := Try.checked) false ⟨#[], #[.slice none 0 0], []⟩ 8 (by kernel_rfl) (by kernel_rfl) (by kernel_rfl) (by kernel_rfl)) ?_
  intro W base args ds gs before hval0 hW _ _
  have hval : ∀ (j : Nat) t v, Try.f16.params[j]? = some t → args[j]? = some v → Value.okWide Try.prog W .any base t v := hval0
  have hW' := hW
  obtain ⟨p, q, hA0, hV, rfl, hfz, hnd⟩ := hW
  have hA : DataW.TrodAll enc Try.prog W 0 (fun _ => true) true Try.f16.params.toList args.toList ds p := hA0
  rw [Try.params16] at hA hval
  obtain ⟨v0, vs0, d0, ds0, p0, q0, hargs, rfl, rfl, h0, r0⟩ := trodAll_cons hA
  obtain ⟨rfl, rfl, rfl⟩ := trodAll_nil r0
  obtain rfl : args = #[v0] := by cases args; simp_all
  obtain ⟨rfl, rfl⟩ := trodVars_none hV
  obtain ⟨a0, len0, cap0, rfl⟩ := okWide_slice Try.underlying43 (hval 0 43 v0 rfl rfl)
  have k0 := h0
  have lt0 : ∀ x ∈ p0, x.block < W.heap.size := by obtain ⟨m, hm⟩ := k0; exact DataW.trod_lt m _ _ _ hm
  obtain ⟨l0, rfl, hl0, hcp0, hrd0⟩ := open_u8s Try.underlying43 Try.underlying5 (by kernel_rfl) h0
  clear hA0 hval0
  refine (walk a0 cap0 l0 W hrd0 hl0 hcp0).mono fun e W' ⟨he, bel⟩ => ?_
  subst he
  exact ⟨_, rfl, _, _, _, [], _, [], hW', trodAll_mk1 (shut_bool Try.underlying4 _), (trodAll_cons_mk (Below.trod laidOut (by kernel_rfl) (of_decide_eq_true (by kernel_rfl)) k0 bel lt0) trodAll_mk0), rfl, bel.frame _, fun h => by cases h⟩

theorem fnReadBy_holds : Rows.FnReadBySaid :=
  OpenClaim.holds_of_wide 16 Try.f16 rfl rfl rfl rfl rfl rfl rfl ⟨rfl, rfl, rfl, rfl, rfl⟩ rfl rfl rfl rfl rfl (by kernel_rfl) Try.func16 (by kernel_rfl)
    (of_decide_eq_true (by kernel_rfl)) (by unfold Func.isWrapper; rw [if_neg (of_decide_eq_false (by kernel_rfl))]; exact ⟨rfl, rfl⟩)
    (fun os started H enc _ => lifted os started H enc)

end Go.Proofs.Ytjkieedomljelaa.LawPRB
