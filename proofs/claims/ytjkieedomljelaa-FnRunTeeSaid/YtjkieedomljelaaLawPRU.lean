/- The law FnRunTee returns true for every input, and its arguments read afterwards as before. Conditions: none. -/
import Derived.Test.YtjkieedomljelaaRows
import Derived.Test.YtjkieedomljelaaTsN
import Derived.Test.YtjkieedomljelaaOpenU
import Derived.Test.YtjkieedomljelaaOpen
import Derived.Deep.CutRange
import Derived.Deep.DeepMust
namespace Go.Proofs.Ytjkieedomljelaa.LawPRU
open Go.ChangeShapes Go.WideShapes Go.ChangeAt Go.RowKit Go.Deep

theorem own : ownKnob Try.prog.godebug = none := by kernel_rfl
theorem laidOut : laidOutB Try.prog = true := by kernel_rfl

set_option maxRecDepth 100000 in
set_option maxHeartbeats 12800000 in
theorem walk (A : Option Addr) (c : Nat) (l : List Nat) (w : World) (h : RdU w w.heap.size A l) (hl : l.length ≤ maxLen) (hc : l.length ≤ c) :
    Calls Try.prog 13 #[.slice A l.length c] w fun e w' => e = .returned (.bool true) ∧ Below w.heap.size w w' := by
  have H := Lib.hid h
  clear h
  by_cases hgate : 1048576 < l.length
  · have hgi : (1048576 : Int) < l.length := by omega
    clear hgate
    unfold maxLen at hl
    go_enter Try.func13, Try.ntmps13
    go_wp2_with fail
    go_ret
    exact ⟨rfl, Below.refl _ _⟩
  have hgi : ¬ (1048576 : Int) < l.length := by omega
  clear hgate
  go_enter Try.func13, Try.ntmps13
  go_wp2_with fail
  refine (drawRunTee_any A c l w w.heap.size H.out (Nat.le_refl _) hl hc).mono ?_
  rintro e w1 ⟨R1, c1, xs, rd, R2, c2, ts, rfl, hx12, hxc, ht20, htc, hox, hot, hb1⟩
  have Hb := Lib.hid hb1
  have Hx := Lib.hid hox
  have Ht := Lib.hid hot
  have hz1 := hb1.size
  clear hb1 hox hot hgi
  obtain ⟨q, hq⟩ : ∃ q, tkR xs rd ts = q := ⟨_, rfl⟩
  have hql : q.length ≤ 60 := by rw [← hq]; exact (tkR_len _ _ _).2
  have Hq := Lib.hid hq
  clear hq
  go_wp2_with fail
  refine (implRunTee_cap R1 c1 xs rd R2 c2 ts w1 w1.heap.size Hx.out Ht.out (Nat.le_refl _) (by omega) (by omega) q Hq).mono ?_
  rintro e w2 ⟨A_w2, c_w2, rfl, ho_w2, hb_w2, hqc⟩
  have hz_w2 := hb_w2.size
  replace Hb := Lib.hid (Hb.out.trans (hb_w2.mono Hb.out.size))
  replace Hx := Lib.hid ((Hx.out.below hb_w2 (Nat.le_refl _)).more hz_w2)
  replace Ht := Lib.hid ((Ht.out.below hb_w2 (Nat.le_refl _)).more hz_w2)
  have Hg := Lib.hid ho_w2.rd
  clear hb_w2 ho_w2
  go_wp2_with fail
  refine (specRunTee_any R1 c1 xs rd R2 c2 ts w2 w2.heap.size Hx.out Ht.out (Nat.le_refl _) (by omega) (by omega) q Hq).mono ?_
  rintro e w3 ⟨A_w3, c_w3, rfl, ho_w3, hb_w3⟩
  have hz_w3 := hb_w3.size
  replace Hb := Lib.hid (Hb.out.trans (hb_w3.mono Hb.out.size))
  replace Hx := Lib.hid ((Hx.out.below hb_w3 (Nat.le_refl _)).more hz_w3)
  replace Ht := Lib.hid ((Ht.out.below hb_w3 (Nat.le_refl _)).more hz_w3)
  replace Hg := Lib.hid ((Hg.out.below hb_w3 (Nat.le_refl _)).more hz_w3)
  have Hs := Lib.hid ho_w3.rd
  clear hb_w3 ho_w3
  go_wp2_with fail
  refine (equalInts_any A_w2 A_w3 c_w2 c_w3 q q w3 w3.heap.size Hg.out Hs.out (by omega)).mono ?_
  rintro e w4 ⟨rfl, hs4⟩
  rw [decide_eq_true rfl]
  have hb_w4 := hs4.below w3.heap.size
  have hz_w4 := hb_w4.size
  replace Hb := Lib.hid (Hb.out.trans (hb_w4.mono Hb.out.size))
  replace Hx := Lib.hid ((Hx.out.below hb_w4 (Nat.le_refl _)).more hz_w4)
  replace Ht := Lib.hid ((Ht.out.below hb_w4 (Nat.le_refl _)).more hz_w4)
  replace Hg := Lib.hid ((Hg.out.below hb_w4 (Nat.le_refl _)).more hz_w4)
  clear hb_w4 hs4 Hs
  by_cases hq1 : q.length = 0
  · have hqn : q = [] := List.eq_nil_of_length_eq_zero hq1
    subst hqn
    clear hq1
    go_wp2_with fail
    refine (specRunTee_any R1 c1 xs rd R2 c2 ts w4 w4.heap.size Hx.out Ht.out (Nat.le_refl _) (by omega) (by omega) [] Hq).mono ?_
    rintro e w6 ⟨A_w6, c_w6, rfl, ho_w6, hb_w6⟩
    have Hb6 := Lib.hid (Hb.out.trans (hb_w6.mono Hb.out.size))
    clear hb_w6 ho_w6
    go_wp2_with fail
    refine (equalInts_any A_w2 A_w6 c_w2 c_w6 [] [] w6 w6.heap.size (fun h => absurd h (by simp)) (fun h => absurd h (by simp)) (by simp)).mono ?_
    rintro e w7 ⟨rfl, hs7⟩
    rw [decide_eq_true rfl]
    have Hs7 := Lib.hid hs7
    clear hs7
    go_wp2_with fail
    go_ret
    exact ⟨rfl, Hb6.out.trans (Hs7.out.below _)⟩
  have hqn : ¬ ((q.length : Int) = 0) := by omega
  have hqb : ((q.length : Int) == 0) = false := by simpa using hqn
  have hok : turnsOk xs rd ts = true := by
    cases hv : turnsOk xs rd ts
    · exfalso
      apply hq1
      rw [← Hq.out]
      unfold tkR
      rw [if_neg (by rw [hv]; decide)]
      rfl
    · rfl
  obtain ⟨n, rfl⟩ : ∃ n : Nat, rd = n := ⟨rd.toNat, by
    have h2 := hok
    unfold turnsOk at h2
    rw [Bool.and_eq_true, Bool.and_eq_true, Bool.and_eq_true] at h2
    have := inR_iff.1 h2.1.1.2
    omega⟩
  have hn4 : n ≤ 4 := by
    have h2 := hok
    unfold turnsOk at h2
    rw [Bool.and_eq_true, Bool.and_eq_true, Bool.and_eq_true] at h2
    have := inR_iff.1 h2.1.1.2
    omega
  obtain ⟨t2, ht2⟩ : ∃ t2, t2 = ts.take (ts.length / 2) := ⟨_, rfl⟩
  have hlen2 : t2.length = ts.length / 2 := by rw [ht2, List.length_take]; omega
  have e1 : Int.tdiv (ts.length : Int) 2 = (t2.length : Int) := by rw [hlen2]; rfl
  have e2 : (ts.length : Int) / 2 = (t2.length : Int) := by omega
  have hle2 : (t2.length : Int) ≤ c2 := by omega
  have hle3 : (0 : Int) ≤ t2.length := by omega
  obtain ⟨q2, hq2⟩ : ∃ q2, tkR xs n t2 = q2 := ⟨_, rfl⟩
  have Hq2 := Lib.hid hq2
  have Hqq : Hid (q2 = q.take (ts.length / 2)) := Lib.hid (by rw [← hq2, ht2, tkR_take hok, Hq.out])
  have H2 : Hid (RdI w4 w4.heap.size R2 t2) := Lib.hid (by rw [ht2]; exact Ht.out.take_ _)
  have hql2 : q2.length ≤ 60 := by rw [← hq2]; exact (tkR_len _ _ _).2
  have hfull : ((q.length : Int) == (ts.length : Int)) = true := by
    rw [beq_iff_eq, ← Hq.out, tkR_full hok]
  have Hfull := Lib.hid hfull
  have Hlen2 := Lib.hid hlen2
  have Hok := Lib.hid hok
  have hle20 : t2.length ≤ 20 := by omega
  clear ht2 hlen2 hq2 hok hfull hq1
  go_wp2_with fail
  refine (implRunTee_any R1 c1 xs n R2 c2 t2 w4 w4.heap.size Hx.out H2.out (Nat.le_refl _) (by omega) (by omega) q2 Hq2).mono ?_
  rintro e w5 ⟨A_w5, c_w5, rfl, ho_w5, hb_w5⟩
  have hz_w5 := hb_w5.size
  replace Hb := Lib.hid (Hb.out.trans (hb_w5.mono Hb.out.size))
  replace Hx := Lib.hid ((Hx.out.below hb_w5 (Nat.le_refl _)).more hz_w5)
  replace Ht := Lib.hid ((Ht.out.below hb_w5 (Nat.le_refl _)).more hz_w5)
  replace Hg := Lib.hid ((Hg.out.below hb_w5 (Nat.le_refl _)).more hz_w5)
  have He := Lib.hid ho_w5.rd
  clear hb_w5 ho_w5 H2
  go_wp2_with fail
  go_loopw [8, 9] (fun nv iv wr => ∃ k : Nat, k ≤ n ∧ iv = .int .i64 k ∧ ∃ m : Int, nv = .int .i64 m ∧ Hid (m = mxT ts xs.length k) ∧ Hid (Below w5.heap.size w5 wr)) (fun _ iv _ => (n - intOf iv).toNat)
  case atStart => exact ⟨0, Nat.zero_le _, rfl, 0, rfl, Lib.hid rfl, Lib.hid (Below.refl _ _)⟩
  case round =>
    obtain ⟨k, hk, rfl, m, rfl, Hm, Hw⟩ := hrel
    have hzr := Hw.out.size
    by_cases hlt : k < n
    · obtain ⟨q3, hq3⟩ : ∃ q3, rbQ xs n ts k = q3 := ⟨_, rfl⟩
      have Hq3 := Lib.hid hq3
      have hl3 : (q3.length : Int) = min (cntT k ts : Int) (xs.length : Int) := by
        have : q3.length = min (cntT k ts) xs.length := by rw [← hq3, rbQ_take Hok.out (by omega) (by omega), List.length_take]
        omega
      have Hl3 := Lib.hid hl3
      clear hq3 hl3
      go_wp2_with fail
      refine (implReadBy_any R1 c1 xs n R2 c2 ts k wr w5.heap.size (Hx.out.below Hw.out (Nat.le_refl _)) (Ht.out.below Hw.out (Nat.le_refl _)) hzr (by omega) (by omega) q3 Hq3).mono ?_
      rintro e w6 ⟨A6, c6, rfl, -, hb6⟩
      have Hw6 := Lib.hid (Hw.out.trans (hb6.mono hzr))
      clear hb6
      go_wp2_with fail
      go_roundw
      case rel => exact ⟨k + 1, by omega, by go_num, _, rfl, Lib.hid (by simp only [mxT]; rw [← Hm.out, ← Hl3.out]), Hw6⟩
      case measure => simp [intOf]; omega
    · obtain rfl : k = n := by omega
      have hgt : Hid (RdI wr wr.heap.size A_w2 q) := Lib.hid ((Hg.out.below Hw.out (Nat.le_refl _)).more hzr)
      have het : Hid (RdI wr wr.heap.size A_w5 q2) := Lib.hid ((He.out.below Hw.out (Nat.le_refl _)).more hzr)
      have hxt : Hid (RdI wr wr.heap.size R1 xs) := Lib.hid ((Hx.out.below Hw.out (Nat.le_refl _)).more hzr)
      have htt : Hid (RdI wr wr.heap.size R2 ts) := Lib.hid ((Ht.out.below Hw.out (Nat.le_refl _)).more hzr)
      obtain ⟨qT, hqT⟩ : ∃ qT, tkT xs k ts = qT := ⟨_, rfl⟩
      have HqT := Lib.hid hqT
      have hfd : (qT.fd == m) = true := by rw [beq_iff_eq, ← hqT, fd_mx Hok.out, Hm.out]
      clear hqT
      go_wp2_with fail
      have het2 := het.out
      rw [Hqq.out] at het2
      rw [Hqq.out]
      refine (begins_any A_w2 A_w5 c_w2 c_w5 q (ts.length / 2) wr wr.heap.size hgt.out het2 (by omega) hqc).mono ?_
      rintro e w6 ⟨rfl, hs6⟩
      rw [← Hqq.out]
      have hb6 := hs6.below wr.heap.size
      have hz6 := hb6.size
      have Hb6 := Lib.hid (Hb.out.trans ((Hw.out.trans (hb6.mono hzr)).mono Hb.out.size))
      have Hx6 := Lib.hid (hxt.out.below hb6 (Nat.le_refl _))
      have Ht6 := Lib.hid (htt.out.below hb6 (Nat.le_refl _))
      have hfull := Hfull.out
      clear hs6 hb6 het2
      go_wp2_with fail
      refine (implTeeAfter_any R1 c1 xs k R2 c2 ts w6 wr.heap.size Hx6.out Ht6.out hz6 (by omega) (by omega) qT HqT).mono ?_
      rintro e w7 ⟨r7, rfl, -, hb7⟩
      have Hb7 := Lib.hid (Hb6.out.trans (hb7.mono Hb6.out.size))
      have hf := fd_tee
      clear hb7
      go_wp2_with fail
      go_ret
      exact ⟨rfl, Hb7.out⟩


set_option maxRecDepth 100000 in
theorem lifted (os : Os) (started : os.Started) (H : Type) (enc : TypeId × Value → H) :
    ReturnsInHanded {} Try.checked os 13 .any (Rows.fnRunTeeSpec.pre6 enc Try.prog Try.f13 Rows.fnRunTeeRow.domain false) (Rows.fnRunTeeSpec.post enc Try.prog Try.f13 false true false false) := by
  refine returnsInHanded_of_change (C := Try.checked) own started (by kernel_rfl) Try.func13
    (ChangeSpec.witness6 (enc := enc) (C := Try.checked) false ⟨#[], #[.slice none 0 0], []⟩ 8 (by kernel_rfl) (by kernel_rfl) (by kernel_rfl) (by kernel_rfl)) ?_
  intro W base args ds gs before hval0 hW _ _
  have hval : ∀ (j : Nat) t v, Try.f13.params[j]? = some t → args[j]? = some v → Value.okWide Try.prog W .any base t v := hval0
  have hW' := hW
  obtain ⟨p, q, hA0, hV, rfl, hfz, hnd⟩ := hW
  have hA : DataW.TrodAll enc Try.prog W 0 (fun _ => true) true Try.f13.params.toList args.toList ds p := hA0
  rw [Try.params13] at hA hval
  obtain ⟨v0, vs0, d0, ds0, p0, q0, hargs, rfl, rfl, h0, r0⟩ := trodAll_cons hA
  obtain ⟨rfl, rfl, rfl⟩ := trodAll_nil r0
  obtain rfl : args = #[v0] := by cases args; simp_all
  obtain ⟨rfl, rfl⟩ := trodVars_none hV
  obtain ⟨a0, len0, cap0, rfl⟩ := okWide_slice Try.underlying43 (hval 0 43 v0 rfl rfl)
  have k0 := h0
  have lt0 : ∀ x ∈ p0, x.block < W.heap.size := by obtain ⟨m, hm⟩ := k0; exact DataW.trod_lt m _ _ _ hm
  obtain ⟨l0, rfl, hl0, hcp0, hrd0⟩ := open_u8s Try.underlying43 Try.underlying5 (by kernel_rfl) h0
  clear hA0 hval0
  refine (walk a0 cap0 l0 W hrd0 hl0 hcp0).mono fun e W' ⟨he, bel⟩ => ?_
  subst he
  exact ⟨_, rfl, _, _, _, [], _, [], hW', trodAll_mk1 (shut_bool Try.underlying4 _), (trodAll_cons_mk (Below.trod laidOut (by kernel_rfl) (of_decide_eq_true (by kernel_rfl)) k0 bel lt0) trodAll_mk0), rfl, bel.frame _, fun h => by cases h⟩

theorem fnRunTee_holds : Rows.FnRunTeeSaid :=
  OpenClaim.holds_of_wide 13 Try.f13 rfl rfl rfl rfl rfl rfl rfl ⟨rfl, rfl, rfl, rfl, rfl⟩ rfl rfl rfl rfl rfl (by kernel_rfl) Try.func13 (by kernel_rfl)
    (of_decide_eq_true (by kernel_rfl)) (by unfold Func.isWrapper; rw [if_neg (of_decide_eq_false (by kernel_rfl))]; exact ⟨rfl, rfl⟩)
    (fun os started H enc _ => lifted os started H enc)

end Go.Proofs.Ytjkieedomljelaa.LawPRU
