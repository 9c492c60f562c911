/- The law FnFairTurns returns true for every code, and the code reads afterwards as before. Conditions: none. -/
import Derived.Test.YtebnpddgbmckcaaRows
import Derived.Test.YtebnpddgbmckcaaRdrB
import Derived.Test.YtebnpddgbmckcaaFair
import Derived.Test.YtebnpddgbmckcaaOpenU
import Derived.Deep.RegionHeld3
import Derived.Deep.CutRange
import Derived.Deep.DeepMust
namespace Go.Proofs.Ytebnpddgbmckcaa.LawPFT
open Go.ChangeShapes Go.WideShapes Go.ChangeAt Go.RowKit Go.Deep

theorem own : ownKnob Try.prog.godebug = none := by kernel_rfl
theorem laidOut : laidOutB Try.prog = true := by kernel_rfl

set_option maxRecDepth 100000 in
set_option maxHeartbeats 12800000 in
theorem walk (A : Option Addr) (c : Nat) (l : List Nat) (w : World) (h : RdU w w.heap.size A l) (hl : l.length ≤ maxLen) (hc : l.length ≤ c) :
    Calls Try.prog 4 #[.slice A l.length c] w fun e w' => e = .returned (.bool true) ∧ Below w.heap.size w w' := by
  have H := Lib.hid h
  clear h
  by_cases hgate : 1048576 < l.length
  · have hgi : (1048576 : Int) < l.length := by omega
    clear hgate
    unfold maxLen at hl
    go_enter Try.func4, Try.ntmps4
    go_wp2_with fail
    go_ret
    exact ⟨rfl, Below.refl _ _⟩
  have hgi : ¬ (1048576 : Int) < l.length := by omega
  clear hgate
  go_enter Try.func4, Try.ntmps4
  go_wp2_with fail
  refine (drawFair_any A c l w w.heap.size H.out (Nat.le_refl _) hl hc).mono ?_
  rintro e w1 ⟨a, b, rfl, hb1⟩
  have Hb1 := Lib.hid hb1
  have hz1 := hb1.size
  clear hb1
  obtain ⟨q, hq⟩ : ∃ q, fairQ a b = q := ⟨_, rfl⟩
  have hql : q.length ≤ 48 := by rw [← hq]; exact fairQ_len a b
  have Hq := Lib.hid hq
  clear hq
  go_wp2_with fail
  refine (implFairTurns_any a b w1 q Hq).mono ?_
  rintro e w2 ⟨A2, c2, rfl, ho2, hb2⟩
  have Hb2 := Lib.hid (Hb1.out.trans (hb2.mono hz1))
  have hz2 := hb2.size
  have Ho2 := Lib.hid (ho2.rd)
  clear hb2 ho2
  go_wp2_with fail
  refine (specFairTurns_any a b w2 q Hq).mono ?_
  rintro e w3 ⟨A3, c3, rfl, ho3, hb3⟩
  have Hb3 := Lib.hid (Hb2.out.trans (hb3.mono (by omega)))
  have hz3 := hb3.size
  have Ho2b := Lib.hid ((Ho2.out.below hb3 (Nat.le_refl _)).more hz3)
  have Ho3 := Lib.hid (ho3.rd)
  clear hb3 ho3
  go_wp2_with fail
  refine (equalInts_any A2 A3 c2 c3 q q w3 w3.heap.size Ho2b.out Ho3.out (by omega)).mono ?_
  rintro e w4 ⟨rfl, hs4⟩
  rw [decide_eq_true rfl]
  have Hs4 := Lib.hid hs4
  clear hs4
  have Hb4 := Lib.hid (Hb3.out.trans (Hs4.out.below _))
  by_cases hq0 : q.length = 0
  · have hqn : q = [] := List.eq_nil_of_length_eq_zero hq0
    subst hqn
    clear hq0
    go_wp2_with fail
    refine (specFairTurns_any a b w4 [] Hq).mono ?_
    rintro e w5 ⟨A5, c5, rfl, ho5, hb5⟩
    have Hb5 := Lib.hid (Hb4.out.trans (hb5.mono Hb4.out.size))
    clear hb5 ho5
    go_wp2_with fail
    refine (equalInts_any A2 A5 c2 c5 [] [] w5 w5.heap.size (fun h => absurd h (by simp)) (fun h => absurd h (by simp)) (by simp)).mono ?_
    rintro e w6 ⟨rfl, hs6⟩
    rw [decide_eq_true rfl]
    have Hs6 := Lib.hid hs6
    clear hs6
    go_wp2_with fail
    go_ret
    exact ⟨rfl, Hb5.out.trans (Hs6.out.below _)⟩
  obtain ⟨r, n, rfl, rfl, hr0, hr1, hn0, hn1, hqf⟩ : ∃ r n : Nat, a = r ∧ b = n ∧ 1 ≤ r ∧ r ≤ 4 ∧ 1 ≤ n ∧ n ≤ 12 ∧ q = fairL r (r * n) := by
    have hqq := Hq.out
    unfold fairQ at hqq
    split at hqq
    · rename_i hv
      rw [Bool.and_eq_true, inR_iff, inR_iff] at hv
      exact ⟨a.toNat, b.toNat, by omega, by omega, by omega, by omega, by omega, by omega, hqq.symm⟩
    · exact absurd (by rw [← hqq]; rfl) hq0
  have hqlen : q.length = r * n := by rw [hqf]; exact fairL_len r _
  obtain ⟨m, hm⟩ : ∃ m, m = q.length := ⟨_, rfl⟩
  have hm0 : 0 < m := by omega
  have hmul : (r : Int) * (n : Int) = (m : Int) := by rw [hm, hqlen]; exact (Int.natCast_mul _ _).symm
  have hm48 : m ≤ 48 := by omega
  have Hqf := Lib.hid hqf
  have Hm := Lib.hid hm
  have Ho4 := Lib.hid (Ho2b.out.same Hs4.out)
  have hrz : ¬ (r : Int) = 0 := by omega
  rw [← hm] at hql
  rw [← hm]
  clear hq0 hqf hqlen hm
  go_wp2_with fail
  go_loopw [6] (fun i wr => ∃ k : Nat, k ≤ m ∧ i = .int .i64 k ∧ Same w4 wr) (fun i _ => m - (intOf i).toNat)
  case atStart => exact ⟨0, Nat.zero_le _, rfl, Same.refl _⟩
  case round =>
    obtain ⟨k, hk, rfl, hs⟩ := hrel
    have Hs := Lib.hid hs
    clear hs
    by_cases hlt : k < m
    · obtain ⟨ad, x, rfl, hx, hcx⟩ := (Ho4.out.same Hs.out).at_ (k := k) (by rw [← Hm.out]; exact hlt)
      rw [Hqf.out] at hx
      have hxk : x = ((k % r : Nat) : Int) := by
        rw [fairL_get (by rw [← fairL_len r (r * n), ← Hqf.out, ← Hm.out]; exact hlt)] at hx
        exact (Option.some.inj hx).symm
      have e1 : Int.tmod (k : Int) (r : Int) = x := by rw [hxk]; rfl
      have e2 : (k : Int) % (r : Int) = x := by rw [hxk]; exact (Int.natCast_emod _ _).symm
      clear hx hxk
      go_wp2_with fail
      go_quiet (fail)
      all_goals go_wp2_with fail
      go_roundw
      case rel => exact ⟨k + 1, by omega, by go_num, Hs.out.drewN _⟩
      case measure => simp [intOf]; omega
    · obtain rfl : k = m := by omega
      go_wp2_with fail
      go_ret
      exact ⟨rfl, Hb4.out.trans (Hs.out.below _)⟩


set_option maxRecDepth 100000 in
theorem lifted (os : Os) (started : os.Started) (H : Type) (enc : TypeId × Value → H) :
    ReturnsInHanded {} Try.checked os 4 .any (Rows.fnFairTurnsSpec.pre6 enc Try.prog Try.f4 Rows.fnFairTurnsRow.domain false) (Rows.fnFairTurnsSpec.post enc Try.prog Try.f4 false true false false) := by
  refine returnsInHanded_of_change (C := Try.checked) own started (by kernel_rfl) Try.func4
    (ChangeSpec.witness6 (enc := enc) (C := Try.checked) false ⟨#[], #[.slice none 0 0], []⟩ 8 (by kernel_rfl) (by kernel_rfl) (by kernel_rfl) (by kernel_rfl)) ?_
  intro W base args ds gs before hval0 hW _ _
  have hval : ∀ (j : Nat) t v, Try.f4.params[j]? = some t → args[j]? = some v → Value.okWide Try.prog W .any base t v := hval0
  have hW' := hW
  obtain ⟨p, q, hA0, hV, rfl, hfz, hnd⟩ := hW
  have hA : DataW.TrodAll enc Try.prog W 0 (fun _ => true) true Try.f4.params.toList args.toList ds p := hA0
  rw [Try.params4] at hA hval
  obtain ⟨v0, vs0, d0, ds0, p0, q0, hargs, rfl, rfl, h0, r0⟩ := trodAll_cons hA
  obtain ⟨rfl, rfl, rfl⟩ := trodAll_nil r0
  obtain rfl : args = #[v0] := by cases args; simp_all
  obtain ⟨rfl, rfl⟩ := trodVars_none hV
  obtain ⟨a0, len0, cap0, rfl⟩ := okWide_slice Try.underlying22 (hval 0 22 v0 rfl rfl)
  have k0 := h0
  have lt0 : ∀ x ∈ p0, x.block < W.heap.size := by obtain ⟨m, hm⟩ := k0; exact DataW.trod_lt m _ _ _ hm
  obtain ⟨l0, rfl, hl0, hcp0, hrd0⟩ := open_u8s Try.underlying22 Try.underlying5 (by kernel_rfl) h0
  clear hA0 hval0
  refine (walk a0 cap0 l0 W hrd0 hl0 hcp0).mono fun e W' ⟨he, bel⟩ => ?_
  subst he
  exact ⟨_, rfl, _, _, _, [], _, [], hW', trodAll_mk1 (shut_bool Try.underlying4 _), (trodAll_cons_mk (Below.trod laidOut (by kernel_rfl) (of_decide_eq_true (by kernel_rfl)) k0 bel lt0) trodAll_mk0), rfl, bel.frame _, fun h => by cases h⟩

theorem fnFairTurns_holds : Rows.FnFairTurnsSaid :=
  OpenClaim.holds_of_wide 4 Try.f4 rfl rfl rfl rfl rfl rfl rfl ⟨rfl, rfl, rfl, rfl, rfl⟩ rfl rfl rfl rfl rfl (by kernel_rfl) Try.func4 (by kernel_rfl)
    (of_decide_eq_true (by kernel_rfl)) (by unfold Func.isWrapper; rw [if_neg (of_decide_eq_false (by kernel_rfl))]; exact ⟨rfl, rfl⟩)
    (fun os started H enc _ => lifted os started H enc)
end Go.Proofs.Ytebnpddgbmckcaa.LawPFT
