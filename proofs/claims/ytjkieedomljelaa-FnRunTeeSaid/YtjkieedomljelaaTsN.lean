/- XItm, XTsA, XTsB, XTsR in one text. -/
import Derived.Test.YtjkieedomljelaaRdrB
import Derived.Test.YtjkieedomljelaaIntA
import Derived.Deep.DeepMust
import Derived.Test.YtjkieedomljelaaRdT
import Derived.Test.YtjkieedomljelaaTkG
import Derived.Laws.OwnMore
namespace Go.Proofs.Ytjkieedomljelaa

section
open Go.RowKit Go.Deep

def AllIn (xs : List Int) : Prop := ∀ v ∈ xs, 0 ≤ v ∧ v < 100
theorem AllIn.snoc {xs : List Int} {x : Int} (h : AllIn xs) (hx : 0 ≤ x ∧ x < 100) : AllIn (xs ++ [x]) := fun v hv => by
  rcases List.mem_append.1 hv with hv | hv
  · exact h v hv
  · obtain rfl := List.mem_singleton.1 hv
    exact hx
theorem OwnJ.chg {w w' : World} {base rb c : Nat} {A : Option Addr} {l : List Int} (h : OwnJ w base A c l) (k : Chg rb (rb + 1) w w') (hb : rb < base) : OwnJ w' base A c l :=
  h.grown (row := some rb) ⟨k.os, k.tape, k.output, k.size, fun j hj hne => k.block j hj (by
    have : j ≠ rb := fun e => hne (by rw [e])
    omega)⟩ (by
    cases hr : rowOf A with
    | none => exact .inl rfl
    | some g =>
      right
      intro e
      have := (h.row_lt g hr).1
      have := Option.some.inj e
      omega)
theorem Chg.own {a w y : World} {lo hi : Nat} {row : Option Nat} (h : Chg lo hi a w) (hg : w.grownBy y row) (hr : ∀ g, row = some g → a.heap.size ≤ g) : Chg lo hi a y :=
  ⟨hg.os.trans h.os, hg.tape.trans h.tape, hg.output.trans h.output, Nat.le_trans h.size hg.size, fun j hj ho => (hg.block j (by have := h.size; omega) (fun e => by have := hr j e.symm; omega)).trans (h.block j hj ho)⟩
theorem RdrAt.own {w y : World} {rb c p : Nat} {A : Option Addr} {l : List Nat} {row : Option Nat} {o : Obj} (h : RdrAt w rb A l c p) (hg : (w.alloc o).grownBy y row) (hr : ∀ g, row = some g → rb < g) : RdrAt y rb A l c p := by
  have h2 := Bk.alloc h o
  exact (hg.block rb (Bk.lt h2) (fun e => by have := hr rb e.symm; omega)).trans h2

set_option maxRecDepth 100000 in
set_option maxHeartbeats 12800000 in
theorem someItems_any (rb : Nat) (A : Option Addr) (l : List Nat) (c p : Nat) (w : World) (h : RdrAt w rb A l c p) (hu : RdU w rb A l) (hl : l.length ≤ 2000) (hp : p ≤ 1048000) :
    Calls Try.prog 95 #[.pointer (some ⟨rb, 0, none⟩)] w fun e w' => ∃ (R : Option Addr) (cR : Nat) (xs : List Int) (p2 : Nat), e = .returned (.slice R xs.length cR) ∧ xs.length ≤ 12 ∧ AllIn xs ∧ OwnJ w' w.heap.size R cR xs ∧ p2 ≤ p + 40 ∧ RdrAt w' rb A l c p2 ∧ Chg rb (rb + 1) w w' := by
  have hrl := Bk.lt h
  obtain ⟨V0, hV0⟩ : ∃ W : World, W = w.alloc (.cells #[] 3) := ⟨_, rfl⟩
  have hb0 : Below w.heap.size w V0 := by rw [hV0]; exact (Below.refl _ _).alloc (Nat.le_refl _) _
  have he0 : OwnJ V0 w.heap.size (some ⟨w.heap.size, 0, none⟩) 0 [] := by rw [hV0]; exact emptyJ w
  have Hr := Lib.hid (show RdrAt V0 rb A l c p from Bk.below h hb0 hrl)
  have Hu := Lib.hid hu
  have Hc := Lib.hid (Chg.of_below (lo := rb) (hi := rb + 1) hb0)
  have Ho := Lib.hid he0
  have HV0 := Lib.hid hV0
  clear h hu hb0 he0 hV0
  go_enter Try.func95, Try.ntmps95
  go_wp2_with fail
  rw [← HV0.out]
  refine (pick_any rb A l c (p) 2 V0 Hr.out (Hu.out.chg Hc.out (Nat.le_refl _) (Nat.le_of_lt hrl)) hl (by omega) (by decide)).mono ?_
  rintro e v1 ⟨x1, rfl, hx1, hrv1, hcv1⟩
  have Hx1 := Lib.hid hx1
  have hzv1 := hcv1.size
  replace Ho := Lib.hid (OwnJ.chg Ho.out hcv1 hrl)
  replace Hc := Lib.hid (Hc.out.trans hcv1)
  replace Hr := Lib.hid hrv1
  clear hx1 hrv1 hcv1
  go_wp2_with fail
  by_cases hx0 : x1 = 0
  · subst hx0
    obtain ⟨V1, hV1⟩ : ∃ W : World, W = v1.alloc (.cells #[.int .i64 5, .int .i64 4, .int .i64 6, .int .i64 3, .int .i64 8, .int .i64 0, .int .i64 1, .int .i64 12] 3) := ⟨_, rfl⟩
    have hbV1 : Below v1.heap.size v1 V1 := by rw [hV1]; exact (Below.refl _ _).alloc (Nat.le_refl _) _
    have hgV1 : Bk V1 v1.heap.size 3 (ints [5, 4, 6, 3, 8, 0, 1, 12]) := by rw [hV1]; exact Bk.new v1 _ (ints [5, 4, 6, 3, 8, 0, 1, 12])
    have hzc := Hc.out.size
    have hzV1 := hbV1.size
    replace Hr := Lib.hid (show RdrAt V1 rb A l c (p + 1) from Bk.below Hr.out hbV1 (by omega))
    replace Hc := Lib.hid (Hc.out.trans (Chg.of_below hbV1))
    replace Ho := Lib.hid (Ho.out.below hbV1 (Nat.le_refl _))
    have HV1 := Lib.hid hV1
    clear hV1
    rw [← HV1.out]
    refine (one_any rb A l c (p + 1) v1.heap.size 8 [5, 4, 6, 3, 8, 0, 1, 12] V1 Hr.out (Hu.out.chg Hc.out (Nat.le_refl _) (Nat.le_of_lt hrl)) hl (by omega) hgV1 (by omega) (by decide) (by decide)).mono ?_
    rintro e wb ⟨y, rfl, hy, hrb, hcb⟩
    replace Ho := Lib.hid (OwnJ.chg Ho.out hcb hrl)
    replace Hc := Lib.hid (Hc.out.trans hcb)
    replace Hr := Lib.hid hrb
    obtain ⟨n, rfl, hn12⟩ : ∃ n : Nat, y = n ∧ n ≤ 12 := by
      simp at hy
      exact ⟨y.toNat, by omega, by omega⟩
    clear hy hrb hcb hgV1 hbV1 hzV1 hzc HV1 HV0
    go_wp2_with fail
    go_loopw [3, 5] (fun sl i wr => ∃ k : Nat, k ≤ 12 ∧ i = .int .i64 k ∧ ∃ (R : Option Addr) (cR : Nat) (xs : List Int) (p2 : Nat), sl = .slice R xs.length cR ∧ xs.length + k ≤ 12 ∧ p2 + 3 * k ≤ p + 40 ∧ Hid (AllIn xs) ∧ Hid (OwnJ wr w.heap.size R cR xs) ∧ Hid (RdrAt wr rb A l c p2) ∧ Hid (Chg rb (rb + 1) w wr)) (fun _ i _ => (intOf i).toNat)
    case atStart => exact ⟨n, hn12, rfl, _, _, [], p + 2, rfl, by simp; omega, by omega, Lib.hid (fun v hv => by cases hv), Ho, Hr, Hc⟩
    case round =>
      obtain ⟨k1, hk, rfl, R, cR, xs, p2, rfl, hkx, hpp, Ha, Ho, Hr, Hc⟩ := hrel
      obtain ⟨m0, hm⟩ : ∃ m, m = xs.length := ⟨_, rfl⟩
      have Hm0 := Lib.hid hm.symm
      rw [← hm] at hkx
      rw [← hm]
      clear hm
      by_cases hlt : 0 < k1
      · obtain ⟨k, rfl⟩ : ∃ k, k1 = k + 1 := ⟨k1 - 1, by omega⟩
        go_wp2_with fail
        refine (pick_any rb A l c (p2) 100 wr Hr.out (Hu.out.chg Hc.out (Nat.le_refl _) (Nat.le_of_lt hrl)) hl (by omega) (by decide)).mono ?_
        rintro e v2 ⟨x2, rfl, hx2, hrv2, hcv2⟩
        have Hx2 := Lib.hid hx2
        have hzv2 := hcv2.size
        replace Ho := Lib.hid (OwnJ.chg Ho.out hcv2 hrl)
        replace Hc := Lib.hid (Hc.out.trans hcv2)
        replace Hr := Lib.hid hrv2
        clear hx2 hrv2 hcv2
        go_wp2_with fail
        refine (pick_any rb A l c (p2 + 1) 8 v2 Hr.out (Hu.out.chg Hc.out (Nat.le_refl _) (Nat.le_of_lt hrl)) hl (by omega) (by decide)).mono ?_
        rintro e v3 ⟨x3, rfl, hx3, hrv3, hcv3⟩
        have Hx3 := Lib.hid hx3
        have hzv3 := hcv3.size
        replace Ho := Lib.hid (OwnJ.chg Ho.out hcv3 hrl)
        replace Hc := Lib.hid (Hc.out.trans hcv3)
        replace Hr := Lib.hid hrv3
        clear hx3 hrv3 hcv3
        by_cases hm0 : 0 < m0
        · go_wp2_with fail
          refine (pick_any rb A l c (p2 + 2) 5 v3 Hr.out (Hu.out.chg Hc.out (Nat.le_refl _) (Nat.le_of_lt hrl)) hl (by omega) (by decide)).mono ?_
          rintro e v4 ⟨x4, rfl, hx4, hrv4, hcv4⟩
          have Hx4 := Lib.hid hx4
          have hzv4 := hcv4.size
          replace Ho := Lib.hid (OwnJ.chg Ho.out hcv4 hrl)
          replace Hc := Lib.hid (Hc.out.trans hcv4)
          replace Hr := Lib.hid hrv4
          clear hx4 hrv4 hcv4
          by_cases hy : x4 = 0
          · obtain ⟨ad, z, rfl, hz, hcz⟩ := (Ho.out.ownI.rd.at_ (k := m0 - 1) (by rw [Hm0.out]; omega))
            have Hz := Lib.hid hz
            have hms : ((m0 : Int) - 1) = ((m0 - 1 : Nat) : Int) := by omega
            clear hz
            subst hy
            have Hin := Lib.hid (AllIn.snoc (x := z) Ha.out (Ha.out _ (List.mem_of_getElem? Hz.out)))
            go_wp2_with (at_builtin; go_must (refine wpList_append_int rfl _ _ rfl w.heap.size (some ad) cR xs z m0 Hm0.out rfl Ho.out _ rfl rfl (by omega) (by have := Hc.out.size; omega) ?_; intro R2 c2' w2 ho2 hg2); have hcc := Lib.hid (Chg.own (Chg.own Hc.out (World.grownBy_alloc v4 (.cells #[.int .i64 z] 3) none) (fun g hg => by cases hg)) hg2 (fun g hg => (Ho.out.row_lt g hg).1)); have hrr := Lib.hid (RdrAt.own Hr.out hg2 (fun g hg => by have := (Ho.out.row_lt g hg).1; omega)); have Ho2 := Lib.hid ho2; clear ho2 hg2)
            go_roundw
            case rel => exact ⟨k, by omega, by go_num, R2, c2', xs ++ [z], p2 + 2 + 1, by simp [Hm0.out], by simp [Hm0.out]; omega, by omega, Hin, Ho2, hrr, hcc⟩
            case measure => first | (simp [intOf]; done) | (simp [intOf]; omega)
          · have Hin := Lib.hid (AllIn.snoc (x := x3) Ha.out (by have := Hx3.out; unfold InP at this; omega))
            go_wp2_with (at_builtin; go_must (refine wpList_append_int rfl _ _ rfl w.heap.size R cR xs x3 m0 Hm0.out rfl Ho.out _ rfl rfl (by omega) (by have := Hc.out.size; omega) ?_; intro R2 c2' w2 ho2 hg2); have hcc := Lib.hid (Chg.own (Chg.own Hc.out (World.grownBy_alloc v4 (.cells #[.int .i64 x3] 3) none) (fun g hg => by cases hg)) hg2 (fun g hg => (Ho.out.row_lt g hg).1)); have hrr := Lib.hid (RdrAt.own Hr.out hg2 (fun g hg => by have := (Ho.out.row_lt g hg).1; omega)); have Ho2 := Lib.hid ho2; clear ho2 hg2)
            go_roundw
            case rel => exact ⟨k, by omega, by go_num, R2, c2', xs ++ [x3], p2 + 2 + 1, by simp [Hm0.out], by simp [Hm0.out]; omega, by omega, Hin, Ho2, hrr, hcc⟩
            case measure => first | (simp [intOf]; done) | (simp [intOf]; omega)
        · have Hin := Lib.hid (AllIn.snoc (x := x3) Ha.out (by have := Hx3.out; unfold InP at this; omega))
          go_wp2_with (at_builtin; go_must (refine wpList_append_int rfl _ _ rfl w.heap.size R cR xs x3 m0 Hm0.out rfl Ho.out _ rfl rfl (by omega) (by have := Hc.out.size; omega) ?_; intro R2 c2' w2 ho2 hg2); have hcc := Lib.hid (Chg.own (Chg.own Hc.out (World.grownBy_alloc v3 (.cells #[.int .i64 x3] 3) none) (fun g hg => by cases hg)) hg2 (fun g hg => (Ho.out.row_lt g hg).1)); have hrr := Lib.hid (RdrAt.own Hr.out hg2 (fun g hg => by have := (Ho.out.row_lt g hg).1; omega)); have Ho2 := Lib.hid ho2; clear ho2 hg2)
          go_roundw
          case rel => exact ⟨k, by omega, by go_num, R2, c2', xs ++ [x3], p2 + 2, by simp [Hm0.out], by simp [Hm0.out]; omega, by omega, Hin, Ho2, hrr, hcc⟩
          case measure => first | (simp [intOf]; done) | (simp [intOf]; omega)
      · go_wp2_with fail
        go_ret
        exact ⟨R, cR, xs, p2, by rw [Hm0.out]; rfl, by rw [Hm0.out]; omega, Ha.out, Ho.out, by omega, Hr.out, Hc.out⟩
  · skip
    obtain ⟨V1, hV1⟩ : ∃ W : World, W = v1.alloc (.cells #[.int .i64 5, .int .i64 4, .int .i64 6, .int .i64 3, .int .i64 8, .int .i64 0, .int .i64 1, .int .i64 12] 3) := ⟨_, rfl⟩
    have hbV1 : Below v1.heap.size v1 V1 := by rw [hV1]; exact (Below.refl _ _).alloc (Nat.le_refl _) _
    have hgV1 : Bk V1 v1.heap.size 3 (ints [5, 4, 6, 3, 8, 0, 1, 12]) := by rw [hV1]; exact Bk.new v1 _ (ints [5, 4, 6, 3, 8, 0, 1, 12])
    have hzc := Hc.out.size
    have hzV1 := hbV1.size
    replace Hr := Lib.hid (show RdrAt V1 rb A l c (p + 1) from Bk.below Hr.out hbV1 (by omega))
    replace Hc := Lib.hid (Hc.out.trans (Chg.of_below hbV1))
    replace Ho := Lib.hid (Ho.out.below hbV1 (Nat.le_refl _))
    have HV1 := Lib.hid hV1
    clear hV1
    rw [← HV1.out]
    refine (one_any rb A l c (p + 1) v1.heap.size 8 [5, 4, 6, 3, 8, 0, 1, 12] V1 Hr.out (Hu.out.chg Hc.out (Nat.le_refl _) (Nat.le_of_lt hrl)) hl (by omega) hgV1 (by omega) (by decide) (by decide)).mono ?_
    rintro e wb ⟨y, rfl, hy, hrb, hcb⟩
    replace Ho := Lib.hid (OwnJ.chg Ho.out hcb hrl)
    replace Hc := Lib.hid (Hc.out.trans hcb)
    replace Hr := Lib.hid hrb
    obtain ⟨n, rfl, hn12⟩ : ∃ n : Nat, y = n ∧ n ≤ 12 := by
      simp at hy
      exact ⟨y.toNat, by omega, by omega⟩
    clear hy hrb hcb hgV1 hbV1 hzV1 hzc HV1 HV0
    go_wp2_with fail
    rw [show (x1 == 0) = false by simpa using hx0]
    go_loopw [3, 5] (fun sl i wr => ∃ k : Nat, k ≤ 12 ∧ i = .int .i64 k ∧ ∃ (R : Option Addr) (cR : Nat) (xs : List Int) (p2 : Nat), sl = .slice R xs.length cR ∧ xs.length + k ≤ 12 ∧ p2 + 3 * k ≤ p + 40 ∧ Hid (AllIn xs) ∧ Hid (OwnJ wr w.heap.size R cR xs) ∧ Hid (RdrAt wr rb A l c p2) ∧ Hid (Chg rb (rb + 1) w wr)) (fun _ i _ => (intOf i).toNat)
    case atStart => exact ⟨n, hn12, rfl, _, _, [], p + 2, rfl, by simp; omega, by omega, Lib.hid (fun v hv => by cases hv), Ho, Hr, Hc⟩
    case round =>
      obtain ⟨k1, hk, rfl, R, cR, xs, p2, rfl, hkx, hpp, Ha, Ho, Hr, Hc⟩ := hrel
      obtain ⟨m0, hm⟩ : ∃ m, m = xs.length := ⟨_, rfl⟩
      have Hm0 := Lib.hid hm.symm
      rw [← hm] at hkx
      rw [← hm]
      clear hm
      by_cases hlt : 0 < k1
      · obtain ⟨k, rfl⟩ : ∃ k, k1 = k + 1 := ⟨k1 - 1, by omega⟩
        go_wp2_with fail
        refine (pick_any rb A l c (p2) 100 wr Hr.out (Hu.out.chg Hc.out (Nat.le_refl _) (Nat.le_of_lt hrl)) hl (by omega) (by decide)).mono ?_
        rintro e v5 ⟨x5, rfl, hx5, hrv5, hcv5⟩
        have Hx5 := Lib.hid hx5
        have hzv5 := hcv5.size
        replace Ho := Lib.hid (OwnJ.chg Ho.out hcv5 hrl)
        replace Hc := Lib.hid (Hc.out.trans hcv5)
        replace Hr := Lib.hid hrv5
        clear hx5 hrv5 hcv5
        by_cases hm0 : 0 < m0
        · go_wp2_with fail
          refine (pick_any rb A l c (p2 + 1) 5 v5 Hr.out (Hu.out.chg Hc.out (Nat.le_refl _) (Nat.le_of_lt hrl)) hl (by omega) (by decide)).mono ?_
          rintro e v6 ⟨x6, rfl, hx6, hrv6, hcv6⟩
          have Hx6 := Lib.hid hx6
          have hzv6 := hcv6.size
          replace Ho := Lib.hid (OwnJ.chg Ho.out hcv6 hrl)
          replace Hc := Lib.hid (Hc.out.trans hcv6)
          replace Hr := Lib.hid hrv6
          clear hx6 hrv6 hcv6
          by_cases hy : x6 = 0
          · obtain ⟨ad, z, rfl, hz, hcz⟩ := (Ho.out.ownI.rd.at_ (k := m0 - 1) (by rw [Hm0.out]; omega))
            have Hz := Lib.hid hz
            have hms : ((m0 : Int) - 1) = ((m0 - 1 : Nat) : Int) := by omega
            clear hz
            subst hy
            have Hin := Lib.hid (AllIn.snoc (x := z) Ha.out (Ha.out _ (List.mem_of_getElem? Hz.out)))
            go_wp2_with (at_builtin; go_must (refine wpList_append_int rfl _ _ rfl w.heap.size (some ad) cR xs z m0 Hm0.out rfl Ho.out _ rfl rfl (by omega) (by have := Hc.out.size; omega) ?_; intro R2 c2' w2 ho2 hg2); have hcc := Lib.hid (Chg.own (Chg.own Hc.out (World.grownBy_alloc v6 (.cells #[.int .i64 z] 3) none) (fun g hg => by cases hg)) hg2 (fun g hg => (Ho.out.row_lt g hg).1)); have hrr := Lib.hid (RdrAt.own Hr.out hg2 (fun g hg => by have := (Ho.out.row_lt g hg).1; omega)); have Ho2 := Lib.hid ho2; clear ho2 hg2)
            go_roundw
            case rel => exact ⟨k, by omega, by go_num, R2, c2', xs ++ [z], p2 + 1 + 1, by simp [Hm0.out], by simp [Hm0.out]; omega, by omega, Hin, Ho2, hrr, hcc⟩
            case measure => first | (simp [intOf]; done) | (simp [intOf]; omega)
          · have Hin := Lib.hid (AllIn.snoc (x := x5) Ha.out (by have := Hx5.out; unfold InP at this; omega))
            go_wp2_with (at_builtin; go_must (refine wpList_append_int rfl _ _ rfl w.heap.size R cR xs x5 m0 Hm0.out rfl Ho.out _ rfl rfl (by omega) (by have := Hc.out.size; omega) ?_; intro R2 c2' w2 ho2 hg2); have hcc := Lib.hid (Chg.own (Chg.own Hc.out (World.grownBy_alloc v6 (.cells #[.int .i64 x5] 3) none) (fun g hg => by cases hg)) hg2 (fun g hg => (Ho.out.row_lt g hg).1)); have hrr := Lib.hid (RdrAt.own Hr.out hg2 (fun g hg => by have := (Ho.out.row_lt g hg).1; omega)); have Ho2 := Lib.hid ho2; clear ho2 hg2)
            go_roundw
            case rel => exact ⟨k, by omega, by go_num, R2, c2', xs ++ [x5], p2 + 1 + 1, by simp [Hm0.out], by simp [Hm0.out]; omega, by omega, Hin, Ho2, hrr, hcc⟩
            case measure => first | (simp [intOf]; done) | (simp [intOf]; omega)
        · have Hin := Lib.hid (AllIn.snoc (x := x5) Ha.out (by have := Hx5.out; unfold InP at this; omega))
          go_wp2_with (at_builtin; go_must (refine wpList_append_int rfl _ _ rfl w.heap.size R cR xs x5 m0 Hm0.out rfl Ho.out _ rfl rfl (by omega) (by have := Hc.out.size; omega) ?_; intro R2 c2' w2 ho2 hg2); have hcc := Lib.hid (Chg.own (Chg.own Hc.out (World.grownBy_alloc v5 (.cells #[.int .i64 x5] 3) none) (fun g hg => by cases hg)) hg2 (fun g hg => (Ho.out.row_lt g hg).1)); have hrr := Lib.hid (RdrAt.own Hr.out hg2 (fun g hg => by have := (Ho.out.row_lt g hg).1; omega)); have Ho2 := Lib.hid ho2; clear ho2 hg2)
          go_roundw
          case rel => exact ⟨k, by omega, by go_num, R2, c2', xs ++ [x5], p2 + 1, by simp [Hm0.out], by simp [Hm0.out]; omega, by omega, Hin, Ho2, hrr, hcc⟩
          case measure => first | (simp [intOf]; done) | (simp [intOf]; omega)
      · go_wp2_with fail
        go_ret
        exact ⟨R, cR, xs, p2, by rw [Hm0.out]; rfl, by rw [Hm0.out]; omega, Ha.out, Ho.out, by omega, Hr.out, Hc.out⟩


end

section
open Go.RowKit Go.Conc Go.Deep

theorem OwnJ.put0 {w : World} {base g c : Nat} {l : List Int} (h : OwnJ w base (some ⟨g, 0, none⟩) c l) (u : Int) : OwnJ (w.setCell ⟨g, 0, none⟩ (.int .i64 u)) base (some ⟨g, 0, none⟩) c (l.set 0 u) := by
  have := (World.ownsRow.stored h 0 (.int .i64 u)).1
  rw [show (ints l).set 0 (.int .i64 u) = ints (l.set 0 u) from by simp [ints, List.map_set]] at this
  unfold OwnJ
  rw [List.length_set]
  exact this
theorem OwnJ.cap {w : World} {base c : Nat} {A : Option Addr} {l : List Int} (h : OwnJ w base A c l) : l.length ≤ c := by
  rcases Nat.eq_zero_or_pos l.length with h0 | h0
  · omega
  · obtain ⟨_, _, _, _, _, hlc, _⟩ := h.bk h0
    exact hlc
theorem Chg.put {w x : World} {lo hi g : Nat} (h : Chg lo hi w x) (hg : w.heap.size ≤ g) (i : Nat) (u : Value) : Chg lo hi w (x.setCell ⟨g, i, none⟩ u) := h.setNew hg i u

set_option maxRecDepth 100000 in
set_option maxHeartbeats 6400000 in
theorem anyItems_any (rb : Nat) (A : Option Addr) (l : List Nat) (c p : Nat) (w : World) (h : RdrAt w rb A l c p) (hu : RdU w rb A l) (hl : l.length ≤ 2000) (hp : p ≤ 1047000) :
    Calls Try.prog 92 #[.pointer (some ⟨rb, 0, none⟩)] w fun e w' => ∃ (R : Option Addr) (cR : Nat) (xs : List Int) (q : Nat), e = .returned (.slice R xs.length cR) ∧ xs.length ≤ 12 ∧ xs.length ≤ cR ∧ OwnI w' w.heap.size w'.heap.size R xs ∧ q ≤ p + 42 ∧ RdrAt w' rb A l c q ∧ Chg rb (rb + 1) w w' := by
  have hrl := Bk.lt h
  have Hr := Lib.hid h
  have Hu := Lib.hid hu
  have Hc := Lib.hid (Chg.refl rb (rb + 1) w)
  clear h hu
  go_enter Try.func92, Try.ntmps92
  go_wp2_with fail
  refine (someItems_any rb A l c p w Hr.out Hu.out hl (by omega)).mono ?_
  rintro e w1 ⟨R, cR, xs, p2, rfl, hlen, -, ho, hp2, hr1, hc1⟩
  have hz1 := hc1.size
  replace Hr := Lib.hid hr1
  replace Hc := Lib.hid hc1
  have Ho := Lib.hid ho
  clear hr1 hc1 ho
  by_cases hm0 : 0 < xs.length
  rotate_left
  · go_wp2_with fail
    go_ret
    first | exact ⟨R, cR, xs, p2, rfl, hlen, Ho.out.cap, Ho.out.ownI, by omega, Hr.out, Hc.out⟩ | exact ⟨R, ⟨cR, ⟨xs, ⟨p2, rfl, hlen, Ho.out.cap, Ho.out.ownI, by omega, Hr.out, Hc.out⟩⟩⟩⟩
  obtain ⟨g, rfl, hg0, hg1⟩ := Ho.out.form hm0
  go_wp2_with fail
  have hcw : Chg rb (rb + 1) w w1 := Hc.out
  have hzw : w.heap.size ≤ w1.heap.size := hcw.size
  refine (pick_any rb A l c (p2) 20 w1 Hr.out (Hu.out.chg hcw (Nat.le_refl _) (Nat.le_of_lt hrl)) hl (by omega) (by omega)).mono ?_
  rintro e w2 ⟨y, rfl, hy, hrw2, hccw2⟩
  have hzw2 := hccw2.size
  replace Hc := Lib.hid (Hc.out.trans hccw2)
  replace Hr := Lib.hid hrw2
  replace Ho := Lib.hid (OwnJ.chg Ho.out hccw2 hrl)
  clear hrw2 hcw
  clear hy
  by_cases hy0 : y = 0
  rotate_left
  · have hyb : (y == (0 : Int)) = false := by simpa using hy0
    go_wp2_with fail
    go_ret
    first | exact ⟨_, cR, xs, p2 + 1, rfl, hlen, Ho.out.cap, Ho.out.ownI, by omega, Hr.out, Hc.out⟩ | exact ⟨_, ⟨cR, ⟨xs, ⟨p2 + 1, rfl, hlen, Ho.out.cap, Ho.out.ownI, by omega, Hr.out, Hc.out⟩⟩⟩⟩
  subst hy0
  go_wp2_with fail
  obtain ⟨V2, hV2⟩ : ∃ W : World, W = w2.alloc (.cells #[.int .i64 (-1), .int .i64 100] 3) := ⟨_, rfl⟩
  have hbV2 : Below w2.heap.size w2 V2 := by rw [hV2]; exact (Below.refl _ _).alloc (Nat.le_refl _) _
  have hgV2 : Bk V2 w2.heap.size 3 (ints [-1, 100]) := by rw [hV2]; exact Bk.new w2 _ (ints [-1, 100])
  rw [← hV2]
  have hcw : Chg rb (rb + 1) w w2 := Hc.out
  have hzw : w.heap.size ≤ w2.heap.size := hcw.size
  refine (one_any rb A l c (p2 + 1) w2.heap.size 2 [-1, 100] V2 (Bk.below Hr.out hbV2 (by omega)) ((Hu.out.chg hcw (Nat.le_refl _) (Nat.le_of_lt hrl)).below hbV2 (by omega)) hl (by omega) hgV2 (by omega) (by simp) (by simp)).mono ?_
  rintro e w4 ⟨u2, rfl, hu2, hrw4, hcw4⟩
  have hccw4 : Chg rb (rb + 1) w2 w4 := (Chg.of_below hbV2).trans hcw4
  have hzw4 := hccw4.size
  replace Hc := Lib.hid (Hc.out.trans hccw4)
  replace Hr := Lib.hid hrw4
  replace Ho := Lib.hid (OwnJ.chg Ho.out hccw4 hrl)
  clear hV2 hbV2 hgV2 hrw4 hcw4 hcw
  clear hu2
  obtain ⟨g2, cs, hA, -, hbk, hlc, hcs⟩ := Ho.out.bk hm0
  have hge : g2 = g := by
    have := Option.some.inj hA
    simp at this
    exact this.symm
  subst hge
  obtain ⟨v0, hv0⟩ := get_of_lt xs (k := 0) hm0
  have k0 := (hbk.cell 0).trans (hcs 0 v0 hv0)
  have k1 := hbk.free 0
  have hgr : rb ≠ g2 := by omega
  clear hA hbk hlc hcs hv0
  go_wp2_with fail
  go_ret
  have hsz : (w4.setCell ⟨g2, 0, none⟩ (.int .i64 u2)).heap.size = w4.heap.size := by simp [World.setCell]
  first | exact ⟨_, cR, xs.set 0 u2, p2 + 1 + 1, ret_slice (List.length_set).symm, by rw [List.length_set]; exact hlen, (Ho.out.put0 u2).cap, (Ho.out.put0 u2).ownI, by omega, Bk.far (p := ⟨g2, 0, none⟩) Hr.out hgr _, Hc.out.put hg0 _ _⟩ | exact ⟨_, ⟨cR, ⟨xs.set 0 u2, ⟨p2 + 1 + 1, ret_slice (List.length_set).symm, by rw [List.length_set]; exact hlen, (Ho.out.put0 u2).cap, (Ho.out.put0 u2).ownI, by omega, Bk.far (p := ⟨g2, 0, none⟩) Hr.out hgr _, Hc.out.put hg0 _ _⟩⟩⟩⟩

theorem OwnE.capE {w : World} {base c : Nat} {A : Option Addr} {l : List Int} (h : OwnE w base A c l) : l.length ≤ c := by
  rcases h with h | ⟨rfl, rfl, -⟩
  · exact h.cap
  · exact Nat.le_refl _
theorem OwnE.chgE {w w' : World} {base rb c : Nat} {A : Option Addr} {l : List Int} (h : OwnE w base A c l) (k : Chg rb (rb + 1) w w') (hb : rb < base) : OwnE w' base A c l := by
  rcases h with h | h
  · exact .inl (OwnJ.chg h k hb)
  · exact .inr h

set_option maxRecDepth 100000 in
set_option maxHeartbeats 12800000 in
theorem turnsOf_any (rb : Nat) (A : Option Addr) (l : List Nat) (c p : Nat) (w : World) (h : RdrAt w rb A l c p) (hu : RdU w rb A l) (hl : l.length ≤ 2000) (hp : p ≤ 1046000) :
    Calls Try.prog 80 #[.pointer (some ⟨rb, 0, none⟩)] w fun e w' => ∃ (R1 : Option Addr) (c1 : Nat) (xs : List Int) (rd : Int) (R2 : Option Addr) (c2 : Nat) (ts : List Int) (q : Nat), e = .returned (.tuple #[.slice R1 xs.length c1, .int .i64 rd, .slice R2 ts.length c2]) ∧ xs.length ≤ 12 ∧ xs.length ≤ c1 ∧ ts.length ≤ 20 ∧ ts.length ≤ c2 ∧ OwnI w' w.heap.size w'.heap.size R1 xs ∧ OwnI w' w.heap.size w'.heap.size R2 ts ∧ q ≤ p + 120 ∧ RdrAt w' rb A l c q ∧ Chg rb (rb + 1) w w' := by
  have hrl := Bk.lt h
  have Hr := Lib.hid h
  have Hu := Lib.hid hu
  clear h hu
  go_enter Try.func80, Try.ntmps80
  go_wp2_with fail
  refine (anyItems_any rb A l c p w Hr.out Hu.out hl (by omega)).mono ?_
  rintro e w1 ⟨R1, c1, xs, p2, rfl, hlen, hcap, hi, hp2, hr1, hc1⟩
  have hz1 := hc1.size
  replace Hr := Lib.hid hr1
  have Hc := Lib.hid hc1
  have Hi := Lib.hid hi
  clear hr1 hc1 hi
  go_wp2_with fail
  obtain ⟨V1, hV1⟩ : ∃ W : World, W = w1.alloc (.cells #[.int .i64 2, .int .i64 3, .int .i64 1, .int .i64 4, .int .i64 2, .int .i64 0, .int .i64 5] 3) := ⟨_, rfl⟩
  have hbV1 : Below w1.heap.size w1 V1 := by rw [hV1]; exact (Below.refl _ _).alloc (Nat.le_refl _) _
  have hgV1 : Bk V1 w1.heap.size 3 (ints [2, 3, 1, 4, 2, 0, 5]) := by rw [hV1]; exact Bk.new w1 _ (ints [2, 3, 1, 4, 2, 0, 5])
  rw [← hV1]
  have hcw : Chg rb (rb + 1) w w1 := Hc.out
  have hzw : w.heap.size ≤ w1.heap.size := hcw.size
  refine (one_any rb A l c (p2) w1.heap.size 7 [2, 3, 1, 4, 2, 0, 5] V1 (Bk.below Hr.out hbV1 (by omega)) ((Hu.out.chg hcw (Nat.le_refl _) (Nat.le_of_lt hrl)).below hbV1 (by omega)) hl (by omega) hgV1 (by omega) (by simp) (by simp)).mono ?_
  rintro e w2 ⟨rd, rfl, hrd, hrw2, hcw2⟩
  have hccw2 : Chg rb (rb + 1) w1 w2 := (Chg.of_below hbV1).trans hcw2
  have hzw2 := hccw2.size
  replace Hc := Lib.hid (Hc.out.trans hccw2)
  replace Hr := Lib.hid hrw2
  replace Hi := Lib.hid (Hi.out.agree fun b h1 h2 => hccw2.block b (by omega) (.inr (by omega)))
  clear hV1 hbV1 hgV1 hrw2 hcw2 hcw
  have hrd5 : 0 ≤ rd ∧ rd ≤ 5 := by simp at hrd; omega
  clear hrd
  go_wp2_with fail
  obtain ⟨E, hE⟩ : ∃ E : World, E = w2.alloc (.cells #[] 3) := ⟨_, rfl⟩
  have hbE : Below w2.heap.size w2 E := by rw [hE]; exact (Below.refl _ _).alloc (Nat.le_refl _) _
  have hzE : E.heap.size = w2.heap.size + 1 := by rw [hE]; simp
  rw [← hE]
  replace Hr := Lib.hid (Bk.below Hr.out hbE (by omega))
  replace Hc := Lib.hid (Hc.out.trans (Chg.of_below hbE))
  replace Hi := Lib.hid (Hi.out.agree fun b _ h2 => hbE.block b (by omega))
  clear hE hbE
  rw [← hzE]
  obtain ⟨V2, hV2⟩ : ∃ W : World, W = E.alloc (.cells #[.int .i64 8, .int .i64 12, .int .i64 5, .int .i64 20, .int .i64 0] 3) := ⟨_, rfl⟩
  have hbV2 : Below E.heap.size E V2 := by rw [hV2]; exact (Below.refl _ _).alloc (Nat.le_refl _) _
  have hgV2 : Bk V2 E.heap.size 3 (ints [8, 12, 5, 20, 0]) := by rw [hV2]; exact Bk.new E _ (ints [8, 12, 5, 20, 0])
  rw [← hV2]
  have hcw : Chg rb (rb + 1) w E := Hc.out
  have hzw : w.heap.size ≤ E.heap.size := hcw.size
  refine (one_any rb A l c (p2 + 1) E.heap.size 5 [8, 12, 5, 20, 0] V2 (Bk.below Hr.out hbV2 (by omega)) ((Hu.out.chg hcw (Nat.le_refl _) (Nat.le_of_lt hrl)).below hbV2 (by omega)) hl (by omega) hgV2 (by omega) (by simp) (by simp)).mono ?_
  rintro e w3 ⟨n0, rfl, hn0, hrw3, hcw3⟩
  have hccw3 : Chg rb (rb + 1) E w3 := (Chg.of_below hbV2).trans hcw3
  have hzw3 := hccw3.size
  replace Hc := Lib.hid (Hc.out.trans hccw3)
  replace Hr := Lib.hid hrw3
  replace Hi := Lib.hid (Hi.out.agree fun b h1 h2 => hccw3.block b (by omega) (.inr (by omega)))
  clear hV2 hbV2 hgV2 hrw3 hcw3 hcw
  have hn20 : 0 ≤ n0 ∧ n0 ≤ 20 := by simp at hn0; omega
  clear hn0
  obtain ⟨b0, hb0⟩ : ∃ b0, b0 = w3.heap.size := ⟨_, rfl⟩
  have hbb : w1.heap.size ≤ b0 := by omega
  have hb03 : b0 ≤ w3.heap.size := by omega
  have hE0 : ∀ g, Hid (OwnE w3 b0 (some ⟨g, 0, none⟩) 0 []) := fun g => Lib.hid (.inr ⟨rfl, rfl, g, rfl⟩)
  have hz13 : w1.heap.size ≤ w3.heap.size := by omega
  clear hb0
  go_wp2_with fail
  go_loopw [7, 8] (fun sl iv wr => ∃ m : Nat, m ≤ 20 ∧ iv = .int .i64 m ∧ ∃ (R : Option Addr) (cR : Nat) (o : List Int) (q : Nat), sl = .slice R o.length cR ∧ m + o.length ≤ 20 ∧ q + 3 * m ≤ p + 110 ∧ Hid (OwnE wr b0 R cR o) ∧ Hid (RdrAt wr rb A l c q) ∧ Hid (Chg rb (rb + 1) w wr) ∧ Hid (OwnI wr w.heap.size w1.heap.size R1 xs) ∧ b0 ≤ wr.heap.size) (fun _ iv _ => (intOf iv).toNat)
  case atStart => exact ⟨n0.toNat, by omega, by rw [Int.toNat_of_nonneg hn20.1], _, _, [], p2 + 1 + 1, rfl, by simp; omega, by omega, hE0 _, Hr, Hc, Hi, hb03⟩
  case round =>
    obtain ⟨m1, hm, rfl, R, cR, o, q, rfl, hmo, hq, Hown, Hr, Hc, Hi, hzw⟩ := hrel
    by_cases hgo : 0 < m1 ∧ 0 < rd
    · obtain ⟨hm0, hrd0⟩ := hgo
      obtain ⟨m, rfl⟩ : ∃ m, m1 = m + 1 := ⟨m1 - 1, by omega⟩
      go_wp2_with fail
      have hcw : Chg rb (rb + 1) w wr := Hc.out
      have hzw : w.heap.size ≤ wr.heap.size := hcw.size
      refine (pick_any rb A l c (q) rd wr Hr.out (Hu.out.chg hcw (Nat.le_refl _) (Nat.le_of_lt hrl)) hl (by omega) (by omega)).mono ?_
      rintro e v2 ⟨x1, rfl, hx1, hrv2, hccv2⟩
      have hzv2 := hccv2.size
      replace Hc := Lib.hid (Hc.out.trans hccv2)
      replace Hr := Lib.hid hrv2
      replace Hi := Lib.hid (Hi.out.agree fun b h1 h2 => hccv2.block b (by omega) (.inr (by omega)))
      replace Hown := Lib.hid (Hown.out.chgE hccv2 (by omega))
      clear hrv2 hcw
      clear hx1
      go_wp2_with fail
      have hcw : Chg rb (rb + 1) w v2 := Hc.out
      have hzw : w.heap.size ≤ v2.heap.size := hcw.size
      refine (pick_any rb A l c (q + 1) rd v2 Hr.out (Hu.out.chg hcw (Nat.le_refl _) (Nat.le_of_lt hrl)) hl (by omega) (by omega)).mono ?_
      rintro e v3 ⟨x2, rfl, hx2, hrv3, hccv3⟩
      have hzv3 := hccv3.size
      replace Hc := Lib.hid (Hc.out.trans hccv3)
      replace Hr := Lib.hid hrv3
      replace Hi := Lib.hid (Hi.out.agree fun b h1 h2 => hccv3.block b (by omega) (.inr (by omega)))
      replace Hown := Lib.hid (Hown.out.chgE hccv3 (by omega))
      clear hrv3 hcw
      clear hx2
      go_wp2_with fail
      obtain ⟨V3, hV3⟩ : ∃ W : World, W = v3.alloc (.cells #[.int .i64 0, .int .i64 x1, .int .i64 x2] 3) := ⟨_, rfl⟩
      have hbV3 : Below v3.heap.size v3 V3 := by rw [hV3]; exact (Below.refl _ _).alloc (Nat.le_refl _) _
      have hgV3 : Bk V3 v3.heap.size 3 (ints [0, x1, x2]) := by rw [hV3]; exact Bk.new v3 _ (ints [0, x1, x2])
      rw [← hV3]
      have hcw : Chg rb (rb + 1) w v3 := Hc.out
      have hzw : w.heap.size ≤ v3.heap.size := hcw.size
      refine (one_any rb A l c (q + 1 + 1) v3.heap.size 3 [0, x1, x2] V3 (Bk.below Hr.out hbV3 (by omega)) ((Hu.out.chg hcw (Nat.le_refl _) (Nat.le_of_lt hrl)).below hbV3 (by omega)) hl (by omega) hgV3 (by omega) (by simp) (by simp)).mono ?_
      rintro e v4 ⟨t, rfl, ht, hrv4, hcv4⟩
      have hccv4 : Chg rb (rb + 1) v3 v4 := (Chg.of_below hbV3).trans hcv4
      have hzv4 := hccv4.size
      replace Hc := Lib.hid (Hc.out.trans hccv4)
      replace Hr := Lib.hid hrv4
      replace Hi := Lib.hid (Hi.out.agree fun b h1 h2 => hccv4.block b (by omega) (.inr (by omega)))
      replace Hown := Lib.hid (Hown.out.chgE hccv4 (by omega))
      clear hV3 hbV3 hgV3 hrv4 hcv4 hcw
      clear ht
      have hz14 : w1.heap.size ≤ v4.heap.size := by omega
      go_wp2_with (at_builtin; go_must (refine wpList_append_intE rfl _ _ rfl b0 R cR o t _ rfl rfl Hown.out _ rfl rfl (by omega) (by omega) ?_; intro R2 c3 w6 rw6 ho6 hg6 hr6); have hc6 := (Chg.own (Chg.own Hc.out (World.grownBy_alloc v4 (.cells #[.int .i64 t] 3) none) (fun g hg => by cases hg)) hg6 (fun g hg => by have := hr6 g hg; omega)); have hr7 := RdrAt.own Hr.out hg6 (fun g hg => by have := hr6 g hg; omega); have hi6 : ∀ b, b < w1.heap.size → w6.heap[b]? = v4.heap[b]? := (fun b hb => (hg6.block b (by rw [World.size_alloc]; omega) (fun e => by have := hr6 b e.symm; omega)).trans (Below.heap_alloc _ _ b (by omega))); have hz6 : v4.heap.size < w6.heap.size := (by have := hg6.size; rw [World.size_alloc] at this; omega); have Ho6 := Lib.hid ho6; have Hc6 := Lib.hid hc6; have Hr6 := Lib.hid hr7; have Hi6 := Lib.hid (Hi.out.agree fun b _ h2 => hi6 b h2); clear ho6 hg6 hr6 hc6 hr7 hi6)
      go_roundw
      case rel => exact ⟨m, by omega, by go_num, R2, c3, o ++ [t], q + 1 + 1 + 1, by rw [List.length_append]; rfl, by simp; omega, by omega, Lib.hid (.inl Ho6.out), Hr6, Hc6, Hi6, by omega⟩
      case measure => first | (simp [intOf]; done) | (simp [intOf]; omega)
    · have hout : ¬ 0 < m1 ∨ (0 < m1 ∧ ¬ 0 < rd) := by omega
      clear hgo
      have Hfin : Hid (∀ (W : World) (R2 : Option Addr) (c2 : Nat) (ts : List Int) (q2 : Nat), ts.length ≤ 20 → ts.length ≤ c2 → OwnI W b0 W.heap.size R2 ts → OwnI W w.heap.size w1.heap.size R1 xs → q2 ≤ p + 120 → RdrAt W rb A l c q2 → Chg rb (rb + 1) w W → b0 ≤ W.heap.size → ∃ (R1' : Option Addr) (c1' : Nat) (xs' : List Int) (rd' : Int) (R2' : Option Addr) (c2' : Nat) (ts' : List Int) (q' : Nat), (Ending.returned (.tuple #[.slice R1 xs.length c1, .int .i64 rd, .slice R2 ts.length c2])) = .returned (.tuple #[.slice R1' xs'.length c1', .int .i64 rd', .slice R2' ts'.length c2']) ∧ xs'.length ≤ 12 ∧ xs'.length ≤ c1' ∧ ts'.length ≤ 20 ∧ ts'.length ≤ c2' ∧ OwnI W w.heap.size W.heap.size R1' xs' ∧ OwnI W w.heap.size W.heap.size R2' ts' ∧ q' ≤ p + 120 ∧ RdrAt W rb A l c q' ∧ Chg rb (rb + 1) w W) := Lib.hid (fun W R2 c2 ts q2 h1 h1c h2 h3 h4 h5 h6 h7 => ⟨R1, c1, xs, rd, R2, c2, ts, q2, rfl, hlen, hcap, h1, h1c, h3.wide (Nat.le_refl _) (by omega), h2.wide (by omega) (Nat.le_refl _), h4, h5, h6⟩)
      by_cases ho0 : 0 < o.length
      rotate_left
      · rcases hout with hout | ⟨hm1, hout⟩
        all_goals
          go_wp2_with fail
          refine bodyPost_ret (v := .tuple #[.slice R1 xs.length c1, .int .i64 rd, .slice R o.length cR]) (by simp [results, Try.results80, go_sem]) rfl ?_
          have hres := Hfin.out wr R cR o q (by omega) Hown.out.capE Hown.out.ownI Hi.out (by omega) Hr.out Hc.out hzw
          obtain ⟨a1, a2, a3, a4, a5, a6, a7, a8, k1, k2, k9, k3, k10, k4, k5, k6, k7, k8⟩ := hres; first | exact ⟨a1, a2, a3, a4, a5, a6, a7, a8, k1, k2, k9, k3, k10, k4, k5, k6, k7, k8⟩ | exact ⟨a1, a2, a3, a4, a5, a6, a7, k1, k2, k9, k3, k10, k4, k5, a8, k6, k7, k8⟩
      · rcases Hown.out with hoj | ⟨rfl, -, -⟩
        rotate_left
        · exact absurd ho0 (by simp)
        obtain ⟨g, rfl, hg0, hg1⟩ := hoj.form ho0
        have Ho := Lib.hid hoj
        clear hoj
        rcases hout with hout | ⟨hm1, hout⟩
        all_goals
          go_wp2_with fail
          have hcw : Chg rb (rb + 1) w wr := Hc.out
          have hzw : w.heap.size ≤ wr.heap.size := hcw.size
          refine (pick_any rb A l c (q) 16 wr Hr.out (Hu.out.chg hcw (Nat.le_refl _) (Nat.le_of_lt hrl)) hl (by omega) (by omega)).mono ?_
          rintro e v1 ⟨y, rfl, hy, hrv1, hccv1⟩
          have hzv1 := hccv1.size
          replace Hc := Lib.hid (Hc.out.trans hccv1)
          replace Hr := Lib.hid hrv1
          replace Hi := Lib.hid (Hi.out.agree fun b h1 h2 => hccv1.block b (by omega) (.inr (by omega)))
          replace Ho := Lib.hid (OwnJ.chg Ho.out hccv1 (by omega))
          clear hrv1 hcw
          clear hy
          by_cases hy0 : y = 0
          rotate_left
          · have hyb : (y == (0 : Int)) = false := by simpa using hy0
            go_wp2_with fail
            refine bodyPost_ret (v := .tuple #[.slice R1 xs.length c1, .int .i64 rd, .slice (some ⟨g, 0, none⟩) o.length cR]) (by simp [results, Try.results80, go_sem]) rfl ?_
            have hres := Hfin.out v1 _ cR o (q + 1) (by omega) Ho.out.cap Ho.out.ownI Hi.out (by omega) Hr.out Hc.out (by omega)
            obtain ⟨a1, a2, a3, a4, a5, a6, a7, a8, k1, k2, k9, k3, k10, k4, k5, k6, k7, k8⟩ := hres; first | exact ⟨a1, a2, a3, a4, a5, a6, a7, a8, k1, k2, k9, k3, k10, k4, k5, k6, k7, k8⟩ | exact ⟨a1, a2, a3, a4, a5, a6, a7, k1, k2, k9, k3, k10, k4, k5, a8, k6, k7, k8⟩
          subst hy0
          go_wp2_with fail
          obtain ⟨V5, hV5⟩ : ∃ W : World, W = v1.alloc (.cells #[.int .i64 (-1), .int .i64 5] 3) := ⟨_, rfl⟩
          have hbV5 : Below v1.heap.size v1 V5 := by rw [hV5]; exact (Below.refl _ _).alloc (Nat.le_refl _) _
          have hgV5 : Bk V5 v1.heap.size 3 (ints [-1, 5]) := by rw [hV5]; exact Bk.new v1 _ (ints [-1, 5])
          rw [← hV5]
          have hcw : Chg rb (rb + 1) w v1 := Hc.out
          have hzw : w.heap.size ≤ v1.heap.size := hcw.size
          refine (one_any rb A l c (q + 1) v1.heap.size 2 [-1, 5] V5 (Bk.below Hr.out hbV5 (by omega)) ((Hu.out.chg hcw (Nat.le_refl _) (Nat.le_of_lt hrl)).below hbV5 (by omega)) hl (by omega) hgV5 (by omega) (by simp) (by simp)).mono ?_
          rintro e v2 ⟨u2, rfl, hu2, hrv2, hcv2⟩
          have hccv2 : Chg rb (rb + 1) v1 v2 := (Chg.of_below hbV5).trans hcv2
          have hzv2 := hccv2.size
          replace Hc := Lib.hid (Hc.out.trans hccv2)
          replace Hr := Lib.hid hrv2
          replace Hi := Lib.hid (Hi.out.agree fun b h1 h2 => hccv2.block b (by omega) (.inr (by omega)))
          replace Ho := Lib.hid (OwnJ.chg Ho.out hccv2 (by omega))
          clear hV5 hbV5 hgV5 hrv2 hcv2 hcw
          clear hu2
          obtain ⟨g2, cs, hA, -, hbk, hlc, hcs⟩ := Ho.out.bk ho0
          have hge : g2 = g := by
            have := Option.some.inj hA
            simp at this
            exact this.symm
          subst hge
          obtain ⟨x0, hx0⟩ := get_of_lt o (k := 0) ho0
          have k0 := (hbk.cell 0).trans (hcs 0 x0 hx0)
          have k1 := hbk.free 0
          have hgr : rb ≠ g2 := by omega
          clear hA hbk hlc hcs hx0
          go_wp2_with fail
          have hsz : (v2.setCell ⟨g2, 0, none⟩ (.int .i64 u2)).heap.size = v2.heap.size := by simp [World.setCell]
          refine bodyPost_ret (v := .tuple #[.slice R1 xs.length c1, .int .i64 rd, .slice (some ⟨g2, 0, none⟩) o.length cR]) (by simp [results, Try.results80, go_sem]) rfl ?_
          have hres := Hfin.out (v2.setCell ⟨g2, 0, none⟩ (.int .i64 u2)) (some ⟨g2, 0, none⟩) cR (o.set 0 u2) (q + 1 + 1) (by rw [List.length_set]; omega) (Ho.out.put0 u2).cap (Ho.out.put0 u2).ownI (Hi.out.agree fun b _ h2 => Below.heap_setCell v2 _ _ b (by show b ≠ g2; omega)) (by omega) (Bk.far (p := ⟨g2, 0, none⟩) Hr.out hgr _) (Hc.out.put (by omega) _ _) (by rw [hsz]; omega)
          rw [List.length_set] at hres
          obtain ⟨a1, a2, a3, a4, a5, a6, a7, a8, k1, k2, k9, k3, k10, k4, k5, k6, k7, k8⟩ := hres; first | exact ⟨a1, a2, a3, a4, a5, a6, a7, a8, k1, k2, k9, k3, k10, k4, k5, k6, k7, k8⟩ | exact ⟨a1, a2, a3, a4, a5, a6, a7, k1, k2, k9, k3, k10, k4, k5, a8, k6, k7, k8⟩


end

section
open Go.RowKit Go.Conc Go.Deep

theorem take_min_ (l : List Int) (n : Nat) : l.take (min n l.length) = l.take n := by
  rcases Nat.le_total n l.length with h | h
  · rw [Nat.min_eq_left h]
  · rw [Nat.min_eq_right h, List.take_length, List.take_of_length_le h]
theorem RdI.take_ {w : World} {B : Nat} {A : Option Addr} {l : List Int} (h : RdI w B A l) (n : Nat) : RdI w B A (l.take n) := fun hn => by
  have h0 : 0 < l.length := by rw [List.length_take] at hn; omega
  obtain ⟨ad, e, hb, hc⟩ := h h0
  exact ⟨ad, e, hb, fun k x hx => hc k x (by
    rw [List.getElem?_take] at hx
    split at hx
    · exact hx
    · cases hx)⟩

/-- How often a reader has its turn. -/
def cntT (c : Int) (ts : List Int) : Nat := (ts.filter fun d => d == c).length
theorem cntT_snoc (c : Int) (ts : List Int) (d : Int) : cntT c (ts ++ [d]) = cntT c ts + (if d == c then 1 else 0) := by
  unfold cntT
  rw [List.filter_append, List.length_append]
  cases h : (d == c) <;> simp [List.filter, h]
theorem byL_cons (c a x : Int) (ps : List (Int × Int)) : byL c ((a, x) :: ps) = (if a == c && decide (0 ≤ x) then [x] else []) ++ byL c ps := by
  unfold byL
  cases h : (a == c && decide (0 ≤ x)) <;> simp [List.filter, h]
theorem by_reads (c : Nat) : ∀ (ts : List Int) {t : Te}, TeeOk t → c < t.pl.length → (∀ d ∈ ts, 0 ≤ d) → byL (c : Int) (ts.zip (readsT t ts)) = (t.it.drop (t.pl.getD c 0).toNat).take (cntT c ts)
  | [], t, _, _, _ => by simp [readsT, byL, cntT]
  | d :: ts, t, hok, hc, hd => by
    obtain ⟨k, rfl⟩ : ∃ k : Nat, d = k := ⟨d.toNat, by have := hd d (List.mem_cons_self ..); omega⟩
    have ih := by_reads c ts (t := readT t k) (readT_ok hok k) (by rw [readT_pl]; exact hc) (fun d hd' => hd d (List.mem_cons_of_mem _ hd'))
    rw [readsT, List.zip_cons_cons, byL_cons, Int.toNat_natCast, ih, readT_it]
    by_cases hkc : k = c
    · subst hkc
      have hcnt : cntT (k : Int) ((k : Int) :: ts) = cntT (k : Int) ts + 1 := by simp [cntT, List.filter]
      rw [hcnt]
      have hb : (((k : Nat) : Int) == ((k : Nat) : Int)) = true := by simp
      by_cases hlt : (t.pl.getD k 0).toNat < t.it.length
      · have hT : (readT t k).pl = t.pl.set k ((t.pl.getD k 0) + 1) := by
          unfold readT
          rw [if_pos hlt]
        have hg2 : (readT t k).pl.getD k 0 = t.pl.getD k 0 + 1 := by
          rw [hT, List.getD_eq_getElem?_getD, List.getElem?_set_self hc]
          rfl
        have h0 : 0 ≤ t.pl.getD k 0 := by
          obtain ⟨u, hu⟩ := get_of_lt t.pl hc
          have hu0 := place_ok hok hu
          rw [List.getD_eq_getElem?_getD, hu]
          show 0 ≤ u
          omega
        have hR : readR t k = t.it.getD (t.pl.getD k 0).toNat 0 := by unfold readR; rw [if_pos hlt]
        have hpos : 0 ≤ readR t k := by
          rcases readR_facts hok k with ⟨h1, -, -⟩ | ⟨-, -, h1⟩
          · exact h1
          · exfalso
            unfold readB at h1
            rw [decide_eq_true hlt] at h1
            cases h1
        rw [hb, decide_eq_true hpos, hg2]
        have hn : (t.pl.getD k 0 + 1).toNat = (t.pl.getD k 0).toNat + 1 := by omega
        rw [hn, List.drop_eq_getElem_cons hlt, List.take_succ_cons, hR, List.getD_eq_getElem?_getD, List.getElem?_eq_getElem hlt]
        rfl
      · have hT : readT t k = t := by unfold readT; rw [if_neg hlt]
        have hR : readR t k = -1 := by unfold readR; rw [if_neg hlt]
        have hdr : t.it.drop (t.pl.getD k 0).toNat = [] := List.drop_eq_nil_of_le (by omega)
        rw [hR, hT, hdr, hb]
        simp
    · have hb : (((k : Nat) : Int) == ((c : Nat) : Int)) = false := by simp; omega
      have hcnt : cntT (c : Int) ((k : Int) :: ts) = cntT (c : Int) ts := by simp [cntT, List.filter, hb]
      have hg : (readT t k).pl.getD c 0 = t.pl.getD c 0 := by
        unfold readT
        split
        · rw [List.getD_eq_getElem?_getD, List.getElem?_set_ne hkc, ← List.getD_eq_getElem?_getD]
        · rfl
      rw [hcnt, hg, hb]
      rfl
theorem rbQ_take {l : List Int} {i : Int} {ts : List Int} {c : Int} (h : turnsOk l i ts = true) (h0 : 0 ≤ c) (h1 : c < i) : rbQ l i ts c = l.take (cntT c ts) := by
  obtain ⟨k, rfl⟩ : ∃ k : Nat, c = k := ⟨c.toNat, by omega⟩
  have h2 := h
  unfold turnsOk at h2
  rw [Bool.and_eq_true, Bool.and_eq_true, Bool.and_eq_true] at h2
  obtain ⟨⟨⟨hro, hin⟩, -⟩, hall⟩ := h2
  obtain ⟨hi0, hi1⟩ := inR_iff.1 hin
  rw [allB, List.all_eq_true] at hall
  unfold rbQ tkR
  rw [if_pos h]
  have := by_reads k ts (t := newT l i.toNat) (newT_ok hro (by omega) (by omega)) (by simp [newT]; omega) (fun d hd => (inR_iff.1 (hall d hd)).1)
  rw [this]
  have hz : ((newT l i.toNat).pl.getD k 0).toNat = 0 := by
    simp [newT, List.getD_eq_getElem?_getD, List.getElem?_replicate]
    split <;> simp
  rw [hz]
  rfl

set_option maxHeartbeats 1600000 in
theorem begins_any (A1 A2 : Option Addr) (c1 c2 : Nat) (l : List Int) (n : Nat) (w : World) (B : Nat) (h1 : RdI w B A1 l) (h2 : RdI w B A2 (l.take n)) (hn : l.length ≤ 1048576) (hc : l.length ≤ c1) :
    Calls Try.prog 52 #[.slice A1 l.length c1, .slice A2 (l.take n).length c2] w fun e w' => e = .returned (.bool true) ∧ Same w w' := by
  have hm : (l.take n).length ≤ l.length := List.length_take_le' _ _
  have H1 := Lib.hid (h1.take_ (l.take n).length)
  have H2 := Lib.hid h2
  obtain ⟨q, hq⟩ : ∃ q, q = l.take n := ⟨_, rfl⟩
  have Hq : Hid (l.take q.length = q) := Lib.hid (by rw [hq, List.length_take]; exact take_min_ l n)
  rw [← hq] at hm H1 H2
  rw [← hq]
  have hle1 : (q.length : Int) ≤ l.length := by omega
  have hle2 : (q.length : Int) ≤ c1 := by omega
  have hle3 : (0 : Int) ≤ q.length := by omega
  clear hq h1 h2
  go_enter Try.func52, Try.ntmps52
  go_wp2_with fail
  have hA := H1.out
  rw [Hq.out] at hA
  refine (equalInts_any A1 A2 c1 c2 q q w B hA H2.out (by omega)).mono ?_
  rintro e w1 ⟨rfl, hs⟩
  rw [decide_eq_true rfl]
  have Hs := Lib.hid hs
  clear hs
  go_wp2_with fail
  go_ret
  exact ⟨rfl, Hs.out⟩

set_option maxRecDepth 100000 in
set_option maxHeartbeats 6400000 in
theorem drawReadBy_any (A : Option Addr) (c : Nat) (l : List Nat) (w : World) (B : Nat) (h : RdU w B A l) (hB : B ≤ w.heap.size) (hl : l.length ≤ maxLen) (hc : l.length ≤ c) :
    Calls Try.prog 56 #[.slice A l.length c] w fun e w' => ∃ (R1 : Option Addr) (c1 : Nat) (xs : List Int) (rd : Int) (R2 : Option Addr) (c2 : Nat) (ts : List Int) (x : Int), e = .returned (.tuple #[.slice R1 xs.length c1, .int .i64 rd, .slice R2 ts.length c2, .int .i64 x]) ∧ xs.length ≤ 12 ∧ xs.length ≤ c1 ∧ ts.length ≤ 20 ∧ RdI w' w'.heap.size R1 xs ∧ RdI w' w'.heap.size R2 ts ∧ Below w.heap.size w w' := by
  have H := Lib.hid h
  clear h
  go_enter Try.func56, Try.ntmps56
  go_wp2_with fail
  refine (newReader_any A c l w B H.out hB hl hc).mono ?_
  rintro e w1 ⟨l', c', rfl, hl2, hu, hr, hb⟩
  obtain ⟨A', hA'⟩ : ∃ A', A' = A := ⟨_, rfl⟩
  rw [← hA'] at hu hr
  obtain ⟨rb, hrb⟩ : ∃ rb, rb = w.heap.size := ⟨_, rfl⟩
  rw [← hrb] at hu hr
  rw [← hrb]
  have hrl := Bk.lt hr
  have hrw : w.heap.size ≤ rb := by omega
  have Hu := Lib.hid hu
  have Hr := Lib.hid hr
  have HB := Lib.hid hb
  clear hu hr hb hA' hrb
  go_wp2_with fail
  refine (turnsOf_any rb A' l' c' 0 w1 Hr.out Hu.out hl2 (by decide)).mono ?_
  rintro e w2 ⟨R1, c1, xs, rd, R2, c2, ts, q, rfl, hx12, hxc, ht20, htc, hox, hot, hq, hr2, hc2⟩
  have hz2 := hc2.size
  have Hr2 := Lib.hid hr2
  have Hu2 := Lib.hid (Hu.out.chg hc2 (Nat.le_refl _) (by omega))
  have HB2 := Lib.hid (hc2.below_ HB.out hrw (by omega))
  have Hx := Lib.hid hox
  have Ht := Lib.hid hot
  clear hr2 hc2 hox hot
  go_wp2_with fail
  obtain ⟨V, hV⟩ : ∃ W : World, W = w2.alloc (.cells #[.int .i64 0, .int .i64 1, .int .i64 2, .int .i64 (-1), .int .i64 4] 3) := ⟨_, rfl⟩
  have hbV : Below w2.heap.size w2 V := by rw [hV]; exact (Below.refl _ _).alloc (Nat.le_refl _) _
  have hgV : Bk V w2.heap.size 3 (ints [0, 1, 2, -1, 4]) := by rw [hV]; exact Bk.new w2 _ (ints [0, 1, 2, -1, 4])
  rw [← hV]
  refine (one_any rb A' l' c' q w2.heap.size 5 [0, 1, 2, -1, 4] V (Bk.below Hr2.out hbV (by omega)) (Hu2.out.below hbV (by omega)) hl2 (by omega) hgV (by omega) (by decide) (by decide)).mono ?_
  rintro e w3 ⟨x, rfl, -, hr3, hc3⟩
  have hcc : Chg rb (rb + 1) w2 w3 := (Chg.of_below hbV).trans hc3
  have hz3 := hcc.size
  have HB3 := Lib.hid (hcc.below_ HB2.out hrw (by have := HB2.out.size; omega))
  have Hx3 := Lib.hid (Hx.out.agree fun b h1 h2 => hcc.block b h2 (.inr (by omega)))
  have Ht3 := Lib.hid (Ht.out.agree fun b h1 h2 => hcc.block b h2 (.inr (by omega)))
  clear hV hbV hgV hr3 hc3 hcc
  go_wp2_with fail
  refine bodyPost_ret (v := .tuple #[.slice R1 xs.length c1, .int .i64 rd, .slice R2 ts.length c2, .int .i64 x]) (by simp [results, Try.results56, go_sem]) rfl ?_
  exact ⟨R1, c1, xs, rd, R2, c2, ts, x, rfl, hx12, hxc, ht20, Hx3.out.rd.more hz3, Ht3.out.rd.more hz3, HB3.out⟩


end

section
open Go.RowKit Go.Conc Go.Deep

theorem readsT_take : ∀ (ts : List Int) (t : Te) (k : Nat), readsT t (ts.take k) = (readsT t ts).take k
  | [], t, k => by simp [readsT]
  | c :: ts, t, 0 => by simp [readsT]
  | c :: ts, t, k + 1 => by
    rw [List.take_succ_cons, readsT, readsT, List.take_succ_cons, readsT_take ts]
theorem tkR_take {l : List Int} {i : Int} {ts : List Int} (h : turnsOk l i ts = true) (k : Nat) : tkR l i (ts.take k) = (tkR l i ts).take k := by
  have h2 : turnsOk l i (ts.take k) = true := by
    unfold turnsOk at h ⊢
    rw [Bool.and_eq_true, Bool.and_eq_true] at h ⊢
    obtain ⟨⟨h1, h3⟩, h4⟩ := h
    refine ⟨⟨h1, decide_eq_true (Nat.le_trans (List.length_take_le' _ _) (of_decide_eq_true h3))⟩, ?_⟩
    rw [allB, List.all_eq_true] at h4 ⊢
    exact fun x hx => h4 x (List.mem_of_mem_take hx)
  unfold tkR
  rw [if_pos h, if_pos h2, readsT_take]
theorem tkR_full {l : List Int} {i : Int} {ts : List Int} (h : turnsOk l i ts = true) : (tkR l i ts).length = ts.length := by
  unfold tkR
  rw [if_pos h, readsT_len]
/-- The greatest number that one of the first k readers reads. -/
def mxT (ts : List Int) (L : Nat) : Nat → Int
  | 0 => 0
  | k + 1 => max (mxT ts L k) (min (cntT k ts : Int) (L : Int))
theorem mxT_le (ts : List Int) (L : Nat) : ∀ (k c : Nat), c < k → min (cntT c ts : Int) (L : Int) ≤ mxT ts L k
  | 0, _, h => by omega
  | k + 1, c, h => by
    simp only [mxT]
    by_cases e : c = k
    · subst e; omega
    · have := mxT_le ts L k c (by omega)
      omega
theorem mxT_at (ts : List Int) (L : Nat) : ∀ k : Nat, mxT ts L k = 0 ∨ ∃ c, c < k ∧ mxT ts L k = min (cntT c ts : Int) (L : Int)
  | 0 => .inl rfl
  | k + 1 => by
    simp only [mxT]
    rcases Int.le_total (mxT ts L k) (min (cntT k ts : Int) (L : Int)) with h | h
    · exact .inr ⟨k, by omega, by omega⟩
    · rcases mxT_at ts L k with h2 | ⟨c, hc, h2⟩
      · exact .inl (by omega)
      · exact .inr ⟨c, by omega, by omega⟩
theorem mxT_rng (ts : List Int) (L : Nat) (k : Nat) : 0 ≤ mxT ts L k ∧ mxT ts L k ≤ L := by
  rcases mxT_at ts L k with h | ⟨c, -, h⟩ <;> omega
/-- What is fed is the greatest place. -/
def Mx (t : Te) : Prop := (∀ c, c < t.pl.length → t.pl.getD c 0 ≤ t.fd) ∧ (t.fd = 0 ∨ ∃ c, c < t.pl.length ∧ t.pl.getD c 0 = t.fd)
theorem getD_set_self {l : List Int} {k : Nat} {v : Int} (h : k < l.length) : (l.set k v).getD k 0 = v := by
  rw [List.getD_eq_getElem?_getD, List.getElem?_set_self h]; rfl
theorem getD_set_ne {l : List Int} {k c : Nat} {v : Int} (h : k ≠ c) : (l.set k v).getD c 0 = l.getD c 0 := by
  rw [List.getD_eq_getElem?_getD, List.getElem?_set_ne h, ← List.getD_eq_getElem?_getD]
theorem Mx.read {t : Te} (h : Mx t) {k : Nat} (hk : k < t.pl.length) (h0 : 0 ≤ t.pl.getD k 0) : Mx (readT t k) := by
  unfold readT
  split
  · refine ⟨fun c hc => ?_, ?_⟩
    · have hc2 : c < t.pl.length := by simpa using hc
      have := h.1 c hc2
      by_cases e : k = c
      · subst e
        show (t.pl.set k _).getD k 0 ≤ max t.fd _
        rw [getD_set_self hk]
        omega
      · show (t.pl.set k _).getD c 0 ≤ max t.fd _
        rw [getD_set_ne e]
        omega
    · right
      by_cases hm : t.fd ≤ t.pl.getD k 0 + 1
      · refine ⟨k, by simpa using hk, ?_⟩
        show (t.pl.set k _).getD k 0 = max t.fd _
        rw [getD_set_self hk]
        omega
      · rcases h.2 with hz | ⟨c, hc, hcf⟩
        · omega
        · have e : k ≠ c := fun e => by subst e; omega
          refine ⟨c, by simpa using hc, ?_⟩
          show (t.pl.set k _).getD c 0 = max t.fd _
          rw [getD_set_ne e]
          omega
  · exact h
theorem place0 {t : Te} (h : TeeOk t) {k : Nat} (hk : k < t.pl.length) : 0 ≤ t.pl.getD k 0 ∧ t.pl.getD k 0 ≤ t.it.length := by
  obtain ⟨u, hu⟩ := get_of_lt t.pl hk
  have hu0 := place_ok h hu
  have hf := h.fed1
  rw [List.getD_eq_getElem?_getD, hu]
  show 0 ≤ u ∧ u ≤ _
  omega
theorem Mx.run : ∀ (ts : List Int) {t : Te}, TeeOk t → Mx t → (∀ d ∈ ts, 0 ≤ d ∧ d < t.pl.length) → Mx (runT t ts)
  | [], _, _, h, _ => h
  | d :: ts, t, hok, h, hd => by
    obtain ⟨k, rfl⟩ : ∃ k : Nat, d = k := ⟨d.toNat, by have := hd d (List.mem_cons_self ..); omega⟩
    have hk := hd k (List.mem_cons_self ..)
    show Mx (runT (readT t (k : Int).toNat) ts)
    rw [Int.toNat_natCast]
    exact Mx.run ts (readT_ok hok k) (h.read (by omega) (place0 hok (by omega)).1) (fun d hd' => by rw [readT_pl]; exact hd d (List.mem_cons_of_mem _ hd'))
theorem place_run (c : Nat) : ∀ (ts : List Int) {t : Te}, TeeOk t → c < t.pl.length → (∀ d ∈ ts, 0 ≤ d ∧ d < t.pl.length) → (runT t ts).pl.getD c 0 = min (t.pl.getD c 0 + (cntT c ts : Int)) (t.it.length : Int)
  | [], t, hok, hc, _ => by
    have := place0 hok hc
    show t.pl.getD c 0 = min (t.pl.getD c 0 + ((cntT c [] : Nat) : Int)) _
    have e : cntT c [] = 0 := rfl
    rw [e]
    omega
  | d :: ts, t, hok, hc, hd => by
    obtain ⟨k, rfl⟩ : ∃ k : Nat, d = k := ⟨d.toNat, by have := hd d (List.mem_cons_self ..); omega⟩
    have hk := hd k (List.mem_cons_self ..)
    show (runT (readT t (k : Int).toNat) ts).pl.getD c 0 = _
    rw [Int.toNat_natCast]
    have ih := place_run c ts (readT_ok hok k) (by rw [readT_pl]; exact hc) (fun d hd' => by rw [readT_pl]; exact hd d (List.mem_cons_of_mem _ hd'))
    rw [ih, readT_it]
    have hp := place0 hok hc
    by_cases hkc : k = c
    · subst hkc
      have hcnt : cntT (k : Int) ((k : Int) :: ts) = cntT (k : Int) ts + 1 := by simp [cntT, List.filter]
      rw [hcnt]
      by_cases hlt : (t.pl.getD k 0).toNat < t.it.length
      · have hg : (readT t k).pl.getD k 0 = t.pl.getD k 0 + 1 := by
          unfold readT
          rw [if_pos hlt]
          exact getD_set_self hc
        rw [hg]
        omega
      · have hT : readT t k = t := by unfold readT; rw [if_neg hlt]
        rw [hT]
        omega
    · have hb : (((k : Nat) : Int) == ((c : Nat) : Int)) = false := by simp; omega
      have hcnt : cntT (c : Int) ((k : Int) :: ts) = cntT (c : Int) ts := by simp [cntT, List.filter, hb]
      have hg : (readT t k).pl.getD c 0 = t.pl.getD c 0 := by
        unfold readT
        split
        · exact getD_set_ne hkc
        · rfl
      rw [hcnt, hg]
theorem fd_mx {l : List Int} {n : Nat} {ts : List Int} (h : turnsOk l n ts = true) : (tkT l n ts).fd = mxT ts l.length n := by
  have h2 := h
  unfold turnsOk at h2
  rw [Bool.and_eq_true, Bool.and_eq_true, Bool.and_eq_true] at h2
  obtain ⟨⟨⟨hro, hin⟩, -⟩, hall⟩ := h2
  obtain ⟨hi0, hi1⟩ := inR_iff.1 hin
  rw [allB, List.all_eq_true] at hall
  unfold tkT
  rw [if_pos h, Int.toNat_natCast]
  have hlen : (newT l n).pl.length = n := by simp [newT]
  have hok := newT_ok (n := n) hro (by omega) (by omega)
  have hd : ∀ d ∈ ts, 0 ≤ d ∧ d < (newT l n).pl.length := fun d hd => by
    have := inR_iff.1 (hall d hd)
    rw [hlen]
    omega
  have hz : ∀ c, c < n → (newT l n).pl.getD c 0 = 0 := fun c hc => by simp [newT, List.getD_eq_getElem?_getD, hc]
  have hm0 : Mx (newT l n) := ⟨fun c hc => by rw [hz c (by omega)]; exact Int.le_refl _, .inl rfl⟩
  have hm := Mx.run ts hok hm0 hd
  have hpl : (runT (newT l n) ts).pl.length = n := by rw [runT_pl, hlen]
  have hp : ∀ c, c < n → (runT (newT l n) ts).pl.getD c 0 = min (cntT c ts : Int) (l.length : Int) := fun c hc => by
    rw [place_run c ts hok (by omega) hd, hz c hc, Int.zero_add]
    rfl
  have hr := mxT_rng ts l.length n
  rcases hm.2 with hz2 | ⟨c, hc, he⟩
  · rcases mxT_at ts l.length n with h3 | ⟨c, hc, h3⟩
    · omega
    · have := hm.1 c (by omega)
      rw [hp c hc] at this
      omega
  · rw [hp c (by omega)] at he
    have h4 := mxT_le ts l.length n c (by omega)
    rcases mxT_at ts l.length n with h3 | ⟨c2, hc2, h3⟩
    · have := hm.1 c hc
      rw [hp c (by omega)] at this
      omega
    · have := hm.1 c2 (by omega)
      rw [hp c2 hc2] at this
      omega

set_option maxRecDepth 100000 in
set_option maxHeartbeats 6400000 in
theorem drawRunTee_any (A : Option Addr) (c : Nat) (l : List Nat) (w : World) (B : Nat) (h : RdU w B A l) (hB : B ≤ w.heap.size) (hl : l.length ≤ maxLen) (hc : l.length ≤ c) :
    Calls Try.prog 51 #[.slice A l.length c] w fun e w' => ∃ (R1 : Option Addr) (c1 : Nat) (xs : List Int) (rd : Int) (R2 : Option Addr) (c2 : Nat) (ts : List Int), e = .returned (.tuple #[.slice R1 xs.length c1, .int .i64 rd, .slice R2 ts.length c2]) ∧ xs.length ≤ 12 ∧ xs.length ≤ c1 ∧ ts.length ≤ 20 ∧ ts.length ≤ c2 ∧ RdI w' w'.heap.size R1 xs ∧ RdI w' w'.heap.size R2 ts ∧ Below w.heap.size w w' := by
  have H := Lib.hid h
  clear h
  go_enter Try.func51, Try.ntmps51
  go_wp2_with fail
  refine (newReader_any A c l w B H.out hB hl hc).mono ?_
  rintro e w1 ⟨l', c', rfl, hl2, hu, hr, hb⟩
  obtain ⟨A', hA'⟩ : ∃ A', A' = A := ⟨_, rfl⟩
  rw [← hA'] at hu hr
  obtain ⟨rb, hrb⟩ : ∃ rb, rb = w.heap.size := ⟨_, rfl⟩
  rw [← hrb] at hu hr
  rw [← hrb]
  have hrl := Bk.lt hr
  have hrw : w.heap.size ≤ rb := by omega
  have Hu := Lib.hid hu
  have Hr := Lib.hid hr
  have HB := Lib.hid hb
  clear hu hr hb hA' hrb
  go_wp2_with fail
  refine (turnsOf_any rb A' l' c' 0 w1 Hr.out Hu.out hl2 (by decide)).mono ?_
  rintro e w2 ⟨R1, c1, xs, rd, R2, c2, ts, q, rfl, hx12, hxc, ht20, htc, hox, hot, hq, hr2, hc2⟩
  have hz2 := hc2.size
  have HB2 := Lib.hid (hc2.below_ HB.out hrw (by omega))
  have Hx := Lib.hid hox
  have Ht := Lib.hid hot
  clear hr2 hc2 hox hot
  go_wp2_with fail
  refine bodyPost_ret (v := .tuple #[.slice R1 xs.length c1, .int .i64 rd, .slice R2 ts.length c2]) (by simp [results, Try.results51, go_sem]) rfl ?_
  exact ⟨R1, c1, xs, rd, R2, c2, ts, rfl, hx12, hxc, ht20, htc, Hx.out.rd, Ht.out.rd, HB2.out⟩

theorem fd_tee (v0 v1 v2 v3 : Value) (w : World) : (Instr.field 27 (.agg #[v0, v1, v2, v3]) 1).run Try.prog w = .ok v1 w := by kernel_rfl


end

end Go.Proofs.Ytjkieedomljelaa
