/- Contracts: whether a pipe is valid, told by the reference (counts). -/
import Derived.Test.YtkjhncohanfciaaKids
import Derived.Test.YtkjhncohanfciaaPipeP
import Derived.Test.YtkjhncohanfciaaPipeV
import Derived.Test.YtkjhncohanfciaaSrcA
import Derived.RegionTactic
import Derived.ChangeAlike
import Derived.BigRegion
namespace Go.Proofs.Ytkjhncohanfciaa
open Go.RowKit

theorem Try.infoInt2 : (Try.prog.info? 3).map (fun i => (i.zero, i.size, i.bytes)) = some (some (.int .i64 0), 1, 8) := by kernel_rfl

theorem counts_made (w : World) (g : Nat) (o : Obj) (l : List Nd) (hg : g = (w.alloc o).heap.size) : Bk ((w.alloc o).alloc (.cells (madeCells #[.int .i64 0] l.length) 3)) g 3 (ints (counts l 0 l.length)) := by
  subst hg
  have e : madeCells #[Value.int .i64 0] l.length = (ints (counts l 0 l.length)).toArray := by
    rw [counts_zero]
    have : ints (List.replicate l.length 0) = (madeCells #[Value.int .i64 0] l.length).toList := by rw [toList_madeCells_one]; simp [ints]
    rw [this]
  rw [e]
  exact Bk.new _ _ _

theorem useOf_le (l : List Nd) (j : Int) : useOf l j ≤ 2 * l.length := by
  induction l with
  | nil => simp [useOf]
  | cons x l ih =>
    have h1 := one_le (x.a == j)
    have h2 := one_le (x.b == j)
    simp only [useOf, List.length_cons]
    omega
theorem counts_one {l : List Nd} {k n : Nat} {x : Nd} (hx : l[k]? = some x) {j : Nat} (ha : x.a = (j : Int)) (hb : x.b = -1) : (counts l k n).set j ((useOf (l.take k) (j : Int) : Nat) + 1) = counts l (k + 1) n := by
  apply List.ext_getElem?
  intro i
  by_cases hi : i < n
  · rw [counts_get _ _ hi, useOf_succ hx, ha, hb, one_ne (i := -1) (by omega)]
    by_cases hij : i = j
    · subst hij
      rw [List.getElem?_set_self (by rw [counts_len]; exact hi), one_eq]
      simp
    · rw [List.getElem?_set_ne (by omega), counts_get _ _ hi, one_ne (by omega)]
      simp
  · rw [List.getElem?_eq_none (by rw [List.length_set, counts_len]; omega), List.getElem?_eq_none (by rw [counts_len]; omega)]
theorem counts_two {l : List Nd} {k n : Nat} {x : Nd} (hx : l[k]? = some x) {j j2 : Nat} (ha : x.a = (j : Int)) (hb : x.b = (j2 : Int)) (hne : j ≠ j2) :
    ((counts l k n).set j ((useOf (l.take k) (j : Int) : Nat) + 1)).set j2 ((useOf (l.take k) (j2 : Int) : Nat) + 1) = counts l (k + 1) n := by
  apply List.ext_getElem?
  intro i
  by_cases hi : i < n
  · rw [counts_get _ _ hi, useOf_succ hx, ha, hb]
    by_cases hij2 : i = j2
    · subst hij2
      rw [List.getElem?_set_self (by rw [List.length_set, counts_len]; exact hi), one_eq, one_ne (by omega)]
      simp
    · rw [List.getElem?_set_ne (by omega), one_ne (i := (j2 : Int)) (by omega)]
      by_cases hij : i = j
      · subst hij
        rw [List.getElem?_set_self (by rw [counts_len]; exact hi), one_eq]
        simp
      · rw [List.getElem?_set_ne (by omega), counts_get _ _ hi, one_ne (by omega)]
        simp
  · rw [List.getElem?_eq_none (by rw [List.length_set, List.length_set, counts_len]; omega), List.getElem?_eq_none (by rw [counts_len]; omega)]
theorem counts_none {l : List Nd} {k n : Nat} {x : Nd} (hx : l[k]? = some x) (ha : x.a = -1) (hb : x.b = -1) : counts l k n = counts l (k + 1) n := by
  apply List.ext_getElem?
  intro i
  by_cases hi : i < n
  · rw [counts_get _ _ hi, counts_get _ _ hi, useOf_succ hx, ha, hb, one_ne (i := -1) (by omega)]
    simp
  · rw [List.getElem?_eq_none (by rw [counts_len]; omega), List.getElem?_eq_none (by rw [counts_len]; omega)]

theorem ints_set (l : List Int) (k : Nat) (v : Int) : (ints l).set k (.int .i64 v) = ints (l.set k v) := by simp [ints, List.map_set]
theorem counts_step1 {w : World} {g k n j u : Nat} {t : TypeId} {l : List Nd} {x : Nd} (h : Bk w g t (ints (counts l k n))) (hx : l[k]? = some x) (ha : x.a = (j : Int)) (hb : x.b = -1) (hu : u = useOf (l.take k) (j : Int)) :
    Bk (w.setCell ⟨g, j, none⟩ (.int .i64 ((u : Int) + 1))) g t (ints (counts l (k + 1) n)) := by
  rw [← counts_one hx ha hb, ← ints_set, ← hu]
  exact h.set_ _ _
theorem counts_step2 {w : World} {g k n j j2 u v : Nat} {t : TypeId} {l : List Nd} {x : Nd} (h : Bk w g t (ints (counts l k n))) (hx : l[k]? = some x) (ha : x.a = (j : Int)) (hb : x.b = (j2 : Int)) (hne : j ≠ j2) (hu : u = useOf (l.take k) (j : Int)) (hv : v = useOf (l.take k) (j2 : Int)) :
    Bk ((w.setCell ⟨g, j, none⟩ (.int .i64 ((u : Int) + 1))).setCell ⟨g, j2, none⟩ (.int .i64 ((v : Int) + 1))) g t (ints (counts l (k + 1) n)) := by
  rw [← counts_two hx ha hb hne, ← ints_set, ← ints_set, ← hu, ← hv]
  exact (h.set_ _ _).set_ _ _

/-- A node lies in block b. -/
structure Nd5 (w : World) (b : Nat) (x : Nd) : Prop where
  c0 : w.cell? ⟨b, 0, none⟩ = some (.int .i64 x.k)
  c1 : w.cell? ⟨b, 1, none⟩ = some (.int .i64 x.a)
  c2 : w.cell? ⟨b, 2, none⟩ = some (.int .i64 x.b)
  c3 : w.cell? ⟨b, 3, none⟩ = some (.int .i64 x.n)
  c4 : w.cell? ⟨b, 4, none⟩ = some (.int .i64 x.m)
theorem Nd5.new (w : World) (x : Nd) (t : TypeId) : Nd5 (w.alloc (.cells #[.int .i64 x.k, .int .i64 x.a, .int .i64 x.b, .int .i64 x.n, .int .i64 x.m] t)) w.heap.size x :=
  ⟨by simp [go_sem], by simp [go_sem], by simp [go_sem], by simp [go_sem], by simp [go_sem]⟩
theorem Nd5.below {w w' : World} {b C : Nat} {x : Nd} (h : Nd5 w b x) (hb : Below C w w') (hC : b < C) : Nd5 w' b x :=
  ⟨(hb.cell (p := ⟨b, 0, none⟩) hC).trans h.c0, (hb.cell (p := ⟨b, 1, none⟩) hC).trans h.c1, (hb.cell (p := ⟨b, 2, none⟩) hC).trans h.c2, (hb.cell (p := ⟨b, 3, none⟩) hC).trans h.c3, (hb.cell (p := ⟨b, 4, none⟩) hC).trans h.c4⟩

/-- The nodes below a node that can stand at the place k. -/
theorem kids_form {x : Nd} {k : Nat} (h : kidsOk x k = true) : (x.a = -1 ∧ x.b = -1) ∨ (∃ j : Nat, x.a = (j : Int) ∧ j < k ∧ x.b = -1) ∨ ∃ j j2 : Nat, x.a = (j : Int) ∧ j < k ∧ x.b = (j2 : Int) ∧ j2 < k ∧ j ≠ j2 := by
  rcases arity_cases x.k with e | e | e | e
  · simp [kidsOk, e] at h
    exact .inl h
  · simp [kidsOk, e] at h
    obtain ⟨j, hj, hjk⟩ := inR_toNat h.1
    exact .inr (.inl ⟨j, hj, hjk, h.2⟩)
  · simp [kidsOk, e] at h
    obtain ⟨⟨h1, h2⟩, h3⟩ := h
    obtain ⟨j, hj, hjk⟩ := inR_toNat h1
    obtain ⟨j2, hj2, hjk2⟩ := inR_toNat h2
    exact .inr (.inr ⟨j, j2, hj, hjk, hj2, hjk2, by rintro rfl; exact h3 (hj.trans hj2.symm)⟩)
  · simp [kidsOk, e] at h
theorem node_no {l : List Nd} {k : Nat} {x : Nd} (hx : l[k]? = some x) (h : numsOk x = false ∨ kidsOk x k = false) : ¬ PipeOk l := fun hp => by
  have hn := hp.node k x hx
  simp only [nodeOk, Bool.and_eq_true] at hn
  rcases h with h | h
  · rw [hn.1] at h; cases h
  · rw [hn.2] at h; cases h

theorem uses_succ {l : List Nd} {k : Nat} (h : ∀ i : Nat, i < k → useOf l (i : Int) = 1) (h2 : useOf l (k : Int) = 1) : ∀ i : Nat, i < k + 1 → useOf l (i : Int) = 1 := fun i hi => by
  by_cases e : i = k
  · subst e; exact h2
  · exact h i (by omega)
theorem valid_end {l : List Nd} (hg : Good l l.length) (hu : ∀ i : Nat, i + 1 < l.length → useOf l (i : Int) = 1) : pipeOk l = inR l.length 1 12 := by
  rw [Bool.eq_iff_iff, pipeOk_iff, inR_iff]
  exact ⟨fun hp => ⟨by have := hp.low; omega, by have := hp.high; omega⟩, fun ⟨h1, h2⟩ => ⟨fun i x hx => hg i x (List.getElem?_eq_some_iff.1 hx).1 hx, hu, by omega, by omega⟩⟩

set_option maxHeartbeats 3200000 in
theorem specvalidPipe_any (A : Option Addr) (c : Nat) (l : List Nd) (w : World) (B : Nat) (h : RdN w B A l) (hB : B ≤ w.heap.size) (hn : l.length ≤ 1048576) :
    Calls Try.prog 45 #[.agg #[.slice A l.length c]] w fun e w' => e = .returned (.bool (pipeOk l)) ∧ Below w.heap.size w w' := by
  have hmk := run_make_row' (P := Try.prog) 28 3 (.int .i64 0) 8 Try.underlying28 Try.infoInt2 rfl .i64 .i64 l.length (by omega) (by omega)
  go_enter Try.func45, Try.ntmps45
  go_wp2
  clear hmk
  go_loopw [4] (fun i wr => ∃ k : Nat, k ≤ l.length ∧ i = .int .i64 k ∧ Good l k ∧ Bk wr (w.heap.size + 1) 3 (ints (counts l k l.length)) ∧ Bk wr w.heap.size 32 [.slice A l.length c] ∧ Below w.heap.size w wr) (fun i _ => l.length - (intOf i).toNat)
  case atStart => exact ⟨0, Nat.zero_le _, rfl, Good.zero _, counts_made _ _ _ _ (by simp), (Bk.new w 32 [.slice A l.length c]).alloc _, ((Below.refl _ _).alloc (Nat.le_refl _) _).alloc (by simp) _⟩
  case round =>
    obtain ⟨k, hk, rfl, hgood, hbk, hbox, hbl⟩ := hrel
    have hcb : wr.cell? ⟨w.heap.size, 0, none⟩ = some (.slice A l.length c) := hbox.cell 0
    by_cases hlt : k < l.length
    · obtain ⟨b, o, x, rfl, hbB, hx, hc⟩ := (h.below hbl hB).at_ hlt
      obtain ⟨c0, c1, c2, c3, c4⟩ := hc
      have Hgood := Lib.hid hgood
      have Hbk := Lib.hid hbk
      have Hbox := Lib.hid hbox
      have Hbl := Lib.hid hbl
      have Hx := Lib.hid hx
      clear hgood hbk hbl hx h hbox
      have hgw : w.heap.size + 1 < wr.heap.size := Hbk.out.lt
      have hsz := Hbl.out.size
      have hal := Hbl.out.alloc hsz (.cells #[.int .i64 x.k, .int .i64 x.a, .int .i64 x.b, .int .i64 x.n, .int .i64 x.m] 69)
      have hbk0 := Hbk.out.alloc (.cells #[.int .i64 x.k, .int .i64 x.a, .int .i64 x.b, .int .i64 x.n, .int .i64 x.m] 69)
      have hbx0 := Hbox.out.alloc (.cells #[.int .i64 x.k, .int .i64 x.a, .int .i64 x.b, .int .i64 x.n, .int .i64 x.m] 69)
      have hnd0 := Nd5.new wr x 69
      have Hal := Lib.hid hal
      have Hbk0 := Lib.hid hbk0
      have Hbx0 := Lib.hid hbx0
      have Hnd0 := Lib.hid hnd0
      have hk20 : k ≤ 1048576 := by omega
      clear hal hbk0 hbx0 hnd0
      go_wp2_with fail
      refine (specNums_any x _).mono ?_
      rintro e w1 ⟨rfl, hb1⟩
      have hlt1 : wr.heap.size < w1.heap.size := by have := hb1.size; simp at this; omega
      have Hal1 := Lib.hid (Hal.out.trans (hb1.mono Hal.out.size))
      have Hbk1 := Lib.hid (Hbk0.out.below hb1 Hbk0.out.lt)
      have Hbx1 := Lib.hid (Hbx0.out.below hb1 Hbx0.out.lt)
      have Hnd1 := Lib.hid (Hnd0.out.below hb1 (by simp))
      clear hb1 hcb c0 c1 c2 c3 c4
      cases hnm : numsOk x
      · have Hnm := Lib.hid hnm
        clear hnm
        go_wp2_with fail
        go_ret
        exact ⟨ret_bool (pipeOk_no (node_no Hx.out (.inl Hnm.out))).symm, Hal1.out⟩
      · have Hnm := Lib.hid hnm
        clear hnm
        obtain ⟨d0, d1, d2, d3, d4⟩ := Hnd1.out
        go_wp2_with fail
        refine (specKids_any x k _ hk20).mono ?_
        rintro e w2 ⟨rfl, hb2⟩
        have hlt2 : wr.heap.size < w2.heap.size := Nat.lt_of_lt_of_le hlt1 hb2.size
        have Hal2 := Lib.hid (Hal1.out.trans (hb2.mono Hal1.out.size))
        have Hbk2 := Lib.hid (Hbk1.out.below hb2 Hbk1.out.lt)
        have Hbx2 := Lib.hid (Hbx1.out.below hb2 Hbx1.out.lt)
        have Hnd2 := Lib.hid (Hnd1.out.below hb2 hlt1)
        clear hb2 d0 d1 d2 d3 d4
        cases hkd : kidsOk x k
        · have Hkd := Lib.hid hkd
          clear hkd
          go_wp2_with fail
          go_ret
          exact ⟨ret_bool (pipeOk_no (node_no Hx.out (.inr Hkd.out))).symm, Hal2.out⟩
        · have Hgood2 := Lib.hid (Hgood.out.succ Hx.out (by rw [nodeOk, Hnm.out, hkd]; rfl))
          obtain ⟨d0, d1, d2, d3, d4⟩ := Hnd2.out
          rcases kids_form hkd with ⟨ha, hb⟩ | ⟨j, ha, hj, hb⟩ | ⟨j, j2, ha, hj, hb, hj2, hne⟩
          · rw [ha] at d1
            rw [hb] at d2
            have Ha := Lib.hid ha
            have Hb := Lib.hid hb
            clear ha hb hkd
            go_wp2
            go_roundw
            case rel => exact ⟨k + 1, by omega, by go_num, Hgood2.out, by rw [← counts_none Hx.out Ha.out Hb.out]; exact Hbk2.out, Hbx2.out, Hal2.out⟩
            case measure => simp [intOf]; omega
          · rw [ha] at d1
            rw [hb] at d2
            have Ha := Lib.hid ha
            have Hb := Lib.hid hb
            obtain ⟨u, hu⟩ : ∃ u : Nat, u = useOf (l.take k) (j : Int) := ⟨_, rfl⟩
            have hu2 : u ≤ 2097152 := by rw [hu]; have := useOf_le (l.take k) (j : Int); simp at this; omega
            have e0 : w2.cell? ⟨w.heap.size + 1, j, none⟩ = some (.int .i64 (u : Int)) := by rw [Hbk2.out.cell, ints_get, counts_get _ _ (by omega), hu]; rfl
            have f0 := Hbk2.out.free j
            have Hu := Lib.hid hu
            clear ha hb hkd hu
            go_wp2
            go_region
            all_goals
              go_wp2
              go_roundw
              case rel => exact ⟨k + 1, by omega, by go_num, Hgood2.out, counts_step1 Hbk2.out Hx.out Ha.out Hb.out Hu.out, Hbx2.out.far (p := ⟨w.heap.size + 1, j, none⟩) (Nat.ne_of_lt (Nat.lt_succ_self _)) _, (Hal2.out.setCell (p := ⟨w.heap.size + 1, j, none⟩) (Nat.le_succ _) _).drew⟩
              case measure => simp [intOf]; omega
          · rw [ha] at d1
            rw [hb] at d2
            have Ha := Lib.hid ha
            have Hb := Lib.hid hb
            obtain ⟨u, hu⟩ : ∃ u : Nat, u = useOf (l.take k) (j : Int) := ⟨_, rfl⟩
            obtain ⟨v, hv⟩ : ∃ v : Nat, v = useOf (l.take k) (j2 : Int) := ⟨_, rfl⟩
            have hu2 : u ≤ 2097152 := by rw [hu]; have := useOf_le (l.take k) (j : Int); simp at this; omega
            have hv2 : v ≤ 2097152 := by rw [hv]; have := useOf_le (l.take k) (j2 : Int); simp at this; omega
            have e0 : w2.cell? ⟨w.heap.size + 1, j, none⟩ = some (.int .i64 (u : Int)) := by rw [Hbk2.out.cell, ints_get, counts_get _ _ (by omega), hu]; rfl
            have e1 : w2.cell? ⟨w.heap.size + 1, j2, none⟩ = some (.int .i64 (v : Int)) := by rw [Hbk2.out.cell, ints_get, counts_get _ _ (by omega), hv]; rfl
            have f0 := Hbk2.out.free j
            have f1 := Hbk2.out.free j2
            have Hu := Lib.hid hu
            have Hv := Lib.hid hv
            have Hne : Hid (j ≠ j2) := hne
            have hne2 : j2 ≠ j := fun e => hne e.symm
            clear ha hb hkd hu hv
            go_wp2
            go_region
            all_goals
              go_wp2
              go_region
            all_goals
              go_wp2
              go_roundw
              case rel => exact ⟨k + 1, by omega, by go_num, Hgood2.out, counts_step2 Hbk2.out Hx.out Ha.out Hb.out Hne.out Hu.out Hv.out, (Hbx2.out.far (p := ⟨w.heap.size + 1, j, none⟩) (Nat.ne_of_lt (Nat.lt_succ_self _)) _).far (p := ⟨w.heap.size + 1, j2, none⟩) (Nat.ne_of_lt (Nat.lt_succ_self _)) _, ((Hal2.out.setCell (p := ⟨w.heap.size + 1, j, none⟩) (Nat.le_succ _) _).setCell (p := ⟨w.heap.size + 1, j2, none⟩) (Nat.le_succ _) _).drew.drew⟩
              case measure => simp [intOf]; omega
    · obtain rfl : k = l.length := by omega
      have Hgood := Lib.hid hgood
      have Hbk := Lib.hid hbk
      have Hbl := Lib.hid hbl
      clear hgood hbk hbl h
      go_wp2
      go_loop [6] (fun i => ∃ k : Nat, k ≤ l.length ∧ i = .int .i64 k ∧ ∀ i : Nat, i < k → useOf l (i : Int) = 1) (fun i => l.length - (intOf i).toNat)
      case atStart => exact ⟨0, Nat.zero_le _, rfl, fun i hi => absurd hi (by omega)⟩
      case round =>
        obtain ⟨k, hk2, rfl, hone⟩ := hrel
        have Hone := Lib.hid hone
        clear hone
        by_cases hlt2 : k + 1 < l.length
        · obtain ⟨u, hu⟩ : ∃ u : Nat, u = useOf l (k : Int) := ⟨_, rfl⟩
          have e0 : wr.cell? ⟨w.heap.size + 1, k, none⟩ = some (.int .i64 (u : Int)) := by rw [Hbk.out.cell, ints_get, counts_get _ _ (by omega), List.take_length, hu]; rfl
          have Hu := Lib.hid hu
          clear hu
          by_cases hu1 : u = 1
          · have hub : ((u : Int) != 1) = false := by simp [hu1]
            have Hu1 := Lib.hid hu1
            clear hu1
            go_wp2
            go_round
            case rel => exact ⟨k + 1, by omega, by go_num, uses_succ Hone.out (Hu.out.symm.trans Hu1.out)⟩
            case measure => simp [intOf]; omega
          · have hub : ((u : Int) != 1) = true := by simp; omega
            have Hu1 : Hid (¬ u = 1) := hu1
            clear hu1
            go_wp2
            go_ret
            exact ⟨ret_bool (pipeOk_no fun hp => Hu1.out (Hu.out.trans (hp.uses k hlt2))).symm, Hbl.out⟩
        · have Hend := Lib.hid (valid_end Hgood.out (fun i hi => Hone.out i (by omega)))
          go_wp2_with (go_at_call 50; refine (specInR_any _ _ _ _).mono ?_; rintro e w1 ⟨rfl, rfl⟩)
          go_ret
          exact ⟨ret_bool Hend.out.symm, Hbl.out⟩

end Go.Proofs.Ytkjhncohanfciaa
