/- Texts on the program and its reference, put together (PipeS, State, New, SrcB, TreeV, TreeD, Depth, VSa, Add, Ord, Clone, Put, JoinM, SrcsM, ListM). -/
import Derived.Test.YthfniffecceldaaMq5D
import Derived.Test.YthfniffecceldaaMq5B
import Derived.Test.YthfniffecceldaaMq5A
import Derived.RegionTactic
import Derived.ChangeAlike
import Derived.BigRegion
import Derived.Deep.DeepMust
import Derived.Deep.QuietTactic
import Derived.BigQuiet
import Derived.Lib.QuietBelow
import Derived.Deep.RegionWith
import Derived.WalkSpells
import Derived.WalkLawsBesides
import Derived.Deep.RegionHeld3
import Derived.Deep.AppendLies
import Derived.Lib.SlicesCompact
/- Contracts: whether a pipe is valid, told by the reference (counts). -/
namespace Go.Proofs.Ythfniffecceldaa
open Go.RowKit

theorem Try.infoInt2 : (Try.prog.info? 3).map (fun i => (i.zero, i.size, i.bytes)) = some (some (.int .i64 0), 1, 8) := by kernel_rfl

theorem counts_made (w : World) (g : Nat) (o : Obj) (l : List Nd) (hg : g = (w.alloc o).heap.size) : Bk ((w.alloc o).alloc (.cells (madeCells #[.int .i64 0] l.length) 3)) g 3 (ints (counts l 0 l.length)) := by
  subst hg
  have e : madeCells #[Value.int .i64 0] l.length = (ints (counts l 0 l.length)).toArray := by
    rw [counts_zero]
    have : ints (List.replicate l.length 0) = (madeCells #[Value.int .i64 0] l.length).toList := by rw [toList_madeCells_one]; simp [ints]
    rw [this]
  rw [e]
  exact Bk.new _ _ _

theorem useOf_le (l : List Nd) (j : Int) : useOf l j ≤ 2 * l.length := by
  induction l with
  | nil => simp [useOf]
  | cons x l ih =>
    have h1 := one_le (x.a == j)
    have h2 := one_le (x.b == j)
    simp only [useOf, List.length_cons]
    omega
theorem counts_one {l : List Nd} {k n : Nat} {x : Nd} (hx : l[k]? = some x) {j : Nat} (ha : x.a = (j : Int)) (hb : x.b = -1) : (counts l k n).set j ((useOf (l.take k) (j : Int) : Nat) + 1) = counts l (k + 1) n := by
  apply List.ext_getElem?
  intro i
  by_cases hi : i < n
  · rw [counts_get _ _ hi, useOf_succ hx, ha, hb, one_ne (i := -1) (by omega)]
    by_cases hij : i = j
    · subst hij
      rw [List.getElem?_set_self (by rw [counts_len]; exact hi), one_eq]
      simp
    · rw [List.getElem?_set_ne (by omega), counts_get _ _ hi, one_ne (by omega)]
      simp
  · rw [List.getElem?_eq_none (by rw [List.length_set, counts_len]; omega), List.getElem?_eq_none (by rw [counts_len]; omega)]
theorem counts_two {l : List Nd} {k n : Nat} {x : Nd} (hx : l[k]? = some x) {j j2 : Nat} (ha : x.a = (j : Int)) (hb : x.b = (j2 : Int)) (hne : j ≠ j2) :
    ((counts l k n).set j ((useOf (l.take k) (j : Int) : Nat) + 1)).set j2 ((useOf (l.take k) (j2 : Int) : Nat) + 1) = counts l (k + 1) n := by
  apply List.ext_getElem?
  intro i
  by_cases hi : i < n
  · rw [counts_get _ _ hi, useOf_succ hx, ha, hb]
    by_cases hij2 : i = j2
    · subst hij2
      rw [List.getElem?_set_self (by rw [List.length_set, counts_len]; exact hi), one_eq, one_ne (by omega)]
      simp
    · rw [List.getElem?_set_ne (by omega), one_ne (i := (j2 : Int)) (by omega)]
      by_cases hij : i = j
      · subst hij
        rw [List.getElem?_set_self (by rw [counts_len]; exact hi), one_eq]
        simp
      · rw [List.getElem?_set_ne (by omega), counts_get _ _ hi, one_ne (by omega)]
        simp
  · rw [List.getElem?_eq_none (by rw [List.length_set, List.length_set, counts_len]; omega), List.getElem?_eq_none (by rw [counts_len]; omega)]
theorem counts_none {l : List Nd} {k n : Nat} {x : Nd} (hx : l[k]? = some x) (ha : x.a = -1) (hb : x.b = -1) : counts l k n = counts l (k + 1) n := by
  apply List.ext_getElem?
  intro i
  by_cases hi : i < n
  · rw [counts_get _ _ hi, counts_get _ _ hi, useOf_succ hx, ha, hb, one_ne (i := -1) (by omega)]
    simp
  · rw [List.getElem?_eq_none (by rw [counts_len]; omega), List.getElem?_eq_none (by rw [counts_len]; omega)]

theorem ints_set (l : List Int) (k : Nat) (v : Int) : (ints l).set k (.int .i64 v) = ints (l.set k v) := by simp [ints, List.map_set]
theorem counts_step1 {w : World} {g k n j u : Nat} {t : TypeId} {l : List Nd} {x : Nd} (h : Bk w g t (ints (counts l k n))) (hx : l[k]? = some x) (ha : x.a = (j : Int)) (hb : x.b = -1) (hu : u = useOf (l.take k) (j : Int)) :
    Bk (w.setCell ⟨g, j, none⟩ (.int .i64 ((u : Int) + 1))) g t (ints (counts l (k + 1) n)) := by
  rw [← counts_one hx ha hb, ← ints_set, ← hu]
  exact h.set_ _ _
theorem counts_step2 {w : World} {g k n j j2 u v : Nat} {t : TypeId} {l : List Nd} {x : Nd} (h : Bk w g t (ints (counts l k n))) (hx : l[k]? = some x) (ha : x.a = (j : Int)) (hb : x.b = (j2 : Int)) (hne : j ≠ j2) (hu : u = useOf (l.take k) (j : Int)) (hv : v = useOf (l.take k) (j2 : Int)) :
    Bk ((w.setCell ⟨g, j, none⟩ (.int .i64 ((u : Int) + 1))).setCell ⟨g, j2, none⟩ (.int .i64 ((v : Int) + 1))) g t (ints (counts l (k + 1) n)) := by
  rw [← counts_two hx ha hb hne, ← ints_set, ← ints_set, ← hu, ← hv]
  exact (h.set_ _ _).set_ _ _

/-- A node lies in block b. -/
structure Nd5 (w : World) (b : Nat) (x : Nd) : Prop where
  c0 : w.cell? ⟨b, 0, none⟩ = some (.int .i64 x.k)
  c1 : w.cell? ⟨b, 1, none⟩ = some (.int .i64 x.a)
  c2 : w.cell? ⟨b, 2, none⟩ = some (.int .i64 x.b)
  c3 : w.cell? ⟨b, 3, none⟩ = some (.int .i64 x.n)
  c4 : w.cell? ⟨b, 4, none⟩ = some (.int .i64 x.m)
theorem Nd5.new (w : World) (x : Nd) (t : TypeId) : Nd5 (w.alloc (.cells #[.int .i64 x.k, .int .i64 x.a, .int .i64 x.b, .int .i64 x.n, .int .i64 x.m] t)) w.heap.size x :=
  ⟨by simp [go_sem], by simp [go_sem], by simp [go_sem], by simp [go_sem], by simp [go_sem]⟩
theorem Nd5.below {w w' : World} {b C : Nat} {x : Nd} (h : Nd5 w b x) (hb : Below C w w') (hC : b < C) : Nd5 w' b x :=
  ⟨(hb.cell (p := ⟨b, 0, none⟩) hC).trans h.c0, (hb.cell (p := ⟨b, 1, none⟩) hC).trans h.c1, (hb.cell (p := ⟨b, 2, none⟩) hC).trans h.c2, (hb.cell (p := ⟨b, 3, none⟩) hC).trans h.c3, (hb.cell (p := ⟨b, 4, none⟩) hC).trans h.c4⟩

/-- The nodes below a node that can stand at the place k. -/
theorem kids_form {x : Nd} {k : Nat} (h : kidsOk x k = true) : (x.a = -1 ∧ x.b = -1) ∨ (∃ j : Nat, x.a = (j : Int) ∧ j < k ∧ x.b = -1) ∨ ∃ j j2 : Nat, x.a = (j : Int) ∧ j < k ∧ x.b = (j2 : Int) ∧ j2 < k ∧ j ≠ j2 := by
  rcases arity_cases x.k with e | e | e | e
  · simp [kidsOk, e] at h
    exact .inl h
  · simp [kidsOk, e] at h
    obtain ⟨j, hj, hjk⟩ := inR_toNat h.1
    exact .inr (.inl ⟨j, hj, hjk, h.2⟩)
  · simp [kidsOk, e] at h
    obtain ⟨⟨h1, h2⟩, h3⟩ := h
    obtain ⟨j, hj, hjk⟩ := inR_toNat h1
    obtain ⟨j2, hj2, hjk2⟩ := inR_toNat h2
    exact .inr (.inr ⟨j, j2, hj, hjk, hj2, hjk2, by rintro rfl; exact h3 (hj.trans hj2.symm)⟩)
  · simp [kidsOk, e] at h
theorem node_no {l : List Nd} {k : Nat} {x : Nd} (hx : l[k]? = some x) (h : numsOk x = false ∨ kidsOk x k = false) : ¬ PipeOk l := fun hp => by
  have hn := hp.node k x hx
  simp only [nodeOk, Bool.and_eq_true] at hn
  rcases h with h | h
  · rw [hn.1] at h; cases h
  · rw [hn.2] at h; cases h

theorem uses_succ {l : List Nd} {k : Nat} (h : ∀ i : Nat, i < k → useOf l (i : Int) = 1) (h2 : useOf l (k : Int) = 1) : ∀ i : Nat, i < k + 1 → useOf l (i : Int) = 1 := fun i hi => by
  by_cases e : i = k
  · subst e; exact h2
  · exact h i (by omega)
theorem valid_end {l : List Nd} (hg : Good l l.length) (hu : ∀ i : Nat, i + 1 < l.length → useOf l (i : Int) = 1) : pipeOk l = inR l.length 1 12 := by
  rw [Bool.eq_iff_iff, pipeOk_iff, inR_iff]
  exact ⟨fun hp => ⟨by have := hp.low; omega, by have := hp.high; omega⟩, fun ⟨h1, h2⟩ => ⟨fun i x hx => hg i x (List.getElem?_eq_some_iff.1 hx).1 hx, hu, by omega, by omega⟩⟩

set_option maxHeartbeats 3200000 in
theorem specvalidPipe_any (A : Option Addr) (c : Nat) (l : List Nd) (w : World) (B : Nat) (h : RdN w B A l) (hB : B ≤ w.heap.size) (hn : l.length ≤ 1048576) :
    Calls Try.prog 61 #[.agg #[.slice A l.length c]] w fun e w' => e = .returned (.bool (pipeOk l)) ∧ Below w.heap.size w w' := by
  have hmk := run_make_row' (P := Try.prog) 23 3 (.int .i64 0) 8 Try.underlying23 Try.infoInt2 rfl .i64 .i64 l.length (by omega) (by omega)
  go_enter Try.func61, Try.ntmps61
  go_wp2
  clear hmk
  go_loopw [4] (fun i wr => ∃ k : Nat, k ≤ l.length ∧ i = .int .i64 k ∧ Good l k ∧ Bk wr (w.heap.size + 1) 3 (ints (counts l k l.length)) ∧ Bk wr w.heap.size 39 [.slice A l.length c] ∧ Below w.heap.size w wr) (fun i _ => l.length - (intOf i).toNat)
  case atStart => exact ⟨0, Nat.zero_le _, rfl, Good.zero _, counts_made _ _ _ _ (by simp), (Bk.new w 39 [.slice A l.length c]).alloc _, ((Below.refl _ _).alloc (Nat.le_refl _) _).alloc (by simp) _⟩
  case round =>
    obtain ⟨k, hk, rfl, hgood, hbk, hbox, hbl⟩ := hrel
    have hcb : wr.cell? ⟨w.heap.size, 0, none⟩ = some (.slice A l.length c) := hbox.cell 0
    by_cases hlt : k < l.length
    · obtain ⟨b, o, x, rfl, hbB, hx, hc⟩ := (h.below hbl hB).at_ hlt
      obtain ⟨c0, c1, c2, c3, c4⟩ := hc
      have Hgood := Lib.hid hgood
      have Hbk := Lib.hid hbk
      have Hbox := Lib.hid hbox
      have Hbl := Lib.hid hbl
      have Hx := Lib.hid hx
      clear hgood hbk hbl hx h hbox
      have hgw : w.heap.size + 1 < wr.heap.size := Hbk.out.lt
      have hsz := Hbl.out.size
      have hal := Hbl.out.alloc hsz (.cells #[.int .i64 x.k, .int .i64 x.a, .int .i64 x.b, .int .i64 x.n, .int .i64 x.m] 97)
      have hbk0 := Hbk.out.alloc (.cells #[.int .i64 x.k, .int .i64 x.a, .int .i64 x.b, .int .i64 x.n, .int .i64 x.m] 97)
      have hbx0 := Hbox.out.alloc (.cells #[.int .i64 x.k, .int .i64 x.a, .int .i64 x.b, .int .i64 x.n, .int .i64 x.m] 97)
      have hnd0 := Nd5.new wr x 97
      have Hal := Lib.hid hal
      have Hbk0 := Lib.hid hbk0
      have Hbx0 := Lib.hid hbx0
      have Hnd0 := Lib.hid hnd0
      have hk20 : k ≤ 1048576 := by omega
      clear hal hbk0 hbx0 hnd0
      go_wp2_with fail
      refine (specNums_any x _).mono ?_
      rintro e w1 ⟨rfl, hb1⟩
      have hlt1 : wr.heap.size < w1.heap.size := by have := hb1.size; simp at this; omega
      have Hal1 := Lib.hid (Hal.out.trans (hb1.mono Hal.out.size))
      have Hbk1 := Lib.hid (Hbk0.out.below hb1 Hbk0.out.lt)
      have Hbx1 := Lib.hid (Hbx0.out.below hb1 Hbx0.out.lt)
      have Hnd1 := Lib.hid (Hnd0.out.below hb1 (by simp))
      clear hb1 hcb c0 c1 c2 c3 c4
      cases hnm : numsOk x
      · have Hnm := Lib.hid hnm
        clear hnm
        go_wp2_with fail
        go_ret
        exact ⟨ret_bool (pipeOk_no (node_no Hx.out (.inl Hnm.out))).symm, Hal1.out⟩
      · have Hnm := Lib.hid hnm
        clear hnm
        obtain ⟨d0, d1, d2, d3, d4⟩ := Hnd1.out
        go_wp2_with fail
        refine (specKids_any x k _ hk20).mono ?_
        rintro e w2 ⟨rfl, hb2⟩
        have hlt2 : wr.heap.size < w2.heap.size := Nat.lt_of_lt_of_le hlt1 hb2.size
        have Hal2 := Lib.hid (Hal1.out.trans (hb2.mono Hal1.out.size))
        have Hbk2 := Lib.hid (Hbk1.out.below hb2 Hbk1.out.lt)
        have Hbx2 := Lib.hid (Hbx1.out.below hb2 Hbx1.out.lt)
        have Hnd2 := Lib.hid (Hnd1.out.below hb2 hlt1)
        clear hb2 d0 d1 d2 d3 d4
        cases hkd : kidsOk x k
        · have Hkd := Lib.hid hkd
          clear hkd
          go_wp2_with fail
          go_ret
          exact ⟨ret_bool (pipeOk_no (node_no Hx.out (.inr Hkd.out))).symm, Hal2.out⟩
        · have Hgood2 := Lib.hid (Hgood.out.succ Hx.out (by rw [nodeOk, Hnm.out, hkd]; rfl))
          obtain ⟨d0, d1, d2, d3, d4⟩ := Hnd2.out
          rcases kids_form hkd with ⟨ha, hb⟩ | ⟨j, ha, hj, hb⟩ | ⟨j, j2, ha, hj, hb, hj2, hne⟩
          · rw [ha] at d1
            rw [hb] at d2
            have Ha := Lib.hid ha
            have Hb := Lib.hid hb
            clear ha hb hkd
            go_wp2
            go_roundw
            case rel => exact ⟨k + 1, by omega, by go_num, Hgood2.out, by rw [← counts_none Hx.out Ha.out Hb.out]; exact Hbk2.out, Hbx2.out, Hal2.out⟩
            case measure => simp [intOf]; omega
          · rw [ha] at d1
            rw [hb] at d2
            have Ha := Lib.hid ha
            have Hb := Lib.hid hb
            obtain ⟨u, hu⟩ : ∃ u : Nat, u = useOf (l.take k) (j : Int) := ⟨_, rfl⟩
            have hu2 : u ≤ 2097152 := by rw [hu]; have := useOf_le (l.take k) (j : Int); simp at this; omega
            have e0 : w2.cell? ⟨w.heap.size + 1, j, none⟩ = some (.int .i64 (u : Int)) := by rw [Hbk2.out.cell, ints_get, counts_get _ _ (by omega), hu]; rfl
            have f0 := Hbk2.out.free j
            have Hu := Lib.hid hu
            clear ha hb hkd hu
            go_wp2
            go_region
            all_goals
              go_wp2
              go_roundw
              case rel => exact ⟨k + 1, by omega, by go_num, Hgood2.out, counts_step1 Hbk2.out Hx.out Ha.out Hb.out Hu.out, Hbx2.out.far (p := ⟨w.heap.size + 1, j, none⟩) (Nat.ne_of_lt (Nat.lt_succ_self _)) _, (Hal2.out.setCell (p := ⟨w.heap.size + 1, j, none⟩) (Nat.le_succ _) _).drew⟩
              case measure => simp [intOf]; omega
          · rw [ha] at d1
            rw [hb] at d2
            have Ha := Lib.hid ha
            have Hb := Lib.hid hb
            obtain ⟨u, hu⟩ : ∃ u : Nat, u = useOf (l.take k) (j : Int) := ⟨_, rfl⟩
            obtain ⟨v, hv⟩ : ∃ v : Nat, v = useOf (l.take k) (j2 : Int) := ⟨_, rfl⟩
            have hu2 : u ≤ 2097152 := by rw [hu]; have := useOf_le (l.take k) (j : Int); simp at this; omega
            have hv2 : v ≤ 2097152 := by rw [hv]; have := useOf_le (l.take k) (j2 : Int); simp at this; omega
            have e0 : w2.cell? ⟨w.heap.size + 1, j, none⟩ = some (.int .i64 (u : Int)) := by rw [Hbk2.out.cell, ints_get, counts_get _ _ (by omega), hu]; rfl
            have e1 : w2.cell? ⟨w.heap.size + 1, j2, none⟩ = some (.int .i64 (v : Int)) := by rw [Hbk2.out.cell, ints_get, counts_get _ _ (by omega), hv]; rfl
            have f0 := Hbk2.out.free j
            have f1 := Hbk2.out.free j2
            have Hu := Lib.hid hu
            have Hv := Lib.hid hv
            have Hne : Hid (j ≠ j2) := hne
            have hne2 : j2 ≠ j := fun e => hne e.symm
            clear ha hb hkd hu hv
            go_wp2
            go_region
            all_goals
              go_wp2
              go_region
            all_goals
              go_wp2
              go_roundw
              case rel => exact ⟨k + 1, by omega, by go_num, Hgood2.out, counts_step2 Hbk2.out Hx.out Ha.out Hb.out Hne.out Hu.out Hv.out, (Hbx2.out.far (p := ⟨w.heap.size + 1, j, none⟩) (Nat.ne_of_lt (Nat.lt_succ_self _)) _).far (p := ⟨w.heap.size + 1, j2, none⟩) (Nat.ne_of_lt (Nat.lt_succ_self _)) _, ((Hal2.out.setCell (p := ⟨w.heap.size + 1, j, none⟩) (Nat.le_succ _) _).setCell (p := ⟨w.heap.size + 1, j2, none⟩) (Nat.le_succ _) _).drew.drew⟩
              case measure => simp [intOf]; omega
    · obtain rfl : k = l.length := by omega
      have Hgood := Lib.hid hgood
      have Hbk := Lib.hid hbk
      have Hbl := Lib.hid hbl
      clear hgood hbk hbl h
      go_wp2
      go_loop [6] (fun i => ∃ k : Nat, k ≤ l.length ∧ i = .int .i64 k ∧ ∀ i : Nat, i < k → useOf l (i : Int) = 1) (fun i => l.length - (intOf i).toNat)
      case atStart => exact ⟨0, Nat.zero_le _, rfl, fun i hi => absurd hi (by omega)⟩
      case round =>
        obtain ⟨k, hk2, rfl, hone⟩ := hrel
        have Hone := Lib.hid hone
        clear hone
        by_cases hlt2 : k + 1 < l.length
        · obtain ⟨u, hu⟩ : ∃ u : Nat, u = useOf l (k : Int) := ⟨_, rfl⟩
          have e0 : wr.cell? ⟨w.heap.size + 1, k, none⟩ = some (.int .i64 (u : Int)) := by rw [Hbk.out.cell, ints_get, counts_get _ _ (by omega), List.take_length, hu]; rfl
          have Hu := Lib.hid hu
          clear hu
          by_cases hu1 : u = 1
          · have hub : ((u : Int) != 1) = false := by simp [hu1]
            have Hu1 := Lib.hid hu1
            clear hu1
            go_wp2
            go_round
            case rel => exact ⟨k + 1, by omega, by go_num, uses_succ Hone.out (Hu.out.symm.trans Hu1.out)⟩
            case measure => simp [intOf]; omega
          · have hub : ((u : Int) != 1) = true := by simp; omega
            have Hu1 : Hid (¬ u = 1) := hu1
            clear hu1
            go_wp2
            go_ret
            exact ⟨ret_bool (pipeOk_no fun hp => Hu1.out (Hu.out.trans (hp.uses k hlt2))).symm, Hbl.out⟩
        · have Hend := Lib.hid (valid_end Hgood.out (fun i hi => Hone.out i (by omega)))
          go_wp2_with (go_at_call 45; refine (specInR_any _ _ _ _).mono ?_; rintro e w1 ⟨rfl, rfl⟩)
          go_ret
          exact ⟨ret_bool Hend.out.symm, Hbl.out⟩

end Go.Proofs.Ythfniffecceldaa

/- Contracts of the functions on states (a box of a slice of cells), and of those that make new ones. -/
namespace Go.Proofs.Ythfniffecceldaa
open Go.RowKit

end Go.Proofs.Ythfniffecceldaa

/- Contracts: the state of a pipe before the first pull, told by the reference and by the program. -/
namespace Go.Proofs.Ythfniffecceldaa
open Go.RowKit

/-- A new state. -/
structure NewOf (l : List Nd) (q : List Cl) : Prop where
  no : pipeOk l = false → q = []
  yes : pipeOk l = true → q = List.replicate l.length zeroCl
theorem Bk.newCl {w : World} {g n lo hi : Nat} (h : Bk w g 66 (madeCl n)) (h1 : lo ≤ g) (h2 : g < hi) : OwnCl w lo hi (some ⟨g, 0, none⟩) (List.replicate n zeroCl) := fun _ =>
  ⟨g, 0, madeCl n, rfl, h1, h2, h, fun k x hx => by
    have hk : k < n := by have := (List.getElem?_eq_some_iff.1 hx).1; simpa using this
    rw [List.getElem?_replicate, if_pos hk] at hx
    rw [← Option.some.inj hx, Nat.zero_add]
    exact madeCl_in n k hk⟩

set_option maxHeartbeats 1600000 in
theorem specnewState_any (A : Option Addr) (c n : Nat) (w : World) (hn : n ≤ 1048576) :
    Calls Try.prog 46 #[.agg #[.slice A n c]] w fun e w' => e = .returned (.agg #[.slice (some ⟨w.heap.size + 2, 0, none⟩) n n]) ∧ Bk w' (w.heap.size + 2) 66 (madeCl n) ∧ Below w.heap.size w w' := by
  have hmk := run_makeCl (P := Try.prog) 58 66 Try.underlying58 Try.infoCl n hn
  go_enter Try.func46, Try.ntmps46
  go_wp2
  refine bodyPost_ret (v := .agg #[.slice (some ⟨w.heap.size + 2, 0, none⟩) n n]) (by simp [results, Try.results46, go_sem]) rfl ⟨rfl, ?_, ?_⟩
  · have hs : ((w.alloc (.cells #[.slice A n c] 39)).alloc (.cells #[.slice (some ⟨w.heap.size + 2, 0, none⟩) n n] 60)).heap.size = w.heap.size + 2 := by simp
    have := Bk.new ((w.alloc (.cells #[.slice A n c] 39)).alloc (.cells #[.slice (some ⟨w.heap.size + 2, 0, none⟩) n n] 60)) 66 (madeCl n)
    rw [hs] at this
    exact this
  · exact (((Below.refl _ _).alloc (Nat.le_refl _) _).alloc (by simp) _).alloc (by simp; omega) _

set_option maxRecDepth 100000 in
set_option maxHeartbeats 1600000 in
theorem implNewState_any (A : Option Addr) (c : Nat) (l : List Nd) (w : World) (B : Nat) (q : List Cl) (hq : Hid (NewOf l q)) (h : RdN w B A l) (hB : B ≤ w.heap.size) (hn : l.length ≤ 1048576) :
    Calls Try.prog 72 #[.agg #[.slice A l.length c]] w fun e w' => ∃ A' c', e = .returned (.agg #[.slice A' q.length c']) ∧ OwnCl w' w.heap.size w'.heap.size A' q ∧ Below w.heap.size w w' := by
  obtain ⟨W0, hW0⟩ : ∃ W0 : World, W0 = (w.alloc (.cells #[.slice A l.length c] 39)).alloc (.cells #[.slice none 0 0] 60) := ⟨_, rfl⟩
  have hb0 : Below w.heap.size w W0 := by rw [hW0]; exact ((Below.refl w.heap.size w).alloc (Nat.le_refl _) _).alloc (by simp) _
  have hx0 : Bk W0 w.heap.size 39 [.slice A l.length c] := by rw [hW0]; exact (Bk.new _ _ [_]).alloc _
  have hr0 : Bk W0 (w.heap.size + 1) 60 [.slice none 0 0] := by
    rw [hW0]
    have := Bk.new (w.alloc (.cells #[.slice A l.length c] 39)) 60 [.slice none 0 0]
    simpa using this
  have H0 := Lib.hid (h.below hb0 hB)
  have Hb0 := Lib.hid hb0
  have Hx0 := Lib.hid hx0
  have Hr0 := Lib.hid hr0
  have HW0 := Lib.hid hW0
  have hz0 := hb0.size
  clear h hb0 hx0 hr0 hW0
  go_enter Try.func72, Try.ntmps72
  go_wp2_with fail
  rw [← HW0.out]
  refine (implValidPipe_any A c l W0 B H0.out (by omega) hn).mono ?_
  rintro e w1 ⟨rfl, hb1⟩
  have Hb1 := Lib.hid (Hb0.out.trans (hb1.mono hz0))
  have Hx1 := Lib.hid (Hx0.out.below hb1 Hx0.out.lt)
  have Hr1 := Lib.hid (Hr0.out.below hb1 Hr0.out.lt)
  have hc1 : w1.cell? ⟨w.heap.size, 0, none⟩ = some (.slice A l.length c) := Hx1.out.cell 0
  have d1 : w1.cell? ⟨w.heap.size + 1, 0, none⟩ = some (.slice none 0 0) := Hr1.out.cell 0
  have f1 := Hr1.out.free 0
  have hz1 := Hb1.out.size
  have hr1 := Hr1.out.lt
  clear hb1 HW0
  cases hv : pipeOk l
  · obtain rfl := hq.out.no hv
    have Hv := Lib.hid hv
    clear hv
    go_wp2_with fail
    refine bodyPost_ret (v := .agg #[.slice none 0 0]) (by simp [results, Try.results72, go_sem, d1]) rfl ⟨none, 0, rfl, OwnCl.nil_ _ _ _ _, ?_⟩
    exact Hb1.out.setCell (p := ⟨w.heap.size + 1, 0, none⟩) (by simp) _
  have hqq := hq.out.yes hv
  have hql : q.length = l.length := by rw [hqq]; simp
  have Hqq := Lib.hid hqq
  have Hql := Lib.hid hql
  have Hv := Lib.hid hv
  clear hv hqq hql hq
  have hmk := run_makeCl (P := Try.prog) 58 66 Try.underlying58 Try.infoCl l.length hn
  go_wp2_with fail
  have d2 : ((w1.setCell ⟨w.heap.size + 1, 0, none⟩ (.slice (some ⟨w1.heap.size, 0, none⟩) l.length l.length)).alloc (.cells (madeCl l.length).toArray 66)).cell? ⟨w.heap.size + 1, 0, none⟩ = some (.slice (some ⟨w1.heap.size, 0, none⟩) l.length l.length) := ((Hr1.out.set_ 0 _).alloc _).cell 0
  refine bodyPost_ret (v := .agg #[.slice (some ⟨w1.heap.size, 0, none⟩) l.length l.length]) (by simp [results, Try.results72, go_sem, d2]) rfl ⟨_, _, by rw [Hql.out], ?_, ?_⟩
  · rw [Hqq.out]
    have hsz : (w1.setCell ⟨w.heap.size + 1, 0, none⟩ (.slice (some ⟨w1.heap.size, 0, none⟩) l.length l.length)).heap.size = w1.heap.size := by simp [World.setCell]
    have hbn := Bk.new (w1.setCell ⟨w.heap.size + 1, 0, none⟩ (.slice (some ⟨w1.heap.size, 0, none⟩) l.length l.length)) 66 (madeCl l.length)
    rw [hsz] at hbn
    exact Bk.newCl hbn (by omega) (by simp [World.setCell])
  · exact (Hb1.out.setCell (p := ⟨w.heap.size + 1, 0, none⟩) (by simp) _).alloc (by simp [World.setCell]; omega) _

end Go.Proofs.Ythfniffecceldaa

/- Contracts of the functions that test whether lists are sources, the program's and the reference's. -/
namespace Go.Proofs.Ythfniffecceldaa
open Go.RowKit

set_option maxHeartbeats 400000 in
theorem validItems_any (A : Option Addr) (c : Nat) (l : List Int) (w : World) (B : Nat) (h : RdI w B A l) (hn : l.length ≤ 1048576) :
    Calls Try.prog 60 #[.slice A l.length c] w fun e w' => e = .returned (.bool (rowOk l)) ∧ w = w' := by
  unfold rowOk
  by_cases hlt : l.length ≤ 12
  · cases hb : allB l 0 99
    all_goals
      have Hb := Lib.hid hb
      clear hb
      go_enter Try.func60, Try.ntmps60
      go_wp2_with (go_at_call 77; refine (allWithin_any _ _ _ _ _ _ _ h hn).mono ?_; rintro e w' ⟨rfl, rfl⟩; rw [Hb.out])
      go_ret
      exact ⟨ret_bool (by simp [hlt]), rfl⟩
  · go_enter Try.func60, Try.ntmps60
    go_wp2
    go_ret
    exact ⟨rfl, rfl⟩

set_option maxHeartbeats 400000 in
theorem implValidSources_any (A : Option Addr) (c : Nat) (rows : List (List Int)) (w : World) (B : Nat) (h : RdR w B A rows) (hn : rows.length ≤ 1048576) (hr : ∀ r ∈ rows, r.length ≤ 1048576) :
    Calls Try.prog 37 #[.slice A rows.length c] w fun e w' => e = .returned (.bool (srcOk rows)) ∧ w = w' := by
  by_cases h3 : rows.length = 3
  · have h3' : ((rows.length : Int) != 3) = false := by simp [h3]
    have H3 := Lib.hid h3
    clear h3
    go_enter Try.func37, Try.ntmps37
    go_wp2
    go_loop [10] (fun i => ∃ k : Nat, k ≤ rows.length ∧ i = .int .i64 k ∧ (rows.take k).all rowOk = true) (fun i => rows.length - (intOf i).toNat)
    case atStart => exact ⟨0, Nat.zero_le _, rfl, by simp⟩
    case round =>
      obtain ⟨k, hk, rfl, hall⟩ := hrel
      have Hall := Lib.hid hall
      clear hall
      by_cases hlt : k < rows.length
      · obtain ⟨ad, r, Ar, cr, rfl, hx, hc, hrd⟩ := h.at_ hlt
        have hrn := hr r (List.mem_of_getElem? hx)
        have Hx := Lib.hid hx
        have Hrd := Lib.hid hrd
        clear hx h hr hrd
        cases hin : rowOk r
        · have Hin := Lib.hid hin
          clear hin
          go_wp2_with (go_at_call 60; refine (validItems_any _ _ _ _ _ Hrd.out hrn).mono ?_; rintro e w' ⟨rfl, rfl⟩; rw [Hin.out])
          go_ret
          exact ⟨ret_bool (by rw [srcOk, all_false_of Hx.out Hin.out]; rfl), rfl⟩
        · have Hin := Lib.hid hin
          clear hin
          go_wp2_with (go_at_call 60; refine (validItems_any _ _ _ _ _ Hrd.out hrn).mono ?_; rintro e w' ⟨rfl, rfl⟩; rw [Hin.out])
          go_round
          case rel => exact ⟨k + 1, by omega, by go_num, all_take_succ Hx.out Hin.out Hall.out⟩
          case measure => simp [intOf]; omega
      · go_wp2
        go_ret
        exact ⟨ret_bool (by rw [srcOk, all_of_take (by omega) Hall.out, H3.out]; rfl), rfl⟩
  · have h3' : ((rows.length : Int) != 3) = true := by simp; omega
    have H3 : Hid (rows.length ≠ 3) := h3
    clear h3
    go_enter Try.func37, Try.ntmps37
    go_wp2
    go_ret
    exact ⟨ret_bool (by simp [srcOk, H3.out]), rfl⟩

set_option maxHeartbeats 400000 in
theorem specvalidSources_any (A : Option Addr) (c : Nat) (rows : List (List Int)) (w : World) (B : Nat) (h : RdR w B A rows) (hn : rows.length ≤ 1048576) (hr : ∀ r ∈ rows, r.length ≤ 1048576) :
    Calls Try.prog 35 #[.slice A rows.length c] w fun e w' => e = .returned (.bool (srcOk rows)) ∧ w = w' := by
  go_enter Try.func35, Try.ntmps35
  go_wp2
  go_loop [3] (fun i => ∃ k : Nat, k ≤ rows.length ∧ i = .int .i64 k ∧ (rows.take k).all rowOk = true) (fun i => rows.length - (intOf i).toNat)
  case atStart => exact ⟨0, Nat.zero_le _, rfl, by simp⟩
  case round =>
    obtain ⟨k, hk, rfl, hall⟩ := hrel
    have Hall := Lib.hid hall
    clear hall
    by_cases hlt : k < rows.length
    · obtain ⟨ad, r, Ar, cr, rfl, hx, hc, hrd⟩ := h.at_ hlt
      have hrn := hr r (List.mem_of_getElem? hx)
      have Hx := Lib.hid hx
      have Hrd := Lib.hid hrd
      clear hx h hr hrd
      by_cases h12 : r.length ≤ 12
      · cases hb : allB r 0 99
        · have Hb := Lib.hid hb
          clear hb
          go_wp2_with (go_at_call 59; refine (allIn_any _ _ _ _ _ _ _ Hrd.out hrn).mono ?_; rintro e w' ⟨rfl, rfl⟩; rw [Hb.out])
          go_ret
          exact ⟨ret_bool (by rw [srcOk, all_false_of Hx.out (by rw [rowOk, Hb.out, Bool.and_false])]; rfl), rfl⟩
        · have Hb := Lib.hid hb
          clear hb
          go_wp2_with (go_at_call 59; refine (allIn_any _ _ _ _ _ _ _ Hrd.out hrn).mono ?_; rintro e w' ⟨rfl, rfl⟩; rw [Hb.out])
          go_round
          case rel => exact ⟨k + 1, by omega, by go_num, all_take_succ Hx.out (by rw [rowOk, Hb.out, decide_eq_true h12]; rfl) Hall.out⟩
          case measure => simp [intOf]; omega
      · go_wp2
        go_ret
        exact ⟨ret_bool (by rw [srcOk, all_false_of Hx.out (by rw [rowOk, decide_eq_false h12, Bool.false_and])]; rfl), rfl⟩
    · go_wp2
      go_ret
      exact ⟨ret_bool (by rw [srcOk, all_of_take (by omega) Hall.out, Bool.true_and]; exact beq_three _), rfl⟩

end Go.Proofs.Ythfniffecceldaa

/- Contracts: the tree of the node i (the program). -/
namespace Go.Proofs.Ythfniffecceldaa
open Go.RowKit Go.Sort

end Go.Proofs.Ythfniffecceldaa

/- Contracts: how deep the node i is (the reference); the tree of the node i (the program). -/
namespace Go.Proofs.Ythfniffecceldaa
open Go.RowKit Go.Sort

/-- The cells of a node. -/
def five (x : Nd) : Array Value := #[.int .i64 x.k, .int .i64 x.a, .int .i64 x.b, .int .i64 x.n, .int .i64 x.m]

end Go.Proofs.Ythfniffecceldaa

/- Contracts: the depth of a tree, asked of a value behind the interface; the depth of a pipe, told by the reference and by the program. -/
namespace Go.Proofs.Ythfniffecceldaa
open Go.RowKit Go.Sort

/-- The depth of a pipe; -1 if it is not valid. -/
structure DepthOf (l : List Nd) (d : Int) : Prop where
  no : pipeOk l = false → d = -1
  yes : ∀ {t : T}, pipeOk l = true → IsTree l (l.length - 1) t → d = (t.depth : Nat)

theorem tree_of_pipe {l : List Nd} (h : pipeOk l = true) : ∃ t, IsTree l (l.length - 1) t := by
  have hp := pipeOk_iff.1 h
  exact IsTree.ex hp l.length _ (by have := hp.low; omega) (by have := hp.low; omega)
theorem low_of {l : List Nd} (h : pipeOk l = true) : 1 ≤ l.length := (pipeOk_iff.1 h).low
theorem high_of {l : List Nd} (h : pipeOk l = true) : l.length ≤ 12 := (pipeOk_iff.1 h).high

end Go.Proofs.Ythfniffecceldaa

/- Contracts: whether a state is one of a pipe and sources, told by the reference and by the program. -/
namespace Go.Proofs.Ythfniffecceldaa
open Go.RowKit

/-- The greatest count of a node. -/
def mostOf (x : Nd) (src : List (List Int)) : Int :=
  if x.k = 0 then ((src.getD x.n.toNat []).length : Int) else if x.k = 3 then x.n else if x.k = 4 then x.n else if x.k = 6 then 1 else if x.k = 10 then 1 else if x.k = 11 then 99 else 0
/-- Whether a cell can be that of a node. -/
def cellOk (src : List (List Int)) (p : Nd × Cl) : Bool := inR p.2.n 0 (mostOf p.1 src) && (inR p.2.l 0 99 && inR p.2.r 0 99)
/-- Whether there are a cell for each node, and each one can be that. -/
def cellsOk (l : List Nd) (src : List (List Int)) (cs : List Cl) : Bool := decide (cs.length = l.length) && (l.zip cs).all (cellOk src)
def stateOk (l : List Nd) (src : List (List Int)) (cs : List Cl) : Bool := pipeOk l && (srcOk src && cellsOk l src cs)
theorem zip_get {l : List Nd} {cs : List Cl} {k : Nat} {x : Nd} {c : Cl} (hx : l[k]? = some x) (hc : cs[k]? = some c) : (l.zip cs)[k]? = some (x, c) := by
  rw [List.getElem?_zip_eq_some]; exact ⟨hx, hc⟩
theorem src_rows {src : List (List Int)} (h : srcOk src = true) : src.length = 3 ∧ ∀ r ∈ src, r.length ≤ 12 := by
  simp only [srcOk, Bool.and_eq_true, decide_eq_true_eq, List.all_eq_true, rowOk] at h
  exact ⟨h.2, fun r hr => (h.1 r hr).1⟩
theorem mostOf_bd {x : Nd} {src : List (List Int)} (h : srcOk src = true) (hn : numsOk x = true) : 0 ≤ mostOf x src ∧ mostOf x src ≤ 1000 := by
  obtain ⟨h3, hr⟩ := src_rows h
  unfold mostOf
  split
  · rename_i hk
    refine ⟨by omega, ?_⟩
    have : (src.getD x.n.toNat []).length ≤ 12 := by
      rw [List.getD_eq_getElem?_getD]
      cases e : src[x.n.toNat]? with
      | none => simp
      | some r => exact hr r (List.mem_of_getElem? e)
    omega
  · split
    · rename_i hk; simp [numsOk, hk, inR] at hn; omega
    · split
      · rename_i hk; simp [numsOk, hk, inR] at hn; omega
      · split
        · omega
        · split
          · omega
          · split <;> omega

end Go.Proofs.Ythfniffecceldaa

/- Contracts: the nodes of a tree, in order, behind others (the program: a method of a value behind the interface). -/
namespace Go.Proofs.Ythfniffecceldaa
open Go.RowKit

/-- Nodes with one below have no second one. -/
def T.Fit : T → Prop
  | .leaf _ => True
  | .stem x t => x.b = -1 ∧ t.Fit
  | .fork _ a b => a.Fit ∧ b.Fit
theorem IsTree.fit {l : List Nd} {i : Nat} {t : T} (h : IsTree l i t) : t.Fit := by
  induction h with
  | leaf => trivial
  | stem _ _ _ _ h2 _ ih => exact ⟨h2, ih⟩
  | fork _ _ _ _ _ _ _ _ iha ihb => exact ⟨iha, ihb⟩

/-- The nodes of the tree of the node i, in order; none if the pipe is not valid. -/
structure OrdOf (l : List Nd) (ok : Bool) (i : Nat) (q : List Nd) : Prop where
  no : ok = false → q = []
  yes : ∀ {t : T}, ok = true → IsTree l i t → q = t.put 0

theorem own_nil (w : World) (base : Nat) : OwnN w base none 0 [] := World.ownsRow_nil w base _ 5

end Go.Proofs.Ythfniffecceldaa

/- Contracts: a pipe with its nodes in order, and the part of a node, told by the reference and by the program. -/
namespace Go.Proofs.Ythfniffecceldaa
open Go.RowKit

theorem IsTree.size_le {l : List Nd} {i : Nat} {t : T} (h : IsTree l i t) : t.size + 1 ≤ 2 ^ (i + 1) := by
  induction h with
  | @leaf i => simp only [T.size]; have := Nat.one_lt_two_pow (n := i + 1) (by omega); omega
  | @stem i j x t _ _ _ hj _ _ ih =>
    simp only [T.size]
    have h1 : 2 ^ (j + 1) ≤ 2 ^ i := Nat.pow_le_pow_right (by decide) (by omega)
    have h2 : 2 ^ (i + 1) = 2 * 2 ^ i := by rw [Nat.pow_succ, Nat.mul_comm]
    have h3 : 1 ≤ 2 ^ i := Nat.one_le_two_pow
    omega
  | @fork i j j2 x a b _ _ _ hj _ hj2 _ _ iha ihb =>
    simp only [T.size]
    have h1 : 2 ^ (j + 1) ≤ 2 ^ i := Nat.pow_le_pow_right (by decide) (by omega)
    have h4 : 2 ^ (j2 + 1) ≤ 2 ^ i := Nat.pow_le_pow_right (by decide) (by omega)
    have h2 : 2 ^ (i + 1) = 2 * 2 ^ i := by rw [Nat.pow_succ, Nat.mul_comm]
    omega
theorem IsTree.size_12 {l : List Nd} {i : Nat} {t : T} (h : IsTree l i t) (hi : i < 12) : t.size ≤ 4096 := by
  have h1 := h.size_le
  have h2 : 2 ^ (i + 1) ≤ 2 ^ 12 := Nat.pow_le_pow_right (by decide) (by omega)
  omega

theorem Wrote.below {w W w1 : World} {base c' : Nat} {A A' : Option Addr} {q : List Nd} (k : Wrote W w1 base A A' c' q) (h : Below w.heap.size w W) (hA : ∀ g, rowOf A = some g → w.heap.size ≤ g) : Below w.heap.size w w1 :=
  h.grown k.grown h.size hA

theorem RdN.nil_ (w : World) (B : Nat) : RdN w B none [] := fun h => absurd h (by simp)

end Go.Proofs.Ythfniffecceldaa

/- Nodes are appended to a slice of nodes of the call's own; a slice of nodes is cloned. -/
namespace Go.Proofs.Ythfniffecceldaa
open Go.RowKit

theorem nds_one (l : List Nd) : ∀ u ∈ nds l, u.oneCell' = true := by
  induction l with
  | nil => intro u hu; simp [nds] at hu
  | cons x l ih =>
    intro u hu
    simp only [nds, List.mem_cons] at hu
    rcases hu with rfl | rfl | rfl | rfl | rfl | hu
    · rfl
    · rfl
    · rfl
    · rfl
    · rfl
    · exact ih u hu

theorem rd_flat {w : World} {b o : Nat} {l : List Nd} (hc : ∀ (k : Nat) (x : Nd), l[k]? = some x → At5 w b (o + k * 5) x) (j : Nat) (u : Value) (hj : (nds l)[j]? = some u) : w.cell? ((⟨b, o, none⟩ : Addr).add j) = some u := by
  rw [Addr.add_lit]
  have hlt : j < l.length * 5 := by rw [← nds_len]; exact (List.getElem?_eq_some_iff.1 hj).1
  obtain ⟨k, hk⟩ : ∃ k, k = j / 5 := ⟨_, rfl⟩
  obtain ⟨r, hr⟩ : ∃ r, r = j % 5 := ⟨_, rfl⟩
  have hjk : j = k * 5 + r := by omega
  have hr5 : r < 5 := by omega
  have hkl : k < l.length := by omega
  have hx : l[k]? = some l[k] := List.getElem?_eq_getElem hkl
  obtain ⟨c0, c1, c2, c3, c4⟩ := hc k _ hx
  obtain ⟨h0, h1, h2, h3, h4⟩ := nds_at hx
  clear hk hr
  subst hjk
  have hrr : r = 0 ∨ r = 1 ∨ r = 2 ∨ r = 3 ∨ r = 4 := by omega
  rcases hrr with rfl | rfl | rfl | rfl | rfl
  · exact c0.trans (h0.symm.trans hj)
  · rw [← Nat.add_assoc]; exact c1.trans (h1.symm.trans hj)
  · rw [← Nat.add_assoc]; exact c2.trans (h2.symm.trans hj)
  · rw [← Nat.add_assoc]; exact c3.trans (h3.symm.trans hj)
  · rw [← Nat.add_assoc]; exact c4.trans (h4.symm.trans hj)

theorem wpList_append_nodes {ops : Array Oper} {rest : List Oper} {o : Oper} {a : Act} {Q : Exit → Act → World → Prop} {w : World} (hgd : o.guard = none) (s y : Operand)
    (ho : o.op = .call { callee := .builtin .append, args := #[s, y], argTypes := #[37, 37] }) (base : Nat) (A : Option Addr) (c : Nat) (l xs : List Nd) (n : Nat) (hnl : l.length = n) (hs : a.eval s = .slice A n c) (hown : OwnN w base A c l)
    (ad : Addr) (m cx : Nat) (hx : a.eval y = .slice (some ad) m cx) (hm : xs.length = m) (hread : ∀ j u, (nds xs)[j]? = some u → w.cell? (ad.add j) = some u) (hpos : 0 < m) (hn : n + m ≤ 1048576) (hb : base ≤ w.heap.size)
    (h : ∀ (A' : Option Addr) (c' : Nat) (w' : World), Appd w w' base A A' c' (l ++ xs) → wpList Try.prog ops Q rest (a.put o.dst (.slice A' (n + m) c')) w') :
    wpList Try.prog ops Q (o :: rest) a w := by
  subst hnl
  subst hm
  obtain ⟨i, hi, hz0, hz1, hz2⟩ := info_parts Try.infoNode
  refine wpList_plain hgd fun K hK => ?_
  obtain ⟨v', w', hr, h2, h3, _⟩ := run_append_own (P := Try.prog) w base 37 o.type 97 i _ 5 40 Try.underlying37 hi hz0 hz1 hz2 rfl (by decide)
    (.slice A l.length c) l.length (nds l) hown ad xs.length cx (nds xs) (nds_len xs) hread (nds_one xs) (by unfold maxLen; omega) (by omega) (by omega)
  have hw := append_where w Try.underlying37 hi hz0 hz1 hz2 hown (news := nds xs) (m := xs.length) (nds_len xs) hread (nds_one xs) hpos (by unfold maxLen; omega) (by omega) hr
  have hv : ∃ A' c', v' = .slice A' (l.length + xs.length) c' := by
    obtain ⟨_, ⟨_, h0⟩ | ⟨g, cap, cur, hv, _⟩⟩ := h2
    · omega
    · exact ⟨_, _, hv⟩
  obtain ⟨A', c', rfl⟩ := hv
  unfold Oper.wp execOp
  simp only [ho, resolve, invoke, builtin, Sem.run_bind, Sem.run_pure, Result.andThen_ok, List.map_toArray, List.map_cons, List.map_nil, hs, hx, hr]
  refine hK _ _ (h A' c' w' ⟨?_, by rw [← ownBlock_slice A l.length c]; exact h3, by simpa only [ownBlock_slice] using hw⟩)
  unfold OwnN
  rw [List.length_append, nds_append]
  exact h2

theorem own_empty (w : World) : OwnN (w.alloc (.cells #[] 97)) w.heap.size (some ⟨w.heap.size, 0, none⟩) 0 [] := by
  have h1 : Bk (w.alloc (.cells #[] 97)) w.heap.size 97 (nds []) := Bk.new w 97 []
  exact h1.own (Nat.le_refl _) (by simp)

theorem nilN (ad : Addr) (n c : Nat) (w : World) : (binOp .eql 37 (.slice (some ad) n c) (.slice none 0 0)).run Try.prog w = .ok (.bool false) w := by kernel_rfl

end Go.Proofs.Ythfniffecceldaa

/- Contracts: a node put on a pipe, told by the reference and by the program. -/
namespace Go.Proofs.Ythfniffecceldaa
open Go.RowKit

/-- Whether the node can be put on the pipe. -/
def putOk (l : List Nd) (x : Nd) : Bool := pipeOk l && ((arity x.k == 1) && (numsOk x && !(l.length == 12)))

/-- A node put on a pipe. -/
structure PutOf (l : List Nd) (x : Nd) (q : List Nd) (ok : Bool) : Prop where
  no : putOk l x = false → q = [] ∧ ok = false
  yes : putOk l x = true → q = l ++ [⟨x.k, (l.length : Int) - 1, -1, x.n, x.m⟩] ∧ ok = true

theorem known_of {k : Int} (h : (arity k == 1) = true) : known k = true := by
  rcases kinds k with (rfl | rfl | rfl | rfl | rfl | rfl | rfl | rfl | rfl | rfl | rfl | rfl | rfl | rfl) | ⟨e0, e1, e2, e3, e4, e5, e6, e7, e8, e9, e10, e11, e12, e13⟩
  all_goals first | rfl | exact absurd h (by decide) | (simp only [arity, e0, e1, e2, e3, e4, e5, e6, e7, e8, e9, e10, e11, e12, e13] at h; exact absurd h (by decide))

theorem Bk.drew_ {w : World} {g : Nat} {t : TypeId} {cs : List Value} (h : Bk w g t cs) : Bk w.drew g t cs := h

theorem arity_vals (k : Int) : arity k = 1 ∨ arity k = 0 ∨ arity k = 2 ∨ arity k = -1 := by
  unfold arity
  split
  · simp
  · split
    · simp
    · split <;> simp

end Go.Proofs.Ythfniffecceldaa

/- Plain mathematics: a tree put behind other nodes is that tree moved; what two pipes joined are; what a pipe with moved sources is. -/
namespace Go.Proofs.Ythfniffecceldaa

/-- A node behind n others. -/
def shNd (n : Nat) (x : Nd) : Nd := ⟨x.k, if 0 ≤ x.a then x.a + n else x.a, if 0 ≤ x.b then x.b + n else x.b, x.n, x.m⟩

/-- The nodes have no more below than the tree tells. -/
def T.Fit2 : T → Prop
  | .leaf x => x.a = -1 ∧ x.b = -1
  | .stem x t => x.b = -1 ∧ t.Fit2
  | .fork _ a b => a.Fit2 ∧ b.Fit2
theorem IsTree.fit2 {l : List Nd} {i : Nat} {t : T} (h : IsTree l i t) : t.Fit2 := by
  induction h with
  | leaf _ _ h1 h2 => exact ⟨h1, h2⟩
  | stem _ _ _ _ h2 _ ih => exact ⟨h2, ih⟩
  | fork _ _ _ _ _ _ _ _ iha ihb => exact ⟨iha, ihb⟩
theorem T.put_shift (t : T) : t.Fit2 → ∀ m n : Nat, (t.put m).map (shNd n) = t.put (m + n) := by
  induction t with
  | leaf x =>
    intro h m n
    obtain ⟨h1, h2⟩ := h
    obtain ⟨k, a, b, n', m'⟩ := x
    simp only at h1 h2
    subst h1 h2
    rfl
  | stem x t ih =>
    intro h m n
    obtain ⟨hb, ht⟩ := h
    have hp := t.size_pos
    simp only [T.put, List.map_append, ih ht, List.map_cons, List.map_nil, shNd]
    rw [if_pos (by omega), if_neg (by rw [hb]; omega)]
    have e : (m : Int) + (t.size : Int) - 1 + (n : Int) = ((m + n : Nat) : Int) + (t.size : Int) - 1 := by omega
    rw [e]
  | fork x a b iha ihb =>
    intro h m n
    obtain ⟨ha, hb⟩ := h
    have hp := a.size_pos
    have hq := b.size_pos
    simp only [T.put, List.map_append, iha ha, ihb hb, List.map_cons, List.map_nil, shNd]
    rw [if_pos (by omega), if_pos (by omega)]
    have e : (m : Int) + (a.size : Int) - 1 + (n : Int) = ((m + n : Nat) : Int) + (a.size : Int) - 1 := by omega
    have e2 : (m : Int) + (a.size : Int) + (b.size : Int) - 1 + (n : Int) = ((m + n : Nat) : Int) + (a.size : Int) + (b.size : Int) - 1 := by omega
    have e3 : m + a.size + n = m + n + a.size := by omega
    rw [e, e2, e3]

/-- Whether two pipes can be joined. -/
def joinOk (l r : List Nd) (k : Int) : Bool := pipeOk l && (pipeOk r && ((arity k == 2) && decide (l.length + r.length < 12)))
/-- Two pipes joined. -/
structure JoinOf (l r : List Nd) (k : Int) (q : List Nd) (ok : Bool) : Prop where
  no : joinOk l r k = false → q = [] ∧ ok = false
  yes : ∀ {ta tb : T}, joinOk l r k = true → IsTree l (l.length - 1) ta → IsTree r (r.length - 1) tb → q = (T.fork ⟨k, 0, 0, 0, 0⟩ ta tb).put 0 ∧ ok = true
theorem join_parts (k : Int) (ta tb : T) (hb : tb.Fit2) : (T.fork ⟨k, 0, 0, 0, 0⟩ ta tb).put 0 = ta.put 0 ++ (tb.put 0).map (shNd ta.size) ++ [⟨k, (ta.size : Int) - 1, (ta.size : Int) + (tb.size : Int) - 1, 0, 0⟩] := by
  simp only [T.put, T.put_shift tb hb 0 ta.size]
  simp

/-- A node with its source moved. -/
def mvNd (to : List Int) (x : Nd) : Nd := if x.k = 0 then ⟨x.k, x.a, x.b, to.getD x.n.toNat 0, x.m⟩ else x
/-- Whether the sources of a pipe can be moved. -/
def moveOk (l : List Nd) (to : List Int) : Bool := pipeOk l && (decide (to.length = 3) && allB to 0 2)
/-- A pipe with its sources moved. -/
structure MoveOf (l : List Nd) (to : List Int) (q : List Nd) : Prop where
  no : moveOk l to = false → q = []
  yes : moveOk l to = true → q = l.map (mvNd to)
theorem source_n {l : List Nd} (h : pipeOk l = true) {i : Nat} {x : Nd} (hx : l[i]? = some x) (hk : x.k = 0) : ∃ s : Nat, x.n = (s : Int) ∧ s < 3 := by
  have h1 := (pipeOk_iff.1 h).node i x hx
  simp only [nodeOk, Bool.and_eq_true] at h1
  have h2 := h1.1
  simp [numsOk, hk, inR] at h2
  exact ⟨x.n.toNat, by omega, by omega⟩
theorem nds_set_n {l : List Nd} {k : Nat} {x : Nd} (hx : l[k]? = some x) (v : Int) : (nds l).set (k * 5 + 3) (.int .i64 v) = nds (l.set k ⟨x.k, x.a, x.b, v, x.m⟩) := by
  induction l generalizing k with
  | nil => simp at hx
  | cons y l ih =>
    cases k with
    | zero =>
      simp at hx
      subst hx
      simp [nds]
    | succ k =>
      have e : (k + 1) * 5 + 3 = k * 5 + 3 + 5 := by omega
      rw [e]
      have := ih (k := k) (by simpa using hx)
      simp only [nds, List.set_cons_succ, List.set]
      rw [← this]
theorem mv_step {l : List Nd} {to : List Int} {j : Nat} {x : Nd} (hx : l[j]? = some x) : ((l.take j).map (mvNd to) ++ l.drop j).set j (mvNd to x) = (l.take (j + 1)).map (mvNd to) ++ l.drop (j + 1) := by
  have hj : j < l.length := (List.getElem?_eq_some_iff.1 hx).1
  rw [List.set_append_right _ _ (by simp; omega), take_succ_of hx]
  have e : j - ((l.take j).map (mvNd to)).length = 0 := by simp; omega
  rw [e]
  cases h : l.drop j with
  | nil => have := congrArg List.length h; simp at this; omega
  | cons y r =>
    have : l.drop (j + 1) = r := by rw [← List.drop_drop, h]; rfl
    rw [this]
    simp
theorem mv_same {l : List Nd} {to : List Int} {j : Nat} {x : Nd} (hx : l[j]? = some x) (hk : x.k ≠ 0) : (l.take j).map (mvNd to) ++ l.drop j = (l.take (j + 1)).map (mvNd to) ++ l.drop (j + 1) := by
  have hj : j < l.length := (List.getElem?_eq_some_iff.1 hx).1
  rw [take_succ_of hx]
  cases h : l.drop j with
  | nil => have := congrArg List.length h; simp at this; omega
  | cons y r =>
    have h1 : l.drop (j + 1) = r := by rw [← List.drop_drop, h]; rfl
    have h2 : y = x := by
      have := List.getElem?_drop (xs := l) (i := j) (j := 0)
      rw [h] at this
      simp [hx] at this
      exact this
    rw [h1, h2]
    simp [mvNd, hk]

end Go.Proofs.Ythfniffecceldaa

/- Plain mathematics: the sources of a pipe, ascending, each once. -/
namespace Go.Proofs.Ythfniffecceldaa
open Go.Lib

/-- Whether a pipe has the source s. -/
def srcIn (l : List Nd) (s : Int) : Bool := l.any (fun x => x.k == 0 && x.n == s)
/-- The sources less than s, ascending. -/
def srcs (l : List Nd) (s : Nat) : List Int := ((List.range s).filter (fun s : Nat => srcIn l (s : Int))).map (fun s : Nat => (s : Int))
/-- The sources in the order of the nodes. -/
def nsOf (l : List Nd) : List Int := (l.filter (fun x => x.k == 0)).map (·.n)
structure SrcsOf (l : List Nd) (q : List Int) : Prop where
  no : pipeOk l = false → q = []
  yes : pipeOk l = true → q = srcs l 3

theorem srcs_succ (l : List Nd) (s : Nat) : srcs l (s + 1) = srcs l s ++ (if srcIn l s then [(s : Int)] else []) := by
  unfold srcs
  rw [List.range_succ, List.filter_append, List.map_append]
  congr 1
  by_cases h : srcIn l s <;> simp [h]
theorem srcs_len (l : List Nd) (s : Nat) : (srcs l s).length ≤ s := by
  unfold srcs
  rw [List.length_map]
  have := List.length_filter_le (fun s : Nat => srcIn l (s : Int)) (List.range s)
  simpa using this
theorem nsOf_succ {l : List Nd} {k : Nat} {x : Nd} (h : l[k]? = some x) : nsOf (l.take (k + 1)) = nsOf (l.take k) ++ (if x.k == 0 then [x.n] else []) := by
  unfold nsOf
  rw [take_succ_of h, List.filter_append, List.map_append]
  congr 1
  by_cases e : (x.k == 0) = true
  · simp [e]
  · simp [e]
theorem nsOf_len (l : List Nd) (k : Nat) : (nsOf (l.take k)).length ≤ k := by
  unfold nsOf
  rw [List.length_map]
  have := List.length_filter_le (fun x : Nd => x.k == 0) (l.take k)
  have := List.length_take_le k l
  omega

/-- Two ascending lists with the same members are one. -/
theorem asc_unique : ∀ (a b : List Int), a.Pairwise (· < ·) → b.Pairwise (· < ·) → (∀ x, x ∈ a ↔ x ∈ b) → a = b := by
  intro a
  induction a with
  | nil =>
    intro b _ _ h
    cases b with
    | nil => rfl
    | cons y b => exact absurd ((h y).2 (by simp)) (by simp)
  | cons x a ih =>
    intro b ha hb h
    cases b with
    | nil => exact absurd ((h x).1 (by simp)) (by simp)
    | cons y b =>
      rw [List.pairwise_cons] at ha hb
      have hxy : x = y := by
        have h1 := (h x).1 (by simp)
        have h2 := (h y).2 (by simp)
        rcases List.mem_cons.1 h1 with e | e
        · exact e
        · rcases List.mem_cons.1 h2 with f | f
          · exact f.symm
          · have := ha.1 y f
            have := hb.1 x e
            omega
      subst hxy
      rw [ih b ha.2 hb.2 fun z => ?_]
      constructor
      · intro hz
        rcases List.mem_cons.1 ((h z).1 (List.mem_cons_of_mem _ hz)) with e | e
        · have := ha.1 z hz; omega
        · exact e
      · intro hz
        rcases List.mem_cons.1 ((h z).2 (List.mem_cons_of_mem _ hz)) with e | e
        · have := hb.1 z hz; omega
        · exact e

theorem compact_part (d : Array Int) (hs : ∀ i j, i ≤ j → j < d.size → d[i]! ≤ d[j]!) : ∀ m, m ≤ d.size →
    (∀ x, x ∈ compactUpTo d m ↔ ∃ j, j < m ∧ d[j]! = x) ∧ (compactUpTo d m).Pairwise (· < ·) := by
  intro m
  induction m with
  | zero => intro _; simp [compactUpTo]
  | succ m ih =>
    intro hm
    obtain ⟨h1, h2⟩ := ih (by omega)
    rw [compactUpTo_succ]
    by_cases hk : keeps d m = true
    · rw [if_pos hk]
      refine ⟨fun x => ?_, List.pairwise_append.2 ⟨h2, List.pairwise_singleton _ _, fun a ha b hb => ?_⟩⟩
      · rw [List.mem_append, h1, List.mem_singleton]
        constructor
        · rintro (⟨j, hj, e⟩ | e)
          · exact ⟨j, by omega, e⟩
          · exact ⟨m, by omega, e.symm⟩
        · rintro ⟨j, hj, e⟩
          by_cases hjm : j = m
          · subst hjm; exact .inr e.symm
          · exact .inl ⟨j, by omega, e⟩
      · rw [List.mem_singleton.1 hb]
        obtain ⟨j, hj, e⟩ := (h1 a).1 ha
        have e1 := hs j (m - 1) (by omega) (by omega)
        have e2 := hs (m - 1) m (by omega) (by omega)
        simp only [keeps, decide_eq_true_eq] at hk
        have : m ≠ 0 := by omega
        have hne := hk.resolve_left this
        omega
    · rw [if_neg hk, List.append_nil]
      refine ⟨fun x => ?_, h2⟩
      rw [h1]
      constructor
      · rintro ⟨j, hj, e⟩; exact ⟨j, by omega, e⟩
      · rintro ⟨j, hj, e⟩
        by_cases hjm : j = m
        · subst hjm
          simp only [keeps, decide_eq_true_eq, not_or] at hk
          have h0 : 0 < j := by omega
          exact ⟨j - 1, by omega, by have := Classical.not_not.1 hk.2; rw [← this]; exact e⟩
        · exact ⟨j, by omega, e⟩

theorem mem_arr {d : List Int} {x : Int} : x ∈ d ↔ ∃ j, j < d.length ∧ d.toArray[j]! = x := by
  rw [List.mem_iff_getElem]
  constructor
  · rintro ⟨j, hj, e⟩; exact ⟨j, hj, by simp [hj, e]⟩
  · rintro ⟨j, hj, e⟩; exact ⟨j, hj, by simpa [hj] using e⟩

theorem sorted_compact (zs : List Int) : (∀ x, x ∈ compact (zs.mergeSort fun x y => decide (x ≤ y)) ↔ x ∈ zs) ∧ (compact (zs.mergeSort fun x y => decide (x ≤ y))).Pairwise (· < ·) := by
  obtain ⟨d, hd⟩ : ∃ d, d = zs.mergeSort fun x y => decide (x ≤ y) := ⟨_, rfl⟩
  have hp : d.Pairwise (fun a b => decide (a ≤ b) = true) := by
    rw [hd]
    exact List.pairwise_mergeSort (fun a b c h1 h2 => by simp at *; omega) (fun a b => by simp; omega) zs
  have hs : ∀ i j, i ≤ j → j < d.toArray.size → d.toArray[i]! ≤ d.toArray[j]! := fun i j hij hj => by
    have hj' : j < d.length := by simpa using hj
    have hi' : i < d.length := by omega
    simp only [List.getElem!_toArray, getElem!_pos d i hi', getElem!_pos d j hj']
    by_cases e : i = j
    · subst e; exact Int.le_refl _
    · have := List.pairwise_iff_getElem.1 hp i j hi' hj' (by omega)
      simpa using this
  obtain ⟨h1, h2⟩ := compact_part d.toArray hs d.length (by simp)
  rw [← hd]
  refine ⟨fun x => ?_, h2⟩
  unfold compact
  rw [h1, ← mem_arr, hd, List.mem_mergeSort]

theorem srcs_asc (l : List Nd) (s : Nat) : (srcs l s).Pairwise (· < ·) := by
  unfold srcs
  rw [List.pairwise_map]
  have := (List.pairwise_lt_range (n := s)).filter (fun s : Nat => srcIn l (s : Int))
  exact this.imp (fun h => by omega)

theorem srcs_of_ns {l : List Nd} (h : pipeOk l = true) : compact ((nsOf l).mergeSort fun x y => decide (x ≤ y)) = srcs l 3 := by
  obtain ⟨h1, h2⟩ := sorted_compact (nsOf l)
  refine asc_unique _ _ h2 (srcs_asc l 3) fun x => ?_
  rw [h1]
  simp only [nsOf, srcs, srcIn, List.mem_map, List.mem_filter, List.mem_range, List.any_eq_true, Bool.and_eq_true, beq_iff_eq]
  constructor
  · rintro ⟨y, ⟨hy, hk⟩, e⟩
    obtain ⟨i, hi⟩ := List.getElem?_of_mem hy
    obtain ⟨s, hs, hs3⟩ := source_n h hi hk
    exact ⟨s, ⟨hs3, y, hy, hk, hs⟩, by omega⟩
  · rintro ⟨s, ⟨hs3, y, hy, hk, hn⟩, e⟩
    exact ⟨y, ⟨hy, hk⟩, by omega⟩

end Go.Proofs.Ythfniffecceldaa

/- Plain mathematics: the list of a pipe, node by node. -/
namespace Go.Proofs.Ythfniffecceldaa
open Go.Lib

/-- Numbers that items can be. -/
def Items (l : List Int) : Prop := ∀ x ∈ l, 0 ≤ x ∧ x ≤ 99
/-- What stays of a sum or product. -/
def rst (x : Int) : Int := Int.tmod x 100
theorem rst_in {x : Int} (h : 0 ≤ x) : 0 ≤ rst x ∧ rst x ≤ 99 := by
  unfold rst
  rw [Int.tmod_eq_emod_of_nonneg h]
  omega
theorem Items.get {l : List Int} (h : Items l) {k : Nat} {x : Int} (hx : l[k]? = some x) : 0 ≤ x ∧ x ≤ 99 := h x (List.mem_of_getElem? hx)
theorem Items.nil_ : Items [] := fun _ h => absurd h (by simp)
theorem Items.app {a b : List Int} (ha : Items a) (hb : Items b) : Items (a ++ b) := fun x hx => (List.mem_append.1 hx).elim (ha x) (hb x)
theorem Items.sub {a b : List Int} (ha : Items a) (h : ∀ x ∈ b, x ∈ a) : Items b := fun x hx => ha x (h x hx)
theorem Items.take {a : List Int} (ha : Items a) (n : Nat) : Items (a.take n) := ha.sub fun _ => List.mem_of_mem_take
theorem Items.drop {a : List Int} (ha : Items a) (n : Nat) : Items (a.drop n) := ha.sub fun _ => List.mem_of_mem_drop
theorem drop_cons_of {l : List Int} {i : Nat} {x : Int} (h : l[i]? = some x) : l.drop i = x :: l.drop (i + 1) := by
  obtain ⟨hi, rfl⟩ := List.getElem?_eq_some_iff.1 h
  exact List.drop_eq_getElem_cons hi

/-- The index of the first number that is at least n. -/
def frst : List Int → Int → Nat
  | [], _ => 0
  | x :: l, n => if x < n then frst l n + 1 else 0
theorem frst_le : ∀ (l : List Int) (n : Int), frst l n ≤ l.length
  | [], _ => by simp [frst]
  | x :: l, n => by
    have := frst_le l n
    simp only [frst, List.length_cons]
    split <;> omega
theorem frst_step {l : List Int} {i : Nat} {x n : Int} (h : l[i]? = some x) (hx : x < n) : frst (l.drop i) n = frst (l.drop (i + 1)) n + 1 := by
  rw [drop_cons_of h, frst, if_pos hx]
theorem frst_stop {l : List Int} {i : Nat} {x n : Int} (h : l[i]? = some x) (hx : ¬ x < n) : frst (l.drop i) n = 0 := by
  rw [drop_cons_of h, frst, if_neg hx]
theorem frst_end {l : List Int} {i : Nat} (n : Int) (h : l.length ≤ i) : frst (l.drop i) n = 0 := by
  rw [List.drop_eq_nil_of_le h, frst]

/-- The sums of the numbers at equal places. -/
def zipL (a b : List Int) : List Int := List.zipWith (fun x y => rst (x + y)) a b
theorem zipL_len (a b : List Int) : (zipL a b).length = min a.length b.length := List.length_zipWith
theorem zipL_get {a b : List Int} {i : Nat} {x y : Int} (hx : a[i]? = some x) (hy : b[i]? = some y) : (zipL a b)[i]? = some (rst (x + y)) := by
  simp [zipL, List.getElem?_zipWith, hx, hy]
theorem zipL_items {a b : List Int} (ha : Items a) (hb : Items b) : Items (zipL a b) := fun z hz => by
  obtain ⟨i, hi⟩ := List.mem_iff_getElem?.1 hz
  have hl := (List.getElem?_eq_some_iff.1 hi).1
  rw [zipL_len] at hl
  obtain ⟨x, hx⟩ := get_of_lt a (k := i) (by omega)
  obtain ⟨y, hy⟩ := get_of_lt b (k := i) (by omega)
  rw [zipL_get hx hy] at hi
  obtain rfl := Option.some.inj hi
  have := ha.get hx
  have := hb.get hy
  exact rst_in (by omega)

/-- The first i numbers of each list, by turns. -/
def turnTo (a b : List Int) : Nat → List Int
  | 0 => []
  | i + 1 => turnTo a b i ++ a[i]?.toList ++ b[i]?.toList
/-- The numbers of both lists by turns. -/
def turnL (a b : List Int) : List Int := turnTo a b (max a.length b.length)
theorem turnTo_len (a b : List Int) : ∀ i, (turnTo a b i).length ≤ 2 * i
  | 0 => by simp [turnTo]
  | i + 1 => by
    have := turnTo_len a b i
    have h1 : a[i]?.toList.length ≤ 1 := by cases a[i]? <;> simp
    have h2 : b[i]?.toList.length ≤ 1 := by cases b[i]? <;> simp
    simp only [turnTo, List.length_append]
    omega
theorem turnTo_items {a b : List Int} (ha : Items a) (hb : Items b) : ∀ i, Items (turnTo a b i)
  | 0 => Items.nil_
  | i + 1 => ((turnTo_items ha hb i).app (fun x hx => ha.get (k := i) (by simpa using hx))).app (fun x hx => hb.get (k := i) (by simpa using hx))
theorem turnTo_len_eq (a b : List Int) : ∀ i, (turnTo a b i).length = min i a.length + min i b.length
  | 0 => by simp [turnTo]
  | i + 1 => by
    have := turnTo_len_eq a b i
    simp only [turnTo, List.length_append]
    by_cases h1 : i < a.length <;> by_cases h2 : i < b.length
    · simp [h1, h2]; omega
    · simp [h1, h2]; omega
    · simp [h1, h2]; omega
    · simp [h1, h2]; omega
theorem turnL_len (a b : List Int) : (turnL a b).length = a.length + b.length := by
  rw [turnL, turnTo_len_eq]; omega

/-- Both lists merged by their first numbers. -/
def mergeL (a b : List Int) : List Int := List.merge a b (fun x y => decide (x ≤ y))
theorem mergeL_len (a b : List Int) : (mergeL a b).length = a.length + b.length := List.length_merge _ a b
theorem mergeL_nil (a : List Int) : mergeL a [] = a := by simp [mergeL]
theorem nil_mergeL (b : List Int) : mergeL [] b = b := by simp [mergeL]
theorem mergeL_left {a b : List Int} {x y : Int} (h : x ≤ y) : mergeL (x :: a) (y :: b) = x :: mergeL a (y :: b) := by
  unfold mergeL; rw [List.cons_merge_cons, if_pos (by simpa using h)]
theorem mergeL_right {a b : List Int} {x y : Int} (h : ¬ x ≤ y) : mergeL (x :: a) (y :: b) = y :: mergeL (x :: a) b := by
  unfold mergeL; rw [List.cons_merge_cons, if_neg (by simpa using h)]
theorem mergeL_items {a b : List Int} (ha : Items a) (hb : Items b) : Items (mergeL a b) := fun x hx => by
  rcases (List.mem_merge.1 hx) with h | h
  · exact ha x h
  · exact hb x h

/-- n times each number and m more. -/
def mapL (n m : Int) (l : List Int) : List Int := l.map fun x => rst (n * x + m)
/-- The numbers whose rest is m. -/
def filL (n m : Int) (l : List Int) : List Int := l.filter fun x => Int.tmod x n == m
/-- The sum of the numbers and s. -/
def sumL (s : Int) (l : List Int) : Int := l.foldl (fun s x => rst (s + x)) s
/-- The running sums behind s. -/
def scanL (s : Int) : List Int → List Int
  | [] => []
  | x :: l => rst (s + x) :: scanL (rst (s + x)) l
theorem sumL_in {s : Int} (hs : 0 ≤ s ∧ s ≤ 99) : ∀ {l : List Int}, Items l → 0 ≤ sumL s l ∧ sumL s l ≤ 99 := by
  intro l
  induction l generalizing s with
  | nil => intro _; exact hs
  | cons x l ih =>
    intro h
    have hx := h x (by simp)
    exact ih (rst_in (by omega)) (fun y hy => h y (by simp [hy]))
theorem sumL_succ {l : List Int} {i : Nat} {x : Int} (s : Int) (h : l[i]? = some x) : sumL s (l.take (i + 1)) = rst (sumL s (l.take i) + x) := by
  unfold sumL
  rw [take_succ_of h, List.foldl_append]
  rfl
theorem scanL_len : ∀ (l : List Int) (s : Int), (scanL s l).length = l.length
  | [], _ => rfl
  | x :: l, s => by simp [scanL, scanL_len l]
theorem scanL_app (l : List Int) (x s : Int) : scanL s (l ++ [x]) = scanL s l ++ [rst (sumL s l + x)] := by
  induction l generalizing s with
  | nil => rfl
  | cons y l ih => simp only [List.cons_append, scanL, ih, sumL, List.foldl_cons]
theorem scanL_succ {l : List Int} {i : Nat} {x : Int} (s : Int) (h : l[i]? = some x) : scanL s (l.take (i + 1)) = scanL s (l.take i) ++ [sumL s (l.take (i + 1))] := by
  rw [take_succ_of h, scanL_app]
  congr 2
  unfold sumL
  rw [List.foldl_append]
  rfl
theorem scanL_items {s : Int} (hs : 0 ≤ s) : ∀ {l : List Int}, Items l → Items (scanL s l) := by
  intro l
  induction l generalizing s with
  | nil => intro _; exact Items.nil_
  | cons x l ih =>
    intro h y hy
    have hx := h x (by simp)
    have hr := rst_in (x := s + x) (by omega)
    rcases List.mem_cons.1 hy with e | e
    · rw [e]; exact hr
    · exact ih hr.1 (fun z hz => h z (by simp [hz])) y e
theorem mapL_succ {l : List Int} {i : Nat} {x : Int} (n m : Int) (h : l[i]? = some x) : mapL n m (l.take (i + 1)) = mapL n m (l.take i) ++ [rst (n * x + m)] := by
  unfold mapL; rw [take_succ_of h, List.map_append]; rfl
theorem mapL_len (n m : Int) (l : List Int) : (mapL n m l).length = l.length := List.length_map _
theorem mapL_items {n m : Int} {l : List Int} (hn : 0 ≤ n) (hm : 0 ≤ m) (h : Items l) : Items (mapL n m l) := fun y hy => by
  obtain ⟨x, hx, rfl⟩ := List.mem_map.1 hy
  have := Int.mul_nonneg hn (h x hx).1
  exact rst_in (by omega)
theorem filL_succ {l : List Int} {i : Nat} {x : Int} (n m : Int) (h : l[i]? = some x) : filL n m (l.take (i + 1)) = filL n m (l.take i) ++ (if Int.tmod x n == m then [x] else []) := by
  unfold filL; rw [take_succ_of h, List.filter_append]
  congr 1
  by_cases e : (Int.tmod x n == m) = true <;> simp [e]
theorem filL_len (n m : Int) (l : List Int) : (filL n m l).length ≤ l.length := List.length_filter_le _ _
theorem filL_items {n m : Int} {l : List Int} (h : Items l) : Items (filL n m l) := h.sub fun _ hx => (List.mem_filter.1 hx).1

/-- The sums of the groups of the first i numbers, as they are made. -/
def batTo (n : Nat) (a : List Int) : Nat → List Int
  | 0 => []
  | i + 1 =>
    let o := if i % n = 0 then batTo n a i ++ [0] else batTo n a i
    o.set (o.length - 1) (rst (o.getD (o.length - 1) 0 + a.getD i 0))
theorem batTo_len (n : Nat) (a : List Int) : ∀ i, (batTo n a i).length ≤ i
  | 0 => by simp [batTo]
  | i + 1 => by
    have := batTo_len n a i
    simp only [batTo, List.length_set]
    split
    · simp; omega
    · omega
theorem batTo_pos {n : Nat} (hn : 0 < n) (a : List Int) : ∀ i, 0 < i → 0 < (batTo n a i).length
  | 0, h => absurd h (by omega)
  | i + 1, _ => by
    simp only [batTo, List.length_set]
    split
    · simp
    · rename_i h0
      refine batTo_pos hn a i (Nat.pos_of_ne_zero fun e => h0 ?_)
      rw [e, Nat.zero_mod]
/-- The sums of groups of n. -/
def batL (n : Nat) (a : List Int) : List Int := batTo n a a.length

end Go.Proofs.Ythfniffecceldaa
