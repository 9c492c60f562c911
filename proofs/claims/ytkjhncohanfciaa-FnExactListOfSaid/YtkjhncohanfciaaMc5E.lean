/- Texts on the program and its reference, put together (PipeS, TreeV, TreeD, Depth). -/
import Derived.Test.YtkjhncohanfciaaMc5D
import Derived.Test.YtkjhncohanfciaaMc5B
import Derived.Test.YtkjhncohanfciaaMc5A
import Derived.RegionTactic
import Derived.ChangeAlike
import Derived.BigRegion
import Derived.Lib.QuietBelow
import Derived.BigQuiet
import Derived.Deep.RegionWith
import Derived.WalkSpells
import Derived.WalkLawsBesides
/- Contracts: whether a pipe is valid, told by the reference (counts). -/
namespace Go.Proofs.Ytkjhncohanfciaa
open Go.RowKit

theorem Try.infoInt2 : (Try.prog.info? 3).map (fun i => (i.zero, i.size, i.bytes)) = some (some (.int .i64 0), 1, 8) := by kernel_rfl

theorem counts_made (w : World) (g : Nat) (o : Obj) (l : List Nd) (hg : g = (w.alloc o).heap.size) : Bk ((w.alloc o).alloc (.cells (madeCells #[.int .i64 0] l.length) 3)) g 3 (ints (counts l 0 l.length)) := by
  subst hg
  have e : madeCells #[Value.int .i64 0] l.length = (ints (counts l 0 l.length)).toArray := by
    rw [counts_zero]
    have : ints (List.replicate l.length 0) = (madeCells #[Value.int .i64 0] l.length).toList := by rw [toList_madeCells_one]; simp [ints]
    rw [this]
  rw [e]
  exact Bk.new _ _ _

theorem useOf_le (l : List Nd) (j : Int) : useOf l j ≤ 2 * l.length := by
  induction l with
  | nil => simp [useOf]
  | cons x l ih =>
    have h1 := one_le (x.a == j)
    have h2 := one_le (x.b == j)
    simp only [useOf, List.length_cons]
    omega
theorem counts_one {l : List Nd} {k n : Nat} {x : Nd} (hx : l[k]? = some x) {j : Nat} (ha : x.a = (j : Int)) (hb : x.b = -1) : (counts l k n).set j ((useOf (l.take k) (j : Int) : Nat) + 1) = counts l (k + 1) n := by
  apply List.ext_getElem?
  intro i
  by_cases hi : i < n
  · rw [counts_get _ _ hi, useOf_succ hx, ha, hb, one_ne (i := -1) (by omega)]
    by_cases hij : i = j
    · subst hij
      rw [List.getElem?_set_self (by rw [counts_len]; exact hi), one_eq]
      simp
    · rw [List.getElem?_set_ne (by omega), counts_get _ _ hi, one_ne (by omega)]
      simp
  · rw [List.getElem?_eq_none (by rw [List.length_set, counts_len]; omega), List.getElem?_eq_none (by rw [counts_len]; omega)]
theorem counts_two {l : List Nd} {k n : Nat} {x : Nd} (hx : l[k]? = some x) {j j2 : Nat} (ha : x.a = (j : Int)) (hb : x.b = (j2 : Int)) (hne : j ≠ j2) :
    ((counts l k n).set j ((useOf (l.take k) (j : Int) : Nat) + 1)).set j2 ((useOf (l.take k) (j2 : Int) : Nat) + 1) = counts l (k + 1) n := by
  apply List.ext_getElem?
  intro i
  by_cases hi : i < n
  · rw [counts_get _ _ hi, useOf_succ hx, ha, hb]
    by_cases hij2 : i = j2
    · subst hij2
      rw [List.getElem?_set_self (by rw [List.length_set, counts_len]; exact hi), one_eq, one_ne (by omega)]
      simp
    · rw [List.getElem?_set_ne (by omega), one_ne (i := (j2 : Int)) (by omega)]
      by_cases hij : i = j
      · subst hij
        rw [List.getElem?_set_self (by rw [counts_len]; exact hi), one_eq]
        simp
      · rw [List.getElem?_set_ne (by omega), counts_get _ _ hi, one_ne (by omega)]
        simp
  · rw [List.getElem?_eq_none (by rw [List.length_set, List.length_set, counts_len]; omega), List.getElem?_eq_none (by rw [counts_len]; omega)]
theorem counts_none {l : List Nd} {k n : Nat} {x : Nd} (hx : l[k]? = some x) (ha : x.a = -1) (hb : x.b = -1) : counts l k n = counts l (k + 1) n := by
  apply List.ext_getElem?
  intro i
  by_cases hi : i < n
  · rw [counts_get _ _ hi, counts_get _ _ hi, useOf_succ hx, ha, hb, one_ne (i := -1) (by omega)]
    simp
  · rw [List.getElem?_eq_none (by rw [counts_len]; omega), List.getElem?_eq_none (by rw [counts_len]; omega)]

theorem ints_set (l : List Int) (k : Nat) (v : Int) : (ints l).set k (.int .i64 v) = ints (l.set k v) := by simp [ints, List.map_set]
theorem counts_step1 {w : World} {g k n j u : Nat} {t : TypeId} {l : List Nd} {x : Nd} (h : Bk w g t (ints (counts l k n))) (hx : l[k]? = some x) (ha : x.a = (j : Int)) (hb : x.b = -1) (hu : u = useOf (l.take k) (j : Int)) :
    Bk (w.setCell ⟨g, j, none⟩ (.int .i64 ((u : Int) + 1))) g t (ints (counts l (k + 1) n)) := by
  rw [← counts_one hx ha hb, ← ints_set, ← hu]
  exact h.set_ _ _
theorem counts_step2 {w : World} {g k n j j2 u v : Nat} {t : TypeId} {l : List Nd} {x : Nd} (h : Bk w g t (ints (counts l k n))) (hx : l[k]? = some x) (ha : x.a = (j : Int)) (hb : x.b = (j2 : Int)) (hne : j ≠ j2) (hu : u = useOf (l.take k) (j : Int)) (hv : v = useOf (l.take k) (j2 : Int)) :
    Bk ((w.setCell ⟨g, j, none⟩ (.int .i64 ((u : Int) + 1))).setCell ⟨g, j2, none⟩ (.int .i64 ((v : Int) + 1))) g t (ints (counts l (k + 1) n)) := by
  rw [← counts_two hx ha hb hne, ← ints_set, ← ints_set, ← hu, ← hv]
  exact (h.set_ _ _).set_ _ _

/-- A node lies in block b. -/
structure Nd5 (w : World) (b : Nat) (x : Nd) : Prop where
  c0 : w.cell? ⟨b, 0, none⟩ = some (.int .i64 x.k)
  c1 : w.cell? ⟨b, 1, none⟩ = some (.int .i64 x.a)
  c2 : w.cell? ⟨b, 2, none⟩ = some (.int .i64 x.b)
  c3 : w.cell? ⟨b, 3, none⟩ = some (.int .i64 x.n)
  c4 : w.cell? ⟨b, 4, none⟩ = some (.int .i64 x.m)
theorem Nd5.new (w : World) (x : Nd) (t : TypeId) : Nd5 (w.alloc (.cells #[.int .i64 x.k, .int .i64 x.a, .int .i64 x.b, .int .i64 x.n, .int .i64 x.m] t)) w.heap.size x :=
  ⟨by simp [go_sem], by simp [go_sem], by simp [go_sem], by simp [go_sem], by simp [go_sem]⟩
theorem Nd5.below {w w' : World} {b C : Nat} {x : Nd} (h : Nd5 w b x) (hb : Below C w w') (hC : b < C) : Nd5 w' b x :=
  ⟨(hb.cell (p := ⟨b, 0, none⟩) hC).trans h.c0, (hb.cell (p := ⟨b, 1, none⟩) hC).trans h.c1, (hb.cell (p := ⟨b, 2, none⟩) hC).trans h.c2, (hb.cell (p := ⟨b, 3, none⟩) hC).trans h.c3, (hb.cell (p := ⟨b, 4, none⟩) hC).trans h.c4⟩

/-- The nodes below a node that can stand at the place k. -/
theorem kids_form {x : Nd} {k : Nat} (h : kidsOk x k = true) : (x.a = -1 ∧ x.b = -1) ∨ (∃ j : Nat, x.a = (j : Int) ∧ j < k ∧ x.b = -1) ∨ ∃ j j2 : Nat, x.a = (j : Int) ∧ j < k ∧ x.b = (j2 : Int) ∧ j2 < k ∧ j ≠ j2 := by
  rcases arity_cases x.k with e | e | e | e
  · simp [kidsOk, e] at h
    exact .inl h
  · simp [kidsOk, e] at h
    obtain ⟨j, hj, hjk⟩ := inR_toNat h.1
    exact .inr (.inl ⟨j, hj, hjk, h.2⟩)
  · simp [kidsOk, e] at h
    obtain ⟨⟨h1, h2⟩, h3⟩ := h
    obtain ⟨j, hj, hjk⟩ := inR_toNat h1
    obtain ⟨j2, hj2, hjk2⟩ := inR_toNat h2
    exact .inr (.inr ⟨j, j2, hj, hjk, hj2, hjk2, by rintro rfl; exact h3 (hj.trans hj2.symm)⟩)
  · simp [kidsOk, e] at h
theorem node_no {l : List Nd} {k : Nat} {x : Nd} (hx : l[k]? = some x) (h : numsOk x = false ∨ kidsOk x k = false) : ¬ PipeOk l := fun hp => by
  have hn := hp.node k x hx
  simp only [nodeOk, Bool.and_eq_true] at hn
  rcases h with h | h
  · rw [hn.1] at h; cases h
  · rw [hn.2] at h; cases h

theorem uses_succ {l : List Nd} {k : Nat} (h : ∀ i : Nat, i < k → useOf l (i : Int) = 1) (h2 : useOf l (k : Int) = 1) : ∀ i : Nat, i < k + 1 → useOf l (i : Int) = 1 := fun i hi => by
  by_cases e : i = k
  · subst e; exact h2
  · exact h i (by omega)
theorem valid_end {l : List Nd} (hg : Good l l.length) (hu : ∀ i : Nat, i + 1 < l.length → useOf l (i : Int) = 1) : pipeOk l = inR l.length 1 12 := by
  rw [Bool.eq_iff_iff, pipeOk_iff, inR_iff]
  exact ⟨fun hp => ⟨by have := hp.low; omega, by have := hp.high; omega⟩, fun ⟨h1, h2⟩ => ⟨fun i x hx => hg i x (List.getElem?_eq_some_iff.1 hx).1 hx, hu, by omega, by omega⟩⟩

set_option maxHeartbeats 3200000 in
theorem specvalidPipe_any (A : Option Addr) (c : Nat) (l : List Nd) (w : World) (B : Nat) (h : RdN w B A l) (hB : B ≤ w.heap.size) (hn : l.length ≤ 1048576) :
    Calls Try.prog 45 #[.agg #[.slice A l.length c]] w fun e w' => e = .returned (.bool (pipeOk l)) ∧ Below w.heap.size w w' := by
  have hmk := run_make_row' (P := Try.prog) 28 3 (.int .i64 0) 8 Try.underlying28 Try.infoInt2 rfl .i64 .i64 l.length (by omega) (by omega)
  go_enter Try.func45, Try.ntmps45
  go_wp2
  clear hmk
  go_loopw [4] (fun i wr => ∃ k : Nat, k ≤ l.length ∧ i = .int .i64 k ∧ Good l k ∧ Bk wr (w.heap.size + 1) 3 (ints (counts l k l.length)) ∧ Bk wr w.heap.size 32 [.slice A l.length c] ∧ Below w.heap.size w wr) (fun i _ => l.length - (intOf i).toNat)
  case atStart => exact ⟨0, Nat.zero_le _, rfl, Good.zero _, counts_made _ _ _ _ (by simp), (Bk.new w 32 [.slice A l.length c]).alloc _, ((Below.refl _ _).alloc (Nat.le_refl _) _).alloc (by simp) _⟩
  case round =>
    obtain ⟨k, hk, rfl, hgood, hbk, hbox, hbl⟩ := hrel
    have hcb : wr.cell? ⟨w.heap.size, 0, none⟩ = some (.slice A l.length c) := hbox.cell 0
    by_cases hlt : k < l.length
    · obtain ⟨b, o, x, rfl, hbB, hx, hc⟩ := (h.below hbl hB).at_ hlt
      obtain ⟨c0, c1, c2, c3, c4⟩ := hc
      have Hgood := Lib.hid hgood
      have Hbk := Lib.hid hbk
      have Hbox := Lib.hid hbox
      have Hbl := Lib.hid hbl
      have Hx := Lib.hid hx
      clear hgood hbk hbl hx h hbox
      have hgw : w.heap.size + 1 < wr.heap.size := Hbk.out.lt
      have hsz := Hbl.out.size
      have hal := Hbl.out.alloc hsz (.cells #[.int .i64 x.k, .int .i64 x.a, .int .i64 x.b, .int .i64 x.n, .int .i64 x.m] 69)
      have hbk0 := Hbk.out.alloc (.cells #[.int .i64 x.k, .int .i64 x.a, .int .i64 x.b, .int .i64 x.n, .int .i64 x.m] 69)
      have hbx0 := Hbox.out.alloc (.cells #[.int .i64 x.k, .int .i64 x.a, .int .i64 x.b, .int .i64 x.n, .int .i64 x.m] 69)
      have hnd0 := Nd5.new wr x 69
      have Hal := Lib.hid hal
      have Hbk0 := Lib.hid hbk0
      have Hbx0 := Lib.hid hbx0
      have Hnd0 := Lib.hid hnd0
      have hk20 : k ≤ 1048576 := by omega
      clear hal hbk0 hbx0 hnd0
      go_wp2_with fail
      refine (specNums_any x _).mono ?_
      rintro e w1 ⟨rfl, hb1⟩
      have hlt1 : wr.heap.size < w1.heap.size := by have := hb1.size; simp at this; omega
      have Hal1 := Lib.hid (Hal.out.trans (hb1.mono Hal.out.size))
      have Hbk1 := Lib.hid (Hbk0.out.below hb1 Hbk0.out.lt)
      have Hbx1 := Lib.hid (Hbx0.out.below hb1 Hbx0.out.lt)
      have Hnd1 := Lib.hid (Hnd0.out.below hb1 (by simp))
      clear hb1 hcb c0 c1 c2 c3 c4
      cases hnm : numsOk x
      · have Hnm := Lib.hid hnm
        clear hnm
        go_wp2_with fail
        go_ret
        exact ⟨ret_bool (pipeOk_no (node_no Hx.out (.inl Hnm.out))).symm, Hal1.out⟩
      · have Hnm := Lib.hid hnm
        clear hnm
        obtain ⟨d0, d1, d2, d3, d4⟩ := Hnd1.out
        go_wp2_with fail
        refine (specKids_any x k _ hk20).mono ?_
        rintro e w2 ⟨rfl, hb2⟩
        have hlt2 : wr.heap.size < w2.heap.size := Nat.lt_of_lt_of_le hlt1 hb2.size
        have Hal2 := Lib.hid (Hal1.out.trans (hb2.mono Hal1.out.size))
        have Hbk2 := Lib.hid (Hbk1.out.below hb2 Hbk1.out.lt)
        have Hbx2 := Lib.hid (Hbx1.out.below hb2 Hbx1.out.lt)
        have Hnd2 := Lib.hid (Hnd1.out.below hb2 hlt1)
        clear hb2 d0 d1 d2 d3 d4
        cases hkd : kidsOk x k
        · have Hkd := Lib.hid hkd
          clear hkd
          go_wp2_with fail
          go_ret
          exact ⟨ret_bool (pipeOk_no (node_no Hx.out (.inr Hkd.out))).symm, Hal2.out⟩
        · have Hgood2 := Lib.hid (Hgood.out.succ Hx.out (by rw [nodeOk, Hnm.out, hkd]; rfl))
          obtain ⟨d0, d1, d2, d3, d4⟩ := Hnd2.out
          rcases kids_form hkd with ⟨ha, hb⟩ | ⟨j, ha, hj, hb⟩ | ⟨j, j2, ha, hj, hb, hj2, hne⟩
          · rw [ha] at d1
            rw [hb] at d2
            have Ha := Lib.hid ha
            have Hb := Lib.hid hb
            clear ha hb hkd
            go_wp2
            go_roundw
            case rel => exact ⟨k + 1, by omega, by go_num, Hgood2.out, by rw [← counts_none Hx.out Ha.out Hb.out]; exact Hbk2.out, Hbx2.out, Hal2.out⟩
            case measure => simp [intOf]; omega
          · rw [ha] at d1
            rw [hb] at d2
            have Ha := Lib.hid ha
            have Hb := Lib.hid hb
            obtain ⟨u, hu⟩ : ∃ u : Nat, u = useOf (l.take k) (j : Int) := ⟨_, rfl⟩
            have hu2 : u ≤ 2097152 := by rw [hu]; have := useOf_le (l.take k) (j : Int); simp at this; omega
            have e0 : w2.cell? ⟨w.heap.size + 1, j, none⟩ = some (.int .i64 (u : Int)) := by rw [Hbk2.out.cell, ints_get, counts_get _ _ (by omega), hu]; rfl
            have f0 := Hbk2.out.free j
            have Hu := Lib.hid hu
            clear ha hb hkd hu
            go_wp2
            go_region
            all_goals
              go_wp2
              go_roundw
              case rel => exact ⟨k + 1, by omega, by go_num, Hgood2.out, counts_step1 Hbk2.out Hx.out Ha.out Hb.out Hu.out, Hbx2.out.far (p := ⟨w.heap.size + 1, j, none⟩) (Nat.ne_of_lt (Nat.lt_succ_self _)) _, (Hal2.out.setCell (p := ⟨w.heap.size + 1, j, none⟩) (Nat.le_succ _) _).drew⟩
              case measure => simp [intOf]; omega
          · rw [ha] at d1
            rw [hb] at d2
            have Ha := Lib.hid ha
            have Hb := Lib.hid hb
            obtain ⟨u, hu⟩ : ∃ u : Nat, u = useOf (l.take k) (j : Int) := ⟨_, rfl⟩
            obtain ⟨v, hv⟩ : ∃ v : Nat, v = useOf (l.take k) (j2 : Int) := ⟨_, rfl⟩
            have hu2 : u ≤ 2097152 := by rw [hu]; have := useOf_le (l.take k) (j : Int); simp at this; omega
            have hv2 : v ≤ 2097152 := by rw [hv]; have := useOf_le (l.take k) (j2 : Int); simp at this; omega
            have e0 : w2.cell? ⟨w.heap.size + 1, j, none⟩ = some (.int .i64 (u : Int)) := by rw [Hbk2.out.cell, ints_get, counts_get _ _ (by omega), hu]; rfl
            have e1 : w2.cell? ⟨w.heap.size + 1, j2, none⟩ = some (.int .i64 (v : Int)) := by rw [Hbk2.out.cell, ints_get, counts_get _ _ (by omega), hv]; rfl
            have f0 := Hbk2.out.free j
            have f1 := Hbk2.out.free j2
            have Hu := Lib.hid hu
            have Hv := Lib.hid hv
            have Hne : Hid (j ≠ j2) := hne
            have hne2 : j2 ≠ j := fun e => hne e.symm
            clear ha hb hkd hu hv
            go_wp2
            go_region
            all_goals
              go_wp2
              go_region
            all_goals
              go_wp2
              go_roundw
              case rel => exact ⟨k + 1, by omega, by go_num, Hgood2.out, counts_step2 Hbk2.out Hx.out Ha.out Hb.out Hne.out Hu.out Hv.out, (Hbx2.out.far (p := ⟨w.heap.size + 1, j, none⟩) (Nat.ne_of_lt (Nat.lt_succ_self _)) _).far (p := ⟨w.heap.size + 1, j2, none⟩) (Nat.ne_of_lt (Nat.lt_succ_self _)) _, ((Hal2.out.setCell (p := ⟨w.heap.size + 1, j, none⟩) (Nat.le_succ _) _).setCell (p := ⟨w.heap.size + 1, j2, none⟩) (Nat.le_succ _) _).drew.drew⟩
              case measure => simp [intOf]; omega
    · obtain rfl : k = l.length := by omega
      have Hgood := Lib.hid hgood
      have Hbk := Lib.hid hbk
      have Hbl := Lib.hid hbl
      clear hgood hbk hbl h
      go_wp2
      go_loop [6] (fun i => ∃ k : Nat, k ≤ l.length ∧ i = .int .i64 k ∧ ∀ i : Nat, i < k → useOf l (i : Int) = 1) (fun i => l.length - (intOf i).toNat)
      case atStart => exact ⟨0, Nat.zero_le _, rfl, fun i hi => absurd hi (by omega)⟩
      case round =>
        obtain ⟨k, hk2, rfl, hone⟩ := hrel
        have Hone := Lib.hid hone
        clear hone
        by_cases hlt2 : k + 1 < l.length
        · obtain ⟨u, hu⟩ : ∃ u : Nat, u = useOf l (k : Int) := ⟨_, rfl⟩
          have e0 : wr.cell? ⟨w.heap.size + 1, k, none⟩ = some (.int .i64 (u : Int)) := by rw [Hbk.out.cell, ints_get, counts_get _ _ (by omega), List.take_length, hu]; rfl
          have Hu := Lib.hid hu
          clear hu
          by_cases hu1 : u = 1
          · have hub : ((u : Int) != 1) = false := by simp [hu1]
            have Hu1 := Lib.hid hu1
            clear hu1
            go_wp2
            go_round
            case rel => exact ⟨k + 1, by omega, by go_num, uses_succ Hone.out (Hu.out.symm.trans Hu1.out)⟩
            case measure => simp [intOf]; omega
          · have hub : ((u : Int) != 1) = true := by simp; omega
            have Hu1 : Hid (¬ u = 1) := hu1
            clear hu1
            go_wp2
            go_ret
            exact ⟨ret_bool (pipeOk_no fun hp => Hu1.out (Hu.out.trans (hp.uses k hlt2))).symm, Hbl.out⟩
        · have Hend := Lib.hid (valid_end Hgood.out (fun i hi => Hone.out i (by omega)))
          go_wp2_with (go_at_call 50; refine (specInR_any _ _ _ _).mono ?_; rintro e w1 ⟨rfl, rfl⟩)
          go_ret
          exact ⟨ret_bool Hend.out.symm, Hbl.out⟩

end Go.Proofs.Ytkjhncohanfciaa

/- Contracts: the tree of the node i (the program). -/
namespace Go.Proofs.Ytkjhncohanfciaa
open Go.RowKit Go.Sort

/-- The value of a tree. -/
def tv : T → Value
  | .leaf x => .iface 81 (.agg #[.int .i64 x.k, .int .i64 x.a, .int .i64 x.b, .int .i64 x.n, .int .i64 x.m])
  | .stem x t => .iface 83 (.agg #[.int .i64 x.k, .int .i64 x.a, .int .i64 x.b, .int .i64 x.n, .int .i64 x.m, tv t])
  | .fork x a b => .iface 71 (.agg #[.int .i64 x.k, .int .i64 x.a, .int .i64 x.b, .int .i64 x.n, .int .i64 x.m, tv a, tv b])
theorem tv_iface (t : T) : ∃ ty v, tv t = .iface ty v := by cases t <;> exact ⟨_, _, rfl⟩

set_option maxHeartbeats 3200000 in
theorem treeWith_any {l : List Nd} {i : Nat} {t : T} (ht : IsTree l i t) : ∀ (A : Option Addr) (c : Nat) (w : World) (B : Nat), RdN w B A l → B ≤ w.heap.size → l.length ≤ 1048576 →
    Calls Try.prog 71 #[.agg #[.slice A l.length c], .int .i64 i, .int .i64 (-1), .nilIface] w fun e w' => e = .returned (tv t) ∧ Below w.heap.size w w' := by
  induction ht with
  | @leaf i x hx ha h1 h2 =>
    intro A c w B h hB hn
    have hlt : i < l.length := (List.getElem?_eq_some_iff.1 hx).1
    have hb0 := (Below.refl w.heap.size w).alloc (Nat.le_refl _) (.cells #[.slice A l.length c] 32)
    obtain ⟨b, o, y, rfl, hbB, hy, hc⟩ := (h.below hb0 hB).at_ hlt
    obtain rfl := Option.some.inj (hx.symm.trans hy)
    obtain ⟨c0, c1, c2, c3, c4⟩ := hc
    have Ha := Lib.hid ha
    have H1 := Lib.hid h1
    have H2 := Lib.hid h2
    have Hh := Lib.hid h
    clear hx hy ha h h1 h2 hb0
    have hne : ¬ ((i : Int) = -1) := by omega
    go_enter Try.func71, Try.ntmps71
    go_wp2_with (go_at_call 54; refine (nodesBelow_any _ _).mono ?_; rintro e w2 ⟨rfl, rfl⟩; rw [Ha.out])
    go_ret
    exact ⟨rfl, ((Below.refl _ _).alloc (Nat.le_refl _) _).alloc (by simp) _⟩
  | @stem i j x t hx ha h1 hj h2 ht ih =>
    intro A c w B h hB hn
    obtain ⟨ty, v, hv⟩ := tv_iface t
    rw [hv] at ih
    have Hv := Lib.hid hv
    have hlt : i < l.length := (List.getElem?_eq_some_iff.1 hx).1
    have hb0 := (Below.refl w.heap.size w).alloc (Nat.le_refl _) (.cells #[.slice A l.length c] 32)
    obtain ⟨b, o, y, rfl, hbB, hy, hc⟩ := (h.below hb0 hB).at_ hlt
    obtain rfl := Option.some.inj (hx.symm.trans hy)
    obtain ⟨c0, c1, c2, c3, c4⟩ := hc
    have Ha := Lib.hid ha
    have H1 := Lib.hid h1
    have H2 := Lib.hid h2
    have Hh := Lib.hid h
    rw [h1] at c1
    rw [h2] at c2
    have Hi := Lib.hid (fun W' B' hW hB' => ih (some ⟨b, o, none⟩) c W' B' hW hB' hn)
    clear hx hy ha h h1 h2 hb0 ih ht hv
    have hne : ¬ ((i : Int) = -1) := by omega
    go_enter Try.func71, Try.ntmps71
    go_wp2_with (go_at_call 54; refine (nodesBelow_any _ _).mono ?_; rintro e w2 ⟨rfl, rfl⟩; rw [Ha.out])
    obtain ⟨W2, hW2⟩ : ∃ W2 : World, W2 = (w.alloc (.cells #[.slice (some ⟨b, o, none⟩) l.length c] 32)).alloc (.cells #[.int .i64 x.k, .int .i64 (j : Int), .int .i64 (-1), .int .i64 x.n, .int .i64 x.m] 69) := ⟨_, rfl⟩
    have hb2 : Below w.heap.size w W2 := by rw [hW2]; exact ((Below.refl _ _).alloc (Nat.le_refl _) _).alloc (by simp) _
    have hbox : Bk W2 w.heap.size 32 [.slice (some ⟨b, o, none⟩) l.length c] := by rw [hW2]; exact (Bk.new _ _ [_]).alloc _
    have hnode : Bk W2 (w.heap.size + 1) 69 [.int .i64 x.k, .int .i64 (j : Int), .int .i64 (-1), .int .i64 x.n, .int .i64 x.m] := by
      rw [hW2]
      have := Bk.new (w.alloc (.cells #[.slice (some ⟨b, o, none⟩) l.length c] 32)) 69 [.int .i64 x.k, .int .i64 (j : Int), .int .i64 (-1), .int .i64 x.n, .int .i64 x.m]
      simpa using this
    have HW2 := Lib.hid hW2
    have Hb2 := Lib.hid hb2
    have Hbox := Lib.hid hbox
    have Hnode := Lib.hid hnode
    have hz2 := hb2.size
    clear hW2 hb2 hbox hnode
    rw [← HW2.out]
    have q0 : ∀ d os, (grow (redrawn W2 d) os).cell? ⟨w.heap.size + 1, 0, none⟩ = some (.int .i64 x.k) := fun d os => cell_regrown (Hnode.out.cell 0) d os
    have q1 : ∀ d os, (grow (redrawn W2 d) os).cell? ⟨w.heap.size + 1, 1, none⟩ = some (.int .i64 (j : Int)) := fun d os => cell_regrown (Hnode.out.cell 1) d os
    have q2 : ∀ d os, (grow (redrawn W2 d) os).cell? ⟨w.heap.size + 1, 2, none⟩ = some (.int .i64 (-1)) := fun d os => cell_regrown (Hnode.out.cell 2) d os
    have q3 : ∀ d os, (grow (redrawn W2 d) os).cell? ⟨w.heap.size + 1, 3, none⟩ = some (.int .i64 x.n) := fun d os => cell_regrown (Hnode.out.cell 3) d os
    have q4 : ∀ d os, (grow (redrawn W2 d) os).cell? ⟨w.heap.size + 1, 4, none⟩ = some (.int .i64 x.m) := fun d os => cell_regrown (Hnode.out.cell 4) d os
    have qb : ∀ d os, (grow (redrawn W2 d) os).cell? ⟨w.heap.size, 0, none⟩ = some (.slice (some ⟨b, o, none⟩) l.length c) := fun d os => cell_regrown (Hbox.out.cell 0) d os
    have Hc := Lib.hid (fun d os => Calls.regrown_of (Hi.out (grow (redrawn W2 d) os) B (Hh.out.below (Hb2.out.trans ((below_regrown W2 d os).mono hz2)) hB) (by have := (below_regrown W2 d os).size; omega)))
    refine wp_region_quiet_below (by kernel_rfl) (by kernel_rfl) ?_
    repeat (quiet_step ((go_at_call 71; exact Hc.out _ _)))
    refine wpQuiet_nil ?_
    intro wq hwq
    obtain ⟨p, hwq⟩ := hwq
    have Hq : Hid (Below W2.heap.size W2 wq) := by rw [hwq]; exact below_regrown _ _ _
    clear hwq q0 q1 q2 q3 q4 qb
    go_wp2
    go_ret
    exact ⟨by rw [tv, H1.out, H2.out, Hv.out]; rfl, Hb2.out.trans (Hq.out.mono hz2)⟩
  | @fork i j j2 x ta tb hx ha h1 hj h2 hj2 hta htb iha ihb =>
    intro A c w B h hB hn
    obtain ⟨ty, v, hv⟩ := tv_iface ta
    rw [hv] at iha
    have Hv := Lib.hid hv
    obtain ⟨ty2, v2, hv2⟩ := tv_iface tb
    rw [hv2] at ihb
    have Hv2 := Lib.hid hv2
    have hlt : i < l.length := (List.getElem?_eq_some_iff.1 hx).1
    have hb0 := (Below.refl w.heap.size w).alloc (Nat.le_refl _) (.cells #[.slice A l.length c] 32)
    obtain ⟨b, o, y, rfl, hbB, hy, hc⟩ := (h.below hb0 hB).at_ hlt
    obtain rfl := Option.some.inj (hx.symm.trans hy)
    obtain ⟨c0, c1, c2, c3, c4⟩ := hc
    have Ha := Lib.hid ha
    have H1 := Lib.hid h1
    have H2 := Lib.hid h2
    have Hh := Lib.hid h
    rw [h1] at c1
    rw [h2] at c2
    have Hi := Lib.hid (fun W' B' hW hB' => iha (some ⟨b, o, none⟩) c W' B' hW hB' hn)
    have Hi2 := Lib.hid (fun W' B' hW hB' => ihb (some ⟨b, o, none⟩) c W' B' hW hB' hn)
    clear hx hy ha h h1 h2 hb0 iha ihb hta htb hv hv2
    have hne : ¬ ((i : Int) = -1) := by omega
    go_enter Try.func71, Try.ntmps71
    go_wp2_with (go_at_call 54; refine (nodesBelow_any _ _).mono ?_; rintro e w2 ⟨rfl, rfl⟩; rw [Ha.out])
    obtain ⟨W2, hW2⟩ : ∃ W2 : World, W2 = (w.alloc (.cells #[.slice (some ⟨b, o, none⟩) l.length c] 32)).alloc (.cells #[.int .i64 x.k, .int .i64 (j : Int), .int .i64 (j2 : Int), .int .i64 x.n, .int .i64 x.m] 69) := ⟨_, rfl⟩
    have hb2 : Below w.heap.size w W2 := by rw [hW2]; exact ((Below.refl _ _).alloc (Nat.le_refl _) _).alloc (by simp) _
    have hbox : Bk W2 w.heap.size 32 [.slice (some ⟨b, o, none⟩) l.length c] := by rw [hW2]; exact (Bk.new _ _ [_]).alloc _
    have hnode : Bk W2 (w.heap.size + 1) 69 [.int .i64 x.k, .int .i64 (j : Int), .int .i64 (j2 : Int), .int .i64 x.n, .int .i64 x.m] := by
      rw [hW2]
      have := Bk.new (w.alloc (.cells #[.slice (some ⟨b, o, none⟩) l.length c] 32)) 69 [.int .i64 x.k, .int .i64 (j : Int), .int .i64 (j2 : Int), .int .i64 x.n, .int .i64 x.m]
      simpa using this
    have HW2 := Lib.hid hW2
    have Hb2 := Lib.hid hb2
    have Hbox := Lib.hid hbox
    have Hnode := Lib.hid hnode
    have hz2 := hb2.size
    clear hW2 hb2 hbox hnode
    rw [← HW2.out]
    have q0 : ∀ d os, (grow (redrawn W2 d) os).cell? ⟨w.heap.size + 1, 0, none⟩ = some (.int .i64 x.k) := fun d os => cell_regrown (Hnode.out.cell 0) d os
    have q1 : ∀ d os, (grow (redrawn W2 d) os).cell? ⟨w.heap.size + 1, 1, none⟩ = some (.int .i64 (j : Int)) := fun d os => cell_regrown (Hnode.out.cell 1) d os
    have q2 : ∀ d os, (grow (redrawn W2 d) os).cell? ⟨w.heap.size + 1, 2, none⟩ = some (.int .i64 (j2 : Int)) := fun d os => cell_regrown (Hnode.out.cell 2) d os
    have q3 : ∀ d os, (grow (redrawn W2 d) os).cell? ⟨w.heap.size + 1, 3, none⟩ = some (.int .i64 x.n) := fun d os => cell_regrown (Hnode.out.cell 3) d os
    have q4 : ∀ d os, (grow (redrawn W2 d) os).cell? ⟨w.heap.size + 1, 4, none⟩ = some (.int .i64 x.m) := fun d os => cell_regrown (Hnode.out.cell 4) d os
    have qb : ∀ d os, (grow (redrawn W2 d) os).cell? ⟨w.heap.size, 0, none⟩ = some (.slice (some ⟨b, o, none⟩) l.length c) := fun d os => cell_regrown (Hbox.out.cell 0) d os
    have Hc := Lib.hid (fun d os => Calls.regrown_of (Hi.out (grow (redrawn W2 d) os) B (Hh.out.below (Hb2.out.trans ((below_regrown W2 d os).mono hz2)) hB) (by have := (below_regrown W2 d os).size; omega)))
    have Hc2 := Lib.hid (fun d os => Calls.regrown_of (Hi2.out (grow (redrawn W2 d) os) B (Hh.out.below (Hb2.out.trans ((below_regrown W2 d os).mono hz2)) hB) (by have := (below_regrown W2 d os).size; omega)))
    refine wp_region_quiet_below (by kernel_rfl) (by kernel_rfl) ?_
    repeat (quiet_step ((first | (go_at_call_of 71 ((j : Int)); exact Hc.out _ _) | (go_at_call_of 71 ((j2 : Int)); exact Hc2.out _ _))))
    refine wpQuiet_nil ?_
    intro wq hwq
    obtain ⟨p, hwq⟩ := hwq
    have Hq : Hid (Below W2.heap.size W2 wq) := by rw [hwq]; exact below_regrown _ _ _
    clear hwq q0 q1 q2 q3 q4 qb
    go_wp2
    go_ret
    exact ⟨by rw [tv, H1.out, H2.out, Hv.out, Hv2.out]; rfl, Hb2.out.trans (Hq.out.mono hz2)⟩

set_option maxHeartbeats 1600000 in
theorem treeAt_any {l : List Nd} {i : Nat} {t : T} (ht : IsTree l i t) (A : Option Addr) (c : Nat) (w : World) (B : Nat) (h : RdN w B A l) (hB : B ≤ w.heap.size) (hn : l.length ≤ 1048576) :
    Calls Try.prog 52 #[.agg #[.slice A l.length c], .int .i64 i] w fun e w' => e = .returned (tv t) ∧ Below w.heap.size w w' := by
  obtain ⟨ty, v, hv⟩ := tv_iface t
  have Hv := Lib.hid hv
  obtain ⟨W0, hW0⟩ : ∃ W0 : World, W0 = w.alloc (.cells #[.slice A l.length c] 32) := ⟨_, rfl⟩
  have hb0 : Below w.heap.size w W0 := by rw [hW0]; exact (Below.refl _ _).alloc (Nat.le_refl _) _
  have H0 := Lib.hid (h.below hb0 hB)
  have Hb0 := Lib.hid hb0
  have HW0 := Lib.hid hW0
  have hz0 := hb0.size
  have Ht := Lib.hid ht
  clear h hb0 hW0 ht hv
  go_enter Try.func52, Try.ntmps52
  go_wp2_with fail
  rw [← HW0.out]
  refine (treeWith_any Ht.out A c W0 B H0.out (by omega) hn).mono ?_
  rintro e w2 ⟨rfl, hb2⟩
  have Hb2 := Lib.hid (Hb0.out.trans (hb2.mono hz0))
  clear hb2
  rw [Hv.out]
  go_wp2_with fail
  go_ret
  exact ⟨by rw [Hv.out]; rfl, Hb2.out⟩

end Go.Proofs.Ytkjhncohanfciaa

/- Contracts: how deep the node i is (the reference); the tree of the node i (the program). -/
namespace Go.Proofs.Ytkjhncohanfciaa
open Go.RowKit Go.Sort

/-- The cells of a node. -/
def five (x : Nd) : Array Value := #[.int .i64 x.k, .int .i64 x.a, .int .i64 x.b, .int .i64 x.n, .int .i64 x.m]

set_option maxHeartbeats 1600000 in
theorem deep_any {l : List Nd} {i : Nat} {t : T} (ht : IsTree l i t) : ∀ (A : Option Addr) (c : Nat) (w : World) (B : Nat), RdN w B A l → B ≤ w.heap.size → l.length ≤ 1048576 →
    Calls Try.prog 46 #[.agg #[.slice A l.length c], .int .i64 i] w fun e w' => e = .returned (.int .i64 (t.depth : Nat)) ∧ Below w.heap.size w w' := by
  induction ht with
  | @leaf i x hx ha h1 h2 =>
    intro A c w B h hB hn
    have hlt : i < l.length := (List.getElem?_eq_some_iff.1 hx).1
    have hb0 := (Below.refl w.heap.size w).alloc (Nat.le_refl _) (.cells #[.slice A l.length c] 32)
    obtain ⟨b, o, y, rfl, hbB, hy, hc⟩ := (h.below hb0 hB).at_ hlt
    obtain rfl := Option.some.inj (hx.symm.trans hy)
    obtain ⟨c0, c1, c2, c3, c4⟩ := hc
    rw [h1] at c1
    rw [h2] at c2
    clear hx hy ha h h1 h2 hb0
    go_enter Try.func46, Try.ntmps46
    go_wp2_with fail
    go_ret
    exact ⟨by simp [T.depth], ((Below.refl _ _).alloc (Nat.le_refl _) _).alloc (by simp) _⟩
  | @stem i j x t hx ha h1 hj h2 ht ih =>
    intro A c w B h hB hn
    have hlt : i < l.length := (List.getElem?_eq_some_iff.1 hx).1
    have hd := ht.depth_le
    have hb0 := (Below.refl w.heap.size w).alloc (Nat.le_refl _) (.cells #[.slice A l.length c] 32)
    obtain ⟨b, o, y, rfl, hbB, hy, hc⟩ := (h.below hb0 hB).at_ hlt
    obtain rfl := Option.some.inj (hx.symm.trans hy)
    obtain ⟨c0, c1, c2, c3, c4⟩ := hc
    rw [h1] at c1
    rw [h2] at c2
    have Hh := Lib.hid h
    have Hi := Lib.hid (fun W' B' hW hB' => ih (some ⟨b, o, none⟩) c W' B' hW hB' hn)
    clear hx hy ha h h1 h2 hb0 ih ht
    go_enter Try.func46, Try.ntmps46
    obtain ⟨W2, hW2⟩ : ∃ W2 : World, W2 = (w.alloc (.cells #[.slice (some ⟨b, o, none⟩) l.length c] 32)).alloc (.cells #[.int .i64 x.k, .int .i64 (j : Int), .int .i64 (-1), .int .i64 x.n, .int .i64 x.m] 69) := ⟨_, rfl⟩
    have hb2 : Below w.heap.size w W2 := by rw [hW2]; exact ((Below.refl _ _).alloc (Nat.le_refl _) _).alloc (by simp) _
    have hbox : Bk W2 w.heap.size 32 [.slice (some ⟨b, o, none⟩) l.length c] := by rw [hW2]; exact (Bk.new _ _ [_]).alloc _
    have hnode : Bk W2 (w.heap.size + 1) 69 [.int .i64 x.k, .int .i64 (j : Int), .int .i64 (-1), .int .i64 x.n, .int .i64 x.m] := by
      rw [hW2]
      have := Bk.new (w.alloc (.cells #[.slice (some ⟨b, o, none⟩) l.length c] 32)) 69 [.int .i64 x.k, .int .i64 (j : Int), .int .i64 (-1), .int .i64 x.n, .int .i64 x.m]
      simpa using this
    have HW2 := Lib.hid hW2
    have Hb2 := Lib.hid hb2
    have Hbox := Lib.hid hbox
    have Hnode := Lib.hid hnode
    have hz2 := hb2.size
    clear hW2 hb2 hbox hnode
    go_wp2_with fail
    rw [← HW2.out]
    refine (Hi.out W2 B (Hh.out.below Hb2.out hB) (by omega)).mono ?_
    rintro e w3 ⟨rfl, hb3⟩
    have Hb3 := Lib.hid (Hb2.out.trans (hb3.mono hz2))
    have d2 : w3.cell? ⟨w.heap.size + 1, 2, none⟩ = some (.int .i64 (-1)) := (Hnode.out.below hb3 Hnode.out.lt).cell 2
    clear hb3
    go_wp2_with fail
    go_ret
    exact ⟨ret_int (by simp [T.depth]; omega), Hb3.out⟩
  | @fork i j j2 x ta tb hx ha h1 hj h2 hj2 hta htb iha ihb =>
    intro A c w B h hB hn
    have hlt : i < l.length := (List.getElem?_eq_some_iff.1 hx).1
    have hda := hta.depth_le
    have hdb := htb.depth_le
    have hb0 := (Below.refl w.heap.size w).alloc (Nat.le_refl _) (.cells #[.slice A l.length c] 32)
    obtain ⟨b, o, y, rfl, hbB, hy, hc⟩ := (h.below hb0 hB).at_ hlt
    obtain rfl := Option.some.inj (hx.symm.trans hy)
    obtain ⟨c0, c1, c2, c3, c4⟩ := hc
    rw [h1] at c1
    rw [h2] at c2
    have Hh := Lib.hid h
    have Hi := Lib.hid (fun W' B' hW hB' => iha (some ⟨b, o, none⟩) c W' B' hW hB' hn)
    have Hi2 := Lib.hid (fun W' B' hW hB' => ihb (some ⟨b, o, none⟩) c W' B' hW hB' hn)
    clear hx hy ha h h1 h2 hb0 iha ihb hta htb
    go_enter Try.func46, Try.ntmps46
    obtain ⟨W2, hW2⟩ : ∃ W2 : World, W2 = (w.alloc (.cells #[.slice (some ⟨b, o, none⟩) l.length c] 32)).alloc (.cells #[.int .i64 x.k, .int .i64 (j : Int), .int .i64 (j2 : Int), .int .i64 x.n, .int .i64 x.m] 69) := ⟨_, rfl⟩
    have hb2 : Below w.heap.size w W2 := by rw [hW2]; exact ((Below.refl _ _).alloc (Nat.le_refl _) _).alloc (by simp) _
    have hbox : Bk W2 w.heap.size 32 [.slice (some ⟨b, o, none⟩) l.length c] := by rw [hW2]; exact (Bk.new _ _ [_]).alloc _
    have hnode : Bk W2 (w.heap.size + 1) 69 [.int .i64 x.k, .int .i64 (j : Int), .int .i64 (j2 : Int), .int .i64 x.n, .int .i64 x.m] := by
      rw [hW2]
      have := Bk.new (w.alloc (.cells #[.slice (some ⟨b, o, none⟩) l.length c] 32)) 69 [.int .i64 x.k, .int .i64 (j : Int), .int .i64 (j2 : Int), .int .i64 x.n, .int .i64 x.m]
      simpa using this
    have HW2 := Lib.hid hW2
    have Hb2 := Lib.hid hb2
    have Hbox := Lib.hid hbox
    have Hnode := Lib.hid hnode
    have hz2 := hb2.size
    clear hW2 hb2 hbox hnode
    go_wp2_with fail
    rw [← HW2.out]
    refine (Hi.out W2 B (Hh.out.below Hb2.out hB) (by omega)).mono ?_
    rintro e w3 ⟨rfl, hb3⟩
    have Hb3 := Lib.hid (Hb2.out.trans (hb3.mono hz2))
    have Hbox3 := Lib.hid (Hbox.out.below hb3 Hbox.out.lt)
    have d2 : w3.cell? ⟨w.heap.size + 1, 2, none⟩ = some (.int .i64 (j2 : Int)) := (Hnode.out.below hb3 Hnode.out.lt).cell 2
    have e2 : w3.cell? ⟨w.heap.size, 0, none⟩ = some (.slice (some ⟨b, o, none⟩) l.length c) := Hbox3.out.cell 0
    have hz3 := Hb3.out.size
    clear hb3
    go_wp2_with fail
    refine (Hi2.out w3 B (Hh.out.below Hb3.out hB) (by omega)).mono ?_
    rintro e w4 ⟨rfl, hb4⟩
    have Hb4 := Lib.hid (Hb3.out.trans (hb4.mono hz3))
    clear hb4
    go_wp2_with fail
    all_goals
      go_ret
      exact ⟨ret_int (by simp [T.depth]; omega), Hb4.out⟩

end Go.Proofs.Ytkjhncohanfciaa

/- Contracts: the depth of a tree, asked of a value behind the interface; the depth of a pipe, told by the reference and by the program. -/
namespace Go.Proofs.Ytkjhncohanfciaa
open Go.RowKit Go.Sort

/-- The dynamic type of a tree's value, the value inside, the method that tells its depth. -/
def tyOf : T → TypeId
  | .leaf _ => 81
  | .stem _ _ => 83
  | .fork _ _ _ => 71
def rv : T → Value
  | .leaf x => .agg #[.int .i64 x.k, .int .i64 x.a, .int .i64 x.b, .int .i64 x.n, .int .i64 x.m]
  | .stem x t => .agg #[.int .i64 x.k, .int .i64 x.a, .int .i64 x.b, .int .i64 x.n, .int .i64 x.m, tv t]
  | .fork x a b => .agg #[.int .i64 x.k, .int .i64 x.a, .int .i64 x.b, .int .i64 x.n, .int .i64 x.m, tv a, tv b]
def depthFn : T → FuncId
  | .leaf _ => 117
  | .stem _ _ => 119
  | .fork _ _ _ => 115
theorem tv_rv (t : T) : tv t = .iface (tyOf t) (rv t) := by cases t <;> rfl

theorem method_leaf (v : Value) (w : World) : (method 219 81 v "loop.example/pullstreams/impl.depth").run Try.prog w = .ok (117, v) w := by kernel_rfl
theorem method_stem (v : Value) (w : World) : (method 219 83 v "loop.example/pullstreams/impl.depth").run Try.prog w = .ok (119, v) w := by kernel_rfl
theorem method_fork (v : Value) (w : World) : (method 219 71 v "loop.example/pullstreams/impl.depth").run Try.prog w = .ok (115, v) w := by kernel_rfl
theorem method_depth (t : T) (w : World) : (method 219 (tyOf t) (rv t) "loop.example/pullstreams/impl.depth").run Try.prog w = .ok (depthFn t, rv t) w := by
  cases t
  · exact method_leaf _ w
  · exact method_stem _ w
  · exact method_fork _ w

theorem enter_leaf (v : Value) (w : World) : (callFunc 117 #[v]).run Try.prog w = .ok (.enter 117 #[v]) w := by kernel_rfl
theorem enter_stem (v : Value) (w : World) : (callFunc 119 #[v]).run Try.prog w = .ok (.enter 119 #[v]) w := by kernel_rfl
theorem enter_fork (v : Value) (w : World) : (callFunc 115 #[v]).run Try.prog w = .ok (.enter 115 #[v]) w := by kernel_rfl
theorem enter_depth (t : T) (w : World) : (callFunc (depthFn t) #[rv t]).run Try.prog w = .ok (.enter (depthFn t) #[rv t]) w := by
  cases t
  · exact enter_leaf _ w
  · exact enter_stem _ w
  · exact enter_fork _ w

set_option maxRecDepth 100000 in
set_option maxHeartbeats 1600000 in
theorem depth_any (t : T) : ∀ w : World, t.depth ≤ 1048577 → Calls Try.prog (depthFn t) #[rv t] w fun e w' => e = .returned (.int .i64 (t.depth : Nat)) ∧ Below w.heap.size w w' := by
  induction t with
  | leaf x =>
    intro w _
    show Calls Try.prog 117 #[.agg #[.int .i64 x.k, .int .i64 x.a, .int .i64 x.b, .int .i64 x.n, .int .i64 x.m]] w _
    go_enter Try.func117, Try.ntmps117
    go_wp2_with fail
    go_ret
    exact ⟨rfl, (Below.refl _ _).alloc (Nat.le_refl _) _⟩
  | stem x t ih =>
    intro w hd
    show Calls Try.prog 119 #[.agg #[.int .i64 x.k, .int .i64 x.a, .int .i64 x.b, .int .i64 x.n, .int .i64 x.m, tv t]] w _
    have hm := method_depth t
    have he := enter_depth t
    simp only [T.depth] at hd
    obtain ⟨d, hdd⟩ : ∃ d : Nat, d = t.depth := ⟨_, rfl⟩
    have Hd : Hid ((T.stem x t).depth = 1 + d) := by show (T.stem x t).depth = 1 + d; rw [hdd]; rfl
    rw [tv_rv]
    rw [← hdd] at ih hd
    clear hdd
    generalize tyOf t = ty at *
    generalize rv t = v at *
    generalize depthFn t = f at *
    have Hi := Lib.hid (fun W => ih W (by omega))
    clear ih
    go_enter Try.func119, Try.ntmps119
    go_wp2_with fail
    refine (Hi.out _).mono ?_
    rintro e w1 ⟨rfl, hb⟩
    have Hb := Lib.hid hb
    clear hb
    go_wp2_with fail
    go_ret
    exact ⟨ret_int (by rw [Hd.out]; omega), ((Below.refl _ _).alloc (Nat.le_refl _) _).trans (Hb.out.mono (by simp))⟩
  | fork x a b iha ihb =>
    intro w hd
    show Calls Try.prog 115 #[.agg #[.int .i64 x.k, .int .i64 x.a, .int .i64 x.b, .int .i64 x.n, .int .i64 x.m, tv a, tv b]] w _
    have hm := method_depth a
    have he := enter_depth a
    have he2 := enter_depth b
    have hm2 := method_depth b
    simp only [T.depth] at hd
    obtain ⟨d, hdd⟩ : ∃ d : Nat, d = a.depth := ⟨_, rfl⟩
    obtain ⟨d2, hdd2⟩ : ∃ d2 : Nat, d2 = b.depth := ⟨_, rfl⟩
    have Hd : Hid ((T.fork x a b).depth = 1 + max d d2) := by show (T.fork x a b).depth = 1 + max d d2; rw [hdd, hdd2]; rfl
    rw [tv_rv, tv_rv]
    rw [← hdd] at iha hd
    rw [← hdd2] at ihb hd
    clear hdd hdd2
    generalize tyOf a = ty at *
    generalize rv a = v at *
    generalize depthFn a = f at *
    generalize tyOf b = ty2 at *
    generalize rv b = v2 at *
    generalize depthFn b = f2 at *
    have Hi := Lib.hid (fun W => iha W (by omega))
    have Hi2 := Lib.hid (fun W => ihb W (by omega))
    clear iha ihb
    go_enter Try.func115, Try.ntmps115
    obtain ⟨W2, hW2⟩ : ∃ W2 : World, W2 = w.alloc (.cells #[.int .i64 x.k, .int .i64 x.a, .int .i64 x.b, .int .i64 x.n, .int .i64 x.m, .iface ty v, .iface ty2 v2] 71) := ⟨_, rfl⟩
    have hb2 : Below w.heap.size w W2 := by rw [hW2]; exact (Below.refl _ _).alloc (Nat.le_refl _) _
    have hbox : Bk W2 w.heap.size 71 [.int .i64 x.k, .int .i64 x.a, .int .i64 x.b, .int .i64 x.n, .int .i64 x.m, .iface ty v, .iface ty2 v2] := by rw [hW2]; exact Bk.new _ _ [_, _, _, _, _, _, _]
    have HW2 := Lib.hid hW2
    have Hb2 := Lib.hid hb2
    have Hbox := Lib.hid hbox
    have hz2 := hb2.size
    clear hW2 hb2 hbox
    go_wp2_with fail
    rw [← HW2.out]
    have q5 : ∀ d os, (grow (redrawn W2 d) os).cell? ⟨w.heap.size, 5, none⟩ = some (.iface ty v) := fun d os => cell_regrown (Hbox.out.cell 5) d os
    have q6 : ∀ d os, (grow (redrawn W2 d) os).cell? ⟨w.heap.size, 6, none⟩ = some (.iface ty2 v2) := fun d os => cell_regrown (Hbox.out.cell 6) d os
    have Hc := Lib.hid (fun d os => Calls.regrown_of (Hi.out (grow (redrawn W2 d) os)))
    have Hc2 := Lib.hid (fun d os => Calls.regrown_of (Hi2.out (grow (redrawn W2 d) os)))
    refine wp_region_quiet_below (by kernel_rfl) (by kernel_rfl) ?_
    repeat (quiet_step (first | with_reducible exact Hc.out _ _ | with_reducible exact Hc2.out _ _))
    refine wpQuiet_nil ?_
    intro wq hwq
    obtain ⟨p, hwq⟩ := hwq
    have Hq : Hid (Below W2.heap.size W2 wq) := by rw [hwq]; exact below_regrown _ _ _
    clear hwq q5 q6
    go_wp2
    all_goals
      go_ret
      exact ⟨ret_int (by rw [Hd.out]; simp only [IntKind.wrap_i64]; omega), Hb2.out.trans (Hq.out.mono hz2)⟩

/-- The depth of a pipe; -1 if it is not valid. -/
structure DepthOf (l : List Nd) (d : Int) : Prop where
  no : pipeOk l = false → d = -1
  yes : ∀ {t : T}, pipeOk l = true → IsTree l (l.length - 1) t → d = (t.depth : Nat)

theorem tree_of_pipe {l : List Nd} (h : pipeOk l = true) : ∃ t, IsTree l (l.length - 1) t := by
  have hp := pipeOk_iff.1 h
  exact IsTree.ex hp l.length _ (by have := hp.low; omega) (by have := hp.low; omega)
theorem low_of {l : List Nd} (h : pipeOk l = true) : 1 ≤ l.length := (pipeOk_iff.1 h).low
theorem high_of {l : List Nd} (h : pipeOk l = true) : l.length ≤ 12 := (pipeOk_iff.1 h).high

set_option maxHeartbeats 1600000 in
theorem specDepthOf_any (A : Option Addr) (c : Nat) (l : List Nd) (w : World) (B : Nat) (d : Int) (hd : Hid (DepthOf l d)) (h : RdN w B A l) (hB : B ≤ w.heap.size) (hn : l.length ≤ 1048576) :
    Calls Try.prog 24 #[.agg #[.slice A l.length c]] w fun e w' => e = .returned (.int .i64 d) ∧ Below w.heap.size w w' := by
  obtain ⟨W0, hW0⟩ : ∃ W0 : World, W0 = w.alloc (.cells #[.slice A l.length c] 32) := ⟨_, rfl⟩
  have hb0 : Below w.heap.size w W0 := by rw [hW0]; exact (Below.refl w.heap.size w).alloc (Nat.le_refl _) _
  have hx0 : Bk W0 w.heap.size 32 [.slice A l.length c] := by rw [hW0]; exact Bk.new _ _ _
  have H0 := Lib.hid (h.below hb0 hB)
  have Hb0 := Lib.hid hb0
  have Hx0 := Lib.hid hx0
  have HW0 := Lib.hid hW0
  have hz0 := hb0.size
  clear h hb0 hx0 hW0
  go_enter Try.func24, Try.ntmps24
  go_wp2_with fail
  rw [← HW0.out]
  refine (specvalidPipe_any A c l W0 B H0.out (by omega) hn).mono ?_
  rintro e w1 ⟨rfl, hb1⟩
  have Hb1 := Lib.hid (Hb0.out.trans (hb1.mono hz0))
  have Hx1 := Lib.hid (Hx0.out.below hb1 Hx0.out.lt)
  have H1 := Lib.hid (H0.out.below hb1 (by omega))
  have hc1 : w1.cell? ⟨w.heap.size, 0, none⟩ = some (.slice A l.length c) := Hx1.out.cell 0
  have hz1 := Hb1.out.size
  clear hb1 HW0
  cases hv : pipeOk l
  · have Hv := Lib.hid hv
    clear hv
    go_wp2_with fail
    go_ret
    exact ⟨ret_int (hd.out.no Hv.out).symm, Hb1.out⟩
  · have Hv := Lib.hid hv
    obtain ⟨t, ht⟩ := tree_of_pipe hv
    have hlo := low_of hv
    have hhi := high_of hv
    have Ht := Lib.hid ht
    clear hv ht
    go_wp2_with fail
    rw [show ((l.length : Nat) : Int) - 1 = ((l.length - 1 : Nat) : Int) from by omega]
    refine (deep_any Ht.out A c w1 B H1.out (by omega) hn).mono ?_
    rintro e w2 ⟨rfl, hb2⟩
    have Hb2 := Lib.hid hb2
    clear hb2
    go_wp2_with fail
    go_ret
    exact ⟨ret_int (hd.out.yes Hv.out Ht.out).symm, Hb1.out.trans (Hb2.out.mono hz1)⟩

set_option maxHeartbeats 1600000 in
theorem treeOf_any {l : List Nd} {t : T} (ht : Hid (IsTree l (l.length - 1) t)) (A : Option Addr) (c : Nat) (w : World) (B : Nat) (h : RdN w B A l) (hB : B ≤ w.heap.size) (hlo : 1 ≤ l.length) (hn : l.length ≤ 1048576) :
    Calls Try.prog 42 #[.agg #[.slice A l.length c]] w fun e w' => e = .returned (tv t) ∧ Below w.heap.size w w' := by
  obtain ⟨W0, hW0⟩ : ∃ W0 : World, W0 = w.alloc (.cells #[.slice A l.length c] 32) := ⟨_, rfl⟩
  have hb0 : Below w.heap.size w W0 := by rw [hW0]; exact (Below.refl w.heap.size w).alloc (Nat.le_refl _) _
  have H0 := Lib.hid (h.below hb0 hB)
  have Hb0 := Lib.hid hb0
  have HW0 := Lib.hid hW0
  have hz0 := hb0.size
  clear h hb0 hW0
  obtain ⟨ty, v, hv⟩ := tv_iface t
  have Hv := Lib.hid hv
  clear hv
  go_enter Try.func42, Try.ntmps42
  go_wp2_with fail
  rw [← HW0.out]
  rw [show ((l.length : Nat) : Int) - 1 = ((l.length - 1 : Nat) : Int) from by omega]
  refine (treeAt_any ht.out A c W0 B H0.out (by omega) hn).mono ?_
  rintro e w1 ⟨rfl, hb1⟩
  rw [Hv.out]
  have Hb1 := Lib.hid hb1
  clear hb1
  go_wp2_with fail
  go_ret
  exact ⟨by rw [Hv.out]; rfl, Hb0.out.trans (Hb1.out.mono hz0)⟩

set_option maxRecDepth 100000 in
set_option maxHeartbeats 1600000 in
theorem implDepthOf_any (A : Option Addr) (c : Nat) (l : List Nd) (w : World) (B : Nat) (d : Int) (hd : Hid (DepthOf l d)) (h : RdN w B A l) (hB : B ≤ w.heap.size) (hn : l.length ≤ 1048576) :
    Calls Try.prog 25 #[.agg #[.slice A l.length c]] w fun e w' => e = .returned (.int .i64 d) ∧ Below w.heap.size w w' := by
  obtain ⟨W0, hW0⟩ : ∃ W0 : World, W0 = w.alloc (.cells #[.slice A l.length c] 32) := ⟨_, rfl⟩
  have hb0 : Below w.heap.size w W0 := by rw [hW0]; exact (Below.refl w.heap.size w).alloc (Nat.le_refl _) _
  have hx0 : Bk W0 w.heap.size 32 [.slice A l.length c] := by rw [hW0]; exact Bk.new _ _ _
  have H0 := Lib.hid (h.below hb0 hB)
  have Hb0 := Lib.hid hb0
  have Hx0 := Lib.hid hx0
  have HW0 := Lib.hid hW0
  have hz0 := hb0.size
  clear h hb0 hx0 hW0
  go_enter Try.func25, Try.ntmps25
  go_wp2_with fail
  rw [← HW0.out]
  refine (implValidPipe_any A c l W0 B H0.out (by omega) hn).mono ?_
  rintro e w1 ⟨rfl, hb1⟩
  have Hb1 := Lib.hid (Hb0.out.trans (hb1.mono hz0))
  have Hx1 := Lib.hid (Hx0.out.below hb1 Hx0.out.lt)
  have H1 := Lib.hid (H0.out.below hb1 (by omega))
  have hc1 : w1.cell? ⟨w.heap.size, 0, none⟩ = some (.slice A l.length c) := Hx1.out.cell 0
  have hz1 := Hb1.out.size
  clear hb1 HW0
  cases hv : pipeOk l
  · have Hv := Lib.hid hv
    clear hv
    go_wp2_with fail
    go_ret
    exact ⟨ret_int (hd.out.no Hv.out).symm, Hb1.out⟩
  · have Hv := Lib.hid hv
    obtain ⟨t, ht⟩ := tree_of_pipe hv
    have hlo := low_of hv
    have hhi := high_of hv
    have Ht := Lib.hid ht
    have hm := method_depth t
    have he := enter_depth t
    have hdt : t.depth ≤ 1048577 := by have := ht.depth_le; omega
    have Hdp := Lib.hid (fun W => depth_any t W hdt)
    clear hv ht hdt
    go_wp2_with fail
    refine (treeOf_any Ht A c w1 B H1.out (by omega) hlo hn).mono ?_
    rintro e w2 ⟨rfl, hb2⟩
    have Hb2 := Lib.hid (Hb1.out.trans (hb2.mono hz1))
    have hz2 := Hb2.out.size
    clear hb2
    rw [tv_rv]
    obtain ⟨dd, hdd⟩ : ∃ dd : Nat, dd = t.depth := ⟨_, rfl⟩
    have Hdd : Hid (d = (dd : Nat)) := by show d = (dd : Nat); rw [hdd]; exact hd.out.yes Hv.out Ht.out
    rw [← hdd] at Hdp
    clear hdd Ht
    generalize tyOf t = ty at *
    generalize rv t = v at *
    generalize depthFn t = f at *
    go_wp2_with fail
    refine (Hdp.out _).mono ?_
    rintro e w3 ⟨rfl, hb3⟩
    have Hb3 := Lib.hid hb3
    clear hb3
    go_wp2_with fail
    go_ret
    exact ⟨ret_int Hdd.out.symm, Hb2.out.trans (Hb3.out.mono hz2)⟩

end Go.Proofs.Ytkjhncohanfciaa
