/- Contracts: a pipe with its nodes in order, and the part of a node, told by the reference and by the program. -/
import Derived.Test.YtkjhncohanfciaaAdd
namespace Go.Proofs.Ytkjhncohanfciaa
open Go.RowKit

theorem IsTree.size_le {l : List Nd} {i : Nat} {t : T} (h : IsTree l i t) : t.size + 1 ≤ 2 ^ (i + 1) := by
  induction h with
  | @leaf i => simp only [T.size]; have := Nat.one_lt_two_pow (n := i + 1) (by omega); omega
  | @stem i j x t _ _ _ hj _ _ ih =>
    simp only [T.size]
    have h1 : 2 ^ (j + 1) ≤ 2 ^ i := Nat.pow_le_pow_right (by decide) (by omega)
    have h2 : 2 ^ (i + 1) = 2 * 2 ^ i := by rw [Nat.pow_succ, Nat.mul_comm]
    have h3 : 1 ≤ 2 ^ i := Nat.one_le_two_pow
    omega
  | @fork i j j2 x a b _ _ _ hj _ hj2 _ _ iha ihb =>
    simp only [T.size]
    have h1 : 2 ^ (j + 1) ≤ 2 ^ i := Nat.pow_le_pow_right (by decide) (by omega)
    have h4 : 2 ^ (j2 + 1) ≤ 2 ^ i := Nat.pow_le_pow_right (by decide) (by omega)
    have h2 : 2 ^ (i + 1) = 2 * 2 ^ i := by rw [Nat.pow_succ, Nat.mul_comm]
    omega
theorem IsTree.size_12 {l : List Nd} {i : Nat} {t : T} (h : IsTree l i t) (hi : i < 12) : t.size ≤ 4096 := by
  have h1 := h.size_le
  have h2 : 2 ^ (i + 1) ≤ 2 ^ 12 := Nat.pow_le_pow_right (by decide) (by omega)
  omega

theorem Wrote.below {w W w1 : World} {base c' : Nat} {A A' : Option Addr} {q : List Nd} (k : Wrote W w1 base A A' c' q) (h : Below w.heap.size w W) (hA : ∀ g, rowOf A = some g → w.heap.size ≤ g) : Below w.heap.size w w1 :=
  h.grown k.grown h.size hA

set_option maxHeartbeats 1600000 in
theorem ordered_any {l : List Nd} {i : Nat} {t : T} (ht : Hid (IsTree l i t)) (hi : i < 12) (A : Option Addr) (c : Nat) (w : World) (B : Nat) (h : RdN w B A l) (hB : B ≤ w.heap.size) (hn : l.length ≤ 1048576) :
    Calls Try.prog 47 #[.agg #[.slice A l.length c], .int .i64 i] w fun e w' => ∃ A' c', e = .returned (.agg #[.slice A' t.size c']) ∧ OwnN w' w.heap.size A' c' (t.put 0) ∧ Below w.heap.size w w' := by
  obtain ⟨W2, hW2⟩ : ∃ W2 : World, W2 = ((w.alloc (.cells #[.slice A l.length c] 32)).alloc (.cells #[.slice none 0 0] 32)).alloc (.cells #[] 69) := ⟨_, rfl⟩
  have hb2 : Below w.heap.size w W2 := by rw [hW2]; exact (((Below.refl _ _).alloc (Nat.le_refl _) _).alloc (by simp) _).alloc (by simp; omega) _
  have hs2 : W2.heap.size = w.heap.size + 3 := by rw [hW2]; simp
  have hres : Bk W2 (w.heap.size + 1) 32 [.slice none 0 0] := by
    rw [hW2]
    have := (Bk.new (w.alloc (.cells #[.slice A l.length c] 32)) 32 [.slice none 0 0]).alloc (.cells #[] 69)
    simpa using this
  have hemp : OwnN W2 w.heap.size (some ⟨w.heap.size + 2, 0, none⟩) 0 [] := by
    have h1 : Bk W2 (w.heap.size + 2) 69 (nds []) := by
      rw [hW2]
      have := Bk.new ((w.alloc (.cells #[.slice A l.length c] 32)).alloc (.cells #[.slice none 0 0] 32)) 69 []
      have hs : ((w.alloc (.cells #[.slice A l.length c] 32)).alloc (.cells #[.slice none 0 0] 32)).heap.size = w.heap.size + 2 := by simp
      rw [hs] at this
      exact this
    exact h1.own (by omega) (by simp)
  have hsz := ht.out.size_12 hi
  have HW2 := Lib.hid hW2
  have Hb2 := Lib.hid hb2
  have Hres := Lib.hid hres
  have Hemp := Lib.hid hemp
  have Hh2 := Lib.hid (h.below hb2 hB)
  have Hs2 := Lib.hid hs2
  clear hW2 hb2 hres hemp h hs2
  go_enter Try.func47, Try.ntmps47
  go_wp2_with fail
  rw [← HW2.out]
  refine (post_any ht.out A c W2 B w.heap.size _ 0 [] 0 Hh2.out hB Hb2.out.size Hemp.out rfl (by omega) hn).mono ?_
  rintro e w3 ⟨A', c', rfl, hwr⟩
  have hs := Hs2.out
  have hres3 := Hres.out.grown hwr.grown (by simp [rowOf])
  have hne : rowOf A' ≠ some (w.heap.size + 1) := by
    rcases hwr.at_ with e | ⟨g, e, hg⟩
    · rw [e]; simp [rowOf]
    · rw [e]; intro e2; have := Option.some.inj e2; omega
  have Hwr := Lib.hid hwr
  have Hres3 := Lib.hid hres3
  have Hne : Hid (rowOf A' ≠ some (w.heap.size + 1)) := hne
  have d1 : w3.cell? ⟨w.heap.size + 1, 0, none⟩ = some (.slice none 0 0) := hres3.cell 0
  have f1 := hres3.free 0
  clear hwr hres3 hne
  rw [Nat.zero_add]
  go_wp2_with fail
  have hst := grown_one (World.grownBy.refl w3 (some (w.heap.size + 1))) 0 (.slice A' t.size c')
  refine bodyPost_ret (v := .agg #[.slice A' t.size c']) (by simp [results, Try.results47, go_sem, d1]) rfl ⟨A', c', rfl, ?_, ?_⟩
  · exact Hwr.out.own.grown hst (.inr Hne.out)
  · exact (Hwr.out.below Hb2.out (fun g hg => by simp [rowOf] at hg; omega)).setCell (p := ⟨w.heap.size + 1, 0, none⟩) (Nat.le_succ _) _

theorem RdN.nil_ (w : World) (B : Nat) : RdN w B none [] := fun h => absurd h (by simp)

set_option maxRecDepth 100000 in
set_option maxHeartbeats 1600000 in
theorem pipeOf_any {l : List Nd} {i : Nat} {t : T} (ht : Hid (IsTree l i t)) (hi : i < 12) (w : World) :
    Calls Try.prog 48 #[tv t] w fun e w' => ∃ A' c', e = .returned (.agg #[.slice A' t.size c']) ∧ OwnN w' w.heap.size A' c' (t.put 0) ∧ Below w.heap.size w w' := by
  obtain ⟨W2, hW2⟩ : ∃ W2 : World, W2 = w.alloc (.cells #[.slice none 0 0] 32) := ⟨_, rfl⟩
  have hb2 : Below w.heap.size w W2 := by rw [hW2]; exact (Below.refl _ _).alloc (Nat.le_refl _) _
  have hs2 : W2.heap.size = w.heap.size + 1 := by rw [hW2]; simp
  have hres : Bk W2 w.heap.size 32 [.slice none 0 0] := by rw [hW2]; exact Bk.new w _ [_]
  have hsz := ht.out.size_12 hi
  have hm := method_add t
  have he := enter_add t
  have Hadd := Lib.hid (add_any t ht.out.fit W2 w.heap.size none 0 [] 0 hb2.size (own_nil _ _) rfl (by omega))
  have HW2 := Lib.hid hW2
  have Hb2 := Lib.hid hb2
  have Hres := Lib.hid hres
  have Hs2 := Lib.hid hs2
  clear hW2 hb2 hres hs2 ht
  rw [tv_rv]
  obtain ⟨ty, hty⟩ : ∃ ty, ty = tyOf t := ⟨_, rfl⟩
  obtain ⟨v, hv⟩ : ∃ v, v = rv t := ⟨_, rfl⟩
  obtain ⟨f, hf⟩ : ∃ f, f = addFn t := ⟨_, rfl⟩
  rw [← hv, ← hty, ← hf] at hm
  rw [← hv, ← hf] at he Hadd
  rw [← hv, ← hty]
  clear hv hty hf
  go_enter Try.func48, Try.ntmps48
  go_wp2_with fail
  rw [← HW2.out]
  refine Hadd.out.mono ?_
  rintro e w3 ⟨A', c', rfl, hwr⟩
  have hs := Hs2.out
  have hres3 := Hres.out.grown hwr.grown (by simp [rowOf])
  have hne : rowOf A' ≠ some w.heap.size := by
    rcases hwr.at_ with e | ⟨g, e, hg⟩
    · rw [e]; simp [rowOf]
    · rw [e]; intro e2; have := Option.some.inj e2; omega
  have Hwr := Lib.hid hwr
  have Hne : Hid (rowOf A' ≠ some w.heap.size) := hne
  have d1 : w3.cell? ⟨w.heap.size, 0, none⟩ = some (.slice none 0 0) := hres3.cell 0
  have f1 := hres3.free 0
  clear hwr hres3 hne
  rw [Nat.zero_add]
  go_wp2_with fail
  have hst := grown_one (World.grownBy.refl w3 (some w.heap.size)) 0 (.slice A' t.size c')
  refine bodyPost_ret (v := .agg #[.slice A' t.size c']) (by simp [results, Try.results48, go_sem, d1]) rfl ⟨A', c', rfl, ?_, ?_⟩
  · exact Hwr.out.own.grown hst (.inr Hne.out)
  · exact (Hwr.out.below Hb2.out (fun g hg => by simp [rowOf] at hg)).setCell (p := ⟨w.heap.size, 0, none⟩) (Nat.le_refl _) _

set_option maxRecDepth 100000 in
set_option maxHeartbeats 1600000 in
theorem specOrderPipe_any (A : Option Addr) (c : Nat) (l : List Nd) (w : World) (B : Nat) (q : List Nd) (hq : Hid (OrdOf l (pipeOk l) (l.length - 1) q)) (h : RdN w B A l) (hB : B ≤ w.heap.size) (hn : l.length ≤ 1048576) :
    Calls Try.prog 26 #[.agg #[.slice A l.length c]] w fun e w' => ∃ A' c', e = .returned (.agg #[.slice A' q.length c']) ∧ OwnN w' w.heap.size A' c' q ∧ Below w.heap.size w w' := by
  obtain ⟨W0, hW0⟩ : ∃ W0 : World, W0 = (w.alloc (.cells #[.slice A l.length c] 32)).alloc (.cells #[.slice none 0 0] 32) := ⟨_, rfl⟩
  have hb0 : Below w.heap.size w W0 := by rw [hW0]; exact ((Below.refl w.heap.size w).alloc (Nat.le_refl _) _).alloc (by simp) _
  have hx0 : Bk W0 w.heap.size 32 [.slice A l.length c] := by rw [hW0]; exact (Bk.new _ _ [_]).alloc _
  have hr0 : Bk W0 (w.heap.size + 1) 32 [.slice none 0 0] := by
    rw [hW0]
    have := Bk.new (w.alloc (.cells #[.slice A l.length c] 32)) 32 [.slice none 0 0]
    simpa using this
  have H0 := Lib.hid (h.below hb0 hB)
  have Hb0 := Lib.hid hb0
  have Hx0 := Lib.hid hx0
  have Hr0 := Lib.hid hr0
  have HW0 := Lib.hid hW0
  have hz0 := hb0.size
  clear h hb0 hx0 hr0 hW0
  go_enter Try.func26, Try.ntmps26
  go_wp2_with fail
  rw [← HW0.out]
  refine (specvalidPipe_any A c l W0 B H0.out (by omega) hn).mono ?_
  rintro e w1 ⟨rfl, hb1⟩
  have Hb1 := Lib.hid (Hb0.out.trans (hb1.mono hz0))
  have Hx1 := Lib.hid (Hx0.out.below hb1 Hx0.out.lt)
  have Hr1 := Lib.hid (Hr0.out.below hb1 Hr0.out.lt)
  have H1 := Lib.hid (H0.out.below hb1 (by omega))
  have hc1 : w1.cell? ⟨w.heap.size, 0, none⟩ = some (.slice A l.length c) := Hx1.out.cell 0
  have d1 : w1.cell? ⟨w.heap.size + 1, 0, none⟩ = some (.slice none 0 0) := Hr1.out.cell 0
  have f1 := Hr1.out.free 0
  have hz1 := Hb1.out.size
  clear hb1 HW0
  cases hv : pipeOk l
  · have Hv := Lib.hid hv
    clear hv
    have hq0 := hq.out.no Hv.out
    subst hq0
    go_wp2_with fail
    refine bodyPost_ret (v := .agg #[.slice none 0 0]) (by simp [results, Try.results26, go_sem, d1]) rfl ⟨none, 0, rfl, own_nil _ _, ?_⟩
    exact Hb1.out.setCell (p := ⟨w.heap.size + 1, 0, none⟩) (Nat.le_succ _) _
  · have Hv := Lib.hid hv
    obtain ⟨t, ht⟩ := tree_of_pipe hv
    have hlo := low_of hv
    have hhi := high_of hv
    have hq0 := hq.out.yes hv ht
    have hql : q.length = t.size := by rw [hq0, T.put_len]
    have Hql := Lib.hid hql
    have Hq := Lib.hid hq0
    have Ht := Lib.hid ht
    clear hv ht hq0 hql hq
    go_wp2_with fail
    rw [show ((l.length : Nat) : Int) - 1 = ((l.length - 1 : Nat) : Int) from by omega]
    refine (ordered_any Ht (by omega) A c w1 B H1.out (by omega) hn).mono ?_
    rintro e w3 ⟨A', c', rfl, ho3, hb3⟩
    have Hb3 := Lib.hid (Hb1.out.trans (hb3.mono hz1))
    have Hr3 := Lib.hid (Hr1.out.below hb3 Hr1.out.lt)
    have Ho3 := Lib.hid ho3
    have d3 : w3.cell? ⟨w.heap.size + 1, 0, none⟩ = some (.slice none 0 0) := Hr3.out.cell 0
    have f3 := Hr3.out.free 0
    have hlt1 := Hr1.out.lt
    clear hb3 ho3 d1 f1 hc1
    go_wp2_with fail
    have hst := grown_one (World.grownBy.refl w3 (some (w.heap.size + 1))) 0 (.slice A' t.size c')
    refine bodyPost_ret (v := .agg #[.slice A' t.size c']) (by simp [results, Try.results26, go_sem, d3]) rfl ⟨A', c', by rw [Hql.out], ?_, ?_⟩
    · rw [Hq.out]
      refine (Ho3.out.grown hst (.inr fun e => ?_)).base_ hz1
      have := (Ho3.out.row_lt _ e).1
      omega
    · exact Hb3.out.setCell (p := ⟨w.heap.size + 1, 0, none⟩) (Nat.le_succ _) _

set_option maxRecDepth 100000 in
set_option maxHeartbeats 1600000 in
theorem implOrderPipe_any (A : Option Addr) (c : Nat) (l : List Nd) (w : World) (B : Nat) (q : List Nd) (hq : Hid (OrdOf l (pipeOk l) (l.length - 1) q)) (h : RdN w B A l) (hB : B ≤ w.heap.size) (hn : l.length ≤ 1048576) :
    Calls Try.prog 27 #[.agg #[.slice A l.length c]] w fun e w' => ∃ A' c', e = .returned (.agg #[.slice A' q.length c']) ∧ OwnN w' w.heap.size A' c' q ∧ Below w.heap.size w w' := by
  obtain ⟨W0, hW0⟩ : ∃ W0 : World, W0 = (w.alloc (.cells #[.slice A l.length c] 32)).alloc (.cells #[.slice none 0 0] 32) := ⟨_, rfl⟩
  have hb0 : Below w.heap.size w W0 := by rw [hW0]; exact ((Below.refl w.heap.size w).alloc (Nat.le_refl _) _).alloc (by simp) _
  have hx0 : Bk W0 w.heap.size 32 [.slice A l.length c] := by rw [hW0]; exact (Bk.new _ _ [_]).alloc _
  have hr0 : Bk W0 (w.heap.size + 1) 32 [.slice none 0 0] := by
    rw [hW0]
    have := Bk.new (w.alloc (.cells #[.slice A l.length c] 32)) 32 [.slice none 0 0]
    simpa using this
  have H0 := Lib.hid (h.below hb0 hB)
  have Hb0 := Lib.hid hb0
  have Hx0 := Lib.hid hx0
  have Hr0 := Lib.hid hr0
  have HW0 := Lib.hid hW0
  have hz0 := hb0.size
  clear h hb0 hx0 hr0 hW0
  go_enter Try.func27, Try.ntmps27
  go_wp2_with fail
  rw [← HW0.out]
  refine (implValidPipe_any A c l W0 B H0.out (by omega) hn).mono ?_
  rintro e w1 ⟨rfl, hb1⟩
  have Hb1 := Lib.hid (Hb0.out.trans (hb1.mono hz0))
  have Hx1 := Lib.hid (Hx0.out.below hb1 Hx0.out.lt)
  have Hr1 := Lib.hid (Hr0.out.below hb1 Hr0.out.lt)
  have H1 := Lib.hid (H0.out.below hb1 (by omega))
  have hc1 : w1.cell? ⟨w.heap.size, 0, none⟩ = some (.slice A l.length c) := Hx1.out.cell 0
  have d1 : w1.cell? ⟨w.heap.size + 1, 0, none⟩ = some (.slice none 0 0) := Hr1.out.cell 0
  have f1 := Hr1.out.free 0
  have hz1 := Hb1.out.size
  clear hb1 HW0
  cases hv : pipeOk l
  · have Hv := Lib.hid hv
    clear hv
    have hq0 := hq.out.no Hv.out
    subst hq0
    go_wp2_with fail
    refine bodyPost_ret (v := .agg #[.slice none 0 0]) (by simp [results, Try.results27, go_sem, d1]) rfl ⟨none, 0, rfl, own_nil _ _, ?_⟩
    exact Hb1.out.setCell (p := ⟨w.heap.size + 1, 0, none⟩) (Nat.le_succ _) _
  · have Hv := Lib.hid hv
    obtain ⟨t, ht⟩ := tree_of_pipe hv
    have hlo := low_of hv
    have hhi := high_of hv
    have hq0 := hq.out.yes hv ht
    have hql : q.length = t.size := by rw [hq0, T.put_len]
    have Hql := Lib.hid hql
    have Hq := Lib.hid hq0
    have Ht := Lib.hid ht
    clear hv ht hq0 hql hq
    go_wp2_with fail
    refine (treeOf_any Ht A c w1 B H1.out (by omega) hlo hn).mono ?_
    rintro e w2 ⟨rfl, hb2⟩
    have hr2 := Hr1.out.below hb2 Hr1.out.lt
    have Hb2 := Lib.hid hb2
    have Hr2 := Lib.hid hr2
    clear hb2 hr2
    rw [tv_rv]
    go_wp2_with fail
    rw [← tv_rv]
    refine (pipeOf_any Ht (by omega) w2).mono ?_
    rintro e w3 ⟨A', c', rfl, ho3', hb3'⟩
    have hb3 : Below w1.heap.size w1 w3 := Hb2.out.trans (hb3'.mono Hb2.out.size)
    have ho3 : OwnN w3 w1.heap.size A' c' (t.put 0) := ho3'.base_ Hb2.out.size
    clear ho3' hb3'
    have Hb3 := Lib.hid (Hb1.out.trans (hb3.mono hz1))
    have Hr3 := Lib.hid (Hr1.out.below hb3 Hr1.out.lt)
    have Ho3 := Lib.hid ho3
    have d3 : w3.cell? ⟨w.heap.size + 1, 0, none⟩ = some (.slice none 0 0) := Hr3.out.cell 0
    have f3 := Hr3.out.free 0
    have hlt1 := Hr1.out.lt
    clear hb3 ho3 d1 f1 hc1
    go_wp2_with fail
    have hst := grown_one (World.grownBy.refl w3 (some (w.heap.size + 1))) 0 (.slice A' t.size c')
    refine bodyPost_ret (v := .agg #[.slice A' t.size c']) (by simp [results, Try.results27, go_sem, d3]) rfl ⟨A', c', by rw [Hql.out], ?_, ?_⟩
    · rw [Hq.out]
      refine (Ho3.out.grown hst (.inr fun e => ?_)).base_ hz1
      have := (Ho3.out.row_lt _ e).1
      omega
    · exact Hb3.out.setCell (p := ⟨w.heap.size + 1, 0, none⟩) (Nat.le_succ _) _

end Go.Proofs.Ytkjhncohanfciaa
