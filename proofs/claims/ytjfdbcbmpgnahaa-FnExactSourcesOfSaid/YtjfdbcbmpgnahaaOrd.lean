/- Contracts: a pipe with its nodes in order, and the part of a node, told by the reference and by the program. -/
import Derived.Test.YtjfdbcbmpgnahaaAdd
namespace Go.Proofs.Ytjfdbcbmpgnahaa
open Go.RowKit

theorem IsTree.size_le {l : List Nd} {i : Nat} {t : T} (h : IsTree l i t) : t.size + 1 ≤ 2 ^ (i + 1) := by
  induction h with
  | @leaf i => simp only [T.size]; have := Nat.one_lt_two_pow (n := i + 1) (by omega); omega
  | @stem i j x t _ _ _ hj _ _ ih =>
    simp only [T.size]
    have h1 : 2 ^ (j + 1) ≤ 2 ^ i := Nat.pow_le_pow_right (by decide) (by omega)
    have h2 : 2 ^ (i + 1) = 2 * 2 ^ i := by rw [Nat.pow_succ, Nat.mul_comm]
    have h3 : 1 ≤ 2 ^ i := Nat.one_le_two_pow
    omega
  | @fork i j j2 x a b _ _ _ hj _ hj2 _ _ iha ihb =>
    simp only [T.size]
    have h1 : 2 ^ (j + 1) ≤ 2 ^ i := Nat.pow_le_pow_right (by decide) (by omega)
    have h4 : 2 ^ (j2 + 1) ≤ 2 ^ i := Nat.pow_le_pow_right (by decide) (by omega)
    have h2 : 2 ^ (i + 1) = 2 * 2 ^ i := by rw [Nat.pow_succ, Nat.mul_comm]
    omega
theorem IsTree.size_12 {l : List Nd} {i : Nat} {t : T} (h : IsTree l i t) (hi : i < 12) : t.size ≤ 4096 := by
  have h1 := h.size_le
  have h2 : 2 ^ (i + 1) ≤ 2 ^ 12 := Nat.pow_le_pow_right (by decide) (by omega)
  omega

theorem Wrote.below {w W w1 : World} {base c' : Nat} {A A' : Option Addr} {q : List Nd} (k : Wrote W w1 base A A' c' q) (h : Below w.heap.size w W) (hA : ∀ g, rowOf A = some g → w.heap.size ≤ g) : Below w.heap.size w w1 :=
  h.grown k.grown h.size hA

set_option maxHeartbeats 1600000 in
theorem ordered_any {l : List Nd} {i : Nat} {t : T} (ht : Hid (IsTree l i t)) (hi : i < 12) (A : Option Addr) (c : Nat) (w : World) (B : Nat) (h : RdN w B A l) (hB : B ≤ w.heap.size) (hn : l.length ≤ 1048576) :
    Calls Try.prog 76 #[.agg #[.slice A l.length c], .int .i64 i] w fun e w' => ∃ A' c', e = .returned (.agg #[.slice A' t.size c']) ∧ OwnN w' w.heap.size A' c' (t.put 0) ∧ Below w.heap.size w w' := by
  obtain ⟨W2, hW2⟩ : ∃ W2 : World, W2 = ((w.alloc (.cells #[.slice A l.length c] 32)).alloc (.cells #[.slice none 0 0] 32)).alloc (.cells #[] 84) := ⟨_, rfl⟩
  have hb2 : Below w.heap.size w W2 := by rw [hW2]; exact (((Below.refl _ _).alloc (Nat.le_refl _) _).alloc (by simp) _).alloc (by simp; omega) _
  have hs2 : W2.heap.size = w.heap.size + 3 := by rw [hW2]; simp
  have hres : Bk W2 (w.heap.size + 1) 32 [.slice none 0 0] := by
    rw [hW2]
    have := (Bk.new (w.alloc (.cells #[.slice A l.length c] 32)) 32 [.slice none 0 0]).alloc (.cells #[] 84)
    simpa using this
  have hemp : OwnN W2 w.heap.size (some ⟨w.heap.size + 2, 0, none⟩) 0 [] := by
    have h1 : Bk W2 (w.heap.size + 2) 84 (nds []) := by
      rw [hW2]
      have := Bk.new ((w.alloc (.cells #[.slice A l.length c] 32)).alloc (.cells #[.slice none 0 0] 32)) 84 []
      have hs : ((w.alloc (.cells #[.slice A l.length c] 32)).alloc (.cells #[.slice none 0 0] 32)).heap.size = w.heap.size + 2 := by simp
      rw [hs] at this
      exact this
    exact h1.own (by omega) (by simp)
  have hsz := ht.out.size_12 hi
  have HW2 := Lib.hid hW2
  have Hb2 := Lib.hid hb2
  have Hres := Lib.hid hres
  have Hemp := Lib.hid hemp
  have Hh2 := Lib.hid (h.below hb2 hB)
  have Hs2 := Lib.hid hs2
  clear hW2 hb2 hres hemp h hs2
  go_enter Try.func76, Try.ntmps76
  go_wp2_with fail
  rw [← HW2.out]
  refine (post_any ht.out A c W2 B w.heap.size _ 0 [] 0 Hh2.out hB Hb2.out.size Hemp.out rfl (by omega) hn).mono ?_
  rintro e w3 ⟨A', c', rfl, hwr⟩
  have hs := Hs2.out
  have hres3 := Hres.out.grown hwr.grown (by simp [rowOf])
  have hne : rowOf A' ≠ some (w.heap.size + 1) := by
    rcases hwr.at_ with e | ⟨g, e, hg⟩
    · rw [e]; simp [rowOf]
    · rw [e]; intro e2; have := Option.some.inj e2; omega
  have Hwr := Lib.hid hwr
  have Hres3 := Lib.hid hres3
  have Hne : Hid (rowOf A' ≠ some (w.heap.size + 1)) := hne
  have d1 : w3.cell? ⟨w.heap.size + 1, 0, none⟩ = some (.slice none 0 0) := hres3.cell 0
  have f1 := hres3.free 0
  clear hwr hres3 hne
  rw [Nat.zero_add]
  go_wp2_with fail
  have hst := grown_one (World.grownBy.refl w3 (some (w.heap.size + 1))) 0 (.slice A' t.size c')
  refine bodyPost_ret (v := .agg #[.slice A' t.size c']) (by simp [results, Try.results76, go_sem, d1]) rfl ⟨A', c', rfl, ?_, ?_⟩
  · exact Hwr.out.own.grown hst (.inr Hne.out)
  · exact (Hwr.out.below Hb2.out (fun g hg => by simp [rowOf] at hg; omega)).setCell (p := ⟨w.heap.size + 1, 0, none⟩) (Nat.le_succ _) _

theorem RdN.nil_ (w : World) (B : Nat) : RdN w B none [] := fun h => absurd h (by simp)

set_option maxRecDepth 100000 in
set_option maxHeartbeats 1600000 in
theorem pipeOf_any {l : List Nd} {i : Nat} {t : T} (ht : Hid (IsTree l i t)) (hi : i < 12) (w : World) :
    Calls Try.prog 78 #[tv t] w fun e w' => ∃ A' c', e = .returned (.agg #[.slice A' t.size c']) ∧ OwnN w' w.heap.size A' c' (t.put 0) ∧ Below w.heap.size w w' := by
  obtain ⟨W2, hW2⟩ : ∃ W2 : World, W2 = w.alloc (.cells #[.slice none 0 0] 32) := ⟨_, rfl⟩
  have hb2 : Below w.heap.size w W2 := by rw [hW2]; exact (Below.refl _ _).alloc (Nat.le_refl _) _
  have hs2 : W2.heap.size = w.heap.size + 1 := by rw [hW2]; simp
  have hres : Bk W2 w.heap.size 32 [.slice none 0 0] := by rw [hW2]; exact Bk.new w _ [_]
  have hsz := ht.out.size_12 hi
  have hm := method_add t
  have he := enter_add t
  have Hadd := Lib.hid (add_any t ht.out.fit W2 w.heap.size none 0 [] 0 hb2.size (own_nil _ _) rfl (by omega))
  have HW2 := Lib.hid hW2
  have Hb2 := Lib.hid hb2
  have Hres := Lib.hid hres
  have Hs2 := Lib.hid hs2
  clear hW2 hb2 hres hs2 ht
  rw [tv_rv]
  obtain ⟨ty, hty⟩ : ∃ ty, ty = tyOf t := ⟨_, rfl⟩
  obtain ⟨v, hv⟩ : ∃ v, v = rv t := ⟨_, rfl⟩
  obtain ⟨f, hf⟩ : ∃ f, f = addFn t := ⟨_, rfl⟩
  rw [← hv, ← hty, ← hf] at hm
  rw [← hv, ← hf] at he Hadd
  rw [← hv, ← hty]
  clear hv hty hf
  go_enter Try.func78, Try.ntmps78
  go_wp2_with fail
  rw [← HW2.out]
  refine Hadd.out.mono ?_
  rintro e w3 ⟨A', c', rfl, hwr⟩
  have hs := Hs2.out
  have hres3 := Hres.out.grown hwr.grown (by simp [rowOf])
  have hne : rowOf A' ≠ some w.heap.size := by
    rcases hwr.at_ with e | ⟨g, e, hg⟩
    · rw [e]; simp [rowOf]
    · rw [e]; intro e2; have := Option.some.inj e2; omega
  have Hwr := Lib.hid hwr
  have Hne : Hid (rowOf A' ≠ some w.heap.size) := hne
  have d1 : w3.cell? ⟨w.heap.size, 0, none⟩ = some (.slice none 0 0) := hres3.cell 0
  have f1 := hres3.free 0
  clear hwr hres3 hne
  rw [Nat.zero_add]
  go_wp2_with fail
  have hst := grown_one (World.grownBy.refl w3 (some w.heap.size)) 0 (.slice A' t.size c')
  refine bodyPost_ret (v := .agg #[.slice A' t.size c']) (by simp [results, Try.results78, go_sem, d1]) rfl ⟨A', c', rfl, ?_, ?_⟩
  · exact Hwr.out.own.grown hst (.inr Hne.out)
  · exact (Hwr.out.below Hb2.out (fun g hg => by simp [rowOf] at hg)).setCell (p := ⟨w.heap.size, 0, none⟩) (Nat.le_refl _) _

end Go.Proofs.Ytjfdbcbmpgnahaa
