/- Contracts: the part of a pipe at a node, told by the reference and by the program. -/
import Derived.Test.YtkjhncohanfciaaOrd
namespace Go.Proofs.Ytkjhncohanfciaa
open Go.RowKit

set_option maxRecDepth 100000 in
set_option maxHeartbeats 1600000 in
theorem specPartOf_any (A : Option Addr) (c : Nat) (l : List Nd) (w : World) (B : Nat) (i : Int) (q : List Nd) (hq : Hid (OrdOf l (pipeOk l && inR i 0 ((l.length : Int) - 1)) i.toNat q)) (h : RdN w B A l) (hB : B ≤ w.heap.size) (hn : l.length ≤ 1048576) :
    Calls Try.prog 29 #[.agg #[.slice A l.length c], .int .i64 i] w fun e w' => ∃ A' c', e = .returned (.agg #[.slice A' q.length c']) ∧ OwnN w' w.heap.size A' c' q ∧ Below w.heap.size w w' := by
  obtain ⟨W0, hW0⟩ : ∃ W0 : World, W0 = (w.alloc (.cells #[.slice A l.length c] 32)).alloc (.cells #[.slice none 0 0] 32) := ⟨_, rfl⟩
  have hb0 : Below w.heap.size w W0 := by rw [hW0]; exact ((Below.refl w.heap.size w).alloc (Nat.le_refl _) _).alloc (by simp) _
  have hx0 : Bk W0 w.heap.size 32 [.slice A l.length c] := by rw [hW0]; exact (Bk.new _ _ [_]).alloc _
  have hr0 : Bk W0 (w.heap.size + 1) 32 [.slice none 0 0] := by
    rw [hW0]
    have := Bk.new (w.alloc (.cells #[.slice A l.length c] 32)) 32 [.slice none 0 0]
    simpa using this
  have H0 := Lib.hid (h.below hb0 hB)
  have Hb0 := Lib.hid hb0
  have Hx0 := Lib.hid hx0
  have Hr0 := Lib.hid hr0
  have HW0 := Lib.hid hW0
  have hz0 := hb0.size
  clear h hb0 hx0 hr0 hW0
  go_enter Try.func29, Try.ntmps29
  go_wp2_with fail
  rw [← HW0.out]
  refine (specvalidPipe_any A c l W0 B H0.out (by omega) hn).mono ?_
  rintro e w1 ⟨rfl, hb1⟩
  have Hb1 := Lib.hid (Hb0.out.trans (hb1.mono hz0))
  have Hx1 := Lib.hid (Hx0.out.below hb1 Hx0.out.lt)
  have Hr1 := Lib.hid (Hr0.out.below hb1 Hr0.out.lt)
  have H1 := Lib.hid (H0.out.below hb1 (by omega))
  have hc1 : w1.cell? ⟨w.heap.size, 0, none⟩ = some (.slice A l.length c) := Hx1.out.cell 0
  have d1 : w1.cell? ⟨w.heap.size + 1, 0, none⟩ = some (.slice none 0 0) := Hr1.out.cell 0
  have f1 := Hr1.out.free 0
  have hz1 := Hb1.out.size
  clear hb1 HW0
  cases hv : pipeOk l
  · have Hv := Lib.hid hv
    clear hv
    have hq0 := hq.out.no (by rw [Hv.out]; rfl)
    subst hq0
    go_wp2_with fail
    refine bodyPost_ret (v := .agg #[.slice none 0 0]) (by simp [results, Try.results29, go_sem, d1]) rfl ⟨none, 0, rfl, own_nil _ _, ?_⟩
    exact Hb1.out.setCell (p := ⟨w.heap.size + 1, 0, none⟩) (Nat.le_succ _) _
  · have hlo := low_of hv
    have hhi := high_of hv
    cases hi : inR i 0 ((l.length : Int) - 1)
    · have hq0 := hq.out.no (by rw [hv, hi]; rfl)
      have Hi := Lib.hid hi
      clear hv hi
      subst hq0
      go_wp2_with (go_at_call 50; refine (specInR_any _ _ _ _).mono ?_; rintro e w1 ⟨rfl, rfl⟩; rw [Hi.out])
      refine bodyPost_ret (v := .agg #[.slice none 0 0]) (by simp [results, Try.results29, go_sem, d1]) rfl ⟨none, 0, rfl, own_nil _ _, ?_⟩
      exact Hb1.out.setCell (p := ⟨w.heap.size + 1, 0, none⟩) (Nat.le_succ _) _
    have hi' := hi
    simp only [inR, Bool.and_eq_true, decide_eq_true_eq] at hi'
    obtain ⟨hi0, hi1⟩ := hi'
    obtain ⟨k, rfl⟩ : ∃ k : Nat, i = k := ⟨i.toNat, by omega⟩
    have hk : k < l.length := by omega
    have Hi := Lib.hid hi
    obtain ⟨t, ht⟩ := IsTree.ex (pipeOk_iff.1 hv) l.length k hk hk
    have hq0 := hq.out.yes (by rw [hv, hi]; rfl) ht
    have hql : q.length = t.size := by rw [hq0, T.put_len]
    have Hql := Lib.hid hql
    have Hq := Lib.hid hq0
    have Ht := Lib.hid ht
    clear hv ht hq0 hql hq hi hi0 hi1
    go_wp2_with (go_at_call 50; refine (specInR_any _ _ _ _).mono ?_; rintro e w1 ⟨rfl, rfl⟩; rw [Hi.out])
    refine (ordered_any Ht (by omega) A c w1 B H1.out (by omega) hn).mono ?_
    rintro e w3 ⟨A', c', rfl, ho3, hb3⟩
    have Hb3 := Lib.hid (Hb1.out.trans (hb3.mono hz1))
    have Hr3 := Lib.hid (Hr1.out.below hb3 Hr1.out.lt)
    have Ho3 := Lib.hid ho3
    have d3 : w3.cell? ⟨w.heap.size + 1, 0, none⟩ = some (.slice none 0 0) := Hr3.out.cell 0
    have f3 := Hr3.out.free 0
    have hlt1 := Hr1.out.lt
    clear hb3 ho3 d1 f1 hc1
    go_wp2_with fail
    have hst := grown_one (World.grownBy.refl w3 (some (w.heap.size + 1))) 0 (.slice A' t.size c')
    refine bodyPost_ret (v := .agg #[.slice A' t.size c']) (by simp [results, Try.results29, go_sem, d3]) rfl ⟨A', c', by rw [Hql.out], ?_, ?_⟩
    · rw [Hq.out]
      refine (Ho3.out.grown hst (.inr fun e => ?_)).base_ hz1
      have := (Ho3.out.row_lt _ e).1
      omega
    · exact Hb3.out.setCell (p := ⟨w.heap.size + 1, 0, none⟩) (Nat.le_succ _) _

set_option maxRecDepth 100000 in
set_option maxHeartbeats 1600000 in
theorem hasNode_any (A : Option Addr) (c : Nat) (l : List Nd) (w : World) (B : Nat) (i : Int) (h : RdN w B A l) (hB : B ≤ w.heap.size) (hn : l.length ≤ 1048576) :
    Calls Try.prog 51 #[.agg #[.slice A l.length c], .int .i64 i] w fun e w' => e = .returned (.bool (pipeOk l && inR i 0 ((l.length : Int) - 1))) ∧ Below w.heap.size w w' := by
  obtain ⟨W0, hW0⟩ : ∃ W0 : World, W0 = w.alloc (.cells #[.slice A l.length c] 32) := ⟨_, rfl⟩
  have hb0 : Below w.heap.size w W0 := by rw [hW0]; exact (Below.refl w.heap.size w).alloc (Nat.le_refl _) _
  have hx0 : Bk W0 w.heap.size 32 [.slice A l.length c] := by rw [hW0]; exact Bk.new _ _ _
  have H0 := Lib.hid (h.below hb0 hB)
  have Hb0 := Lib.hid hb0
  have Hx0 := Lib.hid hx0
  have HW0 := Lib.hid hW0
  have hz0 := hb0.size
  clear h hb0 hx0 hW0
  go_enter Try.func51, Try.ntmps51
  go_wp2_with fail
  rw [← HW0.out]
  refine (implValidPipe_any A c l W0 B H0.out (by omega) hn).mono ?_
  rintro e w1 ⟨rfl, hb1⟩
  have Hb1 := Lib.hid (Hb0.out.trans (hb1.mono hz0))
  have Hx1 := Lib.hid (Hx0.out.below hb1 Hx0.out.lt)
  have hc1 : w1.cell? ⟨w.heap.size, 0, none⟩ = some (.slice A l.length c) := Hx1.out.cell 0
  clear hb1 HW0
  cases hv : pipeOk l
  · have Hv := Lib.hid hv
    clear hv
    go_wp2_with fail
    refine bodyPost_ret (v := .bool false) (by simp [results, Try.results51, go_sem]) rfl ⟨by rw [Hv.out]; rfl, Hb1.out⟩
  · have hhi := high_of hv
    have Hv := Lib.hid hv
    clear hv
    go_wp2_with (go_at_call 59; refine (within_any _ _ _ _).mono ?_; rintro e w2 ⟨rfl, rfl⟩)
    refine bodyPost_ret (v := .bool (inR i 0 ((l.length : Int) - 1))) (by simp [results, Try.results51, go_sem]) rfl ⟨by rw [Hv.out, Bool.true_and], Hb1.out⟩

set_option maxRecDepth 100000 in
set_option maxHeartbeats 1600000 in
theorem implPartOf_any (A : Option Addr) (c : Nat) (l : List Nd) (w : World) (B : Nat) (i : Int) (q : List Nd) (hq : Hid (OrdOf l (pipeOk l && inR i 0 ((l.length : Int) - 1)) i.toNat q)) (h : RdN w B A l) (hB : B ≤ w.heap.size) (hn : l.length ≤ 1048576) :
    Calls Try.prog 30 #[.agg #[.slice A l.length c], .int .i64 i] w fun e w' => ∃ A' c', e = .returned (.agg #[.slice A' q.length c']) ∧ OwnN w' w.heap.size A' c' q ∧ Below w.heap.size w w' := by
  obtain ⟨W0, hW0⟩ : ∃ W0 : World, W0 = (w.alloc (.cells #[.slice A l.length c] 32)).alloc (.cells #[.slice none 0 0] 32) := ⟨_, rfl⟩
  have hb0 : Below w.heap.size w W0 := by rw [hW0]; exact ((Below.refl w.heap.size w).alloc (Nat.le_refl _) _).alloc (by simp) _
  have hx0 : Bk W0 w.heap.size 32 [.slice A l.length c] := by rw [hW0]; exact (Bk.new _ _ [_]).alloc _
  have hr0 : Bk W0 (w.heap.size + 1) 32 [.slice none 0 0] := by
    rw [hW0]
    have := Bk.new (w.alloc (.cells #[.slice A l.length c] 32)) 32 [.slice none 0 0]
    simpa using this
  have H0 := Lib.hid (h.below hb0 hB)
  have Hb0 := Lib.hid hb0
  have Hx0 := Lib.hid hx0
  have Hr0 := Lib.hid hr0
  have HW0 := Lib.hid hW0
  have hz0 := hb0.size
  clear h hb0 hx0 hr0 hW0
  go_enter Try.func30, Try.ntmps30
  go_wp2_with fail
  rw [← HW0.out]
  refine (hasNode_any A c l W0 B i H0.out (by omega) hn).mono ?_
  rintro e w1 ⟨rfl, hb1⟩
  have Hb1 := Lib.hid (Hb0.out.trans (hb1.mono hz0))
  have Hx1 := Lib.hid (Hx0.out.below hb1 Hx0.out.lt)
  have Hr1 := Lib.hid (Hr0.out.below hb1 Hr0.out.lt)
  have H1 := Lib.hid (H0.out.below hb1 (by omega))
  have hc1 : w1.cell? ⟨w.heap.size, 0, none⟩ = some (.slice A l.length c) := Hx1.out.cell 0
  have d1 : w1.cell? ⟨w.heap.size + 1, 0, none⟩ = some (.slice none 0 0) := Hr1.out.cell 0
  have f1 := Hr1.out.free 0
  have hz1 := Hb1.out.size
  clear hb1 HW0
  cases hb : (pipeOk l && inR i 0 ((l.length : Int) - 1))
  · have Hv := Lib.hid hb
    clear hb
    have hq0 := hq.out.no Hv.out
    subst hq0
    go_wp2_with fail
    refine bodyPost_ret (v := .agg #[.slice none 0 0]) (by simp [results, Try.results30, go_sem, d1]) rfl ⟨none, 0, rfl, own_nil _ _, ?_⟩
    exact Hb1.out.setCell (p := ⟨w.heap.size + 1, 0, none⟩) (Nat.le_succ _) _
  · have hv : pipeOk l = true := (Bool.and_eq_true _ _ ▸ hb).1
    have hi : inR i 0 ((l.length : Int) - 1) = true := (Bool.and_eq_true _ _ ▸ hb).2
    have hlo := low_of hv
    have hhi := high_of hv
    clear hb
    have hi' := hi
    simp only [inR, Bool.and_eq_true, decide_eq_true_eq] at hi'
    obtain ⟨hi0, hi1⟩ := hi'
    obtain ⟨k, rfl⟩ : ∃ k : Nat, i = k := ⟨i.toNat, by omega⟩
    have hk : k < l.length := by omega
    have Hi := Lib.hid hi
    obtain ⟨t, ht⟩ := IsTree.ex (pipeOk_iff.1 hv) l.length k hk hk
    have hq0 := hq.out.yes (by rw [hv, hi]; rfl) ht
    have hql : q.length = t.size := by rw [hq0, T.put_len]
    have Hql := Lib.hid hql
    have Hq := Lib.hid hq0
    have Ht := Lib.hid ht
    clear hv ht hq0 hql hq hi hi0 hi1
    go_wp2_with fail
    refine (treeAt_any Ht.out A c w1 B H1.out (by omega) hn).mono ?_
    rintro e w2 ⟨rfl, hb2⟩
    have hr2 := Hr1.out.below hb2 Hr1.out.lt
    have Hb2 := Lib.hid hb2
    have Hr2 := Lib.hid hr2
    clear hb2 hr2
    rw [tv_rv]
    go_wp2_with fail
    rw [← tv_rv]
    refine (pipeOf_any Ht (by omega) w2).mono ?_
    rintro e w3 ⟨A', c', rfl, ho3', hb3'⟩
    have hb3 : Below w1.heap.size w1 w3 := Hb2.out.trans (hb3'.mono Hb2.out.size)
    have ho3 : OwnN w3 w1.heap.size A' c' (t.put 0) := ho3'.base_ Hb2.out.size
    clear ho3' hb3'
    have Hb3 := Lib.hid (Hb1.out.trans (hb3.mono hz1))
    have Hr3 := Lib.hid (Hr1.out.below hb3 Hr1.out.lt)
    have Ho3 := Lib.hid ho3
    have d3 : w3.cell? ⟨w.heap.size + 1, 0, none⟩ = some (.slice none 0 0) := Hr3.out.cell 0
    have f3 := Hr3.out.free 0
    have hlt1 := Hr1.out.lt
    clear hb3 ho3 d1 f1 hc1
    go_wp2_with fail
    have hst := grown_one (World.grownBy.refl w3 (some (w.heap.size + 1))) 0 (.slice A' t.size c')
    refine bodyPost_ret (v := .agg #[.slice A' t.size c']) (by simp [results, Try.results30, go_sem, d3]) rfl ⟨A', c', by rw [Hql.out], ?_, ?_⟩
    · rw [Hq.out]
      refine (Ho3.out.grown hst (.inr fun e => ?_)).base_ hz1
      have := (Ho3.out.row_lt _ e).1
      omega
    · exact Hb3.out.setCell (p := ⟨w.heap.size + 1, 0, none⟩) (Nat.le_succ _) _

end Go.Proofs.Ytkjhncohanfciaa
