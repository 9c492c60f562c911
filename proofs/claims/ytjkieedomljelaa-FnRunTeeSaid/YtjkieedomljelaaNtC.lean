/- NewTee by the reference: its door. -/
import Derived.Test.YtjkieedomljelaaNtB
namespace Go.Proofs.Ytjkieedomljelaa
open Go.RowKit Go.Deep

set_option maxRecDepth 100000 in
set_option maxHeartbeats 6400000 in
theorem specNewTee_any (A : Option Addr) (c : Nat) (l : List Int) (i : Int) (w : World) (B : Nat) (h : RdI w B A l) (hB : B ≤ w.heap.size) (hn : l.length ≤ 1048576) :
    Calls Try.prog 42 #[.slice A l.length c, .int .i64 i] w fun e w' => ∃ r' : Tr, e = .returned (.agg #[.slice r'.a1 (newQ l i).it.length r'.c1, .int .i64 (newQ l i).fd, .slice r'.a2 (newQ l i).pl.length r'.c2, .slice r'.a3 (newQ l i).op.length r'.c3]) ∧ OwnT w' w.heap.size w'.heap.size r' (newQ l i) ∧ Below w.heap.size w w' := by
  obtain ⟨W0, hW0⟩ : ∃ W : World, W = w.alloc (.cells #[.slice none 0 0, .int .i64 0, .slice none 0 0, .slice none 0 0] 27) := ⟨_, rfl⟩
  have hb0 : Below w.heap.size w W0 := by rw [hW0]; exact (Below.refl _ _).alloc (Nat.le_refl _) _
  have bres : Bk W0 w.heap.size 27 [.slice none 0 0, .int .i64 0, .slice none 0 0, .slice none 0 0] := by
    rw [hW0]
    exact Bk.new w 27 [.slice none 0 0, .int .i64 0, .slice none 0 0, .slice none 0 0]
  have hs0 : W0.heap.size = w.heap.size + 1 := by rw [hW0]; simp
  have HT := Lib.hid h
  have Hb0 := Lib.hid hb0
  have HW0 := Lib.hid hW0
  have Br := Lib.hid bres
  have Hs0 := Lib.hid hs0
  clear h hb0 hW0 hs0 bres
  go_enter Try.func42, Try.ntmps42
  go_wp2_with fail
  rw [← HW0.out]
  refine (goodTee_any A c l i W0 B (HT.out.below Hb0.out hB) hn).mono ?_
  rintro e w1 ⟨rfl, rfl⟩
  cases hv : (rowOk l && inR i 1 4)
  · have Hq := Lib.hid (newQ_no (l := l) (i := i) hv)
    obtain ⟨cr0, cr1, cr2, cr3⟩ := Br.out.cellsT
    obtain ⟨fr0, fr1, fr2, fr3⟩ := Br.out.freeT
    clear hv
    go_wp2_with fail
    refine bodyPost_ret (v := .agg #[.slice none 0 0, .int .i64 0, .slice none 0 0, .slice none 0 0]) (by simp [results, Try.results42, go_sem, cr0, cr1, cr2, cr3]) rfl ⟨nilTr, by rw [Hq.out]; rfl, by rw [Hq.out]; exact OwnT.nil_ _ (by show w.heap.size ≤ _; simp [World.setCell, Hs0.out]) _, ?_⟩
    exact (((Hb0.out.setCell (Nat.le_refl _) _).setCell (Nat.le_refl _) _).setCell (Nat.le_refl _) _).setCell (Nat.le_refl _) _
  have hi : inR i 1 4 = true := (Bool.and_eq_true _ _ ▸ hv).2
  obtain ⟨hi0, hi1⟩ := inR_iff.1 hi
  obtain ⟨n, rfl⟩ : ∃ n : Nat, i = n := ⟨i.toNat, by omega⟩
  have Hq := Lib.hid (newQ_yes (l := l) (n := n) hv)
  have h1 : 1 ≤ n := by omega
  have h4 : n ≤ 4 := by omega
  clear hv hi hi0 hi1
  go_wp2_with fail
  refine (newTee_any A c l n h1 h4 W0 B (HT.out.below Hb0.out hB) (by have := Hb0.out.size; omega) hn).mono ?_
  rintro e x ⟨rr, rfl, how, hbx⟩
  have How := Lib.hid how
  have Hbx := Lib.hid (Hb0.out.trans (hbx.mono Hb0.out.size))
  have hbr := Br.out.below hbx Br.out.lt
  obtain ⟨cr0, cr1, cr2, cr3⟩ := hbr.cellsT
  obtain ⟨fr0, fr1, fr2, fr3⟩ := hbr.freeT
  have Hzx := Lib.hid hbx.size
  clear how hbx hbr
  go_wp2_with fail
  refine bodyPost_ret (v := .agg #[.slice rr.a1 (newT l n).it.length rr.c1, .int .i64 (newT l n).fd, .slice rr.a2 (newT l n).pl.length rr.c2, .slice rr.a3 (newT l n).op.length rr.c3]) (by simp [results, Try.results42, go_sem, cr0, cr1, cr2, cr3]) rfl ⟨rr, by rw [Hq.out], ?_, ?_⟩
  · have hs0 := Hs0.out
    rw [Hq.out]
    rw [show (∀ a b c d : Value, ((((x.setCell ⟨w.heap.size, 0, none⟩ a).setCell ⟨w.heap.size, 1, none⟩ b).setCell ⟨w.heap.size, 2, none⟩ c).setCell ⟨w.heap.size, 3, none⟩ d).heap.size = x.heap.size) from fun a b c d => by simp [World.setCell]]
    refine (How.out.agree fun b hb _ => ?_).wide (by omega) (Nat.le_refl _)
    have far : ∀ (v : World) (j : Nat) (u : Value), (v.setCell ⟨w.heap.size, j, none⟩ u).heap[b]? = v.heap[b]? := fun v j u => Below.heap_setCell v _ u b (by show b ≠ w.heap.size; omega)
    rw [far, far, far, far]
  · exact (((Hbx.out.setCell (Nat.le_refl _) _).setCell (Nat.le_refl _) _).setCell (Nat.le_refl _) _).setCell (Nat.le_refl _) _

theorem specNewTee_q (A : Option Addr) (c : Nat) (l : List Int) (i : Int) (w : World) (B : Nat) (h : RdI w B A l) (hB : B ≤ w.heap.size) (hn : l.length ≤ 1048576) (q : Te) (hq : Hid (newQ l i = q)) :
    Calls Try.prog 42 #[.slice A l.length c, .int .i64 i] w fun e w' => ∃ r' : Tr, e = .returned (.agg #[.slice r'.a1 q.it.length r'.c1, .int .i64 q.fd, .slice r'.a2 q.pl.length r'.c2, .slice r'.a3 q.op.length r'.c3]) ∧ OwnT w' w.heap.size w'.heap.size r' q ∧ Below w.heap.size w w' := by
  have h1 := hq.out
  subst h1
  exact specNewTee_any A c l i w B h hB hn
theorem implNewTee_q (A : Option Addr) (c : Nat) (l : List Int) (i : Int) (w : World) (B : Nat) (h : RdI w B A l) (hB : B ≤ w.heap.size) (hn : l.length ≤ 1048576) (q : Te) (hq : Hid (newQ l i = q)) :
    Calls Try.prog 40 #[.slice A l.length c, .int .i64 i] w fun e w' => ∃ r' : Tr, e = .returned (.agg #[.slice r'.a1 q.it.length r'.c1, .int .i64 q.fd, .slice r'.a2 q.pl.length r'.c2, .slice r'.a3 q.op.length r'.c3]) ∧ OwnT w' w.heap.size w'.heap.size r' q ∧ Below w.heap.size w w' := by
  have h1 := hq.out
  subst h1
  exact implNewTee_any A c l i w B h hB hn
theorem newQ_small (l : List Int) (i : Int) : (newQ l i).it.length ≤ 12 ∧ (newQ l i).pl.length ≤ 4 ∧ (newQ l i).op.length ≤ 4 := by
  unfold newQ
  split
  · rename_i h
    rw [Bool.and_eq_true] at h
    have h1 := h.1
    unfold rowOk at h1
    rw [Bool.and_eq_true] at h1
    have h2 := of_decide_eq_true h1.1
    have h3 := inR_iff.1 h.2
    simp [newT]
    omega
  · simp [zeroTe]

end Go.Proofs.Ytjkieedomljelaa
