/- Contracts: the state of a pipe before the first pull, told by the reference and by the program. -/
import Derived.Test.YtjfdbcbmpgnahaaState
namespace Go.Proofs.Ytjfdbcbmpgnahaa
open Go.RowKit

/-- A new state. -/
structure NewOf (l : List Nd) (q : List Cl) : Prop where
  no : pipeOk l = false → q = []
  yes : pipeOk l = true → q = List.replicate l.length zeroCl
theorem Bk.newCl {w : World} {g n lo hi : Nat} (h : Bk w g 96 (madeCl n)) (h1 : lo ≤ g) (h2 : g < hi) : OwnCl w lo hi (some ⟨g, 0, none⟩) (List.replicate n zeroCl) := fun _ =>
  ⟨g, 0, madeCl n, rfl, h1, h2, h, fun k x hx => by
    have hk : k < n := by have := (List.getElem?_eq_some_iff.1 hx).1; simpa using this
    rw [List.getElem?_replicate, if_pos hk] at hx
    rw [← Option.some.inj hx, Nat.zero_add]
    exact madeCl_in n k hk⟩

set_option maxHeartbeats 1600000 in
theorem specnewState_any (A : Option Addr) (c n : Nat) (w : World) (hn : n ≤ 1048576) :
    Calls Try.prog 85 #[.agg #[.slice A n c]] w fun e w' => e = .returned (.agg #[.slice (some ⟨w.heap.size + 2, 0, none⟩) n n]) ∧ Bk w' (w.heap.size + 2) 96 (madeCl n) ∧ Below w.heap.size w w' := by
  have hmk := run_makeCl (P := Try.prog) 55 96 Try.underlying55 Try.infoCl n hn
  go_enter Try.func85, Try.ntmps85
  go_wp2
  refine bodyPost_ret (v := .agg #[.slice (some ⟨w.heap.size + 2, 0, none⟩) n n]) (by simp [results, Try.results85, go_sem]) rfl ⟨rfl, ?_, ?_⟩
  · have hs : ((w.alloc (.cells #[.slice A n c] 32)).alloc (.cells #[.slice (some ⟨w.heap.size + 2, 0, none⟩) n n] 57)).heap.size = w.heap.size + 2 := by simp
    have := Bk.new ((w.alloc (.cells #[.slice A n c] 32)).alloc (.cells #[.slice (some ⟨w.heap.size + 2, 0, none⟩) n n] 57)) 96 (madeCl n)
    rw [hs] at this
    exact this
  · exact (((Below.refl _ _).alloc (Nat.le_refl _) _).alloc (by simp) _).alloc (by simp; omega) _

set_option maxRecDepth 100000 in
set_option maxHeartbeats 1600000 in
theorem specNewState_any (A : Option Addr) (c : Nat) (l : List Nd) (w : World) (B : Nat) (q : List Cl) (hq : Hid (NewOf l q)) (h : RdN w B A l) (hB : B ≤ w.heap.size) (hn : l.length ≤ 1048576) :
    Calls Try.prog 42 #[.agg #[.slice A l.length c]] w fun e w' => ∃ A' c', e = .returned (.agg #[.slice A' q.length c']) ∧ OwnCl w' w.heap.size w'.heap.size A' q ∧ Below w.heap.size w w' := by
  obtain ⟨W0, hW0⟩ : ∃ W0 : World, W0 = (w.alloc (.cells #[.slice A l.length c] 32)).alloc (.cells #[.slice none 0 0] 57) := ⟨_, rfl⟩
  have hb0 : Below w.heap.size w W0 := by rw [hW0]; exact ((Below.refl w.heap.size w).alloc (Nat.le_refl _) _).alloc (by simp) _
  have hx0 : Bk W0 w.heap.size 32 [.slice A l.length c] := by rw [hW0]; exact (Bk.new _ _ [_]).alloc _
  have hr0 : Bk W0 (w.heap.size + 1) 57 [.slice none 0 0] := by
    rw [hW0]
    have := Bk.new (w.alloc (.cells #[.slice A l.length c] 32)) 57 [.slice none 0 0]
    simpa using this
  have H0 := Lib.hid (h.below hb0 hB)
  have Hb0 := Lib.hid hb0
  have Hx0 := Lib.hid hx0
  have Hr0 := Lib.hid hr0
  have HW0 := Lib.hid hW0
  have hz0 := hb0.size
  clear h hb0 hx0 hr0 hW0
  go_enter Try.func42, Try.ntmps42
  go_wp2_with fail
  rw [← HW0.out]
  refine (specvalidPipe_any A c l W0 B H0.out (by omega) hn).mono ?_
  rintro e w1 ⟨rfl, hb1⟩
  have Hb1 := Lib.hid (Hb0.out.trans (hb1.mono hz0))
  have Hx1 := Lib.hid (Hx0.out.below hb1 Hx0.out.lt)
  have Hr1 := Lib.hid (Hr0.out.below hb1 Hr0.out.lt)
  have hc1 : w1.cell? ⟨w.heap.size, 0, none⟩ = some (.slice A l.length c) := Hx1.out.cell 0
  have d1 : w1.cell? ⟨w.heap.size + 1, 0, none⟩ = some (.slice none 0 0) := Hr1.out.cell 0
  have f1 := Hr1.out.free 0
  have hz1 := Hb1.out.size
  have hr1 := Hr1.out.lt
  clear hb1 HW0
  cases hv : pipeOk l
  · obtain rfl := hq.out.no hv
    have Hv := Lib.hid hv
    clear hv
    go_wp2_with fail
    refine bodyPost_ret (v := .agg #[.slice none 0 0]) (by simp [results, Try.results42, go_sem, d1]) rfl ⟨none, 0, rfl, OwnCl.nil_ _ _ _ _, ?_⟩
    exact Hb1.out.setCell (p := ⟨w.heap.size + 1, 0, none⟩) (by simp) _
  have hqq := hq.out.yes hv
  have hql : q.length = l.length := by rw [hqq]; simp
  have Hqq := Lib.hid hqq
  have Hql := Lib.hid hql
  have Hv := Lib.hid hv
  clear hv hqq hql hq
  go_wp2_with fail
  refine (specnewState_any A c l.length w1 hn).mono ?_
  rintro e w2 ⟨rfl, hb2, hbl⟩
  have d2 : w2.cell? ⟨w.heap.size + 1, 0, none⟩ = some (.slice none 0 0) := (Hr1.out.below hbl hr1).cell 0
  have f2 := (Hr1.out.below hbl hr1).free 0
  have Hb2 := Lib.hid hb2
  have Hbl := Lib.hid hbl
  clear hb2 hbl d1 f1 hc1
  go_wp2_with fail
  refine bodyPost_ret (v := .agg #[.slice (some ⟨w1.heap.size + 2, 0, none⟩) l.length l.length]) (by simp [results, Try.results42, go_sem, d2]) rfl ⟨_, _, by rw [Hql.out], ?_, ?_⟩
  · rw [Hqq.out]
    exact Bk.newCl (Hb2.out.far (p := ⟨w.heap.size + 1, 0, none⟩) (by show w1.heap.size + 2 ≠ w.heap.size + 1; omega) _) (by omega) (by have := Hb2.out.lt; simp [World.setCell]; omega)
  · exact (Hb1.out.trans (Hbl.out.mono hz1)).setCell (p := ⟨w.heap.size + 1, 0, none⟩) (by simp) _

set_option maxRecDepth 100000 in
set_option maxHeartbeats 1600000 in
theorem implNewState_any (A : Option Addr) (c : Nat) (l : List Nd) (w : World) (B : Nat) (q : List Cl) (hq : Hid (NewOf l q)) (h : RdN w B A l) (hB : B ≤ w.heap.size) (hn : l.length ≤ 1048576) :
    Calls Try.prog 43 #[.agg #[.slice A l.length c]] w fun e w' => ∃ A' c', e = .returned (.agg #[.slice A' q.length c']) ∧ OwnCl w' w.heap.size w'.heap.size A' q ∧ Below w.heap.size w w' := by
  obtain ⟨W0, hW0⟩ : ∃ W0 : World, W0 = (w.alloc (.cells #[.slice A l.length c] 32)).alloc (.cells #[.slice none 0 0] 57) := ⟨_, rfl⟩
  have hb0 : Below w.heap.size w W0 := by rw [hW0]; exact ((Below.refl w.heap.size w).alloc (Nat.le_refl _) _).alloc (by simp) _
  have hx0 : Bk W0 w.heap.size 32 [.slice A l.length c] := by rw [hW0]; exact (Bk.new _ _ [_]).alloc _
  have hr0 : Bk W0 (w.heap.size + 1) 57 [.slice none 0 0] := by
    rw [hW0]
    have := Bk.new (w.alloc (.cells #[.slice A l.length c] 32)) 57 [.slice none 0 0]
    simpa using this
  have H0 := Lib.hid (h.below hb0 hB)
  have Hb0 := Lib.hid hb0
  have Hx0 := Lib.hid hx0
  have Hr0 := Lib.hid hr0
  have HW0 := Lib.hid hW0
  have hz0 := hb0.size
  clear h hb0 hx0 hr0 hW0
  go_enter Try.func43, Try.ntmps43
  go_wp2_with fail
  rw [← HW0.out]
  refine (implValidPipe_any A c l W0 B H0.out (by omega) hn).mono ?_
  rintro e w1 ⟨rfl, hb1⟩
  have Hb1 := Lib.hid (Hb0.out.trans (hb1.mono hz0))
  have Hx1 := Lib.hid (Hx0.out.below hb1 Hx0.out.lt)
  have Hr1 := Lib.hid (Hr0.out.below hb1 Hr0.out.lt)
  have hc1 : w1.cell? ⟨w.heap.size, 0, none⟩ = some (.slice A l.length c) := Hx1.out.cell 0
  have d1 : w1.cell? ⟨w.heap.size + 1, 0, none⟩ = some (.slice none 0 0) := Hr1.out.cell 0
  have f1 := Hr1.out.free 0
  have hz1 := Hb1.out.size
  have hr1 := Hr1.out.lt
  clear hb1 HW0
  cases hv : pipeOk l
  · obtain rfl := hq.out.no hv
    have Hv := Lib.hid hv
    clear hv
    go_wp2_with fail
    refine bodyPost_ret (v := .agg #[.slice none 0 0]) (by simp [results, Try.results43, go_sem, d1]) rfl ⟨none, 0, rfl, OwnCl.nil_ _ _ _ _, ?_⟩
    exact Hb1.out.setCell (p := ⟨w.heap.size + 1, 0, none⟩) (by simp) _
  have hqq := hq.out.yes hv
  have hql : q.length = l.length := by rw [hqq]; simp
  have Hqq := Lib.hid hqq
  have Hql := Lib.hid hql
  have Hv := Lib.hid hv
  clear hv hqq hql hq
  have hmk := run_makeCl (P := Try.prog) 55 96 Try.underlying55 Try.infoCl l.length hn
  go_wp2_with fail
  have d2 : ((w1.setCell ⟨w.heap.size + 1, 0, none⟩ (.slice (some ⟨w1.heap.size, 0, none⟩) l.length l.length)).alloc (.cells (madeCl l.length).toArray 96)).cell? ⟨w.heap.size + 1, 0, none⟩ = some (.slice (some ⟨w1.heap.size, 0, none⟩) l.length l.length) := ((Hr1.out.set_ 0 _).alloc _).cell 0
  refine bodyPost_ret (v := .agg #[.slice (some ⟨w1.heap.size, 0, none⟩) l.length l.length]) (by simp [results, Try.results43, go_sem, d2]) rfl ⟨_, _, by rw [Hql.out], ?_, ?_⟩
  · rw [Hqq.out]
    have hsz : (w1.setCell ⟨w.heap.size + 1, 0, none⟩ (.slice (some ⟨w1.heap.size, 0, none⟩) l.length l.length)).heap.size = w1.heap.size := by simp [World.setCell]
    have hbn := Bk.new (w1.setCell ⟨w.heap.size + 1, 0, none⟩ (.slice (some ⟨w1.heap.size, 0, none⟩) l.length l.length)) 96 (madeCl l.length)
    rw [hsz] at hbn
    exact Bk.newCl hbn (by omega) (by simp [World.setCell])
  · exact (Hb1.out.setCell (p := ⟨w.heap.size + 1, 0, none⟩) (by simp) _).alloc (by simp [World.setCell]; omega) _

end Go.Proofs.Ytjfdbcbmpgnahaa
