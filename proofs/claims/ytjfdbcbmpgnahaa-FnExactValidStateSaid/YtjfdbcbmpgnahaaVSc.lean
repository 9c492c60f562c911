/- Contracts: whether a state is one of a pipe and sources (the reference's and the program's doors). -/
import Derived.Test.YtjfdbcbmpgnahaaVSb
namespace Go.Proofs.Ytjfdbcbmpgnahaa
open Go.RowKit Go.Sort

set_option maxHeartbeats 1600000 in
theorem specvalidInput_any (A0 : Option Addr) (c0 : Nat) (l : List Nd) (As : Option Addr) (ca : Nat) (src : List (List Int)) (w : World) (B : Nat) (h0 : RdN w B A0 l) (hs : RdR w B As src) (hB : B ≤ w.heap.size) (hn0 : l.length ≤ 1048576) (hns : src.length ≤ 1048576) (hm : Hid (∀ r ∈ src, r.length ≤ 1048576)) :
    Calls Try.prog 59 #[.agg #[.slice A0 l.length c0], .slice As src.length ca] w fun e w' => e = .returned (.bool (pipeOk l && srcOk src)) ∧ Below w.heap.size w w' := by
  obtain ⟨W0, hW0⟩ : ∃ W0 : World, W0 = w.alloc (.cells #[.slice A0 l.length c0] 32) := ⟨_, rfl⟩
  have hb0 : Below w.heap.size w W0 := by rw [hW0]; exact (Below.refl w.heap.size w).alloc (Nat.le_refl _) _
  have H0 := Lib.hid (h0.below hb0 hB)
  have S0 := Lib.hid (hs.below hb0 hB)
  have Hb0 := Lib.hid hb0
  have HW0 := Lib.hid hW0
  have hz0 := hb0.size
  clear h0 hs hb0 hW0
  cases hv : pipeOk l
  · have Hv := Lib.hid hv
    clear hv
    go_enter Try.func59, Try.ntmps59
    go_wp2_with fail
    rw [← HW0.out]
    refine (specvalidPipe_any A0 c0 l W0 B H0.out (by omega) hn0).mono ?_
    rintro e w1 ⟨rfl, hb1⟩
    rw [Hv.out]
    have Hb1 := Lib.hid hb1
    clear hb1
    go_wp2_with fail
    go_ret
    exact ⟨rfl, Hb0.out.trans (Hb1.out.mono hz0)⟩
  · have Hv := Lib.hid hv
    clear hv
    go_enter Try.func59, Try.ntmps59
    go_wp2_with fail
    rw [← HW0.out]
    refine (specvalidPipe_any A0 c0 l W0 B H0.out (by omega) hn0).mono ?_
    rintro e w1 ⟨rfl, hb1⟩
    rw [Hv.out]
    have S1 := Lib.hid (S0.out.below hb1 (by omega))
    have Hb1 := Lib.hid (Hb0.out.trans (hb1.mono hz0))
    clear hb1
    go_wp2_with fail
    refine (specvalidSources_any As ca src w1 B S1.out hns hm.out).mono ?_
    rintro e w2 ⟨rfl, rfl⟩
    go_wp2_with fail
    go_ret
    exact ⟨by simp, Hb1.out⟩

set_option maxRecDepth 100000 in
set_option maxHeartbeats 1600000 in
theorem specValidState_any (A0 : Option Addr) (c0 : Nat) (l : List Nd) (As : Option Addr) (ca : Nat) (src : List (List Int)) (A2 : Option Addr) (c2 : Nat) (cs : List Cl) (w : World) (B : Nat) (h0 : RdN w B A0 l) (hs : RdR w B As src) (h2 : RdCl w B A2 cs) (hB : B ≤ w.heap.size) (hn0 : l.length ≤ 1048576) (hns : src.length ≤ 1048576) (hm : Hid (∀ r ∈ src, r.length ≤ 1048576)) :
    Calls Try.prog 38 #[.agg #[.slice A0 l.length c0], .slice As src.length ca, .agg #[.slice A2 cs.length c2]] w fun e w' => e = .returned (.bool (stateOk l src cs)) ∧ Below w.heap.size w w' := by
  obtain ⟨W0, hW0⟩ : ∃ W0 : World, W0 = (w.alloc (.cells #[.slice A0 l.length c0] 32)).alloc (.cells #[.slice A2 cs.length c2] 57) := ⟨_, rfl⟩
  have hb0 : Below w.heap.size w W0 := by rw [hW0]; exact ((Below.refl w.heap.size w).alloc (Nat.le_refl _) _).alloc (by simp) _
  have hx0 : Bk W0 w.heap.size 32 [.slice A0 l.length c0] := by rw [hW0]; exact (Bk.new _ _ [_]).alloc _
  have hy0 : Bk W0 (w.heap.size + 1) 57 [.slice A2 cs.length c2] := by
    rw [hW0]
    have := Bk.new (w.alloc (.cells #[.slice A0 l.length c0] 32)) 57 [.slice A2 cs.length c2]
    simpa using this
  have H0 := Lib.hid (h0.below hb0 hB)
  have S0 := Lib.hid (hs.below hb0 hB)
  have C0 := Lib.hid (h2.below hb0 hB)
  have Hb0 := Lib.hid hb0
  have Hx0 := Lib.hid hx0
  have Hy0 := Lib.hid hy0
  have HW0 := Lib.hid hW0
  have hz0 := hb0.size
  have hsz0 : w.heap.size + 2 ≤ W0.heap.size := hy0.lt
  clear h0 hs h2 hb0 hx0 hy0 hW0
  cases hv : pipeOk l && srcOk src
  · have hno : stateOk l src cs = false := by rw [stateOk, ← Bool.and_assoc, hv]; rfl
    have Hno := Lib.hid hno
    have Hv := Lib.hid hv
    clear hv hno
    go_enter Try.func38, Try.ntmps38
    go_wp2_with fail
    rw [← HW0.out]
    refine (specvalidInput_any A0 c0 l As ca src W0 B H0.out S0.out (by omega) hn0 hns hm).mono ?_
    rintro e w1 ⟨rfl, hb1⟩
    rw [Hv.out]
    have Hb1 := Lib.hid hb1
    clear hb1
    go_wp2_with fail
    go_ret
    exact ⟨ret_bool Hno.out.symm, Hb0.out.trans (Hb1.out.mono hz0)⟩
  · obtain ⟨hp, hsr⟩ := Bool.and_eq_true_iff.1 hv
    have hyes : stateOk l src cs = cellsOk l src cs := by rw [stateOk, hp, hsr]; rfl
    have Hyes := Lib.hid hyes
    have Hv := Lib.hid hv
    have Hp := Lib.hid hp
    have Hsr := Lib.hid hsr
    clear hv hyes hp hsr
    go_enter Try.func38, Try.ntmps38
    go_wp2_with fail
    rw [← HW0.out]
    refine (specvalidInput_any A0 c0 l As ca src W0 B H0.out S0.out (by omega) hn0 hns hm).mono ?_
    rintro e w1 ⟨rfl, hb1⟩
    rw [Hv.out]
    have hx := Hx0.out.below hb1 Hx0.out.lt
    have hy := Hy0.out.below hb1 Hy0.out.lt
    have cx : w1.cell? ⟨w.heap.size, 0, none⟩ = some (.slice A0 l.length c0) := hx.cell 0
    have cy : w1.cell? ⟨w.heap.size + 1, 0, none⟩ = some (.slice A2 cs.length c2) := hy.cell 0
    have H1 := Lib.hid (H0.out.below hb1 (by omega))
    have S1 := Lib.hid (S0.out.below hb1 (by omega))
    have C1 := Lib.hid (C0.out.below hb1 (by omega))
    have hz1 := hb1.size
    have Hb1 := Lib.hid (Hb0.out.trans (hb1.mono hz0))
    clear hb1 hx hy
    go_wp2_with fail
    refine (specvalidState_any A0 c0 l As ca src A2 c2 cs w1 B Hp.out Hsr.out H1.out S1.out C1.out (by omega) hn0 hns hm).mono ?_
    rintro e w2 ⟨rfl, hb2⟩
    have Hb2 := Lib.hid hb2
    clear hb2
    go_wp2_with fail
    go_ret
    exact ⟨ret_bool Hyes.out.symm, Hb1.out.trans (Hb2.out.mono (by omega))⟩

end Go.Proofs.Ytjfdbcbmpgnahaa
