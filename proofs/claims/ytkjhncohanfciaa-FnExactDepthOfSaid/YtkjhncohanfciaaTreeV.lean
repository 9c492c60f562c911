/- Contracts: the tree of the node i (the program). -/
import Derived.Test.YtkjhncohanfciaaPipeS
import Derived.Test.YtkjhncohanfciaaTree
import Derived.Lib.QuietBelow
import Derived.BigQuiet
import Derived.Deep.RegionWith
namespace Go.Proofs.Ytkjhncohanfciaa
open Go.RowKit Go.Sort

/-- The value of a tree. -/
def tv : T → Value
  | .leaf x => .iface 81 (.agg #[.int .i64 x.k, .int .i64 x.a, .int .i64 x.b, .int .i64 x.n, .int .i64 x.m])
  | .stem x t => .iface 83 (.agg #[.int .i64 x.k, .int .i64 x.a, .int .i64 x.b, .int .i64 x.n, .int .i64 x.m, tv t])
  | .fork x a b => .iface 71 (.agg #[.int .i64 x.k, .int .i64 x.a, .int .i64 x.b, .int .i64 x.n, .int .i64 x.m, tv a, tv b])
theorem tv_iface (t : T) : ∃ ty v, tv t = .iface ty v := by cases t <;> exact ⟨_, _, rfl⟩

set_option maxHeartbeats 3200000 in
theorem treeWith_any {l : List Nd} {i : Nat} {t : T} (ht : IsTree l i t) : ∀ (A : Option Addr) (c : Nat) (w : World) (B : Nat), RdN w B A l → B ≤ w.heap.size → l.length ≤ 1048576 →
    Calls Try.prog 71 #[.agg #[.slice A l.length c], .int .i64 i, .int .i64 (-1), .nilIface] w fun e w' => e = .returned (tv t) ∧ Below w.heap.size w w' := by
  induction ht with
  | @leaf i x hx ha h1 h2 =>
    intro A c w B h hB hn
    have hlt : i < l.length := (List.getElem?_eq_some_iff.1 hx).1
    have hb0 := (Below.refl w.heap.size w).alloc (Nat.le_refl _) (.cells #[.slice A l.length c] 32)
    obtain ⟨b, o, y, rfl, hbB, hy, hc⟩ := (h.below hb0 hB).at_ hlt
    obtain rfl := Option.some.inj (hx.symm.trans hy)
    obtain ⟨c0, c1, c2, c3, c4⟩ := hc
    have Ha := Lib.hid ha
    have H1 := Lib.hid h1
    have H2 := Lib.hid h2
    have Hh := Lib.hid h
    clear hx hy ha h h1 h2 hb0
    have hne : ¬ ((i : Int) = -1) := by omega
    go_enter Try.func71, Try.ntmps71
    go_wp2_with (go_at_call 54; refine (nodesBelow_any _ _).mono ?_; rintro e w2 ⟨rfl, rfl⟩; rw [Ha.out])
    go_ret
    exact ⟨rfl, ((Below.refl _ _).alloc (Nat.le_refl _) _).alloc (by simp) _⟩
  | @stem i j x t hx ha h1 hj h2 ht ih =>
    intro A c w B h hB hn
    obtain ⟨ty, v, hv⟩ := tv_iface t
    rw [hv] at ih
    have Hv := Lib.hid hv
    have hlt : i < l.length := (List.getElem?_eq_some_iff.1 hx).1
    have hb0 := (Below.refl w.heap.size w).alloc (Nat.le_refl _) (.cells #[.slice A l.length c] 32)
    obtain ⟨b, o, y, rfl, hbB, hy, hc⟩ := (h.below hb0 hB).at_ hlt
    obtain rfl := Option.some.inj (hx.symm.trans hy)
    obtain ⟨c0, c1, c2, c3, c4⟩ := hc
    have Ha := Lib.hid ha
    have H1 := Lib.hid h1
    have H2 := Lib.hid h2
    have Hh := Lib.hid h
    rw [h1] at c1
    rw [h2] at c2
    have Hi := Lib.hid (fun W' B' hW hB' => ih (some ⟨b, o, none⟩) c W' B' hW hB' hn)
    clear hx hy ha h h1 h2 hb0 ih ht hv
    have hne : ¬ ((i : Int) = -1) := by omega
    go_enter Try.func71, Try.ntmps71
    go_wp2_with (go_at_call 54; refine (nodesBelow_any _ _).mono ?_; rintro e w2 ⟨rfl, rfl⟩; rw [Ha.out])
    obtain ⟨W2, hW2⟩ : ∃ W2 : World, W2 = (w.alloc (.cells #[.slice (some ⟨b, o, none⟩) l.length c] 32)).alloc (.cells #[.int .i64 x.k, .int .i64 (j : Int), .int .i64 (-1), .int .i64 x.n, .int .i64 x.m] 69) := ⟨_, rfl⟩
    have hb2 : Below w.heap.size w W2 := by rw [hW2]; exact ((Below.refl _ _).alloc (Nat.le_refl _) _).alloc (by simp) _
    have hbox : Bk W2 w.heap.size 32 [.slice (some ⟨b, o, none⟩) l.length c] := by rw [hW2]; exact (Bk.new _ _ [_]).alloc _
    have hnode : Bk W2 (w.heap.size + 1) 69 [.int .i64 x.k, .int .i64 (j : Int), .int .i64 (-1), .int .i64 x.n, .int .i64 x.m] := by
      rw [hW2]
      have := Bk.new (w.alloc (.cells #[.slice (some ⟨b, o, none⟩) l.length c] 32)) 69 [.int .i64 x.k, .int .i64 (j : Int), .int .i64 (-1), .int .i64 x.n, .int .i64 x.m]
      simpa using this
    have HW2 := Lib.hid hW2
    have Hb2 := Lib.hid hb2
    have Hbox := Lib.hid hbox
    have Hnode := Lib.hid hnode
    have hz2 := hb2.size
    clear hW2 hb2 hbox hnode
    rw [← HW2.out]
    have q0 : ∀ d os, (grow (redrawn W2 d) os).cell? ⟨w.heap.size + 1, 0, none⟩ = some (.int .i64 x.k) := fun d os => cell_regrown (Hnode.out.cell 0) d os
    have q1 : ∀ d os, (grow (redrawn W2 d) os).cell? ⟨w.heap.size + 1, 1, none⟩ = some (.int .i64 (j : Int)) := fun d os => cell_regrown (Hnode.out.cell 1) d os
    have q2 : ∀ d os, (grow (redrawn W2 d) os).cell? ⟨w.heap.size + 1, 2, none⟩ = some (.int .i64 (-1)) := fun d os => cell_regrown (Hnode.out.cell 2) d os
    have q3 : ∀ d os, (grow (redrawn W2 d) os).cell? ⟨w.heap.size + 1, 3, none⟩ = some (.int .i64 x.n) := fun d os => cell_regrown (Hnode.out.cell 3) d os
    have q4 : ∀ d os, (grow (redrawn W2 d) os).cell? ⟨w.heap.size + 1, 4, none⟩ = some (.int .i64 x.m) := fun d os => cell_regrown (Hnode.out.cell 4) d os
    have qb : ∀ d os, (grow (redrawn W2 d) os).cell? ⟨w.heap.size, 0, none⟩ = some (.slice (some ⟨b, o, none⟩) l.length c) := fun d os => cell_regrown (Hbox.out.cell 0) d os
    have Hc := Lib.hid (fun d os => Calls.regrown_of (Hi.out (grow (redrawn W2 d) os) B (Hh.out.below (Hb2.out.trans ((below_regrown W2 d os).mono hz2)) hB) (by have := (below_regrown W2 d os).size; omega)))
    refine wp_region_quiet_below (by kernel_rfl) (by kernel_rfl) ?_
    repeat (quiet_step ((go_at_call 71; exact Hc.out _ _)))
    refine wpQuiet_nil ?_
    intro wq hwq
    obtain ⟨p, hwq⟩ := hwq
    have Hq : Hid (Below W2.heap.size W2 wq) := by rw [hwq]; exact below_regrown _ _ _
    clear hwq q0 q1 q2 q3 q4 qb
    go_wp2
    go_ret
    exact ⟨by rw [tv, H1.out, H2.out, Hv.out]; rfl, Hb2.out.trans (Hq.out.mono hz2)⟩
  | @fork i j j2 x ta tb hx ha h1 hj h2 hj2 hta htb iha ihb =>
    intro A c w B h hB hn
    obtain ⟨ty, v, hv⟩ := tv_iface ta
    rw [hv] at iha
    have Hv := Lib.hid hv
    obtain ⟨ty2, v2, hv2⟩ := tv_iface tb
    rw [hv2] at ihb
    have Hv2 := Lib.hid hv2
    have hlt : i < l.length := (List.getElem?_eq_some_iff.1 hx).1
    have hb0 := (Below.refl w.heap.size w).alloc (Nat.le_refl _) (.cells #[.slice A l.length c] 32)
    obtain ⟨b, o, y, rfl, hbB, hy, hc⟩ := (h.below hb0 hB).at_ hlt
    obtain rfl := Option.some.inj (hx.symm.trans hy)
    obtain ⟨c0, c1, c2, c3, c4⟩ := hc
    have Ha := Lib.hid ha
    have H1 := Lib.hid h1
    have H2 := Lib.hid h2
    have Hh := Lib.hid h
    rw [h1] at c1
    rw [h2] at c2
    have Hi := Lib.hid (fun W' B' hW hB' => iha (some ⟨b, o, none⟩) c W' B' hW hB' hn)
    have Hi2 := Lib.hid (fun W' B' hW hB' => ihb (some ⟨b, o, none⟩) c W' B' hW hB' hn)
    clear hx hy ha h h1 h2 hb0 iha ihb hta htb hv hv2
    have hne : ¬ ((i : Int) = -1) := by omega
    go_enter Try.func71, Try.ntmps71
    go_wp2_with (go_at_call 54; refine (nodesBelow_any _ _).mono ?_; rintro e w2 ⟨rfl, rfl⟩; rw [Ha.out])
    obtain ⟨W2, hW2⟩ : ∃ W2 : World, W2 = (w.alloc (.cells #[.slice (some ⟨b, o, none⟩) l.length c] 32)).alloc (.cells #[.int .i64 x.k, .int .i64 (j : Int), .int .i64 (j2 : Int), .int .i64 x.n, .int .i64 x.m] 69) := ⟨_, rfl⟩
    have hb2 : Below w.heap.size w W2 := by rw [hW2]; exact ((Below.refl _ _).alloc (Nat.le_refl _) _).alloc (by simp) _
    have hbox : Bk W2 w.heap.size 32 [.slice (some ⟨b, o, none⟩) l.length c] := by rw [hW2]; exact (Bk.new _ _ [_]).alloc _
    have hnode : Bk W2 (w.heap.size + 1) 69 [.int .i64 x.k, .int .i64 (j : Int), .int .i64 (j2 : Int), .int .i64 x.n, .int .i64 x.m] := by
      rw [hW2]
      have := Bk.new (w.alloc (.cells #[.slice (some ⟨b, o, none⟩) l.length c] 32)) 69 [.int .i64 x.k, .int .i64 (j : Int), .int .i64 (j2 : Int), .int .i64 x.n, .int .i64 x.m]
      simpa using this
    have HW2 := Lib.hid hW2
    have Hb2 := Lib.hid hb2
    have Hbox := Lib.hid hbox
    have Hnode := Lib.hid hnode
    have hz2 := hb2.size
    clear hW2 hb2 hbox hnode
    rw [← HW2.out]
    have q0 : ∀ d os, (grow (redrawn W2 d) os).cell? ⟨w.heap.size + 1, 0, none⟩ = some (.int .i64 x.k) := fun d os => cell_regrown (Hnode.out.cell 0) d os
    have q1 : ∀ d os, (grow (redrawn W2 d) os).cell? ⟨w.heap.size + 1, 1, none⟩ = some (.int .i64 (j : Int)) := fun d os => cell_regrown (Hnode.out.cell 1) d os
    have q2 : ∀ d os, (grow (redrawn W2 d) os).cell? ⟨w.heap.size + 1, 2, none⟩ = some (.int .i64 (j2 : Int)) := fun d os => cell_regrown (Hnode.out.cell 2) d os
    have q3 : ∀ d os, (grow (redrawn W2 d) os).cell? ⟨w.heap.size + 1, 3, none⟩ = some (.int .i64 x.n) := fun d os => cell_regrown (Hnode.out.cell 3) d os
    have q4 : ∀ d os, (grow (redrawn W2 d) os).cell? ⟨w.heap.size + 1, 4, none⟩ = some (.int .i64 x.m) := fun d os => cell_regrown (Hnode.out.cell 4) d os
    have qb : ∀ d os, (grow (redrawn W2 d) os).cell? ⟨w.heap.size, 0, none⟩ = some (.slice (some ⟨b, o, none⟩) l.length c) := fun d os => cell_regrown (Hbox.out.cell 0) d os
    have Hc := Lib.hid (fun d os => Calls.regrown_of (Hi.out (grow (redrawn W2 d) os) B (Hh.out.below (Hb2.out.trans ((below_regrown W2 d os).mono hz2)) hB) (by have := (below_regrown W2 d os).size; omega)))
    have Hc2 := Lib.hid (fun d os => Calls.regrown_of (Hi2.out (grow (redrawn W2 d) os) B (Hh.out.below (Hb2.out.trans ((below_regrown W2 d os).mono hz2)) hB) (by have := (below_regrown W2 d os).size; omega)))
    refine wp_region_quiet_below (by kernel_rfl) (by kernel_rfl) ?_
    repeat (quiet_step ((first | (go_at_call_of 71 ((j : Int)); exact Hc.out _ _) | (go_at_call_of 71 ((j2 : Int)); exact Hc2.out _ _))))
    refine wpQuiet_nil ?_
    intro wq hwq
    obtain ⟨p, hwq⟩ := hwq
    have Hq : Hid (Below W2.heap.size W2 wq) := by rw [hwq]; exact below_regrown _ _ _
    clear hwq q0 q1 q2 q3 q4 qb
    go_wp2
    go_ret
    exact ⟨by rw [tv, H1.out, H2.out, Hv.out, Hv2.out]; rfl, Hb2.out.trans (Hq.out.mono hz2)⟩

set_option maxHeartbeats 1600000 in
theorem treeAt_any {l : List Nd} {i : Nat} {t : T} (ht : IsTree l i t) (A : Option Addr) (c : Nat) (w : World) (B : Nat) (h : RdN w B A l) (hB : B ≤ w.heap.size) (hn : l.length ≤ 1048576) :
    Calls Try.prog 52 #[.agg #[.slice A l.length c], .int .i64 i] w fun e w' => e = .returned (tv t) ∧ Below w.heap.size w w' := by
  obtain ⟨ty, v, hv⟩ := tv_iface t
  have Hv := Lib.hid hv
  obtain ⟨W0, hW0⟩ : ∃ W0 : World, W0 = w.alloc (.cells #[.slice A l.length c] 32) := ⟨_, rfl⟩
  have hb0 : Below w.heap.size w W0 := by rw [hW0]; exact (Below.refl _ _).alloc (Nat.le_refl _) _
  have H0 := Lib.hid (h.below hb0 hB)
  have Hb0 := Lib.hid hb0
  have HW0 := Lib.hid hW0
  have hz0 := hb0.size
  have Ht := Lib.hid ht
  clear h hb0 hW0 ht hv
  go_enter Try.func52, Try.ntmps52
  go_wp2_with fail
  rw [← HW0.out]
  refine (treeWith_any Ht.out A c W0 B H0.out (by omega) hn).mono ?_
  rintro e w2 ⟨rfl, hb2⟩
  have Hb2 := Lib.hid (Hb0.out.trans (hb2.mono hz0))
  clear hb2
  rw [Hv.out]
  go_wp2_with fail
  go_ret
  exact ⟨by rw [Hv.out]; rfl, Hb2.out⟩

end Go.Proofs.Ytkjhncohanfciaa
