/- Contracts: the depth of a tree, asked of a value behind the interface; the depth of a pipe, told by the reference and by the program. -/
import Derived.Test.YtkjhncohanfciaaTreeV
import Derived.Test.YtkjhncohanfciaaTreeD
import Derived.WalkSpells
import Derived.WalkLawsBesides
import Derived.Deep.RegionWith
namespace Go.Proofs.Ytkjhncohanfciaa
open Go.RowKit Go.Sort

/-- The dynamic type of a tree's value, the value inside, the method that tells its depth. -/
def tyOf : T → TypeId
  | .leaf _ => 81
  | .stem _ _ => 83
  | .fork _ _ _ => 71
def rv : T → Value
  | .leaf x => .agg #[.int .i64 x.k, .int .i64 x.a, .int .i64 x.b, .int .i64 x.n, .int .i64 x.m]
  | .stem x t => .agg #[.int .i64 x.k, .int .i64 x.a, .int .i64 x.b, .int .i64 x.n, .int .i64 x.m, tv t]
  | .fork x a b => .agg #[.int .i64 x.k, .int .i64 x.a, .int .i64 x.b, .int .i64 x.n, .int .i64 x.m, tv a, tv b]
def depthFn : T → FuncId
  | .leaf _ => 117
  | .stem _ _ => 119
  | .fork _ _ _ => 115
theorem tv_rv (t : T) : tv t = .iface (tyOf t) (rv t) := by cases t <;> rfl

theorem method_leaf (v : Value) (w : World) : (method 219 81 v "loop.example/pullstreams/impl.depth").run Try.prog w = .ok (117, v) w := by kernel_rfl
theorem method_stem (v : Value) (w : World) : (method 219 83 v "loop.example/pullstreams/impl.depth").run Try.prog w = .ok (119, v) w := by kernel_rfl
theorem method_fork (v : Value) (w : World) : (method 219 71 v "loop.example/pullstreams/impl.depth").run Try.prog w = .ok (115, v) w := by kernel_rfl
theorem method_depth (t : T) (w : World) : (method 219 (tyOf t) (rv t) "loop.example/pullstreams/impl.depth").run Try.prog w = .ok (depthFn t, rv t) w := by
  cases t
  · exact method_leaf _ w
  · exact method_stem _ w
  · exact method_fork _ w

theorem enter_leaf (v : Value) (w : World) : (callFunc 117 #[v]).run Try.prog w = .ok (.enter 117 #[v]) w := by kernel_rfl
theorem enter_stem (v : Value) (w : World) : (callFunc 119 #[v]).run Try.prog w = .ok (.enter 119 #[v]) w := by kernel_rfl
theorem enter_fork (v : Value) (w : World) : (callFunc 115 #[v]).run Try.prog w = .ok (.enter 115 #[v]) w := by kernel_rfl
theorem enter_depth (t : T) (w : World) : (callFunc (depthFn t) #[rv t]).run Try.prog w = .ok (.enter (depthFn t) #[rv t]) w := by
  cases t
  · exact enter_leaf _ w
  · exact enter_stem _ w
  · exact enter_fork _ w

set_option maxRecDepth 100000 in
set_option maxHeartbeats 1600000 in
theorem depth_any (t : T) : ∀ w : World, t.depth ≤ 1048577 → Calls Try.prog (depthFn t) #[rv t] w fun e w' => e = .returned (.int .i64 (t.depth : Nat)) ∧ Below w.heap.size w w' := by
  induction t with
  | leaf x =>
    intro w _
    show Calls Try.prog 117 #[.agg #[.int .i64 x.k, .int .i64 x.a, .int .i64 x.b, .int .i64 x.n, .int .i64 x.m]] w _
    go_enter Try.func117, Try.ntmps117
    go_wp2_with fail
    go_ret
    exact ⟨rfl, (Below.refl _ _).alloc (Nat.le_refl _) _⟩
  | stem x t ih =>
    intro w hd
    show Calls Try.prog 119 #[.agg #[.int .i64 x.k, .int .i64 x.a, .int .i64 x.b, .int .i64 x.n, .int .i64 x.m, tv t]] w _
    have hm := method_depth t
    have he := enter_depth t
    simp only [T.depth] at hd
    obtain ⟨d, hdd⟩ : ∃ d : Nat, d = t.depth := ⟨_, rfl⟩
    have Hd : Hid ((T.stem x t).depth = 1 + d) := by show (T.stem x t).depth = 1 + d; rw [hdd]; rfl
    rw [tv_rv]
    rw [← hdd] at ih hd
    clear hdd
    generalize tyOf t = ty at *
    generalize rv t = v at *
    generalize depthFn t = f at *
    have Hi := Lib.hid (fun W => ih W (by omega))
    clear ih
    go_enter Try.func119, Try.ntmps119
    go_wp2_with fail
    refine (Hi.out _).mono ?_
    rintro e w1 ⟨rfl, hb⟩
    have Hb := Lib.hid hb
    clear hb
    go_wp2_with fail
    go_ret
    exact ⟨ret_int (by rw [Hd.out]; omega), ((Below.refl _ _).alloc (Nat.le_refl _) _).trans (Hb.out.mono (by simp))⟩
  | fork x a b iha ihb =>
    intro w hd
    show Calls Try.prog 115 #[.agg #[.int .i64 x.k, .int .i64 x.a, .int .i64 x.b, .int .i64 x.n, .int .i64 x.m, tv a, tv b]] w _
    have hm := method_depth a
    have he := enter_depth a
    have he2 := enter_depth b
    have hm2 := method_depth b
    simp only [T.depth] at hd
    obtain ⟨d, hdd⟩ : ∃ d : Nat, d = a.depth := ⟨_, rfl⟩
    obtain ⟨d2, hdd2⟩ : ∃ d2 : Nat, d2 = b.depth := ⟨_, rfl⟩
    have Hd : Hid ((T.fork x a b).depth = 1 + max d d2) := by show (T.fork x a b).depth = 1 + max d d2; rw [hdd, hdd2]; rfl
    rw [tv_rv, tv_rv]
    rw [← hdd] at iha hd
    rw [← hdd2] at ihb hd
    clear hdd hdd2
    generalize tyOf a = ty at *
    generalize rv a = v at *
    generalize depthFn a = f at *
    generalize tyOf b = ty2 at *
    generalize rv b = v2 at *
    generalize depthFn b = f2 at *
    have Hi := Lib.hid (fun W => iha W (by omega))
    have Hi2 := Lib.hid (fun W => ihb W (by omega))
    clear iha ihb
    go_enter Try.func115, Try.ntmps115
    obtain ⟨W2, hW2⟩ : ∃ W2 : World, W2 = w.alloc (.cells #[.int .i64 x.k, .int .i64 x.a, .int .i64 x.b, .int .i64 x.n, .int .i64 x.m, .iface ty v, .iface ty2 v2] 71) := ⟨_, rfl⟩
    have hb2 : Below w.heap.size w W2 := by rw [hW2]; exact (Below.refl _ _).alloc (Nat.le_refl _) _
    have hbox : Bk W2 w.heap.size 71 [.int .i64 x.k, .int .i64 x.a, .int .i64 x.b, .int .i64 x.n, .int .i64 x.m, .iface ty v, .iface ty2 v2] := by rw [hW2]; exact Bk.new _ _ [_, _, _, _, _, _, _]
    have HW2 := Lib.hid hW2
    have Hb2 := Lib.hid hb2
    have Hbox := Lib.hid hbox
    have hz2 := hb2.size
    clear hW2 hb2 hbox
    go_wp2_with fail
    rw [← HW2.out]
    have q5 : ∀ d os, (grow (redrawn W2 d) os).cell? ⟨w.heap.size, 5, none⟩ = some (.iface ty v) := fun d os => cell_regrown (Hbox.out.cell 5) d os
    have q6 : ∀ d os, (grow (redrawn W2 d) os).cell? ⟨w.heap.size, 6, none⟩ = some (.iface ty2 v2) := fun d os => cell_regrown (Hbox.out.cell 6) d os
    have Hc := Lib.hid (fun d os => Calls.regrown_of (Hi.out (grow (redrawn W2 d) os)))
    have Hc2 := Lib.hid (fun d os => Calls.regrown_of (Hi2.out (grow (redrawn W2 d) os)))
    refine wp_region_quiet_below (by kernel_rfl) (by kernel_rfl) ?_
    repeat (quiet_step (first | with_reducible exact Hc.out _ _ | with_reducible exact Hc2.out _ _))
    refine wpQuiet_nil ?_
    intro wq hwq
    obtain ⟨p, hwq⟩ := hwq
    have Hq : Hid (Below W2.heap.size W2 wq) := by rw [hwq]; exact below_regrown _ _ _
    clear hwq q5 q6
    go_wp2
    all_goals
      go_ret
      exact ⟨ret_int (by rw [Hd.out]; simp only [IntKind.wrap_i64]; omega), Hb2.out.trans (Hq.out.mono hz2)⟩

/-- The depth of a pipe; -1 if it is not valid. -/
structure DepthOf (l : List Nd) (d : Int) : Prop where
  no : pipeOk l = false → d = -1
  yes : ∀ {t : T}, pipeOk l = true → IsTree l (l.length - 1) t → d = (t.depth : Nat)

theorem tree_of_pipe {l : List Nd} (h : pipeOk l = true) : ∃ t, IsTree l (l.length - 1) t := by
  have hp := pipeOk_iff.1 h
  exact IsTree.ex hp l.length _ (by have := hp.low; omega) (by have := hp.low; omega)
theorem low_of {l : List Nd} (h : pipeOk l = true) : 1 ≤ l.length := (pipeOk_iff.1 h).low
theorem high_of {l : List Nd} (h : pipeOk l = true) : l.length ≤ 12 := (pipeOk_iff.1 h).high

set_option maxHeartbeats 1600000 in
theorem specDepthOf_any (A : Option Addr) (c : Nat) (l : List Nd) (w : World) (B : Nat) (d : Int) (hd : Hid (DepthOf l d)) (h : RdN w B A l) (hB : B ≤ w.heap.size) (hn : l.length ≤ 1048576) :
    Calls Try.prog 24 #[.agg #[.slice A l.length c]] w fun e w' => e = .returned (.int .i64 d) ∧ Below w.heap.size w w' := by
  obtain ⟨W0, hW0⟩ : ∃ W0 : World, W0 = w.alloc (.cells #[.slice A l.length c] 32) := ⟨_, rfl⟩
  have hb0 : Below w.heap.size w W0 := by rw [hW0]; exact (Below.refl w.heap.size w).alloc (Nat.le_refl _) _
  have hx0 : Bk W0 w.heap.size 32 [.slice A l.length c] := by rw [hW0]; exact Bk.new _ _ _
  have H0 := Lib.hid (h.below hb0 hB)
  have Hb0 := Lib.hid hb0
  have Hx0 := Lib.hid hx0
  have HW0 := Lib.hid hW0
  have hz0 := hb0.size
  clear h hb0 hx0 hW0
  go_enter Try.func24, Try.ntmps24
  go_wp2_with fail
  rw [← HW0.out]
  refine (specvalidPipe_any A c l W0 B H0.out (by omega) hn).mono ?_
  rintro e w1 ⟨rfl, hb1⟩
  have Hb1 := Lib.hid (Hb0.out.trans (hb1.mono hz0))
  have Hx1 := Lib.hid (Hx0.out.below hb1 Hx0.out.lt)
  have H1 := Lib.hid (H0.out.below hb1 (by omega))
  have hc1 : w1.cell? ⟨w.heap.size, 0, none⟩ = some (.slice A l.length c) := Hx1.out.cell 0
  have hz1 := Hb1.out.size
  clear hb1 HW0
  cases hv : pipeOk l
  · have Hv := Lib.hid hv
    clear hv
    go_wp2_with fail
    go_ret
    exact ⟨ret_int (hd.out.no Hv.out).symm, Hb1.out⟩
  · have Hv := Lib.hid hv
    obtain ⟨t, ht⟩ := tree_of_pipe hv
    have hlo := low_of hv
    have hhi := high_of hv
    have Ht := Lib.hid ht
    clear hv ht
    go_wp2_with fail
    rw [show ((l.length : Nat) : Int) - 1 = ((l.length - 1 : Nat) : Int) from by omega]
    refine (deep_any Ht.out A c w1 B H1.out (by omega) hn).mono ?_
    rintro e w2 ⟨rfl, hb2⟩
    have Hb2 := Lib.hid hb2
    clear hb2
    go_wp2_with fail
    go_ret
    exact ⟨ret_int (hd.out.yes Hv.out Ht.out).symm, Hb1.out.trans (Hb2.out.mono hz1)⟩

set_option maxHeartbeats 1600000 in
theorem treeOf_any {l : List Nd} {t : T} (ht : Hid (IsTree l (l.length - 1) t)) (A : Option Addr) (c : Nat) (w : World) (B : Nat) (h : RdN w B A l) (hB : B ≤ w.heap.size) (hlo : 1 ≤ l.length) (hn : l.length ≤ 1048576) :
    Calls Try.prog 42 #[.agg #[.slice A l.length c]] w fun e w' => e = .returned (tv t) ∧ Below w.heap.size w w' := by
  obtain ⟨W0, hW0⟩ : ∃ W0 : World, W0 = w.alloc (.cells #[.slice A l.length c] 32) := ⟨_, rfl⟩
  have hb0 : Below w.heap.size w W0 := by rw [hW0]; exact (Below.refl w.heap.size w).alloc (Nat.le_refl _) _
  have H0 := Lib.hid (h.below hb0 hB)
  have Hb0 := Lib.hid hb0
  have HW0 := Lib.hid hW0
  have hz0 := hb0.size
  clear h hb0 hW0
  obtain ⟨ty, v, hv⟩ := tv_iface t
  have Hv := Lib.hid hv
  clear hv
  go_enter Try.func42, Try.ntmps42
  go_wp2_with fail
  rw [← HW0.out]
  rw [show ((l.length : Nat) : Int) - 1 = ((l.length - 1 : Nat) : Int) from by omega]
  refine (treeAt_any ht.out A c W0 B H0.out (by omega) hn).mono ?_
  rintro e w1 ⟨rfl, hb1⟩
  rw [Hv.out]
  have Hb1 := Lib.hid hb1
  clear hb1
  go_wp2_with fail
  go_ret
  exact ⟨by rw [Hv.out]; rfl, Hb0.out.trans (Hb1.out.mono hz0)⟩

set_option maxRecDepth 100000 in
set_option maxHeartbeats 1600000 in
theorem implDepthOf_any (A : Option Addr) (c : Nat) (l : List Nd) (w : World) (B : Nat) (d : Int) (hd : Hid (DepthOf l d)) (h : RdN w B A l) (hB : B ≤ w.heap.size) (hn : l.length ≤ 1048576) :
    Calls Try.prog 25 #[.agg #[.slice A l.length c]] w fun e w' => e = .returned (.int .i64 d) ∧ Below w.heap.size w w' := by
  obtain ⟨W0, hW0⟩ : ∃ W0 : World, W0 = w.alloc (.cells #[.slice A l.length c] 32) := ⟨_, rfl⟩
  have hb0 : Below w.heap.size w W0 := by rw [hW0]; exact (Below.refl w.heap.size w).alloc (Nat.le_refl _) _
  have hx0 : Bk W0 w.heap.size 32 [.slice A l.length c] := by rw [hW0]; exact Bk.new _ _ _
  have H0 := Lib.hid (h.below hb0 hB)
  have Hb0 := Lib.hid hb0
  have Hx0 := Lib.hid hx0
  have HW0 := Lib.hid hW0
  have hz0 := hb0.size
  clear h hb0 hx0 hW0
  go_enter Try.func25, Try.ntmps25
  go_wp2_with fail
  rw [← HW0.out]
  refine (implValidPipe_any A c l W0 B H0.out (by omega) hn).mono ?_
  rintro e w1 ⟨rfl, hb1⟩
  have Hb1 := Lib.hid (Hb0.out.trans (hb1.mono hz0))
  have Hx1 := Lib.hid (Hx0.out.below hb1 Hx0.out.lt)
  have H1 := Lib.hid (H0.out.below hb1 (by omega))
  have hc1 : w1.cell? ⟨w.heap.size, 0, none⟩ = some (.slice A l.length c) := Hx1.out.cell 0
  have hz1 := Hb1.out.size
  clear hb1 HW0
  cases hv : pipeOk l
  · have Hv := Lib.hid hv
    clear hv
    go_wp2_with fail
    go_ret
    exact ⟨ret_int (hd.out.no Hv.out).symm, Hb1.out⟩
  · have Hv := Lib.hid hv
    obtain ⟨t, ht⟩ := tree_of_pipe hv
    have hlo := low_of hv
    have hhi := high_of hv
    have Ht := Lib.hid ht
    have hm := method_depth t
    have he := enter_depth t
    have hdt : t.depth ≤ 1048577 := by have := ht.depth_le; omega
    have Hdp := Lib.hid (fun W => depth_any t W hdt)
    clear hv ht hdt
    go_wp2_with fail
    refine (treeOf_any Ht A c w1 B H1.out (by omega) hlo hn).mono ?_
    rintro e w2 ⟨rfl, hb2⟩
    have Hb2 := Lib.hid (Hb1.out.trans (hb2.mono hz1))
    have hz2 := Hb2.out.size
    clear hb2
    rw [tv_rv]
    obtain ⟨dd, hdd⟩ : ∃ dd : Nat, dd = t.depth := ⟨_, rfl⟩
    have Hdd : Hid (d = (dd : Nat)) := by show d = (dd : Nat); rw [hdd]; exact hd.out.yes Hv.out Ht.out
    rw [← hdd] at Hdp
    clear hdd Ht
    generalize tyOf t = ty at *
    generalize rv t = v at *
    generalize depthFn t = f at *
    go_wp2_with fail
    refine (Hdp.out _).mono ?_
    rintro e w3 ⟨rfl, hb3⟩
    have Hb3 := Lib.hid hb3
    clear hb3
    go_wp2_with fail
    go_ret
    exact ⟨ret_int Hdd.out.symm, Hb2.out.trans (Hb3.out.mono hz2)⟩

end Go.Proofs.Ytkjhncohanfciaa
