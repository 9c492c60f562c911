/- Contracts: the depth of a tree, asked of a value behind the interface; the depth of a pipe, told by the reference and by the program. -/
import Derived.Test.YtjfdbcbmpgnahaaTreeV
import Derived.Test.YtjfdbcbmpgnahaaTreeD
import Derived.WalkSpells
import Derived.WalkLawsBesides
import Derived.Deep.RegionWith
namespace Go.Proofs.Ytjfdbcbmpgnahaa
open Go.RowKit Go.Sort

/-- The dynamic type of a tree's value, the value inside, the method that tells its depth. -/
def tyOf : T → TypeId
  | .leaf _ => 121
  | .stem _ _ => 123
  | .fork _ _ _ => 92
def rv : T → Value
  | .leaf x => .agg #[.int .i64 x.k, .int .i64 x.a, .int .i64 x.b, .int .i64 x.n, .int .i64 x.m]
  | .stem x t => .agg #[.int .i64 x.k, .int .i64 x.a, .int .i64 x.b, .int .i64 x.n, .int .i64 x.m, tv t]
  | .fork x a b => .agg #[.int .i64 x.k, .int .i64 x.a, .int .i64 x.b, .int .i64 x.n, .int .i64 x.m, tv a, tv b]
theorem tv_rv (t : T) : tv t = .iface (tyOf t) (rv t) := by cases t <;> rfl

/-- The depth of a pipe; -1 if it is not valid. -/
structure DepthOf (l : List Nd) (d : Int) : Prop where
  no : pipeOk l = false → d = -1
  yes : ∀ {t : T}, pipeOk l = true → IsTree l (l.length - 1) t → d = (t.depth : Nat)

theorem tree_of_pipe {l : List Nd} (h : pipeOk l = true) : ∃ t, IsTree l (l.length - 1) t := by
  have hp := pipeOk_iff.1 h
  exact IsTree.ex hp l.length _ (by have := hp.low; omega) (by have := hp.low; omega)
theorem low_of {l : List Nd} (h : pipeOk l = true) : 1 ≤ l.length := (pipeOk_iff.1 h).low
theorem high_of {l : List Nd} (h : pipeOk l = true) : l.length ≤ 12 := (pipeOk_iff.1 h).high

set_option maxHeartbeats 1600000 in
theorem treeOf_any {l : List Nd} {t : T} (ht : Hid (IsTree l (l.length - 1) t)) (A : Option Addr) (c : Nat) (w : World) (B : Nat) (h : RdN w B A l) (hB : B ≤ w.heap.size) (hlo : 1 ≤ l.length) (hn : l.length ≤ 1048576) :
    Calls Try.prog 65 #[.agg #[.slice A l.length c]] w fun e w' => e = .returned (tv t) ∧ Below w.heap.size w w' := by
  obtain ⟨W0, hW0⟩ : ∃ W0 : World, W0 = w.alloc (.cells #[.slice A l.length c] 32) := ⟨_, rfl⟩
  have hb0 : Below w.heap.size w W0 := by rw [hW0]; exact (Below.refl w.heap.size w).alloc (Nat.le_refl _) _
  have H0 := Lib.hid (h.below hb0 hB)
  have Hb0 := Lib.hid hb0
  have HW0 := Lib.hid hW0
  have hz0 := hb0.size
  clear h hb0 hW0
  obtain ⟨ty, v, hv⟩ := tv_iface t
  have Hv := Lib.hid hv
  clear hv
  go_enter Try.func65, Try.ntmps65
  go_wp2_with fail
  rw [← HW0.out]
  rw [show ((l.length : Nat) : Int) - 1 = ((l.length - 1 : Nat) : Int) from by omega]
  refine (treeAt_any ht.out A c W0 B H0.out (by omega) hn).mono ?_
  rintro e w1 ⟨rfl, hb1⟩
  rw [Hv.out]
  have Hb1 := Lib.hid hb1
  clear hb1
  go_wp2_with fail
  go_ret
  exact ⟨by rw [Hv.out]; rfl, Hb0.out.trans (Hb1.out.mono hz0)⟩

end Go.Proofs.Ytjfdbcbmpgnahaa
