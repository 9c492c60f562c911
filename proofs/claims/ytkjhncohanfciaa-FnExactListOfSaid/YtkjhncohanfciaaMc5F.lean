/- Texts on the program and its reference, put together (Add, Ord, Clone, Put, JoinM, SrcsM). -/
import Derived.Test.YtkjhncohanfciaaMc5B
import Derived.Test.YtkjhncohanfciaaMc5E
import Derived.Test.YtkjhncohanfciaaMc5A
import Derived.Deep.RegionHeld3
import Derived.Deep.AppendLies
import Derived.Lib.SlicesCompact
/- Contracts: the nodes of a tree, in order, behind others (the program: a method of a value behind the interface). -/
namespace Go.Proofs.Ytkjhncohanfciaa
open Go.RowKit

def addFn : T → FuncId
  | .leaf _ => 116
  | .stem _ _ => 118
  | .fork _ _ _ => 114
theorem addm_leaf (v : Value) (w : World) : (method 219 81 v "loop.example/pullstreams/impl.addTo").run Try.prog w = .ok (116, v) w := by kernel_rfl
theorem adde_leaf (v s : Value) (w : World) : (callFunc 116 #[v, s]).run Try.prog w = .ok (.enter 116 #[v, s]) w := by kernel_rfl
theorem addm_stem (v : Value) (w : World) : (method 219 83 v "loop.example/pullstreams/impl.addTo").run Try.prog w = .ok (118, v) w := by kernel_rfl
theorem adde_stem (v s : Value) (w : World) : (callFunc 118 #[v, s]).run Try.prog w = .ok (.enter 118 #[v, s]) w := by kernel_rfl
theorem addm_fork (v : Value) (w : World) : (method 219 71 v "loop.example/pullstreams/impl.addTo").run Try.prog w = .ok (114, v) w := by kernel_rfl
theorem adde_fork (v s : Value) (w : World) : (callFunc 114 #[v, s]).run Try.prog w = .ok (.enter 114 #[v, s]) w := by kernel_rfl
theorem method_add (t : T) (w : World) : (method 219 (tyOf t) (rv t) "loop.example/pullstreams/impl.addTo").run Try.prog w = .ok (addFn t, rv t) w := by
  cases t
  · exact addm_leaf _ w
  · exact addm_stem _ w
  · exact addm_fork _ w
theorem enter_add (t : T) (s : Value) (w : World) : (callFunc (addFn t) #[rv t, s]).run Try.prog w = .ok (.enter (addFn t) #[rv t, s]) w := by
  cases t
  · exact adde_leaf _ _ w
  · exact adde_stem _ _ w
  · exact adde_fork _ _ w

/-- Nodes with one below have no second one. -/
def T.Fit : T → Prop
  | .leaf _ => True
  | .stem x t => x.b = -1 ∧ t.Fit
  | .fork _ a b => a.Fit ∧ b.Fit
theorem IsTree.fit {l : List Nd} {i : Nat} {t : T} (h : IsTree l i t) : t.Fit := by
  induction h with
  | leaf => trivial
  | stem _ _ _ _ h2 _ ih => exact ⟨h2, ih⟩
  | fork _ _ _ _ _ _ _ _ iha ihb => exact ⟨iha, ihb⟩

set_option maxRecDepth 100000 in
set_option maxHeartbeats 6400000 in
theorem add_any (t : T) : t.Fit → ∀ (w : World) (base : Nat) (Ao : Option Addr) (co : Nat) (p : List Nd) (n0 : Nat), base ≤ w.heap.size → OwnN w base Ao co p → p.length = n0 → n0 + t.size ≤ 1048576 →
    Calls Try.prog (addFn t) #[rv t, .slice Ao n0 co] w fun e w' => ∃ A' c', e = .returned (.slice A' (n0 + t.size) c') ∧ Wrote w w' base Ao A' c' (p ++ t.put n0) := by
  induction t with
  | leaf x =>
    intro _ w base Ao co p n0 hbase ho hp hsz
    simp only [T.size] at hsz
    obtain ⟨k, a, b2, n, m⟩ := x
    show Calls Try.prog 116 #[.agg #[.int .i64 k, .int .i64 a, .int .i64 b2, .int .i64 n, .int .i64 m], .slice Ao n0 co] w _
    have hb2 := (Below.refl w.heap.size w).alloc (Nat.le_refl _) (.cells #[.int .i64 k, .int .i64 a, .int .i64 b2, .int .i64 n, .int .i64 m] 81)
    have Hb2 := Lib.hid hb2
    have Ho2 := Lib.hid (ho.below hb2 (Nat.le_refl _))
    have Hp := Lib.hid hp
    clear ho hb2 hp
    go_enter Try.func116, Try.ntmps116
    go_wp2_with (at_builtin; refine wpList_append_node rfl _ _ rfl base Ao co p ⟨k, a, b2, n, m⟩ n0 Hp.out rfl Ho2.out _ rfl (by simp) (by omega) (by simp; omega) ?_; intro A' c' w1 happ; have Happ := Lib.hid happ; clear happ)
    go_ret
    exact ⟨A', c', rfl, wrote_of (grown_below Hb2.out _) (.inl rfl) Happ.out⟩
  | stem x t ih =>
    intro hfit w base Ao co p n0 hbase ho hp hsz
    obtain ⟨hfb, hft⟩ := hfit
    simp only [T.size] at hsz
    obtain ⟨k, a, b2, n, m⟩ := x
    simp only at hfb
    subst hfb
    have hm := method_add t
    have he := enter_add t
    show Calls Try.prog 118 #[.agg #[.int .i64 k, .int .i64 a, .int .i64 (-1), .int .i64 n, .int .i64 m, tv t], .slice Ao n0 co] w _
    rw [tv_rv]
    have Hi := Lib.hid (fun W base' Ao' co' p' n' h1 h2 h3 h4 => ih hft W base' Ao' co' p' n' h1 h2 h3 h4)
    clear ih
    obtain ⟨ty, hty⟩ : ∃ ty, ty = tyOf t := ⟨_, rfl⟩
    obtain ⟨v, hv⟩ : ∃ v, v = rv t := ⟨_, rfl⟩
    obtain ⟨f, hf⟩ : ∃ f, f = addFn t := ⟨_, rfl⟩
    rw [← hv, ← hty, ← hf] at hm
    rw [← hv, ← hf] at he Hi
    rw [← hv, ← hty]
    clear hv hty hf
    obtain ⟨W2, hW2⟩ : ∃ W2 : World, W2 = w.alloc (.cells #[.int .i64 k, .int .i64 a, .int .i64 (-1), .int .i64 n, .int .i64 m, .iface ty v] 83) := ⟨_, rfl⟩
    have hb2 : Below w.heap.size w W2 := by rw [hW2]; exact (Below.refl _ _).alloc (Nat.le_refl _) _
    have hs2 : W2.heap.size = w.heap.size + 1 := by rw [hW2]; simp
    have hbox : Bk W2 w.heap.size 83 [.int .i64 k, .int .i64 a, .int .i64 (-1), .int .i64 n, .int .i64 m, .iface ty v] := by rw [hW2]; exact Bk.new _ _ [_, _, _, _, _, _]
    have ho2 := ho.below hb2 (Nat.le_refl _)
    have hrow0 : rowOf Ao ≠ some w.heap.size := fun e => by have := (ho.row_lt _ e).2; omega
    have Hr0 : Hid (some w.heap.size ≠ rowOf Ao) := Ne.symm hrow0
    have HW2 := Lib.hid hW2
    have Hb2 := Lib.hid hb2
    have Hbox := Lib.hid hbox
    have Ho := Lib.hid ho
    have Ho2 := Lib.hid ho2
    have Hs2 := Lib.hid hs2
    have Hp := Lib.hid hp
    have hbase2 : base ≤ W2.heap.size := by omega
    clear hW2 hb2 hbox ho ho2 hs2 hp hrow0
    go_enter Try.func118, Try.ntmps118
    go_wp2_with fail
    rw [← HW2.out]
    refine (Hi.out W2 base Ao co p n0 hbase2 Ho2.out Hp.out (by omega)).mono ?_
    rintro e w3 ⟨A1, c1', rfl, hwr⟩
    have hbox3 := Hbox.out.grown hwr.grown Hr0.out
    have Hwr := Lib.hid hwr
    have d0 : w3.cell? ⟨w.heap.size, 0, none⟩ = some (.int .i64 k) := hbox3.cell 0
    have d1 : w3.cell? ⟨w.heap.size, 1, none⟩ = some (.int .i64 a) := hbox3.cell 1
    have d2 : w3.cell? ⟨w.heap.size, 2, none⟩ = some (.int .i64 (-1)) := hbox3.cell 2
    have d3 : w3.cell? ⟨w.heap.size, 3, none⟩ = some (.int .i64 n) := hbox3.cell 3
    have d4 : w3.cell? ⟨w.heap.size, 4, none⟩ = some (.int .i64 m) := hbox3.cell 4
    clear hwr hbox3
    have hz3 := Hwr.out.grown.size
    have hs2' := Hs2.out
    have Hq : Hid ((p ++ t.put n0).length = n0 + t.size) := by show (p ++ t.put n0).length = n0 + t.size; rw [List.length_append, T.put_len, Hp.out]
    have hbn := (Below.refl w3.heap.size w3).alloc (Nat.le_refl _) (.cells #[.int .i64 k, .int .i64 ((n0 : Int) + (t.size : Int) - 1), .int .i64 (-1), .int .i64 n, .int .i64 m] 69)
    have HoS := Lib.hid (Hwr.out.own.below hbn (Nat.le_refl _))
    have HgS := Lib.hid (grown_of (grown_of (grown_below Hb2.out (rowOf Ao)) Hwr.out.grown (.inl rfl)) (grown_below hbn (rowOf Ao)) (.inl rfl))
    clear hbn
    go_wp2_with (at_builtin; refine wpList_append_node rfl _ _ rfl base A1 c1' (p ++ t.put n0) ⟨k, (n0 : Int) + (t.size : Int) - 1, -1, n, m⟩ (n0 + t.size) Hq.out rfl HoS.out _ rfl (by simp) (by omega) (by simp; omega) ?_; intro A' c' w1 happ; have Happ := Lib.hid happ; clear happ)
    go_ret
    refine ⟨A', c', ret_slice (by simp only [T.size]; omega), ?_⟩
    have hfin := wrote_of HgS.out (at_more Hb2.out.size Hwr.out.at_) Happ.out
    rw [List.append_assoc] at hfin
    exact hfin
  | fork x ta tb iha ihb =>
    intro hfit w base Ao co p n0 hbase ho hp hsz
    obtain ⟨hfa, hfb⟩ := hfit
    simp only [T.size] at hsz
    obtain ⟨k, a, b2, n, m⟩ := x
    have hm := method_add ta
    have he := enter_add ta
    have hm2 := method_add tb
    have he2 := enter_add tb
    show Calls Try.prog 114 #[.agg #[.int .i64 k, .int .i64 a, .int .i64 b2, .int .i64 n, .int .i64 m, tv ta, tv tb], .slice Ao n0 co] w _
    rw [tv_rv, tv_rv]
    have Hi := Lib.hid (fun W base' Ao' co' p' n' h1 h2 h3 h4 => iha hfa W base' Ao' co' p' n' h1 h2 h3 h4)
    have Hi2 := Lib.hid (fun W base' Ao' co' p' n' h1 h2 h3 h4 => ihb hfb W base' Ao' co' p' n' h1 h2 h3 h4)
    clear iha ihb
    obtain ⟨ty, hty⟩ : ∃ ty, ty = tyOf ta := ⟨_, rfl⟩
    obtain ⟨v, hv⟩ : ∃ v, v = rv ta := ⟨_, rfl⟩
    obtain ⟨f, hf⟩ : ∃ f, f = addFn ta := ⟨_, rfl⟩
    obtain ⟨ty2, hty2⟩ : ∃ ty, ty = tyOf tb := ⟨_, rfl⟩
    obtain ⟨v2, hv2⟩ : ∃ v, v = rv tb := ⟨_, rfl⟩
    obtain ⟨f2, hf2⟩ : ∃ f, f = addFn tb := ⟨_, rfl⟩
    rw [← hv, ← hty, ← hf] at hm
    rw [← hv, ← hf] at he Hi
    rw [← hv2, ← hty2, ← hf2] at hm2
    rw [← hv2, ← hf2] at he2 Hi2
    rw [← hv, ← hty, ← hv2, ← hty2]
    clear hv hty hf hv2 hty2 hf2
    obtain ⟨W2, hW2⟩ : ∃ W2 : World, W2 = (w.alloc (.cells #[.int .i64 k, .int .i64 a, .int .i64 b2, .int .i64 n, .int .i64 m, .iface ty v, .iface ty2 v2] 71)).alloc (.cells #[.int .i64 k, .int .i64 a, .int .i64 b2, .int .i64 n, .int .i64 m] 69) := ⟨_, rfl⟩
    have hb2 : Below w.heap.size w W2 := by rw [hW2]; exact ((Below.refl _ _).alloc (Nat.le_refl _) _).alloc (by simp) _
    have hs2 : W2.heap.size = w.heap.size + 2 := by rw [hW2]; simp
    have hbox : Bk W2 w.heap.size 71 [.int .i64 k, .int .i64 a, .int .i64 b2, .int .i64 n, .int .i64 m, .iface ty v, .iface ty2 v2] := by rw [hW2]; exact (Bk.new _ _ [_, _, _, _, _, _, _]).alloc _
    have hnode : Bk W2 (w.heap.size + 1) 69 [.int .i64 k, .int .i64 a, .int .i64 b2, .int .i64 n, .int .i64 m] := by
      rw [hW2]
      have := Bk.new (w.alloc (.cells #[.int .i64 k, .int .i64 a, .int .i64 b2, .int .i64 n, .int .i64 m, .iface ty v, .iface ty2 v2] 71)) 69 [.int .i64 k, .int .i64 a, .int .i64 b2, .int .i64 n, .int .i64 m]
      simpa using this
    have ho2 := ho.below hb2 (Nat.le_refl _)
    have HW2 := Lib.hid hW2
    have Hb2 := Lib.hid hb2
    have Hbox := Lib.hid hbox
    have Hnode := Lib.hid hnode
    have Ho := Lib.hid ho
    have Ho2 := Lib.hid ho2
    have Hs2 := Lib.hid hs2
    have Hp := Lib.hid hp
    have hrow1 : rowOf Ao ≠ some (w.heap.size + 1) := fun e => by have := (ho.row_lt _ e).2; omega
    have hrow0 : rowOf Ao ≠ some w.heap.size := fun e => by have := (ho.row_lt _ e).2; omega
    have Hr1 : Hid (some (w.heap.size + 1) ≠ rowOf Ao) := Ne.symm hrow1
    have Hr0 : Hid (some w.heap.size ≠ rowOf Ao) := Ne.symm hrow0
    have hbase2 : base ≤ W2.heap.size := by omega
    clear hW2 hb2 hbox hnode ho ho2 hs2 hp hrow1 hrow0
    go_enter Try.func114, Try.ntmps114
    go_wp2_with fail
    rw [← HW2.out]
    refine (Hi.out W2 base Ao co p n0 hbase2 Ho2.out Hp.out (by omega)).mono ?_
    rintro e w3 ⟨A1, c1', rfl, hwr⟩
    have hnode3 := Hnode.out.grown hwr.grown Hr1.out
    have hbox3 := Hbox.out.grown hwr.grown Hr0.out
    have Hwr := Lib.hid hwr
    have Hnode3 := Lib.hid hnode3
    have d1 : w3.cell? ⟨w.heap.size + 1, 1, none⟩ = some (.int .i64 a) := hnode3.cell 1
    have e6 : w3.cell? ⟨w.heap.size, 6, none⟩ = some (.iface ty2 v2) := hbox3.cell 6
    have f1 := hnode3.free 1
    clear hwr hnode3 hbox3
    have hz3 := Hwr.out.grown.size
    have hs2' := Hs2.out
    obtain ⟨V, hV⟩ : ∃ V : Int, V = (n0 : Int) + (ta.size : Int) - 1 := ⟨_, rfl⟩
    have hst := grown_one (World.grownBy.refl w3 (some (w.heap.size + 1))) 1 (.int .i64 V)
    have Hne1 : Hid (rowOf A1 ≠ some (w.heap.size + 1)) := own_ne Ho.out (Nat.le_succ _) (by omega) Hwr.out.at_
    have HoS := Lib.hid (Hwr.out.own.grown hst (.inr Hne1.out))
    have HgS := Lib.hid (grown_of (grown_of (grown_below Hb2.out (rowOf Ao)) Hwr.out.grown (.inl rfl)) hst (.inr ⟨_, rfl, Nat.le_succ _⟩))
    have hzS : w3.heap.size = (w3.setCell ⟨w.heap.size + 1, 1, none⟩ (.int .i64 V)).heap.size := by simp [World.setCell]
    have HzS := Lib.hid hzS
    have Hq : Hid ((p ++ ta.put n0).length = n0 + ta.size) := by show (p ++ ta.put n0).length = n0 + ta.size; rw [List.length_append, T.put_len, Hp.out]
    have hbaseS : base ≤ (w3.setCell ⟨w.heap.size + 1, 1, none⟩ (.int .i64 V)).heap.size := by rw [← hzS]; omega
    have HbS := Lib.hid hbaseS
    have HnodeS := Lib.hid (Hnode3.out.set_ 1 (.int .i64 V))
    obtain ⟨WS, hWS⟩ : ∃ WS : World, WS = w3.setCell ⟨w.heap.size + 1, 1, none⟩ (.int .i64 V) := ⟨_, rfl⟩
    rw [← hWS] at HnodeS HoS HgS HzS HbS
    have HWS := Lib.hid hWS
    clear hWS
    subst hV
    clear hst hzS hbaseS
    go_wp2_with fail
    rw [← HWS.out]
    refine (Hi2.out WS base A1 c1' (p ++ ta.put n0) (n0 + ta.size) HbS.out HoS.out Hq.out (by omega)).mono ?_
    rintro e w4 ⟨A2, c2', rfl, hwr4⟩
    have hnode4 := HnodeS.out.grown hwr4.grown (Ne.symm Hne1.out)
    have Hwr4 := Lib.hid hwr4
    have g0 : w4.cell? ⟨w.heap.size + 1, 0, none⟩ = some (.int .i64 k) := hnode4.cell 0
    have g1 : w4.cell? ⟨w.heap.size + 1, 1, none⟩ = some (.int .i64 ((n0 : Int) + (ta.size : Int) - 1)) := hnode4.cell 1
    have g2 : w4.cell? ⟨w.heap.size + 1, 2, none⟩ = some (.int .i64 b2) := hnode4.cell 2
    have g3 : w4.cell? ⟨w.heap.size + 1, 3, none⟩ = some (.int .i64 n) := hnode4.cell 3
    have g4 : w4.cell? ⟨w.heap.size + 1, 4, none⟩ = some (.int .i64 m) := hnode4.cell 4
    have f2' := hnode4.free 2
    have hz4 := Hwr4.out.grown.size
    obtain ⟨V2, hV2⟩ : ∃ V2 : Int, V2 = (n0 : Int) + (ta.size : Int) + (tb.size : Int) - 1 := ⟨_, rfl⟩
    have hst2 := grown_one (World.grownBy.refl w4 (some (w.heap.size + 1))) 2 (.int .i64 V2)
    have hnbS : w.heap.size + 1 < WS.heap.size := HnodeS.out.lt
    have hne2 : rowOf A2 ≠ some (w.heap.size + 1) := by
      rcases Hwr4.out.at_ with e | ⟨g, e, hg⟩
      · rw [e]; exact Hne1.out
      · rw [e]; intro e2; have := Option.some.inj e2; omega
    have HoT := Lib.hid (Hwr4.out.own.grown hst2 (.inr hne2))
    have HgT := Lib.hid (grown_of (grown_of HgS.out Hwr4.out.grown (at_more (Hb2.out.size) Hwr.out.at_)) hst2 (.inr ⟨_, rfl, Nat.le_succ _⟩))
    have hzT : w4.heap.size = (w4.setCell ⟨w.heap.size + 1, 2, none⟩ (.int .i64 V2)).heap.size := by simp [World.setCell]
    have HzT := Lib.hid hzT
    have HbT : Hid (base ≤ (w4.setCell ⟨w.heap.size + 1, 2, none⟩ (.int .i64 V2)).heap.size) := by show base ≤ _; rw [← hzT]; have := HbS.out; omega
    have Hq2 : Hid ((p ++ ta.put n0 ++ tb.put (n0 + ta.size)).length = n0 + ta.size + tb.size) := by show (p ++ ta.put n0 ++ tb.put (n0 + ta.size)).length = _; rw [List.length_append, T.put_len, Hq.out]
    have HatT := Lib.hid (at_trans (Nat.le_trans Hb2.out.size (Nat.le_trans hz3 (Nat.le_of_eq HzS.out))) (at_more Hb2.out.size Hwr.out.at_) Hwr4.out.at_)
    subst hV2
    clear hst2 hzT hne2 hwr4 hnode4 d1 e6 f1
    go_wp2_with (at_builtin; refine wpList_append_node rfl _ _ rfl base A2 c2' (p ++ ta.put n0 ++ tb.put (n0 + ta.size)) ⟨k, (n0 : Int) + (ta.size : Int) - 1, (n0 : Int) + (ta.size : Int) + (tb.size : Int) - 1, n, m⟩ (n0 + ta.size + tb.size) Hq2.out rfl HoT.out _ rfl HzT.out (by omega) HbT.out ?_; intro A' c' w1 happ; have Happ := Lib.hid happ; clear happ)
    go_ret
    refine ⟨A', c', ret_slice (by simp only [T.size]; omega), ?_⟩
    have hfin := wrote_of HgT.out HatT.out Happ.out
    simp only [List.append_assoc] at hfin
    simpa only [T.put, List.append_assoc] using hfin

/-- The nodes of the tree of the node i, in order; none if the pipe is not valid. -/
structure OrdOf (l : List Nd) (ok : Bool) (i : Nat) (q : List Nd) : Prop where
  no : ok = false → q = []
  yes : ∀ {t : T}, ok = true → IsTree l i t → q = t.put 0

theorem own_nil (w : World) (base : Nat) : OwnN w base none 0 [] := World.ownsRow_nil w base _ 5

end Go.Proofs.Ytkjhncohanfciaa

/- Contracts: a pipe with its nodes in order, and the part of a node, told by the reference and by the program. -/
namespace Go.Proofs.Ytkjhncohanfciaa
open Go.RowKit

theorem IsTree.size_le {l : List Nd} {i : Nat} {t : T} (h : IsTree l i t) : t.size + 1 ≤ 2 ^ (i + 1) := by
  induction h with
  | @leaf i => simp only [T.size]; have := Nat.one_lt_two_pow (n := i + 1) (by omega); omega
  | @stem i j x t _ _ _ hj _ _ ih =>
    simp only [T.size]
    have h1 : 2 ^ (j + 1) ≤ 2 ^ i := Nat.pow_le_pow_right (by decide) (by omega)
    have h2 : 2 ^ (i + 1) = 2 * 2 ^ i := by rw [Nat.pow_succ, Nat.mul_comm]
    have h3 : 1 ≤ 2 ^ i := Nat.one_le_two_pow
    omega
  | @fork i j j2 x a b _ _ _ hj _ hj2 _ _ iha ihb =>
    simp only [T.size]
    have h1 : 2 ^ (j + 1) ≤ 2 ^ i := Nat.pow_le_pow_right (by decide) (by omega)
    have h4 : 2 ^ (j2 + 1) ≤ 2 ^ i := Nat.pow_le_pow_right (by decide) (by omega)
    have h2 : 2 ^ (i + 1) = 2 * 2 ^ i := by rw [Nat.pow_succ, Nat.mul_comm]
    omega
theorem IsTree.size_12 {l : List Nd} {i : Nat} {t : T} (h : IsTree l i t) (hi : i < 12) : t.size ≤ 4096 := by
  have h1 := h.size_le
  have h2 : 2 ^ (i + 1) ≤ 2 ^ 12 := Nat.pow_le_pow_right (by decide) (by omega)
  omega

theorem Wrote.below {w W w1 : World} {base c' : Nat} {A A' : Option Addr} {q : List Nd} (k : Wrote W w1 base A A' c' q) (h : Below w.heap.size w W) (hA : ∀ g, rowOf A = some g → w.heap.size ≤ g) : Below w.heap.size w w1 :=
  h.grown k.grown h.size hA

set_option maxHeartbeats 1600000 in
theorem ordered_any {l : List Nd} {i : Nat} {t : T} (ht : Hid (IsTree l i t)) (hi : i < 12) (A : Option Addr) (c : Nat) (w : World) (B : Nat) (h : RdN w B A l) (hB : B ≤ w.heap.size) (hn : l.length ≤ 1048576) :
    Calls Try.prog 47 #[.agg #[.slice A l.length c], .int .i64 i] w fun e w' => ∃ A' c', e = .returned (.agg #[.slice A' t.size c']) ∧ OwnN w' w.heap.size A' c' (t.put 0) ∧ Below w.heap.size w w' := by
  obtain ⟨W2, hW2⟩ : ∃ W2 : World, W2 = ((w.alloc (.cells #[.slice A l.length c] 32)).alloc (.cells #[.slice none 0 0] 32)).alloc (.cells #[] 69) := ⟨_, rfl⟩
  have hb2 : Below w.heap.size w W2 := by rw [hW2]; exact (((Below.refl _ _).alloc (Nat.le_refl _) _).alloc (by simp) _).alloc (by simp; omega) _
  have hs2 : W2.heap.size = w.heap.size + 3 := by rw [hW2]; simp
  have hres : Bk W2 (w.heap.size + 1) 32 [.slice none 0 0] := by
    rw [hW2]
    have := (Bk.new (w.alloc (.cells #[.slice A l.length c] 32)) 32 [.slice none 0 0]).alloc (.cells #[] 69)
    simpa using this
  have hemp : OwnN W2 w.heap.size (some ⟨w.heap.size + 2, 0, none⟩) 0 [] := by
    have h1 : Bk W2 (w.heap.size + 2) 69 (nds []) := by
      rw [hW2]
      have := Bk.new ((w.alloc (.cells #[.slice A l.length c] 32)).alloc (.cells #[.slice none 0 0] 32)) 69 []
      have hs : ((w.alloc (.cells #[.slice A l.length c] 32)).alloc (.cells #[.slice none 0 0] 32)).heap.size = w.heap.size + 2 := by simp
      rw [hs] at this
      exact this
    exact h1.own (by omega) (by simp)
  have hsz := ht.out.size_12 hi
  have HW2 := Lib.hid hW2
  have Hb2 := Lib.hid hb2
  have Hres := Lib.hid hres
  have Hemp := Lib.hid hemp
  have Hh2 := Lib.hid (h.below hb2 hB)
  have Hs2 := Lib.hid hs2
  clear hW2 hb2 hres hemp h hs2
  go_enter Try.func47, Try.ntmps47
  go_wp2_with fail
  rw [← HW2.out]
  refine (post_any ht.out A c W2 B w.heap.size _ 0 [] 0 Hh2.out hB Hb2.out.size Hemp.out rfl (by omega) hn).mono ?_
  rintro e w3 ⟨A', c', rfl, hwr⟩
  have hs := Hs2.out
  have hres3 := Hres.out.grown hwr.grown (by simp [rowOf])
  have hne : rowOf A' ≠ some (w.heap.size + 1) := by
    rcases hwr.at_ with e | ⟨g, e, hg⟩
    · rw [e]; simp [rowOf]
    · rw [e]; intro e2; have := Option.some.inj e2; omega
  have Hwr := Lib.hid hwr
  have Hres3 := Lib.hid hres3
  have Hne : Hid (rowOf A' ≠ some (w.heap.size + 1)) := hne
  have d1 : w3.cell? ⟨w.heap.size + 1, 0, none⟩ = some (.slice none 0 0) := hres3.cell 0
  have f1 := hres3.free 0
  clear hwr hres3 hne
  rw [Nat.zero_add]
  go_wp2_with fail
  have hst := grown_one (World.grownBy.refl w3 (some (w.heap.size + 1))) 0 (.slice A' t.size c')
  refine bodyPost_ret (v := .agg #[.slice A' t.size c']) (by simp [results, Try.results47, go_sem, d1]) rfl ⟨A', c', rfl, ?_, ?_⟩
  · exact Hwr.out.own.grown hst (.inr Hne.out)
  · exact (Hwr.out.below Hb2.out (fun g hg => by simp [rowOf] at hg; omega)).setCell (p := ⟨w.heap.size + 1, 0, none⟩) (Nat.le_succ _) _

theorem RdN.nil_ (w : World) (B : Nat) : RdN w B none [] := fun h => absurd h (by simp)

set_option maxRecDepth 100000 in
set_option maxHeartbeats 1600000 in
theorem pipeOf_any {l : List Nd} {i : Nat} {t : T} (ht : Hid (IsTree l i t)) (hi : i < 12) (w : World) :
    Calls Try.prog 48 #[tv t] w fun e w' => ∃ A' c', e = .returned (.agg #[.slice A' t.size c']) ∧ OwnN w' w.heap.size A' c' (t.put 0) ∧ Below w.heap.size w w' := by
  obtain ⟨W2, hW2⟩ : ∃ W2 : World, W2 = w.alloc (.cells #[.slice none 0 0] 32) := ⟨_, rfl⟩
  have hb2 : Below w.heap.size w W2 := by rw [hW2]; exact (Below.refl _ _).alloc (Nat.le_refl _) _
  have hs2 : W2.heap.size = w.heap.size + 1 := by rw [hW2]; simp
  have hres : Bk W2 w.heap.size 32 [.slice none 0 0] := by rw [hW2]; exact Bk.new w _ [_]
  have hsz := ht.out.size_12 hi
  have hm := method_add t
  have he := enter_add t
  have Hadd := Lib.hid (add_any t ht.out.fit W2 w.heap.size none 0 [] 0 hb2.size (own_nil _ _) rfl (by omega))
  have HW2 := Lib.hid hW2
  have Hb2 := Lib.hid hb2
  have Hres := Lib.hid hres
  have Hs2 := Lib.hid hs2
  clear hW2 hb2 hres hs2 ht
  rw [tv_rv]
  obtain ⟨ty, hty⟩ : ∃ ty, ty = tyOf t := ⟨_, rfl⟩
  obtain ⟨v, hv⟩ : ∃ v, v = rv t := ⟨_, rfl⟩
  obtain ⟨f, hf⟩ : ∃ f, f = addFn t := ⟨_, rfl⟩
  rw [← hv, ← hty, ← hf] at hm
  rw [← hv, ← hf] at he Hadd
  rw [← hv, ← hty]
  clear hv hty hf
  go_enter Try.func48, Try.ntmps48
  go_wp2_with fail
  rw [← HW2.out]
  refine Hadd.out.mono ?_
  rintro e w3 ⟨A', c', rfl, hwr⟩
  have hs := Hs2.out
  have hres3 := Hres.out.grown hwr.grown (by simp [rowOf])
  have hne : rowOf A' ≠ some w.heap.size := by
    rcases hwr.at_ with e | ⟨g, e, hg⟩
    · rw [e]; simp [rowOf]
    · rw [e]; intro e2; have := Option.some.inj e2; omega
  have Hwr := Lib.hid hwr
  have Hne : Hid (rowOf A' ≠ some w.heap.size) := hne
  have d1 : w3.cell? ⟨w.heap.size, 0, none⟩ = some (.slice none 0 0) := hres3.cell 0
  have f1 := hres3.free 0
  clear hwr hres3 hne
  rw [Nat.zero_add]
  go_wp2_with fail
  have hst := grown_one (World.grownBy.refl w3 (some w.heap.size)) 0 (.slice A' t.size c')
  refine bodyPost_ret (v := .agg #[.slice A' t.size c']) (by simp [results, Try.results48, go_sem, d1]) rfl ⟨A', c', rfl, ?_, ?_⟩
  · exact Hwr.out.own.grown hst (.inr Hne.out)
  · exact (Hwr.out.below Hb2.out (fun g hg => by simp [rowOf] at hg)).setCell (p := ⟨w.heap.size, 0, none⟩) (Nat.le_refl _) _

set_option maxRecDepth 100000 in
set_option maxHeartbeats 1600000 in
theorem specOrderPipe_any (A : Option Addr) (c : Nat) (l : List Nd) (w : World) (B : Nat) (q : List Nd) (hq : Hid (OrdOf l (pipeOk l) (l.length - 1) q)) (h : RdN w B A l) (hB : B ≤ w.heap.size) (hn : l.length ≤ 1048576) :
    Calls Try.prog 26 #[.agg #[.slice A l.length c]] w fun e w' => ∃ A' c', e = .returned (.agg #[.slice A' q.length c']) ∧ OwnN w' w.heap.size A' c' q ∧ Below w.heap.size w w' := by
  obtain ⟨W0, hW0⟩ : ∃ W0 : World, W0 = (w.alloc (.cells #[.slice A l.length c] 32)).alloc (.cells #[.slice none 0 0] 32) := ⟨_, rfl⟩
  have hb0 : Below w.heap.size w W0 := by rw [hW0]; exact ((Below.refl w.heap.size w).alloc (Nat.le_refl _) _).alloc (by simp) _
  have hx0 : Bk W0 w.heap.size 32 [.slice A l.length c] := by rw [hW0]; exact (Bk.new _ _ [_]).alloc _
  have hr0 : Bk W0 (w.heap.size + 1) 32 [.slice none 0 0] := by
    rw [hW0]
    have := Bk.new (w.alloc (.cells #[.slice A l.length c] 32)) 32 [.slice none 0 0]
    simpa using this
  have H0 := Lib.hid (h.below hb0 hB)
  have Hb0 := Lib.hid hb0
  have Hx0 := Lib.hid hx0
  have Hr0 := Lib.hid hr0
  have HW0 := Lib.hid hW0
  have hz0 := hb0.size
  clear h hb0 hx0 hr0 hW0
  go_enter Try.func26, Try.ntmps26
  go_wp2_with fail
  rw [← HW0.out]
  refine (specvalidPipe_any A c l W0 B H0.out (by omega) hn).mono ?_
  rintro e w1 ⟨rfl, hb1⟩
  have Hb1 := Lib.hid (Hb0.out.trans (hb1.mono hz0))
  have Hx1 := Lib.hid (Hx0.out.below hb1 Hx0.out.lt)
  have Hr1 := Lib.hid (Hr0.out.below hb1 Hr0.out.lt)
  have H1 := Lib.hid (H0.out.below hb1 (by omega))
  have hc1 : w1.cell? ⟨w.heap.size, 0, none⟩ = some (.slice A l.length c) := Hx1.out.cell 0
  have d1 : w1.cell? ⟨w.heap.size + 1, 0, none⟩ = some (.slice none 0 0) := Hr1.out.cell 0
  have f1 := Hr1.out.free 0
  have hz1 := Hb1.out.size
  clear hb1 HW0
  cases hv : pipeOk l
  · have Hv := Lib.hid hv
    clear hv
    have hq0 := hq.out.no Hv.out
    subst hq0
    go_wp2_with fail
    refine bodyPost_ret (v := .agg #[.slice none 0 0]) (by simp [results, Try.results26, go_sem, d1]) rfl ⟨none, 0, rfl, own_nil _ _, ?_⟩
    exact Hb1.out.setCell (p := ⟨w.heap.size + 1, 0, none⟩) (Nat.le_succ _) _
  · have Hv := Lib.hid hv
    obtain ⟨t, ht⟩ := tree_of_pipe hv
    have hlo := low_of hv
    have hhi := high_of hv
    have hq0 := hq.out.yes hv ht
    have hql : q.length = t.size := by rw [hq0, T.put_len]
    have Hql := Lib.hid hql
    have Hq := Lib.hid hq0
    have Ht := Lib.hid ht
    clear hv ht hq0 hql hq
    go_wp2_with fail
    rw [show ((l.length : Nat) : Int) - 1 = ((l.length - 1 : Nat) : Int) from by omega]
    refine (ordered_any Ht (by omega) A c w1 B H1.out (by omega) hn).mono ?_
    rintro e w3 ⟨A', c', rfl, ho3, hb3⟩
    have Hb3 := Lib.hid (Hb1.out.trans (hb3.mono hz1))
    have Hr3 := Lib.hid (Hr1.out.below hb3 Hr1.out.lt)
    have Ho3 := Lib.hid ho3
    have d3 : w3.cell? ⟨w.heap.size + 1, 0, none⟩ = some (.slice none 0 0) := Hr3.out.cell 0
    have f3 := Hr3.out.free 0
    have hlt1 := Hr1.out.lt
    clear hb3 ho3 d1 f1 hc1
    go_wp2_with fail
    have hst := grown_one (World.grownBy.refl w3 (some (w.heap.size + 1))) 0 (.slice A' t.size c')
    refine bodyPost_ret (v := .agg #[.slice A' t.size c']) (by simp [results, Try.results26, go_sem, d3]) rfl ⟨A', c', by rw [Hql.out], ?_, ?_⟩
    · rw [Hq.out]
      refine (Ho3.out.grown hst (.inr fun e => ?_)).base_ hz1
      have := (Ho3.out.row_lt _ e).1
      omega
    · exact Hb3.out.setCell (p := ⟨w.heap.size + 1, 0, none⟩) (Nat.le_succ _) _

set_option maxRecDepth 100000 in
set_option maxHeartbeats 1600000 in
theorem implOrderPipe_any (A : Option Addr) (c : Nat) (l : List Nd) (w : World) (B : Nat) (q : List Nd) (hq : Hid (OrdOf l (pipeOk l) (l.length - 1) q)) (h : RdN w B A l) (hB : B ≤ w.heap.size) (hn : l.length ≤ 1048576) :
    Calls Try.prog 27 #[.agg #[.slice A l.length c]] w fun e w' => ∃ A' c', e = .returned (.agg #[.slice A' q.length c']) ∧ OwnN w' w.heap.size A' c' q ∧ Below w.heap.size w w' := by
  obtain ⟨W0, hW0⟩ : ∃ W0 : World, W0 = (w.alloc (.cells #[.slice A l.length c] 32)).alloc (.cells #[.slice none 0 0] 32) := ⟨_, rfl⟩
  have hb0 : Below w.heap.size w W0 := by rw [hW0]; exact ((Below.refl w.heap.size w).alloc (Nat.le_refl _) _).alloc (by simp) _
  have hx0 : Bk W0 w.heap.size 32 [.slice A l.length c] := by rw [hW0]; exact (Bk.new _ _ [_]).alloc _
  have hr0 : Bk W0 (w.heap.size + 1) 32 [.slice none 0 0] := by
    rw [hW0]
    have := Bk.new (w.alloc (.cells #[.slice A l.length c] 32)) 32 [.slice none 0 0]
    simpa using this
  have H0 := Lib.hid (h.below hb0 hB)
  have Hb0 := Lib.hid hb0
  have Hx0 := Lib.hid hx0
  have Hr0 := Lib.hid hr0
  have HW0 := Lib.hid hW0
  have hz0 := hb0.size
  clear h hb0 hx0 hr0 hW0
  go_enter Try.func27, Try.ntmps27
  go_wp2_with fail
  rw [← HW0.out]
  refine (implValidPipe_any A c l W0 B H0.out (by omega) hn).mono ?_
  rintro e w1 ⟨rfl, hb1⟩
  have Hb1 := Lib.hid (Hb0.out.trans (hb1.mono hz0))
  have Hx1 := Lib.hid (Hx0.out.below hb1 Hx0.out.lt)
  have Hr1 := Lib.hid (Hr0.out.below hb1 Hr0.out.lt)
  have H1 := Lib.hid (H0.out.below hb1 (by omega))
  have hc1 : w1.cell? ⟨w.heap.size, 0, none⟩ = some (.slice A l.length c) := Hx1.out.cell 0
  have d1 : w1.cell? ⟨w.heap.size + 1, 0, none⟩ = some (.slice none 0 0) := Hr1.out.cell 0
  have f1 := Hr1.out.free 0
  have hz1 := Hb1.out.size
  clear hb1 HW0
  cases hv : pipeOk l
  · have Hv := Lib.hid hv
    clear hv
    have hq0 := hq.out.no Hv.out
    subst hq0
    go_wp2_with fail
    refine bodyPost_ret (v := .agg #[.slice none 0 0]) (by simp [results, Try.results27, go_sem, d1]) rfl ⟨none, 0, rfl, own_nil _ _, ?_⟩
    exact Hb1.out.setCell (p := ⟨w.heap.size + 1, 0, none⟩) (Nat.le_succ _) _
  · have Hv := Lib.hid hv
    obtain ⟨t, ht⟩ := tree_of_pipe hv
    have hlo := low_of hv
    have hhi := high_of hv
    have hq0 := hq.out.yes hv ht
    have hql : q.length = t.size := by rw [hq0, T.put_len]
    have Hql := Lib.hid hql
    have Hq := Lib.hid hq0
    have Ht := Lib.hid ht
    clear hv ht hq0 hql hq
    go_wp2_with fail
    refine (treeOf_any Ht A c w1 B H1.out (by omega) hlo hn).mono ?_
    rintro e w2 ⟨rfl, hb2⟩
    have hr2 := Hr1.out.below hb2 Hr1.out.lt
    have Hb2 := Lib.hid hb2
    have Hr2 := Lib.hid hr2
    clear hb2 hr2
    rw [tv_rv]
    go_wp2_with fail
    rw [← tv_rv]
    refine (pipeOf_any Ht (by omega) w2).mono ?_
    rintro e w3 ⟨A', c', rfl, ho3', hb3'⟩
    have hb3 : Below w1.heap.size w1 w3 := Hb2.out.trans (hb3'.mono Hb2.out.size)
    have ho3 : OwnN w3 w1.heap.size A' c' (t.put 0) := ho3'.base_ Hb2.out.size
    clear ho3' hb3'
    have Hb3 := Lib.hid (Hb1.out.trans (hb3.mono hz1))
    have Hr3 := Lib.hid (Hr1.out.below hb3 Hr1.out.lt)
    have Ho3 := Lib.hid ho3
    have d3 : w3.cell? ⟨w.heap.size + 1, 0, none⟩ = some (.slice none 0 0) := Hr3.out.cell 0
    have f3 := Hr3.out.free 0
    have hlt1 := Hr1.out.lt
    clear hb3 ho3 d1 f1 hc1
    go_wp2_with fail
    have hst := grown_one (World.grownBy.refl w3 (some (w.heap.size + 1))) 0 (.slice A' t.size c')
    refine bodyPost_ret (v := .agg #[.slice A' t.size c']) (by simp [results, Try.results27, go_sem, d3]) rfl ⟨A', c', by rw [Hql.out], ?_, ?_⟩
    · rw [Hq.out]
      refine (Ho3.out.grown hst (.inr fun e => ?_)).base_ hz1
      have := (Ho3.out.row_lt _ e).1
      omega
    · exact Hb3.out.setCell (p := ⟨w.heap.size + 1, 0, none⟩) (Nat.le_succ _) _

end Go.Proofs.Ytkjhncohanfciaa

/- Nodes are appended to a slice of nodes of the call's own; a slice of nodes is cloned. -/
namespace Go.Proofs.Ytkjhncohanfciaa
open Go.RowKit

theorem nds_one (l : List Nd) : ∀ u ∈ nds l, u.oneCell' = true := by
  induction l with
  | nil => intro u hu; simp [nds] at hu
  | cons x l ih =>
    intro u hu
    simp only [nds, List.mem_cons] at hu
    rcases hu with rfl | rfl | rfl | rfl | rfl | hu
    · rfl
    · rfl
    · rfl
    · rfl
    · rfl
    · exact ih u hu

theorem rd_flat {w : World} {b o : Nat} {l : List Nd} (hc : ∀ (k : Nat) (x : Nd), l[k]? = some x → At5 w b (o + k * 5) x) (j : Nat) (u : Value) (hj : (nds l)[j]? = some u) : w.cell? ((⟨b, o, none⟩ : Addr).add j) = some u := by
  rw [Addr.add_lit]
  have hlt : j < l.length * 5 := by rw [← nds_len]; exact (List.getElem?_eq_some_iff.1 hj).1
  obtain ⟨k, hk⟩ : ∃ k, k = j / 5 := ⟨_, rfl⟩
  obtain ⟨r, hr⟩ : ∃ r, r = j % 5 := ⟨_, rfl⟩
  have hjk : j = k * 5 + r := by omega
  have hr5 : r < 5 := by omega
  have hkl : k < l.length := by omega
  have hx : l[k]? = some l[k] := List.getElem?_eq_getElem hkl
  obtain ⟨c0, c1, c2, c3, c4⟩ := hc k _ hx
  obtain ⟨h0, h1, h2, h3, h4⟩ := nds_at hx
  clear hk hr
  subst hjk
  have hrr : r = 0 ∨ r = 1 ∨ r = 2 ∨ r = 3 ∨ r = 4 := by omega
  rcases hrr with rfl | rfl | rfl | rfl | rfl
  · exact c0.trans (h0.symm.trans hj)
  · rw [← Nat.add_assoc]; exact c1.trans (h1.symm.trans hj)
  · rw [← Nat.add_assoc]; exact c2.trans (h2.symm.trans hj)
  · rw [← Nat.add_assoc]; exact c3.trans (h3.symm.trans hj)
  · rw [← Nat.add_assoc]; exact c4.trans (h4.symm.trans hj)

theorem wpList_append_nodes {ops : Array Oper} {rest : List Oper} {o : Oper} {a : Act} {Q : Exit → Act → World → Prop} {w : World} (hgd : o.guard = none) (s y : Operand)
    (ho : o.op = .call { callee := .builtin .append, args := #[s, y], argTypes := #[30, 30] }) (base : Nat) (A : Option Addr) (c : Nat) (l xs : List Nd) (n : Nat) (hnl : l.length = n) (hs : a.eval s = .slice A n c) (hown : OwnN w base A c l)
    (ad : Addr) (m cx : Nat) (hx : a.eval y = .slice (some ad) m cx) (hm : xs.length = m) (hread : ∀ j u, (nds xs)[j]? = some u → w.cell? (ad.add j) = some u) (hpos : 0 < m) (hn : n + m ≤ 1048576) (hb : base ≤ w.heap.size)
    (h : ∀ (A' : Option Addr) (c' : Nat) (w' : World), Appd w w' base A A' c' (l ++ xs) → wpList Try.prog ops Q rest (a.put o.dst (.slice A' (n + m) c')) w') :
    wpList Try.prog ops Q (o :: rest) a w := by
  subst hnl
  subst hm
  obtain ⟨i, hi, hz0, hz1, hz2⟩ := info_parts Try.infoNode
  refine wpList_plain hgd fun K hK => ?_
  obtain ⟨v', w', hr, h2, h3, _⟩ := run_append_own (P := Try.prog) w base 30 o.type 69 i _ 5 40 Try.underlying30 hi hz0 hz1 hz2 rfl (by decide)
    (.slice A l.length c) l.length (nds l) hown ad xs.length cx (nds xs) (nds_len xs) hread (nds_one xs) (by unfold maxLen; omega) (by omega) (by omega)
  have hw := append_where w Try.underlying30 hi hz0 hz1 hz2 hown (news := nds xs) (m := xs.length) (nds_len xs) hread (nds_one xs) hpos (by unfold maxLen; omega) (by omega) hr
  have hv : ∃ A' c', v' = .slice A' (l.length + xs.length) c' := by
    obtain ⟨_, ⟨_, h0⟩ | ⟨g, cap, cur, hv, _⟩⟩ := h2
    · omega
    · exact ⟨_, _, hv⟩
  obtain ⟨A', c', rfl⟩ := hv
  unfold Oper.wp execOp
  simp only [ho, resolve, invoke, builtin, Sem.run_bind, Sem.run_pure, Result.andThen_ok, List.map_toArray, List.map_cons, List.map_nil, hs, hx, hr]
  refine hK _ _ (h A' c' w' ⟨?_, by rw [← ownBlock_slice A l.length c]; exact h3, by simpa only [ownBlock_slice] using hw⟩)
  unfold OwnN
  rw [List.length_append, nds_append]
  exact h2

theorem own_empty (w : World) : OwnN (w.alloc (.cells #[] 69)) w.heap.size (some ⟨w.heap.size, 0, none⟩) 0 [] := by
  have h1 : Bk (w.alloc (.cells #[] 69)) w.heap.size 69 (nds []) := Bk.new w 69 []
  exact h1.own (Nat.le_refl _) (by simp)

theorem nilN (ad : Addr) (n c : Nat) (w : World) : (binOp .eql 30 (.slice (some ad) n c) (.slice none 0 0)).run Try.prog w = .ok (.bool false) w := by kernel_rfl

end Go.Proofs.Ytkjhncohanfciaa

/- Contracts: a node put on a pipe, told by the reference and by the program. -/
namespace Go.Proofs.Ytkjhncohanfciaa
open Go.RowKit

/-- Whether the node can be put on the pipe. -/
def putOk (l : List Nd) (x : Nd) : Bool := pipeOk l && ((arity x.k == 1) && (numsOk x && !(l.length == 12)))

/-- A node put on a pipe. -/
structure PutOf (l : List Nd) (x : Nd) (q : List Nd) (ok : Bool) : Prop where
  no : putOk l x = false → q = [] ∧ ok = false
  yes : putOk l x = true → q = l ++ [⟨x.k, (l.length : Int) - 1, -1, x.n, x.m⟩] ∧ ok = true

theorem known_of {k : Int} (h : (arity k == 1) = true) : known k = true := by
  rcases kinds k with (rfl | rfl | rfl | rfl | rfl | rfl | rfl | rfl | rfl | rfl | rfl | rfl | rfl | rfl) | ⟨e0, e1, e2, e3, e4, e5, e6, e7, e8, e9, e10, e11, e12, e13⟩
  all_goals first | rfl | exact absurd h (by decide) | (simp only [arity, e0, e1, e2, e3, e4, e5, e6, e7, e8, e9, e10, e11, e12, e13] at h; exact absurd h (by decide))

theorem Bk.drew_ {w : World} {g : Nat} {t : TypeId} {cs : List Value} (h : Bk w g t cs) : Bk w.drew g t cs := h

theorem arity_vals (k : Int) : arity k = 1 ∨ arity k = 0 ∨ arity k = 2 ∨ arity k = -1 := by
  unfold arity
  split
  · simp
  · split
    · simp
    · split <;> simp

end Go.Proofs.Ytkjhncohanfciaa

/- Plain mathematics: a tree put behind other nodes is that tree moved; what two pipes joined are; what a pipe with moved sources is. -/
namespace Go.Proofs.Ytkjhncohanfciaa

/-- A node behind n others. -/
def shNd (n : Nat) (x : Nd) : Nd := ⟨x.k, if 0 ≤ x.a then x.a + n else x.a, if 0 ≤ x.b then x.b + n else x.b, x.n, x.m⟩

/-- The nodes have no more below than the tree tells. -/
def T.Fit2 : T → Prop
  | .leaf x => x.a = -1 ∧ x.b = -1
  | .stem x t => x.b = -1 ∧ t.Fit2
  | .fork _ a b => a.Fit2 ∧ b.Fit2
theorem IsTree.fit2 {l : List Nd} {i : Nat} {t : T} (h : IsTree l i t) : t.Fit2 := by
  induction h with
  | leaf _ _ h1 h2 => exact ⟨h1, h2⟩
  | stem _ _ _ _ h2 _ ih => exact ⟨h2, ih⟩
  | fork _ _ _ _ _ _ _ _ iha ihb => exact ⟨iha, ihb⟩
theorem T.put_shift (t : T) : t.Fit2 → ∀ m n : Nat, (t.put m).map (shNd n) = t.put (m + n) := by
  induction t with
  | leaf x =>
    intro h m n
    obtain ⟨h1, h2⟩ := h
    obtain ⟨k, a, b, n', m'⟩ := x
    simp only at h1 h2
    subst h1 h2
    rfl
  | stem x t ih =>
    intro h m n
    obtain ⟨hb, ht⟩ := h
    have hp := t.size_pos
    simp only [T.put, List.map_append, ih ht, List.map_cons, List.map_nil, shNd]
    rw [if_pos (by omega), if_neg (by rw [hb]; omega)]
    have e : (m : Int) + (t.size : Int) - 1 + (n : Int) = ((m + n : Nat) : Int) + (t.size : Int) - 1 := by omega
    rw [e]
  | fork x a b iha ihb =>
    intro h m n
    obtain ⟨ha, hb⟩ := h
    have hp := a.size_pos
    have hq := b.size_pos
    simp only [T.put, List.map_append, iha ha, ihb hb, List.map_cons, List.map_nil, shNd]
    rw [if_pos (by omega), if_pos (by omega)]
    have e : (m : Int) + (a.size : Int) - 1 + (n : Int) = ((m + n : Nat) : Int) + (a.size : Int) - 1 := by omega
    have e2 : (m : Int) + (a.size : Int) + (b.size : Int) - 1 + (n : Int) = ((m + n : Nat) : Int) + (a.size : Int) + (b.size : Int) - 1 := by omega
    have e3 : m + a.size + n = m + n + a.size := by omega
    rw [e, e2, e3]

/-- Whether two pipes can be joined. -/
def joinOk (l r : List Nd) (k : Int) : Bool := pipeOk l && (pipeOk r && ((arity k == 2) && decide (l.length + r.length < 12)))
/-- Two pipes joined. -/
structure JoinOf (l r : List Nd) (k : Int) (q : List Nd) (ok : Bool) : Prop where
  no : joinOk l r k = false → q = [] ∧ ok = false
  yes : ∀ {ta tb : T}, joinOk l r k = true → IsTree l (l.length - 1) ta → IsTree r (r.length - 1) tb → q = (T.fork ⟨k, 0, 0, 0, 0⟩ ta tb).put 0 ∧ ok = true
theorem join_parts (k : Int) (ta tb : T) (hb : tb.Fit2) : (T.fork ⟨k, 0, 0, 0, 0⟩ ta tb).put 0 = ta.put 0 ++ (tb.put 0).map (shNd ta.size) ++ [⟨k, (ta.size : Int) - 1, (ta.size : Int) + (tb.size : Int) - 1, 0, 0⟩] := by
  simp only [T.put, T.put_shift tb hb 0 ta.size]
  simp

/-- A node with its source moved. -/
def mvNd (to : List Int) (x : Nd) : Nd := if x.k = 0 then ⟨x.k, x.a, x.b, to.getD x.n.toNat 0, x.m⟩ else x
/-- Whether the sources of a pipe can be moved. -/
def moveOk (l : List Nd) (to : List Int) : Bool := pipeOk l && (decide (to.length = 3) && allB to 0 2)
/-- A pipe with its sources moved. -/
structure MoveOf (l : List Nd) (to : List Int) (q : List Nd) : Prop where
  no : moveOk l to = false → q = []
  yes : moveOk l to = true → q = l.map (mvNd to)
theorem source_n {l : List Nd} (h : pipeOk l = true) {i : Nat} {x : Nd} (hx : l[i]? = some x) (hk : x.k = 0) : ∃ s : Nat, x.n = (s : Int) ∧ s < 3 := by
  have h1 := (pipeOk_iff.1 h).node i x hx
  simp only [nodeOk, Bool.and_eq_true] at h1
  have h2 := h1.1
  simp [numsOk, hk, inR] at h2
  exact ⟨x.n.toNat, by omega, by omega⟩
theorem nds_set_n {l : List Nd} {k : Nat} {x : Nd} (hx : l[k]? = some x) (v : Int) : (nds l).set (k * 5 + 3) (.int .i64 v) = nds (l.set k ⟨x.k, x.a, x.b, v, x.m⟩) := by
  induction l generalizing k with
  | nil => simp at hx
  | cons y l ih =>
    cases k with
    | zero =>
      simp at hx
      subst hx
      simp [nds]
    | succ k =>
      have e : (k + 1) * 5 + 3 = k * 5 + 3 + 5 := by omega
      rw [e]
      have := ih (k := k) (by simpa using hx)
      simp only [nds, List.set_cons_succ, List.set]
      rw [← this]
theorem mv_step {l : List Nd} {to : List Int} {j : Nat} {x : Nd} (hx : l[j]? = some x) : ((l.take j).map (mvNd to) ++ l.drop j).set j (mvNd to x) = (l.take (j + 1)).map (mvNd to) ++ l.drop (j + 1) := by
  have hj : j < l.length := (List.getElem?_eq_some_iff.1 hx).1
  rw [List.set_append_right _ _ (by simp; omega), take_succ_of hx]
  have e : j - ((l.take j).map (mvNd to)).length = 0 := by simp; omega
  rw [e]
  cases h : l.drop j with
  | nil => have := congrArg List.length h; simp at this; omega
  | cons y r =>
    have : l.drop (j + 1) = r := by rw [← List.drop_drop, h]; rfl
    rw [this]
    simp
theorem mv_same {l : List Nd} {to : List Int} {j : Nat} {x : Nd} (hx : l[j]? = some x) (hk : x.k ≠ 0) : (l.take j).map (mvNd to) ++ l.drop j = (l.take (j + 1)).map (mvNd to) ++ l.drop (j + 1) := by
  have hj : j < l.length := (List.getElem?_eq_some_iff.1 hx).1
  rw [take_succ_of hx]
  cases h : l.drop j with
  | nil => have := congrArg List.length h; simp at this; omega
  | cons y r =>
    have h1 : l.drop (j + 1) = r := by rw [← List.drop_drop, h]; rfl
    have h2 : y = x := by
      have := List.getElem?_drop (xs := l) (i := j) (j := 0)
      rw [h] at this
      simp [hx] at this
      exact this
    rw [h1, h2]
    simp [mvNd, hk]

end Go.Proofs.Ytkjhncohanfciaa

/- Plain mathematics: the sources of a pipe, ascending, each once. -/
namespace Go.Proofs.Ytkjhncohanfciaa
open Go.Lib

/-- Whether a pipe has the source s. -/
def srcIn (l : List Nd) (s : Int) : Bool := l.any (fun x => x.k == 0 && x.n == s)
/-- The sources less than s, ascending. -/
def srcs (l : List Nd) (s : Nat) : List Int := ((List.range s).filter (fun s : Nat => srcIn l (s : Int))).map (fun s : Nat => (s : Int))
/-- The sources in the order of the nodes. -/
def nsOf (l : List Nd) : List Int := (l.filter (fun x => x.k == 0)).map (·.n)
structure SrcsOf (l : List Nd) (q : List Int) : Prop where
  no : pipeOk l = false → q = []
  yes : pipeOk l = true → q = srcs l 3

theorem srcs_succ (l : List Nd) (s : Nat) : srcs l (s + 1) = srcs l s ++ (if srcIn l s then [(s : Int)] else []) := by
  unfold srcs
  rw [List.range_succ, List.filter_append, List.map_append]
  congr 1
  by_cases h : srcIn l s <;> simp [h]
theorem srcs_len (l : List Nd) (s : Nat) : (srcs l s).length ≤ s := by
  unfold srcs
  rw [List.length_map]
  have := List.length_filter_le (fun s : Nat => srcIn l (s : Int)) (List.range s)
  simpa using this
theorem nsOf_succ {l : List Nd} {k : Nat} {x : Nd} (h : l[k]? = some x) : nsOf (l.take (k + 1)) = nsOf (l.take k) ++ (if x.k == 0 then [x.n] else []) := by
  unfold nsOf
  rw [take_succ_of h, List.filter_append, List.map_append]
  congr 1
  by_cases e : (x.k == 0) = true
  · simp [e]
  · simp [e]
theorem nsOf_len (l : List Nd) (k : Nat) : (nsOf (l.take k)).length ≤ k := by
  unfold nsOf
  rw [List.length_map]
  have := List.length_filter_le (fun x : Nd => x.k == 0) (l.take k)
  have := List.length_take_le k l
  omega

/-- Two ascending lists with the same members are one. -/
theorem asc_unique : ∀ (a b : List Int), a.Pairwise (· < ·) → b.Pairwise (· < ·) → (∀ x, x ∈ a ↔ x ∈ b) → a = b := by
  intro a
  induction a with
  | nil =>
    intro b _ _ h
    cases b with
    | nil => rfl
    | cons y b => exact absurd ((h y).2 (by simp)) (by simp)
  | cons x a ih =>
    intro b ha hb h
    cases b with
    | nil => exact absurd ((h x).1 (by simp)) (by simp)
    | cons y b =>
      rw [List.pairwise_cons] at ha hb
      have hxy : x = y := by
        have h1 := (h x).1 (by simp)
        have h2 := (h y).2 (by simp)
        rcases List.mem_cons.1 h1 with e | e
        · exact e
        · rcases List.mem_cons.1 h2 with f | f
          · exact f.symm
          · have := ha.1 y f
            have := hb.1 x e
            omega
      subst hxy
      rw [ih b ha.2 hb.2 fun z => ?_]
      constructor
      · intro hz
        rcases List.mem_cons.1 ((h z).1 (List.mem_cons_of_mem _ hz)) with e | e
        · have := ha.1 z hz; omega
        · exact e
      · intro hz
        rcases List.mem_cons.1 ((h z).2 (List.mem_cons_of_mem _ hz)) with e | e
        · have := hb.1 z hz; omega
        · exact e

theorem compact_part (d : Array Int) (hs : ∀ i j, i ≤ j → j < d.size → d[i]! ≤ d[j]!) : ∀ m, m ≤ d.size →
    (∀ x, x ∈ compactUpTo d m ↔ ∃ j, j < m ∧ d[j]! = x) ∧ (compactUpTo d m).Pairwise (· < ·) := by
  intro m
  induction m with
  | zero => intro _; simp [compactUpTo]
  | succ m ih =>
    intro hm
    obtain ⟨h1, h2⟩ := ih (by omega)
    rw [compactUpTo_succ]
    by_cases hk : keeps d m = true
    · rw [if_pos hk]
      refine ⟨fun x => ?_, List.pairwise_append.2 ⟨h2, List.pairwise_singleton _ _, fun a ha b hb => ?_⟩⟩
      · rw [List.mem_append, h1, List.mem_singleton]
        constructor
        · rintro (⟨j, hj, e⟩ | e)
          · exact ⟨j, by omega, e⟩
          · exact ⟨m, by omega, e.symm⟩
        · rintro ⟨j, hj, e⟩
          by_cases hjm : j = m
          · subst hjm; exact .inr e.symm
          · exact .inl ⟨j, by omega, e⟩
      · rw [List.mem_singleton.1 hb]
        obtain ⟨j, hj, e⟩ := (h1 a).1 ha
        have e1 := hs j (m - 1) (by omega) (by omega)
        have e2 := hs (m - 1) m (by omega) (by omega)
        simp only [keeps, decide_eq_true_eq] at hk
        have : m ≠ 0 := by omega
        have hne := hk.resolve_left this
        omega
    · rw [if_neg hk, List.append_nil]
      refine ⟨fun x => ?_, h2⟩
      rw [h1]
      constructor
      · rintro ⟨j, hj, e⟩; exact ⟨j, by omega, e⟩
      · rintro ⟨j, hj, e⟩
        by_cases hjm : j = m
        · subst hjm
          simp only [keeps, decide_eq_true_eq, not_or] at hk
          have h0 : 0 < j := by omega
          exact ⟨j - 1, by omega, by have := Classical.not_not.1 hk.2; rw [← this]; exact e⟩
        · exact ⟨j, by omega, e⟩

theorem mem_arr {d : List Int} {x : Int} : x ∈ d ↔ ∃ j, j < d.length ∧ d.toArray[j]! = x := by
  rw [List.mem_iff_getElem]
  constructor
  · rintro ⟨j, hj, e⟩; exact ⟨j, hj, by simp [hj, e]⟩
  · rintro ⟨j, hj, e⟩; exact ⟨j, hj, by simpa [hj] using e⟩

theorem sorted_compact (zs : List Int) : (∀ x, x ∈ compact (zs.mergeSort fun x y => decide (x ≤ y)) ↔ x ∈ zs) ∧ (compact (zs.mergeSort fun x y => decide (x ≤ y))).Pairwise (· < ·) := by
  obtain ⟨d, hd⟩ : ∃ d, d = zs.mergeSort fun x y => decide (x ≤ y) := ⟨_, rfl⟩
  have hp : d.Pairwise (fun a b => decide (a ≤ b) = true) := by
    rw [hd]
    exact List.pairwise_mergeSort (fun a b c h1 h2 => by simp at *; omega) (fun a b => by simp; omega) zs
  have hs : ∀ i j, i ≤ j → j < d.toArray.size → d.toArray[i]! ≤ d.toArray[j]! := fun i j hij hj => by
    have hj' : j < d.length := by simpa using hj
    have hi' : i < d.length := by omega
    simp only [List.getElem!_toArray, getElem!_pos d i hi', getElem!_pos d j hj']
    by_cases e : i = j
    · subst e; exact Int.le_refl _
    · have := List.pairwise_iff_getElem.1 hp i j hi' hj' (by omega)
      simpa using this
  obtain ⟨h1, h2⟩ := compact_part d.toArray hs d.length (by simp)
  rw [← hd]
  refine ⟨fun x => ?_, h2⟩
  unfold compact
  rw [h1, ← mem_arr, hd, List.mem_mergeSort]

theorem srcs_asc (l : List Nd) (s : Nat) : (srcs l s).Pairwise (· < ·) := by
  unfold srcs
  rw [List.pairwise_map]
  have := (List.pairwise_lt_range (n := s)).filter (fun s : Nat => srcIn l (s : Int))
  exact this.imp (fun h => by omega)

theorem srcs_of_ns {l : List Nd} (h : pipeOk l = true) : compact ((nsOf l).mergeSort fun x y => decide (x ≤ y)) = srcs l 3 := by
  obtain ⟨h1, h2⟩ := sorted_compact (nsOf l)
  refine asc_unique _ _ h2 (srcs_asc l 3) fun x => ?_
  rw [h1]
  simp only [nsOf, srcs, srcIn, List.mem_map, List.mem_filter, List.mem_range, List.any_eq_true, Bool.and_eq_true, beq_iff_eq]
  constructor
  · rintro ⟨y, ⟨hy, hk⟩, e⟩
    obtain ⟨i, hi⟩ := List.getElem?_of_mem hy
    obtain ⟨s, hs, hs3⟩ := source_n h hi hk
    exact ⟨s, ⟨hs3, y, hy, hk, hs⟩, by omega⟩
  · rintro ⟨s, ⟨hs3, y, hy, hk, hn⟩, e⟩
    exact ⟨y, ⟨hy, hk⟩, by omega⟩

end Go.Proofs.Ytkjhncohanfciaa
