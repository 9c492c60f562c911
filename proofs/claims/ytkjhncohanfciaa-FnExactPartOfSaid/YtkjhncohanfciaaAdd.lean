/- Contracts: the nodes of a tree, in order, behind others (the program: a method of a value behind the interface). -/
import Derived.Test.YtkjhncohanfciaaPost
import Derived.Test.YtkjhncohanfciaaDepth
namespace Go.Proofs.Ytkjhncohanfciaa
open Go.RowKit

def addFn : T → FuncId
  | .leaf _ => 116
  | .stem _ _ => 118
  | .fork _ _ _ => 114
theorem addm_leaf (v : Value) (w : World) : (method 219 81 v "loop.example/pullstreams/impl.addTo").run Try.prog w = .ok (116, v) w := by kernel_rfl
theorem adde_leaf (v s : Value) (w : World) : (callFunc 116 #[v, s]).run Try.prog w = .ok (.enter 116 #[v, s]) w := by kernel_rfl
theorem addm_stem (v : Value) (w : World) : (method 219 83 v "loop.example/pullstreams/impl.addTo").run Try.prog w = .ok (118, v) w := by kernel_rfl
theorem adde_stem (v s : Value) (w : World) : (callFunc 118 #[v, s]).run Try.prog w = .ok (.enter 118 #[v, s]) w := by kernel_rfl
theorem addm_fork (v : Value) (w : World) : (method 219 71 v "loop.example/pullstreams/impl.addTo").run Try.prog w = .ok (114, v) w := by kernel_rfl
theorem adde_fork (v s : Value) (w : World) : (callFunc 114 #[v, s]).run Try.prog w = .ok (.enter 114 #[v, s]) w := by kernel_rfl
theorem method_add (t : T) (w : World) : (method 219 (tyOf t) (rv t) "loop.example/pullstreams/impl.addTo").run Try.prog w = .ok (addFn t, rv t) w := by
  cases t
  · exact addm_leaf _ w
  · exact addm_stem _ w
  · exact addm_fork _ w
theorem enter_add (t : T) (s : Value) (w : World) : (callFunc (addFn t) #[rv t, s]).run Try.prog w = .ok (.enter (addFn t) #[rv t, s]) w := by
  cases t
  · exact adde_leaf _ _ w
  · exact adde_stem _ _ w
  · exact adde_fork _ _ w

/-- Nodes with one below have no second one. -/
def T.Fit : T → Prop
  | .leaf _ => True
  | .stem x t => x.b = -1 ∧ t.Fit
  | .fork _ a b => a.Fit ∧ b.Fit
theorem IsTree.fit {l : List Nd} {i : Nat} {t : T} (h : IsTree l i t) : t.Fit := by
  induction h with
  | leaf => trivial
  | stem _ _ _ _ h2 _ ih => exact ⟨h2, ih⟩
  | fork _ _ _ _ _ _ _ _ iha ihb => exact ⟨iha, ihb⟩

set_option maxRecDepth 100000 in
set_option maxHeartbeats 6400000 in
theorem add_any (t : T) : t.Fit → ∀ (w : World) (base : Nat) (Ao : Option Addr) (co : Nat) (p : List Nd) (n0 : Nat), base ≤ w.heap.size → OwnN w base Ao co p → p.length = n0 → n0 + t.size ≤ 1048576 →
    Calls Try.prog (addFn t) #[rv t, .slice Ao n0 co] w fun e w' => ∃ A' c', e = .returned (.slice A' (n0 + t.size) c') ∧ Wrote w w' base Ao A' c' (p ++ t.put n0) := by
  induction t with
  | leaf x =>
    intro _ w base Ao co p n0 hbase ho hp hsz
    simp only [T.size] at hsz
    obtain ⟨k, a, b2, n, m⟩ := x
    show Calls Try.prog 116 #[.agg #[.int .i64 k, .int .i64 a, .int .i64 b2, .int .i64 n, .int .i64 m], .slice Ao n0 co] w _
    have hb2 := (Below.refl w.heap.size w).alloc (Nat.le_refl _) (.cells #[.int .i64 k, .int .i64 a, .int .i64 b2, .int .i64 n, .int .i64 m] 81)
    have Hb2 := Lib.hid hb2
    have Ho2 := Lib.hid (ho.below hb2 (Nat.le_refl _))
    have Hp := Lib.hid hp
    clear ho hb2 hp
    go_enter Try.func116, Try.ntmps116
    go_wp2_with (at_builtin; refine wpList_append_node rfl _ _ rfl base Ao co p ⟨k, a, b2, n, m⟩ n0 Hp.out rfl Ho2.out _ rfl (by simp) (by omega) (by simp; omega) ?_; intro A' c' w1 happ; have Happ := Lib.hid happ; clear happ)
    go_ret
    exact ⟨A', c', rfl, wrote_of (grown_below Hb2.out _) (.inl rfl) Happ.out⟩
  | stem x t ih =>
    intro hfit w base Ao co p n0 hbase ho hp hsz
    obtain ⟨hfb, hft⟩ := hfit
    simp only [T.size] at hsz
    obtain ⟨k, a, b2, n, m⟩ := x
    simp only at hfb
    subst hfb
    have hm := method_add t
    have he := enter_add t
    show Calls Try.prog 118 #[.agg #[.int .i64 k, .int .i64 a, .int .i64 (-1), .int .i64 n, .int .i64 m, tv t], .slice Ao n0 co] w _
    rw [tv_rv]
    have Hi := Lib.hid (fun W base' Ao' co' p' n' h1 h2 h3 h4 => ih hft W base' Ao' co' p' n' h1 h2 h3 h4)
    clear ih
    obtain ⟨ty, hty⟩ : ∃ ty, ty = tyOf t := ⟨_, rfl⟩
    obtain ⟨v, hv⟩ : ∃ v, v = rv t := ⟨_, rfl⟩
    obtain ⟨f, hf⟩ : ∃ f, f = addFn t := ⟨_, rfl⟩
    rw [← hv, ← hty, ← hf] at hm
    rw [← hv, ← hf] at he Hi
    rw [← hv, ← hty]
    clear hv hty hf
    obtain ⟨W2, hW2⟩ : ∃ W2 : World, W2 = w.alloc (.cells #[.int .i64 k, .int .i64 a, .int .i64 (-1), .int .i64 n, .int .i64 m, .iface ty v] 83) := ⟨_, rfl⟩
    have hb2 : Below w.heap.size w W2 := by rw [hW2]; exact (Below.refl _ _).alloc (Nat.le_refl _) _
    have hs2 : W2.heap.size = w.heap.size + 1 := by rw [hW2]; simp
    have hbox : Bk W2 w.heap.size 83 [.int .i64 k, .int .i64 a, .int .i64 (-1), .int .i64 n, .int .i64 m, .iface ty v] := by rw [hW2]; exact Bk.new _ _ [_, _, _, _, _, _]
    have ho2 := ho.below hb2 (Nat.le_refl _)
    have hrow0 : rowOf Ao ≠ some w.heap.size := fun e => by have := (ho.row_lt _ e).2; omega
    have Hr0 : Hid (some w.heap.size ≠ rowOf Ao) := Ne.symm hrow0
    have HW2 := Lib.hid hW2
    have Hb2 := Lib.hid hb2
    have Hbox := Lib.hid hbox
    have Ho := Lib.hid ho
    have Ho2 := Lib.hid ho2
    have Hs2 := Lib.hid hs2
    have Hp := Lib.hid hp
    have hbase2 : base ≤ W2.heap.size := by omega
    clear hW2 hb2 hbox ho ho2 hs2 hp hrow0
    go_enter Try.func118, Try.ntmps118
    go_wp2_with fail
    rw [← HW2.out]
    refine (Hi.out W2 base Ao co p n0 hbase2 Ho2.out Hp.out (by omega)).mono ?_
    rintro e w3 ⟨A1, c1', rfl, hwr⟩
    have hbox3 := Hbox.out.grown hwr.grown Hr0.out
    have Hwr := Lib.hid hwr
    have d0 : w3.cell? ⟨w.heap.size, 0, none⟩ = some (.int .i64 k) := hbox3.cell 0
    have d1 : w3.cell? ⟨w.heap.size, 1, none⟩ = some (.int .i64 a) := hbox3.cell 1
    have d2 : w3.cell? ⟨w.heap.size, 2, none⟩ = some (.int .i64 (-1)) := hbox3.cell 2
    have d3 : w3.cell? ⟨w.heap.size, 3, none⟩ = some (.int .i64 n) := hbox3.cell 3
    have d4 : w3.cell? ⟨w.heap.size, 4, none⟩ = some (.int .i64 m) := hbox3.cell 4
    clear hwr hbox3
    have hz3 := Hwr.out.grown.size
    have hs2' := Hs2.out
    have Hq : Hid ((p ++ t.put n0).length = n0 + t.size) := by show (p ++ t.put n0).length = n0 + t.size; rw [List.length_append, T.put_len, Hp.out]
    have hbn := (Below.refl w3.heap.size w3).alloc (Nat.le_refl _) (.cells #[.int .i64 k, .int .i64 ((n0 : Int) + (t.size : Int) - 1), .int .i64 (-1), .int .i64 n, .int .i64 m] 69)
    have HoS := Lib.hid (Hwr.out.own.below hbn (Nat.le_refl _))
    have HgS := Lib.hid (grown_of (grown_of (grown_below Hb2.out (rowOf Ao)) Hwr.out.grown (.inl rfl)) (grown_below hbn (rowOf Ao)) (.inl rfl))
    clear hbn
    go_wp2_with (at_builtin; refine wpList_append_node rfl _ _ rfl base A1 c1' (p ++ t.put n0) ⟨k, (n0 : Int) + (t.size : Int) - 1, -1, n, m⟩ (n0 + t.size) Hq.out rfl HoS.out _ rfl (by simp) (by omega) (by simp; omega) ?_; intro A' c' w1 happ; have Happ := Lib.hid happ; clear happ)
    go_ret
    refine ⟨A', c', ret_slice (by simp only [T.size]; omega), ?_⟩
    have hfin := wrote_of HgS.out (at_more Hb2.out.size Hwr.out.at_) Happ.out
    rw [List.append_assoc] at hfin
    exact hfin
  | fork x ta tb iha ihb =>
    intro hfit w base Ao co p n0 hbase ho hp hsz
    obtain ⟨hfa, hfb⟩ := hfit
    simp only [T.size] at hsz
    obtain ⟨k, a, b2, n, m⟩ := x
    have hm := method_add ta
    have he := enter_add ta
    have hm2 := method_add tb
    have he2 := enter_add tb
    show Calls Try.prog 114 #[.agg #[.int .i64 k, .int .i64 a, .int .i64 b2, .int .i64 n, .int .i64 m, tv ta, tv tb], .slice Ao n0 co] w _
    rw [tv_rv, tv_rv]
    have Hi := Lib.hid (fun W base' Ao' co' p' n' h1 h2 h3 h4 => iha hfa W base' Ao' co' p' n' h1 h2 h3 h4)
    have Hi2 := Lib.hid (fun W base' Ao' co' p' n' h1 h2 h3 h4 => ihb hfb W base' Ao' co' p' n' h1 h2 h3 h4)
    clear iha ihb
    obtain ⟨ty, hty⟩ : ∃ ty, ty = tyOf ta := ⟨_, rfl⟩
    obtain ⟨v, hv⟩ : ∃ v, v = rv ta := ⟨_, rfl⟩
    obtain ⟨f, hf⟩ : ∃ f, f = addFn ta := ⟨_, rfl⟩
    obtain ⟨ty2, hty2⟩ : ∃ ty, ty = tyOf tb := ⟨_, rfl⟩
    obtain ⟨v2, hv2⟩ : ∃ v, v = rv tb := ⟨_, rfl⟩
    obtain ⟨f2, hf2⟩ : ∃ f, f = addFn tb := ⟨_, rfl⟩
    rw [← hv, ← hty, ← hf] at hm
    rw [← hv, ← hf] at he Hi
    rw [← hv2, ← hty2, ← hf2] at hm2
    rw [← hv2, ← hf2] at he2 Hi2
    rw [← hv, ← hty, ← hv2, ← hty2]
    clear hv hty hf hv2 hty2 hf2
    obtain ⟨W2, hW2⟩ : ∃ W2 : World, W2 = (w.alloc (.cells #[.int .i64 k, .int .i64 a, .int .i64 b2, .int .i64 n, .int .i64 m, .iface ty v, .iface ty2 v2] 71)).alloc (.cells #[.int .i64 k, .int .i64 a, .int .i64 b2, .int .i64 n, .int .i64 m] 69) := ⟨_, rfl⟩
    have hb2 : Below w.heap.size w W2 := by rw [hW2]; exact ((Below.refl _ _).alloc (Nat.le_refl _) _).alloc (by simp) _
    have hs2 : W2.heap.size = w.heap.size + 2 := by rw [hW2]; simp
    have hbox : Bk W2 w.heap.size 71 [.int .i64 k, .int .i64 a, .int .i64 b2, .int .i64 n, .int .i64 m, .iface ty v, .iface ty2 v2] := by rw [hW2]; exact (Bk.new _ _ [_, _, _, _, _, _, _]).alloc _
    have hnode : Bk W2 (w.heap.size + 1) 69 [.int .i64 k, .int .i64 a, .int .i64 b2, .int .i64 n, .int .i64 m] := by
      rw [hW2]
      have := Bk.new (w.alloc (.cells #[.int .i64 k, .int .i64 a, .int .i64 b2, .int .i64 n, .int .i64 m, .iface ty v, .iface ty2 v2] 71)) 69 [.int .i64 k, .int .i64 a, .int .i64 b2, .int .i64 n, .int .i64 m]
      simpa using this
    have ho2 := ho.below hb2 (Nat.le_refl _)
    have HW2 := Lib.hid hW2
    have Hb2 := Lib.hid hb2
    have Hbox := Lib.hid hbox
    have Hnode := Lib.hid hnode
    have Ho := Lib.hid ho
    have Ho2 := Lib.hid ho2
    have Hs2 := Lib.hid hs2
    have Hp := Lib.hid hp
    have hrow1 : rowOf Ao ≠ some (w.heap.size + 1) := fun e => by have := (ho.row_lt _ e).2; omega
    have hrow0 : rowOf Ao ≠ some w.heap.size := fun e => by have := (ho.row_lt _ e).2; omega
    have Hr1 : Hid (some (w.heap.size + 1) ≠ rowOf Ao) := Ne.symm hrow1
    have Hr0 : Hid (some w.heap.size ≠ rowOf Ao) := Ne.symm hrow0
    have hbase2 : base ≤ W2.heap.size := by omega
    clear hW2 hb2 hbox hnode ho ho2 hs2 hp hrow1 hrow0
    go_enter Try.func114, Try.ntmps114
    go_wp2_with fail
    rw [← HW2.out]
    refine (Hi.out W2 base Ao co p n0 hbase2 Ho2.out Hp.out (by omega)).mono ?_
    rintro e w3 ⟨A1, c1', rfl, hwr⟩
    have hnode3 := Hnode.out.grown hwr.grown Hr1.out
    have hbox3 := Hbox.out.grown hwr.grown Hr0.out
    have Hwr := Lib.hid hwr
    have Hnode3 := Lib.hid hnode3
    have d1 : w3.cell? ⟨w.heap.size + 1, 1, none⟩ = some (.int .i64 a) := hnode3.cell 1
    have e6 : w3.cell? ⟨w.heap.size, 6, none⟩ = some (.iface ty2 v2) := hbox3.cell 6
    have f1 := hnode3.free 1
    clear hwr hnode3 hbox3
    have hz3 := Hwr.out.grown.size
    have hs2' := Hs2.out
    obtain ⟨V, hV⟩ : ∃ V : Int, V = (n0 : Int) + (ta.size : Int) - 1 := ⟨_, rfl⟩
    have hst := grown_one (World.grownBy.refl w3 (some (w.heap.size + 1))) 1 (.int .i64 V)
    have Hne1 : Hid (rowOf A1 ≠ some (w.heap.size + 1)) := own_ne Ho.out (Nat.le_succ _) (by omega) Hwr.out.at_
    have HoS := Lib.hid (Hwr.out.own.grown hst (.inr Hne1.out))
    have HgS := Lib.hid (grown_of (grown_of (grown_below Hb2.out (rowOf Ao)) Hwr.out.grown (.inl rfl)) hst (.inr ⟨_, rfl, Nat.le_succ _⟩))
    have hzS : w3.heap.size = (w3.setCell ⟨w.heap.size + 1, 1, none⟩ (.int .i64 V)).heap.size := by simp [World.setCell]
    have HzS := Lib.hid hzS
    have Hq : Hid ((p ++ ta.put n0).length = n0 + ta.size) := by show (p ++ ta.put n0).length = n0 + ta.size; rw [List.length_append, T.put_len, Hp.out]
    have hbaseS : base ≤ (w3.setCell ⟨w.heap.size + 1, 1, none⟩ (.int .i64 V)).heap.size := by rw [← hzS]; omega
    have HbS := Lib.hid hbaseS
    have HnodeS := Lib.hid (Hnode3.out.set_ 1 (.int .i64 V))
    obtain ⟨WS, hWS⟩ : ∃ WS : World, WS = w3.setCell ⟨w.heap.size + 1, 1, none⟩ (.int .i64 V) := ⟨_, rfl⟩
    rw [← hWS] at HnodeS HoS HgS HzS HbS
    have HWS := Lib.hid hWS
    clear hWS
    subst hV
    clear hst hzS hbaseS
    go_wp2_with fail
    rw [← HWS.out]
    refine (Hi2.out WS base A1 c1' (p ++ ta.put n0) (n0 + ta.size) HbS.out HoS.out Hq.out (by omega)).mono ?_
    rintro e w4 ⟨A2, c2', rfl, hwr4⟩
    have hnode4 := HnodeS.out.grown hwr4.grown (Ne.symm Hne1.out)
    have Hwr4 := Lib.hid hwr4
    have g0 : w4.cell? ⟨w.heap.size + 1, 0, none⟩ = some (.int .i64 k) := hnode4.cell 0
    have g1 : w4.cell? ⟨w.heap.size + 1, 1, none⟩ = some (.int .i64 ((n0 : Int) + (ta.size : Int) - 1)) := hnode4.cell 1
    have g2 : w4.cell? ⟨w.heap.size + 1, 2, none⟩ = some (.int .i64 b2) := hnode4.cell 2
    have g3 : w4.cell? ⟨w.heap.size + 1, 3, none⟩ = some (.int .i64 n) := hnode4.cell 3
    have g4 : w4.cell? ⟨w.heap.size + 1, 4, none⟩ = some (.int .i64 m) := hnode4.cell 4
    have f2' := hnode4.free 2
    have hz4 := Hwr4.out.grown.size
    obtain ⟨V2, hV2⟩ : ∃ V2 : Int, V2 = (n0 : Int) + (ta.size : Int) + (tb.size : Int) - 1 := ⟨_, rfl⟩
    have hst2 := grown_one (World.grownBy.refl w4 (some (w.heap.size + 1))) 2 (.int .i64 V2)
    have hnbS : w.heap.size + 1 < WS.heap.size := HnodeS.out.lt
    have hne2 : rowOf A2 ≠ some (w.heap.size + 1) := by
      rcases Hwr4.out.at_ with e | ⟨g, e, hg⟩
      · rw [e]; exact Hne1.out
      · rw [e]; intro e2; have := Option.some.inj e2; omega
    have HoT := Lib.hid (Hwr4.out.own.grown hst2 (.inr hne2))
    have HgT := Lib.hid (grown_of (grown_of HgS.out Hwr4.out.grown (at_more (Hb2.out.size) Hwr.out.at_)) hst2 (.inr ⟨_, rfl, Nat.le_succ _⟩))
    have hzT : w4.heap.size = (w4.setCell ⟨w.heap.size + 1, 2, none⟩ (.int .i64 V2)).heap.size := by simp [World.setCell]
    have HzT := Lib.hid hzT
    have HbT : Hid (base ≤ (w4.setCell ⟨w.heap.size + 1, 2, none⟩ (.int .i64 V2)).heap.size) := by show base ≤ _; rw [← hzT]; have := HbS.out; omega
    have Hq2 : Hid ((p ++ ta.put n0 ++ tb.put (n0 + ta.size)).length = n0 + ta.size + tb.size) := by show (p ++ ta.put n0 ++ tb.put (n0 + ta.size)).length = _; rw [List.length_append, T.put_len, Hq.out]
    have HatT := Lib.hid (at_trans (Nat.le_trans Hb2.out.size (Nat.le_trans hz3 (Nat.le_of_eq HzS.out))) (at_more Hb2.out.size Hwr.out.at_) Hwr4.out.at_)
    subst hV2
    clear hst2 hzT hne2 hwr4 hnode4 d1 e6 f1
    go_wp2_with (at_builtin; refine wpList_append_node rfl _ _ rfl base A2 c2' (p ++ ta.put n0 ++ tb.put (n0 + ta.size)) ⟨k, (n0 : Int) + (ta.size : Int) - 1, (n0 : Int) + (ta.size : Int) + (tb.size : Int) - 1, n, m⟩ (n0 + ta.size + tb.size) Hq2.out rfl HoT.out _ rfl HzT.out (by omega) HbT.out ?_; intro A' c' w1 happ; have Happ := Lib.hid happ; clear happ)
    go_ret
    refine ⟨A', c', ret_slice (by simp only [T.size]; omega), ?_⟩
    have hfin := wrote_of HgT.out HatT.out Happ.out
    simp only [List.append_assoc] at hfin
    simpa only [T.put, List.append_assoc] using hfin

/-- The nodes of the tree of the node i, in order; none if the pipe is not valid. -/
structure OrdOf (l : List Nd) (ok : Bool) (i : Nat) (q : List Nd) : Prop where
  no : ok = false → q = []
  yes : ∀ {t : T}, ok = true → IsTree l i t → q = t.put 0

theorem own_nil (w : World) (base : Nat) : OwnN w base none 0 [] := World.ownsRow_nil w base _ 5

end Go.Proofs.Ytkjhncohanfciaa
