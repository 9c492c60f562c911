/- Contracts: the nodes of a tree, in order, behind others (the reference). -/
import Derived.Test.YtkjhncohanfciaaAppN
import Derived.Test.YtkjhncohanfciaaTree
import Derived.Deep.DeepMust
namespace Go.Proofs.Ytkjhncohanfciaa
open Go.RowKit

/-- How many nodes a tree has. -/
def T.size : T → Nat
  | .leaf _ => 1
  | .stem _ t => t.size + 1
  | .fork _ a b => a.size + b.size + 1
/-- The nodes of a tree in order, when n are ahead of them. -/
def T.put : T → Nat → List Nd
  | .leaf x, _ => [x]
  | .stem x t, n => t.put n ++ [⟨x.k, (n : Int) + (t.size : Int) - 1, x.b, x.n, x.m⟩]
  | .fork x a b, n => a.put n ++ b.put (n + a.size) ++ [⟨x.k, (n : Int) + (a.size : Int) - 1, (n : Int) + (a.size : Int) + (b.size : Int) - 1, x.n, x.m⟩]
theorem T.put_len (t : T) : ∀ n, (t.put n).length = t.size := by
  induction t with
  | leaf => intro n; rfl
  | stem x t ih => intro n; simp [T.put, T.size, ih]
  | fork x a b iha ihb => intro n; simp [T.put, T.size, iha, ihb]; omega
theorem T.size_pos (t : T) : 1 ≤ t.size := by cases t <;> simp [T.size]

/-- What is left when nodes were put behind those of a slice of the call's own. -/
structure Wrote (w w' : World) (base : Nat) (A A' : Option Addr) (c' : Nat) (q : List Nd) : Prop where
  own : OwnN w' base A' c' q
  grown : w.grownBy w' (rowOf A)
  at_ : rowOf A' = rowOf A ∨ ∃ g, rowOf A' = some g ∧ w.heap.size ≤ g

theorem OwnN.row_lt {w : World} {base c : Nat} {A : Option Addr} {l : List Nd} (h : OwnN w base A c l) : ∀ g, rowOf A = some g → base ≤ g ∧ g < w.heap.size := fun g hg => by
  have := World.ownsRow.lt h g (by rw [ownBlock_slice]; exact hg)
  exact this
theorem RdN.grown {w w' : World} {B base : Nat} {A Ao : Option Addr} {c : Nat} {l p : List Nd} (h : RdN w B A l) (ho : OwnN w base Ao c p) (hB : B ≤ base) (hz : base ≤ w.heap.size) (hg : w.grownBy w' (rowOf Ao)) : RdN w' B A l :=
  h.keep fun q hq => World.cell?_of_block (hg.block q.block (by omega) (fun e => by have := (ho.row_lt _ e.symm).1; omega))
theorem grown_of {a b c : World} {row row2 : Option Nat} (h : a.grownBy b row) (k : b.grownBy c row2) (hr : row2 = row ∨ ∃ g, row2 = some g ∧ a.heap.size ≤ g) : a.grownBy c row :=
  ⟨k.os.trans h.os, k.tape.trans h.tape, k.output.trans h.output, Nat.le_trans h.size k.size, fun j hj hne => (k.block j (Nat.lt_of_lt_of_le hj h.size) (by
    rcases hr with rfl | ⟨g, rfl, hg⟩
    · exact hne
    · intro e; have := Option.some.inj e; omega)).trans (h.block j hj hne)⟩
theorem grown_below {a b : World} (h : Below a.heap.size a b) (row : Option Nat) : a.grownBy b row := ⟨h.os, h.tape, h.output, h.size, fun j hj _ => h.block j hj⟩

theorem wrote_of {w W w1 : World} {base c' : Nat} {A A1 A' : Option Addr} {q : List Nd} {o : Obj} (h : w.grownBy W (rowOf A)) (hA : rowOf A1 = rowOf A ∨ ∃ g, rowOf A1 = some g ∧ w.heap.size ≤ g) (k : Appd (W.alloc o) w1 base A1 A' c' q) : Wrote w w1 base A A' c' q :=
  ⟨k.own, grown_of (grown_of h (World.grownBy_alloc _ _ (rowOf A)) (.inl rfl)) k.grown hA, by
    rcases k.at_ with e | e
    · rw [e]; exact hA
    · exact .inr ⟨_, e, by have := h.size; simp; omega⟩⟩
theorem own_ne {w W : World} {base c g : Nat} {A A1 : Option Addr} {p : List Nd} (ho : OwnN w base A c p) (hg : w.heap.size ≤ g) (hW : g < W.heap.size) (h : rowOf A1 = rowOf A ∨ ∃ g, rowOf A1 = some g ∧ W.heap.size ≤ g) : rowOf A1 ≠ some g := by
  rcases h with e | ⟨g2, e, h2⟩
  · intro e2
    have := (ho.row_lt g (e.symm.trans e2)).2
    omega
  · intro e2
    have := Option.some.inj (e.symm.trans e2)
    omega
theorem at_trans {w W : World} {A A1 A2 : Option Addr} (hz : w.heap.size ≤ W.heap.size) (h : rowOf A1 = rowOf A ∨ ∃ g, rowOf A1 = some g ∧ w.heap.size ≤ g) (k : rowOf A2 = rowOf A1 ∨ ∃ g, rowOf A2 = some g ∧ W.heap.size ≤ g) : rowOf A2 = rowOf A ∨ ∃ g, rowOf A2 = some g ∧ w.heap.size ≤ g := by
  rcases k with e | ⟨g, e, hg⟩
  · rw [e]; exact h
  · exact .inr ⟨g, e, by omega⟩
theorem at_more {w W : World} {A A1 : Option Addr} (hz : w.heap.size ≤ W.heap.size) (h : rowOf A1 = rowOf A ∨ ∃ g, rowOf A1 = some g ∧ W.heap.size ≤ g) : rowOf A1 = rowOf A ∨ ∃ g, rowOf A1 = some g ∧ w.heap.size ≤ g := at_trans hz (.inl rfl) h
theorem Bk.grown {w w' : World} {g : Nat} {t : TypeId} {cs : List Value} {row : Option Nat} (h : Bk w g t cs) (hg : w.grownBy w' row) (hne : some g ≠ row) : Bk w' g t cs := (hg.block g h.lt hne).trans h

theorem ret_slice {A : Option Addr} {n m c : Nat} (h : n = m) : Ending.returned (.slice A n c) = .returned (.slice A m c) := by rw [h]

set_option maxHeartbeats 6400000 in
theorem post_any {l : List Nd} {i : Nat} {t : T} (ht : IsTree l i t) : ∀ (A : Option Addr) (c : Nat) (w : World) (B base : Nat) (Ao : Option Addr) (co : Nat) (p : List Nd) (n0 : Nat), RdN w B A l → B ≤ base → base ≤ w.heap.size → OwnN w base Ao co p → p.length = n0 → n0 + t.size ≤ 1048576 → l.length ≤ 1048576 →
    Calls Try.prog 70 #[.agg #[.slice A l.length c], .int .i64 i, .slice Ao n0 co] w fun e w' => ∃ A' c', e = .returned (.slice A' (n0 + t.size) c') ∧ Wrote w w' base Ao A' c' (p ++ t.put n0) := by
  induction ht with
  | @leaf i x hx ha h1 h2 =>
    intro A c w B base Ao co p n0 h hB hbase ho hp hsz hn
    simp only [T.size] at hsz
    have hlt : i < l.length := (List.getElem?_eq_some_iff.1 hx).1
    have hb0 := (Below.refl w.heap.size w).alloc (Nat.le_refl _) (.cells #[.slice A l.length c] 32)
    obtain ⟨b, o, y, rfl, hbB, hy, hc⟩ := (h.below hb0 (by omega)).at_ hlt
    obtain rfl := Option.some.inj (hx.symm.trans hy)
    obtain ⟨c0, c1, c2, c3, c4⟩ := hc
    obtain ⟨k, a, b2, n, m⟩ := x
    simp only at h1 h2 c0 c1 c2 c3 c4
    subst h1 h2
    have hb2 := hb0.alloc (by simp) (.cells #[.int .i64 k, .int .i64 (-1), .int .i64 (-1), .int .i64 n, .int .i64 m] 69)
    have Hb2 := Lib.hid hb2
    have Ho2 := Lib.hid (ho.below hb2 (Nat.le_refl _))
    have Hp := Lib.hid hp
    clear hx hy ha h ho hb0 hb2 hp
    go_enter Try.func70, Try.ntmps70
    go_wp2_with (at_builtin; refine wpList_append_node rfl _ _ rfl base Ao co p ⟨k, -1, -1, n, m⟩ n0 Hp.out rfl Ho2.out _ rfl (by simp) (by omega) (by simp; omega) ?_; intro A' c' w1 happ; have Happ := Lib.hid happ; clear happ)
    go_ret
    exact ⟨A', c', rfl, wrote_of (grown_below Hb2.out _) (.inl rfl) Happ.out⟩
  | @stem i j x t hx ha h1 hj h2 ht ih =>
    intro A c w B base Ao co p n0 h hB hbase ho hp hsz hn
    simp only [T.size] at hsz
    have hlt : i < l.length := (List.getElem?_eq_some_iff.1 hx).1
    have hb0 := (Below.refl w.heap.size w).alloc (Nat.le_refl _) (.cells #[.slice A l.length c] 32)
    obtain ⟨b, o, y, rfl, hbB, hy, hc⟩ := (h.below hb0 (by omega)).at_ hlt
    obtain rfl := Option.some.inj (hx.symm.trans hy)
    obtain ⟨c0, c1, c2, c3, c4⟩ := hc
    obtain ⟨k, a, b2, n, m⟩ := x
    simp only at h1 h2 c0 c1 c2 c3 c4
    subst h1 h2
    have Hi := Lib.hid (fun W' B' base' Ao' co' p' n' hr h1 h2 h3 h4 h5 => ih (some ⟨b, o, none⟩) c W' B' base' Ao' co' p' n' hr h1 h2 h3 h4 h5 hn)
    obtain ⟨W2, hW2⟩ : ∃ W2 : World, W2 = (w.alloc (.cells #[.slice (some ⟨b, o, none⟩) l.length c] 32)).alloc (.cells #[.int .i64 k, .int .i64 (j : Int), .int .i64 (-1), .int .i64 n, .int .i64 m] 69) := ⟨_, rfl⟩
    have hb2 : Below w.heap.size w W2 := by rw [hW2]; exact ((Below.refl _ _).alloc (Nat.le_refl _) _).alloc (by simp) _
    have hs2 : W2.heap.size = w.heap.size + 2 := by rw [hW2]; simp
    have hbox : Bk W2 w.heap.size 32 [.slice (some ⟨b, o, none⟩) l.length c] := by rw [hW2]; exact (Bk.new _ _ [_]).alloc _
    have hnode : Bk W2 (w.heap.size + 1) 69 [.int .i64 k, .int .i64 (j : Int), .int .i64 (-1), .int .i64 n, .int .i64 m] := by
      rw [hW2]
      have := Bk.new (w.alloc (.cells #[.slice (some ⟨b, o, none⟩) l.length c] 32)) 69 [.int .i64 k, .int .i64 (j : Int), .int .i64 (-1), .int .i64 n, .int .i64 m]
      simpa using this
    have ho2 := ho.below hb2 (Nat.le_refl _)
    have HW2 := Lib.hid hW2
    have Hb2 := Lib.hid hb2
    have Hbox := Lib.hid hbox
    have Hnode := Lib.hid hnode
    have Ho := Lib.hid ho
    have Ho2 := Lib.hid ho2
    have Hh2 := Lib.hid (h.below hb2 (by omega))
    have Hs2 := Lib.hid hs2
    have Hp := Lib.hid hp
    have hrow1 : rowOf Ao ≠ some (w.heap.size + 1) := fun e => by have := (ho.row_lt _ e).2; omega
    have hrow0 : rowOf Ao ≠ some w.heap.size := fun e => by have := (ho.row_lt _ e).2; omega
    have Hr1 : Hid (some (w.heap.size + 1) ≠ rowOf Ao) := Ne.symm hrow1
    have Hr0 : Hid (some w.heap.size ≠ rowOf Ao) := Ne.symm hrow0
    have hbase2 : base ≤ W2.heap.size := by omega
    clear hx hy ha h hb0 ih ht hW2 hb2 hbox hnode ho ho2 hs2 hp hrow1 hrow0
    go_enter Try.func70, Try.ntmps70
    go_wp2_with fail
    rw [← HW2.out]
    refine (Hi.out W2 B base Ao co p n0 Hh2.out hB hbase2 Ho2.out Hp.out (by omega)).mono ?_
    rintro e w3 ⟨A1, c1', rfl, hwr⟩
    have hnode3 := Hnode.out.grown hwr.grown Hr1.out
    have Hwr := Lib.hid hwr
    have Hnode3 := Lib.hid hnode3
    have d0 : w3.cell? ⟨w.heap.size + 1, 0, none⟩ = some (.int .i64 k) := hnode3.cell 0
    have d1 : w3.cell? ⟨w.heap.size + 1, 1, none⟩ = some (.int .i64 (j : Int)) := hnode3.cell 1
    have d2 : w3.cell? ⟨w.heap.size + 1, 2, none⟩ = some (.int .i64 (-1)) := hnode3.cell 2
    have d3 : w3.cell? ⟨w.heap.size + 1, 3, none⟩ = some (.int .i64 n) := hnode3.cell 3
    have d4 : w3.cell? ⟨w.heap.size + 1, 4, none⟩ = some (.int .i64 m) := hnode3.cell 4
    have f1 := hnode3.free 1
    clear hwr hnode3
    have hz3 := Hwr.out.grown.size
    have hs2' := Hs2.out
    obtain ⟨V, hV⟩ : ∃ V : Int, V = (n0 : Int) + (t.size : Int) - 1 := ⟨_, rfl⟩
    have hst := grown_one (World.grownBy.refl w3 (some (w.heap.size + 1))) 1 (.int .i64 V)
    have Hne1 : Hid (rowOf A1 ≠ some (w.heap.size + 1)) := own_ne Ho.out (Nat.le_succ _) (by omega) Hwr.out.at_
    have HoS := Lib.hid (Hwr.out.own.grown hst (.inr Hne1.out))
    have HgS := Lib.hid (grown_of (grown_of (grown_below Hb2.out (rowOf Ao)) Hwr.out.grown (.inl rfl)) hst (.inr ⟨_, rfl, Nat.le_succ _⟩))
    have hzS : w3.heap.size = (w3.setCell ⟨w.heap.size + 1, 1, none⟩ (.int .i64 V)).heap.size := by simp [World.setCell]
    have HzS := Lib.hid hzS
    have Hq : Hid ((p ++ t.put n0).length = n0 + t.size) := by show (p ++ t.put n0).length = n0 + t.size; rw [List.length_append, T.put_len, Hp.out]
    have hbaseS : base ≤ (w3.setCell ⟨w.heap.size + 1, 1, none⟩ (.int .i64 V)).heap.size := by rw [← hzS]; omega
    have HbS := Lib.hid hbaseS
    subst hV
    clear hst hzS hbaseS
    go_wp2_with (at_builtin; refine wpList_append_node rfl _ _ rfl base A1 c1' (p ++ t.put n0) ⟨k, (n0 : Int) + (t.size : Int) - 1, -1, n, m⟩ (n0 + t.size) Hq.out rfl HoS.out _ rfl HzS.out (by omega) HbS.out ?_; intro A' c' w1 happ; have Happ := Lib.hid happ; clear happ)
    go_ret
    refine ⟨A', c', ret_slice (by simp only [T.size]; omega), ?_⟩
    have hfin := wrote_of HgS.out (at_more Hb2.out.size Hwr.out.at_) Happ.out
    rw [List.append_assoc] at hfin
    exact hfin
  | @fork i j j2 x ta tb hx ha h1 hj h2 hj2 hta htb iha ihb =>
    intro A c w B base Ao co p n0 h hB hbase ho hp hsz hn
    simp only [T.size] at hsz
    have hlt : i < l.length := (List.getElem?_eq_some_iff.1 hx).1
    have hb0 := (Below.refl w.heap.size w).alloc (Nat.le_refl _) (.cells #[.slice A l.length c] 32)
    obtain ⟨b, o, y, rfl, hbB, hy, hc⟩ := (h.below hb0 (by omega)).at_ hlt
    obtain rfl := Option.some.inj (hx.symm.trans hy)
    obtain ⟨c0, c1, c2, c3, c4⟩ := hc
    obtain ⟨k, a, b2, n, m⟩ := x
    simp only at h1 h2 c0 c1 c2 c3 c4
    subst h1 h2
    have Hi := Lib.hid (fun W' B' base' Ao' co' p' n' hr h1 h2 h3 h4 h5 => iha (some ⟨b, o, none⟩) c W' B' base' Ao' co' p' n' hr h1 h2 h3 h4 h5 hn)
    have Hi2 := Lib.hid (fun W' B' base' Ao' co' p' n' hr h1 h2 h3 h4 h5 => ihb (some ⟨b, o, none⟩) c W' B' base' Ao' co' p' n' hr h1 h2 h3 h4 h5 hn)
    obtain ⟨W2, hW2⟩ : ∃ W2 : World, W2 = (w.alloc (.cells #[.slice (some ⟨b, o, none⟩) l.length c] 32)).alloc (.cells #[.int .i64 k, .int .i64 (j : Int), .int .i64 (j2 : Int), .int .i64 n, .int .i64 m] 69) := ⟨_, rfl⟩
    have hb2 : Below w.heap.size w W2 := by rw [hW2]; exact ((Below.refl _ _).alloc (Nat.le_refl _) _).alloc (by simp) _
    have hs2 : W2.heap.size = w.heap.size + 2 := by rw [hW2]; simp
    have hbox : Bk W2 w.heap.size 32 [.slice (some ⟨b, o, none⟩) l.length c] := by rw [hW2]; exact (Bk.new _ _ [_]).alloc _
    have hnode : Bk W2 (w.heap.size + 1) 69 [.int .i64 k, .int .i64 (j : Int), .int .i64 (j2 : Int), .int .i64 n, .int .i64 m] := by
      rw [hW2]
      have := Bk.new (w.alloc (.cells #[.slice (some ⟨b, o, none⟩) l.length c] 32)) 69 [.int .i64 k, .int .i64 (j : Int), .int .i64 (j2 : Int), .int .i64 n, .int .i64 m]
      simpa using this
    have ho2 := ho.below hb2 (Nat.le_refl _)
    have HW2 := Lib.hid hW2
    have Hb2 := Lib.hid hb2
    have Hbox := Lib.hid hbox
    have Hnode := Lib.hid hnode
    have Ho := Lib.hid ho
    have Ho2 := Lib.hid ho2
    have Hh2 := Lib.hid (h.below hb2 (by omega))
    have Hs2 := Lib.hid hs2
    have Hp := Lib.hid hp
    have hrow1 : rowOf Ao ≠ some (w.heap.size + 1) := fun e => by have := (ho.row_lt _ e).2; omega
    have hrow0 : rowOf Ao ≠ some w.heap.size := fun e => by have := (ho.row_lt _ e).2; omega
    have Hr1 : Hid (some (w.heap.size + 1) ≠ rowOf Ao) := Ne.symm hrow1
    have Hr0 : Hid (some w.heap.size ≠ rowOf Ao) := Ne.symm hrow0
    have hbase2 : base ≤ W2.heap.size := by omega
    clear hx hy ha h hb0 iha ihb hta htb hW2 hb2 hbox hnode ho ho2 hs2 hp hrow1 hrow0
    go_enter Try.func70, Try.ntmps70
    go_wp2_with fail
    rw [← HW2.out]
    refine (Hi.out W2 B base Ao co p n0 Hh2.out hB hbase2 Ho2.out Hp.out (by omega)).mono ?_
    rintro e w3 ⟨A1, c1', rfl, hwr⟩
    have hnode3 := Hnode.out.grown hwr.grown Hr1.out
    have hbox3 := Hbox.out.grown hwr.grown Hr0.out
    have Hwr := Lib.hid hwr
    have Hnode3 := Lib.hid hnode3
    have Hbox3 := Lib.hid hbox3
    have Hh3 := Lib.hid (Hh2.out.grown Ho2.out hB hbase2 hwr.grown)
    have d0 : w3.cell? ⟨w.heap.size + 1, 0, none⟩ = some (.int .i64 k) := hnode3.cell 0
    have d1 : w3.cell? ⟨w.heap.size + 1, 1, none⟩ = some (.int .i64 (j : Int)) := hnode3.cell 1
    have d2 : w3.cell? ⟨w.heap.size + 1, 2, none⟩ = some (.int .i64 (j2 : Int)) := hnode3.cell 2
    have e0 : w3.cell? ⟨w.heap.size, 0, none⟩ = some (.slice (some ⟨b, o, none⟩) l.length c) := hbox3.cell 0
    have f1 := hnode3.free 1
    clear hwr hnode3 hbox3
    have hz3 := Hwr.out.grown.size
    have hs2' := Hs2.out
    obtain ⟨V, hV⟩ : ∃ V : Int, V = (n0 : Int) + (ta.size : Int) - 1 := ⟨_, rfl⟩
    have hst := grown_one (World.grownBy.refl w3 (some (w.heap.size + 1))) 1 (.int .i64 V)
    have Hne1 : Hid (rowOf A1 ≠ some (w.heap.size + 1)) := own_ne Ho.out (Nat.le_succ _) (by omega) Hwr.out.at_
    have HoS := Lib.hid (Hwr.out.own.grown hst (.inr Hne1.out))
    have HgS := Lib.hid (grown_of (grown_of (grown_below Hb2.out (rowOf Ao)) Hwr.out.grown (.inl rfl)) hst (.inr ⟨_, rfl, Nat.le_succ _⟩))
    have hzS : w3.heap.size = (w3.setCell ⟨w.heap.size + 1, 1, none⟩ (.int .i64 V)).heap.size := by simp [World.setCell]
    have HzS := Lib.hid hzS
    have Hq : Hid ((p ++ ta.put n0).length = n0 + ta.size) := by show (p ++ ta.put n0).length = n0 + ta.size; rw [List.length_append, T.put_len, Hp.out]
    have hbaseS : base ≤ (w3.setCell ⟨w.heap.size + 1, 1, none⟩ (.int .i64 V)).heap.size := by rw [← hzS]; omega
    have HbS := Lib.hid hbaseS
    have hnodeS := Hnode3.out.set_ 1 (.int .i64 V)
    have hboxS := Hbox3.out.far (p := ⟨w.heap.size + 1, 1, none⟩) (Nat.ne_of_lt (Nat.lt_succ_self _)) (.int .i64 V)
    have HnodeS := Lib.hid hnodeS
    have HhS := Lib.hid (Hh3.out.keep (w' := w3.setCell ⟨w.heap.size + 1, 1, none⟩ (.int .i64 V)) (fun q hq => World.cell?_setCell_other _ _ _ _ (fun e => by subst e; simp at hq; omega)))
    obtain ⟨WS, hWS⟩ : ∃ WS : World, WS = w3.setCell ⟨w.heap.size + 1, 1, none⟩ (.int .i64 V) := ⟨_, rfl⟩
    rw [← hWS] at hnodeS hboxS HnodeS HhS HoS HgS HzS HbS
    have HWS := Lib.hid hWS
    clear hWS hnodeS hboxS
    subst hV
    clear hst hzS hbaseS
    go_wp2_with fail
    rw [← HWS.out]
    refine (Hi2.out WS B base A1 c1' (p ++ ta.put n0) (n0 + ta.size) HhS.out hB HbS.out HoS.out Hq.out (by omega)).mono ?_
    rintro e w4 ⟨A2, c2', rfl, hwr4⟩
    have hnode4 := HnodeS.out.grown hwr4.grown (Ne.symm Hne1.out)
    have Hwr4 := Lib.hid hwr4
    have g0 : w4.cell? ⟨w.heap.size + 1, 0, none⟩ = some (.int .i64 k) := hnode4.cell 0
    have g1 : w4.cell? ⟨w.heap.size + 1, 1, none⟩ = some (.int .i64 ((n0 : Int) + (ta.size : Int) - 1)) := hnode4.cell 1
    have g2 : w4.cell? ⟨w.heap.size + 1, 2, none⟩ = some (.int .i64 (j2 : Int)) := hnode4.cell 2
    have g3 : w4.cell? ⟨w.heap.size + 1, 3, none⟩ = some (.int .i64 n) := hnode4.cell 3
    have g4 : w4.cell? ⟨w.heap.size + 1, 4, none⟩ = some (.int .i64 m) := hnode4.cell 4
    have f2 := hnode4.free 2
    have hz4 := Hwr4.out.grown.size
    obtain ⟨V2, hV2⟩ : ∃ V2 : Int, V2 = (n0 : Int) + (ta.size : Int) + (tb.size : Int) - 1 := ⟨_, rfl⟩
    have hst2 := grown_one (World.grownBy.refl w4 (some (w.heap.size + 1))) 2 (.int .i64 V2)
    have hnbS : w.heap.size + 1 < WS.heap.size := HnodeS.out.lt
    have hne2 : rowOf A2 ≠ some (w.heap.size + 1) := by
      rcases Hwr4.out.at_ with e | ⟨g, e, hg⟩
      · rw [e]; exact Hne1.out
      · rw [e]; intro e2; have := Option.some.inj e2; omega
    have HoT := Lib.hid (Hwr4.out.own.grown hst2 (.inr hne2))
    have HgT := Lib.hid (grown_of (grown_of HgS.out Hwr4.out.grown (at_more (Hb2.out.size) Hwr.out.at_)) hst2 (.inr ⟨_, rfl, Nat.le_succ _⟩))
    have hzT : w4.heap.size = (w4.setCell ⟨w.heap.size + 1, 2, none⟩ (.int .i64 V2)).heap.size := by simp [World.setCell]
    have HzT := Lib.hid hzT
    have HbT : Hid (base ≤ (w4.setCell ⟨w.heap.size + 1, 2, none⟩ (.int .i64 V2)).heap.size) := by show base ≤ _; rw [← hzT]; have := HbS.out; omega
    have Hq2 : Hid ((p ++ ta.put n0 ++ tb.put (n0 + ta.size)).length = n0 + ta.size + tb.size) := by show (p ++ ta.put n0 ++ tb.put (n0 + ta.size)).length = _; rw [List.length_append, T.put_len, Hq.out]
    have HatT := Lib.hid (at_trans (Nat.le_trans Hb2.out.size (Nat.le_trans hz3 (Nat.le_of_eq HzS.out))) (at_more Hb2.out.size Hwr.out.at_) Hwr4.out.at_)
    subst hV2
    clear hst2 hzT hne2 hwr4 hnode4 d0 d1 d2 e0 f1
    go_wp2_with (at_builtin; refine wpList_append_node rfl _ _ rfl base A2 c2' (p ++ ta.put n0 ++ tb.put (n0 + ta.size)) ⟨k, (n0 : Int) + (ta.size : Int) - 1, (n0 : Int) + (ta.size : Int) + (tb.size : Int) - 1, n, m⟩ (n0 + ta.size + tb.size) Hq2.out rfl HoT.out _ rfl HzT.out (by omega) HbT.out ?_; intro A' c' w1 happ; have Happ := Lib.hid happ; clear happ)
    go_ret
    refine ⟨A', c', ret_slice (by simp only [T.size]; omega), ?_⟩
    have hfin := wrote_of HgT.out HatT.out Happ.out
    simp only [List.append_assoc] at hfin
    simpa only [T.put, List.append_assoc] using hfin

end Go.Proofs.Ytkjhncohanfciaa
