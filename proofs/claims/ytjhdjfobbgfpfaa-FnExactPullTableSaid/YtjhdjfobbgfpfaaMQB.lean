/- Texts on the program and its reference, put together (Own, Held, AppN, PipeM, PipeP, Tree, Post, PB, PX). -/
import Derived.Test.YtjhdjfobbgfpfaaMQA
import Derived.Laws.OwnMore
import Derived.Laws.AppendOwn
import Derived.OwnWalk
import Derived.Deep.DeepMust
/- Slices of nodes that the call itself made; the functions that write marks into them and read the marks again. -/
namespace Go.Proofs.Ytjhdjfobbgfpfaa
open Go.RowKit

/-- The slice at A holds the nodes l in memory from block base on, which can be written. -/
def OwnN (w : World) (base : Nat) (A : Option Addr) (c : Nat) (l : List Nd) : Prop := w.ownsRow base 104 5 (.slice A l.length c) l.length (nds l)

/-- The block of a slice. -/
def rowOf (A : Option Addr) : Option Nat := A.map (·.block)
theorem ownBlock_slice (A : Option Addr) (n c : Nat) : (Value.slice A n c).ownBlock = rowOf A := by cases A <;> rfl

section
variable {w w' : World} {base c : Nat} {A : Option Addr} {l : List Nd}
theorem OwnN.form (h : OwnN w base A c l) (hl : 0 < l.length) : ∃ g, A = some ⟨g, 0, none⟩ ∧ base ≤ g ∧ g < w.heap.size := by
  obtain ⟨_, ⟨_, h0⟩ | ⟨g, cap, cur, hv, hb, hh, _⟩⟩ := h
  · omega
  · injection hv with hA
    exact ⟨g, hA, hb, lt_of_block hh⟩
theorem OwnN.rd (h : OwnN w base A c l) : RdN w w.heap.size A l := fun hn => by
  obtain ⟨g, rfl, _, hlt⟩ := h.form hn
  refine ⟨g, 0, rfl, hlt, fun k x hx => ?_⟩
  obtain ⟨h0, h1, h2, h3, h4⟩ := nds_at hx
  have hk : k < l.length := (List.getElem?_eq_some_iff.1 hx).1
  rw [Nat.zero_add]
  have hc : ∀ j, j < l.length * 5 → w.cell? ⟨g, j, none⟩ = (nds l)[j]? := fun j hj => World.ownsRow.cellAt h j hj
  exact ⟨(hc _ (by omega)).trans h0, (hc _ (by omega)).trans h1, (hc _ (by omega)).trans h2, (hc _ (by omega)).trans h3, (hc _ (by omega)).trans h4⟩
theorem OwnN.grown {row : Option Nat} (h : OwnN w base A c l) (hg : w.grownBy w' row) (hne : rowOf A = none ∨ rowOf A ≠ row) : OwnN w' base A c l :=
  World.ownsRow.kept h hg (by rw [ownBlock_slice]; exact hne)
theorem OwnN.below {C : Nat} (h : OwnN w base A c l) (hb : Below C w w') (hC : w.heap.size ≤ C) : OwnN w' base A c l :=
  h.grown (row := none) ⟨hb.os, hb.tape, hb.output, Nat.le_trans (Nat.le_refl _) hb.size, fun k hk _ => hb.block k (by omega)⟩ (by cases A <;> simp [rowOf])
theorem OwnN.drewN (h : OwnN w base A c l) (n : Nat) : OwnN (w.drewN n) base A c l := h
theorem OwnN.base_ {b2 : Nat} (h : OwnN w base A c l) (hb : b2 ≤ base) : OwnN w b2 A c l := by
  obtain ⟨h1, h2 | ⟨g, cap, cur, hv, hg, hh⟩⟩ := h
  · exact ⟨h1, .inl h2⟩
  · exact ⟨h1, .inr ⟨g, cap, cur, hv, by omega, hh⟩⟩
theorem Bk.own {g : Nat} (h : Bk w g 104 (nds l)) (hb : base ≤ g) (hl : l.length ≤ 1048576) : OwnN w base (some ⟨g, 0, none⟩) l.length l :=
  ⟨nds_len l, .inr ⟨g, l.length, (nds l).toArray, rfl, hb, h, Nat.le_refl _, by unfold maxLen; omega, by simp [nds_len], by simp [← nds_len]⟩⟩
end

/-- n marked nodes, the first number of which is k. -/
def mkN (n : Nat) (k : Int) : List Nd := (List.range n).map fun i : Nat => ⟨k + 5 * i, k + 5 * i + 1, k + 5 * i + 2, k + 5 * i + 3, k + 5 * i + 4⟩
theorem mkN_len (n : Nat) (k : Int) : (mkN n k).length = n := by simp [mkN]
theorem mkN_get {n : Nat} {k : Int} {i : Nat} (h : i < n) : (mkN n k)[i]? = some ⟨k + 5 * i, k + 5 * i + 1, k + 5 * i + 2, k + 5 * i + 3, k + 5 * i + 4⟩ := by simp [mkN, h]
theorem mkN_succ (n : Nat) (k : Int) : mkN (n + 1) k = mkN n k ++ [⟨k + 5 * n, k + 5 * n + 1, k + 5 * n + 2, k + 5 * n + 3, k + 5 * n + 4⟩] := by simp [mkN, List.range_succ]
theorem mark_step {l : List Nd} {k : Int} {j : Nat} (hj : j < l.length) : (mkN j k ++ l.drop j).set j ⟨k + 5 * j, k + 5 * j + 1, k + 5 * j + 2, k + 5 * j + 3, k + 5 * j + 4⟩ = mkN (j + 1) k ++ l.drop (j + 1) := by
  rw [List.set_append_right _ _ (by rw [mkN_len]; omega), mkN_len, Nat.sub_self, mkN_succ]
  cases h : l.drop j with
  | nil => have := congrArg List.length h; simp at this; omega
  | cons x r =>
    have : l.drop (j + 1) = r := by rw [← List.drop_drop, h]; rfl
    rw [this]
    simp

theorem own_set5 {w : World} {base g c n k : Nat} {l : List Nd} (h : w.ownsRow base 104 5 (.slice (some ⟨g, 0, none⟩) n c) n (nds l)) (x : Nd) (hk : k < l.length) :
    (((((w.setCell ⟨g, k * 5, none⟩ (.int .i64 x.k)).setCell ⟨g, k * 5 + 1, none⟩ (.int .i64 x.a)).setCell ⟨g, k * 5 + 2, none⟩ (.int .i64 x.b)).setCell ⟨g, k * 5 + 3, none⟩ (.int .i64 x.n)).setCell ⟨g, k * 5 + 4, none⟩ (.int .i64 x.m)).ownsRow base 104 5 (.slice (some ⟨g, 0, none⟩) n c) n (nds (l.set k x)) := by
  rw [← nds_set x hk]
  exact (((((h.stored _ _).1.stored _ _).1.stored _ _).1.stored _ _).1.stored _ _).1
theorem grown_one {a w : World} {g : Nat} (h : a.grownBy w (some g)) (i : Nat) (u : Value) : a.grownBy (w.setCell ⟨g, i, none⟩ u) (some g) :=
  ⟨h.os, h.tape, h.output, by simpa [World.setCell] using h.size, fun j hj hne => (Below.heap_setCell w ⟨g, i, none⟩ u j (by rintro rfl; exact hne rfl)).trans (h.block j hj hne)⟩

set_option maxHeartbeats 3200000 in
theorem markNodeS_any (A : Option Addr) (c : Nat) (l : List Nd) (k : Int) (w : World) (base : Nat) (h : OwnN w base A c l) (hn : l.length ≤ 1048576) (hk0 : 0 ≤ k) (hk1 : k ≤ 16777216) :
    Calls Try.prog 62 #[.slice A l.length c, .int .i64 k] w fun e w' => e = .returned (.int .i64 (k + 5 * l.length)) ∧ OwnN w' base A c (mkN l.length k) ∧ w.grownBy w' (rowOf A) := by
  by_cases hl : 0 < l.length
  · obtain ⟨g, rfl, hbg, hgl⟩ := h.form hl
    obtain ⟨n, hnl⟩ : ∃ n : Nat, n = l.length := ⟨_, rfl⟩
    have H0 : Hid (w.ownsRow base 104 5 (.slice (some ⟨g, 0, none⟩) n c) n (nds l)) := by rw [hnl]; exact h
    have Hn := Lib.hid hnl
    rw [← hnl]
    have hn2 : n ≤ 1048576 := by omega
    clear h hnl hl hn
    go_enter Try.func62, Try.ntmps62
    go_wp2
    go_loopw [1, 5] (fun s i wr => ∃ j : Nat, j ≤ n ∧ i = .int .i64 j ∧ (∃ m : Int, m = k + 5 * j ∧ s = .int .i64 m) ∧ wr.ownsRow base 104 5 (.slice (some ⟨g, 0, none⟩) n c) n (nds (mkN j k ++ l.drop j)) ∧ w.grownBy wr (some g)) (fun _ i _ => n - (intOf i).toNat)
    case atStart => exact ⟨0, Nat.zero_le _, rfl, ⟨k, by simp, rfl⟩, by simpa [mkN] using H0.out, World.grownBy.refl _ _⟩
    case round =>
      obtain ⟨j, hj, rfl, ⟨m, hm, rfl⟩, ho, hg⟩ := hrel
      have hm0 : 0 ≤ m := by omega
      have hm1 : m ≤ 33554432 := by omega
      by_cases hlt : j < n
      · have hlen : (nds (mkN j k ++ l.drop j)).length = n * 5 := ho.1
        have cells : ∀ i, i < n * 5 → ∃ u, wr.cell? ⟨g, i, none⟩ = some u := fun i hi => by rw [ho.cellAt i hi]; exact get_of_lt _ (by omega)
        obtain ⟨u0, e0⟩ := cells (j * 5) (by omega)
        obtain ⟨u1, e1⟩ := cells (j * 5 + 1) (by omega)
        obtain ⟨u2, e2⟩ := cells (j * 5 + 2) (by omega)
        obtain ⟨u3, e3⟩ := cells (j * 5 + 3) (by omega)
        obtain ⟨u4, e4⟩ := cells (j * 5 + 4) (by omega)
        have f0 := ho.frozenAt (j * 5)
        have f1 := ho.frozenAt (j * 5 + 1)
        have f2 := ho.frozenAt (j * 5 + 2)
        have f3 := ho.frozenAt (j * 5 + 3)
        have f4 := ho.frozenAt (j * 5 + 4)
        have Ho := Lib.hid ho
        have Hg := Lib.hid hg
        have Hm := Lib.hid hm
        clear ho hg hm cells hlen
        go_wp2
        go_roundw
        case rel =>
          refine ⟨j + 1, by omega, by go_num, ⟨_, by rw [Hm.out]; omega, rfl⟩, ?_, grown_one (grown_one (grown_one (grown_one (grown_one Hg.out _ _) _ _) _ _) _ _) _ _⟩
          have hjl : j < l.length := by rw [← Hn.out]; exact hlt
          rw [← mark_step hjl]
          have := own_set5 Ho.out ⟨k + 5 * j, k + 5 * j + 1, k + 5 * j + 2, k + 5 * j + 3, k + 5 * j + 4⟩ (by rw [List.length_append, mkN_len, List.length_drop]; omega : j < _)
          simpa [Hm.out, Int.add_assoc] using this
        case measure => simp [intOf]; omega
      · obtain rfl : j = n := by omega
        have Ho : Hid (OwnN wr base (some ⟨g, 0, none⟩) c (mkN j k)) := by
          unfold OwnN
          rw [mkN_len]
          have : mkN j k ++ l.drop j = mkN j k := by rw [Hn.out]; simp
          rw [this] at ho
          exact ho
        have Hg := Lib.hid hg
        have Hm := Lib.hid hm
        clear ho hg hm
        go_wp2
        go_ret
        exact ⟨ret_int (by rw [Hm.out]), Ho.out, Hg.out⟩
  · have hl0 : l = [] := List.eq_nil_of_length_eq_zero (by omega)
    subst hl0
    have H0 := Lib.hid h
    clear h
    go_enter Try.func62, Try.ntmps62
    go_wp2
    refine wp_loop_rounds 1 ?_
    rw [rounds_succ]
    go_wp2
    go_ret
    exact ⟨by simp, by simpa [mkN] using H0.out, World.grownBy.refl _ _⟩

end Go.Proofs.Ytjhdjfobbgfpfaa

/- Contracts: marks in nodes are read again; marks in pipes. -/
namespace Go.Proofs.Ytjhdjfobbgfpfaa
open Go.RowKit

set_option maxHeartbeats 800000 in
theorem markPipe_any (A : Option Addr) (c : Nat) (l : List Nd) (k : Int) (w : World) (base : Nat) (h : OwnN w base A c l) (hn : l.length ≤ 1048576) (hk0 : 0 ≤ k) (hk1 : k ≤ 16777216) :
    Calls Try.prog 23 #[.agg #[.slice A l.length c], .int .i64 k] w fun e w' => e = .returned (.int .i64 (k + 5 * l.length)) ∧ OwnN w' base A c (mkN l.length k) ∧ w.grownBy w' (rowOf A) := by
  have hb0 := (Below.refl w.heap.size w).alloc (Nat.le_refl _) (.cells #[.slice A l.length c] 32)
  have Hh := Lib.hid (h.below hb0 (Nat.le_refl _))
  have Hb0 := Lib.hid (World.grownBy_alloc w (.cells #[.slice A l.length c] 32) (rowOf A))
  clear h hb0
  go_enter Try.func23, Try.ntmps23
  go_wp2_with fail
  refine (markNodeS_any A c l k _ base Hh.out hn hk0 hk1).mono ?_
  rintro e w1 ⟨rfl, ho, hg⟩
  have Ho := Lib.hid ho
  have Hg := Lib.hid hg
  clear ho hg
  go_wp2_with fail
  go_ret
  exact ⟨rfl, Ho.out, ⟨Hg.out.os.trans Hb0.out.os, Hg.out.tape.trans Hb0.out.tape, Hg.out.output.trans Hb0.out.output, Nat.le_trans Hb0.out.size Hg.out.size, fun j hj hne => (Hg.out.block j (Nat.lt_of_lt_of_le hj Hb0.out.size) hne).trans (Hb0.out.block j hj hne)⟩⟩

end Go.Proofs.Ytjhdjfobbgfpfaa

/- A node is appended to a slice of nodes of the call's own: what is there afterwards, and where. -/
namespace Go.Proofs.Ytjhdjfobbgfpfaa
open Go.RowKit

section
variable {P : Program} (w : World)
/-- An append lands in the old block or in the next new one. -/
theorem append_where {base : Nat} {t ty e : TypeId} {i : TypeInfo} {z : Value} {size bytes : Nat} (ht : P.underlying t = some (.slice e)) (hi : P.info? e = some i) (hz : i.zero = some z) (hsize : i.size = size) (hby : i.bytes = bytes)
    {v : Value} {n : Nat} {xs : List Value} (hown : w.ownsRow base e size v n xs) {a : Addr} {m c : Nat} {news : List Value} (hl : news.length = m * size) (hnews : ∀ j u, news[j]? = some u → w.cell? (a.add j) = some u) (h1 : ∀ u ∈ news, u.oneCell' = true)
    (hm : 0 < m) (h63 : n + m ≤ maxLen) (hbytes : (n + m) * bytes ≤ 140737488355328) {v' : Value} {w' : World} (hr : (Builtin.append_ #[t, t] ty #[v, .slice (some a) m c]).run P w = .ok v' w') :
    v'.ownBlock = v.ownBlock ∨ v'.ownBlock = some w.heap.size := by
  subst hsize
  subst hby
  have hs : n + m ≤ 9223372036854775807 := by simp only [maxLen] at h63; omega
  obtain ⟨hlen, ⟨rfl, rfl⟩ | ⟨g, cap, cur, rfl, _, hg, _, _, hcs, _⟩⟩ := hown
  · have hq := run_append_nil (P := P) w t ty e i z ht hi hz a m c news hl hnews hm (by omega) (by simp only [Nat.zero_add] at hbytes; omega)
    rw [hq] at hr
    injection hr with e1
    subst e1
    exact .inr rfl
  · by_cases hroom : n + m ≤ cap
    · have hq := run_append_room (P := P) w t ty e i ht hi g n cap cur hg a m c news hl hnews h1 hroom (by rw [hl, hcs, ← Nat.add_mul]; exact Nat.mul_le_mul_right _ hroom)
      rw [hq] at hr
      injection hr with e1
      subst e1
      exact .inl rfl
    · have hcells : ∀ j u, xs[j]? = some u → w.cell? ((⟨g, 0, none⟩ : Addr).add j) = some u :=
        World.ownsRow.cells (base := 0) (n := n) ⟨hlen, .inr ⟨g, cap, cur, rfl, Nat.zero_le _, hg, by assumption, by assumption, hcs, by assumption⟩⟩ rfl
      have hq := run_append_grow (P := P) w t ty e i z ht hi hz ⟨g, 0, none⟩ n cap xs hlen hcells a m c news hl hnews (by omega) (by omega) (growslice_fits (by omega) hbytes)
      rw [hq] at hr
      injection hr with e1
      subst e1
      exact .inr rfl
end

theorem five_at (w : World) (x : Nd) (t : TypeId) : ∀ (j : Nat) (u : Value), (nds [x])[j]? = some u → (w.alloc (.cells #[.int .i64 x.k, .int .i64 x.a, .int .i64 x.b, .int .i64 x.n, .int .i64 x.m] t)).cell? ((⟨w.heap.size, 0, none⟩ : Addr).add j) = some u := fun j u hj => by
  have h : Bk (w.alloc (.cells #[.int .i64 x.k, .int .i64 x.a, .int .i64 x.b, .int .i64 x.n, .int .i64 x.m] t)) w.heap.size t (nds [x]) := Bk.new w t (nds [x])
  rw [add_zero_row, h.cell]
  exact hj

/-- What is left by an append of a node. -/
structure Appd (W w' : World) (base : Nat) (A A' : Option Addr) (c' : Nat) (l : List Nd) : Prop where
  own : OwnN w' base A' c' l
  grown : W.grownBy w' (rowOf A)
  at_ : rowOf A' = rowOf A ∨ rowOf A' = some W.heap.size

theorem wpList_append_node {ops : Array Oper} {rest : List Oper} {o : Oper} {a : Act} {Q : Exit → Act → World → Prop} {w : World} (hgd : o.guard = none) (s y : Operand)
    (ho : o.op = .call { callee := .builtin .append, args := #[s, y], argTypes := #[30, 30] }) (base : Nat) (A : Option Addr) (c : Nat) (l : List Nd) (x : Nd) (n : Nat) (hnl : l.length = n) (hs : a.eval s = .slice A n c) (hown : OwnN w base A c l)
    (g : Nat) (hx : a.eval y = .slice (some ⟨g, 0, none⟩) 1 1) (hg : g = w.heap.size) (hn : n ≤ 1048576) (hb : base ≤ w.heap.size)
    (h : ∀ (A' : Option Addr) (c' : Nat) (w' : World), Appd (w.alloc (.cells #[.int .i64 x.k, .int .i64 x.a, .int .i64 x.b, .int .i64 x.n, .int .i64 x.m] 104)) w' base A A' c' (l ++ [x]) → wpList Try.prog ops Q rest (a.put o.dst (.slice A' (n + 1) c')) w') :
    wpList Try.prog ops Q (o :: rest) a (w.alloc (.cells #[.int .i64 x.k, .int .i64 x.a, .int .i64 x.b, .int .i64 x.n, .int .i64 x.m] 104)) := by
  subst hg
  subst hnl
  obtain ⟨i, hi, hz0, hz1, hz2⟩ := info_parts Try.infoNode
  have hown2 := hown.below ((Below.refl w.heap.size w).alloc (Nat.le_refl _) (.cells #[.int .i64 x.k, .int .i64 x.a, .int .i64 x.b, .int .i64 x.n, .int .i64 x.m] 104)) (Nat.le_refl _)
  have hfive := five_at w x 104
  have hone : ∀ u ∈ nds [x], u.oneCell' = true := by
    intro u hu
    simp [nds] at hu
    rcases hu with rfl | rfl | rfl | rfl | rfl <;> rfl
  refine wpList_plain hgd fun K hK => ?_
  obtain ⟨v', w', hr, h2, h3, _⟩ := run_append_own (P := Try.prog) (w.alloc (.cells #[.int .i64 x.k, .int .i64 x.a, .int .i64 x.b, .int .i64 x.n, .int .i64 x.m] 104)) base 30 o.type 104 i _ 5 40 Try.underlying30 hi hz0 hz1 hz2 rfl (by decide)
    (.slice A l.length c) l.length (nds l) hown2 ⟨w.heap.size, 0, none⟩ 1 1 (nds [x]) rfl hfive hone (by unfold maxLen; omega) (by omega) (by simp; omega)
  have hw := append_where (w.alloc (.cells #[.int .i64 x.k, .int .i64 x.a, .int .i64 x.b, .int .i64 x.n, .int .i64 x.m] 104)) Try.underlying30 hi hz0 hz1 hz2 hown2 (news := nds [x]) (m := 1) rfl hfive hone (by decide) (by unfold maxLen; omega) (by omega) hr
  have hv : ∃ A' c', v' = .slice A' (l.length + 1) c' := by
    obtain ⟨_, ⟨_, h0⟩ | ⟨g, cap, cur, hv, _⟩⟩ := h2
    · omega
    · exact ⟨_, _, hv⟩
  obtain ⟨A', c', rfl⟩ := hv
  unfold Oper.wp execOp
  simp only [ho, resolve, invoke, builtin, Sem.run_bind, Sem.run_pure, Result.andThen_ok, List.map_toArray, List.map_cons, List.map_nil, hs, hx, hr]
  refine hK _ _ (h A' c' w' ⟨?_, by rw [← ownBlock_slice A l.length c]; exact h3, by simpa only [ownBlock_slice] using hw⟩)
  unfold OwnN
  rw [List.length_append, nds_append]
  exact h2

end Go.Proofs.Ytjhdjfobbgfpfaa

/- Plain mathematics of valid pipes: how often a node is below another one, and two ways to find out whether a pipe is valid. -/
namespace Go.Proofs.Ytjhdjfobbgfpfaa

/-- 1 if a yes, else 0. -/
def one (b : Bool) : Nat := if b then 1 else 0
theorem one_le (b : Bool) : one b ≤ 1 := by cases b <;> simp [one]

/-- How often the node j is below another one. -/
def useOf : List Nd → Int → Nat
  | [], _ => 0
  | x :: l, j => one (x.a == j) + one (x.b == j) + useOf l j

theorem useOf_append (l m : List Nd) (j : Int) : useOf (l ++ m) j = useOf l j + useOf m j := by
  induction l with
  | nil => simp [useOf]
  | cons x l ih => simp [useOf, ih]; omega
theorem useOf_succ {l : List Nd} {k : Nat} {x : Nd} (h : l[k]? = some x) (j : Int) : useOf (l.take (k + 1)) j = useOf (l.take k) j + one (x.a == j) + one (x.b == j) := by
  rw [take_succ_of h, useOf_append]
  simp [useOf]; omega
theorem useOf_take_le (l : List Nd) (k : Nat) (j : Int) : useOf (l.take k) j ≤ useOf l j := by
  have h := useOf_append (l.take k) (l.drop k) j
  rw [List.take_append_drop] at h
  omega

theorem arity_cases (k : Int) : arity k = 0 ∨ arity k = 1 ∨ arity k = 2 ∨ arity k = -1 := by
  unfold arity
  split
  · exact .inl rfl
  · split
    · exact .inr (.inr (.inl rfl))
    · split
      · exact .inr (.inl rfl)
      · exact .inr (.inr (.inr rfl))
theorem known_of_arity {k : Int} (h : arity k ≠ -1) : known k = true := by
  cases hk : known k
  · exfalso
    apply h
    simp only [known, Bool.or_eq_false_iff] at hk
    obtain ⟨⟨⟨⟨⟨⟨⟨⟨⟨⟨⟨⟨⟨h0, h1⟩, h2⟩, h3⟩, h4⟩, h5⟩, h6⟩, h7⟩, h8⟩, h9⟩, h10⟩, h11⟩, h12⟩, h13⟩ := hk
    simp [arity, h0, h1, h2, h3, h4, h5, h6, h7, h8, h9, h10, h11, h12, h13]
  · rfl
theorem known_kids {x : Nd} {i : Int} (h : kidsOk x i = true) : known x.k = true := by
  apply known_of_arity
  intro e
  simp [kidsOk, e] at h

/-- The node i of a pipe is one that can stand there. -/
def nodeOk (x : Nd) (i : Nat) : Bool := numsOk x && kidsOk x i

/-- A valid pipe. -/
structure PipeOk (l : List Nd) : Prop where
  node : ∀ (i : Nat) (x : Nd), l[i]? = some x → nodeOk x i = true
  uses : ∀ i : Nat, i + 1 < l.length → useOf l i = 1
  low : 1 ≤ l.length
  high : l.length ≤ 12

/-- .. told by yes or no. -/
def pipeOk (l : List Nd) : Bool :=
  ((List.range l.length).all fun i => match l[i]? with | some x => nodeOk x i | none => true) && ((List.range (l.length - 1)).all fun i => useOf l i == 1) && (decide (1 ≤ l.length) && decide (l.length ≤ 12))
theorem pipeOk_iff {l : List Nd} : pipeOk l = true ↔ PipeOk l := by
  unfold pipeOk
  simp only [Bool.and_eq_true, List.all_eq_true, List.mem_range, decide_eq_true_eq, beq_iff_eq]
  constructor
  · rintro ⟨⟨h1, h2⟩, h3, h4⟩
    refine ⟨fun i x hx => ?_, fun i hi => h2 i (by omega), h3, h4⟩
    have := h1 i (List.getElem?_eq_some_iff.1 hx).1
    rw [hx] at this
    exact this
  · rintro ⟨h1, h2, h3, h4⟩
    refine ⟨⟨fun i hi => ?_, fun i hi => h2 i (by omega)⟩, h3, h4⟩
    obtain ⟨x, hx⟩ := get_of_lt l hi
    rw [hx]
    exact h1 i x hx
theorem pipeOk_no {l : List Nd} (h : ¬ PipeOk l) : pipeOk l = false := by
  cases e : pipeOk l
  · rfl
  · exact absurd (pipeOk_iff.1 e) h

/-- The marks of the nodes that are below one of the first k. -/
def marks (l : List Nd) (k n : Nat) : List Bool := (List.range n).map fun j : Nat => decide (1 ≤ useOf (l.take k) (j : Int))
/-- The counts of the uses by the first k nodes. -/
def counts (l : List Nd) (k n : Nat) : List Int := (List.range n).map fun j : Nat => (useOf (l.take k) (j : Int) : Int)

theorem marks_get (l : List Nd) (k : Nat) {n j : Nat} (h : j < n) : (marks l k n)[j]? = some (decide (1 ≤ useOf (l.take k) (j : Int))) := by simp [marks, h]
theorem counts_get (l : List Nd) (k : Nat) {n j : Nat} (h : j < n) : (counts l k n)[j]? = some (useOf (l.take k) (j : Int) : Int) := by simp [counts, h]
theorem marks_len (l : List Nd) (k n : Nat) : (marks l k n).length = n := by simp [marks]
theorem counts_len (l : List Nd) (k n : Nat) : (counts l k n).length = n := by simp [counts]
theorem marks_zero (l : List Nd) (n : Nat) : marks l 0 n = List.replicate n false := by
  apply List.ext_getElem?
  intro i
  simp [marks, useOf, List.getElem?_replicate]
  by_cases h : i < n <;> simp [h]
theorem counts_zero (l : List Nd) (n : Nat) : counts l 0 n = List.replicate n 0 := by
  apply List.ext_getElem?
  intro i
  simp [counts, useOf, List.getElem?_replicate]
  by_cases h : i < n <;> simp [h]

/-- Whether node x at the place i has below it earlier nodes that are not marked. -/
def placesOk (x : Nd) (us : List Bool) (i : Nat) : Bool :=
  if arity x.k == 0 then (x.a == -1) && (x.b == -1) else
  if arity x.k == 1 then (inR x.a 0 (i - 1) && (us[x.a.toNat]? == some false)) && (x.b == -1) else
  if arity x.k == 2 then (inR x.a 0 (i - 1) && (us[x.a.toNat]? == some false)) && (inR x.b 0 (i - 1) && ((us.set x.a.toNat true)[x.b.toNat]? == some false)) else false
/-- The marks with those of x. -/
def marked (x : Nd) (us : List Bool) : List Bool :=
  if arity x.k == 0 then us else
  if arity x.k == 1 then us.set x.a.toNat true else
  if arity x.k == 2 then (us.set x.a.toNat true).set x.b.toNat true else us

end Go.Proofs.Ytjhdjfobbgfpfaa

/- Plain mathematics: marking the nodes that are below tells the same as counting them. -/
namespace Go.Proofs.Ytjhdjfobbgfpfaa

theorem inR_toNat {a : Int} {k : Nat} (h : inR a 0 ((k : Int) - 1) = true) : ∃ j : Nat, a = (j : Int) ∧ j < k := by
  obtain ⟨h1, h2⟩ := inR_iff.1 h
  exact ⟨a.toNat, by omega, by omega⟩
theorem one_eq (j : Nat) : one ((j : Int) == (j : Int)) = 1 := by simp [one]
theorem one_ne {i j : Int} (h : i ≠ j) : one (i == j) = 0 := by simp [one, h]
theorem one_yes {i j : Int} (h : i = j) : one (i == j) = 1 := by simp [one, h]

theorem marks_mark {l : List Nd} {k n : Nat} {x : Nd} (hx : l[k]? = some x) {j : Nat} (ha : x.a = (j : Int)) (hb : x.b = -1) : (marks l k n).set j true = marks l (k + 1) n := by
  apply List.ext_getElem?
  intro i
  by_cases hi : i < n
  · rw [marks_get _ _ hi, useOf_succ hx, ha, hb, one_ne (i := -1) (by omega)]
    by_cases hij : i = j
    · subst hij
      rw [List.getElem?_set_self (by rw [marks_len]; exact hi), one_eq]
      simp
    · rw [List.getElem?_set_ne (by omega), marks_get _ _ hi, one_ne (by omega)]
      simp
  · rw [List.getElem?_eq_none (by rw [List.length_set, marks_len]; omega), List.getElem?_eq_none (by rw [marks_len]; omega)]
theorem marks_mark2 {l : List Nd} {k n : Nat} {x : Nd} (hx : l[k]? = some x) {j j2 : Nat} (ha : x.a = (j : Int)) (hb : x.b = (j2 : Int)) : ((marks l k n).set j true).set j2 true = marks l (k + 1) n := by
  apply List.ext_getElem?
  intro i
  by_cases hi : i < n
  · rw [marks_get _ _ hi, useOf_succ hx, ha, hb]
    by_cases hij2 : i = j2
    · subst hij2
      rw [List.getElem?_set_self (by rw [List.length_set, marks_len]; exact hi), one_eq]
      simp
    · rw [List.getElem?_set_ne (by omega), one_ne (i := (j2 : Int)) (by omega)]
      by_cases hij : i = j
      · subst hij
        rw [List.getElem?_set_self (by rw [marks_len]; exact hi), one_eq]
        simp
      · rw [List.getElem?_set_ne (by omega), marks_get _ _ hi, one_ne (by omega)]
        simp
  · rw [List.getElem?_eq_none (by rw [List.length_set, List.length_set, marks_len]; omega), List.getElem?_eq_none (by rw [marks_len]; omega)]
theorem marks_none {l : List Nd} {k n : Nat} {x : Nd} (hx : l[k]? = some x) (ha : x.a = -1) (hb : x.b = -1) : marks l k n = marks l (k + 1) n := by
  apply List.ext_getElem?
  intro i
  by_cases hi : i < n
  · rw [marks_get _ _ hi, marks_get _ _ hi, useOf_succ hx, ha, hb, one_ne (i := -1) (by omega)]
    simp
  · rw [List.getElem?_eq_none (by rw [marks_len]; omega), List.getElem?_eq_none (by rw [marks_len]; omega)]

/-- No node is below two. -/
def Single (l : List Nd) (k : Nat) : Prop := ∀ j : Nat, useOf (l.take k) (j : Int) ≤ 1

theorem place_yes {l : List Nd} {k : Nat} {x : Nd} (hx : l[k]? = some x) (hs : Single l k) (h : placesOk x (marks l k l.length) k = true) :
    kidsOk x k = true ∧ marked x (marks l k l.length) = marks l (k + 1) l.length ∧ Single l (k + 1) := by
  have hk : k < l.length := (List.getElem?_eq_some_iff.1 hx).1
  rcases arity_cases x.k with e | e | e | e
  · simp [placesOk, e] at h
    obtain ⟨h1, h2⟩ := h
    refine ⟨by simp [kidsOk, e, h1, h2], by simp only [marked, e]; exact marks_none hx h1 h2, fun j => ?_⟩
    rw [useOf_succ hx, h1, h2, one_ne (by omega)]
    exact hs j
  · simp [placesOk, e] at h
    obtain ⟨⟨h1, h2⟩, h3⟩ := h
    obtain ⟨j, hj, hjk⟩ := inR_toNat h1
    refine ⟨by simp [kidsOk, e, h1, h3], ?_, fun i => ?_⟩
    · simp only [marked, e]
      show (marks l k l.length).set x.a.toNat true = _
      rw [hj, Int.toNat_natCast]
      exact marks_mark hx hj h3
    · rw [hj, Int.toNat_natCast, marks_get _ _ (by omega)] at h2
      simp at h2
      rw [useOf_succ hx, h3, hj, one_ne (i := -1) (by omega)]
      by_cases hij : i = j
      · subst hij; rw [h2, one_eq]; omega
      · rw [one_ne (by omega)]; exact hs i
  · simp [placesOk, e] at h
    obtain ⟨⟨h1, h2⟩, h3, h4⟩ := h
    obtain ⟨j, hj, hjk⟩ := inR_toNat h1
    obtain ⟨j2, hj2, hjk2⟩ := inR_toNat h3
    rw [hj, hj2, Int.toNat_natCast, Int.toNat_natCast] at h4
    rw [hj, Int.toNat_natCast, marks_get _ _ (by omega)] at h2
    simp at h2
    have hne : j ≠ j2 := by
      intro e2
      subst e2
      rw [List.getElem?_set_self (by rw [marks_len]; omega)] at h4
      simp at h4
    rw [List.getElem?_set_ne hne, marks_get _ _ (by omega)] at h4
    simp at h4
    refine ⟨by simp [kidsOk, e]; exact ⟨⟨h1, h3⟩, by omega⟩, ?_, fun i => ?_⟩
    · simp only [marked, e]
      show ((marks l k l.length).set x.a.toNat true).set x.b.toNat true = _
      rw [hj, hj2, Int.toNat_natCast, Int.toNat_natCast]
      exact marks_mark2 hx hj hj2
    · rw [useOf_succ hx, hj, hj2]
      by_cases hij : i = j
      · subst hij; rw [h2, one_eq, one_ne (by omega)]; omega
      · rw [one_ne (i := (j : Int)) (by omega)]
        by_cases hij2 : i = j2
        · subst hij2; rw [h4, one_eq]; omega
        · rw [one_ne (by omega)]; exact hs i
  · simp [placesOk, e] at h

theorem twice_no {l : List Nd} {k : Nat} {x : Nd} (hx : l[k]? = some x) {j : Nat} (hj : j < k) (h1 : 1 ≤ useOf (l.take k) (j : Int)) (h2 : x.a = (j : Int) ∨ x.b = (j : Int)) : ¬ PipeOk l := fun hp => by
  have hk : k < l.length := (List.getElem?_eq_some_iff.1 hx).1
  have h3 := hp.uses j (by omega)
  have h4 := useOf_take_le l (k + 1) (j : Int)
  rw [useOf_succ hx] at h4
  rcases h2 with h2 | h2 <;> rw [one_yes h2] at h4 <;> omega

theorem place_no {l : List Nd} {k : Nat} {x : Nd} (hx : l[k]? = some x) (h : placesOk x (marks l k l.length) k = false) : ¬ PipeOk l := fun hp => by
  have hk : k < l.length := (List.getElem?_eq_some_iff.1 hx).1
  have hn := hp.node k x hx
  simp only [nodeOk, Bool.and_eq_true] at hn
  have hkids := hn.2
  rcases arity_cases x.k with e | e | e | e
  · simp [kidsOk, e] at hkids
    simp [placesOk, e, hkids] at h
  · simp [kidsOk, e] at hkids
    obtain ⟨h1, h2⟩ := hkids
    obtain ⟨j, hj, hjk⟩ := inR_toNat h1
    simp [placesOk, e, h1, h2] at h
    rw [hj, Int.toNat_natCast, marks_get _ _ (by omega)] at h
    simp at h
    exact twice_no hx hjk (by omega) (.inl hj) hp
  · simp [kidsOk, e] at hkids
    obtain ⟨⟨h1, h2⟩, h3⟩ := hkids
    obtain ⟨j, hj, hjk⟩ := inR_toNat h1
    obtain ⟨j2, hj2, hjk2⟩ := inR_toNat h2
    have hne : j ≠ j2 := by rintro rfl; exact h3 (hj.trans hj2.symm)
    simp [placesOk, e, h1, h2] at h
    rw [hj, hj2, Int.toNat_natCast, Int.toNat_natCast, marks_get _ _ (by omega), List.getElem?_set_ne hne, marks_get _ _ (by omega)] at h
    simp at h
    by_cases hz : useOf (l.take k) (j : Int) = 0
    · exact twice_no hx hjk2 (by have := h hz; omega) (.inr hj2) hp
    · exact twice_no hx hjk (by omega) (.inl hj) hp
  · simp [kidsOk, e] at hkids

theorem nums_no {l : List Nd} {k : Nat} {x : Nd} (hx : l[k]? = some x) (h : (numsOk x && known x.k) = false) : ¬ PipeOk l := fun hp => by
  have hn := hp.node k x hx
  simp only [nodeOk, Bool.and_eq_true] at hn
  rw [hn.1, known_kids hn.2] at h
  cases h

/-- The first k nodes can stand where they do. -/
def Good (l : List Nd) (k : Nat) : Prop := ∀ (i : Nat) (x : Nd), i < k → l[i]? = some x → nodeOk x i = true
theorem Good.zero (l : List Nd) : Good l 0 := fun _ _ h => absurd h (by omega)
theorem Good.succ {l : List Nd} {k : Nat} {x : Nd} (h : Good l k) (hx : l[k]? = some x) (hn : nodeOk x k = true) : Good l (k + 1) := fun i y hi hy => by
  by_cases e : i = k
  · subst e
    rw [hx] at hy
    obtain rfl := Option.some.inj hy
    exact hn
  · exact h i y (by omega) hy
theorem Single.zero (l : List Nd) : Single l 0 := fun _ => by simp [useOf]

/-- The end of the marking: all but the last one are marked. -/
theorem marks_end {l : List Nd} (hg : Good l l.length) (hs : Single l l.length) (h1 : 1 ≤ l.length) (h12 : l.length ≤ 12) :
    pipeOk l = !((marks l l.length l.length).take (l.length - 1)).contains false := by
  rw [Bool.eq_iff_iff, pipeOk_iff]
  simp only [Bool.not_eq_true', List.contains_eq_mem, decide_eq_false_iff_not]
  constructor
  · intro hp hm
    obtain ⟨j, hj⟩ := List.getElem?_of_mem hm
    have hjl : j < l.length - 1 := by have := (List.getElem?_eq_some_iff.1 hj).1; simp at this; omega
    rw [List.getElem?_take_of_lt hjl, marks_get _ _ (by omega), List.take_length] at hj
    simp at hj
    have := hp.uses j (by omega)
    omega
  · intro hm
    refine ⟨fun i x hx => hg i x (List.getElem?_eq_some_iff.1 hx).1 hx, fun i hi => ?_, h1, h12⟩
    have h2 := hs i
    rw [List.take_length] at h2
    have h3 : useOf l (i : Int) ≠ 0 := fun e => hm (List.mem_of_getElem? (i := i) (by rw [List.getElem?_take_of_lt (by omega), marks_get _ _ (by omega), List.take_length, e]; rfl))
    omega

end Go.Proofs.Ytjhdjfobbgfpfaa

/- Plain mathematics: the tree of a node of a valid pipe. -/
namespace Go.Proofs.Ytjhdjfobbgfpfaa

/-- A node with all that is below it. -/
inductive T where
  | leaf (x : Nd) : T
  | stem (x : Nd) (t : T) : T
  | fork (x : Nd) (a b : T) : T

/-- t is the tree of the node i of l. -/
inductive IsTree (l : List Nd) : Nat → T → Prop where
  | leaf {i : Nat} {x : Nd} (hx : l[i]? = some x) (ha : arity x.k = 0) (h1 : x.a = -1) (h2 : x.b = -1) : IsTree l i (.leaf x)
  | stem {i j : Nat} {x : Nd} {t : T} (hx : l[i]? = some x) (ha : arity x.k = 1) (h1 : x.a = (j : Int)) (hj : j < i) (h2 : x.b = -1) (ht : IsTree l j t) : IsTree l i (.stem x t)
  | fork {i j j2 : Nat} {x : Nd} {a b : T} (hx : l[i]? = some x) (ha : arity x.k = 2) (h1 : x.a = (j : Int)) (hj : j < i) (h2 : x.b = (j2 : Int)) (hj2 : j2 < i) (hta : IsTree l j a) (htb : IsTree l j2 b) : IsTree l i (.fork x a b)

theorem IsTree.ex {l : List Nd} (hp : PipeOk l) : ∀ (n i : Nat), i < n → i < l.length → ∃ t, IsTree l i t := by
  intro n
  induction n with
  | zero => intro i hi; omega
  | succ n ih =>
    intro i hi hl
    obtain ⟨x, hx⟩ := get_of_lt l hl
    have hn := hp.node i x hx
    simp only [nodeOk, Bool.and_eq_true] at hn
    have hkids := hn.2
    rcases arity_cases x.k with e | e | e | e
    · simp [kidsOk, e] at hkids
      exact ⟨_, .leaf hx e hkids.1 hkids.2⟩
    · simp [kidsOk, e] at hkids
      obtain ⟨j, hj, hjk⟩ := inR_toNat hkids.1
      obtain ⟨t, ht⟩ := ih j (by omega) (by omega)
      exact ⟨_, .stem hx e hj hjk hkids.2 ht⟩
    · simp [kidsOk, e] at hkids
      obtain ⟨⟨h1, h2⟩, _⟩ := hkids
      obtain ⟨j, hj, hjk⟩ := inR_toNat h1
      obtain ⟨j2, hj2, hjk2⟩ := inR_toNat h2
      obtain ⟨a, ha⟩ := ih j (by omega) (by omega)
      obtain ⟨b, hb⟩ := ih j2 (by omega) (by omega)
      exact ⟨_, .fork hx e hj hjk hj2 hjk2 ha hb⟩
    · simp [kidsOk, e] at hkids

theorem IsTree.lt {l : List Nd} {i : Nat} {t : T} (h : IsTree l i t) : i < l.length := by
  cases h with
  | leaf hx => exact (List.getElem?_eq_some_iff.1 hx).1
  | stem hx => exact (List.getElem?_eq_some_iff.1 hx).1
  | fork hx => exact (List.getElem?_eq_some_iff.1 hx).1

/-- How many nodes the longest way down has. -/
def T.depth : T → Nat
  | .leaf _ => 1
  | .stem _ t => 1 + t.depth
  | .fork _ a b => 1 + max a.depth b.depth
theorem IsTree.depth_le {l : List Nd} {i : Nat} {t : T} (h : IsTree l i t) : t.depth ≤ i + 1 := by
  induction h with
  | leaf => simp [T.depth]
  | stem _ _ _ hj _ _ ih => simp only [T.depth]; omega
  | fork _ _ _ hj _ hj2 _ _ iha ihb => simp only [T.depth]; omega
theorem T.depth_pos (t : T) : 1 ≤ t.depth := by cases t <;> simp [T.depth] <;> omega

theorem IsTree.same {l : List Nd} {i : Nat} {t u : T} (h : IsTree l i t) (k : IsTree l i u) : t = u := by
  induction h generalizing u with
  | leaf hx ha _ _ =>
    cases k with
    | leaf hy _ _ _ => rw [Option.some.inj (hx.symm.trans hy)]
    | stem hy hb => rw [← Option.some.inj (hx.symm.trans hy), ha] at hb; cases hb
    | fork hy hb => rw [← Option.some.inj (hx.symm.trans hy), ha] at hb; cases hb
  | stem hx ha h1 _ _ _ ih =>
    cases k with
    | leaf hy hb => rw [← Option.some.inj (hx.symm.trans hy), ha] at hb; cases hb
    | stem hy _ k1 _ _ kt =>
      have e := Option.some.inj (hx.symm.trans hy)
      subst e
      rw [h1] at k1
      obtain rfl := Int.ofNat_inj.1 k1
      rw [ih kt]
    | fork hy hb => rw [← Option.some.inj (hx.symm.trans hy), ha] at hb; cases hb
  | fork hx ha h1 _ h2 _ _ _ iha ihb =>
    cases k with
    | leaf hy hb => rw [← Option.some.inj (hx.symm.trans hy), ha] at hb; cases hb
    | stem hy hb => rw [← Option.some.inj (hx.symm.trans hy), ha] at hb; cases hb
    | fork hy _ k1 _ k2 _ kta ktb =>
      have e := Option.some.inj (hx.symm.trans hy)
      subst e
      rw [h1] at k1
      rw [h2] at k2
      obtain rfl := Int.ofNat_inj.1 k1
      obtain rfl := Int.ofNat_inj.1 k2
      rw [iha kta, ihb ktb]

end Go.Proofs.Ytjhdjfobbgfpfaa

/- Contracts: the nodes of a tree, in order, behind others (the reference). -/
namespace Go.Proofs.Ytjhdjfobbgfpfaa
open Go.RowKit

/-- How many nodes a tree has. -/
def T.size : T → Nat
  | .leaf _ => 1
  | .stem _ t => t.size + 1
  | .fork _ a b => a.size + b.size + 1
/-- The nodes of a tree in order, when n are ahead of them. -/
def T.put : T → Nat → List Nd
  | .leaf x, _ => [x]
  | .stem x t, n => t.put n ++ [⟨x.k, (n : Int) + (t.size : Int) - 1, x.b, x.n, x.m⟩]
  | .fork x a b, n => a.put n ++ b.put (n + a.size) ++ [⟨x.k, (n : Int) + (a.size : Int) - 1, (n : Int) + (a.size : Int) + (b.size : Int) - 1, x.n, x.m⟩]
theorem T.put_len (t : T) : ∀ n, (t.put n).length = t.size := by
  induction t with
  | leaf => intro n; rfl
  | stem x t ih => intro n; simp [T.put, T.size, ih]
  | fork x a b iha ihb => intro n; simp [T.put, T.size, iha, ihb]; omega
theorem T.size_pos (t : T) : 1 ≤ t.size := by cases t <;> simp [T.size]

/-- What is left when nodes were put behind those of a slice of the call's own. -/
structure Wrote (w w' : World) (base : Nat) (A A' : Option Addr) (c' : Nat) (q : List Nd) : Prop where
  own : OwnN w' base A' c' q
  grown : w.grownBy w' (rowOf A)
  at_ : rowOf A' = rowOf A ∨ ∃ g, rowOf A' = some g ∧ w.heap.size ≤ g

theorem OwnN.row_lt {w : World} {base c : Nat} {A : Option Addr} {l : List Nd} (h : OwnN w base A c l) : ∀ g, rowOf A = some g → base ≤ g ∧ g < w.heap.size := fun g hg => by
  have := World.ownsRow.lt h g (by rw [ownBlock_slice]; exact hg)
  exact this
theorem RdN.grown {w w' : World} {B base : Nat} {A Ao : Option Addr} {c : Nat} {l p : List Nd} (h : RdN w B A l) (ho : OwnN w base Ao c p) (hB : B ≤ base) (hz : base ≤ w.heap.size) (hg : w.grownBy w' (rowOf Ao)) : RdN w' B A l :=
  h.keep fun q hq => World.cell?_of_block (hg.block q.block (by omega) (fun e => by have := (ho.row_lt _ e.symm).1; omega))
theorem grown_of {a b c : World} {row row2 : Option Nat} (h : a.grownBy b row) (k : b.grownBy c row2) (hr : row2 = row ∨ ∃ g, row2 = some g ∧ a.heap.size ≤ g) : a.grownBy c row :=
  ⟨k.os.trans h.os, k.tape.trans h.tape, k.output.trans h.output, Nat.le_trans h.size k.size, fun j hj hne => (k.block j (Nat.lt_of_lt_of_le hj h.size) (by
    rcases hr with rfl | ⟨g, rfl, hg⟩
    · exact hne
    · intro e; have := Option.some.inj e; omega)).trans (h.block j hj hne)⟩
theorem grown_below {a b : World} (h : Below a.heap.size a b) (row : Option Nat) : a.grownBy b row := ⟨h.os, h.tape, h.output, h.size, fun j hj _ => h.block j hj⟩

theorem wrote_of {w W w1 : World} {base c' : Nat} {A A1 A' : Option Addr} {q : List Nd} {o : Obj} (h : w.grownBy W (rowOf A)) (hA : rowOf A1 = rowOf A ∨ ∃ g, rowOf A1 = some g ∧ w.heap.size ≤ g) (k : Appd (W.alloc o) w1 base A1 A' c' q) : Wrote w w1 base A A' c' q :=
  ⟨k.own, grown_of (grown_of h (World.grownBy_alloc _ _ (rowOf A)) (.inl rfl)) k.grown hA, by
    rcases k.at_ with e | e
    · rw [e]; exact hA
    · exact .inr ⟨_, e, by have := h.size; simp; omega⟩⟩
theorem own_ne {w W : World} {base c g : Nat} {A A1 : Option Addr} {p : List Nd} (ho : OwnN w base A c p) (hg : w.heap.size ≤ g) (hW : g < W.heap.size) (h : rowOf A1 = rowOf A ∨ ∃ g, rowOf A1 = some g ∧ W.heap.size ≤ g) : rowOf A1 ≠ some g := by
  rcases h with e | ⟨g2, e, h2⟩
  · intro e2
    have := (ho.row_lt g (e.symm.trans e2)).2
    omega
  · intro e2
    have := Option.some.inj (e.symm.trans e2)
    omega
theorem at_trans {w W : World} {A A1 A2 : Option Addr} (hz : w.heap.size ≤ W.heap.size) (h : rowOf A1 = rowOf A ∨ ∃ g, rowOf A1 = some g ∧ w.heap.size ≤ g) (k : rowOf A2 = rowOf A1 ∨ ∃ g, rowOf A2 = some g ∧ W.heap.size ≤ g) : rowOf A2 = rowOf A ∨ ∃ g, rowOf A2 = some g ∧ w.heap.size ≤ g := by
  rcases k with e | ⟨g, e, hg⟩
  · rw [e]; exact h
  · exact .inr ⟨g, e, by omega⟩
theorem at_more {w W : World} {A A1 : Option Addr} (hz : w.heap.size ≤ W.heap.size) (h : rowOf A1 = rowOf A ∨ ∃ g, rowOf A1 = some g ∧ W.heap.size ≤ g) : rowOf A1 = rowOf A ∨ ∃ g, rowOf A1 = some g ∧ w.heap.size ≤ g := at_trans hz (.inl rfl) h
theorem Bk.grown {w w' : World} {g : Nat} {t : TypeId} {cs : List Value} {row : Option Nat} (h : Bk w g t cs) (hg : w.grownBy w' row) (hne : some g ≠ row) : Bk w' g t cs := (hg.block g h.lt hne).trans h

theorem ret_slice {A : Option Addr} {n m c : Nat} (h : n = m) : Ending.returned (.slice A n c) = .returned (.slice A m c) := by rw [h]

end Go.Proofs.Ytjhdjfobbgfpfaa

/- Boxes that hold pipes made by calls, through calls and through marks. -/
namespace Go.Proofs.Ytjhdjfobbgfpfaa
open Go.RowKit

/-- The box bx holds a pipe, whose nodes l lie in memory of its own, from block base on and before the box. -/
structure PB (w : World) (bx base : Nat) (A : Option Addr) (c : Nat) (l : List Nd) : Prop where
  box : Bk w bx 32 [.slice A l.length c]
  own : OwnN w base A c l
  lt : ∀ g, rowOf A = some g → g < bx

/-- The box b0 holds a pipe, whose nodes l lie before it. -/
structure AB (w : World) (b0 : Nat) (A : Option Addr) (c : Nat) (l : List Nd) : Prop where
  box : Bk w b0 24 [.slice A l.length c]
  rd : RdN w b0 A l

section
variable {w w' : World} {bx base c b0 : Nat} {A : Option Addr} {l : List Nd}
theorem PB.below {C : Nat} (h : PB w bx base A c l) (hb : Below C w w') (hC : w.heap.size ≤ C) : PB w' bx base A c l := ⟨h.box.below hb (by have := h.box.lt; omega), h.own.below hb hC, h.lt⟩
theorem PB.drewN (h : PB w bx base A c l) (n : Nat) : PB (w.drewN n) bx base A c l := ⟨h.box.drewN n, h.own.drewN n, h.lt⟩
theorem PB.cell (h : PB w bx base A c l) : w.cell? ⟨bx, 0, none⟩ = some (.slice A l.length c) := h.box.cell 0
theorem AB.below {C : Nat} (h : AB w b0 A c l) (hb : Below C w w') (hC : b0 < C) : AB w' b0 A c l := ⟨h.box.below hb hC, h.rd.below hb (by omega)⟩
theorem AB.drewN (h : AB w b0 A c l) (n : Nat) : AB (w.drewN n) b0 A c l := ⟨h.box.drewN n, h.rd.drewN n⟩
theorem AB.cell (h : AB w b0 A c l) : w.cell? ⟨b0, 0, none⟩ = some (.slice A l.length c) := h.box.cell 0
variable {bx2 base2 c2 : Nat} {A2 : Option Addr} {l2 : List Nd}
theorem PB.mark_left (h : PB w bx base A c l) (k : PB w bx2 base2 A2 c2 l2) (hlt : bx < base2) (hg : w.grownBy w' (rowOf A2)) : PB w' bx base A c l := by
  refine ⟨h.box.grown hg fun e => ?_, h.own.grown hg ?_, h.lt⟩
  · have := (k.own.row_lt _ e.symm).1; omega
  · cases hA : rowOf A with
    | none => exact .inl rfl
    | some g =>
      refine .inr fun e => ?_
      have := (k.own.row_lt _ e.symm).1
      have := h.lt g hA
      omega
theorem PB.mark_right (h : PB w bx base A c l) (k : PB w bx2 base2 A2 c2 l2) (hlt : bx2 ≤ base) (hle : base ≤ bx) (hg : w.grownBy w' (rowOf A2)) : PB w' bx base A c l := by
  refine ⟨h.box.grown hg fun e => ?_, h.own.grown hg ?_, h.lt⟩
  · have := k.lt _ e.symm; omega
  · cases hA : rowOf A with
    | none => exact .inl rfl
    | some g =>
      refine .inr fun e => ?_
      have := k.lt _ e.symm
      have := (h.own.row_lt g hA).1
      omega
theorem PB.mark_self {m : List Nd} (h : PB w bx base A c l) (ho : OwnN w' base A c m) (hm : m.length = l.length) (hg : w.grownBy w' (rowOf A)) : PB w' bx base A c m :=
  ⟨by rw [hm]; exact h.box.grown hg (fun e => by have := h.lt _ e.symm; omega), ho, h.lt⟩
theorem AB.mark (h : AB w b0 A c l) (k : PB w bx2 base2 A2 c2 l2) (hlt : b0 < base2) (hz : base2 ≤ w.heap.size) (hg : w.grownBy w' (rowOf A2)) : AB w' b0 A c l :=
  ⟨h.box.grown hg (fun e => by have := (k.own.row_lt _ e.symm).1; omega), h.rd.grown k.own (by omega) hz hg⟩
/-- A call's own result, boxed. -/
theorem PB.new (h : OwnN w base A c l) : PB (w.alloc (.cells #[.slice A l.length c] 32)) w.heap.size base A c l :=
  ⟨Bk.new w _ [_], h.below ((Below.refl _ _).alloc (Nat.le_refl _) _) (Nat.le_refl _), fun g hg => (h.row_lt g hg).2⟩
end

end Go.Proofs.Ytjhdjfobbgfpfaa

/- Boxes that hold pipes made by calls, told by an interval of blocks; through calls and through marks. -/
namespace Go.Proofs.Ytjhdjfobbgfpfaa
open Go.RowKit

/-- The box bx holds a pipe, whose nodes l lie in memory of its own; both lie in blocks from lo on and before hi. -/
structure PX (w : World) (bx lo hi : Nat) (A : Option Addr) (c : Nat) (l : List Nd) : Prop where
  box : Bk w bx 32 [.slice A l.length c]
  own : OwnN w lo A c l
  lo_ : lo ≤ bx
  hi_ : bx < hi
  top : hi ≤ w.heap.size
  lt : ∀ g, rowOf A = some g → g < hi
  ne : ∀ g, rowOf A = some g → g ≠ bx

section
variable {w w' : World} {bx lo hi c : Nat} {A : Option Addr} {l : List Nd}
theorem PX.below {C : Nat} (h : PX w bx lo hi A c l) (hb : Below C w w') (hC : w.heap.size ≤ C) : PX w' bx lo hi A c l :=
  ⟨h.box.below hb (by have := h.box.lt; omega), h.own.below hb hC, h.lo_, h.hi_, Nat.le_trans h.top hb.size, h.lt, h.ne⟩
theorem PX.drewN (h : PX w bx lo hi A c l) (n : Nat) : PX (w.drewN n) bx lo hi A c l := ⟨h.box.drewN n, h.own.drewN n, h.lo_, h.hi_, h.top, h.lt, h.ne⟩
theorem PX.cell (h : PX w bx lo hi A c l) : w.cell? ⟨bx, 0, none⟩ = some (.slice A l.length c) := h.box.cell 0
theorem PX.new {b : Nat} (h : OwnN w b A c l) (hb : lo ≤ b) (hz : lo ≤ w.heap.size) : PX (w.alloc (.cells #[.slice A l.length c] 32)) w.heap.size lo (w.heap.size + 1) A c l :=
  ⟨Bk.new w _ [_], (h.below ((Below.refl _ _).alloc (Nat.le_refl _) _) (Nat.le_refl _)).base_ hb, hz, Nat.lt_succ_self _, by simp, fun g hg => by have := (h.row_lt g hg).2; omega, fun g hg => by have := (h.row_lt g hg).2; omega⟩
theorem PX.set {b : Nat} (h : OwnN w b A c l) (hx : Bk w bx 32 [.slice none 0 0]) (hb : lo ≤ b) (h1 : lo ≤ bx) (hne : ∀ g, rowOf A = some g → g ≠ bx) : PX (w.setCell ⟨bx, 0, none⟩ (.slice A l.length c)) bx lo w.heap.size A c l :=
  ⟨hx.set_ 0 _, (h.grown (grown_one (World.grownBy.refl w (some bx)) 0 _) (by
    cases hA : rowOf A with
    | none => exact .inl rfl
    | some g => exact .inr fun e => hne g hA (Option.some.inj e))).base_ hb, h1, hx.lt, by simp [World.setCell], fun g hg => (h.row_lt g hg).2, hne⟩
theorem PX.end_set {a : World} {b : Nat} (hb0 : Below a.heap.size a w) (h : OwnN w b A c l) (hx : Bk w bx 32 [.slice none 0 0]) (hb : a.heap.size ≤ b) (h1 : a.heap.size ≤ bx) (hne : ∀ g, rowOf A = some g → g ≠ bx) :
    ∃ W : World, W = w.setCell ⟨bx, 0, none⟩ (.slice A l.length c) ∧ PX W bx a.heap.size w.heap.size A c l ∧ Below a.heap.size a W :=
  ⟨_, rfl, PX.set h hx hb h1 hne, hb0.setCell (p := ⟨bx, 0, none⟩) h1 _⟩
theorem PX.end_new {a : World} {b : Nat} (hb0 : Below a.heap.size a w) (h : OwnN w b A c l) (hb : a.heap.size ≤ b) :
    ∃ W : World, W = w.alloc (.cells #[.slice A l.length c] 32) ∧ PX W w.heap.size a.heap.size (w.heap.size + 1) A c l ∧ Below a.heap.size a W :=
  ⟨_, rfl, PX.new h hb hb0.size, hb0.alloc hb0.size _⟩
variable {bx2 lo2 hi2 c2 : Nat} {A2 : Option Addr} {l2 : List Nd}
theorem PX.row_lo (h : PX w bx lo hi A c l) : ∀ g, rowOf A = some g → lo ≤ g := fun g hg => (h.own.row_lt g hg).1
theorem PX.mark_other (h : PX w bx lo hi A c l) (k : PX w bx2 lo2 hi2 A2 c2 l2) (hd : hi ≤ lo2 ∨ hi2 ≤ lo) (hg : w.grownBy w' (rowOf A2)) : PX w' bx lo hi A c l := by
  refine ⟨h.box.grown hg fun e => ?_, h.own.grown hg ?_, h.lo_, h.hi_, Nat.le_trans h.top hg.size, h.lt, h.ne⟩
  · have h1 := k.row_lo _ e.symm
    have h2 := k.lt _ e.symm
    have h3 := h.lo_
    have h4 := h.hi_
    omega
  · cases hA : rowOf A with
    | none => exact .inl rfl
    | some g =>
      refine .inr fun e => ?_
      have h1 := k.row_lo _ e.symm
      have h2 := k.lt _ e.symm
      have h3 := h.row_lo g hA
      have h4 := h.lt g hA
      omega
theorem PX.mark_self {m : List Nd} (h : PX w bx lo hi A c l) (ho : OwnN w' lo A c m) (hm : m.length = l.length) (hg : w.grownBy w' (rowOf A)) : PX w' bx lo hi A c m :=
  ⟨by rw [hm]; exact h.box.grown hg (fun e => h.ne _ e.symm rfl), ho, h.lo_, h.hi_, Nat.le_trans h.top hg.size, h.lt, h.ne⟩
theorem AB.mark_px {b0 : Nat} (h : AB w b0 A c l) (k : PX w bx2 lo2 hi2 A2 c2 l2) (hlt : b0 < lo2) (hg : w.grownBy w' (rowOf A2)) : AB w' b0 A c l :=
  ⟨h.box.grown hg (fun e => by have := k.row_lo _ e.symm; omega), h.rd.grown k.own (by omega) (by have := k.lo_; have := k.hi_; have := k.top; omega) hg⟩
theorem Bk.mark_px {g : Nat} {t : TypeId} {cs : List Value} (h : Bk w g t cs) (k : PX w bx2 lo2 hi2 A2 c2 l2) (hlt : g < lo2) (hg : w.grownBy w' (rowOf A2)) : Bk w' g t cs :=
  h.grown hg (fun e => by have := k.row_lo _ e.symm; omega)
theorem PX.below_mark {B : Nat} {a : World} (k : PX w bx2 lo2 hi2 A2 c2 l2) (hb : Below B a w) (hB : B ≤ lo2) (hz : B ≤ w.heap.size) (hg : w.grownBy w' (rowOf A2)) : Below B a w' :=
  hb.grown hg hz (fun g h => by have := k.row_lo g h; omega)
end

end Go.Proofs.Ytjhdjfobbgfpfaa
