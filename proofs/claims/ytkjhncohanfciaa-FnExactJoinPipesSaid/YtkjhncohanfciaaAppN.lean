/- A node is appended to a slice of nodes of the call's own: what is there afterwards, and where. -/
import Derived.Test.YtkjhncohanfciaaOwn
import Derived.OwnWalk
namespace Go.Proofs.Ytkjhncohanfciaa
open Go.RowKit

section
variable {P : Program} (w : World)
/-- An append lands in the old block or in the next new one. -/
theorem append_where {base : Nat} {t ty e : TypeId} {i : TypeInfo} {z : Value} {size bytes : Nat} (ht : P.underlying t = some (.slice e)) (hi : P.info? e = some i) (hz : i.zero = some z) (hsize : i.size = size) (hby : i.bytes = bytes)
    {v : Value} {n : Nat} {xs : List Value} (hown : w.ownsRow base e size v n xs) {a : Addr} {m c : Nat} {news : List Value} (hl : news.length = m * size) (hnews : ∀ j u, news[j]? = some u → w.cell? (a.add j) = some u) (h1 : ∀ u ∈ news, u.oneCell' = true)
    (hm : 0 < m) (h63 : n + m ≤ maxLen) (hbytes : (n + m) * bytes ≤ 140737488355328) {v' : Value} {w' : World} (hr : (Builtin.append_ #[t, t] ty #[v, .slice (some a) m c]).run P w = .ok v' w') :
    v'.ownBlock = v.ownBlock ∨ v'.ownBlock = some w.heap.size := by
  subst hsize
  subst hby
  have hs : n + m ≤ 9223372036854775807 := by simp only [maxLen] at h63; omega
  obtain ⟨hlen, ⟨rfl, rfl⟩ | ⟨g, cap, cur, rfl, _, hg, _, _, hcs, _⟩⟩ := hown
  · have hq := run_append_nil (P := P) w t ty e i z ht hi hz a m c news hl hnews hm (by omega) (by simp only [Nat.zero_add] at hbytes; omega)
    rw [hq] at hr
    injection hr with e1
    subst e1
    exact .inr rfl
  · by_cases hroom : n + m ≤ cap
    · have hq := run_append_room (P := P) w t ty e i ht hi g n cap cur hg a m c news hl hnews h1 hroom (by rw [hl, hcs, ← Nat.add_mul]; exact Nat.mul_le_mul_right _ hroom)
      rw [hq] at hr
      injection hr with e1
      subst e1
      exact .inl rfl
    · have hcells : ∀ j u, xs[j]? = some u → w.cell? ((⟨g, 0, none⟩ : Addr).add j) = some u :=
        World.ownsRow.cells (base := 0) (n := n) ⟨hlen, .inr ⟨g, cap, cur, rfl, Nat.zero_le _, hg, by assumption, by assumption, hcs, by assumption⟩⟩ rfl
      have hq := run_append_grow (P := P) w t ty e i z ht hi hz ⟨g, 0, none⟩ n cap xs hlen hcells a m c news hl hnews (by omega) (by omega) (growslice_fits (by omega) hbytes)
      rw [hq] at hr
      injection hr with e1
      subst e1
      exact .inr rfl
end

theorem five_at (w : World) (x : Nd) (t : TypeId) : ∀ (j : Nat) (u : Value), (nds [x])[j]? = some u → (w.alloc (.cells #[.int .i64 x.k, .int .i64 x.a, .int .i64 x.b, .int .i64 x.n, .int .i64 x.m] t)).cell? ((⟨w.heap.size, 0, none⟩ : Addr).add j) = some u := fun j u hj => by
  have h : Bk (w.alloc (.cells #[.int .i64 x.k, .int .i64 x.a, .int .i64 x.b, .int .i64 x.n, .int .i64 x.m] t)) w.heap.size t (nds [x]) := Bk.new w t (nds [x])
  rw [add_zero_row, h.cell]
  exact hj

/-- What is left by an append of a node. -/
structure Appd (W w' : World) (base : Nat) (A A' : Option Addr) (c' : Nat) (l : List Nd) : Prop where
  own : OwnN w' base A' c' l
  grown : W.grownBy w' (rowOf A)
  at_ : rowOf A' = rowOf A ∨ rowOf A' = some W.heap.size

theorem wpList_append_node {ops : Array Oper} {rest : List Oper} {o : Oper} {a : Act} {Q : Exit → Act → World → Prop} {w : World} (hgd : o.guard = none) (s y : Operand)
    (ho : o.op = .call { callee := .builtin .append, args := #[s, y], argTypes := #[30, 30] }) (base : Nat) (A : Option Addr) (c : Nat) (l : List Nd) (x : Nd) (n : Nat) (hnl : l.length = n) (hs : a.eval s = .slice A n c) (hown : OwnN w base A c l)
    (g : Nat) (hx : a.eval y = .slice (some ⟨g, 0, none⟩) 1 1) (hg : g = w.heap.size) (hn : n ≤ 1048576) (hb : base ≤ w.heap.size)
    (h : ∀ (A' : Option Addr) (c' : Nat) (w' : World), Appd (w.alloc (.cells #[.int .i64 x.k, .int .i64 x.a, .int .i64 x.b, .int .i64 x.n, .int .i64 x.m] 69)) w' base A A' c' (l ++ [x]) → wpList Try.prog ops Q rest (a.put o.dst (.slice A' (n + 1) c')) w') :
    wpList Try.prog ops Q (o :: rest) a (w.alloc (.cells #[.int .i64 x.k, .int .i64 x.a, .int .i64 x.b, .int .i64 x.n, .int .i64 x.m] 69)) := by
  subst hg
  subst hnl
  obtain ⟨i, hi, hz0, hz1, hz2⟩ := info_parts Try.infoNode
  have hown2 := hown.below ((Below.refl w.heap.size w).alloc (Nat.le_refl _) (.cells #[.int .i64 x.k, .int .i64 x.a, .int .i64 x.b, .int .i64 x.n, .int .i64 x.m] 69)) (Nat.le_refl _)
  have hfive := five_at w x 69
  have hone : ∀ u ∈ nds [x], u.oneCell' = true := by
    intro u hu
    simp [nds] at hu
    rcases hu with rfl | rfl | rfl | rfl | rfl <;> rfl
  refine wpList_plain hgd fun K hK => ?_
  obtain ⟨v', w', hr, h2, h3, _⟩ := run_append_own (P := Try.prog) (w.alloc (.cells #[.int .i64 x.k, .int .i64 x.a, .int .i64 x.b, .int .i64 x.n, .int .i64 x.m] 69)) base 30 o.type 69 i _ 5 40 Try.underlying30 hi hz0 hz1 hz2 rfl (by decide)
    (.slice A l.length c) l.length (nds l) hown2 ⟨w.heap.size, 0, none⟩ 1 1 (nds [x]) rfl hfive hone (by unfold maxLen; omega) (by omega) (by simp; omega)
  have hw := append_where (w.alloc (.cells #[.int .i64 x.k, .int .i64 x.a, .int .i64 x.b, .int .i64 x.n, .int .i64 x.m] 69)) Try.underlying30 hi hz0 hz1 hz2 hown2 (news := nds [x]) (m := 1) rfl hfive hone (by decide) (by unfold maxLen; omega) (by omega) hr
  have hv : ∃ A' c', v' = .slice A' (l.length + 1) c' := by
    obtain ⟨_, ⟨_, h0⟩ | ⟨g, cap, cur, hv, _⟩⟩ := h2
    · omega
    · exact ⟨_, _, hv⟩
  obtain ⟨A', c', rfl⟩ := hv
  unfold Oper.wp execOp
  simp only [ho, resolve, invoke, builtin, Sem.run_bind, Sem.run_pure, Result.andThen_ok, List.map_toArray, List.map_cons, List.map_nil, hs, hx, hr]
  refine hK _ _ (h A' c' w' ⟨?_, by rw [← ownBlock_slice A l.length c]; exact h3, by simpa only [ownBlock_slice] using hw⟩)
  unfold OwnN
  rw [List.length_append, nds_append]
  exact h2

end Go.Proofs.Ytkjhncohanfciaa
