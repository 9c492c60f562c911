/- Nodes are appended to a slice of nodes of the call's own; a slice of nodes is cloned. -/
import Derived.Test.YtkjhncohanfciaaAppN
import Derived.Test.YtkjhncohanfciaaPost
namespace Go.Proofs.Ytkjhncohanfciaa
open Go.RowKit

theorem nds_one (l : List Nd) : ∀ u ∈ nds l, u.oneCell' = true := by
  induction l with
  | nil => intro u hu; simp [nds] at hu
  | cons x l ih =>
    intro u hu
    simp only [nds, List.mem_cons] at hu
    rcases hu with rfl | rfl | rfl | rfl | rfl | hu
    · rfl
    · rfl
    · rfl
    · rfl
    · rfl
    · exact ih u hu

theorem rd_flat {w : World} {b o : Nat} {l : List Nd} (hc : ∀ (k : Nat) (x : Nd), l[k]? = some x → At5 w b (o + k * 5) x) (j : Nat) (u : Value) (hj : (nds l)[j]? = some u) : w.cell? ((⟨b, o, none⟩ : Addr).add j) = some u := by
  rw [Addr.add_lit]
  have hlt : j < l.length * 5 := by rw [← nds_len]; exact (List.getElem?_eq_some_iff.1 hj).1
  obtain ⟨k, hk⟩ : ∃ k, k = j / 5 := ⟨_, rfl⟩
  obtain ⟨r, hr⟩ : ∃ r, r = j % 5 := ⟨_, rfl⟩
  have hjk : j = k * 5 + r := by omega
  have hr5 : r < 5 := by omega
  have hkl : k < l.length := by omega
  have hx : l[k]? = some l[k] := List.getElem?_eq_getElem hkl
  obtain ⟨c0, c1, c2, c3, c4⟩ := hc k _ hx
  obtain ⟨h0, h1, h2, h3, h4⟩ := nds_at hx
  clear hk hr
  subst hjk
  have hrr : r = 0 ∨ r = 1 ∨ r = 2 ∨ r = 3 ∨ r = 4 := by omega
  rcases hrr with rfl | rfl | rfl | rfl | rfl
  · exact c0.trans (h0.symm.trans hj)
  · rw [← Nat.add_assoc]; exact c1.trans (h1.symm.trans hj)
  · rw [← Nat.add_assoc]; exact c2.trans (h2.symm.trans hj)
  · rw [← Nat.add_assoc]; exact c3.trans (h3.symm.trans hj)
  · rw [← Nat.add_assoc]; exact c4.trans (h4.symm.trans hj)

theorem wpList_append_nodes {ops : Array Oper} {rest : List Oper} {o : Oper} {a : Act} {Q : Exit → Act → World → Prop} {w : World} (hgd : o.guard = none) (s y : Operand)
    (ho : o.op = .call { callee := .builtin .append, args := #[s, y], argTypes := #[30, 30] }) (base : Nat) (A : Option Addr) (c : Nat) (l xs : List Nd) (n : Nat) (hnl : l.length = n) (hs : a.eval s = .slice A n c) (hown : OwnN w base A c l)
    (ad : Addr) (m cx : Nat) (hx : a.eval y = .slice (some ad) m cx) (hm : xs.length = m) (hread : ∀ j u, (nds xs)[j]? = some u → w.cell? (ad.add j) = some u) (hpos : 0 < m) (hn : n + m ≤ 1048576) (hb : base ≤ w.heap.size)
    (h : ∀ (A' : Option Addr) (c' : Nat) (w' : World), Appd w w' base A A' c' (l ++ xs) → wpList Try.prog ops Q rest (a.put o.dst (.slice A' (n + m) c')) w') :
    wpList Try.prog ops Q (o :: rest) a w := by
  subst hnl
  subst hm
  obtain ⟨i, hi, hz0, hz1, hz2⟩ := info_parts Try.infoNode
  refine wpList_plain hgd fun K hK => ?_
  obtain ⟨v', w', hr, h2, h3, _⟩ := run_append_own (P := Try.prog) w base 30 o.type 69 i _ 5 40 Try.underlying30 hi hz0 hz1 hz2 rfl (by decide)
    (.slice A l.length c) l.length (nds l) hown ad xs.length cx (nds xs) (nds_len xs) hread (nds_one xs) (by unfold maxLen; omega) (by omega) (by omega)
  have hw := append_where w Try.underlying30 hi hz0 hz1 hz2 hown (news := nds xs) (m := xs.length) (nds_len xs) hread (nds_one xs) hpos (by unfold maxLen; omega) (by omega) hr
  have hv : ∃ A' c', v' = .slice A' (l.length + xs.length) c' := by
    obtain ⟨_, ⟨_, h0⟩ | ⟨g, cap, cur, hv, _⟩⟩ := h2
    · omega
    · exact ⟨_, _, hv⟩
  obtain ⟨A', c', rfl⟩ := hv
  unfold Oper.wp execOp
  simp only [ho, resolve, invoke, builtin, Sem.run_bind, Sem.run_pure, Result.andThen_ok, List.map_toArray, List.map_cons, List.map_nil, hs, hx, hr]
  refine hK _ _ (h A' c' w' ⟨?_, by rw [← ownBlock_slice A l.length c]; exact h3, by simpa only [ownBlock_slice] using hw⟩)
  unfold OwnN
  rw [List.length_append, nds_append]
  exact h2

theorem own_empty (w : World) : OwnN (w.alloc (.cells #[] 69)) w.heap.size (some ⟨w.heap.size, 0, none⟩) 0 [] := by
  have h1 : Bk (w.alloc (.cells #[] 69)) w.heap.size 69 (nds []) := Bk.new w 69 []
  exact h1.own (Nat.le_refl _) (by simp)

theorem nilN (ad : Addr) (n c : Nat) (w : World) : (binOp .eql 30 (.slice (some ad) n c) (.slice none 0 0)).run Try.prog w = .ok (.bool false) w := by kernel_rfl

end Go.Proofs.Ytkjhncohanfciaa
