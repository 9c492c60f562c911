/- Texts on the program and its reference, put together (VSa, Add, Ord, Clone, Put, JoinM, SrcsM, ListM, PlM). -/
import Derived.Test.YtjhdjfobbgfpfaaMQG
import Derived.Deep.RegionHeld3
import Derived.Test.YtjhdjfobbgfpfaaMQB
import Derived.Deep.AppendLies
import Derived.Lib.SlicesCompact
import Derived.Test.YtjhdjfobbgfpfaaMQC
import Derived.Laws.MakeOwn
import Derived.OwnWalk
/- Contracts: whether a state is one of a pipe and sources, told by the reference and by the program. -/
namespace Go.Proofs.Ytjhdjfobbgfpfaa
open Go.RowKit

/-- The greatest count of a node. -/
def mostOf (x : Nd) (src : List (List Int)) : Int :=
  if x.k = 0 then ((src.getD x.n.toNat []).length : Int) else if x.k = 3 then x.n else if x.k = 4 then x.n else if x.k = 6 then 1 else if x.k = 10 then 1 else if x.k = 11 then 99 else 0
/-- Whether a cell can be that of a node. -/
def cellOk (src : List (List Int)) (p : Nd × Cl) : Bool := inR p.2.n 0 (mostOf p.1 src) && (inR p.2.l 0 99 && inR p.2.r 0 99)
/-- Whether there are a cell for each node, and each one can be that. -/
def cellsOk (l : List Nd) (src : List (List Int)) (cs : List Cl) : Bool := decide (cs.length = l.length) && (l.zip cs).all (cellOk src)
def stateOk (l : List Nd) (src : List (List Int)) (cs : List Cl) : Bool := pipeOk l && (srcOk src && cellsOk l src cs)
theorem zip_get {l : List Nd} {cs : List Cl} {k : Nat} {x : Nd} {c : Cl} (hx : l[k]? = some x) (hc : cs[k]? = some c) : (l.zip cs)[k]? = some (x, c) := by
  rw [List.getElem?_zip_eq_some]; exact ⟨hx, hc⟩
theorem src_rows {src : List (List Int)} (h : srcOk src = true) : src.length = 3 ∧ ∀ r ∈ src, r.length ≤ 12 := by
  simp only [srcOk, Bool.and_eq_true, decide_eq_true_eq, List.all_eq_true, rowOk] at h
  exact ⟨h.2, fun r hr => (h.1 r hr).1⟩
theorem mostOf_bd {x : Nd} {src : List (List Int)} (h : srcOk src = true) (hn : numsOk x = true) : 0 ≤ mostOf x src ∧ mostOf x src ≤ 1000 := by
  obtain ⟨h3, hr⟩ := src_rows h
  unfold mostOf
  split
  · rename_i hk
    refine ⟨by omega, ?_⟩
    have : (src.getD x.n.toNat []).length ≤ 12 := by
      rw [List.getD_eq_getElem?_getD]
      cases e : src[x.n.toNat]? with
      | none => simp
      | some r => exact hr r (List.mem_of_getElem? e)
    omega
  · split
    · rename_i hk; simp [numsOk, hk, inR] at hn; omega
    · split
      · rename_i hk; simp [numsOk, hk, inR] at hn; omega
      · split
        · omega
        · split
          · omega
          · split <;> omega

end Go.Proofs.Ytjhdjfobbgfpfaa

/- Contracts: the nodes of a tree, in order, behind others (the program: a method of a value behind the interface). -/
namespace Go.Proofs.Ytjhdjfobbgfpfaa
open Go.RowKit

/-- Nodes with one below have no second one. -/
def T.Fit : T → Prop
  | .leaf _ => True
  | .stem x t => x.b = -1 ∧ t.Fit
  | .fork _ a b => a.Fit ∧ b.Fit
theorem IsTree.fit {l : List Nd} {i : Nat} {t : T} (h : IsTree l i t) : t.Fit := by
  induction h with
  | leaf => trivial
  | stem _ _ _ _ h2 _ ih => exact ⟨h2, ih⟩
  | fork _ _ _ _ _ _ _ _ iha ihb => exact ⟨iha, ihb⟩

/-- The nodes of the tree of the node i, in order; none if the pipe is not valid. -/
structure OrdOf (l : List Nd) (ok : Bool) (i : Nat) (q : List Nd) : Prop where
  no : ok = false → q = []
  yes : ∀ {t : T}, ok = true → IsTree l i t → q = t.put 0

theorem own_nil (w : World) (base : Nat) : OwnN w base none 0 [] := World.ownsRow_nil w base _ 5

end Go.Proofs.Ytjhdjfobbgfpfaa

/- Contracts: a pipe with its nodes in order, and the part of a node, told by the reference and by the program. -/
namespace Go.Proofs.Ytjhdjfobbgfpfaa
open Go.RowKit

theorem IsTree.size_le {l : List Nd} {i : Nat} {t : T} (h : IsTree l i t) : t.size + 1 ≤ 2 ^ (i + 1) := by
  induction h with
  | @leaf i => simp only [T.size]; have := Nat.one_lt_two_pow (n := i + 1) (by omega); omega
  | @stem i j x t _ _ _ hj _ _ ih =>
    simp only [T.size]
    have h1 : 2 ^ (j + 1) ≤ 2 ^ i := Nat.pow_le_pow_right (by decide) (by omega)
    have h2 : 2 ^ (i + 1) = 2 * 2 ^ i := by rw [Nat.pow_succ, Nat.mul_comm]
    have h3 : 1 ≤ 2 ^ i := Nat.one_le_two_pow
    omega
  | @fork i j j2 x a b _ _ _ hj _ hj2 _ _ iha ihb =>
    simp only [T.size]
    have h1 : 2 ^ (j + 1) ≤ 2 ^ i := Nat.pow_le_pow_right (by decide) (by omega)
    have h4 : 2 ^ (j2 + 1) ≤ 2 ^ i := Nat.pow_le_pow_right (by decide) (by omega)
    have h2 : 2 ^ (i + 1) = 2 * 2 ^ i := by rw [Nat.pow_succ, Nat.mul_comm]
    omega
theorem IsTree.size_12 {l : List Nd} {i : Nat} {t : T} (h : IsTree l i t) (hi : i < 12) : t.size ≤ 4096 := by
  have h1 := h.size_le
  have h2 : 2 ^ (i + 1) ≤ 2 ^ 12 := Nat.pow_le_pow_right (by decide) (by omega)
  omega

theorem Wrote.below {w W w1 : World} {base c' : Nat} {A A' : Option Addr} {q : List Nd} (k : Wrote W w1 base A A' c' q) (h : Below w.heap.size w W) (hA : ∀ g, rowOf A = some g → w.heap.size ≤ g) : Below w.heap.size w w1 :=
  h.grown k.grown h.size hA

theorem RdN.nil_ (w : World) (B : Nat) : RdN w B none [] := fun h => absurd h (by simp)

end Go.Proofs.Ytjhdjfobbgfpfaa

/- Nodes are appended to a slice of nodes of the call's own; a slice of nodes is cloned. -/
namespace Go.Proofs.Ytjhdjfobbgfpfaa
open Go.RowKit

theorem nds_one (l : List Nd) : ∀ u ∈ nds l, u.oneCell' = true := by
  induction l with
  | nil => intro u hu; simp [nds] at hu
  | cons x l ih =>
    intro u hu
    simp only [nds, List.mem_cons] at hu
    rcases hu with rfl | rfl | rfl | rfl | rfl | hu
    · rfl
    · rfl
    · rfl
    · rfl
    · rfl
    · exact ih u hu

theorem rd_flat {w : World} {b o : Nat} {l : List Nd} (hc : ∀ (k : Nat) (x : Nd), l[k]? = some x → At5 w b (o + k * 5) x) (j : Nat) (u : Value) (hj : (nds l)[j]? = some u) : w.cell? ((⟨b, o, none⟩ : Addr).add j) = some u := by
  rw [Addr.add_lit]
  have hlt : j < l.length * 5 := by rw [← nds_len]; exact (List.getElem?_eq_some_iff.1 hj).1
  obtain ⟨k, hk⟩ : ∃ k, k = j / 5 := ⟨_, rfl⟩
  obtain ⟨r, hr⟩ : ∃ r, r = j % 5 := ⟨_, rfl⟩
  have hjk : j = k * 5 + r := by omega
  have hr5 : r < 5 := by omega
  have hkl : k < l.length := by omega
  have hx : l[k]? = some l[k] := List.getElem?_eq_getElem hkl
  obtain ⟨c0, c1, c2, c3, c4⟩ := hc k _ hx
  obtain ⟨h0, h1, h2, h3, h4⟩ := nds_at hx
  clear hk hr
  subst hjk
  have hrr : r = 0 ∨ r = 1 ∨ r = 2 ∨ r = 3 ∨ r = 4 := by omega
  rcases hrr with rfl | rfl | rfl | rfl | rfl
  · exact c0.trans (h0.symm.trans hj)
  · rw [← Nat.add_assoc]; exact c1.trans (h1.symm.trans hj)
  · rw [← Nat.add_assoc]; exact c2.trans (h2.symm.trans hj)
  · rw [← Nat.add_assoc]; exact c3.trans (h3.symm.trans hj)
  · rw [← Nat.add_assoc]; exact c4.trans (h4.symm.trans hj)

theorem wpList_append_nodes {ops : Array Oper} {rest : List Oper} {o : Oper} {a : Act} {Q : Exit → Act → World → Prop} {w : World} (hgd : o.guard = none) (s y : Operand)
    (ho : o.op = .call { callee := .builtin .append, args := #[s, y], argTypes := #[30, 30] }) (base : Nat) (A : Option Addr) (c : Nat) (l xs : List Nd) (n : Nat) (hnl : l.length = n) (hs : a.eval s = .slice A n c) (hown : OwnN w base A c l)
    (ad : Addr) (m cx : Nat) (hx : a.eval y = .slice (some ad) m cx) (hm : xs.length = m) (hread : ∀ j u, (nds xs)[j]? = some u → w.cell? (ad.add j) = some u) (hpos : 0 < m) (hn : n + m ≤ 1048576) (hb : base ≤ w.heap.size)
    (h : ∀ (A' : Option Addr) (c' : Nat) (w' : World), Appd w w' base A A' c' (l ++ xs) → wpList Try.prog ops Q rest (a.put o.dst (.slice A' (n + m) c')) w') :
    wpList Try.prog ops Q (o :: rest) a w := by
  subst hnl
  subst hm
  obtain ⟨i, hi, hz0, hz1, hz2⟩ := info_parts Try.infoNode
  refine wpList_plain hgd fun K hK => ?_
  obtain ⟨v', w', hr, h2, h3, _⟩ := run_append_own (P := Try.prog) w base 30 o.type 104 i _ 5 40 Try.underlying30 hi hz0 hz1 hz2 rfl (by decide)
    (.slice A l.length c) l.length (nds l) hown ad xs.length cx (nds xs) (nds_len xs) hread (nds_one xs) (by unfold maxLen; omega) (by omega) (by omega)
  have hw := append_where w Try.underlying30 hi hz0 hz1 hz2 hown (news := nds xs) (m := xs.length) (nds_len xs) hread (nds_one xs) hpos (by unfold maxLen; omega) (by omega) hr
  have hv : ∃ A' c', v' = .slice A' (l.length + xs.length) c' := by
    obtain ⟨_, ⟨_, h0⟩ | ⟨g, cap, cur, hv, _⟩⟩ := h2
    · omega
    · exact ⟨_, _, hv⟩
  obtain ⟨A', c', rfl⟩ := hv
  unfold Oper.wp execOp
  simp only [ho, resolve, invoke, builtin, Sem.run_bind, Sem.run_pure, Result.andThen_ok, List.map_toArray, List.map_cons, List.map_nil, hs, hx, hr]
  refine hK _ _ (h A' c' w' ⟨?_, by rw [← ownBlock_slice A l.length c]; exact h3, by simpa only [ownBlock_slice] using hw⟩)
  unfold OwnN
  rw [List.length_append, nds_append]
  exact h2

theorem own_empty (w : World) : OwnN (w.alloc (.cells #[] 104)) w.heap.size (some ⟨w.heap.size, 0, none⟩) 0 [] := by
  have h1 : Bk (w.alloc (.cells #[] 104)) w.heap.size 104 (nds []) := Bk.new w 104 []
  exact h1.own (Nat.le_refl _) (by simp)

theorem nilN (ad : Addr) (n c : Nat) (w : World) : (binOp .eql 30 (.slice (some ad) n c) (.slice none 0 0)).run Try.prog w = .ok (.bool false) w := by kernel_rfl

end Go.Proofs.Ytjhdjfobbgfpfaa

/- Contracts: a node put on a pipe, told by the reference and by the program. -/
namespace Go.Proofs.Ytjhdjfobbgfpfaa
open Go.RowKit

/-- Whether the node can be put on the pipe. -/
def putOk (l : List Nd) (x : Nd) : Bool := pipeOk l && ((arity x.k == 1) && (numsOk x && !(l.length == 12)))

/-- A node put on a pipe. -/
structure PutOf (l : List Nd) (x : Nd) (q : List Nd) (ok : Bool) : Prop where
  no : putOk l x = false → q = [] ∧ ok = false
  yes : putOk l x = true → q = l ++ [⟨x.k, (l.length : Int) - 1, -1, x.n, x.m⟩] ∧ ok = true

theorem known_of {k : Int} (h : (arity k == 1) = true) : known k = true := by
  rcases kinds k with (rfl | rfl | rfl | rfl | rfl | rfl | rfl | rfl | rfl | rfl | rfl | rfl | rfl | rfl) | ⟨e0, e1, e2, e3, e4, e5, e6, e7, e8, e9, e10, e11, e12, e13⟩
  all_goals first | rfl | exact absurd h (by decide) | (simp only [arity, e0, e1, e2, e3, e4, e5, e6, e7, e8, e9, e10, e11, e12, e13] at h; exact absurd h (by decide))

theorem Bk.drew_ {w : World} {g : Nat} {t : TypeId} {cs : List Value} (h : Bk w g t cs) : Bk w.drew g t cs := h

theorem arity_vals (k : Int) : arity k = 1 ∨ arity k = 0 ∨ arity k = 2 ∨ arity k = -1 := by
  unfold arity
  split
  · simp
  · split
    · simp
    · split <;> simp

end Go.Proofs.Ytjhdjfobbgfpfaa

/- Plain mathematics: a tree put behind other nodes is that tree moved; what two pipes joined are; what a pipe with moved sources is. -/
namespace Go.Proofs.Ytjhdjfobbgfpfaa

/-- A node behind n others. -/
def shNd (n : Nat) (x : Nd) : Nd := ⟨x.k, if 0 ≤ x.a then x.a + n else x.a, if 0 ≤ x.b then x.b + n else x.b, x.n, x.m⟩

/-- The nodes have no more below than the tree tells. -/
def T.Fit2 : T → Prop
  | .leaf x => x.a = -1 ∧ x.b = -1
  | .stem x t => x.b = -1 ∧ t.Fit2
  | .fork _ a b => a.Fit2 ∧ b.Fit2
theorem IsTree.fit2 {l : List Nd} {i : Nat} {t : T} (h : IsTree l i t) : t.Fit2 := by
  induction h with
  | leaf _ _ h1 h2 => exact ⟨h1, h2⟩
  | stem _ _ _ _ h2 _ ih => exact ⟨h2, ih⟩
  | fork _ _ _ _ _ _ _ _ iha ihb => exact ⟨iha, ihb⟩
theorem T.put_shift (t : T) : t.Fit2 → ∀ m n : Nat, (t.put m).map (shNd n) = t.put (m + n) := by
  induction t with
  | leaf x =>
    intro h m n
    obtain ⟨h1, h2⟩ := h
    obtain ⟨k, a, b, n', m'⟩ := x
    simp only at h1 h2
    subst h1 h2
    rfl
  | stem x t ih =>
    intro h m n
    obtain ⟨hb, ht⟩ := h
    have hp := t.size_pos
    simp only [T.put, List.map_append, ih ht, List.map_cons, List.map_nil, shNd]
    rw [if_pos (by omega), if_neg (by rw [hb]; omega)]
    have e : (m : Int) + (t.size : Int) - 1 + (n : Int) = ((m + n : Nat) : Int) + (t.size : Int) - 1 := by omega
    rw [e]
  | fork x a b iha ihb =>
    intro h m n
    obtain ⟨ha, hb⟩ := h
    have hp := a.size_pos
    have hq := b.size_pos
    simp only [T.put, List.map_append, iha ha, ihb hb, List.map_cons, List.map_nil, shNd]
    rw [if_pos (by omega), if_pos (by omega)]
    have e : (m : Int) + (a.size : Int) - 1 + (n : Int) = ((m + n : Nat) : Int) + (a.size : Int) - 1 := by omega
    have e2 : (m : Int) + (a.size : Int) + (b.size : Int) - 1 + (n : Int) = ((m + n : Nat) : Int) + (a.size : Int) + (b.size : Int) - 1 := by omega
    have e3 : m + a.size + n = m + n + a.size := by omega
    rw [e, e2, e3]

/-- Whether two pipes can be joined. -/
def joinOk (l r : List Nd) (k : Int) : Bool := pipeOk l && (pipeOk r && ((arity k == 2) && decide (l.length + r.length < 12)))
/-- Two pipes joined. -/
structure JoinOf (l r : List Nd) (k : Int) (q : List Nd) (ok : Bool) : Prop where
  no : joinOk l r k = false → q = [] ∧ ok = false
  yes : ∀ {ta tb : T}, joinOk l r k = true → IsTree l (l.length - 1) ta → IsTree r (r.length - 1) tb → q = (T.fork ⟨k, 0, 0, 0, 0⟩ ta tb).put 0 ∧ ok = true
theorem join_parts (k : Int) (ta tb : T) (hb : tb.Fit2) : (T.fork ⟨k, 0, 0, 0, 0⟩ ta tb).put 0 = ta.put 0 ++ (tb.put 0).map (shNd ta.size) ++ [⟨k, (ta.size : Int) - 1, (ta.size : Int) + (tb.size : Int) - 1, 0, 0⟩] := by
  simp only [T.put, T.put_shift tb hb 0 ta.size]
  simp

/-- A node with its source moved. -/
def mvNd (to : List Int) (x : Nd) : Nd := if x.k = 0 then ⟨x.k, x.a, x.b, to.getD x.n.toNat 0, x.m⟩ else x
/-- Whether the sources of a pipe can be moved. -/
def moveOk (l : List Nd) (to : List Int) : Bool := pipeOk l && (decide (to.length = 3) && allB to 0 2)
/-- A pipe with its sources moved. -/
structure MoveOf (l : List Nd) (to : List Int) (q : List Nd) : Prop where
  no : moveOk l to = false → q = []
  yes : moveOk l to = true → q = l.map (mvNd to)
theorem source_n {l : List Nd} (h : pipeOk l = true) {i : Nat} {x : Nd} (hx : l[i]? = some x) (hk : x.k = 0) : ∃ s : Nat, x.n = (s : Int) ∧ s < 3 := by
  have h1 := (pipeOk_iff.1 h).node i x hx
  simp only [nodeOk, Bool.and_eq_true] at h1
  have h2 := h1.1
  simp [numsOk, hk, inR] at h2
  exact ⟨x.n.toNat, by omega, by omega⟩
theorem nds_set_n {l : List Nd} {k : Nat} {x : Nd} (hx : l[k]? = some x) (v : Int) : (nds l).set (k * 5 + 3) (.int .i64 v) = nds (l.set k ⟨x.k, x.a, x.b, v, x.m⟩) := by
  induction l generalizing k with
  | nil => simp at hx
  | cons y l ih =>
    cases k with
    | zero =>
      simp at hx
      subst hx
      simp [nds]
    | succ k =>
      have e : (k + 1) * 5 + 3 = k * 5 + 3 + 5 := by omega
      rw [e]
      have := ih (k := k) (by simpa using hx)
      simp only [nds, List.set_cons_succ, List.set]
      rw [← this]
theorem mv_step {l : List Nd} {to : List Int} {j : Nat} {x : Nd} (hx : l[j]? = some x) : ((l.take j).map (mvNd to) ++ l.drop j).set j (mvNd to x) = (l.take (j + 1)).map (mvNd to) ++ l.drop (j + 1) := by
  have hj : j < l.length := (List.getElem?_eq_some_iff.1 hx).1
  rw [List.set_append_right _ _ (by simp; omega), take_succ_of hx]
  have e : j - ((l.take j).map (mvNd to)).length = 0 := by simp; omega
  rw [e]
  cases h : l.drop j with
  | nil => have := congrArg List.length h; simp at this; omega
  | cons y r =>
    have : l.drop (j + 1) = r := by rw [← List.drop_drop, h]; rfl
    rw [this]
    simp
theorem mv_same {l : List Nd} {to : List Int} {j : Nat} {x : Nd} (hx : l[j]? = some x) (hk : x.k ≠ 0) : (l.take j).map (mvNd to) ++ l.drop j = (l.take (j + 1)).map (mvNd to) ++ l.drop (j + 1) := by
  have hj : j < l.length := (List.getElem?_eq_some_iff.1 hx).1
  rw [take_succ_of hx]
  cases h : l.drop j with
  | nil => have := congrArg List.length h; simp at this; omega
  | cons y r =>
    have h1 : l.drop (j + 1) = r := by rw [← List.drop_drop, h]; rfl
    have h2 : y = x := by
      have := List.getElem?_drop (xs := l) (i := j) (j := 0)
      rw [h] at this
      simp [hx] at this
      exact this
    rw [h1, h2]
    simp [mvNd, hk]

end Go.Proofs.Ytjhdjfobbgfpfaa

/- Plain mathematics: the sources of a pipe, ascending, each once. -/
namespace Go.Proofs.Ytjhdjfobbgfpfaa
open Go.Lib

/-- Whether a pipe has the source s. -/
def srcIn (l : List Nd) (s : Int) : Bool := l.any (fun x => x.k == 0 && x.n == s)
/-- The sources less than s, ascending. -/
def srcs (l : List Nd) (s : Nat) : List Int := ((List.range s).filter (fun s : Nat => srcIn l (s : Int))).map (fun s : Nat => (s : Int))
/-- The sources in the order of the nodes. -/
def nsOf (l : List Nd) : List Int := (l.filter (fun x => x.k == 0)).map (·.n)
structure SrcsOf (l : List Nd) (q : List Int) : Prop where
  no : pipeOk l = false → q = []
  yes : pipeOk l = true → q = srcs l 3

theorem srcs_succ (l : List Nd) (s : Nat) : srcs l (s + 1) = srcs l s ++ (if srcIn l s then [(s : Int)] else []) := by
  unfold srcs
  rw [List.range_succ, List.filter_append, List.map_append]
  congr 1
  by_cases h : srcIn l s <;> simp [h]
theorem srcs_len (l : List Nd) (s : Nat) : (srcs l s).length ≤ s := by
  unfold srcs
  rw [List.length_map]
  have := List.length_filter_le (fun s : Nat => srcIn l (s : Int)) (List.range s)
  simpa using this
theorem nsOf_succ {l : List Nd} {k : Nat} {x : Nd} (h : l[k]? = some x) : nsOf (l.take (k + 1)) = nsOf (l.take k) ++ (if x.k == 0 then [x.n] else []) := by
  unfold nsOf
  rw [take_succ_of h, List.filter_append, List.map_append]
  congr 1
  by_cases e : (x.k == 0) = true
  · simp [e]
  · simp [e]
theorem nsOf_len (l : List Nd) (k : Nat) : (nsOf (l.take k)).length ≤ k := by
  unfold nsOf
  rw [List.length_map]
  have := List.length_filter_le (fun x : Nd => x.k == 0) (l.take k)
  have := List.length_take_le k l
  omega

/-- Two ascending lists with the same members are one. -/
theorem asc_unique : ∀ (a b : List Int), a.Pairwise (· < ·) → b.Pairwise (· < ·) → (∀ x, x ∈ a ↔ x ∈ b) → a = b := by
  intro a
  induction a with
  | nil =>
    intro b _ _ h
    cases b with
    | nil => rfl
    | cons y b => exact absurd ((h y).2 (by simp)) (by simp)
  | cons x a ih =>
    intro b ha hb h
    cases b with
    | nil => exact absurd ((h x).1 (by simp)) (by simp)
    | cons y b =>
      rw [List.pairwise_cons] at ha hb
      have hxy : x = y := by
        have h1 := (h x).1 (by simp)
        have h2 := (h y).2 (by simp)
        rcases List.mem_cons.1 h1 with e | e
        · exact e
        · rcases List.mem_cons.1 h2 with f | f
          · exact f.symm
          · have := ha.1 y f
            have := hb.1 x e
            omega
      subst hxy
      rw [ih b ha.2 hb.2 fun z => ?_]
      constructor
      · intro hz
        rcases List.mem_cons.1 ((h z).1 (List.mem_cons_of_mem _ hz)) with e | e
        · have := ha.1 z hz; omega
        · exact e
      · intro hz
        rcases List.mem_cons.1 ((h z).2 (List.mem_cons_of_mem _ hz)) with e | e
        · have := hb.1 z hz; omega
        · exact e

theorem compact_part (d : Array Int) (hs : ∀ i j, i ≤ j → j < d.size → d[i]! ≤ d[j]!) : ∀ m, m ≤ d.size →
    (∀ x, x ∈ compactUpTo d m ↔ ∃ j, j < m ∧ d[j]! = x) ∧ (compactUpTo d m).Pairwise (· < ·) := by
  intro m
  induction m with
  | zero => intro _; simp [compactUpTo]
  | succ m ih =>
    intro hm
    obtain ⟨h1, h2⟩ := ih (by omega)
    rw [compactUpTo_succ]
    by_cases hk : keeps d m = true
    · rw [if_pos hk]
      refine ⟨fun x => ?_, List.pairwise_append.2 ⟨h2, List.pairwise_singleton _ _, fun a ha b hb => ?_⟩⟩
      · rw [List.mem_append, h1, List.mem_singleton]
        constructor
        · rintro (⟨j, hj, e⟩ | e)
          · exact ⟨j, by omega, e⟩
          · exact ⟨m, by omega, e.symm⟩
        · rintro ⟨j, hj, e⟩
          by_cases hjm : j = m
          · subst hjm; exact .inr e.symm
          · exact .inl ⟨j, by omega, e⟩
      · rw [List.mem_singleton.1 hb]
        obtain ⟨j, hj, e⟩ := (h1 a).1 ha
        have e1 := hs j (m - 1) (by omega) (by omega)
        have e2 := hs (m - 1) m (by omega) (by omega)
        simp only [keeps, decide_eq_true_eq] at hk
        have : m ≠ 0 := by omega
        have hne := hk.resolve_left this
        omega
    · rw [if_neg hk, List.append_nil]
      refine ⟨fun x => ?_, h2⟩
      rw [h1]
      constructor
      · rintro ⟨j, hj, e⟩; exact ⟨j, by omega, e⟩
      · rintro ⟨j, hj, e⟩
        by_cases hjm : j = m
        · subst hjm
          simp only [keeps, decide_eq_true_eq, not_or] at hk
          have h0 : 0 < j := by omega
          exact ⟨j - 1, by omega, by have := Classical.not_not.1 hk.2; rw [← this]; exact e⟩
        · exact ⟨j, by omega, e⟩

theorem mem_arr {d : List Int} {x : Int} : x ∈ d ↔ ∃ j, j < d.length ∧ d.toArray[j]! = x := by
  rw [List.mem_iff_getElem]
  constructor
  · rintro ⟨j, hj, e⟩; exact ⟨j, hj, by simp [hj, e]⟩
  · rintro ⟨j, hj, e⟩; exact ⟨j, hj, by simpa [hj] using e⟩

theorem sorted_compact (zs : List Int) : (∀ x, x ∈ compact (zs.mergeSort fun x y => decide (x ≤ y)) ↔ x ∈ zs) ∧ (compact (zs.mergeSort fun x y => decide (x ≤ y))).Pairwise (· < ·) := by
  obtain ⟨d, hd⟩ : ∃ d, d = zs.mergeSort fun x y => decide (x ≤ y) := ⟨_, rfl⟩
  have hp : d.Pairwise (fun a b => decide (a ≤ b) = true) := by
    rw [hd]
    exact List.pairwise_mergeSort (fun a b c h1 h2 => by simp at *; omega) (fun a b => by simp; omega) zs
  have hs : ∀ i j, i ≤ j → j < d.toArray.size → d.toArray[i]! ≤ d.toArray[j]! := fun i j hij hj => by
    have hj' : j < d.length := by simpa using hj
    have hi' : i < d.length := by omega
    simp only [List.getElem!_toArray, getElem!_pos d i hi', getElem!_pos d j hj']
    by_cases e : i = j
    · subst e; exact Int.le_refl _
    · have := List.pairwise_iff_getElem.1 hp i j hi' hj' (by omega)
      simpa using this
  obtain ⟨h1, h2⟩ := compact_part d.toArray hs d.length (by simp)
  rw [← hd]
  refine ⟨fun x => ?_, h2⟩
  unfold compact
  rw [h1, ← mem_arr, hd, List.mem_mergeSort]

theorem srcs_asc (l : List Nd) (s : Nat) : (srcs l s).Pairwise (· < ·) := by
  unfold srcs
  rw [List.pairwise_map]
  have := (List.pairwise_lt_range (n := s)).filter (fun s : Nat => srcIn l (s : Int))
  exact this.imp (fun h => by omega)

theorem srcs_of_ns {l : List Nd} (h : pipeOk l = true) : compact ((nsOf l).mergeSort fun x y => decide (x ≤ y)) = srcs l 3 := by
  obtain ⟨h1, h2⟩ := sorted_compact (nsOf l)
  refine asc_unique _ _ h2 (srcs_asc l 3) fun x => ?_
  rw [h1]
  simp only [nsOf, srcs, srcIn, List.mem_map, List.mem_filter, List.mem_range, List.any_eq_true, Bool.and_eq_true, beq_iff_eq]
  constructor
  · rintro ⟨y, ⟨hy, hk⟩, e⟩
    obtain ⟨i, hi⟩ := List.getElem?_of_mem hy
    obtain ⟨s, hs, hs3⟩ := source_n h hi hk
    exact ⟨s, ⟨hs3, y, hy, hk, hs⟩, by omega⟩
  · rintro ⟨s, ⟨hs3, y, hy, hk, hn⟩, e⟩
    exact ⟨y, ⟨hy, hk⟩, by omega⟩

end Go.Proofs.Ytjhdjfobbgfpfaa

/- Plain mathematics: the list of a pipe, node by node. -/
namespace Go.Proofs.Ytjhdjfobbgfpfaa
open Go.Lib

/-- Numbers that items can be. -/
def Items (l : List Int) : Prop := ∀ x ∈ l, 0 ≤ x ∧ x ≤ 99
/-- What stays of a sum or product. -/
def rst (x : Int) : Int := Int.tmod x 100
theorem rst_in {x : Int} (h : 0 ≤ x) : 0 ≤ rst x ∧ rst x ≤ 99 := by
  unfold rst
  rw [Int.tmod_eq_emod_of_nonneg h]
  omega
theorem Items.get {l : List Int} (h : Items l) {k : Nat} {x : Int} (hx : l[k]? = some x) : 0 ≤ x ∧ x ≤ 99 := h x (List.mem_of_getElem? hx)
theorem Items.nil_ : Items [] := fun _ h => absurd h (by simp)
theorem Items.app {a b : List Int} (ha : Items a) (hb : Items b) : Items (a ++ b) := fun x hx => (List.mem_append.1 hx).elim (ha x) (hb x)
theorem Items.sub {a b : List Int} (ha : Items a) (h : ∀ x ∈ b, x ∈ a) : Items b := fun x hx => ha x (h x hx)
theorem Items.take {a : List Int} (ha : Items a) (n : Nat) : Items (a.take n) := ha.sub fun _ => List.mem_of_mem_take
theorem Items.drop {a : List Int} (ha : Items a) (n : Nat) : Items (a.drop n) := ha.sub fun _ => List.mem_of_mem_drop
theorem drop_cons_of {l : List Int} {i : Nat} {x : Int} (h : l[i]? = some x) : l.drop i = x :: l.drop (i + 1) := by
  obtain ⟨hi, rfl⟩ := List.getElem?_eq_some_iff.1 h
  exact List.drop_eq_getElem_cons hi

/-- The index of the first number that is at least n. -/
def frst : List Int → Int → Nat
  | [], _ => 0
  | x :: l, n => if x < n then frst l n + 1 else 0
theorem frst_le : ∀ (l : List Int) (n : Int), frst l n ≤ l.length
  | [], _ => by simp [frst]
  | x :: l, n => by
    have := frst_le l n
    simp only [frst, List.length_cons]
    split <;> omega
theorem frst_step {l : List Int} {i : Nat} {x n : Int} (h : l[i]? = some x) (hx : x < n) : frst (l.drop i) n = frst (l.drop (i + 1)) n + 1 := by
  rw [drop_cons_of h, frst, if_pos hx]
theorem frst_stop {l : List Int} {i : Nat} {x n : Int} (h : l[i]? = some x) (hx : ¬ x < n) : frst (l.drop i) n = 0 := by
  rw [drop_cons_of h, frst, if_neg hx]
theorem frst_end {l : List Int} {i : Nat} (n : Int) (h : l.length ≤ i) : frst (l.drop i) n = 0 := by
  rw [List.drop_eq_nil_of_le h, frst]

/-- The sums of the numbers at equal places. -/
def zipL (a b : List Int) : List Int := List.zipWith (fun x y => rst (x + y)) a b
theorem zipL_len (a b : List Int) : (zipL a b).length = min a.length b.length := List.length_zipWith
theorem zipL_get {a b : List Int} {i : Nat} {x y : Int} (hx : a[i]? = some x) (hy : b[i]? = some y) : (zipL a b)[i]? = some (rst (x + y)) := by
  simp [zipL, List.getElem?_zipWith, hx, hy]
theorem zipL_items {a b : List Int} (ha : Items a) (hb : Items b) : Items (zipL a b) := fun z hz => by
  obtain ⟨i, hi⟩ := List.mem_iff_getElem?.1 hz
  have hl := (List.getElem?_eq_some_iff.1 hi).1
  rw [zipL_len] at hl
  obtain ⟨x, hx⟩ := get_of_lt a (k := i) (by omega)
  obtain ⟨y, hy⟩ := get_of_lt b (k := i) (by omega)
  rw [zipL_get hx hy] at hi
  obtain rfl := Option.some.inj hi
  have := ha.get hx
  have := hb.get hy
  exact rst_in (by omega)

/-- The first i numbers of each list, by turns. -/
def turnTo (a b : List Int) : Nat → List Int
  | 0 => []
  | i + 1 => turnTo a b i ++ a[i]?.toList ++ b[i]?.toList
/-- The numbers of both lists by turns. -/
def turnL (a b : List Int) : List Int := turnTo a b (max a.length b.length)
theorem turnTo_len (a b : List Int) : ∀ i, (turnTo a b i).length ≤ 2 * i
  | 0 => by simp [turnTo]
  | i + 1 => by
    have := turnTo_len a b i
    have h1 : a[i]?.toList.length ≤ 1 := by cases a[i]? <;> simp
    have h2 : b[i]?.toList.length ≤ 1 := by cases b[i]? <;> simp
    simp only [turnTo, List.length_append]
    omega
theorem turnTo_items {a b : List Int} (ha : Items a) (hb : Items b) : ∀ i, Items (turnTo a b i)
  | 0 => Items.nil_
  | i + 1 => ((turnTo_items ha hb i).app (fun x hx => ha.get (k := i) (by simpa using hx))).app (fun x hx => hb.get (k := i) (by simpa using hx))
theorem turnTo_len_eq (a b : List Int) : ∀ i, (turnTo a b i).length = min i a.length + min i b.length
  | 0 => by simp [turnTo]
  | i + 1 => by
    have := turnTo_len_eq a b i
    simp only [turnTo, List.length_append]
    by_cases h1 : i < a.length <;> by_cases h2 : i < b.length
    · simp [h1, h2]; omega
    · simp [h1, h2]; omega
    · simp [h1, h2]; omega
    · simp [h1, h2]; omega
theorem turnL_len (a b : List Int) : (turnL a b).length = a.length + b.length := by
  rw [turnL, turnTo_len_eq]; omega

/-- Both lists merged by their first numbers. -/
def mergeL (a b : List Int) : List Int := List.merge a b (fun x y => decide (x ≤ y))
theorem mergeL_len (a b : List Int) : (mergeL a b).length = a.length + b.length := List.length_merge _ a b
theorem mergeL_nil (a : List Int) : mergeL a [] = a := by simp [mergeL]
theorem nil_mergeL (b : List Int) : mergeL [] b = b := by simp [mergeL]
theorem mergeL_left {a b : List Int} {x y : Int} (h : x ≤ y) : mergeL (x :: a) (y :: b) = x :: mergeL a (y :: b) := by
  unfold mergeL; rw [List.cons_merge_cons, if_pos (by simpa using h)]
theorem mergeL_right {a b : List Int} {x y : Int} (h : ¬ x ≤ y) : mergeL (x :: a) (y :: b) = y :: mergeL (x :: a) b := by
  unfold mergeL; rw [List.cons_merge_cons, if_neg (by simpa using h)]
theorem mergeL_items {a b : List Int} (ha : Items a) (hb : Items b) : Items (mergeL a b) := fun x hx => by
  rcases (List.mem_merge.1 hx) with h | h
  · exact ha x h
  · exact hb x h

/-- n times each number and m more. -/
def mapL (n m : Int) (l : List Int) : List Int := l.map fun x => rst (n * x + m)
/-- The numbers whose rest is m. -/
def filL (n m : Int) (l : List Int) : List Int := l.filter fun x => Int.tmod x n == m
/-- The sum of the numbers and s. -/
def sumL (s : Int) (l : List Int) : Int := l.foldl (fun s x => rst (s + x)) s
/-- The running sums behind s. -/
def scanL (s : Int) : List Int → List Int
  | [] => []
  | x :: l => rst (s + x) :: scanL (rst (s + x)) l
theorem sumL_in {s : Int} (hs : 0 ≤ s ∧ s ≤ 99) : ∀ {l : List Int}, Items l → 0 ≤ sumL s l ∧ sumL s l ≤ 99 := by
  intro l
  induction l generalizing s with
  | nil => intro _; exact hs
  | cons x l ih =>
    intro h
    have hx := h x (by simp)
    exact ih (rst_in (by omega)) (fun y hy => h y (by simp [hy]))
theorem sumL_succ {l : List Int} {i : Nat} {x : Int} (s : Int) (h : l[i]? = some x) : sumL s (l.take (i + 1)) = rst (sumL s (l.take i) + x) := by
  unfold sumL
  rw [take_succ_of h, List.foldl_append]
  rfl
theorem scanL_len : ∀ (l : List Int) (s : Int), (scanL s l).length = l.length
  | [], _ => rfl
  | x :: l, s => by simp [scanL, scanL_len l]
theorem scanL_app (l : List Int) (x s : Int) : scanL s (l ++ [x]) = scanL s l ++ [rst (sumL s l + x)] := by
  induction l generalizing s with
  | nil => rfl
  | cons y l ih => simp only [List.cons_append, scanL, ih, sumL, List.foldl_cons]
theorem scanL_succ {l : List Int} {i : Nat} {x : Int} (s : Int) (h : l[i]? = some x) : scanL s (l.take (i + 1)) = scanL s (l.take i) ++ [sumL s (l.take (i + 1))] := by
  rw [take_succ_of h, scanL_app]
  congr 2
  unfold sumL
  rw [List.foldl_append]
  rfl
theorem scanL_items {s : Int} (hs : 0 ≤ s) : ∀ {l : List Int}, Items l → Items (scanL s l) := by
  intro l
  induction l generalizing s with
  | nil => intro _; exact Items.nil_
  | cons x l ih =>
    intro h y hy
    have hx := h x (by simp)
    have hr := rst_in (x := s + x) (by omega)
    rcases List.mem_cons.1 hy with e | e
    · rw [e]; exact hr
    · exact ih hr.1 (fun z hz => h z (by simp [hz])) y e
theorem mapL_succ {l : List Int} {i : Nat} {x : Int} (n m : Int) (h : l[i]? = some x) : mapL n m (l.take (i + 1)) = mapL n m (l.take i) ++ [rst (n * x + m)] := by
  unfold mapL; rw [take_succ_of h, List.map_append]; rfl
theorem mapL_len (n m : Int) (l : List Int) : (mapL n m l).length = l.length := List.length_map _
theorem mapL_items {n m : Int} {l : List Int} (hn : 0 ≤ n) (hm : 0 ≤ m) (h : Items l) : Items (mapL n m l) := fun y hy => by
  obtain ⟨x, hx, rfl⟩ := List.mem_map.1 hy
  have := Int.mul_nonneg hn (h x hx).1
  exact rst_in (by omega)
theorem filL_succ {l : List Int} {i : Nat} {x : Int} (n m : Int) (h : l[i]? = some x) : filL n m (l.take (i + 1)) = filL n m (l.take i) ++ (if Int.tmod x n == m then [x] else []) := by
  unfold filL; rw [take_succ_of h, List.filter_append]
  congr 1
  by_cases e : (Int.tmod x n == m) = true <;> simp [e]
theorem filL_len (n m : Int) (l : List Int) : (filL n m l).length ≤ l.length := List.length_filter_le _ _
theorem filL_items {n m : Int} {l : List Int} (h : Items l) : Items (filL n m l) := h.sub fun _ hx => (List.mem_filter.1 hx).1

/-- The sums of the groups of the first i numbers, as they are made. -/
def batTo (n : Nat) (a : List Int) : Nat → List Int
  | 0 => []
  | i + 1 =>
    let o := if i % n = 0 then batTo n a i ++ [0] else batTo n a i
    o.set (o.length - 1) (rst (o.getD (o.length - 1) 0 + a.getD i 0))
theorem batTo_len (n : Nat) (a : List Int) : ∀ i, (batTo n a i).length ≤ i
  | 0 => by simp [batTo]
  | i + 1 => by
    have := batTo_len n a i
    simp only [batTo, List.length_set]
    split
    · simp; omega
    · omega
theorem batTo_pos {n : Nat} (hn : 0 < n) (a : List Int) : ∀ i, 0 < i → 0 < (batTo n a i).length
  | 0, h => absurd h (by omega)
  | i + 1, _ => by
    simp only [batTo, List.length_set]
    split
    · simp
    · rename_i h0
      refine batTo_pos hn a i (Nat.pos_of_ne_zero fun e => h0 ?_)
      rw [e, Nat.zero_mod]
/-- The sums of groups of n. -/
def batL (n : Nat) (a : List Int) : List Int := batTo n a a.length

end Go.Proofs.Ytjhdjfobbgfpfaa

/- Pulls at sources in memory. -/
namespace Go.Proofs.Ytjhdjfobbgfpfaa
open Go.RowKit

structure Pl where
  s : Int
  i : Int
deriving DecidableEq

theorem Pl.ext_ {x y : Pl} (h0 : x.s = y.s) (h1 : x.i = y.i) : x = y := by
  cases x; cases y; simp at h0 h1; simp [h0, h1]
def plEq (x y : Pl) : Bool := decide (x = y)
theorem plEq_no0 {x y : Pl} (h : (x.s != y.s) = true) : plEq x y = false := by
  apply decide_eq_false
  intro e
  subst e
  simp at h
theorem plEq_no1 {x y : Pl} (h : (x.i != y.i) = true) : plEq x y = false := by
  apply decide_eq_false
  intro e
  subst e
  simp at h
theorem plEq_yes {x y : Pl} (h0 : (x.s != y.s) = false) (h1 : (x.i != y.i) = false) : plEq x y = true := by
  apply decide_eq_true
  simp at h0 h1
  exact Pl.ext_ h0 h1
theorem plEq_ne {x y : Pl} (h : plEq x y = false) : x ≠ y := of_decide_eq_false h
theorem plEq_eq {x y : Pl} (h : plEq x y = true) : x = y := of_decide_eq_true h

/-- The cells of x stand in cs from o on. -/
structure PlIn (cs : List Value) (o : Nat) (x : Pl) : Prop where
  c0 : cs[o]? = some (.int .i64 x.s)
  c1 : cs[o + 1]? = some (.int .i64 x.i)
/-- .. in memory. -/
structure PlAt (w : World) (b o : Nat) (x : Pl) : Prop where
  c0 : w.cell? ⟨b, o, none⟩ = some (.int .i64 x.s)
  c1 : w.cell? ⟨b, o + 1, none⟩ = some (.int .i64 x.i)
theorem PlIn.at_ {w : World} {g o : Nat} {t : TypeId} {cs : List Value} {x : Pl} (h : PlIn cs o x) (hb : Bk w g t cs) : PlAt w g o x :=
  ⟨(hb.cell _).trans h.c0, (hb.cell _).trans h.c1⟩
theorem PlAt.keep {w w' : World} {b o : Nat} {x : Pl} (h : PlAt w b o x) (hk : ∀ p : Addr, p.block = b → w'.cell? p = w.cell? p) : PlAt w' b o x :=
  ⟨(hk _ rfl).trans h.c0, (hk _ rfl).trans h.c1⟩

/-- The slice at A reads as the list l, below block B. -/
def RdPl (w : World) (B : Nat) (A : Option Addr) (l : List Pl) : Prop :=
  0 < l.length → ∃ b o, A = some ⟨b, o, none⟩ ∧ b < B ∧ ∀ (k : Nat) (x : Pl), l[k]? = some x → PlAt w b (o + k * 2) x
/-- .. in memory of a call's own, blocks lo to hi. -/
def OwnPl (w : World) (lo hi : Nat) (A : Option Addr) (l : List Pl) : Prop :=
  0 < l.length → ∃ g o cs, A = some ⟨g, o, none⟩ ∧ lo ≤ g ∧ g < hi ∧ Bk w g 76 cs ∧ ∀ (k : Nat) (x : Pl), l[k]? = some x → PlIn cs (o + k * 2) x

section
variable {w w' : World} {B B' lo hi : Nat} {A : Option Addr} {l : List Pl}
theorem RdPl.at_ (h : RdPl w B A l) {k : Nat} (hk : k < l.length) : ∃ b o x, A = some ⟨b, o, none⟩ ∧ b < B ∧ l[k]? = some x ∧ PlAt w b (o + k * 2) x := by
  obtain ⟨b, o, e, hb, hc⟩ := h (by omega)
  obtain ⟨x, hx⟩ := get_of_lt l hk
  exact ⟨b, o, x, e, hb, hx, hc k x hx⟩
theorem RdPl.keep (h : RdPl w B A l) (hk : ∀ p : Addr, p.block < B → w'.cell? p = w.cell? p) : RdPl w' B A l := fun hn => by
  obtain ⟨b, o, e, hb, hc⟩ := h hn
  exact ⟨b, o, e, hb, fun k x hx => (hc k x hx).keep fun p hp => hk p (by omega)⟩
theorem RdPl.more (h : RdPl w B A l) (hB : B ≤ B') : RdPl w B' A l := fun hn => by
  obtain ⟨b, o, e, hb, hc⟩ := h hn
  exact ⟨b, o, e, by omega, hc⟩
theorem RdPl.below {C : Nat} (h : RdPl w B A l) (hb : Below C w w') (hC : B ≤ C) : RdPl w' B A l := h.keep fun _ hp => hb.cell (by omega)
theorem RdPl.drewN (h : RdPl w B A l) (n : Nat) : RdPl (w.drewN n) B A l := h.below (Same.below ⟨n, rfl⟩ B) (Nat.le_refl _)
theorem RdPl.held (h : RdPl w B A l) (hB : B ≤ w.heap.size) : Held w 0 B (fun v => RdPl v B A l) :=
  ⟨Nat.zero_le _, hB, fun _ _ hag => h.keep fun _ hp => cell_agree hag (Nat.zero_le _) hp⟩
theorem OwnPl.rd (h : OwnPl w lo hi A l) : RdPl w hi A l := fun hn => by
  obtain ⟨g, o, cs, rfl, h1, h2, hb, hc⟩ := h hn
  exact ⟨g, o, rfl, h2, fun k x hx => (hc k x hx).at_ hb⟩
theorem OwnPl.rdt (h : OwnPl w lo hi A l) (hz : hi ≤ w.heap.size) : RdPl w w.heap.size A l := h.rd.more hz
theorem OwnPl.agree (h : OwnPl w lo hi A l) (hag : ∀ b, lo ≤ b → b < hi → w'.heap[b]? = w.heap[b]?) : OwnPl w' lo hi A l := fun hn => by
  obtain ⟨g, o, cs, rfl, h1, h2, hb, hc⟩ := h hn
  exact ⟨g, o, cs, rfl, h1, h2, (hag g h1 h2).trans hb, hc⟩
theorem OwnPl.held (h : OwnPl w lo hi A l) (h1 : lo ≤ hi) (h2 : hi ≤ w.heap.size) : Held w lo hi (fun v => OwnPl v lo hi A l) := ⟨h1, h2, fun _ _ hag => h.agree hag⟩
theorem OwnPl.wide {lo2 hi2 : Nat} (h : OwnPl w lo hi A l) (h1 : lo2 ≤ lo) (h2 : hi ≤ hi2) : OwnPl w lo2 hi2 A l := fun hn => by
  obtain ⟨g, o, cs, rfl, h3, h4, hb, hc⟩ := h hn
  exact ⟨g, o, cs, rfl, by omega, by omega, hb, hc⟩
theorem OwnPl.nil_ (w : World) (lo hi : Nat) (A : Option Addr) : OwnPl w lo hi A [] := fun h => absurd h (by simp)
end

theorem PlIn.set_self {cs : List Value} {o : Nat} (x : Pl) (h : o + 1 < cs.length) : PlIn ((cs.set o (.int .i64 x.s)).set (o + 1) (.int .i64 x.i)) o x := by
  constructor <;> simp [List.getElem?_set] <;> omega
theorem PlIn.set_far {cs : List Value} {o j : Nat} {x : Pl} {u : Value} (h : PlIn cs o x) (hj : j < o ∨ o + 1 < j) : PlIn (cs.set j u) o x :=
  ⟨by rw [List.getElem?_set_ne (by omega)]; exact h.c0, by rw [List.getElem?_set_ne (by omega)]; exact h.c1⟩
/-- 2 cells that can be written. -/
structure PlOld (w : World) (b o : Nat) (u0 u1 : Value) : Prop where
  c0 : w.cell? ⟨b, o, none⟩ = some u0
  c1 : w.cell? ⟨b, o + 1, none⟩ = some u1
  f0 : w.frozen? ⟨b, o, none⟩ = false
  f1 : w.frozen? ⟨b, o + 1, none⟩ = false
theorem Bk.oldPl {w : World} {g o : Nat} {t : TypeId} {cs : List Value} (h : Bk w g t cs) (ho : o + 1 < cs.length) : ∃ u0 u1, PlOld w g o u0 u1 := by
  obtain ⟨u0, h0⟩ := get_of_lt cs (k := o) (by omega)
  obtain ⟨u1, h1⟩ := get_of_lt cs (k := o + 1) (by omega)
  exact ⟨u0, u1, (h.cell _).trans h0, (h.cell _).trans h1, h.free _, h.free _⟩
theorem PlOld.below {w w' : World} {b o C : Nat} {u0 u1 : Value} (h : PlOld w b o u0 u1) (hb : Below C w w') (hC : b < C) : PlOld w' b o u0 u1 := by
  have hc : ∀ i, w'.cell? ⟨b, i, none⟩ = w.cell? ⟨b, i, none⟩ := fun i => hb.cell (p := ⟨b, i, none⟩) hC
  have hf : ∀ i, w'.frozen? ⟨b, i, none⟩ = w.frozen? ⟨b, i, none⟩ := fun i => hb.frozen (p := ⟨b, i, none⟩) hC
  exact ⟨(hc _).trans h.c0, (hc _).trans h.c1, (hf _).trans h.f0, (hf _).trans h.f1⟩

theorem Try.infoPl : (Try.prog.info? 76).map (fun i => (i.zero, i.size, i.bytes)) = some (some (.agg #[.int .i64 0, .int .i64 0]), 2, 16) := by kernel_rfl
/-- The cells of a new row. -/
def madePl (n : Nat) : List Value := (madeCells #[.int .i64 0, .int .i64 0] (n * 2)).toList
theorem madePl_len (n : Nat) : (madePl n).length = n * 2 := by simp [madePl, size_madeCells]
def zeroPl : Pl := ⟨0, 0⟩
theorem madePl_get (n j : Nat) (hj : j < n * 2) : (madePl n)[j]? = some ((#[.int .i64 0, .int .i64 0])[j % 2]!) := by
  simp [madePl, madeCells, hj]
theorem madePl_in (n k : Nat) (hk : k < n) : PlIn (madePl n) (k * 2) zeroPl := by
  constructor
  · rw [madePl_get _ _ (by omega), show (k * 2) % 2 = 0 from by omega]; rfl
  · rw [madePl_get _ _ (by omega), show (k * 2 + 1) % 2 = 1 from by omega]; rfl
theorem run_makePl {P : Program} (t e : TypeId) (ht : P.underlying t = some (.slice e))
    (hinfo : (P.info? e).map (fun i => (i.zero, i.size, i.bytes)) = some (some (.agg #[.int .i64 0, .int .i64 0]), 2, 16)) (n : Nat) (hn : n ≤ 1048576) (w : World) :
    (Instr.makeSlice t (.int .i64 (n : Int)) (.int .i64 (n : Int))).run P w = .ok (.slice (some ⟨w.heap.size, 0, none⟩) n n) (w.alloc (.cells (madePl n).toArray e)) := by
  obtain ⟨i, hi, hz0, hz1, hz2⟩ := info_parts hinfo
  have hr := run_make (P := P) w t e i _ ht hi hz0 .i64 .i64 n n (by omega) (by omega) (by rw [hz2]; omega) (by omega)
  rw [hz1] at hr
  simp only [Int.toNat_natCast] at hr
  rw [hr]
  simp [madePl, Value.cells]

end Go.Proofs.Ytjhdjfobbgfpfaa
