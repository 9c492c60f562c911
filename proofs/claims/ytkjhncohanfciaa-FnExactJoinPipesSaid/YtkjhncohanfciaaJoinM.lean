/- Plain mathematics: a tree put behind other nodes is that tree moved; what two pipes joined are; what a pipe with moved sources is. -/
import Derived.Test.YtkjhncohanfciaaPut
namespace Go.Proofs.Ytkjhncohanfciaa

/-- A node behind n others. -/
def shNd (n : Nat) (x : Nd) : Nd := ⟨x.k, if 0 ≤ x.a then x.a + n else x.a, if 0 ≤ x.b then x.b + n else x.b, x.n, x.m⟩

/-- The nodes have no more below than the tree tells. -/
def T.Fit2 : T → Prop
  | .leaf x => x.a = -1 ∧ x.b = -1
  | .stem x t => x.b = -1 ∧ t.Fit2
  | .fork _ a b => a.Fit2 ∧ b.Fit2
theorem IsTree.fit2 {l : List Nd} {i : Nat} {t : T} (h : IsTree l i t) : t.Fit2 := by
  induction h with
  | leaf _ _ h1 h2 => exact ⟨h1, h2⟩
  | stem _ _ _ _ h2 _ ih => exact ⟨h2, ih⟩
  | fork _ _ _ _ _ _ _ _ iha ihb => exact ⟨iha, ihb⟩
theorem T.put_shift (t : T) : t.Fit2 → ∀ m n : Nat, (t.put m).map (shNd n) = t.put (m + n) := by
  induction t with
  | leaf x =>
    intro h m n
    obtain ⟨h1, h2⟩ := h
    obtain ⟨k, a, b, n', m'⟩ := x
    simp only at h1 h2
    subst h1 h2
    rfl
  | stem x t ih =>
    intro h m n
    obtain ⟨hb, ht⟩ := h
    have hp := t.size_pos
    simp only [T.put, List.map_append, ih ht, List.map_cons, List.map_nil, shNd]
    rw [if_pos (by omega), if_neg (by rw [hb]; omega)]
    have e : (m : Int) + (t.size : Int) - 1 + (n : Int) = ((m + n : Nat) : Int) + (t.size : Int) - 1 := by omega
    rw [e]
  | fork x a b iha ihb =>
    intro h m n
    obtain ⟨ha, hb⟩ := h
    have hp := a.size_pos
    have hq := b.size_pos
    simp only [T.put, List.map_append, iha ha, ihb hb, List.map_cons, List.map_nil, shNd]
    rw [if_pos (by omega), if_pos (by omega)]
    have e : (m : Int) + (a.size : Int) - 1 + (n : Int) = ((m + n : Nat) : Int) + (a.size : Int) - 1 := by omega
    have e2 : (m : Int) + (a.size : Int) + (b.size : Int) - 1 + (n : Int) = ((m + n : Nat) : Int) + (a.size : Int) + (b.size : Int) - 1 := by omega
    have e3 : m + a.size + n = m + n + a.size := by omega
    rw [e, e2, e3]

/-- Whether two pipes can be joined. -/
def joinOk (l r : List Nd) (k : Int) : Bool := pipeOk l && (pipeOk r && ((arity k == 2) && decide (l.length + r.length < 12)))
/-- Two pipes joined. -/
structure JoinOf (l r : List Nd) (k : Int) (q : List Nd) (ok : Bool) : Prop where
  no : joinOk l r k = false → q = [] ∧ ok = false
  yes : ∀ {ta tb : T}, joinOk l r k = true → IsTree l (l.length - 1) ta → IsTree r (r.length - 1) tb → q = (T.fork ⟨k, 0, 0, 0, 0⟩ ta tb).put 0 ∧ ok = true
theorem join_parts (k : Int) (ta tb : T) (hb : tb.Fit2) : (T.fork ⟨k, 0, 0, 0, 0⟩ ta tb).put 0 = ta.put 0 ++ (tb.put 0).map (shNd ta.size) ++ [⟨k, (ta.size : Int) - 1, (ta.size : Int) + (tb.size : Int) - 1, 0, 0⟩] := by
  simp only [T.put, T.put_shift tb hb 0 ta.size]
  simp

/-- A node with its source moved. -/
def mvNd (to : List Int) (x : Nd) : Nd := if x.k = 0 then ⟨x.k, x.a, x.b, to.getD x.n.toNat 0, x.m⟩ else x
/-- Whether the sources of a pipe can be moved. -/
def moveOk (l : List Nd) (to : List Int) : Bool := pipeOk l && (decide (to.length = 3) && allB to 0 2)
/-- A pipe with its sources moved. -/
structure MoveOf (l : List Nd) (to : List Int) (q : List Nd) : Prop where
  no : moveOk l to = false → q = []
  yes : moveOk l to = true → q = l.map (mvNd to)
theorem source_n {l : List Nd} (h : pipeOk l = true) {i : Nat} {x : Nd} (hx : l[i]? = some x) (hk : x.k = 0) : ∃ s : Nat, x.n = (s : Int) ∧ s < 3 := by
  have h1 := (pipeOk_iff.1 h).node i x hx
  simp only [nodeOk, Bool.and_eq_true] at h1
  have h2 := h1.1
  simp [numsOk, hk, inR] at h2
  exact ⟨x.n.toNat, by omega, by omega⟩
theorem nds_set_n {l : List Nd} {k : Nat} {x : Nd} (hx : l[k]? = some x) (v : Int) : (nds l).set (k * 5 + 3) (.int .i64 v) = nds (l.set k ⟨x.k, x.a, x.b, v, x.m⟩) := by
  induction l generalizing k with
  | nil => simp at hx
  | cons y l ih =>
    cases k with
    | zero =>
      simp at hx
      subst hx
      simp [nds]
    | succ k =>
      have e : (k + 1) * 5 + 3 = k * 5 + 3 + 5 := by omega
      rw [e]
      have := ih (k := k) (by simpa using hx)
      simp only [nds, List.set_cons_succ, List.set]
      rw [← this]
theorem mv_step {l : List Nd} {to : List Int} {j : Nat} {x : Nd} (hx : l[j]? = some x) : ((l.take j).map (mvNd to) ++ l.drop j).set j (mvNd to x) = (l.take (j + 1)).map (mvNd to) ++ l.drop (j + 1) := by
  have hj : j < l.length := (List.getElem?_eq_some_iff.1 hx).1
  rw [List.set_append_right _ _ (by simp; omega), take_succ_of hx]
  have e : j - ((l.take j).map (mvNd to)).length = 0 := by simp; omega
  rw [e]
  cases h : l.drop j with
  | nil => have := congrArg List.length h; simp at this; omega
  | cons y r =>
    have : l.drop (j + 1) = r := by rw [← List.drop_drop, h]; rfl
    rw [this]
    simp
theorem mv_same {l : List Nd} {to : List Int} {j : Nat} {x : Nd} (hx : l[j]? = some x) (hk : x.k ≠ 0) : (l.take j).map (mvNd to) ++ l.drop j = (l.take (j + 1)).map (mvNd to) ++ l.drop (j + 1) := by
  have hj : j < l.length := (List.getElem?_eq_some_iff.1 hx).1
  rw [take_succ_of hx]
  cases h : l.drop j with
  | nil => have := congrArg List.length h; simp at this; omega
  | cons y r =>
    have h1 : l.drop (j + 1) = r := by rw [← List.drop_drop, h]; rfl
    have h2 : y = x := by
      have := List.getElem?_drop (xs := l) (i := j) (j := 0)
      rw [h] at this
      simp [hx] at this
      exact this
    rw [h1, h2]
    simp [mvNd, hk]

end Go.Proofs.Ytkjhncohanfciaa
