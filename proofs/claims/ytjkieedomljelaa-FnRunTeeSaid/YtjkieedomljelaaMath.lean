/- Plain mathematics of lists and numbers that the walks over the program need; no program is named here. -/
namespace Go.Proofs.Ytjkieedomljelaa

/-- A node: its kind, the nodes below it, its numbers. -/
structure Nd where
  k : Int
  a : Int
  b : Int
  n : Int
  m : Int
deriving DecidableEq

theorem Nd.ext_ {x y : Nd} (h1 : x.k = y.k) (h2 : x.a = y.a) (h3 : x.b = y.b) (h4 : x.n = y.n) (h5 : x.m = y.m) : x = y := by
  cases x; cases y; simp at h1 h2 h3 h4 h5; simp [h1, h2, h3, h4, h5]
/-- Whether two nodes are equal. -/
def ndEq (x y : Nd) : Bool := decide (x = y)
theorem ndEq_no {x y : Nd} (h : (x.k != y.k) = true ∨ (x.a != y.a) = true ∨ (x.b != y.b) = true ∨ (x.n != y.n) = true ∨ (x.m != y.m) = true) : ndEq x y = false := by
  unfold ndEq
  apply decide_eq_false
  intro e
  subst e
  simp at h
theorem ndEq_yes {x y : Nd} (h1 : (x.k != y.k) = false) (h2 : (x.a != y.a) = false) (h3 : (x.b != y.b) = false) (h4 : (x.n != y.n) = false) (h5 : (x.m != y.m) = false) : ndEq x y = true := by
  unfold ndEq
  apply decide_eq_true
  simp at h1 h2 h3 h4 h5
  exact Nd.ext_ h1 h2 h3 h4 h5

theorem ndEq_ne {x y : Nd} (h : ndEq x y = false) : x ≠ y := of_decide_eq_false h
theorem ndEq_eq {x y : Nd} (h : ndEq x y = true) : x = y := of_decide_eq_true h

/-- n lies in lo..hi. -/
def inR (n lo hi : Int) : Bool := decide (lo ≤ n) && decide (n ≤ hi)
theorem inR_yes {n lo hi : Int} (h : lo ≤ n) (h' : n ≤ hi) : inR n lo hi = true := by simp [inR, h, h']
theorem inR_no {n lo hi : Int} (h : n < lo ∨ hi < n) : inR n lo hi = false := by
  unfold inR
  rcases h with h | h
  · simp; intro; omega
  · simp; intro; omega
theorem inR_iff {n lo hi : Int} : inR n lo hi = true ↔ lo ≤ n ∧ n ≤ hi := by simp [inR]

/-- How many nodes are below one of a kind; -1 for other kinds. -/
def arity (k : Int) : Int :=
  if k == 0 then 0 else if k == 7 || k == 8 || k == 9 || k == 10 then 2 else
  if k == 1 || k == 2 || k == 3 || k == 4 || k == 5 || k == 6 || k == 11 || k == 12 || k == 13 then 1 else -1
/-- Whether there is such a kind. -/
def known (k : Int) : Bool := k == 0 || k == 1 || k == 2 || k == 3 || k == 4 || k == 5 || k == 6 || k == 7 || k == 8 || k == 9 || k == 10 || k == 11 || k == 12 || k == 13
/-- Whether the numbers of a node are those of its kind. -/
def numsOk (x : Nd) : Bool :=
  if x.k == 0 then inR x.n 0 2 && (x.m == 0) else
  if x.k == 1 then inR x.n 0 99 && inR x.m 0 99 else
  if x.k == 2 then inR x.n 1 30 && inR x.m 0 (x.n - 1) else
  if x.k == 3 || x.k == 4 then inR x.n 0 30 && (x.m == 0) else
  if x.k == 5 || x.k == 6 then inR x.n 0 99 && (x.m == 0) else
  if x.k == 12 then inR x.n 1 30 && (x.m == 0) else
  (x.n == 0) && (x.m == 0)
/-- Whether the node i has as many earlier ones below as its kind. -/
def kidsOk (x : Nd) (i : Int) : Bool :=
  if arity x.k == 0 then (x.a == -1) && (x.b == -1) else
  if arity x.k == 1 then inR x.a 0 (i - 1) && (x.b == -1) else
  if arity x.k == 2 then inR x.a 0 (i - 1) && inR x.b 0 (i - 1) && (x.a != x.b) else false

/-- All numbers of a list lie in lo..hi. -/
def allB (l : List Int) (lo hi : Int) : Bool := l.all (fun x => inR x lo hi)

theorem take_succ_of {α : Type} {l : List α} {k : Nat} {x : α} (h : l[k]? = some x) : l.take (k + 1) = l.take k ++ [x] := by
  rw [List.take_add_one, h]; rfl
theorem all_take_succ {α : Type} {l : List α} {k : Nat} {x : α} {p : α → Bool} (h : l[k]? = some x) (hp : p x = true) (hk : (l.take k).all p = true) : (l.take (k + 1)).all p = true := by
  rw [take_succ_of h, List.all_append, hk]; simp [hp]
theorem all_false_of {α : Type} {l : List α} {k : Nat} {x : α} {p : α → Bool} (h : l[k]? = some x) (hp : p x = false) : l.all p = false := by
  rw [List.all_eq_false]
  exact ⟨x, List.mem_of_getElem? h, by simp [hp]⟩
theorem all_of_take {α : Type} {l : List α} {k : Nat} {p : α → Bool} (hk : l.length ≤ k) (h : (l.take k).all p = true) : l.all p = true := by
  rwa [List.take_of_length_le hk] at h
theorem get_of_lt {α : Type} (l : List α) {k : Nat} (h : k < l.length) : ∃ x, l[k]? = some x := ⟨l[k], List.getElem?_eq_getElem h⟩

theorem take_eq_succ {α : Type} {l m : List α} {k : Nat} {x : α} (h : l.take k = m.take k) (hx : l[k]? = some x) (hy : m[k]? = some x) : l.take (k + 1) = m.take (k + 1) := by
  rw [take_succ_of hx, take_succ_of hy, h]
theorem ne_of_get {α : Type} {l m : List α} {k : Nat} {x y : α} (hx : l[k]? = some x) (hy : m[k]? = some y) (h : x ≠ y) : l ≠ m := by
  intro e; subst e; rw [hx] at hy; exact h (Option.some.inj hy)
theorem eq_of_take {α : Type} {l m : List α} {k : Nat} (hl : l.length ≤ k) (hm : m.length ≤ k) (h : l.take k = m.take k) : l = m := by
  rwa [List.take_of_length_le hl, List.take_of_length_le hm] at h
/-- All numbers of all rows, and the rows, counted. -/
def bulk (rows : List (List Int)) : Nat := rows.length + (rows.map List.length).sum
theorem sum_take_succ {rows : List (List Int)} {k : Nat} {r : List Int} (h : rows[k]? = some r) : ((rows.take (k + 1)).map List.length).sum = ((rows.take k).map List.length).sum + r.length := by
  rw [take_succ_of h]; simp
theorem sum_take_le (rows : List (List Int)) (k : Nat) : ((rows.take k).map List.length).sum ≤ (rows.map List.length).sum := by
  have h : (rows.map List.length).sum = ((rows.take k).map List.length).sum + ((rows.drop k).map List.length).sum := by
    rw [← List.sum_append, ← List.map_append, List.take_append_drop]
  omega
theorem len_le_bulk {rows : List (List Int)} {r : List Int} (h : r ∈ rows) : r.length ≤ (rows.map List.length).sum := by
  obtain ⟨k, hk⟩ := List.getElem?_of_mem h
  have h1 := sum_take_succ hk
  have h2 := sum_take_le rows (k + 1)
  omega

theorem fill_set {α : Type} (ys : List α) (z u : α) {k n : Nat} (hy : ys.length = k) (hk : k < n) : (ys ++ List.replicate (n - k) z).set k u = (ys ++ [u]) ++ List.replicate (n - (k + 1)) z := by
  have e : n - k = (n - (k + 1)) + 1 := by omega
  rw [e, List.replicate_succ, List.set_append_right _ _ (by omega), hy, Nat.sub_self, List.set_cons_zero]
  simp
theorem zip_snoc {α β γ : Type} (f : α → β → γ) (xs : List α) (ys : List β) {k : Nat} {x : α} {y : β} (hx : xs.length = k) (hy : ys[k]? = some y) : List.zipWith f (xs ++ [x]) ys = List.zipWith f xs ys ++ [f x y] := by
  have h : k < ys.length := (List.getElem?_eq_some_iff.1 hy).1
  apply List.ext_getElem?
  intro i
  by_cases hi : i < k
  · rw [List.getElem?_append_left (by simp; omega), List.getElem?_zipWith, List.getElem?_zipWith, List.getElem?_append_left (by omega)]
  · by_cases hik : i = k
    · subst hik
      rw [List.getElem?_append_right (by simp; omega), List.getElem?_zipWith, List.getElem?_append_right (by omega)]
      have e : i - (List.zipWith f xs ys).length = 0 := by simp; omega
      rw [e, hx, Nat.sub_self, hy]
      rfl
    · rw [List.getElem?_eq_none (by simp; omega), List.getElem?_eq_none (by simp; omega)]

/-- What is left of a bound when n is taken off; -1 if it does not suffice. -/
def szLeft (left n : Int) : Int := if left < n then -1 else left - n
theorem szLeft_no {left n : Int} (h : left < n) : szLeft left n = -1 := if_pos h
theorem szLeft_yes {left n : Int} (h : ¬ left < n) : szLeft left n = left - n := if_neg h

theorem beq_three (n : Nat) : ((n : Int) == 3) = decide (n = 3) := by
  rw [Bool.eq_iff_iff]; simp; omega

/-- A list that can be a source's. -/
def rowOk (r : List Int) : Bool := decide (r.length ≤ 12) && allB r 0 99
/-- Lists that are sources. -/
def srcOk (rows : List (List Int)) : Bool := rows.all rowOk && decide (rows.length = 3)

end Go.Proofs.Ytjkieedomljelaa
