/- Plain mathematics of valid pipes: how often a node is below another one, and two ways to find out whether a pipe is valid. -/
import Derived.Test.YtjkieedomljelaaMath
namespace Go.Proofs.Ytjkieedomljelaa

/-- 1 if a yes, else 0. -/
def one (b : Bool) : Nat := if b then 1 else 0
theorem one_le (b : Bool) : one b ≤ 1 := by cases b <;> simp [one]

/-- How often the node j is below another one. -/
def useOf : List Nd → Int → Nat
  | [], _ => 0
  | x :: l, j => one (x.a == j) + one (x.b == j) + useOf l j

theorem useOf_append (l m : List Nd) (j : Int) : useOf (l ++ m) j = useOf l j + useOf m j := by
  induction l with
  | nil => simp [useOf]
  | cons x l ih => simp [useOf, ih]; omega
theorem useOf_succ {l : List Nd} {k : Nat} {x : Nd} (h : l[k]? = some x) (j : Int) : useOf (l.take (k + 1)) j = useOf (l.take k) j + one (x.a == j) + one (x.b == j) := by
  rw [take_succ_of h, useOf_append]
  simp [useOf]; omega
theorem useOf_take_le (l : List Nd) (k : Nat) (j : Int) : useOf (l.take k) j ≤ useOf l j := by
  have h := useOf_append (l.take k) (l.drop k) j
  rw [List.take_append_drop] at h
  omega

theorem arity_cases (k : Int) : arity k = 0 ∨ arity k = 1 ∨ arity k = 2 ∨ arity k = -1 := by
  unfold arity
  split
  · exact .inl rfl
  · split
    · exact .inr (.inr (.inl rfl))
    · split
      · exact .inr (.inl rfl)
      · exact .inr (.inr (.inr rfl))
theorem known_of_arity {k : Int} (h : arity k ≠ -1) : known k = true := by
  cases hk : known k
  · exfalso
    apply h
    simp only [known, Bool.or_eq_false_iff] at hk
    obtain ⟨⟨⟨⟨⟨⟨⟨⟨⟨⟨⟨⟨⟨h0, h1⟩, h2⟩, h3⟩, h4⟩, h5⟩, h6⟩, h7⟩, h8⟩, h9⟩, h10⟩, h11⟩, h12⟩, h13⟩ := hk
    simp [arity, h0, h1, h2, h3, h4, h5, h6, h7, h8, h9, h10, h11, h12, h13]
  · rfl
theorem known_kids {x : Nd} {i : Int} (h : kidsOk x i = true) : known x.k = true := by
  apply known_of_arity
  intro e
  simp [kidsOk, e] at h

/-- The node i of a pipe is one that can stand there. -/
def nodeOk (x : Nd) (i : Nat) : Bool := numsOk x && kidsOk x i

/-- A valid pipe. -/
structure PipeOk (l : List Nd) : Prop where
  node : ∀ (i : Nat) (x : Nd), l[i]? = some x → nodeOk x i = true
  uses : ∀ i : Nat, i + 1 < l.length → useOf l i = 1
  low : 1 ≤ l.length
  high : l.length ≤ 12

/-- .. told by yes or no. -/
def pipeOk (l : List Nd) : Bool :=
  ((List.range l.length).all fun i => match l[i]? with | some x => nodeOk x i | none => true) && ((List.range (l.length - 1)).all fun i => useOf l i == 1) && (decide (1 ≤ l.length) && decide (l.length ≤ 12))
theorem pipeOk_iff {l : List Nd} : pipeOk l = true ↔ PipeOk l := by
  unfold pipeOk
  simp only [Bool.and_eq_true, List.all_eq_true, List.mem_range, decide_eq_true_eq, beq_iff_eq]
  constructor
  · rintro ⟨⟨h1, h2⟩, h3, h4⟩
    refine ⟨fun i x hx => ?_, fun i hi => h2 i (by omega), h3, h4⟩
    have := h1 i (List.getElem?_eq_some_iff.1 hx).1
    rw [hx] at this
    exact this
  · rintro ⟨h1, h2, h3, h4⟩
    refine ⟨⟨fun i hi => ?_, fun i hi => h2 i (by omega)⟩, h3, h4⟩
    obtain ⟨x, hx⟩ := get_of_lt l hi
    rw [hx]
    exact h1 i x hx
theorem pipeOk_no {l : List Nd} (h : ¬ PipeOk l) : pipeOk l = false := by
  cases e : pipeOk l
  · rfl
  · exact absurd (pipeOk_iff.1 e) h

/-- The marks of the nodes that are below one of the first k. -/
def marks (l : List Nd) (k n : Nat) : List Bool := (List.range n).map fun j : Nat => decide (1 ≤ useOf (l.take k) (j : Int))
/-- The counts of the uses by the first k nodes. -/
def counts (l : List Nd) (k n : Nat) : List Int := (List.range n).map fun j : Nat => (useOf (l.take k) (j : Int) : Int)

theorem marks_get (l : List Nd) (k : Nat) {n j : Nat} (h : j < n) : (marks l k n)[j]? = some (decide (1 ≤ useOf (l.take k) (j : Int))) := by simp [marks, h]
theorem counts_get (l : List Nd) (k : Nat) {n j : Nat} (h : j < n) : (counts l k n)[j]? = some (useOf (l.take k) (j : Int) : Int) := by simp [counts, h]
theorem marks_len (l : List Nd) (k n : Nat) : (marks l k n).length = n := by simp [marks]
theorem counts_len (l : List Nd) (k n : Nat) : (counts l k n).length = n := by simp [counts]
theorem marks_zero (l : List Nd) (n : Nat) : marks l 0 n = List.replicate n false := by
  apply List.ext_getElem?
  intro i
  simp [marks, useOf, List.getElem?_replicate]
  by_cases h : i < n <;> simp [h]
theorem counts_zero (l : List Nd) (n : Nat) : counts l 0 n = List.replicate n 0 := by
  apply List.ext_getElem?
  intro i
  simp [counts, useOf, List.getElem?_replicate]
  by_cases h : i < n <;> simp [h]

/-- Whether node x at the place i has below it earlier nodes that are not marked. -/
def placesOk (x : Nd) (us : List Bool) (i : Nat) : Bool :=
  if arity x.k == 0 then (x.a == -1) && (x.b == -1) else
  if arity x.k == 1 then (inR x.a 0 (i - 1) && (us[x.a.toNat]? == some false)) && (x.b == -1) else
  if arity x.k == 2 then (inR x.a 0 (i - 1) && (us[x.a.toNat]? == some false)) && (inR x.b 0 (i - 1) && ((us.set x.a.toNat true)[x.b.toNat]? == some false)) else false
/-- The marks with those of x. -/
def marked (x : Nd) (us : List Bool) : List Bool :=
  if arity x.k == 0 then us else
  if arity x.k == 1 then us.set x.a.toNat true else
  if arity x.k == 2 then (us.set x.a.toNat true).set x.b.toNat true else us

end Go.Proofs.Ytjkieedomljelaa
