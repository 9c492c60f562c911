/- Texts on the program and its reference, put together (PipeM, PipeP, Tree, Post). -/
import Derived.Test.YtkjhncohanfciaaMc5A
import Derived.Deep.DeepMust
/- Plain mathematics of valid pipes: how often a node is below another one, and two ways to find out whether a pipe is valid. -/
namespace Go.Proofs.Ytkjhncohanfciaa

/-- 1 if a yes, else 0. -/
def one (b : Bool) : Nat := if b then 1 else 0
theorem one_le (b : Bool) : one b ≤ 1 := by cases b <;> simp [one]

/-- How often the node j is below another one. -/
def useOf : List Nd → Int → Nat
  | [], _ => 0
  | x :: l, j => one (x.a == j) + one (x.b == j) + useOf l j

theorem useOf_append (l m : List Nd) (j : Int) : useOf (l ++ m) j = useOf l j + useOf m j := by
  induction l with
  | nil => simp [useOf]
  | cons x l ih => simp [useOf, ih]; omega
theorem useOf_succ {l : List Nd} {k : Nat} {x : Nd} (h : l[k]? = some x) (j : Int) : useOf (l.take (k + 1)) j = useOf (l.take k) j + one (x.a == j) + one (x.b == j) := by
  rw [take_succ_of h, useOf_append]
  simp [useOf]; omega
theorem useOf_take_le (l : List Nd) (k : Nat) (j : Int) : useOf (l.take k) j ≤ useOf l j := by
  have h := useOf_append (l.take k) (l.drop k) j
  rw [List.take_append_drop] at h
  omega

theorem arity_cases (k : Int) : arity k = 0 ∨ arity k = 1 ∨ arity k = 2 ∨ arity k = -1 := by
  unfold arity
  split
  · exact .inl rfl
  · split
    · exact .inr (.inr (.inl rfl))
    · split
      · exact .inr (.inl rfl)
      · exact .inr (.inr (.inr rfl))
theorem known_of_arity {k : Int} (h : arity k ≠ -1) : known k = true := by
  cases hk : known k
  · exfalso
    apply h
    simp only [known, Bool.or_eq_false_iff] at hk
    obtain ⟨⟨⟨⟨⟨⟨⟨⟨⟨⟨⟨⟨⟨h0, h1⟩, h2⟩, h3⟩, h4⟩, h5⟩, h6⟩, h7⟩, h8⟩, h9⟩, h10⟩, h11⟩, h12⟩, h13⟩ := hk
    simp [arity, h0, h1, h2, h3, h4, h5, h6, h7, h8, h9, h10, h11, h12, h13]
  · rfl
theorem known_kids {x : Nd} {i : Int} (h : kidsOk x i = true) : known x.k = true := by
  apply known_of_arity
  intro e
  simp [kidsOk, e] at h

/-- The node i of a pipe is one that can stand there. -/
def nodeOk (x : Nd) (i : Nat) : Bool := numsOk x && kidsOk x i

/-- A valid pipe. -/
structure PipeOk (l : List Nd) : Prop where
  node : ∀ (i : Nat) (x : Nd), l[i]? = some x → nodeOk x i = true
  uses : ∀ i : Nat, i + 1 < l.length → useOf l i = 1
  low : 1 ≤ l.length
  high : l.length ≤ 12

/-- .. told by yes or no. -/
def pipeOk (l : List Nd) : Bool :=
  ((List.range l.length).all fun i => match l[i]? with | some x => nodeOk x i | none => true) && ((List.range (l.length - 1)).all fun i => useOf l i == 1) && (decide (1 ≤ l.length) && decide (l.length ≤ 12))
theorem pipeOk_iff {l : List Nd} : pipeOk l = true ↔ PipeOk l := by
  unfold pipeOk
  simp only [Bool.and_eq_true, List.all_eq_true, List.mem_range, decide_eq_true_eq, beq_iff_eq]
  constructor
  · rintro ⟨⟨h1, h2⟩, h3, h4⟩
    refine ⟨fun i x hx => ?_, fun i hi => h2 i (by omega), h3, h4⟩
    have := h1 i (List.getElem?_eq_some_iff.1 hx).1
    rw [hx] at this
    exact this
  · rintro ⟨h1, h2, h3, h4⟩
    refine ⟨⟨fun i hi => ?_, fun i hi => h2 i (by omega)⟩, h3, h4⟩
    obtain ⟨x, hx⟩ := get_of_lt l hi
    rw [hx]
    exact h1 i x hx
theorem pipeOk_no {l : List Nd} (h : ¬ PipeOk l) : pipeOk l = false := by
  cases e : pipeOk l
  · rfl
  · exact absurd (pipeOk_iff.1 e) h

/-- The marks of the nodes that are below one of the first k. -/
def marks (l : List Nd) (k n : Nat) : List Bool := (List.range n).map fun j : Nat => decide (1 ≤ useOf (l.take k) (j : Int))
/-- The counts of the uses by the first k nodes. -/
def counts (l : List Nd) (k n : Nat) : List Int := (List.range n).map fun j : Nat => (useOf (l.take k) (j : Int) : Int)

theorem marks_get (l : List Nd) (k : Nat) {n j : Nat} (h : j < n) : (marks l k n)[j]? = some (decide (1 ≤ useOf (l.take k) (j : Int))) := by simp [marks, h]
theorem counts_get (l : List Nd) (k : Nat) {n j : Nat} (h : j < n) : (counts l k n)[j]? = some (useOf (l.take k) (j : Int) : Int) := by simp [counts, h]
theorem marks_len (l : List Nd) (k n : Nat) : (marks l k n).length = n := by simp [marks]
theorem counts_len (l : List Nd) (k n : Nat) : (counts l k n).length = n := by simp [counts]
theorem marks_zero (l : List Nd) (n : Nat) : marks l 0 n = List.replicate n false := by
  apply List.ext_getElem?
  intro i
  simp [marks, useOf, List.getElem?_replicate]
  by_cases h : i < n <;> simp [h]
theorem counts_zero (l : List Nd) (n : Nat) : counts l 0 n = List.replicate n 0 := by
  apply List.ext_getElem?
  intro i
  simp [counts, useOf, List.getElem?_replicate]
  by_cases h : i < n <;> simp [h]

/-- Whether node x at the place i has below it earlier nodes that are not marked. -/
def placesOk (x : Nd) (us : List Bool) (i : Nat) : Bool :=
  if arity x.k == 0 then (x.a == -1) && (x.b == -1) else
  if arity x.k == 1 then (inR x.a 0 (i - 1) && (us[x.a.toNat]? == some false)) && (x.b == -1) else
  if arity x.k == 2 then (inR x.a 0 (i - 1) && (us[x.a.toNat]? == some false)) && (inR x.b 0 (i - 1) && ((us.set x.a.toNat true)[x.b.toNat]? == some false)) else false
/-- The marks with those of x. -/
def marked (x : Nd) (us : List Bool) : List Bool :=
  if arity x.k == 0 then us else
  if arity x.k == 1 then us.set x.a.toNat true else
  if arity x.k == 2 then (us.set x.a.toNat true).set x.b.toNat true else us

end Go.Proofs.Ytkjhncohanfciaa

/- Plain mathematics: marking the nodes that are below tells the same as counting them. -/
namespace Go.Proofs.Ytkjhncohanfciaa

theorem inR_toNat {a : Int} {k : Nat} (h : inR a 0 ((k : Int) - 1) = true) : ∃ j : Nat, a = (j : Int) ∧ j < k := by
  obtain ⟨h1, h2⟩ := inR_iff.1 h
  exact ⟨a.toNat, by omega, by omega⟩
theorem one_eq (j : Nat) : one ((j : Int) == (j : Int)) = 1 := by simp [one]
theorem one_ne {i j : Int} (h : i ≠ j) : one (i == j) = 0 := by simp [one, h]
theorem one_yes {i j : Int} (h : i = j) : one (i == j) = 1 := by simp [one, h]

theorem marks_mark {l : List Nd} {k n : Nat} {x : Nd} (hx : l[k]? = some x) {j : Nat} (ha : x.a = (j : Int)) (hb : x.b = -1) : (marks l k n).set j true = marks l (k + 1) n := by
  apply List.ext_getElem?
  intro i
  by_cases hi : i < n
  · rw [marks_get _ _ hi, useOf_succ hx, ha, hb, one_ne (i := -1) (by omega)]
    by_cases hij : i = j
    · subst hij
      rw [List.getElem?_set_self (by rw [marks_len]; exact hi), one_eq]
      simp
    · rw [List.getElem?_set_ne (by omega), marks_get _ _ hi, one_ne (by omega)]
      simp
  · rw [List.getElem?_eq_none (by rw [List.length_set, marks_len]; omega), List.getElem?_eq_none (by rw [marks_len]; omega)]
theorem marks_mark2 {l : List Nd} {k n : Nat} {x : Nd} (hx : l[k]? = some x) {j j2 : Nat} (ha : x.a = (j : Int)) (hb : x.b = (j2 : Int)) : ((marks l k n).set j true).set j2 true = marks l (k + 1) n := by
  apply List.ext_getElem?
  intro i
  by_cases hi : i < n
  · rw [marks_get _ _ hi, useOf_succ hx, ha, hb]
    by_cases hij2 : i = j2
    · subst hij2
      rw [List.getElem?_set_self (by rw [List.length_set, marks_len]; exact hi), one_eq]
      simp
    · rw [List.getElem?_set_ne (by omega), one_ne (i := (j2 : Int)) (by omega)]
      by_cases hij : i = j
      · subst hij
        rw [List.getElem?_set_self (by rw [marks_len]; exact hi), one_eq]
        simp
      · rw [List.getElem?_set_ne (by omega), marks_get _ _ hi, one_ne (by omega)]
        simp
  · rw [List.getElem?_eq_none (by rw [List.length_set, List.length_set, marks_len]; omega), List.getElem?_eq_none (by rw [marks_len]; omega)]
theorem marks_none {l : List Nd} {k n : Nat} {x : Nd} (hx : l[k]? = some x) (ha : x.a = -1) (hb : x.b = -1) : marks l k n = marks l (k + 1) n := by
  apply List.ext_getElem?
  intro i
  by_cases hi : i < n
  · rw [marks_get _ _ hi, marks_get _ _ hi, useOf_succ hx, ha, hb, one_ne (i := -1) (by omega)]
    simp
  · rw [List.getElem?_eq_none (by rw [marks_len]; omega), List.getElem?_eq_none (by rw [marks_len]; omega)]

/-- No node is below two. -/
def Single (l : List Nd) (k : Nat) : Prop := ∀ j : Nat, useOf (l.take k) (j : Int) ≤ 1

theorem place_yes {l : List Nd} {k : Nat} {x : Nd} (hx : l[k]? = some x) (hs : Single l k) (h : placesOk x (marks l k l.length) k = true) :
    kidsOk x k = true ∧ marked x (marks l k l.length) = marks l (k + 1) l.length ∧ Single l (k + 1) := by
  have hk : k < l.length := (List.getElem?_eq_some_iff.1 hx).1
  rcases arity_cases x.k with e | e | e | e
  · simp [placesOk, e] at h
    obtain ⟨h1, h2⟩ := h
    refine ⟨by simp [kidsOk, e, h1, h2], by simp only [marked, e]; exact marks_none hx h1 h2, fun j => ?_⟩
    rw [useOf_succ hx, h1, h2, one_ne (by omega)]
    exact hs j
  · simp [placesOk, e] at h
    obtain ⟨⟨h1, h2⟩, h3⟩ := h
    obtain ⟨j, hj, hjk⟩ := inR_toNat h1
    refine ⟨by simp [kidsOk, e, h1, h3], ?_, fun i => ?_⟩
    · simp only [marked, e]
      show (marks l k l.length).set x.a.toNat true = _
      rw [hj, Int.toNat_natCast]
      exact marks_mark hx hj h3
    · rw [hj, Int.toNat_natCast, marks_get _ _ (by omega)] at h2
      simp at h2
      rw [useOf_succ hx, h3, hj, one_ne (i := -1) (by omega)]
      by_cases hij : i = j
      · subst hij; rw [h2, one_eq]; omega
      · rw [one_ne (by omega)]; exact hs i
  · simp [placesOk, e] at h
    obtain ⟨⟨h1, h2⟩, h3, h4⟩ := h
    obtain ⟨j, hj, hjk⟩ := inR_toNat h1
    obtain ⟨j2, hj2, hjk2⟩ := inR_toNat h3
    rw [hj, hj2, Int.toNat_natCast, Int.toNat_natCast] at h4
    rw [hj, Int.toNat_natCast, marks_get _ _ (by omega)] at h2
    simp at h2
    have hne : j ≠ j2 := by
      intro e2
      subst e2
      rw [List.getElem?_set_self (by rw [marks_len]; omega)] at h4
      simp at h4
    rw [List.getElem?_set_ne hne, marks_get _ _ (by omega)] at h4
    simp at h4
    refine ⟨by simp [kidsOk, e]; exact ⟨⟨h1, h3⟩, by omega⟩, ?_, fun i => ?_⟩
    · simp only [marked, e]
      show ((marks l k l.length).set x.a.toNat true).set x.b.toNat true = _
      rw [hj, hj2, Int.toNat_natCast, Int.toNat_natCast]
      exact marks_mark2 hx hj hj2
    · rw [useOf_succ hx, hj, hj2]
      by_cases hij : i = j
      · subst hij; rw [h2, one_eq, one_ne (by omega)]; omega
      · rw [one_ne (i := (j : Int)) (by omega)]
        by_cases hij2 : i = j2
        · subst hij2; rw [h4, one_eq]; omega
        · rw [one_ne (by omega)]; exact hs i
  · simp [placesOk, e] at h

theorem twice_no {l : List Nd} {k : Nat} {x : Nd} (hx : l[k]? = some x) {j : Nat} (hj : j < k) (h1 : 1 ≤ useOf (l.take k) (j : Int)) (h2 : x.a = (j : Int) ∨ x.b = (j : Int)) : ¬ PipeOk l := fun hp => by
  have hk : k < l.length := (List.getElem?_eq_some_iff.1 hx).1
  have h3 := hp.uses j (by omega)
  have h4 := useOf_take_le l (k + 1) (j : Int)
  rw [useOf_succ hx] at h4
  rcases h2 with h2 | h2 <;> rw [one_yes h2] at h4 <;> omega

theorem place_no {l : List Nd} {k : Nat} {x : Nd} (hx : l[k]? = some x) (h : placesOk x (marks l k l.length) k = false) : ¬ PipeOk l := fun hp => by
  have hk : k < l.length := (List.getElem?_eq_some_iff.1 hx).1
  have hn := hp.node k x hx
  simp only [nodeOk, Bool.and_eq_true] at hn
  have hkids := hn.2
  rcases arity_cases x.k with e | e | e | e
  · simp [kidsOk, e] at hkids
    simp [placesOk, e, hkids] at h
  · simp [kidsOk, e] at hkids
    obtain ⟨h1, h2⟩ := hkids
    obtain ⟨j, hj, hjk⟩ := inR_toNat h1
    simp [placesOk, e, h1, h2] at h
    rw [hj, Int.toNat_natCast, marks_get _ _ (by omega)] at h
    simp at h
    exact twice_no hx hjk (by omega) (.inl hj) hp
  · simp [kidsOk, e] at hkids
    obtain ⟨⟨h1, h2⟩, h3⟩ := hkids
    obtain ⟨j, hj, hjk⟩ := inR_toNat h1
    obtain ⟨j2, hj2, hjk2⟩ := inR_toNat h2
    have hne : j ≠ j2 := by rintro rfl; exact h3 (hj.trans hj2.symm)
    simp [placesOk, e, h1, h2] at h
    rw [hj, hj2, Int.toNat_natCast, Int.toNat_natCast, marks_get _ _ (by omega), List.getElem?_set_ne hne, marks_get _ _ (by omega)] at h
    simp at h
    by_cases hz : useOf (l.take k) (j : Int) = 0
    · exact twice_no hx hjk2 (by have := h hz; omega) (.inr hj2) hp
    · exact twice_no hx hjk (by omega) (.inl hj) hp
  · simp [kidsOk, e] at hkids

theorem nums_no {l : List Nd} {k : Nat} {x : Nd} (hx : l[k]? = some x) (h : (numsOk x && known x.k) = false) : ¬ PipeOk l := fun hp => by
  have hn := hp.node k x hx
  simp only [nodeOk, Bool.and_eq_true] at hn
  rw [hn.1, known_kids hn.2] at h
  cases h

/-- The first k nodes can stand where they do. -/
def Good (l : List Nd) (k : Nat) : Prop := ∀ (i : Nat) (x : Nd), i < k → l[i]? = some x → nodeOk x i = true
theorem Good.zero (l : List Nd) : Good l 0 := fun _ _ h => absurd h (by omega)
theorem Good.succ {l : List Nd} {k : Nat} {x : Nd} (h : Good l k) (hx : l[k]? = some x) (hn : nodeOk x k = true) : Good l (k + 1) := fun i y hi hy => by
  by_cases e : i = k
  · subst e
    rw [hx] at hy
    obtain rfl := Option.some.inj hy
    exact hn
  · exact h i y (by omega) hy
theorem Single.zero (l : List Nd) : Single l 0 := fun _ => by simp [useOf]

/-- The end of the marking: all but the last one are marked. -/
theorem marks_end {l : List Nd} (hg : Good l l.length) (hs : Single l l.length) (h1 : 1 ≤ l.length) (h12 : l.length ≤ 12) :
    pipeOk l = !((marks l l.length l.length).take (l.length - 1)).contains false := by
  rw [Bool.eq_iff_iff, pipeOk_iff]
  simp only [Bool.not_eq_true', List.contains_eq_mem, decide_eq_false_iff_not]
  constructor
  · intro hp hm
    obtain ⟨j, hj⟩ := List.getElem?_of_mem hm
    have hjl : j < l.length - 1 := by have := (List.getElem?_eq_some_iff.1 hj).1; simp at this; omega
    rw [List.getElem?_take_of_lt hjl, marks_get _ _ (by omega), List.take_length] at hj
    simp at hj
    have := hp.uses j (by omega)
    omega
  · intro hm
    refine ⟨fun i x hx => hg i x (List.getElem?_eq_some_iff.1 hx).1 hx, fun i hi => ?_, h1, h12⟩
    have h2 := hs i
    rw [List.take_length] at h2
    have h3 : useOf l (i : Int) ≠ 0 := fun e => hm (List.mem_of_getElem? (i := i) (by rw [List.getElem?_take_of_lt (by omega), marks_get _ _ (by omega), List.take_length, e]; rfl))
    omega

end Go.Proofs.Ytkjhncohanfciaa

/- Plain mathematics: the tree of a node of a valid pipe. -/
namespace Go.Proofs.Ytkjhncohanfciaa

/-- A node with all that is below it. -/
inductive T where
  | leaf (x : Nd) : T
  | stem (x : Nd) (t : T) : T
  | fork (x : Nd) (a b : T) : T

/-- t is the tree of the node i of l. -/
inductive IsTree (l : List Nd) : Nat → T → Prop where
  | leaf {i : Nat} {x : Nd} (hx : l[i]? = some x) (ha : arity x.k = 0) (h1 : x.a = -1) (h2 : x.b = -1) : IsTree l i (.leaf x)
  | stem {i j : Nat} {x : Nd} {t : T} (hx : l[i]? = some x) (ha : arity x.k = 1) (h1 : x.a = (j : Int)) (hj : j < i) (h2 : x.b = -1) (ht : IsTree l j t) : IsTree l i (.stem x t)
  | fork {i j j2 : Nat} {x : Nd} {a b : T} (hx : l[i]? = some x) (ha : arity x.k = 2) (h1 : x.a = (j : Int)) (hj : j < i) (h2 : x.b = (j2 : Int)) (hj2 : j2 < i) (hta : IsTree l j a) (htb : IsTree l j2 b) : IsTree l i (.fork x a b)

theorem IsTree.ex {l : List Nd} (hp : PipeOk l) : ∀ (n i : Nat), i < n → i < l.length → ∃ t, IsTree l i t := by
  intro n
  induction n with
  | zero => intro i hi; omega
  | succ n ih =>
    intro i hi hl
    obtain ⟨x, hx⟩ := get_of_lt l hl
    have hn := hp.node i x hx
    simp only [nodeOk, Bool.and_eq_true] at hn
    have hkids := hn.2
    rcases arity_cases x.k with e | e | e | e
    · simp [kidsOk, e] at hkids
      exact ⟨_, .leaf hx e hkids.1 hkids.2⟩
    · simp [kidsOk, e] at hkids
      obtain ⟨j, hj, hjk⟩ := inR_toNat hkids.1
      obtain ⟨t, ht⟩ := ih j (by omega) (by omega)
      exact ⟨_, .stem hx e hj hjk hkids.2 ht⟩
    · simp [kidsOk, e] at hkids
      obtain ⟨⟨h1, h2⟩, _⟩ := hkids
      obtain ⟨j, hj, hjk⟩ := inR_toNat h1
      obtain ⟨j2, hj2, hjk2⟩ := inR_toNat h2
      obtain ⟨a, ha⟩ := ih j (by omega) (by omega)
      obtain ⟨b, hb⟩ := ih j2 (by omega) (by omega)
      exact ⟨_, .fork hx e hj hjk hj2 hjk2 ha hb⟩
    · simp [kidsOk, e] at hkids

theorem IsTree.lt {l : List Nd} {i : Nat} {t : T} (h : IsTree l i t) : i < l.length := by
  cases h with
  | leaf hx => exact (List.getElem?_eq_some_iff.1 hx).1
  | stem hx => exact (List.getElem?_eq_some_iff.1 hx).1
  | fork hx => exact (List.getElem?_eq_some_iff.1 hx).1

/-- How many nodes the longest way down has. -/
def T.depth : T → Nat
  | .leaf _ => 1
  | .stem _ t => 1 + t.depth
  | .fork _ a b => 1 + max a.depth b.depth
theorem IsTree.depth_le {l : List Nd} {i : Nat} {t : T} (h : IsTree l i t) : t.depth ≤ i + 1 := by
  induction h with
  | leaf => simp [T.depth]
  | stem _ _ _ hj _ _ ih => simp only [T.depth]; omega
  | fork _ _ _ hj _ hj2 _ _ iha ihb => simp only [T.depth]; omega
theorem T.depth_pos (t : T) : 1 ≤ t.depth := by cases t <;> simp [T.depth] <;> omega

theorem IsTree.same {l : List Nd} {i : Nat} {t u : T} (h : IsTree l i t) (k : IsTree l i u) : t = u := by
  induction h generalizing u with
  | leaf hx ha _ _ =>
    cases k with
    | leaf hy _ _ _ => rw [Option.some.inj (hx.symm.trans hy)]
    | stem hy hb => rw [← Option.some.inj (hx.symm.trans hy), ha] at hb; cases hb
    | fork hy hb => rw [← Option.some.inj (hx.symm.trans hy), ha] at hb; cases hb
  | stem hx ha h1 _ _ _ ih =>
    cases k with
    | leaf hy hb => rw [← Option.some.inj (hx.symm.trans hy), ha] at hb; cases hb
    | stem hy _ k1 _ _ kt =>
      have e := Option.some.inj (hx.symm.trans hy)
      subst e
      rw [h1] at k1
      obtain rfl := Int.ofNat_inj.1 k1
      rw [ih kt]
    | fork hy hb => rw [← Option.some.inj (hx.symm.trans hy), ha] at hb; cases hb
  | fork hx ha h1 _ h2 _ _ _ iha ihb =>
    cases k with
    | leaf hy hb => rw [← Option.some.inj (hx.symm.trans hy), ha] at hb; cases hb
    | stem hy hb => rw [← Option.some.inj (hx.symm.trans hy), ha] at hb; cases hb
    | fork hy _ k1 _ k2 _ kta ktb =>
      have e := Option.some.inj (hx.symm.trans hy)
      subst e
      rw [h1] at k1
      rw [h2] at k2
      obtain rfl := Int.ofNat_inj.1 k1
      obtain rfl := Int.ofNat_inj.1 k2
      rw [iha kta, ihb ktb]

end Go.Proofs.Ytkjhncohanfciaa

/- Contracts: the nodes of a tree, in order, behind others (the reference). -/
namespace Go.Proofs.Ytkjhncohanfciaa
open Go.RowKit

/-- How many nodes a tree has. -/
def T.size : T → Nat
  | .leaf _ => 1
  | .stem _ t => t.size + 1
  | .fork _ a b => a.size + b.size + 1
/-- The nodes of a tree in order, when n are ahead of them. -/
def T.put : T → Nat → List Nd
  | .leaf x, _ => [x]
  | .stem x t, n => t.put n ++ [⟨x.k, (n : Int) + (t.size : Int) - 1, x.b, x.n, x.m⟩]
  | .fork x a b, n => a.put n ++ b.put (n + a.size) ++ [⟨x.k, (n : Int) + (a.size : Int) - 1, (n : Int) + (a.size : Int) + (b.size : Int) - 1, x.n, x.m⟩]
theorem T.put_len (t : T) : ∀ n, (t.put n).length = t.size := by
  induction t with
  | leaf => intro n; rfl
  | stem x t ih => intro n; simp [T.put, T.size, ih]
  | fork x a b iha ihb => intro n; simp [T.put, T.size, iha, ihb]; omega
theorem T.size_pos (t : T) : 1 ≤ t.size := by cases t <;> simp [T.size]

/-- What is left when nodes were put behind those of a slice of the call's own. -/
structure Wrote (w w' : World) (base : Nat) (A A' : Option Addr) (c' : Nat) (q : List Nd) : Prop where
  own : OwnN w' base A' c' q
  grown : w.grownBy w' (rowOf A)
  at_ : rowOf A' = rowOf A ∨ ∃ g, rowOf A' = some g ∧ w.heap.size ≤ g

theorem OwnN.row_lt {w : World} {base c : Nat} {A : Option Addr} {l : List Nd} (h : OwnN w base A c l) : ∀ g, rowOf A = some g → base ≤ g ∧ g < w.heap.size := fun g hg => by
  have := World.ownsRow.lt h g (by rw [ownBlock_slice]; exact hg)
  exact this
theorem RdN.grown {w w' : World} {B base : Nat} {A Ao : Option Addr} {c : Nat} {l p : List Nd} (h : RdN w B A l) (ho : OwnN w base Ao c p) (hB : B ≤ base) (hz : base ≤ w.heap.size) (hg : w.grownBy w' (rowOf Ao)) : RdN w' B A l :=
  h.keep fun q hq => World.cell?_of_block (hg.block q.block (by omega) (fun e => by have := (ho.row_lt _ e.symm).1; omega))
theorem grown_of {a b c : World} {row row2 : Option Nat} (h : a.grownBy b row) (k : b.grownBy c row2) (hr : row2 = row ∨ ∃ g, row2 = some g ∧ a.heap.size ≤ g) : a.grownBy c row :=
  ⟨k.os.trans h.os, k.tape.trans h.tape, k.output.trans h.output, Nat.le_trans h.size k.size, fun j hj hne => (k.block j (Nat.lt_of_lt_of_le hj h.size) (by
    rcases hr with rfl | ⟨g, rfl, hg⟩
    · exact hne
    · intro e; have := Option.some.inj e; omega)).trans (h.block j hj hne)⟩
theorem grown_below {a b : World} (h : Below a.heap.size a b) (row : Option Nat) : a.grownBy b row := ⟨h.os, h.tape, h.output, h.size, fun j hj _ => h.block j hj⟩

theorem wrote_of {w W w1 : World} {base c' : Nat} {A A1 A' : Option Addr} {q : List Nd} {o : Obj} (h : w.grownBy W (rowOf A)) (hA : rowOf A1 = rowOf A ∨ ∃ g, rowOf A1 = some g ∧ w.heap.size ≤ g) (k : Appd (W.alloc o) w1 base A1 A' c' q) : Wrote w w1 base A A' c' q :=
  ⟨k.own, grown_of (grown_of h (World.grownBy_alloc _ _ (rowOf A)) (.inl rfl)) k.grown hA, by
    rcases k.at_ with e | e
    · rw [e]; exact hA
    · exact .inr ⟨_, e, by have := h.size; simp; omega⟩⟩
theorem own_ne {w W : World} {base c g : Nat} {A A1 : Option Addr} {p : List Nd} (ho : OwnN w base A c p) (hg : w.heap.size ≤ g) (hW : g < W.heap.size) (h : rowOf A1 = rowOf A ∨ ∃ g, rowOf A1 = some g ∧ W.heap.size ≤ g) : rowOf A1 ≠ some g := by
  rcases h with e | ⟨g2, e, h2⟩
  · intro e2
    have := (ho.row_lt g (e.symm.trans e2)).2
    omega
  · intro e2
    have := Option.some.inj (e.symm.trans e2)
    omega
theorem at_trans {w W : World} {A A1 A2 : Option Addr} (hz : w.heap.size ≤ W.heap.size) (h : rowOf A1 = rowOf A ∨ ∃ g, rowOf A1 = some g ∧ w.heap.size ≤ g) (k : rowOf A2 = rowOf A1 ∨ ∃ g, rowOf A2 = some g ∧ W.heap.size ≤ g) : rowOf A2 = rowOf A ∨ ∃ g, rowOf A2 = some g ∧ w.heap.size ≤ g := by
  rcases k with e | ⟨g, e, hg⟩
  · rw [e]; exact h
  · exact .inr ⟨g, e, by omega⟩
theorem at_more {w W : World} {A A1 : Option Addr} (hz : w.heap.size ≤ W.heap.size) (h : rowOf A1 = rowOf A ∨ ∃ g, rowOf A1 = some g ∧ W.heap.size ≤ g) : rowOf A1 = rowOf A ∨ ∃ g, rowOf A1 = some g ∧ w.heap.size ≤ g := at_trans hz (.inl rfl) h
theorem Bk.grown {w w' : World} {g : Nat} {t : TypeId} {cs : List Value} {row : Option Nat} (h : Bk w g t cs) (hg : w.grownBy w' row) (hne : some g ≠ row) : Bk w' g t cs := (hg.block g h.lt hne).trans h

theorem ret_slice {A : Option Addr} {n m c : Nat} (h : n = m) : Ending.returned (.slice A n c) = .returned (.slice A m c) := by rw [h]

set_option maxHeartbeats 6400000 in
theorem post_any {l : List Nd} {i : Nat} {t : T} (ht : IsTree l i t) : ∀ (A : Option Addr) (c : Nat) (w : World) (B base : Nat) (Ao : Option Addr) (co : Nat) (p : List Nd) (n0 : Nat), RdN w B A l → B ≤ base → base ≤ w.heap.size → OwnN w base Ao co p → p.length = n0 → n0 + t.size ≤ 1048576 → l.length ≤ 1048576 →
    Calls Try.prog 70 #[.agg #[.slice A l.length c], .int .i64 i, .slice Ao n0 co] w fun e w' => ∃ A' c', e = .returned (.slice A' (n0 + t.size) c') ∧ Wrote w w' base Ao A' c' (p ++ t.put n0) := by
  induction ht with
  | @leaf i x hx ha h1 h2 =>
    intro A c w B base Ao co p n0 h hB hbase ho hp hsz hn
    simp only [T.size] at hsz
    have hlt : i < l.length := (List.getElem?_eq_some_iff.1 hx).1
    have hb0 := (Below.refl w.heap.size w).alloc (Nat.le_refl _) (.cells #[.slice A l.length c] 32)
    obtain ⟨b, o, y, rfl, hbB, hy, hc⟩ := (h.below hb0 (by omega)).at_ hlt
    obtain rfl := Option.some.inj (hx.symm.trans hy)
    obtain ⟨c0, c1, c2, c3, c4⟩ := hc
    obtain ⟨k, a, b2, n, m⟩ := x
    simp only at h1 h2 c0 c1 c2 c3 c4
    subst h1 h2
    have hb2 := hb0.alloc (by simp) (.cells #[.int .i64 k, .int .i64 (-1), .int .i64 (-1), .int .i64 n, .int .i64 m] 69)
    have Hb2 := Lib.hid hb2
    have Ho2 := Lib.hid (ho.below hb2 (Nat.le_refl _))
    have Hp := Lib.hid hp
    clear hx hy ha h ho hb0 hb2 hp
    go_enter Try.func70, Try.ntmps70
    go_wp2_with (at_builtin; refine wpList_append_node rfl _ _ rfl base Ao co p ⟨k, -1, -1, n, m⟩ n0 Hp.out rfl Ho2.out _ rfl (by simp) (by omega) (by simp; omega) ?_; intro A' c' w1 happ; have Happ := Lib.hid happ; clear happ)
    go_ret
    exact ⟨A', c', rfl, wrote_of (grown_below Hb2.out _) (.inl rfl) Happ.out⟩
  | @stem i j x t hx ha h1 hj h2 ht ih =>
    intro A c w B base Ao co p n0 h hB hbase ho hp hsz hn
    simp only [T.size] at hsz
    have hlt : i < l.length := (List.getElem?_eq_some_iff.1 hx).1
    have hb0 := (Below.refl w.heap.size w).alloc (Nat.le_refl _) (.cells #[.slice A l.length c] 32)
    obtain ⟨b, o, y, rfl, hbB, hy, hc⟩ := (h.below hb0 (by omega)).at_ hlt
    obtain rfl := Option.some.inj (hx.symm.trans hy)
    obtain ⟨c0, c1, c2, c3, c4⟩ := hc
    obtain ⟨k, a, b2, n, m⟩ := x
    simp only at h1 h2 c0 c1 c2 c3 c4
    subst h1 h2
    have Hi := Lib.hid (fun W' B' base' Ao' co' p' n' hr h1 h2 h3 h4 h5 => ih (some ⟨b, o, none⟩) c W' B' base' Ao' co' p' n' hr h1 h2 h3 h4 h5 hn)
    obtain ⟨W2, hW2⟩ : ∃ W2 : World, W2 = (w.alloc (.cells #[.slice (some ⟨b, o, none⟩) l.length c] 32)).alloc (.cells #[.int .i64 k, .int .i64 (j : Int), .int .i64 (-1), .int .i64 n, .int .i64 m] 69) := ⟨_, rfl⟩
    have hb2 : Below w.heap.size w W2 := by rw [hW2]; exact ((Below.refl _ _).alloc (Nat.le_refl _) _).alloc (by simp) _
    have hs2 : W2.heap.size = w.heap.size + 2 := by rw [hW2]; simp
    have hbox : Bk W2 w.heap.size 32 [.slice (some ⟨b, o, none⟩) l.length c] := by rw [hW2]; exact (Bk.new _ _ [_]).alloc _
    have hnode : Bk W2 (w.heap.size + 1) 69 [.int .i64 k, .int .i64 (j : Int), .int .i64 (-1), .int .i64 n, .int .i64 m] := by
      rw [hW2]
      have := Bk.new (w.alloc (.cells #[.slice (some ⟨b, o, none⟩) l.length c] 32)) 69 [.int .i64 k, .int .i64 (j : Int), .int .i64 (-1), .int .i64 n, .int .i64 m]
      simpa using this
    have ho2 := ho.below hb2 (Nat.le_refl _)
    have HW2 := Lib.hid hW2
    have Hb2 := Lib.hid hb2
    have Hbox := Lib.hid hbox
    have Hnode := Lib.hid hnode
    have Ho := Lib.hid ho
    have Ho2 := Lib.hid ho2
    have Hh2 := Lib.hid (h.below hb2 (by omega))
    have Hs2 := Lib.hid hs2
    have Hp := Lib.hid hp
    have hrow1 : rowOf Ao ≠ some (w.heap.size + 1) := fun e => by have := (ho.row_lt _ e).2; omega
    have hrow0 : rowOf Ao ≠ some w.heap.size := fun e => by have := (ho.row_lt _ e).2; omega
    have Hr1 : Hid (some (w.heap.size + 1) ≠ rowOf Ao) := Ne.symm hrow1
    have Hr0 : Hid (some w.heap.size ≠ rowOf Ao) := Ne.symm hrow0
    have hbase2 : base ≤ W2.heap.size := by omega
    clear hx hy ha h hb0 ih ht hW2 hb2 hbox hnode ho ho2 hs2 hp hrow1 hrow0
    go_enter Try.func70, Try.ntmps70
    go_wp2_with fail
    rw [← HW2.out]
    refine (Hi.out W2 B base Ao co p n0 Hh2.out hB hbase2 Ho2.out Hp.out (by omega)).mono ?_
    rintro e w3 ⟨A1, c1', rfl, hwr⟩
    have hnode3 := Hnode.out.grown hwr.grown Hr1.out
    have Hwr := Lib.hid hwr
    have Hnode3 := Lib.hid hnode3
    have d0 : w3.cell? ⟨w.heap.size + 1, 0, none⟩ = some (.int .i64 k) := hnode3.cell 0
    have d1 : w3.cell? ⟨w.heap.size + 1, 1, none⟩ = some (.int .i64 (j : Int)) := hnode3.cell 1
    have d2 : w3.cell? ⟨w.heap.size + 1, 2, none⟩ = some (.int .i64 (-1)) := hnode3.cell 2
    have d3 : w3.cell? ⟨w.heap.size + 1, 3, none⟩ = some (.int .i64 n) := hnode3.cell 3
    have d4 : w3.cell? ⟨w.heap.size + 1, 4, none⟩ = some (.int .i64 m) := hnode3.cell 4
    have f1 := hnode3.free 1
    clear hwr hnode3
    have hz3 := Hwr.out.grown.size
    have hs2' := Hs2.out
    obtain ⟨V, hV⟩ : ∃ V : Int, V = (n0 : Int) + (t.size : Int) - 1 := ⟨_, rfl⟩
    have hst := grown_one (World.grownBy.refl w3 (some (w.heap.size + 1))) 1 (.int .i64 V)
    have Hne1 : Hid (rowOf A1 ≠ some (w.heap.size + 1)) := own_ne Ho.out (Nat.le_succ _) (by omega) Hwr.out.at_
    have HoS := Lib.hid (Hwr.out.own.grown hst (.inr Hne1.out))
    have HgS := Lib.hid (grown_of (grown_of (grown_below Hb2.out (rowOf Ao)) Hwr.out.grown (.inl rfl)) hst (.inr ⟨_, rfl, Nat.le_succ _⟩))
    have hzS : w3.heap.size = (w3.setCell ⟨w.heap.size + 1, 1, none⟩ (.int .i64 V)).heap.size := by simp [World.setCell]
    have HzS := Lib.hid hzS
    have Hq : Hid ((p ++ t.put n0).length = n0 + t.size) := by show (p ++ t.put n0).length = n0 + t.size; rw [List.length_append, T.put_len, Hp.out]
    have hbaseS : base ≤ (w3.setCell ⟨w.heap.size + 1, 1, none⟩ (.int .i64 V)).heap.size := by rw [← hzS]; omega
    have HbS := Lib.hid hbaseS
    subst hV
    clear hst hzS hbaseS
    go_wp2_with (at_builtin; refine wpList_append_node rfl _ _ rfl base A1 c1' (p ++ t.put n0) ⟨k, (n0 : Int) + (t.size : Int) - 1, -1, n, m⟩ (n0 + t.size) Hq.out rfl HoS.out _ rfl HzS.out (by omega) HbS.out ?_; intro A' c' w1 happ; have Happ := Lib.hid happ; clear happ)
    go_ret
    refine ⟨A', c', ret_slice (by simp only [T.size]; omega), ?_⟩
    have hfin := wrote_of HgS.out (at_more Hb2.out.size Hwr.out.at_) Happ.out
    rw [List.append_assoc] at hfin
    exact hfin
  | @fork i j j2 x ta tb hx ha h1 hj h2 hj2 hta htb iha ihb =>
    intro A c w B base Ao co p n0 h hB hbase ho hp hsz hn
    simp only [T.size] at hsz
    have hlt : i < l.length := (List.getElem?_eq_some_iff.1 hx).1
    have hb0 := (Below.refl w.heap.size w).alloc (Nat.le_refl _) (.cells #[.slice A l.length c] 32)
    obtain ⟨b, o, y, rfl, hbB, hy, hc⟩ := (h.below hb0 (by omega)).at_ hlt
    obtain rfl := Option.some.inj (hx.symm.trans hy)
    obtain ⟨c0, c1, c2, c3, c4⟩ := hc
    obtain ⟨k, a, b2, n, m⟩ := x
    simp only at h1 h2 c0 c1 c2 c3 c4
    subst h1 h2
    have Hi := Lib.hid (fun W' B' base' Ao' co' p' n' hr h1 h2 h3 h4 h5 => iha (some ⟨b, o, none⟩) c W' B' base' Ao' co' p' n' hr h1 h2 h3 h4 h5 hn)
    have Hi2 := Lib.hid (fun W' B' base' Ao' co' p' n' hr h1 h2 h3 h4 h5 => ihb (some ⟨b, o, none⟩) c W' B' base' Ao' co' p' n' hr h1 h2 h3 h4 h5 hn)
    obtain ⟨W2, hW2⟩ : ∃ W2 : World, W2 = (w.alloc (.cells #[.slice (some ⟨b, o, none⟩) l.length c] 32)).alloc (.cells #[.int .i64 k, .int .i64 (j : Int), .int .i64 (j2 : Int), .int .i64 n, .int .i64 m] 69) := ⟨_, rfl⟩
    have hb2 : Below w.heap.size w W2 := by rw [hW2]; exact ((Below.refl _ _).alloc (Nat.le_refl _) _).alloc (by simp) _
    have hs2 : W2.heap.size = w.heap.size + 2 := by rw [hW2]; simp
    have hbox : Bk W2 w.heap.size 32 [.slice (some ⟨b, o, none⟩) l.length c] := by rw [hW2]; exact (Bk.new _ _ [_]).alloc _
    have hnode : Bk W2 (w.heap.size + 1) 69 [.int .i64 k, .int .i64 (j : Int), .int .i64 (j2 : Int), .int .i64 n, .int .i64 m] := by
      rw [hW2]
      have := Bk.new (w.alloc (.cells #[.slice (some ⟨b, o, none⟩) l.length c] 32)) 69 [.int .i64 k, .int .i64 (j : Int), .int .i64 (j2 : Int), .int .i64 n, .int .i64 m]
      simpa using this
    have ho2 := ho.below hb2 (Nat.le_refl _)
    have HW2 := Lib.hid hW2
    have Hb2 := Lib.hid hb2
    have Hbox := Lib.hid hbox
    have Hnode := Lib.hid hnode
    have Ho := Lib.hid ho
    have Ho2 := Lib.hid ho2
    have Hh2 := Lib.hid (h.below hb2 (by omega))
    have Hs2 := Lib.hid hs2
    have Hp := Lib.hid hp
    have hrow1 : rowOf Ao ≠ some (w.heap.size + 1) := fun e => by have := (ho.row_lt _ e).2; omega
    have hrow0 : rowOf Ao ≠ some w.heap.size := fun e => by have := (ho.row_lt _ e).2; omega
    have Hr1 : Hid (some (w.heap.size + 1) ≠ rowOf Ao) := Ne.symm hrow1
    have Hr0 : Hid (some w.heap.size ≠ rowOf Ao) := Ne.symm hrow0
    have hbase2 : base ≤ W2.heap.size := by omega
    clear hx hy ha h hb0 iha ihb hta htb hW2 hb2 hbox hnode ho ho2 hs2 hp hrow1 hrow0
    go_enter Try.func70, Try.ntmps70
    go_wp2_with fail
    rw [← HW2.out]
    refine (Hi.out W2 B base Ao co p n0 Hh2.out hB hbase2 Ho2.out Hp.out (by omega)).mono ?_
    rintro e w3 ⟨A1, c1', rfl, hwr⟩
    have hnode3 := Hnode.out.grown hwr.grown Hr1.out
    have hbox3 := Hbox.out.grown hwr.grown Hr0.out
    have Hwr := Lib.hid hwr
    have Hnode3 := Lib.hid hnode3
    have Hbox3 := Lib.hid hbox3
    have Hh3 := Lib.hid (Hh2.out.grown Ho2.out hB hbase2 hwr.grown)
    have d0 : w3.cell? ⟨w.heap.size + 1, 0, none⟩ = some (.int .i64 k) := hnode3.cell 0
    have d1 : w3.cell? ⟨w.heap.size + 1, 1, none⟩ = some (.int .i64 (j : Int)) := hnode3.cell 1
    have d2 : w3.cell? ⟨w.heap.size + 1, 2, none⟩ = some (.int .i64 (j2 : Int)) := hnode3.cell 2
    have e0 : w3.cell? ⟨w.heap.size, 0, none⟩ = some (.slice (some ⟨b, o, none⟩) l.length c) := hbox3.cell 0
    have f1 := hnode3.free 1
    clear hwr hnode3 hbox3
    have hz3 := Hwr.out.grown.size
    have hs2' := Hs2.out
    obtain ⟨V, hV⟩ : ∃ V : Int, V = (n0 : Int) + (ta.size : Int) - 1 := ⟨_, rfl⟩
    have hst := grown_one (World.grownBy.refl w3 (some (w.heap.size + 1))) 1 (.int .i64 V)
    have Hne1 : Hid (rowOf A1 ≠ some (w.heap.size + 1)) := own_ne Ho.out (Nat.le_succ _) (by omega) Hwr.out.at_
    have HoS := Lib.hid (Hwr.out.own.grown hst (.inr Hne1.out))
    have HgS := Lib.hid (grown_of (grown_of (grown_below Hb2.out (rowOf Ao)) Hwr.out.grown (.inl rfl)) hst (.inr ⟨_, rfl, Nat.le_succ _⟩))
    have hzS : w3.heap.size = (w3.setCell ⟨w.heap.size + 1, 1, none⟩ (.int .i64 V)).heap.size := by simp [World.setCell]
    have HzS := Lib.hid hzS
    have Hq : Hid ((p ++ ta.put n0).length = n0 + ta.size) := by show (p ++ ta.put n0).length = n0 + ta.size; rw [List.length_append, T.put_len, Hp.out]
    have hbaseS : base ≤ (w3.setCell ⟨w.heap.size + 1, 1, none⟩ (.int .i64 V)).heap.size := by rw [← hzS]; omega
    have HbS := Lib.hid hbaseS
    have hnodeS := Hnode3.out.set_ 1 (.int .i64 V)
    have hboxS := Hbox3.out.far (p := ⟨w.heap.size + 1, 1, none⟩) (Nat.ne_of_lt (Nat.lt_succ_self _)) (.int .i64 V)
    have HnodeS := Lib.hid hnodeS
    have HhS := Lib.hid (Hh3.out.keep (w' := w3.setCell ⟨w.heap.size + 1, 1, none⟩ (.int .i64 V)) (fun q hq => World.cell?_setCell_other _ _ _ _ (fun e => by subst e; simp at hq; omega)))
    obtain ⟨WS, hWS⟩ : ∃ WS : World, WS = w3.setCell ⟨w.heap.size + 1, 1, none⟩ (.int .i64 V) := ⟨_, rfl⟩
    rw [← hWS] at hnodeS hboxS HnodeS HhS HoS HgS HzS HbS
    have HWS := Lib.hid hWS
    clear hWS hnodeS hboxS
    subst hV
    clear hst hzS hbaseS
    go_wp2_with fail
    rw [← HWS.out]
    refine (Hi2.out WS B base A1 c1' (p ++ ta.put n0) (n0 + ta.size) HhS.out hB HbS.out HoS.out Hq.out (by omega)).mono ?_
    rintro e w4 ⟨A2, c2', rfl, hwr4⟩
    have hnode4 := HnodeS.out.grown hwr4.grown (Ne.symm Hne1.out)
    have Hwr4 := Lib.hid hwr4
    have g0 : w4.cell? ⟨w.heap.size + 1, 0, none⟩ = some (.int .i64 k) := hnode4.cell 0
    have g1 : w4.cell? ⟨w.heap.size + 1, 1, none⟩ = some (.int .i64 ((n0 : Int) + (ta.size : Int) - 1)) := hnode4.cell 1
    have g2 : w4.cell? ⟨w.heap.size + 1, 2, none⟩ = some (.int .i64 (j2 : Int)) := hnode4.cell 2
    have g3 : w4.cell? ⟨w.heap.size + 1, 3, none⟩ = some (.int .i64 n) := hnode4.cell 3
    have g4 : w4.cell? ⟨w.heap.size + 1, 4, none⟩ = some (.int .i64 m) := hnode4.cell 4
    have f2 := hnode4.free 2
    have hz4 := Hwr4.out.grown.size
    obtain ⟨V2, hV2⟩ : ∃ V2 : Int, V2 = (n0 : Int) + (ta.size : Int) + (tb.size : Int) - 1 := ⟨_, rfl⟩
    have hst2 := grown_one (World.grownBy.refl w4 (some (w.heap.size + 1))) 2 (.int .i64 V2)
    have hnbS : w.heap.size + 1 < WS.heap.size := HnodeS.out.lt
    have hne2 : rowOf A2 ≠ some (w.heap.size + 1) := by
      rcases Hwr4.out.at_ with e | ⟨g, e, hg⟩
      · rw [e]; exact Hne1.out
      · rw [e]; intro e2; have := Option.some.inj e2; omega
    have HoT := Lib.hid (Hwr4.out.own.grown hst2 (.inr hne2))
    have HgT := Lib.hid (grown_of (grown_of HgS.out Hwr4.out.grown (at_more (Hb2.out.size) Hwr.out.at_)) hst2 (.inr ⟨_, rfl, Nat.le_succ _⟩))
    have hzT : w4.heap.size = (w4.setCell ⟨w.heap.size + 1, 2, none⟩ (.int .i64 V2)).heap.size := by simp [World.setCell]
    have HzT := Lib.hid hzT
    have HbT : Hid (base ≤ (w4.setCell ⟨w.heap.size + 1, 2, none⟩ (.int .i64 V2)).heap.size) := by show base ≤ _; rw [← hzT]; have := HbS.out; omega
    have Hq2 : Hid ((p ++ ta.put n0 ++ tb.put (n0 + ta.size)).length = n0 + ta.size + tb.size) := by show (p ++ ta.put n0 ++ tb.put (n0 + ta.size)).length = _; rw [List.length_append, T.put_len, Hq.out]
    have HatT := Lib.hid (at_trans (Nat.le_trans Hb2.out.size (Nat.le_trans hz3 (Nat.le_of_eq HzS.out))) (at_more Hb2.out.size Hwr.out.at_) Hwr4.out.at_)
    subst hV2
    clear hst2 hzT hne2 hwr4 hnode4 d0 d1 d2 e0 f1
    go_wp2_with (at_builtin; refine wpList_append_node rfl _ _ rfl base A2 c2' (p ++ ta.put n0 ++ tb.put (n0 + ta.size)) ⟨k, (n0 : Int) + (ta.size : Int) - 1, (n0 : Int) + (ta.size : Int) + (tb.size : Int) - 1, n, m⟩ (n0 + ta.size + tb.size) Hq2.out rfl HoT.out _ rfl HzT.out (by omega) HbT.out ?_; intro A' c' w1 happ; have Happ := Lib.hid happ; clear happ)
    go_ret
    refine ⟨A', c', ret_slice (by simp only [T.size]; omega), ?_⟩
    have hfin := wrote_of HgT.out HatT.out Happ.out
    simp only [List.append_assoc] at hfin
    simpa only [T.put, List.append_assoc] using hfin

end Go.Proofs.Ytkjhncohanfciaa
