/- Texts on the program and its reference, put together (PipeP, Tree, Post, PB, PX, Copy, Hld, ClM, NodeE, ClC). -/
import Derived.Test.YthfniffecceldaaMq5A
import Derived.Deep.DeepMust
import Derived.Deep.QuietTactic
import Derived.BigQuiet
import Derived.Laws.MakeOwn
import Derived.OwnWalk
import Derived.Deep.RegionWith
/- Plain mathematics: marking the nodes that are below tells the same as counting them. -/
namespace Go.Proofs.Ythfniffecceldaa

theorem inR_toNat {a : Int} {k : Nat} (h : inR a 0 ((k : Int) - 1) = true) : ∃ j : Nat, a = (j : Int) ∧ j < k := by
  obtain ⟨h1, h2⟩ := inR_iff.1 h
  exact ⟨a.toNat, by omega, by omega⟩
theorem one_eq (j : Nat) : one ((j : Int) == (j : Int)) = 1 := by simp [one]
theorem one_ne {i j : Int} (h : i ≠ j) : one (i == j) = 0 := by simp [one, h]
theorem one_yes {i j : Int} (h : i = j) : one (i == j) = 1 := by simp [one, h]

theorem marks_mark {l : List Nd} {k n : Nat} {x : Nd} (hx : l[k]? = some x) {j : Nat} (ha : x.a = (j : Int)) (hb : x.b = -1) : (marks l k n).set j true = marks l (k + 1) n := by
  apply List.ext_getElem?
  intro i
  by_cases hi : i < n
  · rw [marks_get _ _ hi, useOf_succ hx, ha, hb, one_ne (i := -1) (by omega)]
    by_cases hij : i = j
    · subst hij
      rw [List.getElem?_set_self (by rw [marks_len]; exact hi), one_eq]
      simp
    · rw [List.getElem?_set_ne (by omega), marks_get _ _ hi, one_ne (by omega)]
      simp
  · rw [List.getElem?_eq_none (by rw [List.length_set, marks_len]; omega), List.getElem?_eq_none (by rw [marks_len]; omega)]
theorem marks_mark2 {l : List Nd} {k n : Nat} {x : Nd} (hx : l[k]? = some x) {j j2 : Nat} (ha : x.a = (j : Int)) (hb : x.b = (j2 : Int)) : ((marks l k n).set j true).set j2 true = marks l (k + 1) n := by
  apply List.ext_getElem?
  intro i
  by_cases hi : i < n
  · rw [marks_get _ _ hi, useOf_succ hx, ha, hb]
    by_cases hij2 : i = j2
    · subst hij2
      rw [List.getElem?_set_self (by rw [List.length_set, marks_len]; exact hi), one_eq]
      simp
    · rw [List.getElem?_set_ne (by omega), one_ne (i := (j2 : Int)) (by omega)]
      by_cases hij : i = j
      · subst hij
        rw [List.getElem?_set_self (by rw [marks_len]; exact hi), one_eq]
        simp
      · rw [List.getElem?_set_ne (by omega), marks_get _ _ hi, one_ne (by omega)]
        simp
  · rw [List.getElem?_eq_none (by rw [List.length_set, List.length_set, marks_len]; omega), List.getElem?_eq_none (by rw [marks_len]; omega)]
theorem marks_none {l : List Nd} {k n : Nat} {x : Nd} (hx : l[k]? = some x) (ha : x.a = -1) (hb : x.b = -1) : marks l k n = marks l (k + 1) n := by
  apply List.ext_getElem?
  intro i
  by_cases hi : i < n
  · rw [marks_get _ _ hi, marks_get _ _ hi, useOf_succ hx, ha, hb, one_ne (i := -1) (by omega)]
    simp
  · rw [List.getElem?_eq_none (by rw [marks_len]; omega), List.getElem?_eq_none (by rw [marks_len]; omega)]

/-- No node is below two. -/
def Single (l : List Nd) (k : Nat) : Prop := ∀ j : Nat, useOf (l.take k) (j : Int) ≤ 1

theorem place_yes {l : List Nd} {k : Nat} {x : Nd} (hx : l[k]? = some x) (hs : Single l k) (h : placesOk x (marks l k l.length) k = true) :
    kidsOk x k = true ∧ marked x (marks l k l.length) = marks l (k + 1) l.length ∧ Single l (k + 1) := by
  have hk : k < l.length := (List.getElem?_eq_some_iff.1 hx).1
  rcases arity_cases x.k with e | e | e | e
  · simp [placesOk, e] at h
    obtain ⟨h1, h2⟩ := h
    refine ⟨by simp [kidsOk, e, h1, h2], by simp only [marked, e]; exact marks_none hx h1 h2, fun j => ?_⟩
    rw [useOf_succ hx, h1, h2, one_ne (by omega)]
    exact hs j
  · simp [placesOk, e] at h
    obtain ⟨⟨h1, h2⟩, h3⟩ := h
    obtain ⟨j, hj, hjk⟩ := inR_toNat h1
    refine ⟨by simp [kidsOk, e, h1, h3], ?_, fun i => ?_⟩
    · simp only [marked, e]
      show (marks l k l.length).set x.a.toNat true = _
      rw [hj, Int.toNat_natCast]
      exact marks_mark hx hj h3
    · rw [hj, Int.toNat_natCast, marks_get _ _ (by omega)] at h2
      simp at h2
      rw [useOf_succ hx, h3, hj, one_ne (i := -1) (by omega)]
      by_cases hij : i = j
      · subst hij; rw [h2, one_eq]; omega
      · rw [one_ne (by omega)]; exact hs i
  · simp [placesOk, e] at h
    obtain ⟨⟨h1, h2⟩, h3, h4⟩ := h
    obtain ⟨j, hj, hjk⟩ := inR_toNat h1
    obtain ⟨j2, hj2, hjk2⟩ := inR_toNat h3
    rw [hj, hj2, Int.toNat_natCast, Int.toNat_natCast] at h4
    rw [hj, Int.toNat_natCast, marks_get _ _ (by omega)] at h2
    simp at h2
    have hne : j ≠ j2 := by
      intro e2
      subst e2
      rw [List.getElem?_set_self (by rw [marks_len]; omega)] at h4
      simp at h4
    rw [List.getElem?_set_ne hne, marks_get _ _ (by omega)] at h4
    simp at h4
    refine ⟨by simp [kidsOk, e]; exact ⟨⟨h1, h3⟩, by omega⟩, ?_, fun i => ?_⟩
    · simp only [marked, e]
      show ((marks l k l.length).set x.a.toNat true).set x.b.toNat true = _
      rw [hj, hj2, Int.toNat_natCast, Int.toNat_natCast]
      exact marks_mark2 hx hj hj2
    · rw [useOf_succ hx, hj, hj2]
      by_cases hij : i = j
      · subst hij; rw [h2, one_eq, one_ne (by omega)]; omega
      · rw [one_ne (i := (j : Int)) (by omega)]
        by_cases hij2 : i = j2
        · subst hij2; rw [h4, one_eq]; omega
        · rw [one_ne (by omega)]; exact hs i
  · simp [placesOk, e] at h

theorem twice_no {l : List Nd} {k : Nat} {x : Nd} (hx : l[k]? = some x) {j : Nat} (hj : j < k) (h1 : 1 ≤ useOf (l.take k) (j : Int)) (h2 : x.a = (j : Int) ∨ x.b = (j : Int)) : ¬ PipeOk l := fun hp => by
  have hk : k < l.length := (List.getElem?_eq_some_iff.1 hx).1
  have h3 := hp.uses j (by omega)
  have h4 := useOf_take_le l (k + 1) (j : Int)
  rw [useOf_succ hx] at h4
  rcases h2 with h2 | h2 <;> rw [one_yes h2] at h4 <;> omega

theorem place_no {l : List Nd} {k : Nat} {x : Nd} (hx : l[k]? = some x) (h : placesOk x (marks l k l.length) k = false) : ¬ PipeOk l := fun hp => by
  have hk : k < l.length := (List.getElem?_eq_some_iff.1 hx).1
  have hn := hp.node k x hx
  simp only [nodeOk, Bool.and_eq_true] at hn
  have hkids := hn.2
  rcases arity_cases x.k with e | e | e | e
  · simp [kidsOk, e] at hkids
    simp [placesOk, e, hkids] at h
  · simp [kidsOk, e] at hkids
    obtain ⟨h1, h2⟩ := hkids
    obtain ⟨j, hj, hjk⟩ := inR_toNat h1
    simp [placesOk, e, h1, h2] at h
    rw [hj, Int.toNat_natCast, marks_get _ _ (by omega)] at h
    simp at h
    exact twice_no hx hjk (by omega) (.inl hj) hp
  · simp [kidsOk, e] at hkids
    obtain ⟨⟨h1, h2⟩, h3⟩ := hkids
    obtain ⟨j, hj, hjk⟩ := inR_toNat h1
    obtain ⟨j2, hj2, hjk2⟩ := inR_toNat h2
    have hne : j ≠ j2 := by rintro rfl; exact h3 (hj.trans hj2.symm)
    simp [placesOk, e, h1, h2] at h
    rw [hj, hj2, Int.toNat_natCast, Int.toNat_natCast, marks_get _ _ (by omega), List.getElem?_set_ne hne, marks_get _ _ (by omega)] at h
    simp at h
    by_cases hz : useOf (l.take k) (j : Int) = 0
    · exact twice_no hx hjk2 (by have := h hz; omega) (.inr hj2) hp
    · exact twice_no hx hjk (by omega) (.inl hj) hp
  · simp [kidsOk, e] at hkids

theorem nums_no {l : List Nd} {k : Nat} {x : Nd} (hx : l[k]? = some x) (h : (numsOk x && known x.k) = false) : ¬ PipeOk l := fun hp => by
  have hn := hp.node k x hx
  simp only [nodeOk, Bool.and_eq_true] at hn
  rw [hn.1, known_kids hn.2] at h
  cases h

/-- The first k nodes can stand where they do. -/
def Good (l : List Nd) (k : Nat) : Prop := ∀ (i : Nat) (x : Nd), i < k → l[i]? = some x → nodeOk x i = true
theorem Good.zero (l : List Nd) : Good l 0 := fun _ _ h => absurd h (by omega)
theorem Good.succ {l : List Nd} {k : Nat} {x : Nd} (h : Good l k) (hx : l[k]? = some x) (hn : nodeOk x k = true) : Good l (k + 1) := fun i y hi hy => by
  by_cases e : i = k
  · subst e
    rw [hx] at hy
    obtain rfl := Option.some.inj hy
    exact hn
  · exact h i y (by omega) hy
theorem Single.zero (l : List Nd) : Single l 0 := fun _ => by simp [useOf]

/-- The end of the marking: all but the last one are marked. -/
theorem marks_end {l : List Nd} (hg : Good l l.length) (hs : Single l l.length) (h1 : 1 ≤ l.length) (h12 : l.length ≤ 12) :
    pipeOk l = !((marks l l.length l.length).take (l.length - 1)).contains false := by
  rw [Bool.eq_iff_iff, pipeOk_iff]
  simp only [Bool.not_eq_true', List.contains_eq_mem, decide_eq_false_iff_not]
  constructor
  · intro hp hm
    obtain ⟨j, hj⟩ := List.getElem?_of_mem hm
    have hjl : j < l.length - 1 := by have := (List.getElem?_eq_some_iff.1 hj).1; simp at this; omega
    rw [List.getElem?_take_of_lt hjl, marks_get _ _ (by omega), List.take_length] at hj
    simp at hj
    have := hp.uses j (by omega)
    omega
  · intro hm
    refine ⟨fun i x hx => hg i x (List.getElem?_eq_some_iff.1 hx).1 hx, fun i hi => ?_, h1, h12⟩
    have h2 := hs i
    rw [List.take_length] at h2
    have h3 : useOf l (i : Int) ≠ 0 := fun e => hm (List.mem_of_getElem? (i := i) (by rw [List.getElem?_take_of_lt (by omega), marks_get _ _ (by omega), List.take_length, e]; rfl))
    omega

end Go.Proofs.Ythfniffecceldaa

/- Plain mathematics: the tree of a node of a valid pipe. -/
namespace Go.Proofs.Ythfniffecceldaa

/-- A node with all that is below it. -/
inductive T where
  | leaf (x : Nd) : T
  | stem (x : Nd) (t : T) : T
  | fork (x : Nd) (a b : T) : T

/-- t is the tree of the node i of l. -/
inductive IsTree (l : List Nd) : Nat → T → Prop where
  | leaf {i : Nat} {x : Nd} (hx : l[i]? = some x) (ha : arity x.k = 0) (h1 : x.a = -1) (h2 : x.b = -1) : IsTree l i (.leaf x)
  | stem {i j : Nat} {x : Nd} {t : T} (hx : l[i]? = some x) (ha : arity x.k = 1) (h1 : x.a = (j : Int)) (hj : j < i) (h2 : x.b = -1) (ht : IsTree l j t) : IsTree l i (.stem x t)
  | fork {i j j2 : Nat} {x : Nd} {a b : T} (hx : l[i]? = some x) (ha : arity x.k = 2) (h1 : x.a = (j : Int)) (hj : j < i) (h2 : x.b = (j2 : Int)) (hj2 : j2 < i) (hta : IsTree l j a) (htb : IsTree l j2 b) : IsTree l i (.fork x a b)

theorem IsTree.ex {l : List Nd} (hp : PipeOk l) : ∀ (n i : Nat), i < n → i < l.length → ∃ t, IsTree l i t := by
  intro n
  induction n with
  | zero => intro i hi; omega
  | succ n ih =>
    intro i hi hl
    obtain ⟨x, hx⟩ := get_of_lt l hl
    have hn := hp.node i x hx
    simp only [nodeOk, Bool.and_eq_true] at hn
    have hkids := hn.2
    rcases arity_cases x.k with e | e | e | e
    · simp [kidsOk, e] at hkids
      exact ⟨_, .leaf hx e hkids.1 hkids.2⟩
    · simp [kidsOk, e] at hkids
      obtain ⟨j, hj, hjk⟩ := inR_toNat hkids.1
      obtain ⟨t, ht⟩ := ih j (by omega) (by omega)
      exact ⟨_, .stem hx e hj hjk hkids.2 ht⟩
    · simp [kidsOk, e] at hkids
      obtain ⟨⟨h1, h2⟩, _⟩ := hkids
      obtain ⟨j, hj, hjk⟩ := inR_toNat h1
      obtain ⟨j2, hj2, hjk2⟩ := inR_toNat h2
      obtain ⟨a, ha⟩ := ih j (by omega) (by omega)
      obtain ⟨b, hb⟩ := ih j2 (by omega) (by omega)
      exact ⟨_, .fork hx e hj hjk hj2 hjk2 ha hb⟩
    · simp [kidsOk, e] at hkids

theorem IsTree.lt {l : List Nd} {i : Nat} {t : T} (h : IsTree l i t) : i < l.length := by
  cases h with
  | leaf hx => exact (List.getElem?_eq_some_iff.1 hx).1
  | stem hx => exact (List.getElem?_eq_some_iff.1 hx).1
  | fork hx => exact (List.getElem?_eq_some_iff.1 hx).1

/-- How many nodes the longest way down has. -/
def T.depth : T → Nat
  | .leaf _ => 1
  | .stem _ t => 1 + t.depth
  | .fork _ a b => 1 + max a.depth b.depth
theorem IsTree.depth_le {l : List Nd} {i : Nat} {t : T} (h : IsTree l i t) : t.depth ≤ i + 1 := by
  induction h with
  | leaf => simp [T.depth]
  | stem _ _ _ hj _ _ ih => simp only [T.depth]; omega
  | fork _ _ _ hj _ hj2 _ _ iha ihb => simp only [T.depth]; omega
theorem T.depth_pos (t : T) : 1 ≤ t.depth := by cases t <;> simp [T.depth] <;> omega

theorem IsTree.same {l : List Nd} {i : Nat} {t u : T} (h : IsTree l i t) (k : IsTree l i u) : t = u := by
  induction h generalizing u with
  | leaf hx ha _ _ =>
    cases k with
    | leaf hy _ _ _ => rw [Option.some.inj (hx.symm.trans hy)]
    | stem hy hb => rw [← Option.some.inj (hx.symm.trans hy), ha] at hb; cases hb
    | fork hy hb => rw [← Option.some.inj (hx.symm.trans hy), ha] at hb; cases hb
  | stem hx ha h1 _ _ _ ih =>
    cases k with
    | leaf hy hb => rw [← Option.some.inj (hx.symm.trans hy), ha] at hb; cases hb
    | stem hy _ k1 _ _ kt =>
      have e := Option.some.inj (hx.symm.trans hy)
      subst e
      rw [h1] at k1
      obtain rfl := Int.ofNat_inj.1 k1
      rw [ih kt]
    | fork hy hb => rw [← Option.some.inj (hx.symm.trans hy), ha] at hb; cases hb
  | fork hx ha h1 _ h2 _ _ _ iha ihb =>
    cases k with
    | leaf hy hb => rw [← Option.some.inj (hx.symm.trans hy), ha] at hb; cases hb
    | stem hy hb => rw [← Option.some.inj (hx.symm.trans hy), ha] at hb; cases hb
    | fork hy _ k1 _ k2 _ kta ktb =>
      have e := Option.some.inj (hx.symm.trans hy)
      subst e
      rw [h1] at k1
      rw [h2] at k2
      obtain rfl := Int.ofNat_inj.1 k1
      obtain rfl := Int.ofNat_inj.1 k2
      rw [iha kta, ihb ktb]

end Go.Proofs.Ythfniffecceldaa

/- Contracts: the nodes of a tree, in order, behind others (the reference). -/
namespace Go.Proofs.Ythfniffecceldaa
open Go.RowKit

/-- How many nodes a tree has. -/
def T.size : T → Nat
  | .leaf _ => 1
  | .stem _ t => t.size + 1
  | .fork _ a b => a.size + b.size + 1
/-- The nodes of a tree in order, when n are ahead of them. -/
def T.put : T → Nat → List Nd
  | .leaf x, _ => [x]
  | .stem x t, n => t.put n ++ [⟨x.k, (n : Int) + (t.size : Int) - 1, x.b, x.n, x.m⟩]
  | .fork x a b, n => a.put n ++ b.put (n + a.size) ++ [⟨x.k, (n : Int) + (a.size : Int) - 1, (n : Int) + (a.size : Int) + (b.size : Int) - 1, x.n, x.m⟩]
theorem T.put_len (t : T) : ∀ n, (t.put n).length = t.size := by
  induction t with
  | leaf => intro n; rfl
  | stem x t ih => intro n; simp [T.put, T.size, ih]
  | fork x a b iha ihb => intro n; simp [T.put, T.size, iha, ihb]; omega
theorem T.size_pos (t : T) : 1 ≤ t.size := by cases t <;> simp [T.size]

/-- What is left when nodes were put behind those of a slice of the call's own. -/
structure Wrote (w w' : World) (base : Nat) (A A' : Option Addr) (c' : Nat) (q : List Nd) : Prop where
  own : OwnN w' base A' c' q
  grown : w.grownBy w' (rowOf A)
  at_ : rowOf A' = rowOf A ∨ ∃ g, rowOf A' = some g ∧ w.heap.size ≤ g

theorem OwnN.row_lt {w : World} {base c : Nat} {A : Option Addr} {l : List Nd} (h : OwnN w base A c l) : ∀ g, rowOf A = some g → base ≤ g ∧ g < w.heap.size := fun g hg => by
  have := World.ownsRow.lt h g (by rw [ownBlock_slice]; exact hg)
  exact this
theorem RdN.grown {w w' : World} {B base : Nat} {A Ao : Option Addr} {c : Nat} {l p : List Nd} (h : RdN w B A l) (ho : OwnN w base Ao c p) (hB : B ≤ base) (hz : base ≤ w.heap.size) (hg : w.grownBy w' (rowOf Ao)) : RdN w' B A l :=
  h.keep fun q hq => World.cell?_of_block (hg.block q.block (by omega) (fun e => by have := (ho.row_lt _ e.symm).1; omega))
theorem grown_of {a b c : World} {row row2 : Option Nat} (h : a.grownBy b row) (k : b.grownBy c row2) (hr : row2 = row ∨ ∃ g, row2 = some g ∧ a.heap.size ≤ g) : a.grownBy c row :=
  ⟨k.os.trans h.os, k.tape.trans h.tape, k.output.trans h.output, Nat.le_trans h.size k.size, fun j hj hne => (k.block j (Nat.lt_of_lt_of_le hj h.size) (by
    rcases hr with rfl | ⟨g, rfl, hg⟩
    · exact hne
    · intro e; have := Option.some.inj e; omega)).trans (h.block j hj hne)⟩
theorem grown_below {a b : World} (h : Below a.heap.size a b) (row : Option Nat) : a.grownBy b row := ⟨h.os, h.tape, h.output, h.size, fun j hj _ => h.block j hj⟩

theorem wrote_of {w W w1 : World} {base c' : Nat} {A A1 A' : Option Addr} {q : List Nd} {o : Obj} (h : w.grownBy W (rowOf A)) (hA : rowOf A1 = rowOf A ∨ ∃ g, rowOf A1 = some g ∧ w.heap.size ≤ g) (k : Appd (W.alloc o) w1 base A1 A' c' q) : Wrote w w1 base A A' c' q :=
  ⟨k.own, grown_of (grown_of h (World.grownBy_alloc _ _ (rowOf A)) (.inl rfl)) k.grown hA, by
    rcases k.at_ with e | e
    · rw [e]; exact hA
    · exact .inr ⟨_, e, by have := h.size; simp; omega⟩⟩
theorem own_ne {w W : World} {base c g : Nat} {A A1 : Option Addr} {p : List Nd} (ho : OwnN w base A c p) (hg : w.heap.size ≤ g) (hW : g < W.heap.size) (h : rowOf A1 = rowOf A ∨ ∃ g, rowOf A1 = some g ∧ W.heap.size ≤ g) : rowOf A1 ≠ some g := by
  rcases h with e | ⟨g2, e, h2⟩
  · intro e2
    have := (ho.row_lt g (e.symm.trans e2)).2
    omega
  · intro e2
    have := Option.some.inj (e.symm.trans e2)
    omega
theorem at_trans {w W : World} {A A1 A2 : Option Addr} (hz : w.heap.size ≤ W.heap.size) (h : rowOf A1 = rowOf A ∨ ∃ g, rowOf A1 = some g ∧ w.heap.size ≤ g) (k : rowOf A2 = rowOf A1 ∨ ∃ g, rowOf A2 = some g ∧ W.heap.size ≤ g) : rowOf A2 = rowOf A ∨ ∃ g, rowOf A2 = some g ∧ w.heap.size ≤ g := by
  rcases k with e | ⟨g, e, hg⟩
  · rw [e]; exact h
  · exact .inr ⟨g, e, by omega⟩
theorem at_more {w W : World} {A A1 : Option Addr} (hz : w.heap.size ≤ W.heap.size) (h : rowOf A1 = rowOf A ∨ ∃ g, rowOf A1 = some g ∧ W.heap.size ≤ g) : rowOf A1 = rowOf A ∨ ∃ g, rowOf A1 = some g ∧ w.heap.size ≤ g := at_trans hz (.inl rfl) h
theorem Bk.grown {w w' : World} {g : Nat} {t : TypeId} {cs : List Value} {row : Option Nat} (h : Bk w g t cs) (hg : w.grownBy w' row) (hne : some g ≠ row) : Bk w' g t cs := (hg.block g h.lt hne).trans h

theorem ret_slice {A : Option Addr} {n m c : Nat} (h : n = m) : Ending.returned (.slice A n c) = .returned (.slice A m c) := by rw [h]

end Go.Proofs.Ythfniffecceldaa

/- Boxes that hold pipes made by calls, through calls and through marks. -/
namespace Go.Proofs.Ythfniffecceldaa
open Go.RowKit

/-- The box bx holds a pipe, whose nodes l lie in memory of its own, from block base on and before the box. -/
structure PB (w : World) (bx base : Nat) (A : Option Addr) (c : Nat) (l : List Nd) : Prop where
  box : Bk w bx 39 [.slice A l.length c]
  own : OwnN w base A c l
  lt : ∀ g, rowOf A = some g → g < bx

/-- The box b0 holds a pipe, whose nodes l lie before it. -/
structure AB (w : World) (b0 : Nat) (A : Option Addr) (c : Nat) (l : List Nd) : Prop where
  box : Bk w b0 34 [.slice A l.length c]
  rd : RdN w b0 A l

section
variable {w w' : World} {bx base c b0 : Nat} {A : Option Addr} {l : List Nd}
theorem PB.below {C : Nat} (h : PB w bx base A c l) (hb : Below C w w') (hC : w.heap.size ≤ C) : PB w' bx base A c l := ⟨h.box.below hb (by have := h.box.lt; omega), h.own.below hb hC, h.lt⟩
theorem PB.drewN (h : PB w bx base A c l) (n : Nat) : PB (w.drewN n) bx base A c l := ⟨h.box.drewN n, h.own.drewN n, h.lt⟩
theorem PB.cell (h : PB w bx base A c l) : w.cell? ⟨bx, 0, none⟩ = some (.slice A l.length c) := h.box.cell 0
theorem AB.below {C : Nat} (h : AB w b0 A c l) (hb : Below C w w') (hC : b0 < C) : AB w' b0 A c l := ⟨h.box.below hb hC, h.rd.below hb (by omega)⟩
theorem AB.drewN (h : AB w b0 A c l) (n : Nat) : AB (w.drewN n) b0 A c l := ⟨h.box.drewN n, h.rd.drewN n⟩
theorem AB.cell (h : AB w b0 A c l) : w.cell? ⟨b0, 0, none⟩ = some (.slice A l.length c) := h.box.cell 0
variable {bx2 base2 c2 : Nat} {A2 : Option Addr} {l2 : List Nd}
theorem PB.mark_left (h : PB w bx base A c l) (k : PB w bx2 base2 A2 c2 l2) (hlt : bx < base2) (hg : w.grownBy w' (rowOf A2)) : PB w' bx base A c l := by
  refine ⟨h.box.grown hg fun e => ?_, h.own.grown hg ?_, h.lt⟩
  · have := (k.own.row_lt _ e.symm).1; omega
  · cases hA : rowOf A with
    | none => exact .inl rfl
    | some g =>
      refine .inr fun e => ?_
      have := (k.own.row_lt _ e.symm).1
      have := h.lt g hA
      omega
theorem PB.mark_right (h : PB w bx base A c l) (k : PB w bx2 base2 A2 c2 l2) (hlt : bx2 ≤ base) (hle : base ≤ bx) (hg : w.grownBy w' (rowOf A2)) : PB w' bx base A c l := by
  refine ⟨h.box.grown hg fun e => ?_, h.own.grown hg ?_, h.lt⟩
  · have := k.lt _ e.symm; omega
  · cases hA : rowOf A with
    | none => exact .inl rfl
    | some g =>
      refine .inr fun e => ?_
      have := k.lt _ e.symm
      have := (h.own.row_lt g hA).1
      omega
theorem PB.mark_self {m : List Nd} (h : PB w bx base A c l) (ho : OwnN w' base A c m) (hm : m.length = l.length) (hg : w.grownBy w' (rowOf A)) : PB w' bx base A c m :=
  ⟨by rw [hm]; exact h.box.grown hg (fun e => by have := h.lt _ e.symm; omega), ho, h.lt⟩
theorem AB.mark (h : AB w b0 A c l) (k : PB w bx2 base2 A2 c2 l2) (hlt : b0 < base2) (hz : base2 ≤ w.heap.size) (hg : w.grownBy w' (rowOf A2)) : AB w' b0 A c l :=
  ⟨h.box.grown hg (fun e => by have := (k.own.row_lt _ e.symm).1; omega), h.rd.grown k.own (by omega) hz hg⟩
/-- A call's own result, boxed. -/
theorem PB.new (h : OwnN w base A c l) : PB (w.alloc (.cells #[.slice A l.length c] 39)) w.heap.size base A c l :=
  ⟨Bk.new w _ [_], h.below ((Below.refl _ _).alloc (Nat.le_refl _) _) (Nat.le_refl _), fun g hg => (h.row_lt g hg).2⟩
end

end Go.Proofs.Ythfniffecceldaa

/- Boxes that hold pipes made by calls, told by an interval of blocks; through calls and through marks. -/
namespace Go.Proofs.Ythfniffecceldaa
open Go.RowKit

/-- The box bx holds a pipe, whose nodes l lie in memory of its own; both lie in blocks from lo on and before hi. -/
structure PX (w : World) (bx lo hi : Nat) (A : Option Addr) (c : Nat) (l : List Nd) : Prop where
  box : Bk w bx 39 [.slice A l.length c]
  own : OwnN w lo A c l
  lo_ : lo ≤ bx
  hi_ : bx < hi
  top : hi ≤ w.heap.size
  lt : ∀ g, rowOf A = some g → g < hi
  ne : ∀ g, rowOf A = some g → g ≠ bx

section
variable {w w' : World} {bx lo hi c : Nat} {A : Option Addr} {l : List Nd}
theorem PX.below {C : Nat} (h : PX w bx lo hi A c l) (hb : Below C w w') (hC : w.heap.size ≤ C) : PX w' bx lo hi A c l :=
  ⟨h.box.below hb (by have := h.box.lt; omega), h.own.below hb hC, h.lo_, h.hi_, Nat.le_trans h.top hb.size, h.lt, h.ne⟩
theorem PX.drewN (h : PX w bx lo hi A c l) (n : Nat) : PX (w.drewN n) bx lo hi A c l := ⟨h.box.drewN n, h.own.drewN n, h.lo_, h.hi_, h.top, h.lt, h.ne⟩
theorem PX.cell (h : PX w bx lo hi A c l) : w.cell? ⟨bx, 0, none⟩ = some (.slice A l.length c) := h.box.cell 0
theorem PX.new {b : Nat} (h : OwnN w b A c l) (hb : lo ≤ b) (hz : lo ≤ w.heap.size) : PX (w.alloc (.cells #[.slice A l.length c] 39)) w.heap.size lo (w.heap.size + 1) A c l :=
  ⟨Bk.new w _ [_], (h.below ((Below.refl _ _).alloc (Nat.le_refl _) _) (Nat.le_refl _)).base_ hb, hz, Nat.lt_succ_self _, by simp, fun g hg => by have := (h.row_lt g hg).2; omega, fun g hg => by have := (h.row_lt g hg).2; omega⟩
theorem PX.set {b : Nat} (h : OwnN w b A c l) (hx : Bk w bx 39 [.slice none 0 0]) (hb : lo ≤ b) (h1 : lo ≤ bx) (hne : ∀ g, rowOf A = some g → g ≠ bx) : PX (w.setCell ⟨bx, 0, none⟩ (.slice A l.length c)) bx lo w.heap.size A c l :=
  ⟨hx.set_ 0 _, (h.grown (grown_one (World.grownBy.refl w (some bx)) 0 _) (by
    cases hA : rowOf A with
    | none => exact .inl rfl
    | some g => exact .inr fun e => hne g hA (Option.some.inj e))).base_ hb, h1, hx.lt, by simp [World.setCell], fun g hg => (h.row_lt g hg).2, hne⟩
theorem PX.end_set {a : World} {b : Nat} (hb0 : Below a.heap.size a w) (h : OwnN w b A c l) (hx : Bk w bx 39 [.slice none 0 0]) (hb : a.heap.size ≤ b) (h1 : a.heap.size ≤ bx) (hne : ∀ g, rowOf A = some g → g ≠ bx) :
    ∃ W : World, W = w.setCell ⟨bx, 0, none⟩ (.slice A l.length c) ∧ PX W bx a.heap.size w.heap.size A c l ∧ Below a.heap.size a W :=
  ⟨_, rfl, PX.set h hx hb h1 hne, hb0.setCell (p := ⟨bx, 0, none⟩) h1 _⟩
theorem PX.end_new {a : World} {b : Nat} (hb0 : Below a.heap.size a w) (h : OwnN w b A c l) (hb : a.heap.size ≤ b) :
    ∃ W : World, W = w.alloc (.cells #[.slice A l.length c] 39) ∧ PX W w.heap.size a.heap.size (w.heap.size + 1) A c l ∧ Below a.heap.size a W :=
  ⟨_, rfl, PX.new h hb hb0.size, hb0.alloc hb0.size _⟩
variable {bx2 lo2 hi2 c2 : Nat} {A2 : Option Addr} {l2 : List Nd}
theorem PX.row_lo (h : PX w bx lo hi A c l) : ∀ g, rowOf A = some g → lo ≤ g := fun g hg => (h.own.row_lt g hg).1
theorem PX.mark_other (h : PX w bx lo hi A c l) (k : PX w bx2 lo2 hi2 A2 c2 l2) (hd : hi ≤ lo2 ∨ hi2 ≤ lo) (hg : w.grownBy w' (rowOf A2)) : PX w' bx lo hi A c l := by
  refine ⟨h.box.grown hg fun e => ?_, h.own.grown hg ?_, h.lo_, h.hi_, Nat.le_trans h.top hg.size, h.lt, h.ne⟩
  · have h1 := k.row_lo _ e.symm
    have h2 := k.lt _ e.symm
    have h3 := h.lo_
    have h4 := h.hi_
    omega
  · cases hA : rowOf A with
    | none => exact .inl rfl
    | some g =>
      refine .inr fun e => ?_
      have h1 := k.row_lo _ e.symm
      have h2 := k.lt _ e.symm
      have h3 := h.row_lo g hA
      have h4 := h.lt g hA
      omega
theorem PX.mark_self {m : List Nd} (h : PX w bx lo hi A c l) (ho : OwnN w' lo A c m) (hm : m.length = l.length) (hg : w.grownBy w' (rowOf A)) : PX w' bx lo hi A c m :=
  ⟨by rw [hm]; exact h.box.grown hg (fun e => h.ne _ e.symm rfl), ho, h.lo_, h.hi_, Nat.le_trans h.top hg.size, h.lt, h.ne⟩
theorem AB.mark_px {b0 : Nat} (h : AB w b0 A c l) (k : PX w bx2 lo2 hi2 A2 c2 l2) (hlt : b0 < lo2) (hg : w.grownBy w' (rowOf A2)) : AB w' b0 A c l :=
  ⟨h.box.grown hg (fun e => by have := k.row_lo _ e.symm; omega), h.rd.grown k.own (by omega) (by have := k.lo_; have := k.hi_; have := k.top; omega) hg⟩
theorem Bk.mark_px {g : Nat} {t : TypeId} {cs : List Value} (h : Bk w g t cs) (k : PX w bx2 lo2 hi2 A2 c2 l2) (hlt : g < lo2) (hg : w.grownBy w' (rowOf A2)) : Bk w' g t cs :=
  h.grown hg (fun e => by have := k.row_lo _ e.symm; omega)
theorem PX.below_mark {B : Nat} {a : World} (k : PX w bx2 lo2 hi2 A2 c2 l2) (hb : Below B a w) (hB : B ≤ lo2) (hz : B ≤ w.heap.size) (hg : w.grownBy w' (rowOf A2)) : Below B a w' :=
  hb.grown hg hz (fun g h => by have := k.row_lo g h; omega)
end

end Go.Proofs.Ythfniffecceldaa

/- Contracts of the functions that copy lists of numbers into new memory, compare them, and count them. -/
namespace Go.Proofs.Ythfniffecceldaa
open Go.RowKit

theorem Try.infoInt : (Try.prog.info? 3).map (fun i => (i.zero, i.size, i.bytes)) = some (some (.int .i64 0), 1, 8) := by kernel_rfl
theorem Try.infoInts : (Try.prog.info? 23).map (fun i => (i.zero, i.size, i.bytes)) = some (some (.slice none 0 0), 1, 24) := by kernel_rfl

set_option maxHeartbeats 400000 in
theorem eqIntS_any (A1 A2 : Option Addr) (c1 c2 : Nat) (l1 l2 : List Int) (w : World) (B : Nat) (h1 : RdI w B A1 l1) (h2 : RdI w B A2 l2) (n1 : l1.length ≤ 1048576) :
    Calls Try.prog 15 #[.slice A1 l1.length c1, .slice A2 l2.length c2] w fun e w' => e = .returned (.bool (decide (l1 = l2))) ∧ Same w w' := by
  by_cases hl : l1.length = l2.length
  · have hb' : (l1.length != l2.length) = false := by simp [hl]
    have Hl := Lib.hid hl
    clear hl
    go_enter Try.func15, Try.ntmps15
    go_wp2
    go_loopw [5] (fun i wr => ∃ k : Nat, k ≤ l1.length ∧ i = .int .i64 k ∧ l1.take k = l2.take k ∧ Same w wr) (fun i _ => l1.length - (intOf i).toNat)
    case atStart => exact ⟨0, Nat.zero_le _, rfl, by simp, Same.refl _⟩
    case round =>
      obtain ⟨k, hk, rfl, hall, hs⟩ := hrel
      have Hall := Lib.hid hall
      clear hall
      by_cases hlt : k < l1.length
      · have hlt2 : k < l2.length := by rw [← Hl.out]; exact hlt
        obtain ⟨ad, x, rfl, hx, hc⟩ := (h1.same hs).at_ hlt
        obtain ⟨ad2, y, rfl, hy, hc2⟩ := (h2.same hs).at_ hlt2
        have Hx := Lib.hid hx
        have Hy := Lib.hid hy
        have Hs := Lib.hid hs
        clear hx hy h1 h2 hs
        by_cases hxy : x = y
        · subst hxy
          go_wp2
          go_quiet (fail)
          all_goals go_wp2
          go_roundw
          case rel => exact ⟨k + 1, by omega, by go_num, take_eq_succ Hall.out Hx.out Hy.out, Hs.out.drewN _⟩
          case measure => simp [intOf]; omega
        · have hb2 : (x != y) = true := by simp [hxy]
          have Hxy : Hid (¬ x = y) := hxy
          clear hxy
          go_wp2
          go_quiet (fail)
          all_goals go_wp2
          go_ret
          exact ⟨ret_bool (decide_eq_false (ne_of_get Hx.out Hy.out Hxy.out)).symm, Hs.out.drewN _⟩
      · go_wp2
        go_ret
        exact ⟨ret_bool (decide_eq_true (eq_of_take (by omega) (by rw [← Hl.out]; omega) Hall.out)).symm, hs⟩
  · have hb' : (l1.length != l2.length) = true := by simp [hl]
    have Hl : Hid (¬ l1.length = l2.length) := hl
    clear hl
    go_enter Try.func15, Try.ntmps15
    go_wp2
    go_ret
    exact ⟨ret_bool (by rw [decide_eq_false]; intro e; exact Hl.out (by rw [e])), Same.refl _⟩

/-- The same, met inside a region that draws its order. -/
theorem eqIntS_q {A1 A2 : Option Addr} {c1 c2 : Nat} {l1 l2 : List Int} {w : World} {B n : Nat} {b : Bool} (h1 : RdI w B A1 l1) (h2 : RdI w B A2 l2) (n1 : l1.length ≤ 1048576) (hb : Hid (decide (l1 = l2) = b)) :
    Calls Try.prog 15 #[.slice A1 l1.length c1, .slice A2 l2.length c2] (w.drewN n) fun e w' => e = .returned (.bool b) ∧ ∃ m, w' = w.drewN m :=
  Calls.quiet_of ((eqIntS_any A1 A2 c1 c2 l1 l2 (w.drewN n) B (h1.drewN n) (h2.drewN n) n1).mono fun _ _ ⟨he, hs⟩ => ⟨by rw [he, hb.out], hs⟩)

set_option maxHeartbeats 400000 in
theorem eqIntSS_any (A1 A2 : Option Addr) (c1 c2 : Nat) (l1 l2 : List (List Int)) (w : World) (B : Nat) (h1 : RdR w B A1 l1) (h2 : RdR w B A2 l2) (n1 : l1.length ≤ 1048576)
    (m1 : ∀ r ∈ l1, r.length ≤ 1048576) :
    Calls Try.prog 14 #[.slice A1 l1.length c1, .slice A2 l2.length c2] w fun e w' => e = .returned (.bool (decide (l1 = l2))) ∧ Same w w' := by
  by_cases hl : l1.length = l2.length
  · have hb' : (l1.length != l2.length) = false := by simp [hl]
    have Hl := Lib.hid hl
    clear hl
    go_enter Try.func14, Try.ntmps14
    go_wp2
    go_loopw [5] (fun i wr => ∃ k : Nat, k ≤ l1.length ∧ i = .int .i64 k ∧ l1.take k = l2.take k ∧ Same w wr) (fun i _ => l1.length - (intOf i).toNat)
    case atStart => exact ⟨0, Nat.zero_le _, rfl, by simp, Same.refl _⟩
    case round =>
      obtain ⟨k, hk, rfl, hall, hs⟩ := hrel
      have Hall := Lib.hid hall
      clear hall
      by_cases hlt : k < l1.length
      · have hlt2 : k < l2.length := by rw [← Hl.out]; exact hlt
        obtain ⟨ad, x, Ax, cx, rfl, hx, hc, hrx⟩ := (h1.same hs).at_ hlt
        obtain ⟨ad2, y, Ay, cy, rfl, hy, hc2, hry⟩ := (h2.same hs).at_ hlt2
        have hnx := m1 x (List.mem_of_getElem? hx)
        have Hx := Lib.hid hx
        have Hy := Lib.hid hy
        have Hs := Lib.hid hs
        have Hrx := Lib.hid hrx
        have Hry := Lib.hid hry
        clear hx hy h1 h2 m1 hrx hry hs
        by_cases hxy : x = y
        · have Hd : Hid (decide (x = y) = true) := decide_eq_true hxy
          have Hxy := Lib.hid hxy
          clear hxy
          go_wp2
          go_quiet ((go_at_call 15; exact eqIntS_q Hrx.out Hry.out hnx Hd))
          all_goals go_wp2
          go_roundw
          case rel => exact ⟨k + 1, by omega, by go_num, take_eq_succ Hall.out Hx.out (by rw [Hxy.out]; exact Hy.out), Hs.out.drewN _⟩
          case measure => simp [intOf]; omega
        · have Hd : Hid (decide (x = y) = false) := decide_eq_false hxy
          have Hxy : Hid (¬ x = y) := hxy
          clear hxy
          go_wp2
          go_quiet ((go_at_call 15; exact eqIntS_q Hrx.out Hry.out hnx Hd))
          all_goals go_wp2
          go_ret
          exact ⟨ret_bool (decide_eq_false (ne_of_get Hx.out Hy.out Hxy.out)).symm, Hs.out.drewN _⟩
      · go_wp2
        go_ret
        exact ⟨ret_bool (decide_eq_true (eq_of_take (by omega) (by rw [← Hl.out]; omega) Hall.out)).symm, hs⟩
  · have hb' : (l1.length != l2.length) = true := by simp [hl]
    have Hl : Hid (¬ l1.length = l2.length) := hl
    clear hl
    go_enter Try.func14, Try.ntmps14
    go_wp2
    go_ret
    exact ⟨ret_bool (by rw [decide_eq_false]; intro e; exact Hl.out (by rw [e])), Same.refl _⟩

theorem bk_made (w : World) (t : TypeId) (l : List Int) (z : Value) {n : Nat} : Bk (w.alloc (.cells (madeCells #[z] n) t)) w.heap.size t (ints (l.take 0) ++ List.replicate (n - 0) z) := by
  have e : madeCells #[z] n = (List.replicate n z).toArray := by rw [← toList_madeCells_one]
  rw [e]
  have h := Bk.new w t (List.replicate n z)
  simpa [ints] using h
theorem fill_ints {w : World} {g k n : Nat} {t : TypeId} {l : List Int} {x : Int} (h : Bk w g t (ints (l.take k) ++ List.replicate (n - k) (.int .i64 0))) (hx : l[k]? = some x) (hk : k < n) :
    Bk (w.setCell ⟨g, k, none⟩ (.int .i64 x)) g t (ints (l.take (k + 1)) ++ List.replicate (n - (k + 1)) (.int .i64 0)) := by
  have h2 := h.set_ k (.int .i64 x)
  have hl : k < l.length := (List.getElem?_eq_some_iff.1 hx).1
  rw [fill_set _ _ _ (by simp [ints]; omega) hk] at h2
  rw [take_succ_of hx]
  simpa [ints] using h2

set_option maxHeartbeats 400000 in
theorem toIntS_any (A : Option Addr) (c : Nat) (l : List Int) (w : World) (B : Nat) (h : RdI w B A l) (hB : B ≤ w.heap.size) (hn : l.length ≤ 1048576) :
    Calls Try.prog 12 #[.slice A l.length c] w fun e w' => e = .returned (.slice (some ⟨w.heap.size, 0, none⟩) l.length l.length) ∧ Bk w' w.heap.size 3 (ints l) ∧ Below w.heap.size w w' := by
  have hmk := run_make_row' (P := Try.prog) 23 3 (.int .i64 0) 8 Try.underlying23 Try.infoInt rfl .i64 .i64 l.length (by omega) (by omega)
  go_enter Try.func12, Try.ntmps12
  go_wp2
  clear hmk
  go_loopw [4] (fun i wr => ∃ k : Nat, k ≤ l.length ∧ i = .int .i64 k ∧ Bk wr w.heap.size 3 (ints (l.take k) ++ List.replicate (l.length - k) (.int .i64 0)) ∧ Below w.heap.size w wr) (fun i _ => l.length - (intOf i).toNat)
  case atStart => exact ⟨0, Nat.zero_le _, rfl, bk_made _ _ _ _, (Below.refl _ _).alloc (Nat.le_refl _) _⟩
  case round =>
    obtain ⟨k, hk, rfl, hbk, hbl⟩ := hrel
    have Hbl := Lib.hid hbl
    clear hbl
    by_cases hlt : k < l.length
    · obtain ⟨ad, x, rfl, hx, hc⟩ := (h.below Hbl.out hB).at_ hlt
      have hold : ∃ u, wr.cell? ⟨w.heap.size, k, none⟩ = some u := by
        rw [hbk.cell]; exact get_of_lt _ (by simp [ints]; omega)
      obtain ⟨u, hu⟩ := hold
      have hf := hbk.free k
      have Hx := Lib.hid hx
      have Hbk := Lib.hid hbk
      clear hx h hbk
      go_wp2
      go_roundw
      case rel => exact ⟨k + 1, by omega, by go_num, fill_ints Hbk.out Hx.out hlt, Hbl.out.setCell (Nat.le_refl _) _⟩
      case measure => simp [intOf]; omega
    · go_wp2
      go_ret
      obtain rfl : k = l.length := by omega
      exact ⟨rfl, by simpa using hbk, Hbl.out⟩

set_option maxHeartbeats 400000 in
theorem toIntSS_any (A : Option Addr) (c : Nat) (rows : List (List Int)) (w : World) (B : Nat) (h : RdR w B A rows) (hB : B ≤ w.heap.size) (hn : rows.length ≤ 1048576) (hm : ∀ r ∈ rows, r.length ≤ 1048576) :
    Calls Try.prog 11 #[.slice A rows.length c] w fun e w' => e = .returned (.slice (some ⟨w.heap.size, 0, none⟩) rows.length rows.length) ∧ (∃ gs, OwnR w' 23 3 w.heap.size w.heap.size gs rows) ∧ Below w.heap.size w w' := by
  have hmk := run_make_row' (P := Try.prog) 22 23 (.slice none 0 0) 24 Try.underlying22 Try.infoInts rfl .i64 .i64 rows.length (by omega) (by omega)
  go_enter Try.func11, Try.ntmps11
  go_wp2
  clear hmk
  go_loopw [4] (fun i wr => ∃ gs : List Nat, gs.length ≤ rows.length ∧ i = .int .i64 gs.length ∧ PartR wr 23 3 w.heap.size gs rows ∧ Below w.heap.size w wr) (fun i _ => rows.length - (intOf i).toNat)
  case atStart => exact ⟨[], Nat.zero_le _, rfl, PartR.start (by simpa [ints] using bk_made w 23 [] (.slice none 0 0) (n := rows.length)), (Below.refl _ _).alloc (Nat.le_refl _) _⟩
  case round =>
    obtain ⟨gs, hk, rfl, hp, hbl⟩ := hrel
    by_cases hlt : gs.length < rows.length
    · obtain ⟨ad, r, Ar, cr, rfl, hx, hc, hrd⟩ := (h.below hbl hB).at_ hlt
      have hrn := hm r (List.mem_of_getElem? hx)
      have hsz := hbl.size
      have hgl := hp.top.lt
      have hold := hp.old hlt
      have hfr := hp.top.free gs.length
      have Hbl := Lib.hid hbl
      have Hx := Lib.hid hx
      have Hp := Lib.hid hp
      have Hrd := Lib.hid hrd
      have Hold := Lib.hid hold
      have Hfr := Lib.hid hfr
      clear hx h hp hm hrd hbl hold hfr
      go_wp2_with (go_at_call 12; refine (toIntS_any _ _ _ _ _ Hrd.out (by omega) hrn).mono ?_; rintro e w1 ⟨rfl, hb1, hb2⟩; have hc1 := (hb2.cell (p := ⟨w.heap.size, gs.length, none⟩) hgl).trans Hold.out; have hf1 := (hb2.frozen (p := ⟨w.heap.size, gs.length, none⟩) hgl).trans Hfr.out; have Hb1 := Lib.hid hb1; have Hb2 := Lib.hid hb2; clear hb1 hb2)
      go_roundw
      case rel => exact ⟨gs ++ [wr.heap.size], by rw [List.length_append]; exact hlt, by simp, Hp.out.step Hx.out Hb2.out Hb1.out, (Hbl.out.trans (Hb2.out.mono hsz)).setCell (Nat.le_refl _) _⟩
      case measure => simp [intOf]; omega
    · go_wp2
      go_ret
      exact ⟨rfl, ⟨gs, hp.done (by omega) (Nat.le_refl _)⟩, hbl⟩

set_option maxHeartbeats 400000 in
theorem szIntSS_any (A : Option Addr) (c : Nat) (rows : List (List Int)) (left : Int) (w : World) (B : Nat) (h : RdR w B A rows) (h0 : 0 ≤ left) (h1 : left ≤ 1048576) (hn : rows.length ≤ maxLen) (hm : ∀ r ∈ rows, r.length ≤ maxLen) :
    Calls Try.prog 9 #[.slice A rows.length c, .int .i64 left] w fun e w' => e = .returned (.int .i64 (szLeft left (bulk rows))) ∧ w = w' := by
  unfold maxLen at hn
  by_cases hl : left < rows.length
  · rw [szLeft_no (by unfold bulk; omega)]
    go_enter Try.func9, Try.ntmps9
    go_wp2
    go_ret
    exact ⟨rfl, rfl⟩
  · go_enter Try.func9, Try.ntmps9
    go_wp2
    go_loop [1, 5] (fun l i => ∃ k : Nat, k ≤ rows.length ∧ i = .int .i64 k ∧ ∃ m : Int, m = left - rows.length - ((rows.take k).map List.length).sum ∧ 0 ≤ m ∧ l = .int .i64 m) (fun _ i => rows.length - (intOf i).toNat)
    case atStart => exact ⟨0, Nat.zero_le _, rfl, _, by simp, by omega, rfl⟩
    case round =>
      obtain ⟨k, hk, rfl, m, hmm, hm0, rfl⟩ := hrel
      have hm1 : m ≤ 1048576 := by omega
      by_cases hlt : k < rows.length
      · obtain ⟨ad, r, Ar, cr, rfl, hx, hc, hrd⟩ := h.at_ hlt
        have hrn := hm r (List.mem_of_getElem? hx)
        have e1 := sum_take_succ hx
        have e2 := sum_take_le rows (k + 1)
        by_cases hfit : m < r.length
        · have Hfin : Hid (left < bulk rows) := by unfold bulk; show left < _; omega
          clear hx h hm hmm e1 e2
          go_wp2_with (go_at_call 34; refine (szIntS_any _ _ _ _ _ hm0 hm1 hrn).mono ?_; rintro e w1 ⟨rfl, rfl⟩; rw [szLeft_no hfit])
          go_ret
          exact ⟨ret_int (szLeft_no Hfin.out).symm, rfl⟩
        · have Hnew : Hid (m - r.length = left - rows.length - ((rows.take (k + 1)).map List.length).sum) := by show _ = _; omega
          clear hx h hm hmm e1 e2
          go_wp2_with (go_at_call 34; refine (szIntS_any _ _ _ _ _ hm0 hm1 hrn).mono ?_; rintro e w1 ⟨rfl, rfl⟩; rw [szLeft_yes hfit])
          go_round
          case rel => exact ⟨k + 1, by omega, by go_num, _, Hnew.out, by omega, rfl⟩
          case measure => simp [intOf]; omega
      · obtain rfl : k = rows.length := by omega
        rw [List.take_length] at hmm
        have Hfin : Hid ((bulk rows : Int) ≤ left ∧ m = left - bulk rows) := by
          unfold bulk
          exact ⟨by omega, by omega⟩
        clear hmm
        go_wp2
        go_ret
        exact ⟨ret_int (Hfin.out.2.trans (szLeft_yes (Int.not_lt.2 Hfin.out.1)).symm), rfl⟩

end Go.Proofs.Ythfniffecceldaa

/- What a call made, told by an interval of blocks; kept over calls that make memory and over marks in other intervals. -/
namespace Go.Proofs.Ythfniffecceldaa
open Go.RowKit

/-- Only blocks from lo on and before hi, and new ones, have changed. -/
structure Chg (lo hi : Nat) (w w' : World) : Prop where
  os : w'.os = w.os
  tape : w'.tape = w.tape
  output : w'.output = w.output
  size : w.heap.size ≤ w'.heap.size
  block : ∀ j, j < w.heap.size → (j < lo ∨ hi ≤ j) → w'.heap[j]? = w.heap[j]?

/-- P holds in every world that agrees on the blocks from lo on and before hi. -/
structure Held (w : World) (lo hi : Nat) (P : World → Prop) : Prop where
  le : lo ≤ hi
  top : hi ≤ w.heap.size
  at_ : ∀ w' : World, hi ≤ w'.heap.size → (∀ b, lo ≤ b → b < hi → w'.heap[b]? = w.heap[b]?) → P w'

section
variable {w w' a : World} {lo hi lo2 hi2 : Nat} {P : World → Prop}
theorem Chg.refl (lo hi : Nat) (w : World) : Chg lo hi w w := ⟨rfl, rfl, rfl, Nat.le_refl _, fun _ _ _ => rfl⟩
theorem Chg.of_grown {row : Option Nat} (h : w.grownBy w' row) (hr : ∀ g, row = some g → lo ≤ g ∧ g < hi) : Chg lo hi w w' :=
  ⟨h.os, h.tape, h.output, h.size, fun j hj ho => h.block j hj (fun e => by have := hr j e.symm; omega)⟩
theorem Chg.of_below (h : Below w.heap.size w w') : Chg lo hi w w' := ⟨h.os, h.tape, h.output, h.size, fun j hj _ => h.block j hj⟩
theorem Chg.trans {v : World} (h : Chg lo hi a w) (k : Chg lo hi w v) : Chg lo hi a v :=
  ⟨k.os.trans h.os, k.tape.trans h.tape, k.output.trans h.output, Nat.le_trans h.size k.size, fun j hj ho => (k.block j (Nat.lt_of_lt_of_le hj h.size) ho).trans (h.block j hj ho)⟩
theorem Chg.wide (h : Chg lo hi w w') (h1 : lo2 ≤ lo) (h2 : hi ≤ hi2) : Chg lo2 hi2 w w' := ⟨h.os, h.tape, h.output, h.size, fun j hj ho => h.block j hj (by omega)⟩
theorem Chg.set {b : Nat} (h : Chg lo hi a w) (h1 : lo ≤ b) (h2 : b < hi) (i : Nat) (u : Value) : Chg lo hi a (w.setCell ⟨b, i, none⟩ u) :=
  ⟨h.os, h.tape, h.output, by simpa [World.setCell] using h.size, fun j hj ho => (Below.heap_setCell w ⟨b, i, none⟩ u j (by intro e; subst e; omega)).trans (h.block j hj ho)⟩
theorem Chg.below_ {B : Nat} (k : Chg lo hi w w') (h : Below B a w) (hB : B ≤ lo) (hz : B ≤ w.heap.size) : Below B a w' :=
  ⟨k.os.trans h.os, k.tape.trans h.tape, k.output.trans h.output, Nat.le_trans h.size k.size, fun j hj => (k.block j (by omega) (by omega)).trans (h.block j hj)⟩
theorem Held.out (h : Held w lo hi P) : P w := h.at_ w h.top fun _ _ _ => rfl
theorem Held.chg (h : Held w lo hi P) (k : Chg lo2 hi2 w w') (hd : hi ≤ lo2 ∨ hi2 ≤ lo) : Held w' lo hi P :=
  ⟨h.le, Nat.le_trans h.top k.size, fun v hv hag => h.at_ v hv fun b h1 h2 => (hag b h1 h2).trans (k.block b (by have := h.top; omega) (by omega))⟩
theorem Held.below {C : Nat} (h : Held w lo hi P) (hb : Below C w w') (hC : hi ≤ C) : Held w' lo hi P :=
  ⟨h.le, Nat.le_trans h.top hb.size, fun v hv hag => h.at_ v hv fun b h1 h2 => (hag b h1 h2).trans (hb.block b (by omega))⟩
theorem Held.drewN (h : Held w lo hi P) (n : Nat) : Held (w.drewN n) lo hi P := ⟨h.le, h.top, h.at_⟩
theorem Held.mono {Q : World → Prop} (h : Held w lo hi P) (hq : ∀ v, P v → Q v) : Held w lo hi Q := ⟨h.le, h.top, fun v hv hag => hq v (h.at_ v hv hag)⟩
theorem Bk.held {g : Nat} {t : TypeId} {cs : List Value} (h : Bk w g t cs) : Held w g (g + 1) (fun v => Bk v g t cs) :=
  ⟨by omega, h.lt, fun v _ hag => (hag g (Nat.le_refl _) (by omega)).trans h⟩
theorem cell_agree {p : Addr} (hag : ∀ b, lo ≤ b → b < hi → w'.heap[b]? = w.heap[b]?) (h1 : lo ≤ p.block) (h2 : p.block < hi) : w'.cell? p = w.cell? p := World.cell?_of_block (hag _ h1 h2)
theorem RdN.held {B : Nat} {A : Option Addr} {l : List Nd} (h : RdN w B A l) (hB : B ≤ w.heap.size) : Held w 0 B (fun v => RdN v B A l) :=
  ⟨Nat.zero_le _, hB, fun _ _ hag => h.keep fun _ hp => cell_agree hag (Nat.zero_le _) hp⟩
theorem RdI.held {B : Nat} {A : Option Addr} {l : List Int} (h : RdI w B A l) (hB : B ≤ w.heap.size) : Held w 0 B (fun v => RdI v B A l) :=
  ⟨Nat.zero_le _, hB, fun _ _ hag => h.keep fun _ hp => cell_agree hag (Nat.zero_le _) hp⟩
theorem RdR.held {B : Nat} {A : Option Addr} {rows : List (List Int)} (h : RdR w B A rows) (hB : B ≤ w.heap.size) : Held w 0 B (fun v => RdR v B A rows) :=
  ⟨Nat.zero_le _, hB, fun _ _ hag => h.keep fun _ hp => cell_agree hag (Nat.zero_le _) hp⟩
end

/-- The nodes of a pipe in memory of a call's own. -/
structure OwnP (w : World) (lo hi : Nat) (A : Option Addr) (c : Nat) (l : List Nd) : Prop where
  own : OwnN w lo A c l
  lt : ∀ g, rowOf A = some g → g < hi

section
variable {w w' a : World} {lo hi c : Nat} {A : Option Addr} {l : List Nd}
theorem OwnP.of {b : Nat} (h : OwnN w b A c l) (hlo : lo ≤ b) : OwnP w lo w.heap.size A c l := ⟨h.base_ hlo, fun g hg => (h.row_lt g hg).2⟩
theorem OwnP.agree (h : OwnP w lo hi A c l) (hag : ∀ b, lo ≤ b → b < hi → w'.heap[b]? = w.heap[b]?) : OwnP w' lo hi A c l := by
  refine ⟨?_, h.lt⟩
  obtain ⟨h1, h2 | ⟨g, cap, cur, hv, hg, hh, hr⟩⟩ := h.own
  · exact ⟨h1, .inl h2⟩
  · have hA : A = some ⟨g, 0, none⟩ := by injection hv
    exact ⟨h1, .inr ⟨g, cap, cur, hv, hg, (hag g hg (h.lt g (by rw [hA]; rfl))).trans hh, hr⟩⟩
theorem OwnP.held (h : OwnP w lo hi A c l) (h1 : lo ≤ hi) (h2 : hi ≤ w.heap.size) : Held w lo hi (fun v => OwnP v lo hi A c l) := ⟨h1, h2, fun _ _ hag => h.agree hag⟩
theorem OwnP.rdt (h : OwnP w lo hi A c l) (_ : hi ≤ w.heap.size) : RdN w w.heap.size A l := h.own.rd
theorem markPipe_h (k : Int) (h : OwnP w lo hi A c l) (hn : l.length ≤ 1048576) (hk0 : 0 ≤ k) (hk1 : k ≤ 16777216) :
    Calls Try.prog 28 #[.agg #[.slice A l.length c], .int .i64 k] w fun e w' => e = .returned (.int .i64 (k + 5 * l.length)) ∧ OwnP w' lo hi A c (mkN l.length k) ∧ Chg lo hi w w' :=
  (markPipe_any A c l k w lo h.own hn hk0 hk1).mono fun _ _ ⟨he, ho, hg⟩ => ⟨he, ⟨ho, h.lt⟩, .of_grown hg fun g hg => ⟨(h.own.row_lt g hg).1, h.lt g hg⟩⟩
end

/-- Numbers in memory of a call's own, wherever they begin in their block. -/
def OwnI (w : World) (lo hi : Nat) (A : Option Addr) (l : List Int) : Prop :=
  0 < l.length → ∃ g o cs, A = some ⟨g, o, none⟩ ∧ lo ≤ g ∧ g < hi ∧ Bk w g 3 cs ∧ ∀ (k : Nat) (x : Int), l[k]? = some x → cs[o + k]? = some (.int .i64 x)

section
variable {w w' a : World} {lo hi c : Nat} {A : Option Addr} {l : List Int}
theorem OwnI.rd (h : OwnI w lo hi A l) : RdI w hi A l := fun hn => by
  obtain ⟨g, o, cs, rfl, h1, h2, hb, hc⟩ := h hn
  refine ⟨_, rfl, h2, fun k x hx => ?_⟩
  rw [Addr.add_lit, hb.cell]
  exact hc k x hx
theorem OwnI.rdt (h : OwnI w lo hi A l) (hz : hi ≤ w.heap.size) : RdI w w.heap.size A l := h.rd.more hz
theorem OwnI.agree (h : OwnI w lo hi A l) (hag : ∀ b, lo ≤ b → b < hi → w'.heap[b]? = w.heap[b]?) : OwnI w' lo hi A l := fun hn => by
  obtain ⟨g, o, cs, rfl, h1, h2, hb, hc⟩ := h hn
  exact ⟨g, o, cs, rfl, h1, h2, (hag g h1 h2).trans hb, hc⟩
theorem OwnI.held (h : OwnI w lo hi A l) (h1 : lo ≤ hi) (h2 : hi ≤ w.heap.size) : Held w lo hi (fun v => OwnI v lo hi A l) := ⟨h1, h2, fun _ _ hag => h.agree hag⟩
theorem OwnI.wide {lo2 hi2 : Nat} (h : OwnI w lo hi A l) (h1 : lo2 ≤ lo) (h2 : hi ≤ hi2) : OwnI w lo2 hi2 A l := fun hn => by
  obtain ⟨g, o, cs, rfl, h3, h4, hb, hc⟩ := h hn
  exact ⟨g, o, cs, rfl, by omega, by omega, hb, hc⟩
theorem Bk.ownI {g : Nat} (h : Bk w g 3 (ints l)) (h1 : lo ≤ g) (h2 : g < hi) : OwnI w lo hi (some ⟨g, 0, none⟩) l := fun _ =>
  ⟨g, 0, ints l, rfl, h1, h2, h, fun k x hx => by rw [Nat.zero_add, ints_get, hx]; rfl⟩
end

/-- n marks, the first of which is k. -/
def mkI (n : Nat) (k : Int) : List Int := (List.range n).map fun i : Nat => k + i
theorem mkI_len (n : Nat) (k : Int) : (mkI n k).length = n := by simp [mkI]
theorem mkI_get {n : Nat} {k : Int} {i : Nat} (h : i < n) : (mkI n k)[i]? = some (k + i) := by simp [mkI, h]

set_option maxHeartbeats 1600000 in
theorem markIntS_h {lo hi : Nat} {A : Option Addr} {c : Nat} {l : List Int} {w : World} (k : Int) (h : OwnI w lo hi A l) (hn : l.length ≤ 1048576) (hk0 : 0 ≤ k) (hk1 : k ≤ 16777216) :
    Calls Try.prog 17 #[.slice A l.length c, .int .i64 k] w fun e w' => e = .returned (.int .i64 (k + l.length)) ∧ OwnI w' lo hi A (mkI l.length k) ∧ Chg lo hi w w' := by
  by_cases hl : 0 < l.length
  · obtain ⟨g, o, cs, rfl, hlo, hhi, hb0, hc0⟩ := h hl
    obtain ⟨n, hnl⟩ : ∃ n : Nat, n = l.length := ⟨_, rfl⟩
    have hcs : o + n ≤ cs.length := by
      obtain ⟨x, hx⟩ := get_of_lt l (k := n - 1) (by omega)
      have := (List.getElem?_eq_some_iff.1 (hc0 (n - 1) x hx)).1
      omega
    have Hb0 := Lib.hid hb0
    have hn2 : n ≤ 1048576 := by omega
    rw [← hnl]
    clear h hb0 hc0 hnl hl hn
    go_enter Try.func17, Try.ntmps17
    go_wp2
    go_loopw [1, 5] (fun s i wr => ∃ j : Nat, j ≤ n ∧ i = .int .i64 j ∧ (∃ m : Int, m = k + j ∧ s = .int .i64 m) ∧ (∃ ds, Bk wr g 3 ds ∧ ds.length = cs.length ∧ ∀ i : Nat, i < j → ds[o + i]? = some (.int .i64 (k + i))) ∧ Chg lo hi w wr) (fun _ i _ => n - (intOf i).toNat)
    case atStart => exact ⟨0, Nat.zero_le _, rfl, ⟨k, by simp, rfl⟩, ⟨cs, Hb0.out, rfl, fun i hi => absurd hi (by omega)⟩, Chg.refl _ _ _⟩
    case round =>
      obtain ⟨j, hj, rfl, ⟨m, hm, rfl⟩, ⟨ds, hds, hdl, hdc⟩, hg⟩ := hrel
      have hm0 : 0 ≤ m := by omega
      have hm1 : m ≤ 33554432 := by omega
      by_cases hlt : j < n
      · obtain ⟨u, hu⟩ := get_of_lt ds (k := o + j) (by omega)
        have cu := (hds.cell (o + j)).trans hu
        have fu := hds.free (o + j)
        have Hds := Lib.hid hds
        have Hdl := Lib.hid hdl
        have Hdc := Lib.hid hdc
        have Hg := Lib.hid hg
        have Hm := Lib.hid hm
        clear hds hdl hdc hg hm hu
        go_wp2
        go_roundw
        case rel =>
          refine ⟨j + 1, by omega, by go_num, ⟨_, by rw [Hm.out]; omega, rfl⟩, ⟨_, Hds.out.set_ _ _, by rw [List.length_set]; exact Hdl.out, fun i hi => ?_⟩, Hg.out.set hlo hhi _ _⟩
          rw [List.getElem?_set]
          by_cases e : o + j = o + i
          · obtain rfl : i = j := by omega
            rw [if_pos rfl, if_pos (by have := Hdl.out; omega), Hm.out]
          · rw [if_neg e]
            exact Hdc.out i (by omega)
        case measure => simp [intOf]; omega
      · obtain rfl : j = n := by omega
        have Hds := Lib.hid hds
        have Hdc := Lib.hid hdc
        have Hg := Lib.hid hg
        have Hm := Lib.hid hm
        clear hds hdc hg hm hdl
        go_wp2
        go_ret
        refine ⟨ret_int (by rw [Hm.out]), fun _ => ⟨g, o, ds, rfl, hlo, hhi, Hds.out, fun i x hx => ?_⟩, Hg.out⟩
        have hi : i < j := by have := (List.getElem?_eq_some_iff.1 hx).1; rwa [mkI_len] at this
        rw [mkI_get hi] at hx
        rw [← Option.some.inj hx]
        exact Hdc.out i hi
  · have hl0 : l = [] := List.eq_nil_of_length_eq_zero (by omega)
    subst hl0
    clear h
    go_enter Try.func17, Try.ntmps17
    go_wp2
    refine wp_loop_rounds 1 ?_
    rw [rounds_succ]
    go_wp2
    go_ret
    exact ⟨by simp, fun h => absurd h (by simp [mkI]), Chg.refl _ _ _⟩

set_option maxHeartbeats 1600000 in
theorem heldIntS_any (A : Option Addr) (c n : Nat) (k : Int) (w : World) (B : Nat) (h : RdI w B A (mkI n k)) (hn : n ≤ 1048576) (hk0 : 0 ≤ k) (hk1 : k ≤ 16777216) :
    Calls Try.prog 29 #[.slice A n c, .int .i64 k] w fun e w' => e = .returned (.int .i64 (k + n)) ∧ w = w' := by
  have Hh := Lib.hid h
  clear h
  go_enter Try.func29, Try.ntmps29
  go_wp2
  go_loop [1, 5] (fun s i => ∃ j : Nat, j ≤ n ∧ i = .int .i64 j ∧ ∃ m : Int, m = k + j ∧ s = .int .i64 m) (fun _ i => n - (intOf i).toNat)
  case atStart => exact ⟨0, Nat.zero_le _, rfl, k, by simp, rfl⟩
  case round =>
    obtain ⟨j, hj, rfl, m, hm, rfl⟩ := hrel
    have hm0 : 0 ≤ m := by omega
    have hm1 : m ≤ 33554432 := by omega
    by_cases hlt : j < n
    · obtain ⟨ad, x, rfl, hx, hc⟩ := Hh.out.at_ (k := j) (by rw [mkI_len]; exact hlt)
      rw [mkI_get hlt] at hx
      obtain rfl := Option.some.inj hx
      rw [← hm] at hc
      have Hm := Lib.hid hm
      clear hm hx
      go_wp2
      go_round
      case rel => exact ⟨j + 1, by omega, by go_num, _, by rw [Hm.out]; omega, rfl⟩
      case measure => simp [intOf]; omega
    · obtain rfl : j = n := by omega
      have Hm := Lib.hid hm
      clear hm
      go_wp2
      go_ret
      exact ⟨ret_int (by rw [Hm.out]), rfl⟩

end Go.Proofs.Ythfniffecceldaa

/- Cells of nodes in memory. -/
namespace Go.Proofs.Ythfniffecceldaa
open Go.RowKit

structure Cl where
  n : Int
  l : Int
  r : Int
  hl : Bool
  hr : Bool
  d : Bool
deriving DecidableEq

theorem Cl.ext_ {x y : Cl} (h0 : x.n = y.n) (h1 : x.l = y.l) (h2 : x.r = y.r) (h3 : x.hl = y.hl) (h4 : x.hr = y.hr) (h5 : x.d = y.d) : x = y := by
  cases x; cases y; simp at h0 h1 h2 h3 h4 h5; simp [h0, h1, h2, h3, h4, h5]
def clEq (x y : Cl) : Bool := decide (x = y)
theorem clEq_no0 {x y : Cl} (h : (x.n != y.n) = true) : clEq x y = false := by
  apply decide_eq_false
  intro e
  subst e
  simp at h
theorem clEq_no1 {x y : Cl} (h : (x.l != y.l) = true) : clEq x y = false := by
  apply decide_eq_false
  intro e
  subst e
  simp at h
theorem clEq_no2 {x y : Cl} (h : (x.r != y.r) = true) : clEq x y = false := by
  apply decide_eq_false
  intro e
  subst e
  simp at h
theorem clEq_no3 {x y : Cl} (h : (x.hl != y.hl) = true) : clEq x y = false := by
  apply decide_eq_false
  intro e
  subst e
  simp at h
theorem clEq_no4 {x y : Cl} (h : (x.hr != y.hr) = true) : clEq x y = false := by
  apply decide_eq_false
  intro e
  subst e
  simp at h
theorem clEq_no5 {x y : Cl} (h : (x.d != y.d) = true) : clEq x y = false := by
  apply decide_eq_false
  intro e
  subst e
  simp at h
theorem clEq_yes {x y : Cl} (h0 : (x.n != y.n) = false) (h1 : (x.l != y.l) = false) (h2 : (x.r != y.r) = false) (h3 : (x.hl != y.hl) = false) (h4 : (x.hr != y.hr) = false) (h5 : (x.d != y.d) = false) : clEq x y = true := by
  apply decide_eq_true
  simp at h0 h1 h2 h3 h4 h5
  exact Cl.ext_ h0 h1 h2 h3 h4 h5
theorem clEq_ne {x y : Cl} (h : clEq x y = false) : x ≠ y := of_decide_eq_false h
theorem clEq_eq {x y : Cl} (h : clEq x y = true) : x = y := of_decide_eq_true h

/-- The cells of x stand in cs from o on. -/
structure ClIn (cs : List Value) (o : Nat) (x : Cl) : Prop where
  c0 : cs[o]? = some (.int .i64 x.n)
  c1 : cs[o + 1]? = some (.int .i64 x.l)
  c2 : cs[o + 2]? = some (.int .i64 x.r)
  c3 : cs[o + 3]? = some (.bool x.hl)
  c4 : cs[o + 4]? = some (.bool x.hr)
  c5 : cs[o + 5]? = some (.bool x.d)
/-- .. in memory. -/
structure ClAt (w : World) (b o : Nat) (x : Cl) : Prop where
  c0 : w.cell? ⟨b, o, none⟩ = some (.int .i64 x.n)
  c1 : w.cell? ⟨b, o + 1, none⟩ = some (.int .i64 x.l)
  c2 : w.cell? ⟨b, o + 2, none⟩ = some (.int .i64 x.r)
  c3 : w.cell? ⟨b, o + 3, none⟩ = some (.bool x.hl)
  c4 : w.cell? ⟨b, o + 4, none⟩ = some (.bool x.hr)
  c5 : w.cell? ⟨b, o + 5, none⟩ = some (.bool x.d)
theorem ClIn.at_ {w : World} {g o : Nat} {t : TypeId} {cs : List Value} {x : Cl} (h : ClIn cs o x) (hb : Bk w g t cs) : ClAt w g o x :=
  ⟨(hb.cell _).trans h.c0, (hb.cell _).trans h.c1, (hb.cell _).trans h.c2, (hb.cell _).trans h.c3, (hb.cell _).trans h.c4, (hb.cell _).trans h.c5⟩
theorem ClAt.keep {w w' : World} {b o : Nat} {x : Cl} (h : ClAt w b o x) (hk : ∀ p : Addr, p.block = b → w'.cell? p = w.cell? p) : ClAt w' b o x :=
  ⟨(hk _ rfl).trans h.c0, (hk _ rfl).trans h.c1, (hk _ rfl).trans h.c2, (hk _ rfl).trans h.c3, (hk _ rfl).trans h.c4, (hk _ rfl).trans h.c5⟩

/-- The slice at A reads as the list l, below block B. -/
def RdCl (w : World) (B : Nat) (A : Option Addr) (l : List Cl) : Prop :=
  0 < l.length → ∃ b o, A = some ⟨b, o, none⟩ ∧ b < B ∧ ∀ (k : Nat) (x : Cl), l[k]? = some x → ClAt w b (o + k * 6) x
/-- .. in memory of a call's own, blocks lo to hi. -/
def OwnCl (w : World) (lo hi : Nat) (A : Option Addr) (l : List Cl) : Prop :=
  0 < l.length → ∃ g o cs, A = some ⟨g, o, none⟩ ∧ lo ≤ g ∧ g < hi ∧ Bk w g 66 cs ∧ ∀ (k : Nat) (x : Cl), l[k]? = some x → ClIn cs (o + k * 6) x

section
variable {w w' : World} {B B' lo hi : Nat} {A : Option Addr} {l : List Cl}
theorem RdCl.at_ (h : RdCl w B A l) {k : Nat} (hk : k < l.length) : ∃ b o x, A = some ⟨b, o, none⟩ ∧ b < B ∧ l[k]? = some x ∧ ClAt w b (o + k * 6) x := by
  obtain ⟨b, o, e, hb, hc⟩ := h (by omega)
  obtain ⟨x, hx⟩ := get_of_lt l hk
  exact ⟨b, o, x, e, hb, hx, hc k x hx⟩
theorem RdCl.keep (h : RdCl w B A l) (hk : ∀ p : Addr, p.block < B → w'.cell? p = w.cell? p) : RdCl w' B A l := fun hn => by
  obtain ⟨b, o, e, hb, hc⟩ := h hn
  exact ⟨b, o, e, hb, fun k x hx => (hc k x hx).keep fun p hp => hk p (by omega)⟩
theorem RdCl.more (h : RdCl w B A l) (hB : B ≤ B') : RdCl w B' A l := fun hn => by
  obtain ⟨b, o, e, hb, hc⟩ := h hn
  exact ⟨b, o, e, by omega, hc⟩
theorem RdCl.below {C : Nat} (h : RdCl w B A l) (hb : Below C w w') (hC : B ≤ C) : RdCl w' B A l := h.keep fun _ hp => hb.cell (by omega)
theorem RdCl.drewN (h : RdCl w B A l) (n : Nat) : RdCl (w.drewN n) B A l := h.below (Same.below ⟨n, rfl⟩ B) (Nat.le_refl _)
theorem RdCl.held (h : RdCl w B A l) (hB : B ≤ w.heap.size) : Held w 0 B (fun v => RdCl v B A l) :=
  ⟨Nat.zero_le _, hB, fun _ _ hag => h.keep fun _ hp => cell_agree hag (Nat.zero_le _) hp⟩
theorem OwnCl.rd (h : OwnCl w lo hi A l) : RdCl w hi A l := fun hn => by
  obtain ⟨g, o, cs, rfl, h1, h2, hb, hc⟩ := h hn
  exact ⟨g, o, rfl, h2, fun k x hx => (hc k x hx).at_ hb⟩
theorem OwnCl.rdt (h : OwnCl w lo hi A l) (hz : hi ≤ w.heap.size) : RdCl w w.heap.size A l := h.rd.more hz
theorem OwnCl.agree (h : OwnCl w lo hi A l) (hag : ∀ b, lo ≤ b → b < hi → w'.heap[b]? = w.heap[b]?) : OwnCl w' lo hi A l := fun hn => by
  obtain ⟨g, o, cs, rfl, h1, h2, hb, hc⟩ := h hn
  exact ⟨g, o, cs, rfl, h1, h2, (hag g h1 h2).trans hb, hc⟩
theorem OwnCl.held (h : OwnCl w lo hi A l) (h1 : lo ≤ hi) (h2 : hi ≤ w.heap.size) : Held w lo hi (fun v => OwnCl v lo hi A l) := ⟨h1, h2, fun _ _ hag => h.agree hag⟩
theorem OwnCl.wide {lo2 hi2 : Nat} (h : OwnCl w lo hi A l) (h1 : lo2 ≤ lo) (h2 : hi ≤ hi2) : OwnCl w lo2 hi2 A l := fun hn => by
  obtain ⟨g, o, cs, rfl, h3, h4, hb, hc⟩ := h hn
  exact ⟨g, o, cs, rfl, by omega, by omega, hb, hc⟩
theorem OwnCl.nil_ (w : World) (lo hi : Nat) (A : Option Addr) : OwnCl w lo hi A [] := fun h => absurd h (by simp)
end

theorem ClIn.set_self {cs : List Value} {o : Nat} (x : Cl) (h : o + 5 < cs.length) : ClIn ((((((cs.set o (.int .i64 x.n)).set (o + 1) (.int .i64 x.l)).set (o + 2) (.int .i64 x.r)).set (o + 3) (.bool x.hl)).set (o + 4) (.bool x.hr)).set (o + 5) (.bool x.d)) o x := by
  constructor <;> simp [List.getElem?_set] <;> omega
theorem ClIn.set_far {cs : List Value} {o j : Nat} {x : Cl} {u : Value} (h : ClIn cs o x) (hj : j < o ∨ o + 5 < j) : ClIn (cs.set j u) o x :=
  ⟨by rw [List.getElem?_set_ne (by omega)]; exact h.c0, by rw [List.getElem?_set_ne (by omega)]; exact h.c1, by rw [List.getElem?_set_ne (by omega)]; exact h.c2, by rw [List.getElem?_set_ne (by omega)]; exact h.c3, by rw [List.getElem?_set_ne (by omega)]; exact h.c4, by rw [List.getElem?_set_ne (by omega)]; exact h.c5⟩
/-- 6 cells that can be written. -/
structure ClOld (w : World) (b o : Nat) (u0 u1 u2 u3 u4 u5 : Value) : Prop where
  c0 : w.cell? ⟨b, o, none⟩ = some u0
  c1 : w.cell? ⟨b, o + 1, none⟩ = some u1
  c2 : w.cell? ⟨b, o + 2, none⟩ = some u2
  c3 : w.cell? ⟨b, o + 3, none⟩ = some u3
  c4 : w.cell? ⟨b, o + 4, none⟩ = some u4
  c5 : w.cell? ⟨b, o + 5, none⟩ = some u5
  f0 : w.frozen? ⟨b, o, none⟩ = false
  f1 : w.frozen? ⟨b, o + 1, none⟩ = false
  f2 : w.frozen? ⟨b, o + 2, none⟩ = false
  f3 : w.frozen? ⟨b, o + 3, none⟩ = false
  f4 : w.frozen? ⟨b, o + 4, none⟩ = false
  f5 : w.frozen? ⟨b, o + 5, none⟩ = false
theorem Bk.oldCl {w : World} {g o : Nat} {t : TypeId} {cs : List Value} (h : Bk w g t cs) (ho : o + 5 < cs.length) : ∃ u0 u1 u2 u3 u4 u5, ClOld w g o u0 u1 u2 u3 u4 u5 := by
  obtain ⟨u0, h0⟩ := get_of_lt cs (k := o) (by omega)
  obtain ⟨u1, h1⟩ := get_of_lt cs (k := o + 1) (by omega)
  obtain ⟨u2, h2⟩ := get_of_lt cs (k := o + 2) (by omega)
  obtain ⟨u3, h3⟩ := get_of_lt cs (k := o + 3) (by omega)
  obtain ⟨u4, h4⟩ := get_of_lt cs (k := o + 4) (by omega)
  obtain ⟨u5, h5⟩ := get_of_lt cs (k := o + 5) (by omega)
  exact ⟨u0, u1, u2, u3, u4, u5, (h.cell _).trans h0, (h.cell _).trans h1, (h.cell _).trans h2, (h.cell _).trans h3, (h.cell _).trans h4, (h.cell _).trans h5, h.free _, h.free _, h.free _, h.free _, h.free _, h.free _⟩
theorem ClOld.below {w w' : World} {b o C : Nat} {u0 u1 u2 u3 u4 u5 : Value} (h : ClOld w b o u0 u1 u2 u3 u4 u5) (hb : Below C w w') (hC : b < C) : ClOld w' b o u0 u1 u2 u3 u4 u5 := by
  have hc : ∀ i, w'.cell? ⟨b, i, none⟩ = w.cell? ⟨b, i, none⟩ := fun i => hb.cell (p := ⟨b, i, none⟩) hC
  have hf : ∀ i, w'.frozen? ⟨b, i, none⟩ = w.frozen? ⟨b, i, none⟩ := fun i => hb.frozen (p := ⟨b, i, none⟩) hC
  exact ⟨(hc _).trans h.c0, (hc _).trans h.c1, (hc _).trans h.c2, (hc _).trans h.c3, (hc _).trans h.c4, (hc _).trans h.c5, (hf _).trans h.f0, (hf _).trans h.f1, (hf _).trans h.f2, (hf _).trans h.f3, (hf _).trans h.f4, (hf _).trans h.f5⟩

theorem Try.infoCl : (Try.prog.info? 66).map (fun i => (i.zero, i.size, i.bytes)) = some (some (.agg #[.int .i64 0, .int .i64 0, .int .i64 0, .bool false, .bool false, .bool false]), 6, 32) := by kernel_rfl
/-- The cells of a new row. -/
def madeCl (n : Nat) : List Value := (madeCells #[.int .i64 0, .int .i64 0, .int .i64 0, .bool false, .bool false, .bool false] (n * 6)).toList
theorem madeCl_len (n : Nat) : (madeCl n).length = n * 6 := by simp [madeCl, size_madeCells]
def zeroCl : Cl := ⟨0, 0, 0, false, false, false⟩
theorem madeCl_get (n j : Nat) (hj : j < n * 6) : (madeCl n)[j]? = some ((#[.int .i64 0, .int .i64 0, .int .i64 0, .bool false, .bool false, .bool false])[j % 6]!) := by
  simp [madeCl, madeCells, hj]
theorem madeCl_in (n k : Nat) (hk : k < n) : ClIn (madeCl n) (k * 6) zeroCl := by
  constructor
  · rw [madeCl_get _ _ (by omega), show (k * 6) % 6 = 0 from by omega]; rfl
  · rw [madeCl_get _ _ (by omega), show (k * 6 + 1) % 6 = 1 from by omega]; rfl
  · rw [madeCl_get _ _ (by omega), show (k * 6 + 2) % 6 = 2 from by omega]; rfl
  · rw [madeCl_get _ _ (by omega), show (k * 6 + 3) % 6 = 3 from by omega]; rfl
  · rw [madeCl_get _ _ (by omega), show (k * 6 + 4) % 6 = 4 from by omega]; rfl
  · rw [madeCl_get _ _ (by omega), show (k * 6 + 5) % 6 = 5 from by omega]; rfl
theorem run_makeCl {P : Program} (t e : TypeId) (ht : P.underlying t = some (.slice e))
    (hinfo : (P.info? e).map (fun i => (i.zero, i.size, i.bytes)) = some (some (.agg #[.int .i64 0, .int .i64 0, .int .i64 0, .bool false, .bool false, .bool false]), 6, 32)) (n : Nat) (hn : n ≤ 1048576) (w : World) :
    (Instr.makeSlice t (.int .i64 (n : Int)) (.int .i64 (n : Int))).run P w = .ok (.slice (some ⟨w.heap.size, 0, none⟩) n n) (w.alloc (.cells (madeCl n).toArray e)) := by
  obtain ⟨i, hi, hz0, hz1, hz2⟩ := info_parts hinfo
  have hr := run_make (P := P) w t e i _ ht hi hz0 .i64 .i64 n n (by omega) (by omega) (by rw [hz2]; omega) (by omega)
  rw [hz1] at hr
  simp only [Int.toNat_natCast] at hr
  rw [hr]
  simp [madeCl, Value.cells]

end Go.Proofs.Ythfniffecceldaa

/- Contracts: slices of nodes, and pipes, compared. -/
namespace Go.Proofs.Ythfniffecceldaa
open Go.RowKit

set_option maxHeartbeats 800000 in
theorem eqNodeS_any (A1 A2 : Option Addr) (c1 c2 : Nat) (l1 l2 : List Nd) (w : World) (B : Nat) (h1 : RdN w B A1 l1) (h2 : RdN w B A2 l2) (hB : B ≤ w.heap.size) (n1 : l1.length ≤ 1048576) :
    Calls Try.prog 44 #[.slice A1 l1.length c1, .slice A2 l2.length c2] w fun e w' => e = .returned (.bool (decide (l1 = l2))) ∧ Below w.heap.size w w' := by
  by_cases hl : l1.length = l2.length
  · have hb : ((l1.length : Int) != (l2.length : Int)) = false := by simp [hl]
    have hb' : (l1.length != l2.length) = false := by simp [hl]
    have Hl := Lib.hid hl
    clear hl
    go_enter Try.func44, Try.ntmps44
    go_wp2
    go_loopw [5] (fun i wr => ∃ k : Nat, k ≤ l1.length ∧ i = .int .i64 k ∧ l1.take k = l2.take k ∧ Below w.heap.size w wr) (fun i _ => l1.length - (intOf i).toNat)
    case atStart => exact ⟨0, Nat.zero_le _, rfl, by simp, Below.refl _ _⟩
    case round =>
      obtain ⟨k, hk, rfl, hall, hs⟩ := hrel
      have Hall := Lib.hid hall
      clear hall
      by_cases hlt : k < l1.length
      · have hlt2 : k < l2.length := by rw [← Hl.out]; exact hlt
        obtain ⟨b, o, x, rfl, hbB, hx, hc⟩ := (h1.below hs hB).at_ hlt
        obtain ⟨b2, o2, y, rfl, hbB2, hy, hd⟩ := (h2.below hs hB).at_ hlt2
        obtain ⟨p0, p1, p2, p3, p4⟩ := hc
        obtain ⟨q0, q1, q2, q3, q4⟩ := hd
        have Hx := Lib.hid hx
        have Hy := Lib.hid hy
        have Hs := Lib.hid hs
        clear hx hy h1 h2 hs
        cases hxy : ndEq x y
        · have Hxy := Lib.hid hxy
          clear hxy
          go_wp2
          go_region_with (go_at_call 64; refine (eqNode_any x y _).mono ?_; rintro e w1 ⟨rfl, hb⟩; rw [Hxy.out]; have Hb := Lib.hid hb; clear hb)
          all_goals
            go_wp2
            go_ret
            exact ⟨ret_bool (decide_eq_false (ne_of_get Hx.out Hy.out (ndEq_ne Hxy.out))).symm, below_step Hs.out Hb.out⟩
        · have Hxy := Lib.hid hxy
          clear hxy
          go_wp2
          go_region_with (go_at_call 64; refine (eqNode_any x y _).mono ?_; rintro e w1 ⟨rfl, hb⟩; rw [Hxy.out]; have Hb := Lib.hid hb; clear hb)
          all_goals
            go_wp2
            go_roundw
            case rel => exact ⟨k + 1, by omega, by go_num, take_eq_succ Hall.out Hx.out (by rw [ndEq_eq Hxy.out]; exact Hy.out), below_step Hs.out Hb.out⟩
            case measure => simp [intOf]; omega
      · go_wp2
        go_ret
        exact ⟨ret_bool (decide_eq_true (eq_of_take (by omega) (by rw [← Hl.out]; omega) Hall.out)).symm, hs⟩
  · have hb' : (l1.length != l2.length) = true := by simp [hl]
    have Hl : Hid (¬ l1.length = l2.length) := hl
    clear hl
    go_enter Try.func44, Try.ntmps44
    go_wp2
    go_ret
    exact ⟨ret_bool (by rw [decide_eq_false]; intro e; exact Hl.out (by rw [e])), Below.refl _ _⟩

set_option maxHeartbeats 400000 in
theorem eqPipe_any (A1 A2 : Option Addr) (c1 c2 : Nat) (l1 l2 : List Nd) (w : World) (B : Nat) (h1 : RdN w B A1 l1) (h2 : RdN w B A2 l2) (hB : B ≤ w.heap.size) (n1 : l1.length ≤ 1048576) :
    Calls Try.prog 23 #[.agg #[.slice A1 l1.length c1], .agg #[.slice A2 l2.length c2]] w fun e w' => e = .returned (.bool (decide (l1 = l2))) ∧ Below w.heap.size w w' := by
  have hB0 := ((Below.refl w.heap.size w).alloc (Nat.le_refl _) (.cells #[.slice A1 l1.length c1] 39)).alloc (by simp) (.cells #[.slice A2 l2.length c2] 39)
  cases hd : decide (l1 = l2)
  all_goals
    have Hd := Lib.hid hd
    have Hh1 := Lib.hid h1
    have Hh2 := Lib.hid h2
    have HB0 := Lib.hid hB0
    clear hd h1 h2 hB0
    go_enter Try.func23, Try.ntmps23
    go_wp2_with fail
    refine (eqNodeS_any _ _ _ _ _ _ _ B (Hh1.out.below HB0.out hB) (Hh2.out.below HB0.out hB) (by simp; omega) n1).mono ?_
    rintro e w1 ⟨rfl, hb⟩
    rw [Hd.out]
    have Hb := Lib.hid hb
    clear hb
    go_wp2_with fail
    go_ret
    exact ⟨rfl, HB0.out.trans (Hb.out.mono (by simp; omega))⟩

end Go.Proofs.Ythfniffecceldaa

/- Contracts of the functions on cells of nodes. -/
namespace Go.Proofs.Ythfniffecceldaa
open Go.RowKit

/-- n marks, the first number of which is k. -/
def mkCl (n : Nat) (k : Int) : List Cl := (List.range n).map fun i : Nat => ⟨k + 6 * i, k + 6 * i + 1, k + 6 * i + 2, (k + 6 * i + 3) % 3 == 0, (k + 6 * i + 4) % 3 == 0, (k + 6 * i + 5) % 3 == 0⟩
theorem mkCl_len (n : Nat) (k : Int) : (mkCl n k).length = n := by simp [mkCl]
theorem mkCl_get {n : Nat} {k : Int} {i : Nat} (h : i < n) : (mkCl n k)[i]? = some ⟨k + 6 * i, k + 6 * i + 1, k + 6 * i + 2, (k + 6 * i + 3) % 3 == 0, (k + 6 * i + 4) % 3 == 0, (k + 6 * i + 5) % 3 == 0⟩ := by simp [mkCl, h]
theorem mkCl_at {n : Nat} {k m : Int} {i : Nat} (h : i < n) (hm : m = k + 6 * i) : (mkCl n k)[i]? = some ⟨m, m + 1, m + 2, (m + 3) % 3 == 0, (m + 4) % 3 == 0, (m + 5) % 3 == 0⟩ := by rw [mkCl_get h, hm]

end Go.Proofs.Ythfniffecceldaa
