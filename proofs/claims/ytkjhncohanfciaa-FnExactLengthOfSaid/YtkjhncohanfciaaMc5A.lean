/- Texts on the program and its reference, put together (Math, Mem, SrcA, NodeA, NodeM, NodeB, Own, AppN). -/
import Derived.WalkKit
import Derived.Deep.OwnRows
import Derived.Deep.Draws
import Derived.Laws.Rows
import Derived.Test.YtkjhncohanfciaaProg
import Derived.WalkLawsBesides
import Derived.WalkSpells
import Derived.LoopTactic
import Derived.Lib.Hide
import Derived.Deep.QuietTactic
import Derived.BigQuiet
import Derived.Laws.MakeOwn
import Derived.Laws.OwnMore
import Derived.OwnWalk
import Derived.Laws.AppendOwn
/- Plain mathematics of lists and numbers that the walks over the program need; no program is named here. -/
namespace Go.Proofs.Ytkjhncohanfciaa

/-- A node: its kind, the nodes below it, its numbers. -/
structure Nd where
  k : Int
  a : Int
  b : Int
  n : Int
  m : Int
deriving DecidableEq

theorem Nd.ext_ {x y : Nd} (h1 : x.k = y.k) (h2 : x.a = y.a) (h3 : x.b = y.b) (h4 : x.n = y.n) (h5 : x.m = y.m) : x = y := by
  cases x; cases y; simp at h1 h2 h3 h4 h5; simp [h1, h2, h3, h4, h5]
/-- Whether two nodes are equal. -/
def ndEq (x y : Nd) : Bool := decide (x = y)
theorem ndEq_no {x y : Nd} (h : (x.k != y.k) = true ∨ (x.a != y.a) = true ∨ (x.b != y.b) = true ∨ (x.n != y.n) = true ∨ (x.m != y.m) = true) : ndEq x y = false := by
  unfold ndEq
  apply decide_eq_false
  intro e
  subst e
  simp at h
theorem ndEq_yes {x y : Nd} (h1 : (x.k != y.k) = false) (h2 : (x.a != y.a) = false) (h3 : (x.b != y.b) = false) (h4 : (x.n != y.n) = false) (h5 : (x.m != y.m) = false) : ndEq x y = true := by
  unfold ndEq
  apply decide_eq_true
  simp at h1 h2 h3 h4 h5
  exact Nd.ext_ h1 h2 h3 h4 h5

theorem ndEq_ne {x y : Nd} (h : ndEq x y = false) : x ≠ y := of_decide_eq_false h
theorem ndEq_eq {x y : Nd} (h : ndEq x y = true) : x = y := of_decide_eq_true h

/-- n lies in lo..hi. -/
def inR (n lo hi : Int) : Bool := decide (lo ≤ n) && decide (n ≤ hi)
theorem inR_yes {n lo hi : Int} (h : lo ≤ n) (h' : n ≤ hi) : inR n lo hi = true := by simp [inR, h, h']
theorem inR_no {n lo hi : Int} (h : n < lo ∨ hi < n) : inR n lo hi = false := by
  unfold inR
  rcases h with h | h
  · simp; intro; omega
  · simp; intro; omega
theorem inR_iff {n lo hi : Int} : inR n lo hi = true ↔ lo ≤ n ∧ n ≤ hi := by simp [inR]

/-- How many nodes are below one of a kind; -1 for other kinds. -/
def arity (k : Int) : Int :=
  if k == 0 then 0 else if k == 7 || k == 8 || k == 9 || k == 10 then 2 else
  if k == 1 || k == 2 || k == 3 || k == 4 || k == 5 || k == 6 || k == 11 || k == 12 || k == 13 then 1 else -1
/-- Whether there is such a kind. -/
def known (k : Int) : Bool := k == 0 || k == 1 || k == 2 || k == 3 || k == 4 || k == 5 || k == 6 || k == 7 || k == 8 || k == 9 || k == 10 || k == 11 || k == 12 || k == 13
/-- Whether the numbers of a node are those of its kind. -/
def numsOk (x : Nd) : Bool :=
  if x.k == 0 then inR x.n 0 2 && (x.m == 0) else
  if x.k == 1 then inR x.n 0 99 && inR x.m 0 99 else
  if x.k == 2 then inR x.n 1 30 && inR x.m 0 (x.n - 1) else
  if x.k == 3 || x.k == 4 then inR x.n 0 30 && (x.m == 0) else
  if x.k == 5 || x.k == 6 then inR x.n 0 99 && (x.m == 0) else
  if x.k == 12 then inR x.n 1 30 && (x.m == 0) else
  (x.n == 0) && (x.m == 0)
/-- Whether the node i has as many earlier ones below as its kind. -/
def kidsOk (x : Nd) (i : Int) : Bool :=
  if arity x.k == 0 then (x.a == -1) && (x.b == -1) else
  if arity x.k == 1 then inR x.a 0 (i - 1) && (x.b == -1) else
  if arity x.k == 2 then inR x.a 0 (i - 1) && inR x.b 0 (i - 1) && (x.a != x.b) else false

/-- All numbers of a list lie in lo..hi. -/
def allB (l : List Int) (lo hi : Int) : Bool := l.all (fun x => inR x lo hi)

theorem take_succ_of {α : Type} {l : List α} {k : Nat} {x : α} (h : l[k]? = some x) : l.take (k + 1) = l.take k ++ [x] := by
  rw [List.take_add_one, h]; rfl
theorem all_take_succ {α : Type} {l : List α} {k : Nat} {x : α} {p : α → Bool} (h : l[k]? = some x) (hp : p x = true) (hk : (l.take k).all p = true) : (l.take (k + 1)).all p = true := by
  rw [take_succ_of h, List.all_append, hk]; simp [hp]
theorem all_false_of {α : Type} {l : List α} {k : Nat} {x : α} {p : α → Bool} (h : l[k]? = some x) (hp : p x = false) : l.all p = false := by
  rw [List.all_eq_false]
  exact ⟨x, List.mem_of_getElem? h, by simp [hp]⟩
theorem all_of_take {α : Type} {l : List α} {k : Nat} {p : α → Bool} (hk : l.length ≤ k) (h : (l.take k).all p = true) : l.all p = true := by
  rwa [List.take_of_length_le hk] at h
theorem get_of_lt {α : Type} (l : List α) {k : Nat} (h : k < l.length) : ∃ x, l[k]? = some x := ⟨l[k], List.getElem?_eq_getElem h⟩

theorem take_eq_succ {α : Type} {l m : List α} {k : Nat} {x : α} (h : l.take k = m.take k) (hx : l[k]? = some x) (hy : m[k]? = some x) : l.take (k + 1) = m.take (k + 1) := by
  rw [take_succ_of hx, take_succ_of hy, h]
theorem ne_of_get {α : Type} {l m : List α} {k : Nat} {x y : α} (hx : l[k]? = some x) (hy : m[k]? = some y) (h : x ≠ y) : l ≠ m := by
  intro e; subst e; rw [hx] at hy; exact h (Option.some.inj hy)
theorem eq_of_take {α : Type} {l m : List α} {k : Nat} (hl : l.length ≤ k) (hm : m.length ≤ k) (h : l.take k = m.take k) : l = m := by
  rwa [List.take_of_length_le hl, List.take_of_length_le hm] at h
/-- All numbers of all rows, and the rows, counted. -/
def bulk (rows : List (List Int)) : Nat := rows.length + (rows.map List.length).sum
theorem sum_take_succ {rows : List (List Int)} {k : Nat} {r : List Int} (h : rows[k]? = some r) : ((rows.take (k + 1)).map List.length).sum = ((rows.take k).map List.length).sum + r.length := by
  rw [take_succ_of h]; simp
theorem sum_take_le (rows : List (List Int)) (k : Nat) : ((rows.take k).map List.length).sum ≤ (rows.map List.length).sum := by
  have h : (rows.map List.length).sum = ((rows.take k).map List.length).sum + ((rows.drop k).map List.length).sum := by
    rw [← List.sum_append, ← List.map_append, List.take_append_drop]
  omega
theorem len_le_bulk {rows : List (List Int)} {r : List Int} (h : r ∈ rows) : r.length ≤ (rows.map List.length).sum := by
  obtain ⟨k, hk⟩ := List.getElem?_of_mem h
  have h1 := sum_take_succ hk
  have h2 := sum_take_le rows (k + 1)
  omega

theorem fill_set {α : Type} (ys : List α) (z u : α) {k n : Nat} (hy : ys.length = k) (hk : k < n) : (ys ++ List.replicate (n - k) z).set k u = (ys ++ [u]) ++ List.replicate (n - (k + 1)) z := by
  have e : n - k = (n - (k + 1)) + 1 := by omega
  rw [e, List.replicate_succ, List.set_append_right _ _ (by omega), hy, Nat.sub_self, List.set_cons_zero]
  simp
theorem zip_snoc {α β γ : Type} (f : α → β → γ) (xs : List α) (ys : List β) {k : Nat} {x : α} {y : β} (hx : xs.length = k) (hy : ys[k]? = some y) : List.zipWith f (xs ++ [x]) ys = List.zipWith f xs ys ++ [f x y] := by
  have h : k < ys.length := (List.getElem?_eq_some_iff.1 hy).1
  apply List.ext_getElem?
  intro i
  by_cases hi : i < k
  · rw [List.getElem?_append_left (by simp; omega), List.getElem?_zipWith, List.getElem?_zipWith, List.getElem?_append_left (by omega)]
  · by_cases hik : i = k
    · subst hik
      rw [List.getElem?_append_right (by simp; omega), List.getElem?_zipWith, List.getElem?_append_right (by omega)]
      have e : i - (List.zipWith f xs ys).length = 0 := by simp; omega
      rw [e, hx, Nat.sub_self, hy]
      rfl
    · rw [List.getElem?_eq_none (by simp; omega), List.getElem?_eq_none (by simp; omega)]

/-- What is left of a bound when n is taken off; -1 if it does not suffice. -/
def szLeft (left n : Int) : Int := if left < n then -1 else left - n
theorem szLeft_no {left n : Int} (h : left < n) : szLeft left n = -1 := if_pos h
theorem szLeft_yes {left n : Int} (h : ¬ left < n) : szLeft left n = left - n := if_neg h

theorem beq_three (n : Nat) : ((n : Int) == 3) = decide (n = 3) := by
  rw [Bool.eq_iff_iff]; simp; omega

/-- A list that can be a source's. -/
def rowOk (r : List Int) : Bool := decide (r.length ≤ 12) && allB r 0 99
/-- Lists that are sources. -/
def srcOk (rows : List (List Int)) : Bool := rows.all rowOk && decide (rows.length = 3)

end Go.Proofs.Ytkjhncohanfciaa

/- What a slice of numbers, and a slice of such slices, reads as in a world; a block that is known whole; how these are kept over what a call does to memory. -/
namespace Go.Proofs.Ytkjhncohanfciaa
open Go.RowKit

theorem add_block (a : Addr) (n : Nat) : (a.add n).block = a.block := by unfold Addr.add; split <;> rfl
theorem add_zero_row (g k : Nat) : (⟨g, 0, none⟩ : Addr).add k = ⟨g, k, none⟩ := by
  unfold Addr.add
  split
  · rename_i h; subst h; rfl
  · simp

/-- One world is another one but for draws. -/
def Same (w w' : World) : Prop := ∃ n, w' = w.drewN n
theorem Same.refl (w : World) : Same w w := ⟨0, rfl⟩
theorem Same.drewN {w w' : World} (h : Same w w') (n : Nat) : Same w (w'.drewN n) := by
  obtain ⟨m, rfl⟩ := h
  exact ⟨m + n, World.drewN_drewN ..⟩
theorem Same.trans {a b c : World} (h : Same a b) (k : Same b c) : Same a c := by
  obtain ⟨n, rfl⟩ := k
  exact h.drewN n
theorem Same.below {w w' : World} (h : Same w w') (B : Nat) : Below B w w' := by
  obtain ⟨m, rfl⟩ := h
  exact ⟨rfl, rfl, rfl, Nat.le_refl _, fun _ _ => rfl⟩
theorem Same.heap {w w' : World} (h : Same w w') : w'.heap = w.heap := by
  obtain ⟨m, rfl⟩ := h
  rfl

theorem below_step {w wr w1 : World} (h : Below w.heap.size w wr) (hb : Below wr.heap.size wr.drew w1) : Below w.heap.size w w1 := h.drew.trans (hb.mono h.size)

/-- The slice at A reads as the numbers l, below block B. -/
def RdI (w : World) (B : Nat) (A : Option Addr) (l : List Int) : Prop :=
  0 < l.length → ∃ ad, A = some ad ∧ ad.block < B ∧ ∀ (k : Nat) (x : Int), l[k]? = some x → w.cell? (ad.add k) = some (.int .i64 x)

section
variable {w w' : World} {B B' : Nat} {A : Option Addr} {l : List Int}
theorem RdI.at_ (h : RdI w B A l) {k : Nat} (hk : k < l.length) : ∃ ad x, A = some ad ∧ l[k]? = some x ∧ w.cell? (ad.add k) = some (.int .i64 x) := by
  obtain ⟨ad, e, _, hc⟩ := h (by omega)
  obtain ⟨x, hx⟩ := get_of_lt l hk
  exact ⟨ad, x, e, hx, hc k x hx⟩
theorem RdI.keep (h : RdI w B A l) (hk : ∀ p : Addr, p.block < B → w'.cell? p = w.cell? p) : RdI w' B A l := fun hn => by
  obtain ⟨ad, e, hb, hc⟩ := h hn
  exact ⟨ad, e, hb, fun k x hx => (hk _ (by rw [add_block]; exact hb)).trans (hc k x hx)⟩
theorem RdI.more (h : RdI w B A l) (hB : B ≤ B') : RdI w B' A l := fun hn => by
  obtain ⟨ad, e, hb, hc⟩ := h hn
  exact ⟨ad, e, by omega, hc⟩
theorem RdI.below {C : Nat} (h : RdI w B A l) (hb : Below C w w') (hC : B ≤ C) : RdI w' B A l := h.keep fun _ hp => hb.cell (by omega)
theorem RdI.same (h : RdI w B A l) (s : Same w w') : RdI w' B A l := h.below (s.below B) (Nat.le_refl _)
theorem RdI.drewN (h : RdI w B A l) (n : Nat) : RdI (w.drewN n) B A l := h
end

/-- The slice at A reads as the rows, below block B. -/
def RdR (w : World) (B : Nat) (A : Option Addr) (rows : List (List Int)) : Prop :=
  0 < rows.length → ∃ ad, A = some ad ∧ ad.block < B ∧ ∀ (k : Nat) (r : List Int), rows[k]? = some r → ∃ Ar cr, w.cell? (ad.add k) = some (.slice Ar r.length cr) ∧ RdI w B Ar r

section
variable {w w' : World} {B B' : Nat} {A : Option Addr} {rows : List (List Int)}
theorem RdR.at_ (h : RdR w B A rows) {k : Nat} (hk : k < rows.length) :
    ∃ ad r Ar cr, A = some ad ∧ rows[k]? = some r ∧ w.cell? (ad.add k) = some (.slice Ar r.length cr) ∧ RdI w B Ar r := by
  obtain ⟨ad, e, _, hc⟩ := h (by omega)
  obtain ⟨r, hr⟩ := get_of_lt rows hk
  obtain ⟨Ar, cr, h1, h2⟩ := hc k r hr
  exact ⟨ad, r, Ar, cr, e, hr, h1, h2⟩
theorem RdR.keep (h : RdR w B A rows) (hk : ∀ p : Addr, p.block < B → w'.cell? p = w.cell? p) : RdR w' B A rows := fun hn => by
  obtain ⟨ad, e, hb, hc⟩ := h hn
  refine ⟨ad, e, hb, fun k r hr => ?_⟩
  obtain ⟨Ar, cr, h1, h2⟩ := hc k r hr
  exact ⟨Ar, cr, (hk _ (by rw [add_block]; exact hb)).trans h1, h2.keep hk⟩
theorem RdR.below {C : Nat} (h : RdR w B A rows) (hb : Below C w w') (hC : B ≤ C) : RdR w' B A rows := h.keep fun _ hp => hb.cell (by omega)
theorem RdR.same (h : RdR w B A rows) (s : Same w w') : RdR w' B A rows := h.below (s.below B) (Nat.le_refl _)
theorem RdR.drewN (h : RdR w B A rows) (n : Nat) : RdR (w.drewN n) B A rows := h
theorem RdR.more (h : RdR w B A rows) (hB : B ≤ B') : RdR w B' A rows := fun hn => by
  obtain ⟨ad, e, hb, hc⟩ := h hn
  refine ⟨ad, e, by omega, fun k r hr => ?_⟩
  obtain ⟨Ar, cr, h1, h2⟩ := hc k r hr
  exact ⟨Ar, cr, h1, h2.more hB⟩
end

/-- Block g is just these cells, none of them frozen. -/
def Bk (w : World) (g : Nat) (t : TypeId) (cs : List Value) : Prop := w.heap[g]? = some (.cells cs.toArray t (0, 0))

section
variable {w w' : World} {g : Nat} {t : TypeId} {cs : List Value}
theorem Bk.lt (h : Bk w g t cs) : g < w.heap.size := lt_of_block h
theorem Bk.cell (h : Bk w g t cs) (i : Nat) : w.cell? ⟨g, i, none⟩ = cs[i]? := by
  rw [cell_of_row w g i cs.toArray t (0, 0) h]; simp
theorem Bk.free (h : Bk w g t cs) (i : Nat) : w.frozen? ⟨g, i, none⟩ = false := frozen_of_row w g i cs.toArray t h
theorem Bk.new (w : World) (t : TypeId) (cs : List Value) : Bk (w.alloc (.cells cs.toArray t)) w.heap.size t cs := heap_alloc_new w _
theorem Bk.drewN (h : Bk w g t cs) (n : Nat) : Bk (w.drewN n) g t cs := h
theorem Bk.alloc (h : Bk w g t cs) (o : Obj) : Bk (w.alloc o) g t cs := (Below.heap_alloc w o g h.lt).trans h
theorem Bk.far (h : Bk w g t cs) {p : Addr} (hp : g ≠ p.block) (u : Value) : Bk (w.setCell p u) g t cs := (Below.heap_setCell w p u g hp).trans h
theorem Bk.set_ (h : Bk w g t cs) (i : Nat) (u : Value) : Bk (w.setCell ⟨g, i, none⟩ u) g t (cs.set i u) := by
  unfold Bk at h ⊢
  simp [World.setCell, Array.getElem?_modify, h]
theorem Bk.below {C : Nat} (h : Bk w g t cs) (hb : Below C w w') (hg : g < C) : Bk w' g t cs := (hb.block g hg).trans h
theorem Bk.type_ {t' : TypeId} {cs' : List Value} (h : Bk w g t cs) (h' : Bk w g t' cs') : t = t' := by
  unfold Bk at h h'
  rw [h] at h'
  simp at h'
  exact h'.2
end

/-- The cells of a list of numbers. -/
def ints (l : List Int) : List Value := l.map (Value.int .i64)
theorem ints_get (l : List Int) (k : Nat) : (ints l)[k]? = l[k]?.map (Value.int .i64) := by simp [ints]

theorem Bk.rd {w : World} {g B : Nat} {l : List Int} {t : TypeId} (h : Bk w g t (ints l)) (hB : g < B) : RdI w B (some ⟨g, 0, none⟩) l := fun _ => by
  refine ⟨_, rfl, hB, fun k x hx => ?_⟩
  rw [add_zero_row, h.cell, ints_get, hx]; rfl

/-- A copy of the rows in the call's own memory: block g the slices, one block a row, in ascending order. -/
structure OwnR (w : World) (t1 t2 : TypeId) (base g : Nat) (gs : List Nat) (rows : List (List Int)) : Prop where
  base_ : base ≤ g
  len : gs.length = rows.length
  up : ∀ x ∈ gs, g < x
  asc : gs.Pairwise (· < ·)
  top : Bk w g t1 (List.zipWith (fun x (r : List Int) => Value.slice (some ⟨x, 0, none⟩) r.length r.length) gs rows)
  row : ∀ (j x : Nat) (r : List Int), gs[j]? = some x → rows[j]? = some r → Bk w x t2 (ints r)

section
variable {w w' : World} {t1 t2 : TypeId} {base g : Nat} {gs : List Nat} {rows : List (List Int)}
theorem OwnR.get_ (h : OwnR w t1 t2 base g gs rows) {j x : Nat} (hj : gs[j]? = some x) : ∃ r, rows[j]? = some r := by
  have h1 : j < gs.length := (List.getElem?_eq_some_iff.1 hj).1
  exact get_of_lt rows (by rw [← h.len]; exact h1)
theorem OwnR.lt_ (h : OwnR w t1 t2 base g gs rows) : ∀ x ∈ gs, x < w.heap.size := fun x hx => by
  obtain ⟨j, hj⟩ := List.getElem?_of_mem hx
  obtain ⟨r, hr⟩ := h.get_ hj
  exact (h.row j x r hj hr).lt
theorem OwnR.below {C : Nat} (h : OwnR w t1 t2 base g gs rows) (hb : Below C w w') (hC : w.heap.size ≤ C) : OwnR w' t1 t2 base g gs rows :=
  ⟨h.base_, h.len, h.up, h.asc, h.top.below hb (by have := h.top.lt; omega), fun j x r hj hr => (h.row j x r hj hr).below hb (by have := (h.row j x r hj hr).lt; omega)⟩
theorem OwnR.drewN (h : OwnR w t1 t2 base g gs rows) (n : Nat) : OwnR (w.drewN n) t1 t2 base g gs rows := ⟨h.base_, h.len, h.up, h.asc, h.top, h.row⟩
theorem OwnR.rd {B : Nat} (h : OwnR w t1 t2 base g gs rows) (hB : w.heap.size ≤ B) : RdR w B (some ⟨g, 0, none⟩) rows := fun _ => by
  refine ⟨_, rfl, by have := h.top.lt; show g < B; omega, fun k r hr => ?_⟩
  have h1 : k < rows.length := (List.getElem?_eq_some_iff.1 hr).1
  obtain ⟨x, hx⟩ := get_of_lt gs (k := k) (by rw [h.len]; exact h1)
  have hb := h.row k x r hx hr
  exact ⟨some ⟨x, 0, none⟩, r.length, by rw [add_zero_row, h.top.cell]; simp [List.getElem?_zipWith, hx, hr], hb.rd (by have := hb.lt; omega)⟩
end

/-- .. while it is being made: the rows of gs are there, the others still nil. -/
structure PartR (w : World) (t1 t2 : TypeId) (g : Nat) (gs : List Nat) (rows : List (List Int)) : Prop where
  up : ∀ x ∈ gs, g < x
  asc : gs.Pairwise (· < ·)
  top : Bk w g t1 (List.zipWith (fun x (r : List Int) => Value.slice (some ⟨x, 0, none⟩) r.length r.length) gs rows ++ List.replicate (rows.length - gs.length) (.slice none 0 0))
  row : ∀ (j x : Nat) (r : List Int), gs[j]? = some x → rows[j]? = some r → Bk w x t2 (ints r)

section
variable {w w1 : World} {t1 t2 : TypeId} {g : Nat} {gs : List Nat} {rows : List (List Int)}
theorem PartR.start (h : Bk w g t1 (List.replicate rows.length (.slice none 0 0))) : PartR w t1 t2 g [] rows :=
  ⟨fun _ hx => absurd hx (by simp), List.Pairwise.nil, by simpa using h, fun _ _ _ hj => absurd hj (by simp)⟩
theorem PartR.lt_ (h : PartR w t1 t2 g gs rows) (hle : gs.length ≤ rows.length) : ∀ x ∈ gs, x < w.heap.size := fun x hx => by
  obtain ⟨j, hj⟩ := List.getElem?_of_mem hx
  have h1 : j < gs.length := (List.getElem?_eq_some_iff.1 hj).1
  obtain ⟨r, hr⟩ := get_of_lt rows (k := j) (by omega)
  exact (h.row j x r hj hr).lt
theorem PartR.step (h : PartR w t1 t2 g gs rows) {r : List Int} (hr : rows[gs.length]? = some r) (hb : Below w.heap.size w w1) (hn : Bk w1 w.heap.size t2 (ints r)) :
    PartR (w1.setCell ⟨g, gs.length, none⟩ (.slice (some ⟨w.heap.size, 0, none⟩) r.length r.length)) t1 t2 g (gs ++ [w.heap.size]) rows := by
  have hk : gs.length < rows.length := (List.getElem?_eq_some_iff.1 hr).1
  have hlt := h.lt_ (by omega)
  have hg := h.top.lt
  refine ⟨fun x hx => ?_, List.pairwise_append.2 ⟨h.asc, List.pairwise_singleton _ _, fun a ha b hb => ?_⟩, ?_, fun j x r' hj hr' => ?_⟩
  · rcases List.mem_append.1 hx with hx | hx
    · exact h.up x hx
    · rw [List.mem_singleton.1 hx]; exact hg
  · rw [List.mem_singleton.1 hb]; exact hlt a ha
  · have h2 := (h.top.below hb hg).set_ gs.length (.slice (some ⟨w.heap.size, 0, none⟩) r.length r.length)
    rw [fill_set _ _ _ (by simp; omega) hk] at h2
    rw [zip_snoc _ _ _ rfl hr]
    simpa using h2
  · have hne : x ≠ g := by
      intro e
      subst e
      rcases List.mem_append.1 (List.mem_of_getElem? hj) with hx | hx
      · exact absurd (h.up x hx) (Nat.lt_irrefl _)
      · rw [List.mem_singleton.1 hx] at hg; exact absurd hg (Nat.lt_irrefl _)
    refine Bk.far ?_ (by exact hne) _
    by_cases hjl : j < gs.length
    · rw [List.getElem?_append_left hjl] at hj
      exact (h.row j x r' hj hr').below hb (hlt x (List.mem_of_getElem? hj))
    · have hj1 : j < (gs ++ [w.heap.size]).length := (List.getElem?_eq_some_iff.1 hj).1
      have e : j = gs.length := by simp at hj1; omega
      subst e
      rw [hr] at hr'
      obtain rfl := Option.some.inj hr'
      rw [List.getElem?_append_right (Nat.le_refl _), Nat.sub_self] at hj
      simp at hj
      rw [← hj]
      exact hn
theorem PartR.old (h : PartR w t1 t2 g gs rows) (hk : gs.length < rows.length) : w.cell? ⟨g, gs.length, none⟩ = some (.slice none 0 0) := by
  rw [h.top.cell, List.getElem?_append_right (by simp; omega)]
  have e : gs.length - (List.zipWith (fun x (r : List Int) => Value.slice (some ⟨x, 0, none⟩) r.length r.length) gs rows).length = 0 := by simp; omega
  rw [e, List.getElem?_replicate, if_pos (by omega)]
theorem PartR.done {base : Nat} (h : PartR w t1 t2 g gs rows) (hl : gs.length = rows.length) (hb : base ≤ g) : OwnR w t1 t2 base g gs rows :=
  ⟨hb, hl, h.up, h.asc, by simpa [hl] using h.top, h.row⟩
end

end Go.Proofs.Ytkjhncohanfciaa

/- Contracts of the functions that look at lists of numbers: each returns what the plain function gives, and leaves the world as it was. -/
namespace Go.Proofs.Ytkjhncohanfciaa
open Go.RowKit

theorem ret_bool {a b : Bool} (h : a = b) : Ending.returned (.bool a) = .returned (.bool b) := by rw [h]
theorem ret_int {k : IntKind} {a b : Int} (h : a = b) : Ending.returned (.int k a) = .returned (.int k b) := by rw [h]

set_option maxHeartbeats 400000 in
theorem szIntS_any (A : Option Addr) (n c : Nat) (left : Int) (w : World) (h0 : 0 ≤ left) (h1 : left ≤ 1048576) (hn : n ≤ maxLen) :
    Calls Try.prog 34 #[.slice A n c, .int .i64 left] w fun e w' => e = .returned (.int .i64 (szLeft left n)) ∧ w = w' := by
  unfold maxLen at hn
  by_cases h : left < n
  · rw [szLeft_no h]
    go_enter Try.func34, Try.ntmps34
    go_wp2
    go_ret
    exact ⟨rfl, rfl⟩
  · rw [szLeft_yes h]
    go_enter Try.func34, Try.ntmps34
    go_wp2
    go_ret
    exact ⟨rfl, rfl⟩

theorem specInR_any (n lo hi : Int) (w : World) :
    Calls Try.prog 50 #[.int .i64 n, .int .i64 lo, .int .i64 hi] w fun e w' => e = .returned (.bool (inR n lo hi)) ∧ w = w' := by
  by_cases h1 : lo ≤ n
  · by_cases h2 : n ≤ hi
    · rw [inR_yes h1 h2]
      go_enter Try.func50, Try.ntmps50
      go_wp2
      go_ret
      exact ⟨rfl, rfl⟩
    · rw [inR_no (.inr (by omega))]
      go_enter Try.func50, Try.ntmps50
      go_wp2
      go_ret
      exact ⟨rfl, rfl⟩
  · rw [inR_no (.inl (by omega))]
    go_enter Try.func50, Try.ntmps50
    go_wp2
    go_ret
    exact ⟨rfl, rfl⟩

theorem within_any (n lo hi : Int) (w : World) :
    Calls Try.prog 59 #[.int .i64 n, .int .i64 lo, .int .i64 hi] w fun e w' => e = .returned (.bool (inR n lo hi)) ∧ w = w' := by
  by_cases h1 : lo ≤ n
  · by_cases h2 : n ≤ hi
    · rw [inR_yes h1 h2]
      go_enter Try.func59, Try.ntmps59
      go_wp2
      go_ret
      exact ⟨rfl, rfl⟩
    · rw [inR_no (.inr (by omega))]
      go_enter Try.func59, Try.ntmps59
      go_wp2
      go_ret
      exact ⟨rfl, rfl⟩
  · rw [inR_no (.inl (by omega))]
    go_enter Try.func59, Try.ntmps59
    go_wp2
    go_ret
    exact ⟨rfl, rfl⟩

set_option maxHeartbeats 400000 in
theorem allIn_any (A : Option Addr) (c : Nat) (l : List Int) (lo hi : Int) (w : World) (B : Nat) (h : RdI w B A l) (hn : l.length ≤ 1048576) :
    Calls Try.prog 72 #[.slice A l.length c, .int .i64 lo, .int .i64 hi] w fun e w' => e = .returned (.bool (allB l lo hi)) ∧ w = w' := by
  go_enter Try.func72, Try.ntmps72
  go_wp2
  go_loop [7] (fun i => ∃ k : Nat, k ≤ l.length ∧ i = .int .i64 k ∧ (l.take k).all (fun x => inR x lo hi) = true) (fun i => l.length - (intOf i).toNat)
  case atStart => exact ⟨0, Nat.zero_le _, rfl, by simp⟩
  case round =>
    obtain ⟨k, hk, rfl, hall⟩ := hrel
    have Hall := Lib.hid hall
    clear hall
    by_cases hlt : k < l.length
    · obtain ⟨ad, x, rfl, hx, hc⟩ := h.at_ hlt
      have Hx := Lib.hid hx
      clear hx h
      cases hin : inR x lo hi
      · have Hin := Lib.hid hin
        clear hin
        go_wp2_with (go_at_call 50; refine (specInR_any _ _ _ _).mono ?_; rintro e w' ⟨rfl, rfl⟩; rw [Hin.out])
        go_ret
        exact ⟨ret_bool (all_false_of Hx.out Hin.out).symm, rfl⟩
      · have Hin := Lib.hid hin
        clear hin
        go_wp2_with (go_at_call 50; refine (specInR_any _ _ _ _).mono ?_; rintro e w' ⟨rfl, rfl⟩; rw [Hin.out])
        go_round
        case rel => exact ⟨k + 1, by omega, by go_num, all_take_succ Hx.out Hin.out Hall.out⟩
        case measure => simp [intOf]; omega
    · go_wp2
      go_ret
      exact ⟨ret_bool (all_of_take (by omega) Hall.out).symm, rfl⟩

set_option maxHeartbeats 400000 in
theorem allWithin_any (A : Option Addr) (c : Nat) (l : List Int) (lo hi : Int) (w : World) (B : Nat) (h : RdI w B A l) (hn : l.length ≤ 1048576) :
    Calls Try.prog 81 #[.slice A l.length c, .int .i64 lo, .int .i64 hi] w fun e w' => e = .returned (.bool (allB l lo hi)) ∧ w = w' := by
  go_enter Try.func81, Try.ntmps81
  go_wp2
  go_loop [11] (fun i => ∃ k : Nat, k ≤ l.length ∧ i = .int .i64 k ∧ (l.take k).all (fun x => inR x lo hi) = true) (fun i => l.length - (intOf i).toNat)
  case atStart => exact ⟨0, Nat.zero_le _, rfl, by simp⟩
  case round =>
    obtain ⟨k, hk, rfl, hall⟩ := hrel
    have Hall := Lib.hid hall
    clear hall
    by_cases hlt : k < l.length
    · obtain ⟨ad, x, rfl, hx, hc⟩ := h.at_ hlt
      have Hx := Lib.hid hx
      clear hx h
      cases hin : inR x lo hi
      · have Hin := Lib.hid hin
        clear hin
        go_wp2_with (go_at_call 59; refine (within_any _ _ _ _).mono ?_; rintro e w' ⟨rfl, rfl⟩; rw [Hin.out])
        go_ret
        exact ⟨ret_bool (all_false_of Hx.out Hin.out).symm, rfl⟩
      · have Hin := Lib.hid hin
        clear hin
        go_wp2_with (go_at_call 59; refine (within_any _ _ _ _).mono ?_; rintro e w' ⟨rfl, rfl⟩; rw [Hin.out])
        go_round
        case rel => exact ⟨k + 1, by omega, by go_num, all_take_succ Hx.out Hin.out Hall.out⟩
        case measure => simp [intOf]; omega
    · go_wp2
      go_ret
      exact ⟨ret_bool (all_of_take (by omega) Hall.out).symm, rfl⟩

end Go.Proofs.Ytkjhncohanfciaa

/- Contracts of the functions on one node. -/
namespace Go.Proofs.Ytkjhncohanfciaa
open Go.RowKit

set_option maxHeartbeats 400000 in
theorem toNode_any (x : Nd) (w : World) :
    Calls Try.prog 58 #[.agg #[.int .i64 x.k, .int .i64 x.a, .int .i64 x.b, .int .i64 x.n, .int .i64 x.m]] w fun e w' => e = .returned (.agg #[.int .i64 x.k, .int .i64 x.a, .int .i64 x.b, .int .i64 x.n, .int .i64 x.m]) ∧ Below w.heap.size w w' := by
  go_enter Try.func58, Try.ntmps58
  go_wp2
  refine bodyPost_ret (v := .agg #[.int .i64 x.k, .int .i64 x.a, .int .i64 x.b, .int .i64 x.n, .int .i64 x.m]) (by simp [results, Try.results58, go_sem]) rfl ⟨rfl, ?_⟩
  exact (((Below.refl _ _).alloc (Nat.le_refl _) _).alloc (by simp) _).alloc (by simp; omega) _

set_option maxHeartbeats 400000 in
theorem eqNode_any (x y : Nd) (w : World) :
    Calls Try.prog 67 #[.agg #[.int .i64 x.k, .int .i64 x.a, .int .i64 x.b, .int .i64 x.n, .int .i64 x.m], .agg #[.int .i64 y.k, .int .i64 y.a, .int .i64 y.b, .int .i64 y.n, .int .i64 y.m]] w
      fun e w' => e = .returned (.bool (ndEq x y)) ∧ Below w.heap.size w w' := by
  go_enter Try.func67, Try.ntmps67
  go_wp2
  all_goals
    go_ret
    refine ⟨ret_bool ?_, ((Below.refl _ _).alloc (Nat.le_refl _) _).alloc (by simp) _⟩
    first | exact (ndEq_no (.inl (by assumption))).symm | exact (ndEq_no (.inr (.inl (by assumption)))).symm | exact (ndEq_no (.inr (.inr (.inl (by assumption))))).symm | exact (ndEq_no (.inr (.inr (.inr (.inl (by assumption)))))).symm | exact (ndEq_no (.inr (.inr (.inr (.inr (by assumption)))))).symm | exact (ndEq_yes (by assumption) (by assumption) (by assumption) (by assumption) (by assumption)).symm

end Go.Proofs.Ytkjhncohanfciaa

/- Slices of nodes in memory: five cells a node. -/
namespace Go.Proofs.Ytkjhncohanfciaa
open Go.RowKit

/-- The cells of a list of nodes. -/
def nds : List Nd → List Value
  | [] => []
  | x :: l => .int .i64 x.k :: .int .i64 x.a :: .int .i64 x.b :: .int .i64 x.n :: .int .i64 x.m :: nds l

theorem nds_len (l : List Nd) : (nds l).length = l.length * 5 := by
  induction l with
  | nil => rfl
  | cons x l ih => simp [nds, ih]; omega
theorem nds_append (l m : List Nd) : nds (l ++ m) = nds l ++ nds m := by
  induction l with
  | nil => rfl
  | cons x l ih => simp [nds, ih]

theorem nds_at {l : List Nd} {k : Nat} {x : Nd} (h : l[k]? = some x) :
    (nds l)[k * 5]? = some (.int .i64 x.k) ∧ (nds l)[k * 5 + 1]? = some (.int .i64 x.a) ∧ (nds l)[k * 5 + 2]? = some (.int .i64 x.b) ∧ (nds l)[k * 5 + 3]? = some (.int .i64 x.n) ∧ (nds l)[k * 5 + 4]? = some (.int .i64 x.m) := by
  induction l generalizing k with
  | nil => simp at h
  | cons y l ih =>
    cases k with
    | zero => simp at h; subst h; exact ⟨rfl, rfl, rfl, rfl, rfl⟩
    | succ k =>
      have e : (k + 1) * 5 = k * 5 + 5 := by omega
      rw [e]
      exact ih (k := k) (by simpa using h)

/-- The five cells of a node at the place o of block b. -/
structure At5 (w : World) (b o : Nat) (x : Nd) : Prop where
  c0 : w.cell? ⟨b, o, none⟩ = some (.int .i64 x.k)
  c1 : w.cell? ⟨b, o + 1, none⟩ = some (.int .i64 x.a)
  c2 : w.cell? ⟨b, o + 2, none⟩ = some (.int .i64 x.b)
  c3 : w.cell? ⟨b, o + 3, none⟩ = some (.int .i64 x.n)
  c4 : w.cell? ⟨b, o + 4, none⟩ = some (.int .i64 x.m)

/-- The slice at A reads as the nodes l, below block B. -/
def RdN (w : World) (B : Nat) (A : Option Addr) (l : List Nd) : Prop :=
  0 < l.length → ∃ b o, A = some ⟨b, o, none⟩ ∧ b < B ∧ ∀ (k : Nat) (x : Nd), l[k]? = some x → At5 w b (o + k * 5) x

section
variable {w w' : World} {B B' : Nat} {A : Option Addr} {l : List Nd}
theorem At5.keep {b o : Nat} {x : Nd} (h : At5 w b o x) (hk : ∀ p : Addr, p.block = b → w'.cell? p = w.cell? p) : At5 w' b o x :=
  ⟨(hk _ rfl).trans h.c0, (hk _ rfl).trans h.c1, (hk _ rfl).trans h.c2, (hk _ rfl).trans h.c3, (hk _ rfl).trans h.c4⟩
theorem RdN.at_ (h : RdN w B A l) {k : Nat} (hk : k < l.length) : ∃ b o x, A = some ⟨b, o, none⟩ ∧ b < B ∧ l[k]? = some x ∧ At5 w b (o + k * 5) x := by
  obtain ⟨b, o, e, hb, hc⟩ := h (by omega)
  obtain ⟨x, hx⟩ := get_of_lt l hk
  exact ⟨b, o, x, e, hb, hx, hc k x hx⟩
theorem RdN.keep (h : RdN w B A l) (hk : ∀ p : Addr, p.block < B → w'.cell? p = w.cell? p) : RdN w' B A l := fun hn => by
  obtain ⟨b, o, e, hb, hc⟩ := h hn
  exact ⟨b, o, e, hb, fun k x hx => (hc k x hx).keep fun p hp => hk p (by omega)⟩
theorem RdN.more (h : RdN w B A l) (hB : B ≤ B') : RdN w B' A l := fun hn => by
  obtain ⟨b, o, e, hb, hc⟩ := h hn
  exact ⟨b, o, e, by omega, hc⟩
theorem RdN.below {C : Nat} (h : RdN w B A l) (hb : Below C w w') (hC : B ≤ C) : RdN w' B A l := h.keep fun _ hp => hb.cell (by omega)
theorem RdN.same (h : RdN w B A l) (s : Same w w') : RdN w' B A l := h.below (s.below B) (Nat.le_refl _)
theorem RdN.drewN (h : RdN w B A l) (n : Nat) : RdN (w.drewN n) B A l := h.same ⟨n, rfl⟩
end

theorem Bk.rdN {w : World} {g B : Nat} {l : List Nd} {t : TypeId} (h : Bk w g t (nds l)) (hB : g < B) : RdN w B (some ⟨g, 0, none⟩) l := fun _ => by
  refine ⟨g, 0, rfl, hB, fun k x hx => ?_⟩
  obtain ⟨h0, h1, h2, h3, h4⟩ := nds_at hx
  rw [Nat.zero_add]
  exact ⟨by rw [h.cell]; exact h0, by rw [h.cell]; exact h1, by rw [h.cell]; exact h2, by rw [h.cell]; exact h3, by rw [h.cell]; exact h4⟩

theorem nds_set {l : List Nd} {k : Nat} (x : Nd) (h : k < l.length) :
    (((((nds l).set (k * 5) (.int .i64 x.k)).set (k * 5 + 1) (.int .i64 x.a)).set (k * 5 + 2) (.int .i64 x.b)).set (k * 5 + 3) (.int .i64 x.n)).set (k * 5 + 4) (.int .i64 x.m) = nds (l.set k x) := by
  induction l generalizing k with
  | nil => simp at h
  | cons y l ih =>
    cases k with
    | zero => simp [nds]
    | succ k =>
      have e : (k + 1) * 5 = k * 5 + 5 := by omega
      rw [e]
      have := ih (k := k) (by simpa using h)
      simp only [nds, List.set_cons_succ, List.set]
      rw [← this]

/-- The node x is stored at the place k of a block of nodes. -/
theorem Bk.node {w : World} {g k : Nat} {t : TypeId} {l : List Nd} (h : Bk w g t (nds l)) (x : Nd) (hk : k < l.length) :
    Bk (((((w.setCell ⟨g, k * 5, none⟩ (.int .i64 x.k)).setCell ⟨g, k * 5 + 1, none⟩ (.int .i64 x.a)).setCell ⟨g, k * 5 + 2, none⟩ (.int .i64 x.b)).setCell ⟨g, k * 5 + 3, none⟩ (.int .i64 x.n)).setCell ⟨g, k * 5 + 4, none⟩ (.int .i64 x.m)) g t (nds (l.set k x)) := by
  rw [← nds_set x hk]
  exact ((((h.set_ _ _).set_ _ _).set_ _ _).set_ _ _).set_ _ _

/-- Five cells that can be written. -/
structure Old5 (w : World) (b o : Nat) (u0 u1 u2 u3 u4 : Value) : Prop where
  c0 : w.cell? ⟨b, o, none⟩ = some u0
  c1 : w.cell? ⟨b, o + 1, none⟩ = some u1
  c2 : w.cell? ⟨b, o + 2, none⟩ = some u2
  c3 : w.cell? ⟨b, o + 3, none⟩ = some u3
  c4 : w.cell? ⟨b, o + 4, none⟩ = some u4
  f0 : w.frozen? ⟨b, o, none⟩ = false
  f1 : w.frozen? ⟨b, o + 1, none⟩ = false
  f2 : w.frozen? ⟨b, o + 2, none⟩ = false
  f3 : w.frozen? ⟨b, o + 3, none⟩ = false
  f4 : w.frozen? ⟨b, o + 4, none⟩ = false
theorem Bk.old5 {w : World} {g o : Nat} {t : TypeId} {cs : List Value} (h : Bk w g t cs) (ho : o + 4 < cs.length) : ∃ u0 u1 u2 u3 u4, Old5 w g o u0 u1 u2 u3 u4 := by
  obtain ⟨u0, h0⟩ := get_of_lt cs (k := o) (by omega)
  obtain ⟨u1, h1⟩ := get_of_lt cs (k := o + 1) (by omega)
  obtain ⟨u2, h2⟩ := get_of_lt cs (k := o + 2) (by omega)
  obtain ⟨u3, h3⟩ := get_of_lt cs (k := o + 3) (by omega)
  obtain ⟨u4, h4⟩ := get_of_lt cs (k := o + 4) (by omega)
  exact ⟨u0, u1, u2, u3, u4, (h.cell _).trans h0, (h.cell _).trans h1, (h.cell _).trans h2, (h.cell _).trans h3, (h.cell _).trans h4, h.free _, h.free _, h.free _, h.free _, h.free _⟩
theorem Old5.below {w w' : World} {b o C : Nat} {u0 u1 u2 u3 u4 : Value} (h : Old5 w b o u0 u1 u2 u3 u4) (hb : Below C w w') (hC : b < C) : Old5 w' b o u0 u1 u2 u3 u4 := by
  have hc : ∀ i, w'.cell? ⟨b, i, none⟩ = w.cell? ⟨b, i, none⟩ := fun i => hb.cell (p := ⟨b, i, none⟩) hC
  have hf : ∀ i, w'.frozen? ⟨b, i, none⟩ = w.frozen? ⟨b, i, none⟩ := fun i => hb.frozen (p := ⟨b, i, none⟩) hC
  exact ⟨(hc _).trans h.c0, (hc _).trans h.c1, (hc _).trans h.c2, (hc _).trans h.c3, (hc _).trans h.c4, (hf _).trans h.f0, (hf _).trans h.f1, (hf _).trans h.f2, (hf _).trans h.f3, (hf _).trans h.f4⟩

/-- Nodes that are all zero. -/
def zeros (n : Nat) : List Nd := List.replicate n ⟨0, 0, 0, 0, 0⟩

theorem nds_zeros (n : Nat) : nds (zeros n) = List.replicate (n * 5) (.int .i64 0) := by
  induction n with
  | zero => rfl
  | succ n ih =>
    have e : (n + 1) * 5 = n * 5 + 1 + 1 + 1 + 1 + 1 := by omega
    rw [e]
    simp only [List.replicate_succ, zeros, nds]
    unfold zeros at ih
    rw [ih]

theorem made_five (n : Nat) : madeCells (Value.agg #[.int .i64 0, .int .i64 0, .int .i64 0, .int .i64 0, .int .i64 0]).cells (n * 5) = (nds (zeros n)).toArray := by
  rw [nds_zeros]
  apply Array.ext
  · simp [size_madeCells]
  · intro i h1 h2
    simp only [madeCells, Array.getElem_map, Array.getElem_range, List.getElem_toArray, List.getElem_replicate]
    have h5 : i % 5 < 5 := Nat.mod_lt _ (by decide)
    show (#[Value.int .i64 0, .int .i64 0, .int .i64 0, .int .i64 0, .int .i64 0])[i % 5]! = _
    generalize i % 5 = j at h5
    match j, h5 with
    | 0, _ => rfl
    | 1, _ => rfl
    | 2, _ => rfl
    | 3, _ => rfl
    | 4, _ => rfl

theorem run_make_nodes {P : Program} (t e : TypeId) (ht : P.underlying t = some (.slice e))
    (hinfo : (P.info? e).map (fun i => (i.zero, i.size, i.bytes)) = some (some (.agg #[.int .i64 0, .int .i64 0, .int .i64 0, .int .i64 0, .int .i64 0]), 5, 40)) (n : Nat) (hn : n ≤ 1048576) (w : World) :
    (Instr.makeSlice t (.int .i64 (n : Int)) (.int .i64 (n : Int))).run P w = .ok (.slice (some ⟨w.heap.size, 0, none⟩) n n) (w.alloc (.cells (nds (zeros n)).toArray e)) := by
  obtain ⟨i, hi, hz0, hz1, hz2⟩ := info_parts hinfo
  have hr := run_make (P := P) w t e i _ ht hi hz0 .i64 .i64 n n (by omega) (by omega) (by rw [hz2]; omega) (by omega)
  rw [hz1] at hr
  simp only [Int.toNat_natCast] at hr
  rw [made_five] at hr
  exact hr

theorem fill_nodes {w : World} {g k : Nat} {t : TypeId} {l : List Nd} {x : Nd} (h : Bk w g t (nds (l.take k ++ zeros (l.length - k)))) (hx : l[k]? = some x) :
    Bk (((((w.setCell ⟨g, k * 5, none⟩ (.int .i64 x.k)).setCell ⟨g, k * 5 + 1, none⟩ (.int .i64 x.a)).setCell ⟨g, k * 5 + 2, none⟩ (.int .i64 x.b)).setCell ⟨g, k * 5 + 3, none⟩ (.int .i64 x.n)).setCell ⟨g, k * 5 + 4, none⟩ (.int .i64 x.m)) g t (nds (l.take (k + 1) ++ zeros (l.length - (k + 1)))) := by
  have hl : k < l.length := (List.getElem?_eq_some_iff.1 hx).1
  have h2 := h.node x (k := k) (by simp [zeros]; omega)
  unfold zeros at h2
  rw [fill_set _ _ _ (by simp; omega) hl] at h2
  rw [take_succ_of hx]
  exact h2
theorem below_five {B : Nat} {a w : World} (h : Below B a w) {g i : Nat} (hg : B ≤ g) (v0 v1 v2 v3 v4 : Value) :
    Below B a (((((w.setCell ⟨g, i, none⟩ v0).setCell ⟨g, i + 1, none⟩ v1).setCell ⟨g, i + 2, none⟩ v2).setCell ⟨g, i + 3, none⟩ v3).setCell ⟨g, i + 4, none⟩ v4) :=
  ((((h.setCell hg _).setCell hg _).setCell hg _).setCell hg _).setCell hg _

end Go.Proofs.Ytkjhncohanfciaa

/- Contracts of the functions on slices of nodes: copied, compared, counted. -/
namespace Go.Proofs.Ytkjhncohanfciaa
open Go.RowKit

theorem Try.infoNode : (Try.prog.info? 69).map (fun i => (i.zero, i.size, i.bytes)) = some (some (.agg #[.int .i64 0, .int .i64 0, .int .i64 0, .int .i64 0, .int .i64 0]), 5, 40) := by kernel_rfl

set_option maxHeartbeats 400000 in
theorem toNodeS_any (A : Option Addr) (c : Nat) (l : List Nd) (w : World) (B : Nat) (h : RdN w B A l) (hB : B ≤ w.heap.size) (hn : l.length ≤ 1048576) :
    Calls Try.prog 37 #[.slice A l.length c] w fun e w' => e = .returned (.slice (some ⟨w.heap.size, 0, none⟩) l.length l.length) ∧ Bk w' w.heap.size 69 (nds l) ∧ Below w.heap.size w w' := by
  have hmk := run_make_nodes (P := Try.prog) 30 69 Try.underlying30 Try.infoNode l.length hn
  go_enter Try.func37, Try.ntmps37
  go_wp2
  clear hmk
  go_loopw [4] (fun i wr => ∃ k : Nat, k ≤ l.length ∧ i = .int .i64 k ∧ Bk wr w.heap.size 69 (nds (l.take k ++ zeros (l.length - k))) ∧ Below w.heap.size w wr) (fun i _ => l.length - (intOf i).toNat)
  case atStart => exact ⟨0, Nat.zero_le _, rfl, by simpa using Bk.new w 69 (nds (zeros l.length)), (Below.refl _ _).alloc (Nat.le_refl _) _⟩
  case round =>
    obtain ⟨k, hk, rfl, hbk, hbl⟩ := hrel
    by_cases hlt : k < l.length
    · obtain ⟨b, o, x, rfl, hbB, hx, hc⟩ := (h.below hbl hB).at_ hlt
      obtain ⟨c0, c1, c2, c3, c4⟩ := hc
      have hgl := hbk.lt
      obtain ⟨u0, u1, u2, u3, u4, hold⟩ := hbk.old5 (o := k * 5) (by simp [nds_len, zeros]; omega)
      have Hold := Lib.hid hold
      have Hbl := Lib.hid hbl
      have Hx := Lib.hid hx
      have Hbk := Lib.hid hbk
      have hsz := hbl.size
      clear hx h hbk hbl hold
      go_wp2_with (go_at_call 58; refine (toNode_any x _).mono ?_; rintro e w1 ⟨rfl, hb2⟩; obtain ⟨d0, d1, d2, d3, d4, f0, f1, f2, f3, f4⟩ := Hold.out.below hb2 hgl; have Hb2 := Lib.hid hb2; clear hb2)
      go_roundw
      case rel => exact ⟨k + 1, by omega, by go_num, fill_nodes (Hbk.out.below Hb2.out hgl) Hx.out, below_five (Hbl.out.trans (Hb2.out.mono hsz)) (Nat.le_refl _) _ _ _ _ _⟩
      case measure => simp [intOf]; omega
    · obtain rfl : k = l.length := by omega
      have hbk2 : Bk wr w.heap.size 69 (nds l) := by simpa [zeros] using hbk
      have Hbk := Lib.hid hbk2
      clear hbk hbk2
      go_wp2
      go_ret
      exact ⟨rfl, Hbk.out, hbl⟩

set_option maxHeartbeats 400000 in
theorem toPipe_any (A : Option Addr) (c : Nat) (l : List Nd) (w : World) (B : Nat) (h : RdN w B A l) (hB : B ≤ w.heap.size) (hn : l.length ≤ 1048576) :
    Calls Try.prog 12 #[.agg #[.slice A l.length c]] w fun e w' => ∃ g, e = .returned (.agg #[.slice (some ⟨g, 0, none⟩) l.length l.length]) ∧ w.heap.size ≤ g ∧ Bk w' g 69 (nds l) ∧ Below w.heap.size w w' := by
  go_enter Try.func12, Try.ntmps12
  have Hh := Lib.hid h
  clear h
  go_wp2_with fail
  have hB0 := (((Below.refl w.heap.size w).alloc (Nat.le_refl _) (.cells #[.slice A l.length c] 24)).alloc (by simp) (.cells #[.slice none 0 0] 32)).alloc (by simp; omega) (.cells #[.slice none 0 0] 32)
  refine (toNodeS_any A c l _ B (Hh.out.below hB0 hB) (by simp; omega) hn).mono ?_
  rintro e w1 ⟨rfl, hb1, hb2⟩
  simp only [World.size_alloc] at hb1 hb2
  have d1 : w1.cell? ⟨w.heap.size + 1, 0, none⟩ = some (.slice none 0 0) := (hb2.cell (p := ⟨w.heap.size + 1, 0, none⟩) (by simp)).trans (by simp [go_sem])
  have f1 : w1.frozen? ⟨w.heap.size + 1, 0, none⟩ = false := (hb2.frozen (p := ⟨w.heap.size + 1, 0, none⟩) (by simp)).trans (by simp [go_sem])
  have d2 : w1.cell? ⟨w.heap.size + 2, 0, none⟩ = some (.slice none 0 0) := (hb2.cell (p := ⟨w.heap.size + 2, 0, none⟩) (by simp)).trans (by simp [go_sem])
  have f2 : w1.frozen? ⟨w.heap.size + 2, 0, none⟩ = false := (hb2.frozen (p := ⟨w.heap.size + 2, 0, none⟩) (by simp)).trans (by simp [go_sem])
  have Hb1 := Lib.hid hb1
  have Hb2 := Lib.hid hb2
  have HB0 := Lib.hid hB0
  clear hb1 hb2 hB0
  go_wp2
  refine bodyPost_ret (v := .agg #[.slice (some ⟨w.heap.size + 3, 0, none⟩) l.length l.length]) (by simp [results, Try.results12, go_sem, d1]) rfl ⟨_, rfl, by omega, ?_, ?_⟩
  · exact (Hb1.out.far (by show w.heap.size + 1 + 1 + 1 ≠ w.heap.size + 2; omega) _).far (by show w.heap.size + 1 + 1 + 1 ≠ w.heap.size + 1; omega) _
  · exact ((HB0.out.trans (Hb2.out.mono (by omega))).setCell (by show w.heap.size ≤ w.heap.size + 2; omega) _).setCell (by show w.heap.size ≤ w.heap.size + 1; omega) _

set_option maxHeartbeats 400000 in
theorem szNodeS_any (A : Option Addr) (n c : Nat) (left : Int) (w : World) (h0 : 0 ≤ left) (h1 : left ≤ 1048576) (hn : n ≤ maxLen) :
    Calls Try.prog 33 #[.slice A n c, .int .i64 left] w fun e w' => e = .returned (.int .i64 (szLeft left n)) ∧ w = w' := by
  unfold maxLen at hn
  by_cases h : left < n
  · rw [szLeft_no h]
    go_enter Try.func33, Try.ntmps33
    go_wp2
    go_ret
    exact ⟨rfl, rfl⟩
  · rw [szLeft_yes h]
    go_enter Try.func33, Try.ntmps33
    go_wp2
    go_ret
    exact ⟨rfl, rfl⟩

set_option maxHeartbeats 400000 in
theorem szPipe_any (A : Option Addr) (n c : Nat) (left : Int) (w : World) (h0 : 0 ≤ left) (h1 : left ≤ 1048576) (hn : n ≤ maxLen) :
    Calls Try.prog 9 #[.agg #[.slice A n c], .int .i64 left] w fun e w' => e = .returned (.int .i64 (szLeft left n)) ∧ Below w.heap.size w w' := by
  by_cases h : left < n
  · have hz := szLeft_no h
    have Hz := Lib.hid hz
    clear hz
    go_enter Try.func9, Try.ntmps9
    go_wp2_with (go_at_call 33; refine (szNodeS_any _ _ _ _ _ h0 h1 hn).mono ?_; rintro e w1 ⟨rfl, rfl⟩; rw [Hz.out])
    go_ret
    exact ⟨ret_int Hz.out.symm, (Below.refl _ _).alloc (Nat.le_refl _) _⟩
  · have hz := szLeft_yes h
    have Hz := Lib.hid hz
    clear hz
    go_enter Try.func9, Try.ntmps9
    go_wp2_with (go_at_call 33; refine (szNodeS_any _ _ _ _ _ h0 h1 hn).mono ?_; rintro e w1 ⟨rfl, rfl⟩; rw [Hz.out])
    go_ret
    exact ⟨ret_int Hz.out.symm, (Below.refl _ _).alloc (Nat.le_refl _) _⟩

end Go.Proofs.Ytkjhncohanfciaa

/- Slices of nodes that the call itself made; the functions that write marks into them and read the marks again. -/
namespace Go.Proofs.Ytkjhncohanfciaa
open Go.RowKit

/-- The slice at A holds the nodes l in memory from block base on, which can be written. -/
def OwnN (w : World) (base : Nat) (A : Option Addr) (c : Nat) (l : List Nd) : Prop := w.ownsRow base 69 5 (.slice A l.length c) l.length (nds l)

/-- The block of a slice. -/
def rowOf (A : Option Addr) : Option Nat := A.map (·.block)
theorem ownBlock_slice (A : Option Addr) (n c : Nat) : (Value.slice A n c).ownBlock = rowOf A := by cases A <;> rfl

section
variable {w w' : World} {base c : Nat} {A : Option Addr} {l : List Nd}
theorem OwnN.form (h : OwnN w base A c l) (hl : 0 < l.length) : ∃ g, A = some ⟨g, 0, none⟩ ∧ base ≤ g ∧ g < w.heap.size := by
  obtain ⟨_, ⟨_, h0⟩ | ⟨g, cap, cur, hv, hb, hh, _⟩⟩ := h
  · omega
  · injection hv with hA
    exact ⟨g, hA, hb, lt_of_block hh⟩
theorem OwnN.rd (h : OwnN w base A c l) : RdN w w.heap.size A l := fun hn => by
  obtain ⟨g, rfl, _, hlt⟩ := h.form hn
  refine ⟨g, 0, rfl, hlt, fun k x hx => ?_⟩
  obtain ⟨h0, h1, h2, h3, h4⟩ := nds_at hx
  have hk : k < l.length := (List.getElem?_eq_some_iff.1 hx).1
  rw [Nat.zero_add]
  have hc : ∀ j, j < l.length * 5 → w.cell? ⟨g, j, none⟩ = (nds l)[j]? := fun j hj => World.ownsRow.cellAt h j hj
  exact ⟨(hc _ (by omega)).trans h0, (hc _ (by omega)).trans h1, (hc _ (by omega)).trans h2, (hc _ (by omega)).trans h3, (hc _ (by omega)).trans h4⟩
theorem OwnN.grown {row : Option Nat} (h : OwnN w base A c l) (hg : w.grownBy w' row) (hne : rowOf A = none ∨ rowOf A ≠ row) : OwnN w' base A c l :=
  World.ownsRow.kept h hg (by rw [ownBlock_slice]; exact hne)
theorem OwnN.below {C : Nat} (h : OwnN w base A c l) (hb : Below C w w') (hC : w.heap.size ≤ C) : OwnN w' base A c l :=
  h.grown (row := none) ⟨hb.os, hb.tape, hb.output, Nat.le_trans (Nat.le_refl _) hb.size, fun k hk _ => hb.block k (by omega)⟩ (by cases A <;> simp [rowOf])
theorem OwnN.drewN (h : OwnN w base A c l) (n : Nat) : OwnN (w.drewN n) base A c l := h
theorem OwnN.base_ {b2 : Nat} (h : OwnN w base A c l) (hb : b2 ≤ base) : OwnN w b2 A c l := by
  obtain ⟨h1, h2 | ⟨g, cap, cur, hv, hg, hh⟩⟩ := h
  · exact ⟨h1, .inl h2⟩
  · exact ⟨h1, .inr ⟨g, cap, cur, hv, by omega, hh⟩⟩
theorem Bk.own {g : Nat} (h : Bk w g 69 (nds l)) (hb : base ≤ g) (hl : l.length ≤ 1048576) : OwnN w base (some ⟨g, 0, none⟩) l.length l :=
  ⟨nds_len l, .inr ⟨g, l.length, (nds l).toArray, rfl, hb, h, Nat.le_refl _, by unfold maxLen; omega, by simp [nds_len], by simp [← nds_len]⟩⟩
end

/-- n marked nodes, the first number of which is k. -/
def mkN (n : Nat) (k : Int) : List Nd := (List.range n).map fun i : Nat => ⟨k + 5 * i, k + 5 * i + 1, k + 5 * i + 2, k + 5 * i + 3, k + 5 * i + 4⟩
theorem mkN_len (n : Nat) (k : Int) : (mkN n k).length = n := by simp [mkN]
theorem mkN_get {n : Nat} {k : Int} {i : Nat} (h : i < n) : (mkN n k)[i]? = some ⟨k + 5 * i, k + 5 * i + 1, k + 5 * i + 2, k + 5 * i + 3, k + 5 * i + 4⟩ := by simp [mkN, h]
theorem mkN_succ (n : Nat) (k : Int) : mkN (n + 1) k = mkN n k ++ [⟨k + 5 * n, k + 5 * n + 1, k + 5 * n + 2, k + 5 * n + 3, k + 5 * n + 4⟩] := by simp [mkN, List.range_succ]
theorem mark_step {l : List Nd} {k : Int} {j : Nat} (hj : j < l.length) : (mkN j k ++ l.drop j).set j ⟨k + 5 * j, k + 5 * j + 1, k + 5 * j + 2, k + 5 * j + 3, k + 5 * j + 4⟩ = mkN (j + 1) k ++ l.drop (j + 1) := by
  rw [List.set_append_right _ _ (by rw [mkN_len]; omega), mkN_len, Nat.sub_self, mkN_succ]
  cases h : l.drop j with
  | nil => have := congrArg List.length h; simp at this; omega
  | cons x r =>
    have : l.drop (j + 1) = r := by rw [← List.drop_drop, h]; rfl
    rw [this]
    simp

theorem own_set5 {w : World} {base g c n k : Nat} {l : List Nd} (h : w.ownsRow base 69 5 (.slice (some ⟨g, 0, none⟩) n c) n (nds l)) (x : Nd) (hk : k < l.length) :
    (((((w.setCell ⟨g, k * 5, none⟩ (.int .i64 x.k)).setCell ⟨g, k * 5 + 1, none⟩ (.int .i64 x.a)).setCell ⟨g, k * 5 + 2, none⟩ (.int .i64 x.b)).setCell ⟨g, k * 5 + 3, none⟩ (.int .i64 x.n)).setCell ⟨g, k * 5 + 4, none⟩ (.int .i64 x.m)).ownsRow base 69 5 (.slice (some ⟨g, 0, none⟩) n c) n (nds (l.set k x)) := by
  rw [← nds_set x hk]
  exact (((((h.stored _ _).1.stored _ _).1.stored _ _).1.stored _ _).1.stored _ _).1
theorem grown_one {a w : World} {g : Nat} (h : a.grownBy w (some g)) (i : Nat) (u : Value) : a.grownBy (w.setCell ⟨g, i, none⟩ u) (some g) :=
  ⟨h.os, h.tape, h.output, by simpa [World.setCell] using h.size, fun j hj hne => (Below.heap_setCell w ⟨g, i, none⟩ u j (by rintro rfl; exact hne rfl)).trans (h.block j hj hne)⟩

set_option maxHeartbeats 3200000 in
theorem markNodeS_any (A : Option Addr) (c : Nat) (l : List Nd) (k : Int) (w : World) (base : Nat) (h : OwnN w base A c l) (hn : l.length ≤ 1048576) (hk0 : 0 ≤ k) (hk1 : k ≤ 16777216) :
    Calls Try.prog 44 #[.slice A l.length c, .int .i64 k] w fun e w' => e = .returned (.int .i64 (k + 5 * l.length)) ∧ OwnN w' base A c (mkN l.length k) ∧ w.grownBy w' (rowOf A) := by
  by_cases hl : 0 < l.length
  · obtain ⟨g, rfl, hbg, hgl⟩ := h.form hl
    obtain ⟨n, hnl⟩ : ∃ n : Nat, n = l.length := ⟨_, rfl⟩
    have H0 : Hid (w.ownsRow base 69 5 (.slice (some ⟨g, 0, none⟩) n c) n (nds l)) := by rw [hnl]; exact h
    have Hn := Lib.hid hnl
    rw [← hnl]
    have hn2 : n ≤ 1048576 := by omega
    clear h hnl hl hn
    go_enter Try.func44, Try.ntmps44
    go_wp2
    go_loopw [1, 5] (fun s i wr => ∃ j : Nat, j ≤ n ∧ i = .int .i64 j ∧ (∃ m : Int, m = k + 5 * j ∧ s = .int .i64 m) ∧ wr.ownsRow base 69 5 (.slice (some ⟨g, 0, none⟩) n c) n (nds (mkN j k ++ l.drop j)) ∧ w.grownBy wr (some g)) (fun _ i _ => n - (intOf i).toNat)
    case atStart => exact ⟨0, Nat.zero_le _, rfl, ⟨k, by simp, rfl⟩, by simpa [mkN] using H0.out, World.grownBy.refl _ _⟩
    case round =>
      obtain ⟨j, hj, rfl, ⟨m, hm, rfl⟩, ho, hg⟩ := hrel
      have hm0 : 0 ≤ m := by omega
      have hm1 : m ≤ 33554432 := by omega
      by_cases hlt : j < n
      · have hlen : (nds (mkN j k ++ l.drop j)).length = n * 5 := ho.1
        have cells : ∀ i, i < n * 5 → ∃ u, wr.cell? ⟨g, i, none⟩ = some u := fun i hi => by rw [ho.cellAt i hi]; exact get_of_lt _ (by omega)
        obtain ⟨u0, e0⟩ := cells (j * 5) (by omega)
        obtain ⟨u1, e1⟩ := cells (j * 5 + 1) (by omega)
        obtain ⟨u2, e2⟩ := cells (j * 5 + 2) (by omega)
        obtain ⟨u3, e3⟩ := cells (j * 5 + 3) (by omega)
        obtain ⟨u4, e4⟩ := cells (j * 5 + 4) (by omega)
        have f0 := ho.frozenAt (j * 5)
        have f1 := ho.frozenAt (j * 5 + 1)
        have f2 := ho.frozenAt (j * 5 + 2)
        have f3 := ho.frozenAt (j * 5 + 3)
        have f4 := ho.frozenAt (j * 5 + 4)
        have Ho := Lib.hid ho
        have Hg := Lib.hid hg
        have Hm := Lib.hid hm
        clear ho hg hm cells hlen
        go_wp2
        go_roundw
        case rel =>
          refine ⟨j + 1, by omega, by go_num, ⟨_, by rw [Hm.out]; omega, rfl⟩, ?_, grown_one (grown_one (grown_one (grown_one (grown_one Hg.out _ _) _ _) _ _) _ _) _ _⟩
          have hjl : j < l.length := by rw [← Hn.out]; exact hlt
          rw [← mark_step hjl]
          have := own_set5 Ho.out ⟨k + 5 * j, k + 5 * j + 1, k + 5 * j + 2, k + 5 * j + 3, k + 5 * j + 4⟩ (by rw [List.length_append, mkN_len, List.length_drop]; omega : j < _)
          simpa [Hm.out, Int.add_assoc] using this
        case measure => simp [intOf]; omega
      · obtain rfl : j = n := by omega
        have Ho : Hid (OwnN wr base (some ⟨g, 0, none⟩) c (mkN j k)) := by
          unfold OwnN
          rw [mkN_len]
          have : mkN j k ++ l.drop j = mkN j k := by rw [Hn.out]; simp
          rw [this] at ho
          exact ho
        have Hg := Lib.hid hg
        have Hm := Lib.hid hm
        clear ho hg hm
        go_wp2
        go_ret
        exact ⟨ret_int (by rw [Hm.out]), Ho.out, Hg.out⟩
  · have hl0 : l = [] := List.eq_nil_of_length_eq_zero (by omega)
    subst hl0
    have H0 := Lib.hid h
    clear h
    go_enter Try.func44, Try.ntmps44
    go_wp2
    refine wp_loop_rounds 1 ?_
    rw [rounds_succ]
    go_wp2
    go_ret
    exact ⟨by simp, by simpa [mkN] using H0.out, World.grownBy.refl _ _⟩

end Go.Proofs.Ytkjhncohanfciaa

/- A node is appended to a slice of nodes of the call's own: what is there afterwards, and where. -/
namespace Go.Proofs.Ytkjhncohanfciaa
open Go.RowKit

section
variable {P : Program} (w : World)
/-- An append lands in the old block or in the next new one. -/
theorem append_where {base : Nat} {t ty e : TypeId} {i : TypeInfo} {z : Value} {size bytes : Nat} (ht : P.underlying t = some (.slice e)) (hi : P.info? e = some i) (hz : i.zero = some z) (hsize : i.size = size) (hby : i.bytes = bytes)
    {v : Value} {n : Nat} {xs : List Value} (hown : w.ownsRow base e size v n xs) {a : Addr} {m c : Nat} {news : List Value} (hl : news.length = m * size) (hnews : ∀ j u, news[j]? = some u → w.cell? (a.add j) = some u) (h1 : ∀ u ∈ news, u.oneCell' = true)
    (hm : 0 < m) (h63 : n + m ≤ maxLen) (hbytes : (n + m) * bytes ≤ 140737488355328) {v' : Value} {w' : World} (hr : (Builtin.append_ #[t, t] ty #[v, .slice (some a) m c]).run P w = .ok v' w') :
    v'.ownBlock = v.ownBlock ∨ v'.ownBlock = some w.heap.size := by
  subst hsize
  subst hby
  have hs : n + m ≤ 9223372036854775807 := by simp only [maxLen] at h63; omega
  obtain ⟨hlen, ⟨rfl, rfl⟩ | ⟨g, cap, cur, rfl, _, hg, _, _, hcs, _⟩⟩ := hown
  · have hq := run_append_nil (P := P) w t ty e i z ht hi hz a m c news hl hnews hm (by omega) (by simp only [Nat.zero_add] at hbytes; omega)
    rw [hq] at hr
    injection hr with e1
    subst e1
    exact .inr rfl
  · by_cases hroom : n + m ≤ cap
    · have hq := run_append_room (P := P) w t ty e i ht hi g n cap cur hg a m c news hl hnews h1 hroom (by rw [hl, hcs, ← Nat.add_mul]; exact Nat.mul_le_mul_right _ hroom)
      rw [hq] at hr
      injection hr with e1
      subst e1
      exact .inl rfl
    · have hcells : ∀ j u, xs[j]? = some u → w.cell? ((⟨g, 0, none⟩ : Addr).add j) = some u :=
        World.ownsRow.cells (base := 0) (n := n) ⟨hlen, .inr ⟨g, cap, cur, rfl, Nat.zero_le _, hg, by assumption, by assumption, hcs, by assumption⟩⟩ rfl
      have hq := run_append_grow (P := P) w t ty e i z ht hi hz ⟨g, 0, none⟩ n cap xs hlen hcells a m c news hl hnews (by omega) (by omega) (growslice_fits (by omega) hbytes)
      rw [hq] at hr
      injection hr with e1
      subst e1
      exact .inr rfl
end

theorem five_at (w : World) (x : Nd) (t : TypeId) : ∀ (j : Nat) (u : Value), (nds [x])[j]? = some u → (w.alloc (.cells #[.int .i64 x.k, .int .i64 x.a, .int .i64 x.b, .int .i64 x.n, .int .i64 x.m] t)).cell? ((⟨w.heap.size, 0, none⟩ : Addr).add j) = some u := fun j u hj => by
  have h : Bk (w.alloc (.cells #[.int .i64 x.k, .int .i64 x.a, .int .i64 x.b, .int .i64 x.n, .int .i64 x.m] t)) w.heap.size t (nds [x]) := Bk.new w t (nds [x])
  rw [add_zero_row, h.cell]
  exact hj

/-- What is left by an append of a node. -/
structure Appd (W w' : World) (base : Nat) (A A' : Option Addr) (c' : Nat) (l : List Nd) : Prop where
  own : OwnN w' base A' c' l
  grown : W.grownBy w' (rowOf A)
  at_ : rowOf A' = rowOf A ∨ rowOf A' = some W.heap.size

theorem wpList_append_node {ops : Array Oper} {rest : List Oper} {o : Oper} {a : Act} {Q : Exit → Act → World → Prop} {w : World} (hgd : o.guard = none) (s y : Operand)
    (ho : o.op = .call { callee := .builtin .append, args := #[s, y], argTypes := #[30, 30] }) (base : Nat) (A : Option Addr) (c : Nat) (l : List Nd) (x : Nd) (n : Nat) (hnl : l.length = n) (hs : a.eval s = .slice A n c) (hown : OwnN w base A c l)
    (g : Nat) (hx : a.eval y = .slice (some ⟨g, 0, none⟩) 1 1) (hg : g = w.heap.size) (hn : n ≤ 1048576) (hb : base ≤ w.heap.size)
    (h : ∀ (A' : Option Addr) (c' : Nat) (w' : World), Appd (w.alloc (.cells #[.int .i64 x.k, .int .i64 x.a, .int .i64 x.b, .int .i64 x.n, .int .i64 x.m] 69)) w' base A A' c' (l ++ [x]) → wpList Try.prog ops Q rest (a.put o.dst (.slice A' (n + 1) c')) w') :
    wpList Try.prog ops Q (o :: rest) a (w.alloc (.cells #[.int .i64 x.k, .int .i64 x.a, .int .i64 x.b, .int .i64 x.n, .int .i64 x.m] 69)) := by
  subst hg
  subst hnl
  obtain ⟨i, hi, hz0, hz1, hz2⟩ := info_parts Try.infoNode
  have hown2 := hown.below ((Below.refl w.heap.size w).alloc (Nat.le_refl _) (.cells #[.int .i64 x.k, .int .i64 x.a, .int .i64 x.b, .int .i64 x.n, .int .i64 x.m] 69)) (Nat.le_refl _)
  have hfive := five_at w x 69
  have hone : ∀ u ∈ nds [x], u.oneCell' = true := by
    intro u hu
    simp [nds] at hu
    rcases hu with rfl | rfl | rfl | rfl | rfl <;> rfl
  refine wpList_plain hgd fun K hK => ?_
  obtain ⟨v', w', hr, h2, h3, _⟩ := run_append_own (P := Try.prog) (w.alloc (.cells #[.int .i64 x.k, .int .i64 x.a, .int .i64 x.b, .int .i64 x.n, .int .i64 x.m] 69)) base 30 o.type 69 i _ 5 40 Try.underlying30 hi hz0 hz1 hz2 rfl (by decide)
    (.slice A l.length c) l.length (nds l) hown2 ⟨w.heap.size, 0, none⟩ 1 1 (nds [x]) rfl hfive hone (by unfold maxLen; omega) (by omega) (by simp; omega)
  have hw := append_where (w.alloc (.cells #[.int .i64 x.k, .int .i64 x.a, .int .i64 x.b, .int .i64 x.n, .int .i64 x.m] 69)) Try.underlying30 hi hz0 hz1 hz2 hown2 (news := nds [x]) (m := 1) rfl hfive hone (by decide) (by unfold maxLen; omega) (by omega) hr
  have hv : ∃ A' c', v' = .slice A' (l.length + 1) c' := by
    obtain ⟨_, ⟨_, h0⟩ | ⟨g, cap, cur, hv, _⟩⟩ := h2
    · omega
    · exact ⟨_, _, hv⟩
  obtain ⟨A', c', rfl⟩ := hv
  unfold Oper.wp execOp
  simp only [ho, resolve, invoke, builtin, Sem.run_bind, Sem.run_pure, Result.andThen_ok, List.map_toArray, List.map_cons, List.map_nil, hs, hx, hr]
  refine hK _ _ (h A' c' w' ⟨?_, by rw [← ownBlock_slice A l.length c]; exact h3, by simpa only [ownBlock_slice] using hw⟩)
  unfold OwnN
  rw [List.length_append, nds_append]
  exact h2

end Go.Proofs.Ytkjhncohanfciaa
