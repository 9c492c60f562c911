/- Texts on the program and its reference, put together (Math, Mem, SrcA, NodeA, NodeM, NodeB, Own, AppN, PipeM, PipeP, Tree, Post, Nums, Kinds, Kids, PipeV, PipeS, TreeV, TreeD, Depth, Add, Ord, Clone, Put). -/
import Derived.WalkKit
import Derived.Deep.OwnRows
import Derived.Deep.Draws
import Derived.Laws.Rows
import Derived.Test.YtnmekcifbmcdpaaProg
import Derived.WalkLawsBesides
import Derived.WalkSpells
import Derived.LoopTactic
import Derived.Lib.Hide
import Derived.Deep.QuietTactic
import Derived.BigQuiet
import Derived.Laws.MakeOwn
import Derived.Laws.OwnMore
import Derived.OwnWalk
import Derived.Laws.AppendOwn
import Derived.Deep.DeepMust
import Derived.Deep.RegionWith
import Derived.Lib.QuietBelow
import Derived.RegionTactic
import Derived.ChangeAlike
import Derived.BigRegion
import Derived.Deep.RegionHeld3
import Derived.Deep.AppendLies
/- Plain mathematics of lists and numbers that the walks over the program need; no program is named here. -/
namespace Go.Proofs.Ytnmekcifbmcdpaa

/-- A node: its kind, the nodes below it, its numbers. -/
structure Nd where
  k : Int
  a : Int
  b : Int
  n : Int
  m : Int
deriving DecidableEq

theorem Nd.ext_ {x y : Nd} (h1 : x.k = y.k) (h2 : x.a = y.a) (h3 : x.b = y.b) (h4 : x.n = y.n) (h5 : x.m = y.m) : x = y := by
  cases x; cases y; simp at h1 h2 h3 h4 h5; simp [h1, h2, h3, h4, h5]
/-- Whether two nodes are equal. -/
def ndEq (x y : Nd) : Bool := decide (x = y)
theorem ndEq_no {x y : Nd} (h : (x.k != y.k) = true ∨ (x.a != y.a) = true ∨ (x.b != y.b) = true ∨ (x.n != y.n) = true ∨ (x.m != y.m) = true) : ndEq x y = false := by
  unfold ndEq
  apply decide_eq_false
  intro e
  subst e
  simp at h
theorem ndEq_yes {x y : Nd} (h1 : (x.k != y.k) = false) (h2 : (x.a != y.a) = false) (h3 : (x.b != y.b) = false) (h4 : (x.n != y.n) = false) (h5 : (x.m != y.m) = false) : ndEq x y = true := by
  unfold ndEq
  apply decide_eq_true
  simp at h1 h2 h3 h4 h5
  exact Nd.ext_ h1 h2 h3 h4 h5

theorem ndEq_ne {x y : Nd} (h : ndEq x y = false) : x ≠ y := of_decide_eq_false h
theorem ndEq_eq {x y : Nd} (h : ndEq x y = true) : x = y := of_decide_eq_true h

/-- n lies in lo..hi. -/
def inR (n lo hi : Int) : Bool := decide (lo ≤ n) && decide (n ≤ hi)
theorem inR_yes {n lo hi : Int} (h : lo ≤ n) (h' : n ≤ hi) : inR n lo hi = true := by simp [inR, h, h']
theorem inR_no {n lo hi : Int} (h : n < lo ∨ hi < n) : inR n lo hi = false := by
  unfold inR
  rcases h with h | h
  · simp; intro; omega
  · simp; intro; omega
theorem inR_iff {n lo hi : Int} : inR n lo hi = true ↔ lo ≤ n ∧ n ≤ hi := by simp [inR]

/-- How many nodes are below one of a kind; -1 for other kinds. -/
def arity (k : Int) : Int :=
  if k == 0 then 0 else if k == 7 || k == 8 || k == 9 || k == 10 then 2 else
  if k == 1 || k == 2 || k == 3 || k == 4 || k == 5 || k == 6 || k == 11 || k == 12 || k == 13 then 1 else -1
/-- Whether there is such a kind. -/
def known (k : Int) : Bool := k == 0 || k == 1 || k == 2 || k == 3 || k == 4 || k == 5 || k == 6 || k == 7 || k == 8 || k == 9 || k == 10 || k == 11 || k == 12 || k == 13
/-- Whether the numbers of a node are those of its kind. -/
def numsOk (x : Nd) : Bool :=
  if x.k == 0 then inR x.n 0 2 && (x.m == 0) else
  if x.k == 1 then inR x.n 0 99 && inR x.m 0 99 else
  if x.k == 2 then inR x.n 1 30 && inR x.m 0 (x.n - 1) else
  if x.k == 3 || x.k == 4 then inR x.n 0 30 && (x.m == 0) else
  if x.k == 5 || x.k == 6 then inR x.n 0 99 && (x.m == 0) else
  if x.k == 12 then inR x.n 1 30 && (x.m == 0) else
  (x.n == 0) && (x.m == 0)
/-- Whether the node i has as many earlier ones below as its kind. -/
def kidsOk (x : Nd) (i : Int) : Bool :=
  if arity x.k == 0 then (x.a == -1) && (x.b == -1) else
  if arity x.k == 1 then inR x.a 0 (i - 1) && (x.b == -1) else
  if arity x.k == 2 then inR x.a 0 (i - 1) && inR x.b 0 (i - 1) && (x.a != x.b) else false

/-- All numbers of a list lie in lo..hi. -/
def allB (l : List Int) (lo hi : Int) : Bool := l.all (fun x => inR x lo hi)

theorem take_succ_of {α : Type} {l : List α} {k : Nat} {x : α} (h : l[k]? = some x) : l.take (k + 1) = l.take k ++ [x] := by
  rw [List.take_add_one, h]; rfl
theorem all_take_succ {α : Type} {l : List α} {k : Nat} {x : α} {p : α → Bool} (h : l[k]? = some x) (hp : p x = true) (hk : (l.take k).all p = true) : (l.take (k + 1)).all p = true := by
  rw [take_succ_of h, List.all_append, hk]; simp [hp]
theorem all_false_of {α : Type} {l : List α} {k : Nat} {x : α} {p : α → Bool} (h : l[k]? = some x) (hp : p x = false) : l.all p = false := by
  rw [List.all_eq_false]
  exact ⟨x, List.mem_of_getElem? h, by simp [hp]⟩
theorem all_of_take {α : Type} {l : List α} {k : Nat} {p : α → Bool} (hk : l.length ≤ k) (h : (l.take k).all p = true) : l.all p = true := by
  rwa [List.take_of_length_le hk] at h
theorem get_of_lt {α : Type} (l : List α) {k : Nat} (h : k < l.length) : ∃ x, l[k]? = some x := ⟨l[k], List.getElem?_eq_getElem h⟩

theorem take_eq_succ {α : Type} {l m : List α} {k : Nat} {x : α} (h : l.take k = m.take k) (hx : l[k]? = some x) (hy : m[k]? = some x) : l.take (k + 1) = m.take (k + 1) := by
  rw [take_succ_of hx, take_succ_of hy, h]
theorem ne_of_get {α : Type} {l m : List α} {k : Nat} {x y : α} (hx : l[k]? = some x) (hy : m[k]? = some y) (h : x ≠ y) : l ≠ m := by
  intro e; subst e; rw [hx] at hy; exact h (Option.some.inj hy)
theorem eq_of_take {α : Type} {l m : List α} {k : Nat} (hl : l.length ≤ k) (hm : m.length ≤ k) (h : l.take k = m.take k) : l = m := by
  rwa [List.take_of_length_le hl, List.take_of_length_le hm] at h
/-- All numbers of all rows, and the rows, counted. -/
def bulk (rows : List (List Int)) : Nat := rows.length + (rows.map List.length).sum
theorem sum_take_succ {rows : List (List Int)} {k : Nat} {r : List Int} (h : rows[k]? = some r) : ((rows.take (k + 1)).map List.length).sum = ((rows.take k).map List.length).sum + r.length := by
  rw [take_succ_of h]; simp
theorem sum_take_le (rows : List (List Int)) (k : Nat) : ((rows.take k).map List.length).sum ≤ (rows.map List.length).sum := by
  have h : (rows.map List.length).sum = ((rows.take k).map List.length).sum + ((rows.drop k).map List.length).sum := by
    rw [← List.sum_append, ← List.map_append, List.take_append_drop]
  omega
theorem len_le_bulk {rows : List (List Int)} {r : List Int} (h : r ∈ rows) : r.length ≤ (rows.map List.length).sum := by
  obtain ⟨k, hk⟩ := List.getElem?_of_mem h
  have h1 := sum_take_succ hk
  have h2 := sum_take_le rows (k + 1)
  omega

theorem fill_set {α : Type} (ys : List α) (z u : α) {k n : Nat} (hy : ys.length = k) (hk : k < n) : (ys ++ List.replicate (n - k) z).set k u = (ys ++ [u]) ++ List.replicate (n - (k + 1)) z := by
  have e : n - k = (n - (k + 1)) + 1 := by omega
  rw [e, List.replicate_succ, List.set_append_right _ _ (by omega), hy, Nat.sub_self, List.set_cons_zero]
  simp
theorem zip_snoc {α β γ : Type} (f : α → β → γ) (xs : List α) (ys : List β) {k : Nat} {x : α} {y : β} (hx : xs.length = k) (hy : ys[k]? = some y) : List.zipWith f (xs ++ [x]) ys = List.zipWith f xs ys ++ [f x y] := by
  have h : k < ys.length := (List.getElem?_eq_some_iff.1 hy).1
  apply List.ext_getElem?
  intro i
  by_cases hi : i < k
  · rw [List.getElem?_append_left (by simp; omega), List.getElem?_zipWith, List.getElem?_zipWith, List.getElem?_append_left (by omega)]
  · by_cases hik : i = k
    · subst hik
      rw [List.getElem?_append_right (by simp; omega), List.getElem?_zipWith, List.getElem?_append_right (by omega)]
      have e : i - (List.zipWith f xs ys).length = 0 := by simp; omega
      rw [e, hx, Nat.sub_self, hy]
      rfl
    · rw [List.getElem?_eq_none (by simp; omega), List.getElem?_eq_none (by simp; omega)]

/-- What is left of a bound when n is taken off; -1 if it does not suffice. -/
def szLeft (left n : Int) : Int := if left < n then -1 else left - n
theorem szLeft_no {left n : Int} (h : left < n) : szLeft left n = -1 := if_pos h
theorem szLeft_yes {left n : Int} (h : ¬ left < n) : szLeft left n = left - n := if_neg h

theorem beq_three (n : Nat) : ((n : Int) == 3) = decide (n = 3) := by
  rw [Bool.eq_iff_iff]; simp; omega

/-- A list that can be a source's. -/
def rowOk (r : List Int) : Bool := decide (r.length ≤ 12) && allB r 0 99
/-- Lists that are sources. -/
def srcOk (rows : List (List Int)) : Bool := rows.all rowOk && decide (rows.length = 3)

end Go.Proofs.Ytnmekcifbmcdpaa

/- What a slice of numbers, and a slice of such slices, reads as in a world; a block that is known whole; how these are kept over what a call does to memory. -/
namespace Go.Proofs.Ytnmekcifbmcdpaa
open Go.RowKit

theorem add_block (a : Addr) (n : Nat) : (a.add n).block = a.block := by unfold Addr.add; split <;> rfl
theorem add_zero_row (g k : Nat) : (⟨g, 0, none⟩ : Addr).add k = ⟨g, k, none⟩ := by
  unfold Addr.add
  split
  · rename_i h; subst h; rfl
  · simp

/-- One world is another one but for draws. -/
def Same (w w' : World) : Prop := ∃ n, w' = w.drewN n
theorem Same.refl (w : World) : Same w w := ⟨0, rfl⟩
theorem Same.drewN {w w' : World} (h : Same w w') (n : Nat) : Same w (w'.drewN n) := by
  obtain ⟨m, rfl⟩ := h
  exact ⟨m + n, World.drewN_drewN ..⟩
theorem Same.trans {a b c : World} (h : Same a b) (k : Same b c) : Same a c := by
  obtain ⟨n, rfl⟩ := k
  exact h.drewN n
theorem Same.below {w w' : World} (h : Same w w') (B : Nat) : Below B w w' := by
  obtain ⟨m, rfl⟩ := h
  exact ⟨rfl, rfl, rfl, Nat.le_refl _, fun _ _ => rfl⟩
theorem Same.heap {w w' : World} (h : Same w w') : w'.heap = w.heap := by
  obtain ⟨m, rfl⟩ := h
  rfl

theorem below_step {w wr w1 : World} (h : Below w.heap.size w wr) (hb : Below wr.heap.size wr.drew w1) : Below w.heap.size w w1 := h.drew.trans (hb.mono h.size)

/-- The slice at A reads as the numbers l, below block B. -/
def RdI (w : World) (B : Nat) (A : Option Addr) (l : List Int) : Prop :=
  0 < l.length → ∃ ad, A = some ad ∧ ad.block < B ∧ ∀ (k : Nat) (x : Int), l[k]? = some x → w.cell? (ad.add k) = some (.int .i64 x)

section
variable {w w' : World} {B B' : Nat} {A : Option Addr} {l : List Int}
theorem RdI.at_ (h : RdI w B A l) {k : Nat} (hk : k < l.length) : ∃ ad x, A = some ad ∧ l[k]? = some x ∧ w.cell? (ad.add k) = some (.int .i64 x) := by
  obtain ⟨ad, e, _, hc⟩ := h (by omega)
  obtain ⟨x, hx⟩ := get_of_lt l hk
  exact ⟨ad, x, e, hx, hc k x hx⟩
theorem RdI.keep (h : RdI w B A l) (hk : ∀ p : Addr, p.block < B → w'.cell? p = w.cell? p) : RdI w' B A l := fun hn => by
  obtain ⟨ad, e, hb, hc⟩ := h hn
  exact ⟨ad, e, hb, fun k x hx => (hk _ (by rw [add_block]; exact hb)).trans (hc k x hx)⟩
theorem RdI.more (h : RdI w B A l) (hB : B ≤ B') : RdI w B' A l := fun hn => by
  obtain ⟨ad, e, hb, hc⟩ := h hn
  exact ⟨ad, e, by omega, hc⟩
theorem RdI.below {C : Nat} (h : RdI w B A l) (hb : Below C w w') (hC : B ≤ C) : RdI w' B A l := h.keep fun _ hp => hb.cell (by omega)
theorem RdI.same (h : RdI w B A l) (s : Same w w') : RdI w' B A l := h.below (s.below B) (Nat.le_refl _)
theorem RdI.drewN (h : RdI w B A l) (n : Nat) : RdI (w.drewN n) B A l := h
end

/-- The slice at A reads as the rows, below block B. -/
def RdR (w : World) (B : Nat) (A : Option Addr) (rows : List (List Int)) : Prop :=
  0 < rows.length → ∃ ad, A = some ad ∧ ad.block < B ∧ ∀ (k : Nat) (r : List Int), rows[k]? = some r → ∃ Ar cr, w.cell? (ad.add k) = some (.slice Ar r.length cr) ∧ RdI w B Ar r

section
variable {w w' : World} {B B' : Nat} {A : Option Addr} {rows : List (List Int)}
theorem RdR.at_ (h : RdR w B A rows) {k : Nat} (hk : k < rows.length) :
    ∃ ad r Ar cr, A = some ad ∧ rows[k]? = some r ∧ w.cell? (ad.add k) = some (.slice Ar r.length cr) ∧ RdI w B Ar r := by
  obtain ⟨ad, e, _, hc⟩ := h (by omega)
  obtain ⟨r, hr⟩ := get_of_lt rows hk
  obtain ⟨Ar, cr, h1, h2⟩ := hc k r hr
  exact ⟨ad, r, Ar, cr, e, hr, h1, h2⟩
theorem RdR.keep (h : RdR w B A rows) (hk : ∀ p : Addr, p.block < B → w'.cell? p = w.cell? p) : RdR w' B A rows := fun hn => by
  obtain ⟨ad, e, hb, hc⟩ := h hn
  refine ⟨ad, e, hb, fun k r hr => ?_⟩
  obtain ⟨Ar, cr, h1, h2⟩ := hc k r hr
  exact ⟨Ar, cr, (hk _ (by rw [add_block]; exact hb)).trans h1, h2.keep hk⟩
theorem RdR.below {C : Nat} (h : RdR w B A rows) (hb : Below C w w') (hC : B ≤ C) : RdR w' B A rows := h.keep fun _ hp => hb.cell (by omega)
theorem RdR.same (h : RdR w B A rows) (s : Same w w') : RdR w' B A rows := h.below (s.below B) (Nat.le_refl _)
theorem RdR.drewN (h : RdR w B A rows) (n : Nat) : RdR (w.drewN n) B A rows := h
theorem RdR.more (h : RdR w B A rows) (hB : B ≤ B') : RdR w B' A rows := fun hn => by
  obtain ⟨ad, e, hb, hc⟩ := h hn
  refine ⟨ad, e, by omega, fun k r hr => ?_⟩
  obtain ⟨Ar, cr, h1, h2⟩ := hc k r hr
  exact ⟨Ar, cr, h1, h2.more hB⟩
end

/-- Block g is just these cells, none of them frozen. -/
def Bk (w : World) (g : Nat) (t : TypeId) (cs : List Value) : Prop := w.heap[g]? = some (.cells cs.toArray t (0, 0))

section
variable {w w' : World} {g : Nat} {t : TypeId} {cs : List Value}
theorem Bk.lt (h : Bk w g t cs) : g < w.heap.size := lt_of_block h
theorem Bk.cell (h : Bk w g t cs) (i : Nat) : w.cell? ⟨g, i, none⟩ = cs[i]? := by
  rw [cell_of_row w g i cs.toArray t (0, 0) h]; simp
theorem Bk.free (h : Bk w g t cs) (i : Nat) : w.frozen? ⟨g, i, none⟩ = false := frozen_of_row w g i cs.toArray t h
theorem Bk.new (w : World) (t : TypeId) (cs : List Value) : Bk (w.alloc (.cells cs.toArray t)) w.heap.size t cs := heap_alloc_new w _
theorem Bk.drewN (h : Bk w g t cs) (n : Nat) : Bk (w.drewN n) g t cs := h
theorem Bk.alloc (h : Bk w g t cs) (o : Obj) : Bk (w.alloc o) g t cs := (Below.heap_alloc w o g h.lt).trans h
theorem Bk.far (h : Bk w g t cs) {p : Addr} (hp : g ≠ p.block) (u : Value) : Bk (w.setCell p u) g t cs := (Below.heap_setCell w p u g hp).trans h
theorem Bk.set_ (h : Bk w g t cs) (i : Nat) (u : Value) : Bk (w.setCell ⟨g, i, none⟩ u) g t (cs.set i u) := by
  unfold Bk at h ⊢
  simp [World.setCell, Array.getElem?_modify, h]
theorem Bk.below {C : Nat} (h : Bk w g t cs) (hb : Below C w w') (hg : g < C) : Bk w' g t cs := (hb.block g hg).trans h
theorem Bk.type_ {t' : TypeId} {cs' : List Value} (h : Bk w g t cs) (h' : Bk w g t' cs') : t = t' := by
  unfold Bk at h h'
  rw [h] at h'
  simp at h'
  exact h'.2
end

/-- The cells of a list of numbers. -/
def ints (l : List Int) : List Value := l.map (Value.int .i64)
theorem ints_get (l : List Int) (k : Nat) : (ints l)[k]? = l[k]?.map (Value.int .i64) := by simp [ints]

theorem Bk.rd {w : World} {g B : Nat} {l : List Int} {t : TypeId} (h : Bk w g t (ints l)) (hB : g < B) : RdI w B (some ⟨g, 0, none⟩) l := fun _ => by
  refine ⟨_, rfl, hB, fun k x hx => ?_⟩
  rw [add_zero_row, h.cell, ints_get, hx]; rfl

/-- A copy of the rows in the call's own memory: block g the slices, one block a row, in ascending order. -/
structure OwnR (w : World) (t1 t2 : TypeId) (base g : Nat) (gs : List Nat) (rows : List (List Int)) : Prop where
  base_ : base ≤ g
  len : gs.length = rows.length
  up : ∀ x ∈ gs, g < x
  asc : gs.Pairwise (· < ·)
  top : Bk w g t1 (List.zipWith (fun x (r : List Int) => Value.slice (some ⟨x, 0, none⟩) r.length r.length) gs rows)
  row : ∀ (j x : Nat) (r : List Int), gs[j]? = some x → rows[j]? = some r → Bk w x t2 (ints r)

section
variable {w w' : World} {t1 t2 : TypeId} {base g : Nat} {gs : List Nat} {rows : List (List Int)}
theorem OwnR.get_ (h : OwnR w t1 t2 base g gs rows) {j x : Nat} (hj : gs[j]? = some x) : ∃ r, rows[j]? = some r := by
  have h1 : j < gs.length := (List.getElem?_eq_some_iff.1 hj).1
  exact get_of_lt rows (by rw [← h.len]; exact h1)
theorem OwnR.lt_ (h : OwnR w t1 t2 base g gs rows) : ∀ x ∈ gs, x < w.heap.size := fun x hx => by
  obtain ⟨j, hj⟩ := List.getElem?_of_mem hx
  obtain ⟨r, hr⟩ := h.get_ hj
  exact (h.row j x r hj hr).lt
theorem OwnR.below {C : Nat} (h : OwnR w t1 t2 base g gs rows) (hb : Below C w w') (hC : w.heap.size ≤ C) : OwnR w' t1 t2 base g gs rows :=
  ⟨h.base_, h.len, h.up, h.asc, h.top.below hb (by have := h.top.lt; omega), fun j x r hj hr => (h.row j x r hj hr).below hb (by have := (h.row j x r hj hr).lt; omega)⟩
theorem OwnR.drewN (h : OwnR w t1 t2 base g gs rows) (n : Nat) : OwnR (w.drewN n) t1 t2 base g gs rows := ⟨h.base_, h.len, h.up, h.asc, h.top, h.row⟩
theorem OwnR.rd {B : Nat} (h : OwnR w t1 t2 base g gs rows) (hB : w.heap.size ≤ B) : RdR w B (some ⟨g, 0, none⟩) rows := fun _ => by
  refine ⟨_, rfl, by have := h.top.lt; show g < B; omega, fun k r hr => ?_⟩
  have h1 : k < rows.length := (List.getElem?_eq_some_iff.1 hr).1
  obtain ⟨x, hx⟩ := get_of_lt gs (k := k) (by rw [h.len]; exact h1)
  have hb := h.row k x r hx hr
  exact ⟨some ⟨x, 0, none⟩, r.length, by rw [add_zero_row, h.top.cell]; simp [List.getElem?_zipWith, hx, hr], hb.rd (by have := hb.lt; omega)⟩
end

/-- .. while it is being made: the rows of gs are there, the others still nil. -/
structure PartR (w : World) (t1 t2 : TypeId) (g : Nat) (gs : List Nat) (rows : List (List Int)) : Prop where
  up : ∀ x ∈ gs, g < x
  asc : gs.Pairwise (· < ·)
  top : Bk w g t1 (List.zipWith (fun x (r : List Int) => Value.slice (some ⟨x, 0, none⟩) r.length r.length) gs rows ++ List.replicate (rows.length - gs.length) (.slice none 0 0))
  row : ∀ (j x : Nat) (r : List Int), gs[j]? = some x → rows[j]? = some r → Bk w x t2 (ints r)

section
variable {w w1 : World} {t1 t2 : TypeId} {g : Nat} {gs : List Nat} {rows : List (List Int)}
theorem PartR.start (h : Bk w g t1 (List.replicate rows.length (.slice none 0 0))) : PartR w t1 t2 g [] rows :=
  ⟨fun _ hx => absurd hx (by simp), List.Pairwise.nil, by simpa using h, fun _ _ _ hj => absurd hj (by simp)⟩
theorem PartR.lt_ (h : PartR w t1 t2 g gs rows) (hle : gs.length ≤ rows.length) : ∀ x ∈ gs, x < w.heap.size := fun x hx => by
  obtain ⟨j, hj⟩ := List.getElem?_of_mem hx
  have h1 : j < gs.length := (List.getElem?_eq_some_iff.1 hj).1
  obtain ⟨r, hr⟩ := get_of_lt rows (k := j) (by omega)
  exact (h.row j x r hj hr).lt
theorem PartR.step (h : PartR w t1 t2 g gs rows) {r : List Int} (hr : rows[gs.length]? = some r) (hb : Below w.heap.size w w1) (hn : Bk w1 w.heap.size t2 (ints r)) :
    PartR (w1.setCell ⟨g, gs.length, none⟩ (.slice (some ⟨w.heap.size, 0, none⟩) r.length r.length)) t1 t2 g (gs ++ [w.heap.size]) rows := by
  have hk : gs.length < rows.length := (List.getElem?_eq_some_iff.1 hr).1
  have hlt := h.lt_ (by omega)
  have hg := h.top.lt
  refine ⟨fun x hx => ?_, List.pairwise_append.2 ⟨h.asc, List.pairwise_singleton _ _, fun a ha b hb => ?_⟩, ?_, fun j x r' hj hr' => ?_⟩
  · rcases List.mem_append.1 hx with hx | hx
    · exact h.up x hx
    · rw [List.mem_singleton.1 hx]; exact hg
  · rw [List.mem_singleton.1 hb]; exact hlt a ha
  · have h2 := (h.top.below hb hg).set_ gs.length (.slice (some ⟨w.heap.size, 0, none⟩) r.length r.length)
    rw [fill_set _ _ _ (by simp; omega) hk] at h2
    rw [zip_snoc _ _ _ rfl hr]
    simpa using h2
  · have hne : x ≠ g := by
      intro e
      subst e
      rcases List.mem_append.1 (List.mem_of_getElem? hj) with hx | hx
      · exact absurd (h.up x hx) (Nat.lt_irrefl _)
      · rw [List.mem_singleton.1 hx] at hg; exact absurd hg (Nat.lt_irrefl _)
    refine Bk.far ?_ (by exact hne) _
    by_cases hjl : j < gs.length
    · rw [List.getElem?_append_left hjl] at hj
      exact (h.row j x r' hj hr').below hb (hlt x (List.mem_of_getElem? hj))
    · have hj1 : j < (gs ++ [w.heap.size]).length := (List.getElem?_eq_some_iff.1 hj).1
      have e : j = gs.length := by simp at hj1; omega
      subst e
      rw [hr] at hr'
      obtain rfl := Option.some.inj hr'
      rw [List.getElem?_append_right (Nat.le_refl _), Nat.sub_self] at hj
      simp at hj
      rw [← hj]
      exact hn
theorem PartR.old (h : PartR w t1 t2 g gs rows) (hk : gs.length < rows.length) : w.cell? ⟨g, gs.length, none⟩ = some (.slice none 0 0) := by
  rw [h.top.cell, List.getElem?_append_right (by simp; omega)]
  have e : gs.length - (List.zipWith (fun x (r : List Int) => Value.slice (some ⟨x, 0, none⟩) r.length r.length) gs rows).length = 0 := by simp; omega
  rw [e, List.getElem?_replicate, if_pos (by omega)]
theorem PartR.done {base : Nat} (h : PartR w t1 t2 g gs rows) (hl : gs.length = rows.length) (hb : base ≤ g) : OwnR w t1 t2 base g gs rows :=
  ⟨hb, hl, h.up, h.asc, by simpa [hl] using h.top, h.row⟩
end

end Go.Proofs.Ytnmekcifbmcdpaa

/- Contracts of the functions that look at lists of numbers: each returns what the plain function gives, and leaves the world as it was. -/
namespace Go.Proofs.Ytnmekcifbmcdpaa
open Go.RowKit

theorem ret_bool {a b : Bool} (h : a = b) : Ending.returned (.bool a) = .returned (.bool b) := by rw [h]
theorem ret_int {k : IntKind} {a b : Int} (h : a = b) : Ending.returned (.int k a) = .returned (.int k b) := by rw [h]

set_option maxHeartbeats 400000 in
theorem szIntS_any (A : Option Addr) (n c : Nat) (left : Int) (w : World) (h0 : 0 ≤ left) (h1 : left ≤ 1048576) (hn : n ≤ maxLen) :
    Calls Try.prog 56 #[.slice A n c, .int .i64 left] w fun e w' => e = .returned (.int .i64 (szLeft left n)) ∧ w = w' := by
  unfold maxLen at hn
  by_cases h : left < n
  · rw [szLeft_no h]
    go_enter Try.func56, Try.ntmps56
    go_wp2
    go_ret
    exact ⟨rfl, rfl⟩
  · rw [szLeft_yes h]
    go_enter Try.func56, Try.ntmps56
    go_wp2
    go_ret
    exact ⟨rfl, rfl⟩

theorem specInR_any (n lo hi : Int) (w : World) :
    Calls Try.prog 92 #[.int .i64 n, .int .i64 lo, .int .i64 hi] w fun e w' => e = .returned (.bool (inR n lo hi)) ∧ w = w' := by
  by_cases h1 : lo ≤ n
  · by_cases h2 : n ≤ hi
    · rw [inR_yes h1 h2]
      go_enter Try.func92, Try.ntmps92
      go_wp2
      go_ret
      exact ⟨rfl, rfl⟩
    · rw [inR_no (.inr (by omega))]
      go_enter Try.func92, Try.ntmps92
      go_wp2
      go_ret
      exact ⟨rfl, rfl⟩
  · rw [inR_no (.inl (by omega))]
    go_enter Try.func92, Try.ntmps92
    go_wp2
    go_ret
    exact ⟨rfl, rfl⟩

theorem within_any (n lo hi : Int) (w : World) :
    Calls Try.prog 82 #[.int .i64 n, .int .i64 lo, .int .i64 hi] w fun e w' => e = .returned (.bool (inR n lo hi)) ∧ w = w' := by
  by_cases h1 : lo ≤ n
  · by_cases h2 : n ≤ hi
    · rw [inR_yes h1 h2]
      go_enter Try.func82, Try.ntmps82
      go_wp2
      go_ret
      exact ⟨rfl, rfl⟩
    · rw [inR_no (.inr (by omega))]
      go_enter Try.func82, Try.ntmps82
      go_wp2
      go_ret
      exact ⟨rfl, rfl⟩
  · rw [inR_no (.inl (by omega))]
    go_enter Try.func82, Try.ntmps82
    go_wp2
    go_ret
    exact ⟨rfl, rfl⟩

set_option maxHeartbeats 400000 in
theorem allIn_any (A : Option Addr) (c : Nat) (l : List Int) (lo hi : Int) (w : World) (B : Nat) (h : RdI w B A l) (hn : l.length ≤ 1048576) :
    Calls Try.prog 102 #[.slice A l.length c, .int .i64 lo, .int .i64 hi] w fun e w' => e = .returned (.bool (allB l lo hi)) ∧ w = w' := by
  go_enter Try.func102, Try.ntmps102
  go_wp2
  go_loop [7] (fun i => ∃ k : Nat, k ≤ l.length ∧ i = .int .i64 k ∧ (l.take k).all (fun x => inR x lo hi) = true) (fun i => l.length - (intOf i).toNat)
  case atStart => exact ⟨0, Nat.zero_le _, rfl, by simp⟩
  case round =>
    obtain ⟨k, hk, rfl, hall⟩ := hrel
    have Hall := Lib.hid hall
    clear hall
    by_cases hlt : k < l.length
    · obtain ⟨ad, x, rfl, hx, hc⟩ := h.at_ hlt
      have Hx := Lib.hid hx
      clear hx h
      cases hin : inR x lo hi
      · have Hin := Lib.hid hin
        clear hin
        go_wp2_with (go_at_call 92; refine (specInR_any _ _ _ _).mono ?_; rintro e w' ⟨rfl, rfl⟩; rw [Hin.out])
        go_ret
        exact ⟨ret_bool (all_false_of Hx.out Hin.out).symm, rfl⟩
      · have Hin := Lib.hid hin
        clear hin
        go_wp2_with (go_at_call 92; refine (specInR_any _ _ _ _).mono ?_; rintro e w' ⟨rfl, rfl⟩; rw [Hin.out])
        go_round
        case rel => exact ⟨k + 1, by omega, by go_num, all_take_succ Hx.out Hin.out Hall.out⟩
        case measure => simp [intOf]; omega
    · go_wp2
      go_ret
      exact ⟨ret_bool (all_of_take (by omega) Hall.out).symm, rfl⟩

set_option maxHeartbeats 400000 in
theorem allWithin_any (A : Option Addr) (c : Nat) (l : List Int) (lo hi : Int) (w : World) (B : Nat) (h : RdI w B A l) (hn : l.length ≤ 1048576) :
    Calls Try.prog 114 #[.slice A l.length c, .int .i64 lo, .int .i64 hi] w fun e w' => e = .returned (.bool (allB l lo hi)) ∧ w = w' := by
  go_enter Try.func114, Try.ntmps114
  go_wp2
  go_loop [11] (fun i => ∃ k : Nat, k ≤ l.length ∧ i = .int .i64 k ∧ (l.take k).all (fun x => inR x lo hi) = true) (fun i => l.length - (intOf i).toNat)
  case atStart => exact ⟨0, Nat.zero_le _, rfl, by simp⟩
  case round =>
    obtain ⟨k, hk, rfl, hall⟩ := hrel
    have Hall := Lib.hid hall
    clear hall
    by_cases hlt : k < l.length
    · obtain ⟨ad, x, rfl, hx, hc⟩ := h.at_ hlt
      have Hx := Lib.hid hx
      clear hx h
      cases hin : inR x lo hi
      · have Hin := Lib.hid hin
        clear hin
        go_wp2_with (go_at_call 82; refine (within_any _ _ _ _).mono ?_; rintro e w' ⟨rfl, rfl⟩; rw [Hin.out])
        go_ret
        exact ⟨ret_bool (all_false_of Hx.out Hin.out).symm, rfl⟩
      · have Hin := Lib.hid hin
        clear hin
        go_wp2_with (go_at_call 82; refine (within_any _ _ _ _).mono ?_; rintro e w' ⟨rfl, rfl⟩; rw [Hin.out])
        go_round
        case rel => exact ⟨k + 1, by omega, by go_num, all_take_succ Hx.out Hin.out Hall.out⟩
        case measure => simp [intOf]; omega
    · go_wp2
      go_ret
      exact ⟨ret_bool (all_of_take (by omega) Hall.out).symm, rfl⟩

end Go.Proofs.Ytnmekcifbmcdpaa

/- Contracts of the functions on one node. -/
namespace Go.Proofs.Ytnmekcifbmcdpaa
open Go.RowKit

set_option maxHeartbeats 400000 in
theorem toNode_any (x : Nd) (w : World) :
    Calls Try.prog 81 #[.agg #[.int .i64 x.k, .int .i64 x.a, .int .i64 x.b, .int .i64 x.n, .int .i64 x.m]] w fun e w' => e = .returned (.agg #[.int .i64 x.k, .int .i64 x.a, .int .i64 x.b, .int .i64 x.n, .int .i64 x.m]) ∧ Below w.heap.size w w' := by
  go_enter Try.func81, Try.ntmps81
  go_wp2
  refine bodyPost_ret (v := .agg #[.int .i64 x.k, .int .i64 x.a, .int .i64 x.b, .int .i64 x.n, .int .i64 x.m]) (by simp [results, Try.results81, go_sem]) rfl ⟨rfl, ?_⟩
  exact (((Below.refl _ _).alloc (Nat.le_refl _) _).alloc (by simp) _).alloc (by simp; omega) _

set_option maxHeartbeats 400000 in
theorem eqNode_any (x y : Nd) (w : World) :
    Calls Try.prog 91 #[.agg #[.int .i64 x.k, .int .i64 x.a, .int .i64 x.b, .int .i64 x.n, .int .i64 x.m], .agg #[.int .i64 y.k, .int .i64 y.a, .int .i64 y.b, .int .i64 y.n, .int .i64 y.m]] w
      fun e w' => e = .returned (.bool (ndEq x y)) ∧ Below w.heap.size w w' := by
  go_enter Try.func91, Try.ntmps91
  go_wp2
  all_goals
    go_ret
    refine ⟨ret_bool ?_, ((Below.refl _ _).alloc (Nat.le_refl _) _).alloc (by simp) _⟩
    first | exact (ndEq_no (.inl (by assumption))).symm | exact (ndEq_no (.inr (.inl (by assumption)))).symm | exact (ndEq_no (.inr (.inr (.inl (by assumption))))).symm | exact (ndEq_no (.inr (.inr (.inr (.inl (by assumption)))))).symm | exact (ndEq_no (.inr (.inr (.inr (.inr (by assumption)))))).symm | exact (ndEq_yes (by assumption) (by assumption) (by assumption) (by assumption) (by assumption)).symm

end Go.Proofs.Ytnmekcifbmcdpaa

/- Slices of nodes in memory: five cells a node. -/
namespace Go.Proofs.Ytnmekcifbmcdpaa
open Go.RowKit

/-- The cells of a list of nodes. -/
def nds : List Nd → List Value
  | [] => []
  | x :: l => .int .i64 x.k :: .int .i64 x.a :: .int .i64 x.b :: .int .i64 x.n :: .int .i64 x.m :: nds l

theorem nds_len (l : List Nd) : (nds l).length = l.length * 5 := by
  induction l with
  | nil => rfl
  | cons x l ih => simp [nds, ih]; omega
theorem nds_append (l m : List Nd) : nds (l ++ m) = nds l ++ nds m := by
  induction l with
  | nil => rfl
  | cons x l ih => simp [nds, ih]

theorem nds_at {l : List Nd} {k : Nat} {x : Nd} (h : l[k]? = some x) :
    (nds l)[k * 5]? = some (.int .i64 x.k) ∧ (nds l)[k * 5 + 1]? = some (.int .i64 x.a) ∧ (nds l)[k * 5 + 2]? = some (.int .i64 x.b) ∧ (nds l)[k * 5 + 3]? = some (.int .i64 x.n) ∧ (nds l)[k * 5 + 4]? = some (.int .i64 x.m) := by
  induction l generalizing k with
  | nil => simp at h
  | cons y l ih =>
    cases k with
    | zero => simp at h; subst h; exact ⟨rfl, rfl, rfl, rfl, rfl⟩
    | succ k =>
      have e : (k + 1) * 5 = k * 5 + 5 := by omega
      rw [e]
      exact ih (k := k) (by simpa using h)

/-- The five cells of a node at the place o of block b. -/
structure At5 (w : World) (b o : Nat) (x : Nd) : Prop where
  c0 : w.cell? ⟨b, o, none⟩ = some (.int .i64 x.k)
  c1 : w.cell? ⟨b, o + 1, none⟩ = some (.int .i64 x.a)
  c2 : w.cell? ⟨b, o + 2, none⟩ = some (.int .i64 x.b)
  c3 : w.cell? ⟨b, o + 3, none⟩ = some (.int .i64 x.n)
  c4 : w.cell? ⟨b, o + 4, none⟩ = some (.int .i64 x.m)

/-- The slice at A reads as the nodes l, below block B. -/
def RdN (w : World) (B : Nat) (A : Option Addr) (l : List Nd) : Prop :=
  0 < l.length → ∃ b o, A = some ⟨b, o, none⟩ ∧ b < B ∧ ∀ (k : Nat) (x : Nd), l[k]? = some x → At5 w b (o + k * 5) x

section
variable {w w' : World} {B B' : Nat} {A : Option Addr} {l : List Nd}
theorem At5.keep {b o : Nat} {x : Nd} (h : At5 w b o x) (hk : ∀ p : Addr, p.block = b → w'.cell? p = w.cell? p) : At5 w' b o x :=
  ⟨(hk _ rfl).trans h.c0, (hk _ rfl).trans h.c1, (hk _ rfl).trans h.c2, (hk _ rfl).trans h.c3, (hk _ rfl).trans h.c4⟩
theorem RdN.at_ (h : RdN w B A l) {k : Nat} (hk : k < l.length) : ∃ b o x, A = some ⟨b, o, none⟩ ∧ b < B ∧ l[k]? = some x ∧ At5 w b (o + k * 5) x := by
  obtain ⟨b, o, e, hb, hc⟩ := h (by omega)
  obtain ⟨x, hx⟩ := get_of_lt l hk
  exact ⟨b, o, x, e, hb, hx, hc k x hx⟩
theorem RdN.keep (h : RdN w B A l) (hk : ∀ p : Addr, p.block < B → w'.cell? p = w.cell? p) : RdN w' B A l := fun hn => by
  obtain ⟨b, o, e, hb, hc⟩ := h hn
  exact ⟨b, o, e, hb, fun k x hx => (hc k x hx).keep fun p hp => hk p (by omega)⟩
theorem RdN.more (h : RdN w B A l) (hB : B ≤ B') : RdN w B' A l := fun hn => by
  obtain ⟨b, o, e, hb, hc⟩ := h hn
  exact ⟨b, o, e, by omega, hc⟩
theorem RdN.below {C : Nat} (h : RdN w B A l) (hb : Below C w w') (hC : B ≤ C) : RdN w' B A l := h.keep fun _ hp => hb.cell (by omega)
theorem RdN.same (h : RdN w B A l) (s : Same w w') : RdN w' B A l := h.below (s.below B) (Nat.le_refl _)
theorem RdN.drewN (h : RdN w B A l) (n : Nat) : RdN (w.drewN n) B A l := h.same ⟨n, rfl⟩
end

theorem Bk.rdN {w : World} {g B : Nat} {l : List Nd} {t : TypeId} (h : Bk w g t (nds l)) (hB : g < B) : RdN w B (some ⟨g, 0, none⟩) l := fun _ => by
  refine ⟨g, 0, rfl, hB, fun k x hx => ?_⟩
  obtain ⟨h0, h1, h2, h3, h4⟩ := nds_at hx
  rw [Nat.zero_add]
  exact ⟨by rw [h.cell]; exact h0, by rw [h.cell]; exact h1, by rw [h.cell]; exact h2, by rw [h.cell]; exact h3, by rw [h.cell]; exact h4⟩

theorem nds_set {l : List Nd} {k : Nat} (x : Nd) (h : k < l.length) :
    (((((nds l).set (k * 5) (.int .i64 x.k)).set (k * 5 + 1) (.int .i64 x.a)).set (k * 5 + 2) (.int .i64 x.b)).set (k * 5 + 3) (.int .i64 x.n)).set (k * 5 + 4) (.int .i64 x.m) = nds (l.set k x) := by
  induction l generalizing k with
  | nil => simp at h
  | cons y l ih =>
    cases k with
    | zero => simp [nds]
    | succ k =>
      have e : (k + 1) * 5 = k * 5 + 5 := by omega
      rw [e]
      have := ih (k := k) (by simpa using h)
      simp only [nds, List.set_cons_succ, List.set]
      rw [← this]

/-- The node x is stored at the place k of a block of nodes. -/
theorem Bk.node {w : World} {g k : Nat} {t : TypeId} {l : List Nd} (h : Bk w g t (nds l)) (x : Nd) (hk : k < l.length) :
    Bk (((((w.setCell ⟨g, k * 5, none⟩ (.int .i64 x.k)).setCell ⟨g, k * 5 + 1, none⟩ (.int .i64 x.a)).setCell ⟨g, k * 5 + 2, none⟩ (.int .i64 x.b)).setCell ⟨g, k * 5 + 3, none⟩ (.int .i64 x.n)).setCell ⟨g, k * 5 + 4, none⟩ (.int .i64 x.m)) g t (nds (l.set k x)) := by
  rw [← nds_set x hk]
  exact ((((h.set_ _ _).set_ _ _).set_ _ _).set_ _ _).set_ _ _

/-- Five cells that can be written. -/
structure Old5 (w : World) (b o : Nat) (u0 u1 u2 u3 u4 : Value) : Prop where
  c0 : w.cell? ⟨b, o, none⟩ = some u0
  c1 : w.cell? ⟨b, o + 1, none⟩ = some u1
  c2 : w.cell? ⟨b, o + 2, none⟩ = some u2
  c3 : w.cell? ⟨b, o + 3, none⟩ = some u3
  c4 : w.cell? ⟨b, o + 4, none⟩ = some u4
  f0 : w.frozen? ⟨b, o, none⟩ = false
  f1 : w.frozen? ⟨b, o + 1, none⟩ = false
  f2 : w.frozen? ⟨b, o + 2, none⟩ = false
  f3 : w.frozen? ⟨b, o + 3, none⟩ = false
  f4 : w.frozen? ⟨b, o + 4, none⟩ = false
theorem Bk.old5 {w : World} {g o : Nat} {t : TypeId} {cs : List Value} (h : Bk w g t cs) (ho : o + 4 < cs.length) : ∃ u0 u1 u2 u3 u4, Old5 w g o u0 u1 u2 u3 u4 := by
  obtain ⟨u0, h0⟩ := get_of_lt cs (k := o) (by omega)
  obtain ⟨u1, h1⟩ := get_of_lt cs (k := o + 1) (by omega)
  obtain ⟨u2, h2⟩ := get_of_lt cs (k := o + 2) (by omega)
  obtain ⟨u3, h3⟩ := get_of_lt cs (k := o + 3) (by omega)
  obtain ⟨u4, h4⟩ := get_of_lt cs (k := o + 4) (by omega)
  exact ⟨u0, u1, u2, u3, u4, (h.cell _).trans h0, (h.cell _).trans h1, (h.cell _).trans h2, (h.cell _).trans h3, (h.cell _).trans h4, h.free _, h.free _, h.free _, h.free _, h.free _⟩
theorem Old5.below {w w' : World} {b o C : Nat} {u0 u1 u2 u3 u4 : Value} (h : Old5 w b o u0 u1 u2 u3 u4) (hb : Below C w w') (hC : b < C) : Old5 w' b o u0 u1 u2 u3 u4 := by
  have hc : ∀ i, w'.cell? ⟨b, i, none⟩ = w.cell? ⟨b, i, none⟩ := fun i => hb.cell (p := ⟨b, i, none⟩) hC
  have hf : ∀ i, w'.frozen? ⟨b, i, none⟩ = w.frozen? ⟨b, i, none⟩ := fun i => hb.frozen (p := ⟨b, i, none⟩) hC
  exact ⟨(hc _).trans h.c0, (hc _).trans h.c1, (hc _).trans h.c2, (hc _).trans h.c3, (hc _).trans h.c4, (hf _).trans h.f0, (hf _).trans h.f1, (hf _).trans h.f2, (hf _).trans h.f3, (hf _).trans h.f4⟩

/-- Nodes that are all zero. -/
def zeros (n : Nat) : List Nd := List.replicate n ⟨0, 0, 0, 0, 0⟩

theorem nds_zeros (n : Nat) : nds (zeros n) = List.replicate (n * 5) (.int .i64 0) := by
  induction n with
  | zero => rfl
  | succ n ih =>
    have e : (n + 1) * 5 = n * 5 + 1 + 1 + 1 + 1 + 1 := by omega
    rw [e]
    simp only [List.replicate_succ, zeros, nds]
    unfold zeros at ih
    rw [ih]

theorem made_five (n : Nat) : madeCells (Value.agg #[.int .i64 0, .int .i64 0, .int .i64 0, .int .i64 0, .int .i64 0]).cells (n * 5) = (nds (zeros n)).toArray := by
  rw [nds_zeros]
  apply Array.ext
  · simp [size_madeCells]
  · intro i h1 h2
    simp only [madeCells, Array.getElem_map, Array.getElem_range, List.getElem_toArray, List.getElem_replicate]
    have h5 : i % 5 < 5 := Nat.mod_lt _ (by decide)
    show (#[Value.int .i64 0, .int .i64 0, .int .i64 0, .int .i64 0, .int .i64 0])[i % 5]! = _
    generalize i % 5 = j at h5
    match j, h5 with
    | 0, _ => rfl
    | 1, _ => rfl
    | 2, _ => rfl
    | 3, _ => rfl
    | 4, _ => rfl

theorem run_make_nodes {P : Program} (t e : TypeId) (ht : P.underlying t = some (.slice e))
    (hinfo : (P.info? e).map (fun i => (i.zero, i.size, i.bytes)) = some (some (.agg #[.int .i64 0, .int .i64 0, .int .i64 0, .int .i64 0, .int .i64 0]), 5, 40)) (n : Nat) (hn : n ≤ 1048576) (w : World) :
    (Instr.makeSlice t (.int .i64 (n : Int)) (.int .i64 (n : Int))).run P w = .ok (.slice (some ⟨w.heap.size, 0, none⟩) n n) (w.alloc (.cells (nds (zeros n)).toArray e)) := by
  obtain ⟨i, hi, hz0, hz1, hz2⟩ := info_parts hinfo
  have hr := run_make (P := P) w t e i _ ht hi hz0 .i64 .i64 n n (by omega) (by omega) (by rw [hz2]; omega) (by omega)
  rw [hz1] at hr
  simp only [Int.toNat_natCast] at hr
  rw [made_five] at hr
  exact hr

theorem fill_nodes {w : World} {g k : Nat} {t : TypeId} {l : List Nd} {x : Nd} (h : Bk w g t (nds (l.take k ++ zeros (l.length - k)))) (hx : l[k]? = some x) :
    Bk (((((w.setCell ⟨g, k * 5, none⟩ (.int .i64 x.k)).setCell ⟨g, k * 5 + 1, none⟩ (.int .i64 x.a)).setCell ⟨g, k * 5 + 2, none⟩ (.int .i64 x.b)).setCell ⟨g, k * 5 + 3, none⟩ (.int .i64 x.n)).setCell ⟨g, k * 5 + 4, none⟩ (.int .i64 x.m)) g t (nds (l.take (k + 1) ++ zeros (l.length - (k + 1)))) := by
  have hl : k < l.length := (List.getElem?_eq_some_iff.1 hx).1
  have h2 := h.node x (k := k) (by simp [zeros]; omega)
  unfold zeros at h2
  rw [fill_set _ _ _ (by simp; omega) hl] at h2
  rw [take_succ_of hx]
  exact h2
theorem below_five {B : Nat} {a w : World} (h : Below B a w) {g i : Nat} (hg : B ≤ g) (v0 v1 v2 v3 v4 : Value) :
    Below B a (((((w.setCell ⟨g, i, none⟩ v0).setCell ⟨g, i + 1, none⟩ v1).setCell ⟨g, i + 2, none⟩ v2).setCell ⟨g, i + 3, none⟩ v3).setCell ⟨g, i + 4, none⟩ v4) :=
  ((((h.setCell hg _).setCell hg _).setCell hg _).setCell hg _).setCell hg _

end Go.Proofs.Ytnmekcifbmcdpaa

/- Contracts of the functions on slices of nodes: copied, compared, counted. -/
namespace Go.Proofs.Ytnmekcifbmcdpaa
open Go.RowKit

theorem Try.infoNode : (Try.prog.info? 102).map (fun i => (i.zero, i.size, i.bytes)) = some (some (.agg #[.int .i64 0, .int .i64 0, .int .i64 0, .int .i64 0, .int .i64 0]), 5, 40) := by kernel_rfl

set_option maxHeartbeats 400000 in
theorem toNodeS_any (A : Option Addr) (c : Nat) (l : List Nd) (w : World) (B : Nat) (h : RdN w B A l) (hB : B ≤ w.heap.size) (hn : l.length ≤ 1048576) :
    Calls Try.prog 59 #[.slice A l.length c] w fun e w' => e = .returned (.slice (some ⟨w.heap.size, 0, none⟩) l.length l.length) ∧ Bk w' w.heap.size 102 (nds l) ∧ Below w.heap.size w w' := by
  have hmk := run_make_nodes (P := Try.prog) 30 102 Try.underlying30 Try.infoNode l.length hn
  go_enter Try.func59, Try.ntmps59
  go_wp2
  clear hmk
  go_loopw [4] (fun i wr => ∃ k : Nat, k ≤ l.length ∧ i = .int .i64 k ∧ Bk wr w.heap.size 102 (nds (l.take k ++ zeros (l.length - k))) ∧ Below w.heap.size w wr) (fun i _ => l.length - (intOf i).toNat)
  case atStart => exact ⟨0, Nat.zero_le _, rfl, by simpa using Bk.new w 102 (nds (zeros l.length)), (Below.refl _ _).alloc (Nat.le_refl _) _⟩
  case round =>
    obtain ⟨k, hk, rfl, hbk, hbl⟩ := hrel
    by_cases hlt : k < l.length
    · obtain ⟨b, o, x, rfl, hbB, hx, hc⟩ := (h.below hbl hB).at_ hlt
      obtain ⟨c0, c1, c2, c3, c4⟩ := hc
      have hgl := hbk.lt
      obtain ⟨u0, u1, u2, u3, u4, hold⟩ := hbk.old5 (o := k * 5) (by simp [nds_len, zeros]; omega)
      have Hold := Lib.hid hold
      have Hbl := Lib.hid hbl
      have Hx := Lib.hid hx
      have Hbk := Lib.hid hbk
      have hsz := hbl.size
      clear hx h hbk hbl hold
      go_wp2_with (go_at_call 81; refine (toNode_any x _).mono ?_; rintro e w1 ⟨rfl, hb2⟩; obtain ⟨d0, d1, d2, d3, d4, f0, f1, f2, f3, f4⟩ := Hold.out.below hb2 hgl; have Hb2 := Lib.hid hb2; clear hb2)
      go_roundw
      case rel => exact ⟨k + 1, by omega, by go_num, fill_nodes (Hbk.out.below Hb2.out hgl) Hx.out, below_five (Hbl.out.trans (Hb2.out.mono hsz)) (Nat.le_refl _) _ _ _ _ _⟩
      case measure => simp [intOf]; omega
    · obtain rfl : k = l.length := by omega
      have hbk2 : Bk wr w.heap.size 102 (nds l) := by simpa [zeros] using hbk
      have Hbk := Lib.hid hbk2
      clear hbk hbk2
      go_wp2
      go_ret
      exact ⟨rfl, Hbk.out, hbl⟩

set_option maxHeartbeats 400000 in
theorem toPipe_any (A : Option Addr) (c : Nat) (l : List Nd) (w : World) (B : Nat) (h : RdN w B A l) (hB : B ≤ w.heap.size) (hn : l.length ≤ 1048576) :
    Calls Try.prog 17 #[.agg #[.slice A l.length c]] w fun e w' => ∃ g, e = .returned (.agg #[.slice (some ⟨g, 0, none⟩) l.length l.length]) ∧ w.heap.size ≤ g ∧ Bk w' g 102 (nds l) ∧ Below w.heap.size w w' := by
  go_enter Try.func17, Try.ntmps17
  have Hh := Lib.hid h
  clear h
  go_wp2_with fail
  have hB0 := (((Below.refl w.heap.size w).alloc (Nat.le_refl _) (.cells #[.slice A l.length c] 24)).alloc (by simp) (.cells #[.slice none 0 0] 32)).alloc (by simp; omega) (.cells #[.slice none 0 0] 32)
  refine (toNodeS_any A c l _ B (Hh.out.below hB0 hB) (by simp; omega) hn).mono ?_
  rintro e w1 ⟨rfl, hb1, hb2⟩
  simp only [World.size_alloc] at hb1 hb2
  have d1 : w1.cell? ⟨w.heap.size + 1, 0, none⟩ = some (.slice none 0 0) := (hb2.cell (p := ⟨w.heap.size + 1, 0, none⟩) (by simp)).trans (by simp [go_sem])
  have f1 : w1.frozen? ⟨w.heap.size + 1, 0, none⟩ = false := (hb2.frozen (p := ⟨w.heap.size + 1, 0, none⟩) (by simp)).trans (by simp [go_sem])
  have d2 : w1.cell? ⟨w.heap.size + 2, 0, none⟩ = some (.slice none 0 0) := (hb2.cell (p := ⟨w.heap.size + 2, 0, none⟩) (by simp)).trans (by simp [go_sem])
  have f2 : w1.frozen? ⟨w.heap.size + 2, 0, none⟩ = false := (hb2.frozen (p := ⟨w.heap.size + 2, 0, none⟩) (by simp)).trans (by simp [go_sem])
  have Hb1 := Lib.hid hb1
  have Hb2 := Lib.hid hb2
  have HB0 := Lib.hid hB0
  clear hb1 hb2 hB0
  go_wp2
  refine bodyPost_ret (v := .agg #[.slice (some ⟨w.heap.size + 3, 0, none⟩) l.length l.length]) (by simp [results, Try.results17, go_sem, d1]) rfl ⟨_, rfl, by omega, ?_, ?_⟩
  · exact (Hb1.out.far (by show w.heap.size + 1 + 1 + 1 ≠ w.heap.size + 2; omega) _).far (by show w.heap.size + 1 + 1 + 1 ≠ w.heap.size + 1; omega) _
  · exact ((HB0.out.trans (Hb2.out.mono (by omega))).setCell (by show w.heap.size ≤ w.heap.size + 2; omega) _).setCell (by show w.heap.size ≤ w.heap.size + 1; omega) _

set_option maxHeartbeats 400000 in
theorem szNodeS_any (A : Option Addr) (n c : Nat) (left : Int) (w : World) (h0 : 0 ≤ left) (h1 : left ≤ 1048576) (hn : n ≤ maxLen) :
    Calls Try.prog 55 #[.slice A n c, .int .i64 left] w fun e w' => e = .returned (.int .i64 (szLeft left n)) ∧ w = w' := by
  unfold maxLen at hn
  by_cases h : left < n
  · rw [szLeft_no h]
    go_enter Try.func55, Try.ntmps55
    go_wp2
    go_ret
    exact ⟨rfl, rfl⟩
  · rw [szLeft_yes h]
    go_enter Try.func55, Try.ntmps55
    go_wp2
    go_ret
    exact ⟨rfl, rfl⟩

set_option maxHeartbeats 400000 in
theorem szPipe_any (A : Option Addr) (n c : Nat) (left : Int) (w : World) (h0 : 0 ≤ left) (h1 : left ≤ 1048576) (hn : n ≤ maxLen) :
    Calls Try.prog 14 #[.agg #[.slice A n c], .int .i64 left] w fun e w' => e = .returned (.int .i64 (szLeft left n)) ∧ Below w.heap.size w w' := by
  by_cases h : left < n
  · have hz := szLeft_no h
    have Hz := Lib.hid hz
    clear hz
    go_enter Try.func14, Try.ntmps14
    go_wp2_with (go_at_call 55; refine (szNodeS_any _ _ _ _ _ h0 h1 hn).mono ?_; rintro e w1 ⟨rfl, rfl⟩; rw [Hz.out])
    go_ret
    exact ⟨ret_int Hz.out.symm, (Below.refl _ _).alloc (Nat.le_refl _) _⟩
  · have hz := szLeft_yes h
    have Hz := Lib.hid hz
    clear hz
    go_enter Try.func14, Try.ntmps14
    go_wp2_with (go_at_call 55; refine (szNodeS_any _ _ _ _ _ h0 h1 hn).mono ?_; rintro e w1 ⟨rfl, rfl⟩; rw [Hz.out])
    go_ret
    exact ⟨ret_int Hz.out.symm, (Below.refl _ _).alloc (Nat.le_refl _) _⟩

end Go.Proofs.Ytnmekcifbmcdpaa

/- Slices of nodes that the call itself made; the functions that write marks into them and read the marks again. -/
namespace Go.Proofs.Ytnmekcifbmcdpaa
open Go.RowKit

/-- The slice at A holds the nodes l in memory from block base on, which can be written. -/
def OwnN (w : World) (base : Nat) (A : Option Addr) (c : Nat) (l : List Nd) : Prop := w.ownsRow base 102 5 (.slice A l.length c) l.length (nds l)

/-- The block of a slice. -/
def rowOf (A : Option Addr) : Option Nat := A.map (·.block)
theorem ownBlock_slice (A : Option Addr) (n c : Nat) : (Value.slice A n c).ownBlock = rowOf A := by cases A <;> rfl

section
variable {w w' : World} {base c : Nat} {A : Option Addr} {l : List Nd}
theorem OwnN.form (h : OwnN w base A c l) (hl : 0 < l.length) : ∃ g, A = some ⟨g, 0, none⟩ ∧ base ≤ g ∧ g < w.heap.size := by
  obtain ⟨_, ⟨_, h0⟩ | ⟨g, cap, cur, hv, hb, hh, _⟩⟩ := h
  · omega
  · injection hv with hA
    exact ⟨g, hA, hb, lt_of_block hh⟩
theorem OwnN.rd (h : OwnN w base A c l) : RdN w w.heap.size A l := fun hn => by
  obtain ⟨g, rfl, _, hlt⟩ := h.form hn
  refine ⟨g, 0, rfl, hlt, fun k x hx => ?_⟩
  obtain ⟨h0, h1, h2, h3, h4⟩ := nds_at hx
  have hk : k < l.length := (List.getElem?_eq_some_iff.1 hx).1
  rw [Nat.zero_add]
  have hc : ∀ j, j < l.length * 5 → w.cell? ⟨g, j, none⟩ = (nds l)[j]? := fun j hj => World.ownsRow.cellAt h j hj
  exact ⟨(hc _ (by omega)).trans h0, (hc _ (by omega)).trans h1, (hc _ (by omega)).trans h2, (hc _ (by omega)).trans h3, (hc _ (by omega)).trans h4⟩
theorem OwnN.grown {row : Option Nat} (h : OwnN w base A c l) (hg : w.grownBy w' row) (hne : rowOf A = none ∨ rowOf A ≠ row) : OwnN w' base A c l :=
  World.ownsRow.kept h hg (by rw [ownBlock_slice]; exact hne)
theorem OwnN.below {C : Nat} (h : OwnN w base A c l) (hb : Below C w w') (hC : w.heap.size ≤ C) : OwnN w' base A c l :=
  h.grown (row := none) ⟨hb.os, hb.tape, hb.output, Nat.le_trans (Nat.le_refl _) hb.size, fun k hk _ => hb.block k (by omega)⟩ (by cases A <;> simp [rowOf])
theorem OwnN.drewN (h : OwnN w base A c l) (n : Nat) : OwnN (w.drewN n) base A c l := h
theorem OwnN.base_ {b2 : Nat} (h : OwnN w base A c l) (hb : b2 ≤ base) : OwnN w b2 A c l := by
  obtain ⟨h1, h2 | ⟨g, cap, cur, hv, hg, hh⟩⟩ := h
  · exact ⟨h1, .inl h2⟩
  · exact ⟨h1, .inr ⟨g, cap, cur, hv, by omega, hh⟩⟩
theorem Bk.own {g : Nat} (h : Bk w g 102 (nds l)) (hb : base ≤ g) (hl : l.length ≤ 1048576) : OwnN w base (some ⟨g, 0, none⟩) l.length l :=
  ⟨nds_len l, .inr ⟨g, l.length, (nds l).toArray, rfl, hb, h, Nat.le_refl _, by unfold maxLen; omega, by simp [nds_len], by simp [← nds_len]⟩⟩
end

/-- n marked nodes, the first number of which is k. -/
def mkN (n : Nat) (k : Int) : List Nd := (List.range n).map fun i : Nat => ⟨k + 5 * i, k + 5 * i + 1, k + 5 * i + 2, k + 5 * i + 3, k + 5 * i + 4⟩
theorem mkN_len (n : Nat) (k : Int) : (mkN n k).length = n := by simp [mkN]
theorem mkN_get {n : Nat} {k : Int} {i : Nat} (h : i < n) : (mkN n k)[i]? = some ⟨k + 5 * i, k + 5 * i + 1, k + 5 * i + 2, k + 5 * i + 3, k + 5 * i + 4⟩ := by simp [mkN, h]
theorem mkN_succ (n : Nat) (k : Int) : mkN (n + 1) k = mkN n k ++ [⟨k + 5 * n, k + 5 * n + 1, k + 5 * n + 2, k + 5 * n + 3, k + 5 * n + 4⟩] := by simp [mkN, List.range_succ]
theorem mark_step {l : List Nd} {k : Int} {j : Nat} (hj : j < l.length) : (mkN j k ++ l.drop j).set j ⟨k + 5 * j, k + 5 * j + 1, k + 5 * j + 2, k + 5 * j + 3, k + 5 * j + 4⟩ = mkN (j + 1) k ++ l.drop (j + 1) := by
  rw [List.set_append_right _ _ (by rw [mkN_len]; omega), mkN_len, Nat.sub_self, mkN_succ]
  cases h : l.drop j with
  | nil => have := congrArg List.length h; simp at this; omega
  | cons x r =>
    have : l.drop (j + 1) = r := by rw [← List.drop_drop, h]; rfl
    rw [this]
    simp

theorem own_set5 {w : World} {base g c n k : Nat} {l : List Nd} (h : w.ownsRow base 102 5 (.slice (some ⟨g, 0, none⟩) n c) n (nds l)) (x : Nd) (hk : k < l.length) :
    (((((w.setCell ⟨g, k * 5, none⟩ (.int .i64 x.k)).setCell ⟨g, k * 5 + 1, none⟩ (.int .i64 x.a)).setCell ⟨g, k * 5 + 2, none⟩ (.int .i64 x.b)).setCell ⟨g, k * 5 + 3, none⟩ (.int .i64 x.n)).setCell ⟨g, k * 5 + 4, none⟩ (.int .i64 x.m)).ownsRow base 102 5 (.slice (some ⟨g, 0, none⟩) n c) n (nds (l.set k x)) := by
  rw [← nds_set x hk]
  exact (((((h.stored _ _).1.stored _ _).1.stored _ _).1.stored _ _).1.stored _ _).1
theorem grown_one {a w : World} {g : Nat} (h : a.grownBy w (some g)) (i : Nat) (u : Value) : a.grownBy (w.setCell ⟨g, i, none⟩ u) (some g) :=
  ⟨h.os, h.tape, h.output, by simpa [World.setCell] using h.size, fun j hj hne => (Below.heap_setCell w ⟨g, i, none⟩ u j (by rintro rfl; exact hne rfl)).trans (h.block j hj hne)⟩

set_option maxHeartbeats 3200000 in
theorem markNodeS_any (A : Option Addr) (c : Nat) (l : List Nd) (k : Int) (w : World) (base : Nat) (h : OwnN w base A c l) (hn : l.length ≤ 1048576) (hk0 : 0 ≤ k) (hk1 : k ≤ 16777216) :
    Calls Try.prog 65 #[.slice A l.length c, .int .i64 k] w fun e w' => e = .returned (.int .i64 (k + 5 * l.length)) ∧ OwnN w' base A c (mkN l.length k) ∧ w.grownBy w' (rowOf A) := by
  by_cases hl : 0 < l.length
  · obtain ⟨g, rfl, hbg, hgl⟩ := h.form hl
    obtain ⟨n, hnl⟩ : ∃ n : Nat, n = l.length := ⟨_, rfl⟩
    have H0 : Hid (w.ownsRow base 102 5 (.slice (some ⟨g, 0, none⟩) n c) n (nds l)) := by rw [hnl]; exact h
    have Hn := Lib.hid hnl
    rw [← hnl]
    have hn2 : n ≤ 1048576 := by omega
    clear h hnl hl hn
    go_enter Try.func65, Try.ntmps65
    go_wp2
    go_loopw [1, 5] (fun s i wr => ∃ j : Nat, j ≤ n ∧ i = .int .i64 j ∧ (∃ m : Int, m = k + 5 * j ∧ s = .int .i64 m) ∧ wr.ownsRow base 102 5 (.slice (some ⟨g, 0, none⟩) n c) n (nds (mkN j k ++ l.drop j)) ∧ w.grownBy wr (some g)) (fun _ i _ => n - (intOf i).toNat)
    case atStart => exact ⟨0, Nat.zero_le _, rfl, ⟨k, by simp, rfl⟩, by simpa [mkN] using H0.out, World.grownBy.refl _ _⟩
    case round =>
      obtain ⟨j, hj, rfl, ⟨m, hm, rfl⟩, ho, hg⟩ := hrel
      have hm0 : 0 ≤ m := by omega
      have hm1 : m ≤ 33554432 := by omega
      by_cases hlt : j < n
      · have hlen : (nds (mkN j k ++ l.drop j)).length = n * 5 := ho.1
        have cells : ∀ i, i < n * 5 → ∃ u, wr.cell? ⟨g, i, none⟩ = some u := fun i hi => by rw [ho.cellAt i hi]; exact get_of_lt _ (by omega)
        obtain ⟨u0, e0⟩ := cells (j * 5) (by omega)
        obtain ⟨u1, e1⟩ := cells (j * 5 + 1) (by omega)
        obtain ⟨u2, e2⟩ := cells (j * 5 + 2) (by omega)
        obtain ⟨u3, e3⟩ := cells (j * 5 + 3) (by omega)
        obtain ⟨u4, e4⟩ := cells (j * 5 + 4) (by omega)
        have f0 := ho.frozenAt (j * 5)
        have f1 := ho.frozenAt (j * 5 + 1)
        have f2 := ho.frozenAt (j * 5 + 2)
        have f3 := ho.frozenAt (j * 5 + 3)
        have f4 := ho.frozenAt (j * 5 + 4)
        have Ho := Lib.hid ho
        have Hg := Lib.hid hg
        have Hm := Lib.hid hm
        clear ho hg hm cells hlen
        go_wp2
        go_roundw
        case rel =>
          refine ⟨j + 1, by omega, by go_num, ⟨_, by rw [Hm.out]; omega, rfl⟩, ?_, grown_one (grown_one (grown_one (grown_one (grown_one Hg.out _ _) _ _) _ _) _ _) _ _⟩
          have hjl : j < l.length := by rw [← Hn.out]; exact hlt
          rw [← mark_step hjl]
          have := own_set5 Ho.out ⟨k + 5 * j, k + 5 * j + 1, k + 5 * j + 2, k + 5 * j + 3, k + 5 * j + 4⟩ (by rw [List.length_append, mkN_len, List.length_drop]; omega : j < _)
          simpa [Hm.out, Int.add_assoc] using this
        case measure => simp [intOf]; omega
      · obtain rfl : j = n := by omega
        have Ho : Hid (OwnN wr base (some ⟨g, 0, none⟩) c (mkN j k)) := by
          unfold OwnN
          rw [mkN_len]
          have : mkN j k ++ l.drop j = mkN j k := by rw [Hn.out]; simp
          rw [this] at ho
          exact ho
        have Hg := Lib.hid hg
        have Hm := Lib.hid hm
        clear ho hg hm
        go_wp2
        go_ret
        exact ⟨ret_int (by rw [Hm.out]), Ho.out, Hg.out⟩
  · have hl0 : l = [] := List.eq_nil_of_length_eq_zero (by omega)
    subst hl0
    have H0 := Lib.hid h
    clear h
    go_enter Try.func65, Try.ntmps65
    go_wp2
    refine wp_loop_rounds 1 ?_
    rw [rounds_succ]
    go_wp2
    go_ret
    exact ⟨by simp, by simpa [mkN] using H0.out, World.grownBy.refl _ _⟩

end Go.Proofs.Ytnmekcifbmcdpaa

/- A node is appended to a slice of nodes of the call's own: what is there afterwards, and where. -/
namespace Go.Proofs.Ytnmekcifbmcdpaa
open Go.RowKit

section
variable {P : Program} (w : World)
/-- An append lands in the old block or in the next new one. -/
theorem append_where {base : Nat} {t ty e : TypeId} {i : TypeInfo} {z : Value} {size bytes : Nat} (ht : P.underlying t = some (.slice e)) (hi : P.info? e = some i) (hz : i.zero = some z) (hsize : i.size = size) (hby : i.bytes = bytes)
    {v : Value} {n : Nat} {xs : List Value} (hown : w.ownsRow base e size v n xs) {a : Addr} {m c : Nat} {news : List Value} (hl : news.length = m * size) (hnews : ∀ j u, news[j]? = some u → w.cell? (a.add j) = some u) (h1 : ∀ u ∈ news, u.oneCell' = true)
    (hm : 0 < m) (h63 : n + m ≤ maxLen) (hbytes : (n + m) * bytes ≤ 140737488355328) {v' : Value} {w' : World} (hr : (Builtin.append_ #[t, t] ty #[v, .slice (some a) m c]).run P w = .ok v' w') :
    v'.ownBlock = v.ownBlock ∨ v'.ownBlock = some w.heap.size := by
  subst hsize
  subst hby
  have hs : n + m ≤ 9223372036854775807 := by simp only [maxLen] at h63; omega
  obtain ⟨hlen, ⟨rfl, rfl⟩ | ⟨g, cap, cur, rfl, _, hg, _, _, hcs, _⟩⟩ := hown
  · have hq := run_append_nil (P := P) w t ty e i z ht hi hz a m c news hl hnews hm (by omega) (by simp only [Nat.zero_add] at hbytes; omega)
    rw [hq] at hr
    injection hr with e1
    subst e1
    exact .inr rfl
  · by_cases hroom : n + m ≤ cap
    · have hq := run_append_room (P := P) w t ty e i ht hi g n cap cur hg a m c news hl hnews h1 hroom (by rw [hl, hcs, ← Nat.add_mul]; exact Nat.mul_le_mul_right _ hroom)
      rw [hq] at hr
      injection hr with e1
      subst e1
      exact .inl rfl
    · have hcells : ∀ j u, xs[j]? = some u → w.cell? ((⟨g, 0, none⟩ : Addr).add j) = some u :=
        World.ownsRow.cells (base := 0) (n := n) ⟨hlen, .inr ⟨g, cap, cur, rfl, Nat.zero_le _, hg, by assumption, by assumption, hcs, by assumption⟩⟩ rfl
      have hq := run_append_grow (P := P) w t ty e i z ht hi hz ⟨g, 0, none⟩ n cap xs hlen hcells a m c news hl hnews (by omega) (by omega) (growslice_fits (by omega) hbytes)
      rw [hq] at hr
      injection hr with e1
      subst e1
      exact .inr rfl
end

theorem five_at (w : World) (x : Nd) (t : TypeId) : ∀ (j : Nat) (u : Value), (nds [x])[j]? = some u → (w.alloc (.cells #[.int .i64 x.k, .int .i64 x.a, .int .i64 x.b, .int .i64 x.n, .int .i64 x.m] t)).cell? ((⟨w.heap.size, 0, none⟩ : Addr).add j) = some u := fun j u hj => by
  have h : Bk (w.alloc (.cells #[.int .i64 x.k, .int .i64 x.a, .int .i64 x.b, .int .i64 x.n, .int .i64 x.m] t)) w.heap.size t (nds [x]) := Bk.new w t (nds [x])
  rw [add_zero_row, h.cell]
  exact hj

/-- What is left by an append of a node. -/
structure Appd (W w' : World) (base : Nat) (A A' : Option Addr) (c' : Nat) (l : List Nd) : Prop where
  own : OwnN w' base A' c' l
  grown : W.grownBy w' (rowOf A)
  at_ : rowOf A' = rowOf A ∨ rowOf A' = some W.heap.size

theorem wpList_append_node {ops : Array Oper} {rest : List Oper} {o : Oper} {a : Act} {Q : Exit → Act → World → Prop} {w : World} (hgd : o.guard = none) (s y : Operand)
    (ho : o.op = .call { callee := .builtin .append, args := #[s, y], argTypes := #[30, 30] }) (base : Nat) (A : Option Addr) (c : Nat) (l : List Nd) (x : Nd) (n : Nat) (hnl : l.length = n) (hs : a.eval s = .slice A n c) (hown : OwnN w base A c l)
    (g : Nat) (hx : a.eval y = .slice (some ⟨g, 0, none⟩) 1 1) (hg : g = w.heap.size) (hn : n ≤ 1048576) (hb : base ≤ w.heap.size)
    (h : ∀ (A' : Option Addr) (c' : Nat) (w' : World), Appd (w.alloc (.cells #[.int .i64 x.k, .int .i64 x.a, .int .i64 x.b, .int .i64 x.n, .int .i64 x.m] 102)) w' base A A' c' (l ++ [x]) → wpList Try.prog ops Q rest (a.put o.dst (.slice A' (n + 1) c')) w') :
    wpList Try.prog ops Q (o :: rest) a (w.alloc (.cells #[.int .i64 x.k, .int .i64 x.a, .int .i64 x.b, .int .i64 x.n, .int .i64 x.m] 102)) := by
  subst hg
  subst hnl
  obtain ⟨i, hi, hz0, hz1, hz2⟩ := info_parts Try.infoNode
  have hown2 := hown.below ((Below.refl w.heap.size w).alloc (Nat.le_refl _) (.cells #[.int .i64 x.k, .int .i64 x.a, .int .i64 x.b, .int .i64 x.n, .int .i64 x.m] 102)) (Nat.le_refl _)
  have hfive := five_at w x 102
  have hone : ∀ u ∈ nds [x], u.oneCell' = true := by
    intro u hu
    simp [nds] at hu
    rcases hu with rfl | rfl | rfl | rfl | rfl <;> rfl
  refine wpList_plain hgd fun K hK => ?_
  obtain ⟨v', w', hr, h2, h3, _⟩ := run_append_own (P := Try.prog) (w.alloc (.cells #[.int .i64 x.k, .int .i64 x.a, .int .i64 x.b, .int .i64 x.n, .int .i64 x.m] 102)) base 30 o.type 102 i _ 5 40 Try.underlying30 hi hz0 hz1 hz2 rfl (by decide)
    (.slice A l.length c) l.length (nds l) hown2 ⟨w.heap.size, 0, none⟩ 1 1 (nds [x]) rfl hfive hone (by unfold maxLen; omega) (by omega) (by simp; omega)
  have hw := append_where (w.alloc (.cells #[.int .i64 x.k, .int .i64 x.a, .int .i64 x.b, .int .i64 x.n, .int .i64 x.m] 102)) Try.underlying30 hi hz0 hz1 hz2 hown2 (news := nds [x]) (m := 1) rfl hfive hone (by decide) (by unfold maxLen; omega) (by omega) hr
  have hv : ∃ A' c', v' = .slice A' (l.length + 1) c' := by
    obtain ⟨_, ⟨_, h0⟩ | ⟨g, cap, cur, hv, _⟩⟩ := h2
    · omega
    · exact ⟨_, _, hv⟩
  obtain ⟨A', c', rfl⟩ := hv
  unfold Oper.wp execOp
  simp only [ho, resolve, invoke, builtin, Sem.run_bind, Sem.run_pure, Result.andThen_ok, List.map_toArray, List.map_cons, List.map_nil, hs, hx, hr]
  refine hK _ _ (h A' c' w' ⟨?_, by rw [← ownBlock_slice A l.length c]; exact h3, by simpa only [ownBlock_slice] using hw⟩)
  unfold OwnN
  rw [List.length_append, nds_append]
  exact h2

end Go.Proofs.Ytnmekcifbmcdpaa

/- Plain mathematics of valid pipes: how often a node is below another one, and two ways to find out whether a pipe is valid. -/
namespace Go.Proofs.Ytnmekcifbmcdpaa

/-- 1 if a yes, else 0. -/
def one (b : Bool) : Nat := if b then 1 else 0
theorem one_le (b : Bool) : one b ≤ 1 := by cases b <;> simp [one]

/-- How often the node j is below another one. -/
def useOf : List Nd → Int → Nat
  | [], _ => 0
  | x :: l, j => one (x.a == j) + one (x.b == j) + useOf l j

theorem useOf_append (l m : List Nd) (j : Int) : useOf (l ++ m) j = useOf l j + useOf m j := by
  induction l with
  | nil => simp [useOf]
  | cons x l ih => simp [useOf, ih]; omega
theorem useOf_succ {l : List Nd} {k : Nat} {x : Nd} (h : l[k]? = some x) (j : Int) : useOf (l.take (k + 1)) j = useOf (l.take k) j + one (x.a == j) + one (x.b == j) := by
  rw [take_succ_of h, useOf_append]
  simp [useOf]; omega
theorem useOf_take_le (l : List Nd) (k : Nat) (j : Int) : useOf (l.take k) j ≤ useOf l j := by
  have h := useOf_append (l.take k) (l.drop k) j
  rw [List.take_append_drop] at h
  omega

theorem arity_cases (k : Int) : arity k = 0 ∨ arity k = 1 ∨ arity k = 2 ∨ arity k = -1 := by
  unfold arity
  split
  · exact .inl rfl
  · split
    · exact .inr (.inr (.inl rfl))
    · split
      · exact .inr (.inl rfl)
      · exact .inr (.inr (.inr rfl))
theorem known_of_arity {k : Int} (h : arity k ≠ -1) : known k = true := by
  cases hk : known k
  · exfalso
    apply h
    simp only [known, Bool.or_eq_false_iff] at hk
    obtain ⟨⟨⟨⟨⟨⟨⟨⟨⟨⟨⟨⟨⟨h0, h1⟩, h2⟩, h3⟩, h4⟩, h5⟩, h6⟩, h7⟩, h8⟩, h9⟩, h10⟩, h11⟩, h12⟩, h13⟩ := hk
    simp [arity, h0, h1, h2, h3, h4, h5, h6, h7, h8, h9, h10, h11, h12, h13]
  · rfl
theorem known_kids {x : Nd} {i : Int} (h : kidsOk x i = true) : known x.k = true := by
  apply known_of_arity
  intro e
  simp [kidsOk, e] at h

/-- The node i of a pipe is one that can stand there. -/
def nodeOk (x : Nd) (i : Nat) : Bool := numsOk x && kidsOk x i

/-- A valid pipe. -/
structure PipeOk (l : List Nd) : Prop where
  node : ∀ (i : Nat) (x : Nd), l[i]? = some x → nodeOk x i = true
  uses : ∀ i : Nat, i + 1 < l.length → useOf l i = 1
  low : 1 ≤ l.length
  high : l.length ≤ 12

/-- .. told by yes or no. -/
def pipeOk (l : List Nd) : Bool :=
  ((List.range l.length).all fun i => match l[i]? with | some x => nodeOk x i | none => true) && ((List.range (l.length - 1)).all fun i => useOf l i == 1) && (decide (1 ≤ l.length) && decide (l.length ≤ 12))
theorem pipeOk_iff {l : List Nd} : pipeOk l = true ↔ PipeOk l := by
  unfold pipeOk
  simp only [Bool.and_eq_true, List.all_eq_true, List.mem_range, decide_eq_true_eq, beq_iff_eq]
  constructor
  · rintro ⟨⟨h1, h2⟩, h3, h4⟩
    refine ⟨fun i x hx => ?_, fun i hi => h2 i (by omega), h3, h4⟩
    have := h1 i (List.getElem?_eq_some_iff.1 hx).1
    rw [hx] at this
    exact this
  · rintro ⟨h1, h2, h3, h4⟩
    refine ⟨⟨fun i hi => ?_, fun i hi => h2 i (by omega)⟩, h3, h4⟩
    obtain ⟨x, hx⟩ := get_of_lt l hi
    rw [hx]
    exact h1 i x hx
theorem pipeOk_no {l : List Nd} (h : ¬ PipeOk l) : pipeOk l = false := by
  cases e : pipeOk l
  · rfl
  · exact absurd (pipeOk_iff.1 e) h

/-- The marks of the nodes that are below one of the first k. -/
def marks (l : List Nd) (k n : Nat) : List Bool := (List.range n).map fun j : Nat => decide (1 ≤ useOf (l.take k) (j : Int))
/-- The counts of the uses by the first k nodes. -/
def counts (l : List Nd) (k n : Nat) : List Int := (List.range n).map fun j : Nat => (useOf (l.take k) (j : Int) : Int)

theorem marks_get (l : List Nd) (k : Nat) {n j : Nat} (h : j < n) : (marks l k n)[j]? = some (decide (1 ≤ useOf (l.take k) (j : Int))) := by simp [marks, h]
theorem counts_get (l : List Nd) (k : Nat) {n j : Nat} (h : j < n) : (counts l k n)[j]? = some (useOf (l.take k) (j : Int) : Int) := by simp [counts, h]
theorem marks_len (l : List Nd) (k n : Nat) : (marks l k n).length = n := by simp [marks]
theorem counts_len (l : List Nd) (k n : Nat) : (counts l k n).length = n := by simp [counts]
theorem marks_zero (l : List Nd) (n : Nat) : marks l 0 n = List.replicate n false := by
  apply List.ext_getElem?
  intro i
  simp [marks, useOf, List.getElem?_replicate]
  by_cases h : i < n <;> simp [h]
theorem counts_zero (l : List Nd) (n : Nat) : counts l 0 n = List.replicate n 0 := by
  apply List.ext_getElem?
  intro i
  simp [counts, useOf, List.getElem?_replicate]
  by_cases h : i < n <;> simp [h]

/-- Whether node x at the place i has below it earlier nodes that are not marked. -/
def placesOk (x : Nd) (us : List Bool) (i : Nat) : Bool :=
  if arity x.k == 0 then (x.a == -1) && (x.b == -1) else
  if arity x.k == 1 then (inR x.a 0 (i - 1) && (us[x.a.toNat]? == some false)) && (x.b == -1) else
  if arity x.k == 2 then (inR x.a 0 (i - 1) && (us[x.a.toNat]? == some false)) && (inR x.b 0 (i - 1) && ((us.set x.a.toNat true)[x.b.toNat]? == some false)) else false
/-- The marks with those of x. -/
def marked (x : Nd) (us : List Bool) : List Bool :=
  if arity x.k == 0 then us else
  if arity x.k == 1 then us.set x.a.toNat true else
  if arity x.k == 2 then (us.set x.a.toNat true).set x.b.toNat true else us

end Go.Proofs.Ytnmekcifbmcdpaa

/- Plain mathematics: marking the nodes that are below tells the same as counting them. -/
namespace Go.Proofs.Ytnmekcifbmcdpaa

theorem inR_toNat {a : Int} {k : Nat} (h : inR a 0 ((k : Int) - 1) = true) : ∃ j : Nat, a = (j : Int) ∧ j < k := by
  obtain ⟨h1, h2⟩ := inR_iff.1 h
  exact ⟨a.toNat, by omega, by omega⟩
theorem one_eq (j : Nat) : one ((j : Int) == (j : Int)) = 1 := by simp [one]
theorem one_ne {i j : Int} (h : i ≠ j) : one (i == j) = 0 := by simp [one, h]
theorem one_yes {i j : Int} (h : i = j) : one (i == j) = 1 := by simp [one, h]

theorem marks_mark {l : List Nd} {k n : Nat} {x : Nd} (hx : l[k]? = some x) {j : Nat} (ha : x.a = (j : Int)) (hb : x.b = -1) : (marks l k n).set j true = marks l (k + 1) n := by
  apply List.ext_getElem?
  intro i
  by_cases hi : i < n
  · rw [marks_get _ _ hi, useOf_succ hx, ha, hb, one_ne (i := -1) (by omega)]
    by_cases hij : i = j
    · subst hij
      rw [List.getElem?_set_self (by rw [marks_len]; exact hi), one_eq]
      simp
    · rw [List.getElem?_set_ne (by omega), marks_get _ _ hi, one_ne (by omega)]
      simp
  · rw [List.getElem?_eq_none (by rw [List.length_set, marks_len]; omega), List.getElem?_eq_none (by rw [marks_len]; omega)]
theorem marks_mark2 {l : List Nd} {k n : Nat} {x : Nd} (hx : l[k]? = some x) {j j2 : Nat} (ha : x.a = (j : Int)) (hb : x.b = (j2 : Int)) : ((marks l k n).set j true).set j2 true = marks l (k + 1) n := by
  apply List.ext_getElem?
  intro i
  by_cases hi : i < n
  · rw [marks_get _ _ hi, useOf_succ hx, ha, hb]
    by_cases hij2 : i = j2
    · subst hij2
      rw [List.getElem?_set_self (by rw [List.length_set, marks_len]; exact hi), one_eq]
      simp
    · rw [List.getElem?_set_ne (by omega), one_ne (i := (j2 : Int)) (by omega)]
      by_cases hij : i = j
      · subst hij
        rw [List.getElem?_set_self (by rw [marks_len]; exact hi), one_eq]
        simp
      · rw [List.getElem?_set_ne (by omega), marks_get _ _ hi, one_ne (by omega)]
        simp
  · rw [List.getElem?_eq_none (by rw [List.length_set, List.length_set, marks_len]; omega), List.getElem?_eq_none (by rw [marks_len]; omega)]
theorem marks_none {l : List Nd} {k n : Nat} {x : Nd} (hx : l[k]? = some x) (ha : x.a = -1) (hb : x.b = -1) : marks l k n = marks l (k + 1) n := by
  apply List.ext_getElem?
  intro i
  by_cases hi : i < n
  · rw [marks_get _ _ hi, marks_get _ _ hi, useOf_succ hx, ha, hb, one_ne (i := -1) (by omega)]
    simp
  · rw [List.getElem?_eq_none (by rw [marks_len]; omega), List.getElem?_eq_none (by rw [marks_len]; omega)]

/-- No node is below two. -/
def Single (l : List Nd) (k : Nat) : Prop := ∀ j : Nat, useOf (l.take k) (j : Int) ≤ 1

theorem place_yes {l : List Nd} {k : Nat} {x : Nd} (hx : l[k]? = some x) (hs : Single l k) (h : placesOk x (marks l k l.length) k = true) :
    kidsOk x k = true ∧ marked x (marks l k l.length) = marks l (k + 1) l.length ∧ Single l (k + 1) := by
  have hk : k < l.length := (List.getElem?_eq_some_iff.1 hx).1
  rcases arity_cases x.k with e | e | e | e
  · simp [placesOk, e] at h
    obtain ⟨h1, h2⟩ := h
    refine ⟨by simp [kidsOk, e, h1, h2], by simp only [marked, e]; exact marks_none hx h1 h2, fun j => ?_⟩
    rw [useOf_succ hx, h1, h2, one_ne (by omega)]
    exact hs j
  · simp [placesOk, e] at h
    obtain ⟨⟨h1, h2⟩, h3⟩ := h
    obtain ⟨j, hj, hjk⟩ := inR_toNat h1
    refine ⟨by simp [kidsOk, e, h1, h3], ?_, fun i => ?_⟩
    · simp only [marked, e]
      show (marks l k l.length).set x.a.toNat true = _
      rw [hj, Int.toNat_natCast]
      exact marks_mark hx hj h3
    · rw [hj, Int.toNat_natCast, marks_get _ _ (by omega)] at h2
      simp at h2
      rw [useOf_succ hx, h3, hj, one_ne (i := -1) (by omega)]
      by_cases hij : i = j
      · subst hij; rw [h2, one_eq]; omega
      · rw [one_ne (by omega)]; exact hs i
  · simp [placesOk, e] at h
    obtain ⟨⟨h1, h2⟩, h3, h4⟩ := h
    obtain ⟨j, hj, hjk⟩ := inR_toNat h1
    obtain ⟨j2, hj2, hjk2⟩ := inR_toNat h3
    rw [hj, hj2, Int.toNat_natCast, Int.toNat_natCast] at h4
    rw [hj, Int.toNat_natCast, marks_get _ _ (by omega)] at h2
    simp at h2
    have hne : j ≠ j2 := by
      intro e2
      subst e2
      rw [List.getElem?_set_self (by rw [marks_len]; omega)] at h4
      simp at h4
    rw [List.getElem?_set_ne hne, marks_get _ _ (by omega)] at h4
    simp at h4
    refine ⟨by simp [kidsOk, e]; exact ⟨⟨h1, h3⟩, by omega⟩, ?_, fun i => ?_⟩
    · simp only [marked, e]
      show ((marks l k l.length).set x.a.toNat true).set x.b.toNat true = _
      rw [hj, hj2, Int.toNat_natCast, Int.toNat_natCast]
      exact marks_mark2 hx hj hj2
    · rw [useOf_succ hx, hj, hj2]
      by_cases hij : i = j
      · subst hij; rw [h2, one_eq, one_ne (by omega)]; omega
      · rw [one_ne (i := (j : Int)) (by omega)]
        by_cases hij2 : i = j2
        · subst hij2; rw [h4, one_eq]; omega
        · rw [one_ne (by omega)]; exact hs i
  · simp [placesOk, e] at h

theorem twice_no {l : List Nd} {k : Nat} {x : Nd} (hx : l[k]? = some x) {j : Nat} (hj : j < k) (h1 : 1 ≤ useOf (l.take k) (j : Int)) (h2 : x.a = (j : Int) ∨ x.b = (j : Int)) : ¬ PipeOk l := fun hp => by
  have hk : k < l.length := (List.getElem?_eq_some_iff.1 hx).1
  have h3 := hp.uses j (by omega)
  have h4 := useOf_take_le l (k + 1) (j : Int)
  rw [useOf_succ hx] at h4
  rcases h2 with h2 | h2 <;> rw [one_yes h2] at h4 <;> omega

theorem place_no {l : List Nd} {k : Nat} {x : Nd} (hx : l[k]? = some x) (h : placesOk x (marks l k l.length) k = false) : ¬ PipeOk l := fun hp => by
  have hk : k < l.length := (List.getElem?_eq_some_iff.1 hx).1
  have hn := hp.node k x hx
  simp only [nodeOk, Bool.and_eq_true] at hn
  have hkids := hn.2
  rcases arity_cases x.k with e | e | e | e
  · simp [kidsOk, e] at hkids
    simp [placesOk, e, hkids] at h
  · simp [kidsOk, e] at hkids
    obtain ⟨h1, h2⟩ := hkids
    obtain ⟨j, hj, hjk⟩ := inR_toNat h1
    simp [placesOk, e, h1, h2] at h
    rw [hj, Int.toNat_natCast, marks_get _ _ (by omega)] at h
    simp at h
    exact twice_no hx hjk (by omega) (.inl hj) hp
  · simp [kidsOk, e] at hkids
    obtain ⟨⟨h1, h2⟩, h3⟩ := hkids
    obtain ⟨j, hj, hjk⟩ := inR_toNat h1
    obtain ⟨j2, hj2, hjk2⟩ := inR_toNat h2
    have hne : j ≠ j2 := by rintro rfl; exact h3 (hj.trans hj2.symm)
    simp [placesOk, e, h1, h2] at h
    rw [hj, hj2, Int.toNat_natCast, Int.toNat_natCast, marks_get _ _ (by omega), List.getElem?_set_ne hne, marks_get _ _ (by omega)] at h
    simp at h
    by_cases hz : useOf (l.take k) (j : Int) = 0
    · exact twice_no hx hjk2 (by have := h hz; omega) (.inr hj2) hp
    · exact twice_no hx hjk (by omega) (.inl hj) hp
  · simp [kidsOk, e] at hkids

theorem nums_no {l : List Nd} {k : Nat} {x : Nd} (hx : l[k]? = some x) (h : (numsOk x && known x.k) = false) : ¬ PipeOk l := fun hp => by
  have hn := hp.node k x hx
  simp only [nodeOk, Bool.and_eq_true] at hn
  rw [hn.1, known_kids hn.2] at h
  cases h

/-- The first k nodes can stand where they do. -/
def Good (l : List Nd) (k : Nat) : Prop := ∀ (i : Nat) (x : Nd), i < k → l[i]? = some x → nodeOk x i = true
theorem Good.zero (l : List Nd) : Good l 0 := fun _ _ h => absurd h (by omega)
theorem Good.succ {l : List Nd} {k : Nat} {x : Nd} (h : Good l k) (hx : l[k]? = some x) (hn : nodeOk x k = true) : Good l (k + 1) := fun i y hi hy => by
  by_cases e : i = k
  · subst e
    rw [hx] at hy
    obtain rfl := Option.some.inj hy
    exact hn
  · exact h i y (by omega) hy
theorem Single.zero (l : List Nd) : Single l 0 := fun _ => by simp [useOf]

/-- The end of the marking: all but the last one are marked. -/
theorem marks_end {l : List Nd} (hg : Good l l.length) (hs : Single l l.length) (h1 : 1 ≤ l.length) (h12 : l.length ≤ 12) :
    pipeOk l = !((marks l l.length l.length).take (l.length - 1)).contains false := by
  rw [Bool.eq_iff_iff, pipeOk_iff]
  simp only [Bool.not_eq_true', List.contains_eq_mem, decide_eq_false_iff_not]
  constructor
  · intro hp hm
    obtain ⟨j, hj⟩ := List.getElem?_of_mem hm
    have hjl : j < l.length - 1 := by have := (List.getElem?_eq_some_iff.1 hj).1; simp at this; omega
    rw [List.getElem?_take_of_lt hjl, marks_get _ _ (by omega), List.take_length] at hj
    simp at hj
    have := hp.uses j (by omega)
    omega
  · intro hm
    refine ⟨fun i x hx => hg i x (List.getElem?_eq_some_iff.1 hx).1 hx, fun i hi => ?_, h1, h12⟩
    have h2 := hs i
    rw [List.take_length] at h2
    have h3 : useOf l (i : Int) ≠ 0 := fun e => hm (List.mem_of_getElem? (i := i) (by rw [List.getElem?_take_of_lt (by omega), marks_get _ _ (by omega), List.take_length, e]; rfl))
    omega

end Go.Proofs.Ytnmekcifbmcdpaa

/- Plain mathematics: the tree of a node of a valid pipe. -/
namespace Go.Proofs.Ytnmekcifbmcdpaa

/-- A node with all that is below it. -/
inductive T where
  | leaf (x : Nd) : T
  | stem (x : Nd) (t : T) : T
  | fork (x : Nd) (a b : T) : T

/-- t is the tree of the node i of l. -/
inductive IsTree (l : List Nd) : Nat → T → Prop where
  | leaf {i : Nat} {x : Nd} (hx : l[i]? = some x) (ha : arity x.k = 0) (h1 : x.a = -1) (h2 : x.b = -1) : IsTree l i (.leaf x)
  | stem {i j : Nat} {x : Nd} {t : T} (hx : l[i]? = some x) (ha : arity x.k = 1) (h1 : x.a = (j : Int)) (hj : j < i) (h2 : x.b = -1) (ht : IsTree l j t) : IsTree l i (.stem x t)
  | fork {i j j2 : Nat} {x : Nd} {a b : T} (hx : l[i]? = some x) (ha : arity x.k = 2) (h1 : x.a = (j : Int)) (hj : j < i) (h2 : x.b = (j2 : Int)) (hj2 : j2 < i) (hta : IsTree l j a) (htb : IsTree l j2 b) : IsTree l i (.fork x a b)

theorem IsTree.ex {l : List Nd} (hp : PipeOk l) : ∀ (n i : Nat), i < n → i < l.length → ∃ t, IsTree l i t := by
  intro n
  induction n with
  | zero => intro i hi; omega
  | succ n ih =>
    intro i hi hl
    obtain ⟨x, hx⟩ := get_of_lt l hl
    have hn := hp.node i x hx
    simp only [nodeOk, Bool.and_eq_true] at hn
    have hkids := hn.2
    rcases arity_cases x.k with e | e | e | e
    · simp [kidsOk, e] at hkids
      exact ⟨_, .leaf hx e hkids.1 hkids.2⟩
    · simp [kidsOk, e] at hkids
      obtain ⟨j, hj, hjk⟩ := inR_toNat hkids.1
      obtain ⟨t, ht⟩ := ih j (by omega) (by omega)
      exact ⟨_, .stem hx e hj hjk hkids.2 ht⟩
    · simp [kidsOk, e] at hkids
      obtain ⟨⟨h1, h2⟩, _⟩ := hkids
      obtain ⟨j, hj, hjk⟩ := inR_toNat h1
      obtain ⟨j2, hj2, hjk2⟩ := inR_toNat h2
      obtain ⟨a, ha⟩ := ih j (by omega) (by omega)
      obtain ⟨b, hb⟩ := ih j2 (by omega) (by omega)
      exact ⟨_, .fork hx e hj hjk hj2 hjk2 ha hb⟩
    · simp [kidsOk, e] at hkids

theorem IsTree.lt {l : List Nd} {i : Nat} {t : T} (h : IsTree l i t) : i < l.length := by
  cases h with
  | leaf hx => exact (List.getElem?_eq_some_iff.1 hx).1
  | stem hx => exact (List.getElem?_eq_some_iff.1 hx).1
  | fork hx => exact (List.getElem?_eq_some_iff.1 hx).1

/-- How many nodes the longest way down has. -/
def T.depth : T → Nat
  | .leaf _ => 1
  | .stem _ t => 1 + t.depth
  | .fork _ a b => 1 + max a.depth b.depth
theorem IsTree.depth_le {l : List Nd} {i : Nat} {t : T} (h : IsTree l i t) : t.depth ≤ i + 1 := by
  induction h with
  | leaf => simp [T.depth]
  | stem _ _ _ hj _ _ ih => simp only [T.depth]; omega
  | fork _ _ _ hj _ hj2 _ _ iha ihb => simp only [T.depth]; omega
theorem T.depth_pos (t : T) : 1 ≤ t.depth := by cases t <;> simp [T.depth] <;> omega

theorem IsTree.same {l : List Nd} {i : Nat} {t u : T} (h : IsTree l i t) (k : IsTree l i u) : t = u := by
  induction h generalizing u with
  | leaf hx ha _ _ =>
    cases k with
    | leaf hy _ _ _ => rw [Option.some.inj (hx.symm.trans hy)]
    | stem hy hb => rw [← Option.some.inj (hx.symm.trans hy), ha] at hb; cases hb
    | fork hy hb => rw [← Option.some.inj (hx.symm.trans hy), ha] at hb; cases hb
  | stem hx ha h1 _ _ _ ih =>
    cases k with
    | leaf hy hb => rw [← Option.some.inj (hx.symm.trans hy), ha] at hb; cases hb
    | stem hy _ k1 _ _ kt =>
      have e := Option.some.inj (hx.symm.trans hy)
      subst e
      rw [h1] at k1
      obtain rfl := Int.ofNat_inj.1 k1
      rw [ih kt]
    | fork hy hb => rw [← Option.some.inj (hx.symm.trans hy), ha] at hb; cases hb
  | fork hx ha h1 _ h2 _ _ _ iha ihb =>
    cases k with
    | leaf hy hb => rw [← Option.some.inj (hx.symm.trans hy), ha] at hb; cases hb
    | stem hy hb => rw [← Option.some.inj (hx.symm.trans hy), ha] at hb; cases hb
    | fork hy _ k1 _ k2 _ kta ktb =>
      have e := Option.some.inj (hx.symm.trans hy)
      subst e
      rw [h1] at k1
      rw [h2] at k2
      obtain rfl := Int.ofNat_inj.1 k1
      obtain rfl := Int.ofNat_inj.1 k2
      rw [iha kta, ihb ktb]

end Go.Proofs.Ytnmekcifbmcdpaa

/- Contracts: the nodes of a tree, in order, behind others (the reference). -/
namespace Go.Proofs.Ytnmekcifbmcdpaa
open Go.RowKit

/-- How many nodes a tree has. -/
def T.size : T → Nat
  | .leaf _ => 1
  | .stem _ t => t.size + 1
  | .fork _ a b => a.size + b.size + 1
/-- The nodes of a tree in order, when n are ahead of them. -/
def T.put : T → Nat → List Nd
  | .leaf x, _ => [x]
  | .stem x t, n => t.put n ++ [⟨x.k, (n : Int) + (t.size : Int) - 1, x.b, x.n, x.m⟩]
  | .fork x a b, n => a.put n ++ b.put (n + a.size) ++ [⟨x.k, (n : Int) + (a.size : Int) - 1, (n : Int) + (a.size : Int) + (b.size : Int) - 1, x.n, x.m⟩]
theorem T.put_len (t : T) : ∀ n, (t.put n).length = t.size := by
  induction t with
  | leaf => intro n; rfl
  | stem x t ih => intro n; simp [T.put, T.size, ih]
  | fork x a b iha ihb => intro n; simp [T.put, T.size, iha, ihb]; omega
theorem T.size_pos (t : T) : 1 ≤ t.size := by cases t <;> simp [T.size]

/-- What is left when nodes were put behind those of a slice of the call's own. -/
structure Wrote (w w' : World) (base : Nat) (A A' : Option Addr) (c' : Nat) (q : List Nd) : Prop where
  own : OwnN w' base A' c' q
  grown : w.grownBy w' (rowOf A)
  at_ : rowOf A' = rowOf A ∨ ∃ g, rowOf A' = some g ∧ w.heap.size ≤ g

theorem OwnN.row_lt {w : World} {base c : Nat} {A : Option Addr} {l : List Nd} (h : OwnN w base A c l) : ∀ g, rowOf A = some g → base ≤ g ∧ g < w.heap.size := fun g hg => by
  have := World.ownsRow.lt h g (by rw [ownBlock_slice]; exact hg)
  exact this
theorem RdN.grown {w w' : World} {B base : Nat} {A Ao : Option Addr} {c : Nat} {l p : List Nd} (h : RdN w B A l) (ho : OwnN w base Ao c p) (hB : B ≤ base) (hz : base ≤ w.heap.size) (hg : w.grownBy w' (rowOf Ao)) : RdN w' B A l :=
  h.keep fun q hq => World.cell?_of_block (hg.block q.block (by omega) (fun e => by have := (ho.row_lt _ e.symm).1; omega))
theorem grown_of {a b c : World} {row row2 : Option Nat} (h : a.grownBy b row) (k : b.grownBy c row2) (hr : row2 = row ∨ ∃ g, row2 = some g ∧ a.heap.size ≤ g) : a.grownBy c row :=
  ⟨k.os.trans h.os, k.tape.trans h.tape, k.output.trans h.output, Nat.le_trans h.size k.size, fun j hj hne => (k.block j (Nat.lt_of_lt_of_le hj h.size) (by
    rcases hr with rfl | ⟨g, rfl, hg⟩
    · exact hne
    · intro e; have := Option.some.inj e; omega)).trans (h.block j hj hne)⟩
theorem grown_below {a b : World} (h : Below a.heap.size a b) (row : Option Nat) : a.grownBy b row := ⟨h.os, h.tape, h.output, h.size, fun j hj _ => h.block j hj⟩

theorem wrote_of {w W w1 : World} {base c' : Nat} {A A1 A' : Option Addr} {q : List Nd} {o : Obj} (h : w.grownBy W (rowOf A)) (hA : rowOf A1 = rowOf A ∨ ∃ g, rowOf A1 = some g ∧ w.heap.size ≤ g) (k : Appd (W.alloc o) w1 base A1 A' c' q) : Wrote w w1 base A A' c' q :=
  ⟨k.own, grown_of (grown_of h (World.grownBy_alloc _ _ (rowOf A)) (.inl rfl)) k.grown hA, by
    rcases k.at_ with e | e
    · rw [e]; exact hA
    · exact .inr ⟨_, e, by have := h.size; simp; omega⟩⟩
theorem own_ne {w W : World} {base c g : Nat} {A A1 : Option Addr} {p : List Nd} (ho : OwnN w base A c p) (hg : w.heap.size ≤ g) (hW : g < W.heap.size) (h : rowOf A1 = rowOf A ∨ ∃ g, rowOf A1 = some g ∧ W.heap.size ≤ g) : rowOf A1 ≠ some g := by
  rcases h with e | ⟨g2, e, h2⟩
  · intro e2
    have := (ho.row_lt g (e.symm.trans e2)).2
    omega
  · intro e2
    have := Option.some.inj (e.symm.trans e2)
    omega
theorem at_trans {w W : World} {A A1 A2 : Option Addr} (hz : w.heap.size ≤ W.heap.size) (h : rowOf A1 = rowOf A ∨ ∃ g, rowOf A1 = some g ∧ w.heap.size ≤ g) (k : rowOf A2 = rowOf A1 ∨ ∃ g, rowOf A2 = some g ∧ W.heap.size ≤ g) : rowOf A2 = rowOf A ∨ ∃ g, rowOf A2 = some g ∧ w.heap.size ≤ g := by
  rcases k with e | ⟨g, e, hg⟩
  · rw [e]; exact h
  · exact .inr ⟨g, e, by omega⟩
theorem at_more {w W : World} {A A1 : Option Addr} (hz : w.heap.size ≤ W.heap.size) (h : rowOf A1 = rowOf A ∨ ∃ g, rowOf A1 = some g ∧ W.heap.size ≤ g) : rowOf A1 = rowOf A ∨ ∃ g, rowOf A1 = some g ∧ w.heap.size ≤ g := at_trans hz (.inl rfl) h
theorem Bk.grown {w w' : World} {g : Nat} {t : TypeId} {cs : List Value} {row : Option Nat} (h : Bk w g t cs) (hg : w.grownBy w' row) (hne : some g ≠ row) : Bk w' g t cs := (hg.block g h.lt hne).trans h

theorem ret_slice {A : Option Addr} {n m c : Nat} (h : n = m) : Ending.returned (.slice A n c) = .returned (.slice A m c) := by rw [h]

end Go.Proofs.Ytnmekcifbmcdpaa

/- Contracts of the functions that look at the numbers of a node, the reference's and the program's. -/
namespace Go.Proofs.Ytnmekcifbmcdpaa
open Go.RowKit

set_option maxHeartbeats 400000 in
theorem goodNumbers_k0_no1 (a b n m : Int) (w : World) (h : Hid (inR n 0 2 = false)) :
    Calls Try.prog 103 #[.agg #[.int .i64 0, .int .i64 a, .int .i64 b, .int .i64 n, .int .i64 m]] w fun e w' => e = .returned (.bool false) ∧ Below w.heap.size w w' := by
  go_enter Try.func103, Try.ntmps103
  go_wp2_with (first | (go_at_call 92; refine (specInR_any _ _ _ _).mono ?_; rintro e w1 ⟨rfl, rfl⟩; rw [h.out]))
  go_ret
  exact ⟨rfl, (Below.refl _ _).alloc (Nat.le_refl _) _⟩

set_option maxHeartbeats 400000 in
theorem goodNumbers_k0_no2 (a b n m : Int) (w : World) (h : Hid (inR n 0 2 = true)) (hm : (m == 0) = false) :
    Calls Try.prog 103 #[.agg #[.int .i64 0, .int .i64 a, .int .i64 b, .int .i64 n, .int .i64 m]] w fun e w' => e = .returned (.bool false) ∧ Below w.heap.size w w' := by
  go_enter Try.func103, Try.ntmps103
  go_wp2_with (first | (go_at_call 92; refine (specInR_any _ _ _ _).mono ?_; rintro e w1 ⟨rfl, rfl⟩; rw [h.out]))
  go_ret
  exact ⟨rfl, (Below.refl _ _).alloc (Nat.le_refl _) _⟩

set_option maxHeartbeats 400000 in
theorem goodNumbers_k0_yes (a b n m : Int) (w : World) (h : Hid (inR n 0 2 = true)) (hm : (m == 0) = true) :
    Calls Try.prog 103 #[.agg #[.int .i64 0, .int .i64 a, .int .i64 b, .int .i64 n, .int .i64 m]] w fun e w' => e = .returned (.bool true) ∧ Below w.heap.size w w' := by
  go_enter Try.func103, Try.ntmps103
  go_wp2_with (first | (go_at_call 92; refine (specInR_any _ _ _ _).mono ?_; rintro e w1 ⟨rfl, rfl⟩; rw [h.out]))
  go_ret
  exact ⟨rfl, (Below.refl _ _).alloc (Nat.le_refl _) _⟩

set_option maxHeartbeats 400000 in
theorem goodNumbers_k1_no1 (a b n m : Int) (w : World) (h : Hid (inR n 0 99 = false)) :
    Calls Try.prog 103 #[.agg #[.int .i64 1, .int .i64 a, .int .i64 b, .int .i64 n, .int .i64 m]] w fun e w' => e = .returned (.bool false) ∧ Below w.heap.size w w' := by
  go_enter Try.func103, Try.ntmps103
  go_wp2_with (first | (go_at_call 92; refine (specInR_any _ _ _ _).mono ?_; rintro e w1 ⟨rfl, rfl⟩; rw [h.out]))
  go_ret
  exact ⟨rfl, (Below.refl _ _).alloc (Nat.le_refl _) _⟩

set_option maxHeartbeats 400000 in
theorem goodNumbers_k1_no2 (a b n m : Int) (w : World) (h : Hid (inR n 0 99 = true)) (g : Hid (inR m 0 (99) = false)) :
    Calls Try.prog 103 #[.agg #[.int .i64 1, .int .i64 a, .int .i64 b, .int .i64 n, .int .i64 m]] w fun e w' => e = .returned (.bool false) ∧ Below w.heap.size w w' := by
  go_enter Try.func103, Try.ntmps103
  go_wp2_with fail
  refine (specInR_any _ _ _ _).mono ?_
  rintro e w1 ⟨rfl, rfl⟩
  rw [h.out]
  go_wp2_with fail
  refine (specInR_any _ _ _ _).mono ?_
  rintro e w1 ⟨rfl, rfl⟩
  rw [g.out]
  go_wp2_with fail
  go_ret
  exact ⟨rfl, (Below.refl _ _).alloc (Nat.le_refl _) _⟩

set_option maxHeartbeats 400000 in
theorem goodNumbers_k1_yes (a b n m : Int) (w : World) (h : Hid (inR n 0 99 = true)) (g : Hid (inR m 0 (99) = true)) :
    Calls Try.prog 103 #[.agg #[.int .i64 1, .int .i64 a, .int .i64 b, .int .i64 n, .int .i64 m]] w fun e w' => e = .returned (.bool true) ∧ Below w.heap.size w w' := by
  go_enter Try.func103, Try.ntmps103
  go_wp2_with fail
  refine (specInR_any _ _ _ _).mono ?_
  rintro e w1 ⟨rfl, rfl⟩
  rw [h.out]
  go_wp2_with fail
  refine (specInR_any _ _ _ _).mono ?_
  rintro e w1 ⟨rfl, rfl⟩
  rw [g.out]
  go_wp2_with fail
  go_ret
  exact ⟨rfl, (Below.refl _ _).alloc (Nat.le_refl _) _⟩

set_option maxHeartbeats 400000 in
theorem goodNumbers_k2_no1 (a b n m : Int) (w : World) (h : Hid (inR n 1 30 = false)) :
    Calls Try.prog 103 #[.agg #[.int .i64 2, .int .i64 a, .int .i64 b, .int .i64 n, .int .i64 m]] w fun e w' => e = .returned (.bool false) ∧ Below w.heap.size w w' := by
  go_enter Try.func103, Try.ntmps103
  go_wp2_with (first | (go_at_call 92; refine (specInR_any _ _ _ _).mono ?_; rintro e w1 ⟨rfl, rfl⟩; rw [h.out]))
  go_ret
  exact ⟨rfl, (Below.refl _ _).alloc (Nat.le_refl _) _⟩

set_option maxHeartbeats 400000 in
theorem goodNumbers_k2_no2 (a b n m : Int) (w : World) (h : Hid (inR n 1 30 = true)) (g : Hid (inR m 0 (n - 1) = false)) (h1 : 1 ≤ n) (h2 : n ≤ 30) :
    Calls Try.prog 103 #[.agg #[.int .i64 2, .int .i64 a, .int .i64 b, .int .i64 n, .int .i64 m]] w fun e w' => e = .returned (.bool false) ∧ Below w.heap.size w w' := by
  go_enter Try.func103, Try.ntmps103
  go_wp2_with fail
  refine (specInR_any _ _ _ _).mono ?_
  rintro e w1 ⟨rfl, rfl⟩
  rw [h.out]
  go_wp2_with fail
  refine (specInR_any _ _ _ _).mono ?_
  rintro e w1 ⟨rfl, rfl⟩
  rw [g.out]
  go_wp2_with fail
  go_ret
  exact ⟨rfl, (Below.refl _ _).alloc (Nat.le_refl _) _⟩

set_option maxHeartbeats 400000 in
theorem goodNumbers_k2_yes (a b n m : Int) (w : World) (h : Hid (inR n 1 30 = true)) (g : Hid (inR m 0 (n - 1) = true)) (h1 : 1 ≤ n) (h2 : n ≤ 30) :
    Calls Try.prog 103 #[.agg #[.int .i64 2, .int .i64 a, .int .i64 b, .int .i64 n, .int .i64 m]] w fun e w' => e = .returned (.bool true) ∧ Below w.heap.size w w' := by
  go_enter Try.func103, Try.ntmps103
  go_wp2_with fail
  refine (specInR_any _ _ _ _).mono ?_
  rintro e w1 ⟨rfl, rfl⟩
  rw [h.out]
  go_wp2_with fail
  refine (specInR_any _ _ _ _).mono ?_
  rintro e w1 ⟨rfl, rfl⟩
  rw [g.out]
  go_wp2_with fail
  go_ret
  exact ⟨rfl, (Below.refl _ _).alloc (Nat.le_refl _) _⟩

set_option maxHeartbeats 400000 in
theorem goodNumbers_k3_no1 (a b n m : Int) (w : World) (h : Hid (inR n 0 30 = false)) :
    Calls Try.prog 103 #[.agg #[.int .i64 3, .int .i64 a, .int .i64 b, .int .i64 n, .int .i64 m]] w fun e w' => e = .returned (.bool false) ∧ Below w.heap.size w w' := by
  go_enter Try.func103, Try.ntmps103
  go_wp2_with (first | (go_at_call 92; refine (specInR_any _ _ _ _).mono ?_; rintro e w1 ⟨rfl, rfl⟩; rw [h.out]))
  go_ret
  exact ⟨rfl, (Below.refl _ _).alloc (Nat.le_refl _) _⟩

set_option maxHeartbeats 400000 in
theorem goodNumbers_k3_no2 (a b n m : Int) (w : World) (h : Hid (inR n 0 30 = true)) (hm : (m == 0) = false) :
    Calls Try.prog 103 #[.agg #[.int .i64 3, .int .i64 a, .int .i64 b, .int .i64 n, .int .i64 m]] w fun e w' => e = .returned (.bool false) ∧ Below w.heap.size w w' := by
  go_enter Try.func103, Try.ntmps103
  go_wp2_with (first | (go_at_call 92; refine (specInR_any _ _ _ _).mono ?_; rintro e w1 ⟨rfl, rfl⟩; rw [h.out]))
  go_ret
  exact ⟨rfl, (Below.refl _ _).alloc (Nat.le_refl _) _⟩

set_option maxHeartbeats 400000 in
theorem goodNumbers_k3_yes (a b n m : Int) (w : World) (h : Hid (inR n 0 30 = true)) (hm : (m == 0) = true) :
    Calls Try.prog 103 #[.agg #[.int .i64 3, .int .i64 a, .int .i64 b, .int .i64 n, .int .i64 m]] w fun e w' => e = .returned (.bool true) ∧ Below w.heap.size w w' := by
  go_enter Try.func103, Try.ntmps103
  go_wp2_with (first | (go_at_call 92; refine (specInR_any _ _ _ _).mono ?_; rintro e w1 ⟨rfl, rfl⟩; rw [h.out]))
  go_ret
  exact ⟨rfl, (Below.refl _ _).alloc (Nat.le_refl _) _⟩

set_option maxHeartbeats 400000 in
theorem goodNumbers_k4_no1 (a b n m : Int) (w : World) (h : Hid (inR n 0 30 = false)) :
    Calls Try.prog 103 #[.agg #[.int .i64 4, .int .i64 a, .int .i64 b, .int .i64 n, .int .i64 m]] w fun e w' => e = .returned (.bool false) ∧ Below w.heap.size w w' := by
  go_enter Try.func103, Try.ntmps103
  go_wp2_with (first | (go_at_call 92; refine (specInR_any _ _ _ _).mono ?_; rintro e w1 ⟨rfl, rfl⟩; rw [h.out]))
  go_ret
  exact ⟨rfl, (Below.refl _ _).alloc (Nat.le_refl _) _⟩

set_option maxHeartbeats 400000 in
theorem goodNumbers_k4_no2 (a b n m : Int) (w : World) (h : Hid (inR n 0 30 = true)) (hm : (m == 0) = false) :
    Calls Try.prog 103 #[.agg #[.int .i64 4, .int .i64 a, .int .i64 b, .int .i64 n, .int .i64 m]] w fun e w' => e = .returned (.bool false) ∧ Below w.heap.size w w' := by
  go_enter Try.func103, Try.ntmps103
  go_wp2_with (first | (go_at_call 92; refine (specInR_any _ _ _ _).mono ?_; rintro e w1 ⟨rfl, rfl⟩; rw [h.out]))
  go_ret
  exact ⟨rfl, (Below.refl _ _).alloc (Nat.le_refl _) _⟩

set_option maxHeartbeats 400000 in
theorem goodNumbers_k4_yes (a b n m : Int) (w : World) (h : Hid (inR n 0 30 = true)) (hm : (m == 0) = true) :
    Calls Try.prog 103 #[.agg #[.int .i64 4, .int .i64 a, .int .i64 b, .int .i64 n, .int .i64 m]] w fun e w' => e = .returned (.bool true) ∧ Below w.heap.size w w' := by
  go_enter Try.func103, Try.ntmps103
  go_wp2_with (first | (go_at_call 92; refine (specInR_any _ _ _ _).mono ?_; rintro e w1 ⟨rfl, rfl⟩; rw [h.out]))
  go_ret
  exact ⟨rfl, (Below.refl _ _).alloc (Nat.le_refl _) _⟩

set_option maxHeartbeats 400000 in
theorem goodNumbers_k5_no1 (a b n m : Int) (w : World) (h : Hid (inR n 0 99 = false)) :
    Calls Try.prog 103 #[.agg #[.int .i64 5, .int .i64 a, .int .i64 b, .int .i64 n, .int .i64 m]] w fun e w' => e = .returned (.bool false) ∧ Below w.heap.size w w' := by
  go_enter Try.func103, Try.ntmps103
  go_wp2_with (first | (go_at_call 92; refine (specInR_any _ _ _ _).mono ?_; rintro e w1 ⟨rfl, rfl⟩; rw [h.out]))
  go_ret
  exact ⟨rfl, (Below.refl _ _).alloc (Nat.le_refl _) _⟩

set_option maxHeartbeats 400000 in
theorem goodNumbers_k5_no2 (a b n m : Int) (w : World) (h : Hid (inR n 0 99 = true)) (hm : (m == 0) = false) :
    Calls Try.prog 103 #[.agg #[.int .i64 5, .int .i64 a, .int .i64 b, .int .i64 n, .int .i64 m]] w fun e w' => e = .returned (.bool false) ∧ Below w.heap.size w w' := by
  go_enter Try.func103, Try.ntmps103
  go_wp2_with (first | (go_at_call 92; refine (specInR_any _ _ _ _).mono ?_; rintro e w1 ⟨rfl, rfl⟩; rw [h.out]))
  go_ret
  exact ⟨rfl, (Below.refl _ _).alloc (Nat.le_refl _) _⟩

set_option maxHeartbeats 400000 in
theorem goodNumbers_k5_yes (a b n m : Int) (w : World) (h : Hid (inR n 0 99 = true)) (hm : (m == 0) = true) :
    Calls Try.prog 103 #[.agg #[.int .i64 5, .int .i64 a, .int .i64 b, .int .i64 n, .int .i64 m]] w fun e w' => e = .returned (.bool true) ∧ Below w.heap.size w w' := by
  go_enter Try.func103, Try.ntmps103
  go_wp2_with (first | (go_at_call 92; refine (specInR_any _ _ _ _).mono ?_; rintro e w1 ⟨rfl, rfl⟩; rw [h.out]))
  go_ret
  exact ⟨rfl, (Below.refl _ _).alloc (Nat.le_refl _) _⟩

set_option maxHeartbeats 400000 in
theorem goodNumbers_k6_no1 (a b n m : Int) (w : World) (h : Hid (inR n 0 99 = false)) :
    Calls Try.prog 103 #[.agg #[.int .i64 6, .int .i64 a, .int .i64 b, .int .i64 n, .int .i64 m]] w fun e w' => e = .returned (.bool false) ∧ Below w.heap.size w w' := by
  go_enter Try.func103, Try.ntmps103
  go_wp2_with (first | (go_at_call 92; refine (specInR_any _ _ _ _).mono ?_; rintro e w1 ⟨rfl, rfl⟩; rw [h.out]))
  go_ret
  exact ⟨rfl, (Below.refl _ _).alloc (Nat.le_refl _) _⟩

set_option maxHeartbeats 400000 in
theorem goodNumbers_k6_no2 (a b n m : Int) (w : World) (h : Hid (inR n 0 99 = true)) (hm : (m == 0) = false) :
    Calls Try.prog 103 #[.agg #[.int .i64 6, .int .i64 a, .int .i64 b, .int .i64 n, .int .i64 m]] w fun e w' => e = .returned (.bool false) ∧ Below w.heap.size w w' := by
  go_enter Try.func103, Try.ntmps103
  go_wp2_with (first | (go_at_call 92; refine (specInR_any _ _ _ _).mono ?_; rintro e w1 ⟨rfl, rfl⟩; rw [h.out]))
  go_ret
  exact ⟨rfl, (Below.refl _ _).alloc (Nat.le_refl _) _⟩

set_option maxHeartbeats 400000 in
theorem goodNumbers_k6_yes (a b n m : Int) (w : World) (h : Hid (inR n 0 99 = true)) (hm : (m == 0) = true) :
    Calls Try.prog 103 #[.agg #[.int .i64 6, .int .i64 a, .int .i64 b, .int .i64 n, .int .i64 m]] w fun e w' => e = .returned (.bool true) ∧ Below w.heap.size w w' := by
  go_enter Try.func103, Try.ntmps103
  go_wp2_with (first | (go_at_call 92; refine (specInR_any _ _ _ _).mono ?_; rintro e w1 ⟨rfl, rfl⟩; rw [h.out]))
  go_ret
  exact ⟨rfl, (Below.refl _ _).alloc (Nat.le_refl _) _⟩

set_option maxHeartbeats 400000 in
theorem goodNumbers_k12_no1 (a b n m : Int) (w : World) (h : Hid (inR n 1 30 = false)) :
    Calls Try.prog 103 #[.agg #[.int .i64 12, .int .i64 a, .int .i64 b, .int .i64 n, .int .i64 m]] w fun e w' => e = .returned (.bool false) ∧ Below w.heap.size w w' := by
  go_enter Try.func103, Try.ntmps103
  go_wp2_with (first | (go_at_call 92; refine (specInR_any _ _ _ _).mono ?_; rintro e w1 ⟨rfl, rfl⟩; rw [h.out]))
  go_ret
  exact ⟨rfl, (Below.refl _ _).alloc (Nat.le_refl _) _⟩

set_option maxHeartbeats 400000 in
theorem goodNumbers_k12_no2 (a b n m : Int) (w : World) (h : Hid (inR n 1 30 = true)) (hm : (m == 0) = false) :
    Calls Try.prog 103 #[.agg #[.int .i64 12, .int .i64 a, .int .i64 b, .int .i64 n, .int .i64 m]] w fun e w' => e = .returned (.bool false) ∧ Below w.heap.size w w' := by
  go_enter Try.func103, Try.ntmps103
  go_wp2_with (first | (go_at_call 92; refine (specInR_any _ _ _ _).mono ?_; rintro e w1 ⟨rfl, rfl⟩; rw [h.out]))
  go_ret
  exact ⟨rfl, (Below.refl _ _).alloc (Nat.le_refl _) _⟩

set_option maxHeartbeats 400000 in
theorem goodNumbers_k12_yes (a b n m : Int) (w : World) (h : Hid (inR n 1 30 = true)) (hm : (m == 0) = true) :
    Calls Try.prog 103 #[.agg #[.int .i64 12, .int .i64 a, .int .i64 b, .int .i64 n, .int .i64 m]] w fun e w' => e = .returned (.bool true) ∧ Below w.heap.size w w' := by
  go_enter Try.func103, Try.ntmps103
  go_wp2_with (first | (go_at_call 92; refine (specInR_any _ _ _ _).mono ?_; rintro e w1 ⟨rfl, rfl⟩; rw [h.out]))
  go_ret
  exact ⟨rfl, (Below.refl _ _).alloc (Nat.le_refl _) _⟩

set_option maxHeartbeats 400000 in
theorem goodNumbers_rest_no1 (a b n m : Int) (w : World) (k : Int) (h0 : (k == 0) = false) (h1 : (k == 1) = false) (h2 : (k == 2) = false) (h3 : (k == 3) = false) (h4 : (k == 4) = false) (h5 : (k == 5) = false) (h6 : (k == 6) = false) (h12 : (k == 12) = false) (hn : (n == 0) = false) :
    Calls Try.prog 103 #[.agg #[.int .i64 k, .int .i64 a, .int .i64 b, .int .i64 n, .int .i64 m]] w fun e w' => e = .returned (.bool false) ∧ Below w.heap.size w w' := by
  go_enter Try.func103, Try.ntmps103
  go_wp2
  go_ret
  exact ⟨rfl, (Below.refl _ _).alloc (Nat.le_refl _) _⟩

set_option maxHeartbeats 400000 in
theorem goodNumbers_rest_no2 (a b n m : Int) (w : World) (k : Int) (h0 : (k == 0) = false) (h1 : (k == 1) = false) (h2 : (k == 2) = false) (h3 : (k == 3) = false) (h4 : (k == 4) = false) (h5 : (k == 5) = false) (h6 : (k == 6) = false) (h12 : (k == 12) = false) (hn : (n == 0) = true) (hm : (m == 0) = false) :
    Calls Try.prog 103 #[.agg #[.int .i64 k, .int .i64 a, .int .i64 b, .int .i64 n, .int .i64 m]] w fun e w' => e = .returned (.bool false) ∧ Below w.heap.size w w' := by
  go_enter Try.func103, Try.ntmps103
  go_wp2
  go_ret
  exact ⟨rfl, (Below.refl _ _).alloc (Nat.le_refl _) _⟩

set_option maxHeartbeats 400000 in
theorem goodNumbers_rest_yes (a b n m : Int) (w : World) (k : Int) (h0 : (k == 0) = false) (h1 : (k == 1) = false) (h2 : (k == 2) = false) (h3 : (k == 3) = false) (h4 : (k == 4) = false) (h5 : (k == 5) = false) (h6 : (k == 6) = false) (h12 : (k == 12) = false) (hn : (n == 0) = true) (hm : (m == 0) = true) :
    Calls Try.prog 103 #[.agg #[.int .i64 k, .int .i64 a, .int .i64 b, .int .i64 n, .int .i64 m]] w fun e w' => e = .returned (.bool true) ∧ Below w.heap.size w w' := by
  go_enter Try.func103, Try.ntmps103
  go_wp2
  go_ret
  exact ⟨rfl, (Below.refl _ _).alloc (Nat.le_refl _) _⟩

set_option maxHeartbeats 400000 in
theorem numbersFit_k0_no1 (a b n m : Int) (w : World) (h : Hid (inR n 0 2 = false)) :
    Calls Try.prog 83 #[.agg #[.int .i64 0, .int .i64 a, .int .i64 b, .int .i64 n, .int .i64 m]] w fun e w' => e = .returned (.bool false) ∧ Below w.heap.size w w' := by
  go_enter Try.func83, Try.ntmps83
  go_wp2_with (first | (go_at_call 82; refine (within_any _ _ _ _).mono ?_; rintro e w1 ⟨rfl, rfl⟩; rw [h.out]))
  go_ret
  exact ⟨rfl, (Below.refl _ _).alloc (Nat.le_refl _) _⟩

set_option maxHeartbeats 400000 in
theorem numbersFit_k0_no2 (a b n m : Int) (w : World) (h : Hid (inR n 0 2 = true)) (hm : (m == 0) = false) :
    Calls Try.prog 83 #[.agg #[.int .i64 0, .int .i64 a, .int .i64 b, .int .i64 n, .int .i64 m]] w fun e w' => e = .returned (.bool false) ∧ Below w.heap.size w w' := by
  go_enter Try.func83, Try.ntmps83
  go_wp2_with (first | (go_at_call 82; refine (within_any _ _ _ _).mono ?_; rintro e w1 ⟨rfl, rfl⟩; rw [h.out]))
  go_ret
  exact ⟨rfl, (Below.refl _ _).alloc (Nat.le_refl _) _⟩

set_option maxHeartbeats 400000 in
theorem numbersFit_k0_yes (a b n m : Int) (w : World) (h : Hid (inR n 0 2 = true)) (hm : (m == 0) = true) :
    Calls Try.prog 83 #[.agg #[.int .i64 0, .int .i64 a, .int .i64 b, .int .i64 n, .int .i64 m]] w fun e w' => e = .returned (.bool true) ∧ Below w.heap.size w w' := by
  go_enter Try.func83, Try.ntmps83
  go_wp2_with (first | (go_at_call 82; refine (within_any _ _ _ _).mono ?_; rintro e w1 ⟨rfl, rfl⟩; rw [h.out]))
  go_ret
  exact ⟨rfl, (Below.refl _ _).alloc (Nat.le_refl _) _⟩

set_option maxHeartbeats 400000 in
theorem numbersFit_k1_no1 (a b n m : Int) (w : World) (h : Hid (inR n 0 99 = false)) :
    Calls Try.prog 83 #[.agg #[.int .i64 1, .int .i64 a, .int .i64 b, .int .i64 n, .int .i64 m]] w fun e w' => e = .returned (.bool false) ∧ Below w.heap.size w w' := by
  go_enter Try.func83, Try.ntmps83
  go_wp2_with (first | (go_at_call 82; refine (within_any _ _ _ _).mono ?_; rintro e w1 ⟨rfl, rfl⟩; rw [h.out]))
  go_ret
  exact ⟨rfl, (Below.refl _ _).alloc (Nat.le_refl _) _⟩

set_option maxHeartbeats 400000 in
theorem numbersFit_k1_no2 (a b n m : Int) (w : World) (h : Hid (inR n 0 99 = true)) (g : Hid (inR m 0 (99) = false)) :
    Calls Try.prog 83 #[.agg #[.int .i64 1, .int .i64 a, .int .i64 b, .int .i64 n, .int .i64 m]] w fun e w' => e = .returned (.bool false) ∧ Below w.heap.size w w' := by
  go_enter Try.func83, Try.ntmps83
  go_wp2_with fail
  refine (within_any _ _ _ _).mono ?_
  rintro e w1 ⟨rfl, rfl⟩
  rw [h.out]
  go_wp2_with fail
  refine (within_any _ _ _ _).mono ?_
  rintro e w1 ⟨rfl, rfl⟩
  rw [g.out]
  go_wp2_with fail
  go_ret
  exact ⟨rfl, (Below.refl _ _).alloc (Nat.le_refl _) _⟩

set_option maxHeartbeats 400000 in
theorem numbersFit_k1_yes (a b n m : Int) (w : World) (h : Hid (inR n 0 99 = true)) (g : Hid (inR m 0 (99) = true)) :
    Calls Try.prog 83 #[.agg #[.int .i64 1, .int .i64 a, .int .i64 b, .int .i64 n, .int .i64 m]] w fun e w' => e = .returned (.bool true) ∧ Below w.heap.size w w' := by
  go_enter Try.func83, Try.ntmps83
  go_wp2_with fail
  refine (within_any _ _ _ _).mono ?_
  rintro e w1 ⟨rfl, rfl⟩
  rw [h.out]
  go_wp2_with fail
  refine (within_any _ _ _ _).mono ?_
  rintro e w1 ⟨rfl, rfl⟩
  rw [g.out]
  go_wp2_with fail
  go_ret
  exact ⟨rfl, (Below.refl _ _).alloc (Nat.le_refl _) _⟩

set_option maxHeartbeats 400000 in
theorem numbersFit_k2_no1 (a b n m : Int) (w : World) (h : Hid (inR n 1 30 = false)) :
    Calls Try.prog 83 #[.agg #[.int .i64 2, .int .i64 a, .int .i64 b, .int .i64 n, .int .i64 m]] w fun e w' => e = .returned (.bool false) ∧ Below w.heap.size w w' := by
  go_enter Try.func83, Try.ntmps83
  go_wp2_with (first | (go_at_call 82; refine (within_any _ _ _ _).mono ?_; rintro e w1 ⟨rfl, rfl⟩; rw [h.out]))
  go_ret
  exact ⟨rfl, (Below.refl _ _).alloc (Nat.le_refl _) _⟩

set_option maxHeartbeats 400000 in
theorem numbersFit_k2_no2 (a b n m : Int) (w : World) (h : Hid (inR n 1 30 = true)) (g : Hid (inR m 0 (n - 1) = false)) (h1 : 1 ≤ n) (h2 : n ≤ 30) :
    Calls Try.prog 83 #[.agg #[.int .i64 2, .int .i64 a, .int .i64 b, .int .i64 n, .int .i64 m]] w fun e w' => e = .returned (.bool false) ∧ Below w.heap.size w w' := by
  go_enter Try.func83, Try.ntmps83
  go_wp2_with fail
  refine (within_any _ _ _ _).mono ?_
  rintro e w1 ⟨rfl, rfl⟩
  rw [h.out]
  go_wp2_with fail
  refine (within_any _ _ _ _).mono ?_
  rintro e w1 ⟨rfl, rfl⟩
  rw [g.out]
  go_wp2_with fail
  go_ret
  exact ⟨rfl, (Below.refl _ _).alloc (Nat.le_refl _) _⟩

set_option maxHeartbeats 400000 in
theorem numbersFit_k2_yes (a b n m : Int) (w : World) (h : Hid (inR n 1 30 = true)) (g : Hid (inR m 0 (n - 1) = true)) (h1 : 1 ≤ n) (h2 : n ≤ 30) :
    Calls Try.prog 83 #[.agg #[.int .i64 2, .int .i64 a, .int .i64 b, .int .i64 n, .int .i64 m]] w fun e w' => e = .returned (.bool true) ∧ Below w.heap.size w w' := by
  go_enter Try.func83, Try.ntmps83
  go_wp2_with fail
  refine (within_any _ _ _ _).mono ?_
  rintro e w1 ⟨rfl, rfl⟩
  rw [h.out]
  go_wp2_with fail
  refine (within_any _ _ _ _).mono ?_
  rintro e w1 ⟨rfl, rfl⟩
  rw [g.out]
  go_wp2_with fail
  go_ret
  exact ⟨rfl, (Below.refl _ _).alloc (Nat.le_refl _) _⟩

set_option maxHeartbeats 400000 in
theorem numbersFit_k3_no1 (a b n m : Int) (w : World) (h : Hid (inR n 0 30 = false)) :
    Calls Try.prog 83 #[.agg #[.int .i64 3, .int .i64 a, .int .i64 b, .int .i64 n, .int .i64 m]] w fun e w' => e = .returned (.bool false) ∧ Below w.heap.size w w' := by
  go_enter Try.func83, Try.ntmps83
  go_wp2_with (first | (go_at_call 82; refine (within_any _ _ _ _).mono ?_; rintro e w1 ⟨rfl, rfl⟩; rw [h.out]))
  go_ret
  exact ⟨rfl, (Below.refl _ _).alloc (Nat.le_refl _) _⟩

set_option maxHeartbeats 400000 in
theorem numbersFit_k3_no2 (a b n m : Int) (w : World) (h : Hid (inR n 0 30 = true)) (hm : (m == 0) = false) :
    Calls Try.prog 83 #[.agg #[.int .i64 3, .int .i64 a, .int .i64 b, .int .i64 n, .int .i64 m]] w fun e w' => e = .returned (.bool false) ∧ Below w.heap.size w w' := by
  go_enter Try.func83, Try.ntmps83
  go_wp2_with (first | (go_at_call 82; refine (within_any _ _ _ _).mono ?_; rintro e w1 ⟨rfl, rfl⟩; rw [h.out]))
  go_ret
  exact ⟨rfl, (Below.refl _ _).alloc (Nat.le_refl _) _⟩

set_option maxHeartbeats 400000 in
theorem numbersFit_k3_yes (a b n m : Int) (w : World) (h : Hid (inR n 0 30 = true)) (hm : (m == 0) = true) :
    Calls Try.prog 83 #[.agg #[.int .i64 3, .int .i64 a, .int .i64 b, .int .i64 n, .int .i64 m]] w fun e w' => e = .returned (.bool true) ∧ Below w.heap.size w w' := by
  go_enter Try.func83, Try.ntmps83
  go_wp2_with (first | (go_at_call 82; refine (within_any _ _ _ _).mono ?_; rintro e w1 ⟨rfl, rfl⟩; rw [h.out]))
  go_ret
  exact ⟨rfl, (Below.refl _ _).alloc (Nat.le_refl _) _⟩

set_option maxHeartbeats 400000 in
theorem numbersFit_k4_no1 (a b n m : Int) (w : World) (h : Hid (inR n 0 30 = false)) :
    Calls Try.prog 83 #[.agg #[.int .i64 4, .int .i64 a, .int .i64 b, .int .i64 n, .int .i64 m]] w fun e w' => e = .returned (.bool false) ∧ Below w.heap.size w w' := by
  go_enter Try.func83, Try.ntmps83
  go_wp2_with (first | (go_at_call 82; refine (within_any _ _ _ _).mono ?_; rintro e w1 ⟨rfl, rfl⟩; rw [h.out]))
  go_ret
  exact ⟨rfl, (Below.refl _ _).alloc (Nat.le_refl _) _⟩

set_option maxHeartbeats 400000 in
theorem numbersFit_k4_no2 (a b n m : Int) (w : World) (h : Hid (inR n 0 30 = true)) (hm : (m == 0) = false) :
    Calls Try.prog 83 #[.agg #[.int .i64 4, .int .i64 a, .int .i64 b, .int .i64 n, .int .i64 m]] w fun e w' => e = .returned (.bool false) ∧ Below w.heap.size w w' := by
  go_enter Try.func83, Try.ntmps83
  go_wp2_with (first | (go_at_call 82; refine (within_any _ _ _ _).mono ?_; rintro e w1 ⟨rfl, rfl⟩; rw [h.out]))
  go_ret
  exact ⟨rfl, (Below.refl _ _).alloc (Nat.le_refl _) _⟩

set_option maxHeartbeats 400000 in
theorem numbersFit_k4_yes (a b n m : Int) (w : World) (h : Hid (inR n 0 30 = true)) (hm : (m == 0) = true) :
    Calls Try.prog 83 #[.agg #[.int .i64 4, .int .i64 a, .int .i64 b, .int .i64 n, .int .i64 m]] w fun e w' => e = .returned (.bool true) ∧ Below w.heap.size w w' := by
  go_enter Try.func83, Try.ntmps83
  go_wp2_with (first | (go_at_call 82; refine (within_any _ _ _ _).mono ?_; rintro e w1 ⟨rfl, rfl⟩; rw [h.out]))
  go_ret
  exact ⟨rfl, (Below.refl _ _).alloc (Nat.le_refl _) _⟩

set_option maxHeartbeats 400000 in
theorem numbersFit_k5_no1 (a b n m : Int) (w : World) (h : Hid (inR n 0 99 = false)) :
    Calls Try.prog 83 #[.agg #[.int .i64 5, .int .i64 a, .int .i64 b, .int .i64 n, .int .i64 m]] w fun e w' => e = .returned (.bool false) ∧ Below w.heap.size w w' := by
  go_enter Try.func83, Try.ntmps83
  go_wp2_with (first | (go_at_call 82; refine (within_any _ _ _ _).mono ?_; rintro e w1 ⟨rfl, rfl⟩; rw [h.out]))
  go_ret
  exact ⟨rfl, (Below.refl _ _).alloc (Nat.le_refl _) _⟩

set_option maxHeartbeats 400000 in
theorem numbersFit_k5_no2 (a b n m : Int) (w : World) (h : Hid (inR n 0 99 = true)) (hm : (m == 0) = false) :
    Calls Try.prog 83 #[.agg #[.int .i64 5, .int .i64 a, .int .i64 b, .int .i64 n, .int .i64 m]] w fun e w' => e = .returned (.bool false) ∧ Below w.heap.size w w' := by
  go_enter Try.func83, Try.ntmps83
  go_wp2_with (first | (go_at_call 82; refine (within_any _ _ _ _).mono ?_; rintro e w1 ⟨rfl, rfl⟩; rw [h.out]))
  go_ret
  exact ⟨rfl, (Below.refl _ _).alloc (Nat.le_refl _) _⟩

set_option maxHeartbeats 400000 in
theorem numbersFit_k5_yes (a b n m : Int) (w : World) (h : Hid (inR n 0 99 = true)) (hm : (m == 0) = true) :
    Calls Try.prog 83 #[.agg #[.int .i64 5, .int .i64 a, .int .i64 b, .int .i64 n, .int .i64 m]] w fun e w' => e = .returned (.bool true) ∧ Below w.heap.size w w' := by
  go_enter Try.func83, Try.ntmps83
  go_wp2_with (first | (go_at_call 82; refine (within_any _ _ _ _).mono ?_; rintro e w1 ⟨rfl, rfl⟩; rw [h.out]))
  go_ret
  exact ⟨rfl, (Below.refl _ _).alloc (Nat.le_refl _) _⟩

set_option maxHeartbeats 400000 in
theorem numbersFit_k6_no1 (a b n m : Int) (w : World) (h : Hid (inR n 0 99 = false)) :
    Calls Try.prog 83 #[.agg #[.int .i64 6, .int .i64 a, .int .i64 b, .int .i64 n, .int .i64 m]] w fun e w' => e = .returned (.bool false) ∧ Below w.heap.size w w' := by
  go_enter Try.func83, Try.ntmps83
  go_wp2_with (first | (go_at_call 82; refine (within_any _ _ _ _).mono ?_; rintro e w1 ⟨rfl, rfl⟩; rw [h.out]))
  go_ret
  exact ⟨rfl, (Below.refl _ _).alloc (Nat.le_refl _) _⟩

set_option maxHeartbeats 400000 in
theorem numbersFit_k6_no2 (a b n m : Int) (w : World) (h : Hid (inR n 0 99 = true)) (hm : (m == 0) = false) :
    Calls Try.prog 83 #[.agg #[.int .i64 6, .int .i64 a, .int .i64 b, .int .i64 n, .int .i64 m]] w fun e w' => e = .returned (.bool false) ∧ Below w.heap.size w w' := by
  go_enter Try.func83, Try.ntmps83
  go_wp2_with (first | (go_at_call 82; refine (within_any _ _ _ _).mono ?_; rintro e w1 ⟨rfl, rfl⟩; rw [h.out]))
  go_ret
  exact ⟨rfl, (Below.refl _ _).alloc (Nat.le_refl _) _⟩

set_option maxHeartbeats 400000 in
theorem numbersFit_k6_yes (a b n m : Int) (w : World) (h : Hid (inR n 0 99 = true)) (hm : (m == 0) = true) :
    Calls Try.prog 83 #[.agg #[.int .i64 6, .int .i64 a, .int .i64 b, .int .i64 n, .int .i64 m]] w fun e w' => e = .returned (.bool true) ∧ Below w.heap.size w w' := by
  go_enter Try.func83, Try.ntmps83
  go_wp2_with (first | (go_at_call 82; refine (within_any _ _ _ _).mono ?_; rintro e w1 ⟨rfl, rfl⟩; rw [h.out]))
  go_ret
  exact ⟨rfl, (Below.refl _ _).alloc (Nat.le_refl _) _⟩

set_option maxHeartbeats 400000 in
theorem numbersFit_k12_no1 (a b n m : Int) (w : World) (h : Hid (inR n 1 30 = false)) :
    Calls Try.prog 83 #[.agg #[.int .i64 12, .int .i64 a, .int .i64 b, .int .i64 n, .int .i64 m]] w fun e w' => e = .returned (.bool false) ∧ Below w.heap.size w w' := by
  go_enter Try.func83, Try.ntmps83
  go_wp2_with (first | (go_at_call 82; refine (within_any _ _ _ _).mono ?_; rintro e w1 ⟨rfl, rfl⟩; rw [h.out]))
  go_ret
  exact ⟨rfl, (Below.refl _ _).alloc (Nat.le_refl _) _⟩

set_option maxHeartbeats 400000 in
theorem numbersFit_k12_no2 (a b n m : Int) (w : World) (h : Hid (inR n 1 30 = true)) (hm : (m == 0) = false) :
    Calls Try.prog 83 #[.agg #[.int .i64 12, .int .i64 a, .int .i64 b, .int .i64 n, .int .i64 m]] w fun e w' => e = .returned (.bool false) ∧ Below w.heap.size w w' := by
  go_enter Try.func83, Try.ntmps83
  go_wp2_with (first | (go_at_call 82; refine (within_any _ _ _ _).mono ?_; rintro e w1 ⟨rfl, rfl⟩; rw [h.out]))
  go_ret
  exact ⟨rfl, (Below.refl _ _).alloc (Nat.le_refl _) _⟩

set_option maxHeartbeats 400000 in
theorem numbersFit_k12_yes (a b n m : Int) (w : World) (h : Hid (inR n 1 30 = true)) (hm : (m == 0) = true) :
    Calls Try.prog 83 #[.agg #[.int .i64 12, .int .i64 a, .int .i64 b, .int .i64 n, .int .i64 m]] w fun e w' => e = .returned (.bool true) ∧ Below w.heap.size w w' := by
  go_enter Try.func83, Try.ntmps83
  go_wp2_with (first | (go_at_call 82; refine (within_any _ _ _ _).mono ?_; rintro e w1 ⟨rfl, rfl⟩; rw [h.out]))
  go_ret
  exact ⟨rfl, (Below.refl _ _).alloc (Nat.le_refl _) _⟩

set_option maxHeartbeats 400000 in
theorem numbersFit_k7_no1 (a b n m : Int) (w : World) (hn : (n == 0) = false) :
    Calls Try.prog 83 #[.agg #[.int .i64 7, .int .i64 a, .int .i64 b, .int .i64 n, .int .i64 m]] w fun e w' => e = .returned (.bool false) ∧ Below w.heap.size w w' := by
  go_enter Try.func83, Try.ntmps83
  go_wp2
  go_ret
  exact ⟨rfl, (Below.refl _ _).alloc (Nat.le_refl _) _⟩

set_option maxHeartbeats 400000 in
theorem numbersFit_k7_no2 (a b n m : Int) (w : World) (hn : (n == 0) = true) (hm : (m == 0) = false) :
    Calls Try.prog 83 #[.agg #[.int .i64 7, .int .i64 a, .int .i64 b, .int .i64 n, .int .i64 m]] w fun e w' => e = .returned (.bool false) ∧ Below w.heap.size w w' := by
  go_enter Try.func83, Try.ntmps83
  go_wp2
  go_ret
  exact ⟨rfl, (Below.refl _ _).alloc (Nat.le_refl _) _⟩

set_option maxHeartbeats 400000 in
theorem numbersFit_k7_yes (a b n m : Int) (w : World) (hn : (n == 0) = true) (hm : (m == 0) = true) :
    Calls Try.prog 83 #[.agg #[.int .i64 7, .int .i64 a, .int .i64 b, .int .i64 n, .int .i64 m]] w fun e w' => e = .returned (.bool true) ∧ Below w.heap.size w w' := by
  go_enter Try.func83, Try.ntmps83
  go_wp2
  go_ret
  exact ⟨rfl, (Below.refl _ _).alloc (Nat.le_refl _) _⟩

set_option maxHeartbeats 400000 in
theorem numbersFit_k8_no1 (a b n m : Int) (w : World) (hn : (n == 0) = false) :
    Calls Try.prog 83 #[.agg #[.int .i64 8, .int .i64 a, .int .i64 b, .int .i64 n, .int .i64 m]] w fun e w' => e = .returned (.bool false) ∧ Below w.heap.size w w' := by
  go_enter Try.func83, Try.ntmps83
  go_wp2
  go_ret
  exact ⟨rfl, (Below.refl _ _).alloc (Nat.le_refl _) _⟩

set_option maxHeartbeats 400000 in
theorem numbersFit_k8_no2 (a b n m : Int) (w : World) (hn : (n == 0) = true) (hm : (m == 0) = false) :
    Calls Try.prog 83 #[.agg #[.int .i64 8, .int .i64 a, .int .i64 b, .int .i64 n, .int .i64 m]] w fun e w' => e = .returned (.bool false) ∧ Below w.heap.size w w' := by
  go_enter Try.func83, Try.ntmps83
  go_wp2
  go_ret
  exact ⟨rfl, (Below.refl _ _).alloc (Nat.le_refl _) _⟩

set_option maxHeartbeats 400000 in
theorem numbersFit_k8_yes (a b n m : Int) (w : World) (hn : (n == 0) = true) (hm : (m == 0) = true) :
    Calls Try.prog 83 #[.agg #[.int .i64 8, .int .i64 a, .int .i64 b, .int .i64 n, .int .i64 m]] w fun e w' => e = .returned (.bool true) ∧ Below w.heap.size w w' := by
  go_enter Try.func83, Try.ntmps83
  go_wp2
  go_ret
  exact ⟨rfl, (Below.refl _ _).alloc (Nat.le_refl _) _⟩

set_option maxHeartbeats 400000 in
theorem numbersFit_k9_no1 (a b n m : Int) (w : World) (hn : (n == 0) = false) :
    Calls Try.prog 83 #[.agg #[.int .i64 9, .int .i64 a, .int .i64 b, .int .i64 n, .int .i64 m]] w fun e w' => e = .returned (.bool false) ∧ Below w.heap.size w w' := by
  go_enter Try.func83, Try.ntmps83
  go_wp2
  go_ret
  exact ⟨rfl, (Below.refl _ _).alloc (Nat.le_refl _) _⟩

set_option maxHeartbeats 400000 in
theorem numbersFit_k9_no2 (a b n m : Int) (w : World) (hn : (n == 0) = true) (hm : (m == 0) = false) :
    Calls Try.prog 83 #[.agg #[.int .i64 9, .int .i64 a, .int .i64 b, .int .i64 n, .int .i64 m]] w fun e w' => e = .returned (.bool false) ∧ Below w.heap.size w w' := by
  go_enter Try.func83, Try.ntmps83
  go_wp2
  go_ret
  exact ⟨rfl, (Below.refl _ _).alloc (Nat.le_refl _) _⟩

set_option maxHeartbeats 400000 in
theorem numbersFit_k9_yes (a b n m : Int) (w : World) (hn : (n == 0) = true) (hm : (m == 0) = true) :
    Calls Try.prog 83 #[.agg #[.int .i64 9, .int .i64 a, .int .i64 b, .int .i64 n, .int .i64 m]] w fun e w' => e = .returned (.bool true) ∧ Below w.heap.size w w' := by
  go_enter Try.func83, Try.ntmps83
  go_wp2
  go_ret
  exact ⟨rfl, (Below.refl _ _).alloc (Nat.le_refl _) _⟩

set_option maxHeartbeats 400000 in
theorem numbersFit_k10_no1 (a b n m : Int) (w : World) (hn : (n == 0) = false) :
    Calls Try.prog 83 #[.agg #[.int .i64 10, .int .i64 a, .int .i64 b, .int .i64 n, .int .i64 m]] w fun e w' => e = .returned (.bool false) ∧ Below w.heap.size w w' := by
  go_enter Try.func83, Try.ntmps83
  go_wp2
  go_ret
  exact ⟨rfl, (Below.refl _ _).alloc (Nat.le_refl _) _⟩

set_option maxHeartbeats 400000 in
theorem numbersFit_k10_no2 (a b n m : Int) (w : World) (hn : (n == 0) = true) (hm : (m == 0) = false) :
    Calls Try.prog 83 #[.agg #[.int .i64 10, .int .i64 a, .int .i64 b, .int .i64 n, .int .i64 m]] w fun e w' => e = .returned (.bool false) ∧ Below w.heap.size w w' := by
  go_enter Try.func83, Try.ntmps83
  go_wp2
  go_ret
  exact ⟨rfl, (Below.refl _ _).alloc (Nat.le_refl _) _⟩

set_option maxHeartbeats 400000 in
theorem numbersFit_k10_yes (a b n m : Int) (w : World) (hn : (n == 0) = true) (hm : (m == 0) = true) :
    Calls Try.prog 83 #[.agg #[.int .i64 10, .int .i64 a, .int .i64 b, .int .i64 n, .int .i64 m]] w fun e w' => e = .returned (.bool true) ∧ Below w.heap.size w w' := by
  go_enter Try.func83, Try.ntmps83
  go_wp2
  go_ret
  exact ⟨rfl, (Below.refl _ _).alloc (Nat.le_refl _) _⟩

set_option maxHeartbeats 400000 in
theorem numbersFit_k11_no1 (a b n m : Int) (w : World) (hn : (n == 0) = false) :
    Calls Try.prog 83 #[.agg #[.int .i64 11, .int .i64 a, .int .i64 b, .int .i64 n, .int .i64 m]] w fun e w' => e = .returned (.bool false) ∧ Below w.heap.size w w' := by
  go_enter Try.func83, Try.ntmps83
  go_wp2
  go_ret
  exact ⟨rfl, (Below.refl _ _).alloc (Nat.le_refl _) _⟩

set_option maxHeartbeats 400000 in
theorem numbersFit_k11_no2 (a b n m : Int) (w : World) (hn : (n == 0) = true) (hm : (m == 0) = false) :
    Calls Try.prog 83 #[.agg #[.int .i64 11, .int .i64 a, .int .i64 b, .int .i64 n, .int .i64 m]] w fun e w' => e = .returned (.bool false) ∧ Below w.heap.size w w' := by
  go_enter Try.func83, Try.ntmps83
  go_wp2
  go_ret
  exact ⟨rfl, (Below.refl _ _).alloc (Nat.le_refl _) _⟩

set_option maxHeartbeats 400000 in
theorem numbersFit_k11_yes (a b n m : Int) (w : World) (hn : (n == 0) = true) (hm : (m == 0) = true) :
    Calls Try.prog 83 #[.agg #[.int .i64 11, .int .i64 a, .int .i64 b, .int .i64 n, .int .i64 m]] w fun e w' => e = .returned (.bool true) ∧ Below w.heap.size w w' := by
  go_enter Try.func83, Try.ntmps83
  go_wp2
  go_ret
  exact ⟨rfl, (Below.refl _ _).alloc (Nat.le_refl _) _⟩

set_option maxHeartbeats 400000 in
theorem numbersFit_k13_no1 (a b n m : Int) (w : World) (hn : (n == 0) = false) :
    Calls Try.prog 83 #[.agg #[.int .i64 13, .int .i64 a, .int .i64 b, .int .i64 n, .int .i64 m]] w fun e w' => e = .returned (.bool false) ∧ Below w.heap.size w w' := by
  go_enter Try.func83, Try.ntmps83
  go_wp2
  go_ret
  exact ⟨rfl, (Below.refl _ _).alloc (Nat.le_refl _) _⟩

set_option maxHeartbeats 400000 in
theorem numbersFit_k13_no2 (a b n m : Int) (w : World) (hn : (n == 0) = true) (hm : (m == 0) = false) :
    Calls Try.prog 83 #[.agg #[.int .i64 13, .int .i64 a, .int .i64 b, .int .i64 n, .int .i64 m]] w fun e w' => e = .returned (.bool false) ∧ Below w.heap.size w w' := by
  go_enter Try.func83, Try.ntmps83
  go_wp2
  go_ret
  exact ⟨rfl, (Below.refl _ _).alloc (Nat.le_refl _) _⟩

set_option maxHeartbeats 400000 in
theorem numbersFit_k13_yes (a b n m : Int) (w : World) (hn : (n == 0) = true) (hm : (m == 0) = true) :
    Calls Try.prog 83 #[.agg #[.int .i64 13, .int .i64 a, .int .i64 b, .int .i64 n, .int .i64 m]] w fun e w' => e = .returned (.bool true) ∧ Below w.heap.size w w' := by
  go_enter Try.func83, Try.ntmps83
  go_wp2
  go_ret
  exact ⟨rfl, (Below.refl _ _).alloc (Nat.le_refl _) _⟩

set_option maxHeartbeats 400000 in
theorem numbersFit_none (a b n m : Int) (w : World) (k : Int) (h0 : (k == 0) = false) (h1 : (k == 1) = false) (h2 : (k == 2) = false) (h3 : (k == 3) = false) (h4 : (k == 4) = false) (h5 : (k == 5) = false) (h6 : (k == 6) = false) (h12 : (k == 12) = false) (h7 : (k == 7) = false) (h8 : (k == 8) = false) (h9 : (k == 9) = false) (h10 : (k == 10) = false) (h11 : (k == 11) = false) (h13 : (k == 13) = false) :
    Calls Try.prog 83 #[.agg #[.int .i64 k, .int .i64 a, .int .i64 b, .int .i64 n, .int .i64 m]] w fun e w' => e = .returned (.bool false) ∧ Below w.heap.size w w' := by
  go_enter Try.func83, Try.ntmps83
  go_wp2
  go_ret
  exact ⟨rfl, (Below.refl _ _).alloc (Nat.le_refl _) _⟩

end Go.Proofs.Ytnmekcifbmcdpaa

/- Contracts: the numbers of a node, in one; how many nodes are below a kind; whether the nodes below are earlier ones. -/
namespace Go.Proofs.Ytnmekcifbmcdpaa
open Go.RowKit

/-- A kind is one of fourteen, or none of them. -/
theorem kinds (k : Int) : (k = 0 ∨ k = 1 ∨ k = 2 ∨ k = 3 ∨ k = 4 ∨ k = 5 ∨ k = 6 ∨ k = 7 ∨ k = 8 ∨ k = 9 ∨ k = 10 ∨ k = 11 ∨ k = 12 ∨ k = 13) ∨
    ((k == 0) = false ∧ (k == 1) = false ∧ (k == 2) = false ∧ (k == 3) = false ∧ (k == 4) = false ∧ (k == 5) = false ∧ (k == 6) = false ∧ (k == 7) = false ∧ (k == 8) = false ∧ (k == 9) = false ∧ (k == 10) = false ∧ (k == 11) = false ∧ (k == 12) = false ∧ (k == 13) = false) := by
  simp only [beq_eq_false_iff_ne, ne_eq]
  omega

theorem num_two {b c1 c2 v1 v2 r : Bool} (e : b = (c1 && c2)) (h : c1 = v1) (g : c2 = v2) (hr : (v1 && v2) = r := by rfl) : r = b := by rw [e, h, g, hr]
theorem num_one {b c1 c2 : Bool} (e : b = (c1 && c2)) (h : c1 = false) : false = b := by rw [e, h]; rfl

theorem specNums_kind (k a b n m : Int) (w : World) :
    Calls Try.prog 103 #[.agg #[.int .i64 k, .int .i64 a, .int .i64 b, .int .i64 n, .int .i64 m]] w fun e w' => e = .returned (.bool (numsOk ⟨k, a, b, n, m⟩)) ∧ Below w.heap.size w w' := by
  rcases kinds k with (rfl | rfl | rfl | rfl | rfl | rfl | rfl | rfl | rfl | rfl | rfl | rfl | rfl | rfl) | ⟨e0, e1, e2, e3, e4, e5, e6, e7, e8, e9, e10, e11, e12, e13⟩
  · cases h : inR n 0 2
    · exact (goodNumbers_k0_no1 a b n m w (Lib.hid h)).mono fun e w' ⟨he, hb⟩ => ⟨by rw [he]; exact ret_bool (num_one rfl h), hb⟩
    · cases g : (m == 0)
      · exact (goodNumbers_k0_no2 a b n m w (Lib.hid h) g).mono fun e w' ⟨he, hb⟩ => ⟨by rw [he]; exact ret_bool (num_two rfl h g), hb⟩
      · exact (goodNumbers_k0_yes a b n m w (Lib.hid h) g).mono fun e w' ⟨he, hb⟩ => ⟨by rw [he]; exact ret_bool (num_two rfl h g), hb⟩
  · cases h : inR n 0 99
    · exact (goodNumbers_k1_no1 a b n m w (Lib.hid h)).mono fun e w' ⟨he, hb⟩ => ⟨by rw [he]; exact ret_bool (num_one rfl h), hb⟩
    · cases g : inR m 0 (99)
      · exact (goodNumbers_k1_no2 a b n m w (Lib.hid h) (Lib.hid g)).mono fun e w' ⟨he, hb⟩ => ⟨by rw [he]; exact ret_bool (num_two rfl h g), hb⟩
      · exact (goodNumbers_k1_yes a b n m w (Lib.hid h) (Lib.hid g)).mono fun e w' ⟨he, hb⟩ => ⟨by rw [he]; exact ret_bool (num_two rfl h g), hb⟩
  · cases h : inR n 1 30
    · exact (goodNumbers_k2_no1 a b n m w (Lib.hid h)).mono fun e w' ⟨he, hb⟩ => ⟨by rw [he]; exact ret_bool (num_one rfl h), hb⟩
    · cases g : inR m 0 (n - 1)
      · exact (goodNumbers_k2_no2 a b n m w (Lib.hid h) (Lib.hid g) (inR_iff.1 h).1 (inR_iff.1 h).2).mono fun e w' ⟨he, hb⟩ => ⟨by rw [he]; exact ret_bool (num_two rfl h g), hb⟩
      · exact (goodNumbers_k2_yes a b n m w (Lib.hid h) (Lib.hid g) (inR_iff.1 h).1 (inR_iff.1 h).2).mono fun e w' ⟨he, hb⟩ => ⟨by rw [he]; exact ret_bool (num_two rfl h g), hb⟩
  · cases h : inR n 0 30
    · exact (goodNumbers_k3_no1 a b n m w (Lib.hid h)).mono fun e w' ⟨he, hb⟩ => ⟨by rw [he]; exact ret_bool (num_one rfl h), hb⟩
    · cases g : (m == 0)
      · exact (goodNumbers_k3_no2 a b n m w (Lib.hid h) g).mono fun e w' ⟨he, hb⟩ => ⟨by rw [he]; exact ret_bool (num_two rfl h g), hb⟩
      · exact (goodNumbers_k3_yes a b n m w (Lib.hid h) g).mono fun e w' ⟨he, hb⟩ => ⟨by rw [he]; exact ret_bool (num_two rfl h g), hb⟩
  · cases h : inR n 0 30
    · exact (goodNumbers_k4_no1 a b n m w (Lib.hid h)).mono fun e w' ⟨he, hb⟩ => ⟨by rw [he]; exact ret_bool (num_one rfl h), hb⟩
    · cases g : (m == 0)
      · exact (goodNumbers_k4_no2 a b n m w (Lib.hid h) g).mono fun e w' ⟨he, hb⟩ => ⟨by rw [he]; exact ret_bool (num_two rfl h g), hb⟩
      · exact (goodNumbers_k4_yes a b n m w (Lib.hid h) g).mono fun e w' ⟨he, hb⟩ => ⟨by rw [he]; exact ret_bool (num_two rfl h g), hb⟩
  · cases h : inR n 0 99
    · exact (goodNumbers_k5_no1 a b n m w (Lib.hid h)).mono fun e w' ⟨he, hb⟩ => ⟨by rw [he]; exact ret_bool (num_one rfl h), hb⟩
    · cases g : (m == 0)
      · exact (goodNumbers_k5_no2 a b n m w (Lib.hid h) g).mono fun e w' ⟨he, hb⟩ => ⟨by rw [he]; exact ret_bool (num_two rfl h g), hb⟩
      · exact (goodNumbers_k5_yes a b n m w (Lib.hid h) g).mono fun e w' ⟨he, hb⟩ => ⟨by rw [he]; exact ret_bool (num_two rfl h g), hb⟩
  · cases h : inR n 0 99
    · exact (goodNumbers_k6_no1 a b n m w (Lib.hid h)).mono fun e w' ⟨he, hb⟩ => ⟨by rw [he]; exact ret_bool (num_one rfl h), hb⟩
    · cases g : (m == 0)
      · exact (goodNumbers_k6_no2 a b n m w (Lib.hid h) g).mono fun e w' ⟨he, hb⟩ => ⟨by rw [he]; exact ret_bool (num_two rfl h g), hb⟩
      · exact (goodNumbers_k6_yes a b n m w (Lib.hid h) g).mono fun e w' ⟨he, hb⟩ => ⟨by rw [he]; exact ret_bool (num_two rfl h g), hb⟩
  · cases h : (n == 0)
    · exact (goodNumbers_rest_no1 a b n m w _ rfl rfl rfl rfl rfl rfl rfl rfl h).mono fun e w' ⟨he, hb⟩ => ⟨by rw [he]; exact ret_bool (num_one rfl h), hb⟩
    · cases g : (m == 0)
      · exact (goodNumbers_rest_no2 a b n m w _ rfl rfl rfl rfl rfl rfl rfl rfl h g).mono fun e w' ⟨he, hb⟩ => ⟨by rw [he]; exact ret_bool (num_two rfl h g), hb⟩
      · exact (goodNumbers_rest_yes a b n m w _ rfl rfl rfl rfl rfl rfl rfl rfl h g).mono fun e w' ⟨he, hb⟩ => ⟨by rw [he]; exact ret_bool (num_two rfl h g), hb⟩
  · cases h : (n == 0)
    · exact (goodNumbers_rest_no1 a b n m w _ rfl rfl rfl rfl rfl rfl rfl rfl h).mono fun e w' ⟨he, hb⟩ => ⟨by rw [he]; exact ret_bool (num_one rfl h), hb⟩
    · cases g : (m == 0)
      · exact (goodNumbers_rest_no2 a b n m w _ rfl rfl rfl rfl rfl rfl rfl rfl h g).mono fun e w' ⟨he, hb⟩ => ⟨by rw [he]; exact ret_bool (num_two rfl h g), hb⟩
      · exact (goodNumbers_rest_yes a b n m w _ rfl rfl rfl rfl rfl rfl rfl rfl h g).mono fun e w' ⟨he, hb⟩ => ⟨by rw [he]; exact ret_bool (num_two rfl h g), hb⟩
  · cases h : (n == 0)
    · exact (goodNumbers_rest_no1 a b n m w _ rfl rfl rfl rfl rfl rfl rfl rfl h).mono fun e w' ⟨he, hb⟩ => ⟨by rw [he]; exact ret_bool (num_one rfl h), hb⟩
    · cases g : (m == 0)
      · exact (goodNumbers_rest_no2 a b n m w _ rfl rfl rfl rfl rfl rfl rfl rfl h g).mono fun e w' ⟨he, hb⟩ => ⟨by rw [he]; exact ret_bool (num_two rfl h g), hb⟩
      · exact (goodNumbers_rest_yes a b n m w _ rfl rfl rfl rfl rfl rfl rfl rfl h g).mono fun e w' ⟨he, hb⟩ => ⟨by rw [he]; exact ret_bool (num_two rfl h g), hb⟩
  · cases h : (n == 0)
    · exact (goodNumbers_rest_no1 a b n m w _ rfl rfl rfl rfl rfl rfl rfl rfl h).mono fun e w' ⟨he, hb⟩ => ⟨by rw [he]; exact ret_bool (num_one rfl h), hb⟩
    · cases g : (m == 0)
      · exact (goodNumbers_rest_no2 a b n m w _ rfl rfl rfl rfl rfl rfl rfl rfl h g).mono fun e w' ⟨he, hb⟩ => ⟨by rw [he]; exact ret_bool (num_two rfl h g), hb⟩
      · exact (goodNumbers_rest_yes a b n m w _ rfl rfl rfl rfl rfl rfl rfl rfl h g).mono fun e w' ⟨he, hb⟩ => ⟨by rw [he]; exact ret_bool (num_two rfl h g), hb⟩
  · cases h : (n == 0)
    · exact (goodNumbers_rest_no1 a b n m w _ rfl rfl rfl rfl rfl rfl rfl rfl h).mono fun e w' ⟨he, hb⟩ => ⟨by rw [he]; exact ret_bool (num_one rfl h), hb⟩
    · cases g : (m == 0)
      · exact (goodNumbers_rest_no2 a b n m w _ rfl rfl rfl rfl rfl rfl rfl rfl h g).mono fun e w' ⟨he, hb⟩ => ⟨by rw [he]; exact ret_bool (num_two rfl h g), hb⟩
      · exact (goodNumbers_rest_yes a b n m w _ rfl rfl rfl rfl rfl rfl rfl rfl h g).mono fun e w' ⟨he, hb⟩ => ⟨by rw [he]; exact ret_bool (num_two rfl h g), hb⟩
  · cases h : inR n 1 30
    · exact (goodNumbers_k12_no1 a b n m w (Lib.hid h)).mono fun e w' ⟨he, hb⟩ => ⟨by rw [he]; exact ret_bool (num_one rfl h), hb⟩
    · cases g : (m == 0)
      · exact (goodNumbers_k12_no2 a b n m w (Lib.hid h) g).mono fun e w' ⟨he, hb⟩ => ⟨by rw [he]; exact ret_bool (num_two rfl h g), hb⟩
      · exact (goodNumbers_k12_yes a b n m w (Lib.hid h) g).mono fun e w' ⟨he, hb⟩ => ⟨by rw [he]; exact ret_bool (num_two rfl h g), hb⟩
  · cases h : (n == 0)
    · exact (goodNumbers_rest_no1 a b n m w _ rfl rfl rfl rfl rfl rfl rfl rfl h).mono fun e w' ⟨he, hb⟩ => ⟨by rw [he]; exact ret_bool (num_one rfl h), hb⟩
    · cases g : (m == 0)
      · exact (goodNumbers_rest_no2 a b n m w _ rfl rfl rfl rfl rfl rfl rfl rfl h g).mono fun e w' ⟨he, hb⟩ => ⟨by rw [he]; exact ret_bool (num_two rfl h g), hb⟩
      · exact (goodNumbers_rest_yes a b n m w _ rfl rfl rfl rfl rfl rfl rfl rfl h g).mono fun e w' ⟨he, hb⟩ => ⟨by rw [he]; exact ret_bool (num_two rfl h g), hb⟩
  · cases h : (n == 0)
    · exact (goodNumbers_rest_no1 a b n m w k e0 e1 e2 e3 e4 e5 e6 e12 h).mono fun e w' ⟨he, hb⟩ => ⟨by rw [he]; exact ret_bool (by simp [numsOk, e0, e1, e2, e3, e4, e5, e6, e12, h]), hb⟩
    · cases g : (m == 0)
      · exact (goodNumbers_rest_no2 a b n m w k e0 e1 e2 e3 e4 e5 e6 e12 h g).mono fun e w' ⟨he, hb⟩ => ⟨by rw [he]; exact ret_bool (by simp [numsOk, e0, e1, e2, e3, e4, e5, e6, e12, h, g]), hb⟩
      · exact (goodNumbers_rest_yes a b n m w k e0 e1 e2 e3 e4 e5 e6 e12 h g).mono fun e w' ⟨he, hb⟩ => ⟨by rw [he]; exact ret_bool (by simp [numsOk, e0, e1, e2, e3, e4, e5, e6, e12, h, g]), hb⟩

theorem implNums_kind (k a b n m : Int) (w : World) :
    Calls Try.prog 83 #[.agg #[.int .i64 k, .int .i64 a, .int .i64 b, .int .i64 n, .int .i64 m]] w fun e w' => e = .returned (.bool ((numsOk ⟨k, a, b, n, m⟩ && known k))) ∧ Below w.heap.size w w' := by
  rcases kinds k with (rfl | rfl | rfl | rfl | rfl | rfl | rfl | rfl | rfl | rfl | rfl | rfl | rfl | rfl) | ⟨e0, e1, e2, e3, e4, e5, e6, e7, e8, e9, e10, e11, e12, e13⟩
  · cases h : inR n 0 2
    · exact (numbersFit_k0_no1 a b n m w (Lib.hid h)).mono fun e w' ⟨he, hb⟩ => ⟨by rw [he]; exact ret_bool (num_one (Bool.and_true _) h), hb⟩
    · cases g : (m == 0)
      · exact (numbersFit_k0_no2 a b n m w (Lib.hid h) g).mono fun e w' ⟨he, hb⟩ => ⟨by rw [he]; exact ret_bool (num_two (Bool.and_true _) h g), hb⟩
      · exact (numbersFit_k0_yes a b n m w (Lib.hid h) g).mono fun e w' ⟨he, hb⟩ => ⟨by rw [he]; exact ret_bool (num_two (Bool.and_true _) h g), hb⟩
  · cases h : inR n 0 99
    · exact (numbersFit_k1_no1 a b n m w (Lib.hid h)).mono fun e w' ⟨he, hb⟩ => ⟨by rw [he]; exact ret_bool (num_one (Bool.and_true _) h), hb⟩
    · cases g : inR m 0 (99)
      · exact (numbersFit_k1_no2 a b n m w (Lib.hid h) (Lib.hid g)).mono fun e w' ⟨he, hb⟩ => ⟨by rw [he]; exact ret_bool (num_two (Bool.and_true _) h g), hb⟩
      · exact (numbersFit_k1_yes a b n m w (Lib.hid h) (Lib.hid g)).mono fun e w' ⟨he, hb⟩ => ⟨by rw [he]; exact ret_bool (num_two (Bool.and_true _) h g), hb⟩
  · cases h : inR n 1 30
    · exact (numbersFit_k2_no1 a b n m w (Lib.hid h)).mono fun e w' ⟨he, hb⟩ => ⟨by rw [he]; exact ret_bool (num_one (Bool.and_true _) h), hb⟩
    · cases g : inR m 0 (n - 1)
      · exact (numbersFit_k2_no2 a b n m w (Lib.hid h) (Lib.hid g) (inR_iff.1 h).1 (inR_iff.1 h).2).mono fun e w' ⟨he, hb⟩ => ⟨by rw [he]; exact ret_bool (num_two (Bool.and_true _) h g), hb⟩
      · exact (numbersFit_k2_yes a b n m w (Lib.hid h) (Lib.hid g) (inR_iff.1 h).1 (inR_iff.1 h).2).mono fun e w' ⟨he, hb⟩ => ⟨by rw [he]; exact ret_bool (num_two (Bool.and_true _) h g), hb⟩
  · cases h : inR n 0 30
    · exact (numbersFit_k3_no1 a b n m w (Lib.hid h)).mono fun e w' ⟨he, hb⟩ => ⟨by rw [he]; exact ret_bool (num_one (Bool.and_true _) h), hb⟩
    · cases g : (m == 0)
      · exact (numbersFit_k3_no2 a b n m w (Lib.hid h) g).mono fun e w' ⟨he, hb⟩ => ⟨by rw [he]; exact ret_bool (num_two (Bool.and_true _) h g), hb⟩
      · exact (numbersFit_k3_yes a b n m w (Lib.hid h) g).mono fun e w' ⟨he, hb⟩ => ⟨by rw [he]; exact ret_bool (num_two (Bool.and_true _) h g), hb⟩
  · cases h : inR n 0 30
    · exact (numbersFit_k4_no1 a b n m w (Lib.hid h)).mono fun e w' ⟨he, hb⟩ => ⟨by rw [he]; exact ret_bool (num_one (Bool.and_true _) h), hb⟩
    · cases g : (m == 0)
      · exact (numbersFit_k4_no2 a b n m w (Lib.hid h) g).mono fun e w' ⟨he, hb⟩ => ⟨by rw [he]; exact ret_bool (num_two (Bool.and_true _) h g), hb⟩
      · exact (numbersFit_k4_yes a b n m w (Lib.hid h) g).mono fun e w' ⟨he, hb⟩ => ⟨by rw [he]; exact ret_bool (num_two (Bool.and_true _) h g), hb⟩
  · cases h : inR n 0 99
    · exact (numbersFit_k5_no1 a b n m w (Lib.hid h)).mono fun e w' ⟨he, hb⟩ => ⟨by rw [he]; exact ret_bool (num_one (Bool.and_true _) h), hb⟩
    · cases g : (m == 0)
      · exact (numbersFit_k5_no2 a b n m w (Lib.hid h) g).mono fun e w' ⟨he, hb⟩ => ⟨by rw [he]; exact ret_bool (num_two (Bool.and_true _) h g), hb⟩
      · exact (numbersFit_k5_yes a b n m w (Lib.hid h) g).mono fun e w' ⟨he, hb⟩ => ⟨by rw [he]; exact ret_bool (num_two (Bool.and_true _) h g), hb⟩
  · cases h : inR n 0 99
    · exact (numbersFit_k6_no1 a b n m w (Lib.hid h)).mono fun e w' ⟨he, hb⟩ => ⟨by rw [he]; exact ret_bool (num_one (Bool.and_true _) h), hb⟩
    · cases g : (m == 0)
      · exact (numbersFit_k6_no2 a b n m w (Lib.hid h) g).mono fun e w' ⟨he, hb⟩ => ⟨by rw [he]; exact ret_bool (num_two (Bool.and_true _) h g), hb⟩
      · exact (numbersFit_k6_yes a b n m w (Lib.hid h) g).mono fun e w' ⟨he, hb⟩ => ⟨by rw [he]; exact ret_bool (num_two (Bool.and_true _) h g), hb⟩
  · cases h : (n == 0)
    · exact (numbersFit_k7_no1 a b n m w h).mono fun e w' ⟨he, hb⟩ => ⟨by rw [he]; exact ret_bool (num_one (Bool.and_true _) h), hb⟩
    · cases g : (m == 0)
      · exact (numbersFit_k7_no2 a b n m w h g).mono fun e w' ⟨he, hb⟩ => ⟨by rw [he]; exact ret_bool (num_two (Bool.and_true _) h g), hb⟩
      · exact (numbersFit_k7_yes a b n m w h g).mono fun e w' ⟨he, hb⟩ => ⟨by rw [he]; exact ret_bool (num_two (Bool.and_true _) h g), hb⟩
  · cases h : (n == 0)
    · exact (numbersFit_k8_no1 a b n m w h).mono fun e w' ⟨he, hb⟩ => ⟨by rw [he]; exact ret_bool (num_one (Bool.and_true _) h), hb⟩
    · cases g : (m == 0)
      · exact (numbersFit_k8_no2 a b n m w h g).mono fun e w' ⟨he, hb⟩ => ⟨by rw [he]; exact ret_bool (num_two (Bool.and_true _) h g), hb⟩
      · exact (numbersFit_k8_yes a b n m w h g).mono fun e w' ⟨he, hb⟩ => ⟨by rw [he]; exact ret_bool (num_two (Bool.and_true _) h g), hb⟩
  · cases h : (n == 0)
    · exact (numbersFit_k9_no1 a b n m w h).mono fun e w' ⟨he, hb⟩ => ⟨by rw [he]; exact ret_bool (num_one (Bool.and_true _) h), hb⟩
    · cases g : (m == 0)
      · exact (numbersFit_k9_no2 a b n m w h g).mono fun e w' ⟨he, hb⟩ => ⟨by rw [he]; exact ret_bool (num_two (Bool.and_true _) h g), hb⟩
      · exact (numbersFit_k9_yes a b n m w h g).mono fun e w' ⟨he, hb⟩ => ⟨by rw [he]; exact ret_bool (num_two (Bool.and_true _) h g), hb⟩
  · cases h : (n == 0)
    · exact (numbersFit_k10_no1 a b n m w h).mono fun e w' ⟨he, hb⟩ => ⟨by rw [he]; exact ret_bool (num_one (Bool.and_true _) h), hb⟩
    · cases g : (m == 0)
      · exact (numbersFit_k10_no2 a b n m w h g).mono fun e w' ⟨he, hb⟩ => ⟨by rw [he]; exact ret_bool (num_two (Bool.and_true _) h g), hb⟩
      · exact (numbersFit_k10_yes a b n m w h g).mono fun e w' ⟨he, hb⟩ => ⟨by rw [he]; exact ret_bool (num_two (Bool.and_true _) h g), hb⟩
  · cases h : (n == 0)
    · exact (numbersFit_k11_no1 a b n m w h).mono fun e w' ⟨he, hb⟩ => ⟨by rw [he]; exact ret_bool (num_one (Bool.and_true _) h), hb⟩
    · cases g : (m == 0)
      · exact (numbersFit_k11_no2 a b n m w h g).mono fun e w' ⟨he, hb⟩ => ⟨by rw [he]; exact ret_bool (num_two (Bool.and_true _) h g), hb⟩
      · exact (numbersFit_k11_yes a b n m w h g).mono fun e w' ⟨he, hb⟩ => ⟨by rw [he]; exact ret_bool (num_two (Bool.and_true _) h g), hb⟩
  · cases h : inR n 1 30
    · exact (numbersFit_k12_no1 a b n m w (Lib.hid h)).mono fun e w' ⟨he, hb⟩ => ⟨by rw [he]; exact ret_bool (num_one (Bool.and_true _) h), hb⟩
    · cases g : (m == 0)
      · exact (numbersFit_k12_no2 a b n m w (Lib.hid h) g).mono fun e w' ⟨he, hb⟩ => ⟨by rw [he]; exact ret_bool (num_two (Bool.and_true _) h g), hb⟩
      · exact (numbersFit_k12_yes a b n m w (Lib.hid h) g).mono fun e w' ⟨he, hb⟩ => ⟨by rw [he]; exact ret_bool (num_two (Bool.and_true _) h g), hb⟩
  · cases h : (n == 0)
    · exact (numbersFit_k13_no1 a b n m w h).mono fun e w' ⟨he, hb⟩ => ⟨by rw [he]; exact ret_bool (num_one (Bool.and_true _) h), hb⟩
    · cases g : (m == 0)
      · exact (numbersFit_k13_no2 a b n m w h g).mono fun e w' ⟨he, hb⟩ => ⟨by rw [he]; exact ret_bool (num_two (Bool.and_true _) h g), hb⟩
      · exact (numbersFit_k13_yes a b n m w h g).mono fun e w' ⟨he, hb⟩ => ⟨by rw [he]; exact ret_bool (num_two (Bool.and_true _) h g), hb⟩
  · exact (numbersFit_none a b n m w k e0 e1 e2 e3 e4 e5 e6 e12 e7 e8 e9 e10 e11 e13).mono fun e w' ⟨he, hb⟩ => ⟨by rw [he]; exact ret_bool (by simp [known, e0, e1, e2, e3, e4, e5, e6, e7, e8, e9, e10, e11, e12, e13]), hb⟩

theorem arity_any (k : Int) (w : World) : Calls Try.prog 133 #[.int .i64 k] w fun e w' => e = .returned (.int .i64 (arity k)) ∧ w = w' := by
  rcases kinds k with (rfl | rfl | rfl | rfl | rfl | rfl | rfl | rfl | rfl | rfl | rfl | rfl | rfl | rfl) | ⟨e0, e1, e2, e3, e4, e5, e6, e7, e8, e9, e10, e11, e12, e13⟩
  · go_enter Try.func133, Try.ntmps133
    go_wp2
    go_ret
    exact ⟨rfl, rfl⟩
  · go_enter Try.func133, Try.ntmps133
    go_wp2
    go_ret
    exact ⟨rfl, rfl⟩
  · go_enter Try.func133, Try.ntmps133
    go_wp2
    go_ret
    exact ⟨rfl, rfl⟩
  · go_enter Try.func133, Try.ntmps133
    go_wp2
    go_ret
    exact ⟨rfl, rfl⟩
  · go_enter Try.func133, Try.ntmps133
    go_wp2
    go_ret
    exact ⟨rfl, rfl⟩
  · go_enter Try.func133, Try.ntmps133
    go_wp2
    go_ret
    exact ⟨rfl, rfl⟩
  · go_enter Try.func133, Try.ntmps133
    go_wp2
    go_ret
    exact ⟨rfl, rfl⟩
  · go_enter Try.func133, Try.ntmps133
    go_wp2
    go_ret
    exact ⟨rfl, rfl⟩
  · go_enter Try.func133, Try.ntmps133
    go_wp2
    go_ret
    exact ⟨rfl, rfl⟩
  · go_enter Try.func133, Try.ntmps133
    go_wp2
    go_ret
    exact ⟨rfl, rfl⟩
  · go_enter Try.func133, Try.ntmps133
    go_wp2
    go_ret
    exact ⟨rfl, rfl⟩
  · go_enter Try.func133, Try.ntmps133
    go_wp2
    go_ret
    exact ⟨rfl, rfl⟩
  · go_enter Try.func133, Try.ntmps133
    go_wp2
    go_ret
    exact ⟨rfl, rfl⟩
  · go_enter Try.func133, Try.ntmps133
    go_wp2
    go_ret
    exact ⟨rfl, rfl⟩
  · go_enter Try.func133, Try.ntmps133
    go_wp2
    go_ret
    exact ⟨ret_int (by simp [arity, e0, e1, e2, e3, e4, e5, e6, e7, e8, e9, e10, e11, e12, e13]), rfl⟩

theorem nodesBelow_any (k : Int) (w : World) : Calls Try.prog 111 #[.int .i64 k] w fun e w' => e = .returned (.int .i64 (arity k)) ∧ w = w' := by
  rcases kinds k with (rfl | rfl | rfl | rfl | rfl | rfl | rfl | rfl | rfl | rfl | rfl | rfl | rfl | rfl) | ⟨e0, e1, e2, e3, e4, e5, e6, e7, e8, e9, e10, e11, e12, e13⟩
  · go_enter Try.func111, Try.ntmps111
    go_wp2
    go_ret
    exact ⟨rfl, rfl⟩
  · go_enter Try.func111, Try.ntmps111
    go_wp2
    go_ret
    exact ⟨rfl, rfl⟩
  · go_enter Try.func111, Try.ntmps111
    go_wp2
    go_ret
    exact ⟨rfl, rfl⟩
  · go_enter Try.func111, Try.ntmps111
    go_wp2
    go_ret
    exact ⟨rfl, rfl⟩
  · go_enter Try.func111, Try.ntmps111
    go_wp2
    go_ret
    exact ⟨rfl, rfl⟩
  · go_enter Try.func111, Try.ntmps111
    go_wp2
    go_ret
    exact ⟨rfl, rfl⟩
  · go_enter Try.func111, Try.ntmps111
    go_wp2
    go_ret
    exact ⟨rfl, rfl⟩
  · go_enter Try.func111, Try.ntmps111
    go_wp2
    go_ret
    exact ⟨rfl, rfl⟩
  · go_enter Try.func111, Try.ntmps111
    go_wp2
    go_ret
    exact ⟨rfl, rfl⟩
  · go_enter Try.func111, Try.ntmps111
    go_wp2
    go_ret
    exact ⟨rfl, rfl⟩
  · go_enter Try.func111, Try.ntmps111
    go_wp2
    go_ret
    exact ⟨rfl, rfl⟩
  · go_enter Try.func111, Try.ntmps111
    go_wp2
    go_ret
    exact ⟨rfl, rfl⟩
  · go_enter Try.func111, Try.ntmps111
    go_wp2
    go_ret
    exact ⟨rfl, rfl⟩
  · go_enter Try.func111, Try.ntmps111
    go_wp2
    go_ret
    exact ⟨rfl, rfl⟩
  · go_enter Try.func111, Try.ntmps111
    go_wp2
    go_ret
    exact ⟨ret_int (by simp [arity, e0, e1, e2, e3, e4, e5, e6, e7, e8, e9, e10, e11, e12, e13]), rfl⟩

end Go.Proofs.Ytnmekcifbmcdpaa

/- Contracts: whether a node has earlier nodes below it (the reference); marking the nodes below (the program). -/
namespace Go.Proofs.Ytnmekcifbmcdpaa
open Go.RowKit

set_option maxHeartbeats 800000 in
theorem specKids_any (x : Nd) (i : Nat) (w : World) (hi : i ≤ 1048576) :
    Calls Try.prog 104 #[.agg #[.int .i64 x.k, .int .i64 x.a, .int .i64 x.b, .int .i64 x.n, .int .i64 x.m], .int .i64 i] w fun e w' => e = .returned (.bool (kidsOk x i)) ∧ Below w.heap.size w w' := by
  rcases arity_cases x.k with ha | ha | ha | ha
  · have Ha := Lib.hid ha
    clear ha
    cases h1 : (x.a == -1)
    · go_enter Try.func104, Try.ntmps104
      go_wp2_with (go_at_call 133; refine (arity_any _ _).mono ?_; rintro e w1 ⟨rfl, rfl⟩; rw [Ha.out])
      go_ret
      exact ⟨ret_bool (by simp [kidsOk, Ha.out, h1]), (Below.refl _ _).alloc (Nat.le_refl _) _⟩
    · cases h2 : (x.b == -1)
      all_goals
        go_enter Try.func104, Try.ntmps104
        go_wp2_with (go_at_call 133; refine (arity_any _ _).mono ?_; rintro e w1 ⟨rfl, rfl⟩; rw [Ha.out])
        go_ret
        exact ⟨ret_bool (by simp [kidsOk, Ha.out, h1, h2]), (Below.refl _ _).alloc (Nat.le_refl _) _⟩
  · have Ha := Lib.hid ha
    clear ha
    cases h1 : inR x.a 0 ((i : Int) - 1)
    · have H1 := Lib.hid h1
      clear h1
      go_enter Try.func104, Try.ntmps104
      go_wp2_with (first | (go_at_call 133; refine (arity_any _ _).mono ?_; rintro e w1 ⟨rfl, rfl⟩; rw [Ha.out]) | (go_at_call 92; refine (specInR_any _ _ _ _).mono ?_; rintro e w1 ⟨rfl, rfl⟩; rw [H1.out]))
      go_ret
      exact ⟨ret_bool (by simp [kidsOk, Ha.out, H1.out]), (Below.refl _ _).alloc (Nat.le_refl _) _⟩
    · have H1 := Lib.hid h1
      clear h1
      cases h2 : (x.b == -1)
      all_goals
        go_enter Try.func104, Try.ntmps104
        go_wp2_with (first | (go_at_call 133; refine (arity_any _ _).mono ?_; rintro e w1 ⟨rfl, rfl⟩; rw [Ha.out]) | (go_at_call 92; refine (specInR_any _ _ _ _).mono ?_; rintro e w1 ⟨rfl, rfl⟩; rw [H1.out]))
        go_ret
        exact ⟨ret_bool (by simp [kidsOk, Ha.out, H1.out, h2]), (Below.refl _ _).alloc (Nat.le_refl _) _⟩
  · have Ha := Lib.hid ha
    clear ha
    cases h1 : inR x.a 0 ((i : Int) - 1)
    · have H1 := Lib.hid h1
      clear h1
      go_enter Try.func104, Try.ntmps104
      go_wp2_with (first | (go_at_call 133; refine (arity_any _ _).mono ?_; rintro e w1 ⟨rfl, rfl⟩; rw [Ha.out]) | (go_at_call 92; refine (specInR_any _ _ _ _).mono ?_; rintro e w1 ⟨rfl, rfl⟩; rw [H1.out]))
      go_ret
      exact ⟨ret_bool (by simp [kidsOk, Ha.out, H1.out]), (Below.refl _ _).alloc (Nat.le_refl _) _⟩
    · have H1 := Lib.hid h1
      clear h1
      cases h2 : inR x.b 0 ((i : Int) - 1)
      · have H2 := Lib.hid h2
        clear h2
        go_enter Try.func104, Try.ntmps104
        go_wp2_with fail
        refine (arity_any _ _).mono ?_
        rintro e w1 ⟨rfl, rfl⟩
        rw [Ha.out]
        go_wp2_with fail
        refine (specInR_any _ _ _ _).mono ?_
        rintro e w1 ⟨rfl, rfl⟩
        rw [H1.out]
        go_wp2_with fail
        refine (specInR_any _ _ _ _).mono ?_
        rintro e w1 ⟨rfl, rfl⟩
        rw [H2.out]
        go_wp2_with fail
        go_ret
        exact ⟨ret_bool (by simp [kidsOk, Ha.out, H1.out, H2.out]), (Below.refl _ _).alloc (Nat.le_refl _) _⟩
      · have H2 := Lib.hid h2
        clear h2
        cases h3 : (x.a != x.b)
        all_goals
          go_enter Try.func104, Try.ntmps104
          go_wp2_with fail
          refine (arity_any _ _).mono ?_
          rintro e w1 ⟨rfl, rfl⟩
          rw [Ha.out]
          go_wp2_with fail
          refine (specInR_any _ _ _ _).mono ?_
          rintro e w1 ⟨rfl, rfl⟩
          rw [H1.out]
          go_wp2_with fail
          refine (specInR_any _ _ _ _).mono ?_
          rintro e w1 ⟨rfl, rfl⟩
          rw [H2.out]
          go_wp2_with fail
          go_ret
          exact ⟨ret_bool (by simp [kidsOk, Ha.out, H1.out, H2.out, h3]), (Below.refl _ _).alloc (Nat.le_refl _) _⟩
  · have Ha := Lib.hid ha
    clear ha
    go_enter Try.func104, Try.ntmps104
    go_wp2_with (go_at_call 133; refine (arity_any _ _).mono ?_; rintro e w1 ⟨rfl, rfl⟩; rw [Ha.out])
    go_ret
    exact ⟨ret_bool (by simp [kidsOk, Ha.out]), (Below.refl _ _).alloc (Nat.le_refl _) _⟩

/-- The cells of a list of yes and no. -/
def bls (l : List Bool) : List Value := l.map Value.bool
theorem bls_get (l : List Bool) (k : Nat) : (bls l)[k]? = l[k]?.map Value.bool := by simp [bls]
theorem bls_set (l : List Bool) (k : Nat) (v : Bool) : (bls l).set k (.bool v) = bls (l.set k v) := by simp [bls, List.map_set]

theorem claim_out (g i n : Nat) (at_ : Int) (w : World) (hi : i ≤ 1048576) (h : Hid (inR at_ 0 ((i : Int) - 1) = false)) :
    Calls Try.prog 112 #[.slice (some ⟨g, 0, none⟩) i n, .int .i64 at_] w fun e w' => e = .returned (.bool false) ∧ w = w' := by
  go_enter Try.func112, Try.ntmps112
  go_wp2_with (go_at_call 82; refine (within_any _ _ _ _).mono ?_; rintro e w1 ⟨rfl, rfl⟩; rw [h.out])
  go_ret
  exact ⟨rfl, rfl⟩

/-- Only block g, and what is new, is another one. -/
theorem grown_new (w : World) (o : Obj) (row : Option Nat) : w.grownBy (w.alloc o) row := World.grownBy_alloc w o row
theorem grown_set {a w : World} {g : Nat} (h : a.grownBy w (some g)) (i : Nat) (u : Value) : a.grownBy (w.setCell ⟨g, i, none⟩ u) (some g) :=
  ⟨h.os, h.tape, h.output, by simpa [World.setCell] using h.size, fun j hj hne => (Below.heap_setCell w ⟨g, i, none⟩ u j (by rintro rfl; exact hne rfl)).trans (h.block j hj hne)⟩
theorem grown_trans {a w v : World} {row : Option Nat} (h : a.grownBy w row) (k : w.grownBy v row) : a.grownBy v row :=
  ⟨k.os.trans h.os, k.tape.trans h.tape, k.output.trans h.output, Nat.le_trans h.size k.size, fun j hj hne => (k.block j (Nat.lt_of_lt_of_le hj h.size) hne).trans (h.block j hj hne)⟩
theorem below_grown {a w : World} (h : Below a.heap.size a w) (row : Option Nat) : a.grownBy w row := ⟨h.os, h.tape, h.output, h.size, fun j hj _ => h.block j hj⟩

set_option maxHeartbeats 400000 in
theorem claim_free (g i n at_ : Nat) (us : List Bool) (w : World) (hi : i ≤ 1048576) (hat : at_ < i) (hb : Hid (Bk w g 4 (bls us))) (hu : Hid (us[at_]? = some false)) :
    Calls Try.prog 112 #[.slice (some ⟨g, 0, none⟩) i n, .int .i64 at_] w fun e w' => e = .returned (.bool true) ∧ Bk w' g 4 (bls (us.set at_ true)) ∧ w.grownBy w' (some g) := by
  have hin : Hid (inR (at_ : Int) 0 ((i : Int) - 1) = true) := inR_yes (by omega) (by omega)
  have hc : w.cell? ⟨g, at_, none⟩ = some (.bool false) := by rw [hb.out.cell, bls_get, hu.out]; rfl
  have hf := hb.out.free at_
  go_enter Try.func112, Try.ntmps112
  go_wp2_with (go_at_call 82; refine (within_any _ _ _ _).mono ?_; rintro e w1 ⟨rfl, rfl⟩; rw [hin.out])
  go_ret
  exact ⟨rfl, by rw [← bls_set]; exact hb.out.set_ _ _, grown_set (World.grownBy.refl _ _) _ _⟩

set_option maxHeartbeats 400000 in
theorem claim_taken (g i n at_ : Nat) (us : List Bool) (w : World) (hi : i ≤ 1048576) (hat : at_ < i) (hb : Hid (Bk w g 4 (bls us))) (hu : Hid (us[at_]? = some true)) :
    Calls Try.prog 112 #[.slice (some ⟨g, 0, none⟩) i n, .int .i64 at_] w fun e w' => e = .returned (.bool false) ∧ w = w' := by
  have hin : Hid (inR (at_ : Int) 0 ((i : Int) - 1) = true) := inR_yes (by omega) (by omega)
  have hc : w.cell? ⟨g, at_, none⟩ = some (.bool true) := by rw [hb.out.cell, bls_get, hu.out]; rfl
  go_enter Try.func112, Try.ntmps112
  go_wp2_with (go_at_call 82; refine (within_any _ _ _ _).mono ?_; rintro e w1 ⟨rfl, rfl⟩; rw [hin.out])
  go_ret
  exact ⟨rfl, rfl⟩

theorem free_of {us : List Bool} {j i : Nat} (hj : j < i) (hi : i ≤ us.length) : us[j]? = some true ∨ us[j]? = some false := by
  obtain ⟨b, hb⟩ := get_of_lt us (k := j) (by omega)
  cases b
  · exact .inr hb
  · exact .inl hb

/-- What is known behind the marking of the nodes below x. -/
def Placed (w w' : World) (g : Nat) (us : List Bool) (x : Nd) (b : Bool) : Prop := w.grownBy w' (some g) ∧ (b = true → Bk w' g 4 (bls (marked x us)))

set_option maxHeartbeats 1600000 in
theorem places_any (k a b n m : Int) (g i c : Nat) (us : List Bool) (w : World) (hi : i ≤ 1048576) (hiu : i ≤ us.length) (hb : Bk w g 4 (bls us)) :
    Calls Try.prog 84 #[.agg #[.int .i64 k, .int .i64 a, .int .i64 b, .int .i64 n, .int .i64 m], .slice (some ⟨g, 0, none⟩) i c] w
      fun e w' => e = .returned (.bool (placesOk ⟨k, a, b, n, m⟩ us i)) ∧ Placed w w' g us ⟨k, a, b, n, m⟩ (placesOk ⟨k, a, b, n, m⟩ us i) := by
  obtain ⟨o, ho⟩ : ∃ o : Obj, o = .cells #[.int .i64 k, .int .i64 a, .int .i64 b, .int .i64 n, .int .i64 m] 102 := ⟨_, rfl⟩
  have hb1 := hb.alloc o
  have hg1 := grown_new w o (some g)
  have hgw : g ≠ w.heap.size := Nat.ne_of_lt hb.lt
  subst ho
  have Hb1 := Lib.hid hb1
  have Hg1 := Lib.hid hg1
  clear hb1 hg1
  rcases arity_cases k with ha | ha | ha | ha
  · have Ha := Lib.hid ha
    have Hb := Lib.hid hb
    clear ha hb
    cases h1 : (a == -1)
    · go_enter Try.func84, Try.ntmps84
      go_wp2_with (go_at_call 111; refine (nodesBelow_any _ _).mono ?_; rintro e w1 ⟨rfl, rfl⟩; rw [Ha.out])
      go_ret
      have e : placesOk ⟨k, a, b, n, m⟩ us i = false := by simp [placesOk, Ha.out, h1]
      rw [e]
      exact ⟨rfl, Hg1.out, fun h => by cases h⟩
    · cases h2 : (b == -1)
      all_goals
        go_enter Try.func84, Try.ntmps84
        go_wp2_with (go_at_call 111; refine (nodesBelow_any _ _).mono ?_; rintro e w1 ⟨rfl, rfl⟩; rw [Ha.out])
        go_ret
      · have e : placesOk ⟨k, a, b, n, m⟩ us i = false := by simp [placesOk, Ha.out, h1, h2]
        rw [e]
        exact ⟨rfl, Hg1.out, fun h => by cases h⟩
      · have e : placesOk ⟨k, a, b, n, m⟩ us i = true := by simp [placesOk, Ha.out, h1, h2]
        rw [e]
        exact ⟨rfl, Hg1.out, fun _ => by simpa [marked, Ha.out] using Hb1.out⟩
  · have Ha := Lib.hid ha
    have Hb := Lib.hid hb
    clear ha hb
    cases h1 : inR a 0 ((i : Int) - 1)
    · have H1 := Lib.hid h1
      clear h1
      go_enter Try.func84, Try.ntmps84
      go_wp2_with (first | (go_at_call 111; refine (nodesBelow_any _ _).mono ?_; rintro e w1 ⟨rfl, rfl⟩; rw [Ha.out]) | (go_at_call 112; refine (claim_out _ _ _ _ _ hi H1).mono ?_; rintro e w1 ⟨rfl, rfl⟩))
      go_ret
      have e : placesOk ⟨k, a, b, n, m⟩ us i = false := by simp [placesOk, Ha.out, H1.out]
      rw [e]
      exact ⟨rfl, Hg1.out, fun h => by cases h⟩
    · obtain ⟨h1a, h1b⟩ := inR_iff.1 h1
      have H1 := Lib.hid h1
      clear h1
      obtain ⟨a', rfl⟩ := Int.eq_ofNat_of_zero_le h1a
      have hai : a' < i := by omega
      rcases free_of hai hiu with hu | hu
      · have Hu := Lib.hid hu
        clear hu
        go_enter Try.func84, Try.ntmps84
        go_wp2_with (first | (go_at_call 111; refine (nodesBelow_any _ _).mono ?_; rintro e w1 ⟨rfl, rfl⟩; rw [Ha.out]) | (go_at_call 112; refine (claim_taken _ _ _ _ _ _ hi hai Hb1 Hu).mono ?_; rintro e w1 ⟨rfl, rfl⟩))
        go_ret
        have e : placesOk ⟨k, a', b, n, m⟩ us i = false := by simp [placesOk, Ha.out, Hu.out]
        rw [e]
        exact ⟨rfl, Hg1.out, fun h => by cases h⟩
      · have Hu := Lib.hid hu
        clear hu
        cases h2 : (b == -1)
        all_goals
          go_enter Try.func84, Try.ntmps84
          go_wp2_with (first | (go_at_call 111; refine (nodesBelow_any _ _).mono ?_; rintro e w1 ⟨rfl, rfl⟩; rw [Ha.out]) | (go_at_call 112; refine (claim_free _ _ _ _ _ _ hi hai Hb1 Hu).mono ?_; rintro e w1 ⟨rfl, hb2, hg2⟩; have d2 : w1.cell? ⟨w.heap.size, 2, none⟩ = some (.int .i64 b) := hg2.cell (by simp [go_sem]) (by simpa using Ne.symm hgw); have Hb2 := Lib.hid hb2; have Hg2 := Lib.hid hg2; clear hb2 hg2))
          go_ret
        · have e : placesOk ⟨k, a', b, n, m⟩ us i = false := by simp [placesOk, Ha.out, h2]
          rw [e]
          exact ⟨rfl, grown_trans Hg1.out Hg2.out, fun h => by cases h⟩
        · have e : placesOk ⟨k, a', b, n, m⟩ us i = true := by simp [placesOk, Ha.out, H1.out, Hu.out, h2]
          rw [e]
          exact ⟨rfl, grown_trans Hg1.out Hg2.out, fun _ => by simpa [marked, Ha.out] using Hb2.out⟩
  · have Ha := Lib.hid ha
    have Hb := Lib.hid hb
    clear ha hb
    cases h1 : inR a 0 ((i : Int) - 1)
    · have H1 := Lib.hid h1
      clear h1
      go_enter Try.func84, Try.ntmps84
      go_wp2_with (first | (go_at_call 111; refine (nodesBelow_any _ _).mono ?_; rintro e w1 ⟨rfl, rfl⟩; rw [Ha.out]) | (go_at_call 112; refine (claim_out _ _ _ _ _ hi H1).mono ?_; rintro e w1 ⟨rfl, rfl⟩))
      go_ret
      have e : placesOk ⟨k, a, b, n, m⟩ us i = false := by simp [placesOk, Ha.out, H1.out]
      rw [e]
      exact ⟨rfl, Hg1.out, fun h => by cases h⟩
    · obtain ⟨h1a, h1b⟩ := inR_iff.1 h1
      have H1 := Lib.hid h1
      clear h1
      obtain ⟨a', rfl⟩ := Int.eq_ofNat_of_zero_le h1a
      have hai : a' < i := by omega
      rcases free_of hai hiu with hu | hu
      · have Hu := Lib.hid hu
        clear hu
        go_enter Try.func84, Try.ntmps84
        go_wp2_with (first | (go_at_call 111; refine (nodesBelow_any _ _).mono ?_; rintro e w1 ⟨rfl, rfl⟩; rw [Ha.out]) | (go_at_call 112; refine (claim_taken _ _ _ _ _ _ hi hai Hb1 Hu).mono ?_; rintro e w1 ⟨rfl, rfl⟩))
        go_ret
        have e : placesOk ⟨k, a', b, n, m⟩ us i = false := by simp [placesOk, Ha.out, Hu.out]
        rw [e]
        exact ⟨rfl, Hg1.out, fun h => by cases h⟩
      · have Hu := Lib.hid hu
        clear hu
        go_enter Try.func84, Try.ntmps84
        go_wp2_with fail
        refine (nodesBelow_any _ _).mono ?_
        rintro e w1 ⟨rfl, rfl⟩
        rw [Ha.out]
        go_wp2_with fail
        refine (claim_free _ _ _ _ _ _ hi hai Hb1 Hu).mono ?_
        rintro e w1 ⟨rfl, hb2, hg2⟩
        have d2 : w1.cell? ⟨w.heap.size, 2, none⟩ = some (.int .i64 b) := hg2.cell (by simp [go_sem]) (by simpa using Ne.symm hgw)
        have Hb2 := Lib.hid hb2
        have Hg2 := Lib.hid hg2
        clear hb2 hg2
        go_wp2_with fail
        cases h2 : inR b 0 ((i : Int) - 1)
        · have H2 := Lib.hid h2
          clear h2
          refine (claim_out _ _ _ _ _ hi H2).mono ?_
          rintro e w2 ⟨rfl, rfl⟩
          go_wp2_with fail
          go_ret
          have e : placesOk ⟨k, a', b, n, m⟩ us i = false := by simp [placesOk, Ha.out, H2.out]
          rw [e]
          exact ⟨rfl, grown_trans Hg1.out Hg2.out, fun h => by cases h⟩
        · obtain ⟨h2a, h2b⟩ := inR_iff.1 h2
          have H2 := Lib.hid h2
          clear h2
          obtain ⟨b', rfl⟩ := Int.eq_ofNat_of_zero_le h2a
          have hbi : b' < i := by omega
          rcases free_of (us := us.set a' true) hbi (by rw [List.length_set]; exact hiu) with hv | hv
          · have Hv := Lib.hid hv
            clear hv
            refine (claim_taken _ _ _ _ _ _ hi hbi Hb2 Hv).mono ?_
            rintro e w2 ⟨rfl, rfl⟩
            go_wp2_with fail
            go_ret
            have e : placesOk ⟨k, a', b', n, m⟩ us i = false := by simp [placesOk, Ha.out, Hv.out]
            rw [e]
            exact ⟨rfl, grown_trans Hg1.out Hg2.out, fun h => by cases h⟩
          · have Hv := Lib.hid hv
            clear hv
            refine (claim_free _ _ _ _ _ _ hi hbi Hb2 Hv).mono ?_
            rintro e w2 ⟨rfl, hb3, hg3⟩
            have Hb3 := Lib.hid hb3
            have Hg3 := Lib.hid hg3
            clear hb3 hg3
            go_wp2_with fail
            go_ret
            have e : placesOk ⟨k, a', b', n, m⟩ us i = true := by simp [placesOk, Ha.out, H1.out, Hu.out, H2.out, Hv.out]
            rw [e]
            exact ⟨rfl, grown_trans (grown_trans Hg1.out Hg2.out) Hg3.out, fun _ => by simpa [marked, Ha.out] using Hb3.out⟩
  · have Ha := Lib.hid ha
    clear ha
    go_enter Try.func84, Try.ntmps84
    go_wp2_with (go_at_call 111; refine (nodesBelow_any _ _).mono ?_; rintro e w1 ⟨rfl, rfl⟩; rw [Ha.out])
    go_ret
    have e : placesOk ⟨k, a, b, n, m⟩ us i = false := by simp [placesOk, Ha.out]
    rw [e]
    exact ⟨rfl, Hg1.out, fun h => by cases h⟩

end Go.Proofs.Ytnmekcifbmcdpaa

/- Contracts: whether a pipe is valid, told by the program (marks). -/
namespace Go.Proofs.Ytnmekcifbmcdpaa
open Go.RowKit

theorem Try.infoBool : (Try.prog.info? 4).map (fun i => (i.zero, i.size, i.bytes)) = some (some (.bool false), 1, 1) := by kernel_rfl

theorem Bk.afterDraw {w w1 : World} {g : Nat} {t : TypeId} {cs : List Value} (h : Bk w g t cs) (hb : Below w.drew.heap.size w.drew w1) : Bk w1 g t cs := (hb.block g h.lt).trans h
theorem below_placed {w w1 w2 : World} {g : Nat} (h : Below w.heap.size w w1) (k : w1.grownBy w2 (some g)) (hg : w.heap.size ≤ g) : Below w.heap.size w w2 :=
  h.grown k h.size (fun j hj => by obtain rfl := Option.some.inj hj; exact hg)
theorem nodeOk_of {x : Nd} {k : Nat} (h : (numsOk x && known x.k) = true) (h2 : kidsOk x k = true) : nodeOk x k = true := by
  simp only [Bool.and_eq_true] at h
  simp [nodeOk, h.1, h2]
theorem marks_made (w : World) (g : Nat) (o : Obj) (l : List Nd) (hg : g = (w.alloc o).heap.size) : Bk ((w.alloc o).alloc (.cells (madeCells #[.bool false] l.length) 4)) g 4 (bls (marks l 0 l.length)) := by
  subst hg
  have e : madeCells #[Value.bool false] l.length = (bls (marks l 0 l.length)).toArray := by
    rw [marks_zero]
    have : bls (List.replicate l.length false) = (madeCells #[Value.bool false] l.length).toList := by rw [toList_madeCells_one]; simp [bls]
    rw [this]
  rw [e]
  exact Bk.new _ _ _
theorem contains_succ {us : List Bool} {k : Nat} {b v : Bool} (h : us[k]? = some b) : (us.take (k + 1)).contains v = ((us.take k).contains v || (v == b)) := by
  rw [take_succ_of h]
  simp only [List.contains_eq_mem, List.mem_append, List.mem_singleton]
  cases v <;> cases b <;> simp
theorem contains_take {us : List Bool} {k n : Nat} {v : Bool} (hk : k ≤ n) (h : (us.take k).contains v = true) : (us.take n).contains v = true := by
  simp only [List.contains_eq_mem, decide_eq_true_eq] at h ⊢
  exact List.take_subset_take_left us hk h

theorem implNums_any (x : Nd) (w : World) :
    Calls Try.prog 83 #[.agg #[.int .i64 x.k, .int .i64 x.a, .int .i64 x.b, .int .i64 x.n, .int .i64 x.m]] w fun e w' => e = .returned (.bool (numsOk x && known x.k)) ∧ Below w.heap.size w w' := implNums_kind x.k x.a x.b x.n x.m w
theorem specNums_any (x : Nd) (w : World) :
    Calls Try.prog 103 #[.agg #[.int .i64 x.k, .int .i64 x.a, .int .i64 x.b, .int .i64 x.n, .int .i64 x.m]] w fun e w' => e = .returned (.bool (numsOk x)) ∧ Below w.heap.size w w' := specNums_kind x.k x.a x.b x.n x.m w

theorem implNums_q {x : Nd} {w : World} {d : Nat} {os : Array Obj} {b : Bool} (hb : Hid ((numsOk x && known x.k) = b)) :
    Calls Try.prog 83 #[.agg #[.int .i64 x.k, .int .i64 x.a, .int .i64 x.b, .int .i64 x.n, .int .i64 x.m]] (Go.Sort.grow (redrawn w d) os) fun e w'' => e = .returned (.bool b) ∧ ∃ p : Regrown, w'' = Go.Sort.grow (redrawn w p.d) p.os :=
  Calls.regrown_of ((implNums_any x _).mono fun _ _ ⟨he, h⟩ => ⟨by rw [he, hb.out], h⟩)

/-- An index at least 0 tells that v is there. -/
def IdxIs (us : List Bool) (n : Nat) (v : Bool) (e : Ending) : Prop := ∃ r : Int, e = .returned (.int .i64 r) ∧ decide (0 ≤ r) = (us.take n).contains v

set_option maxHeartbeats 400000 in
theorem index_any (g n c : Nat) (us : List Bool) (v : Bool) (w : World) (hb : Hid (Bk w g 4 (bls us))) (hn : n ≤ us.length) (hs : n ≤ 1048576) :
    Calls Try.prog 113 #[.slice (some ⟨g, 0, none⟩) n c, .bool v] w fun e w' => IdxIs us n v e ∧ w = w' := by
  go_enter Try.func113, Try.ntmps113
  go_wp2
  go_loop [8] (fun i => ∃ k : Nat, k ≤ n ∧ i = .int .i64 k ∧ (us.take k).contains v = false) (fun i => n - (intOf i).toNat)
  case atStart => exact ⟨0, Nat.zero_le _, rfl, by simp⟩
  case round =>
    obtain ⟨k, hk, rfl, hall⟩ := hrel
    have Hall := Lib.hid hall
    clear hall
    by_cases hlt : k < n
    · obtain ⟨b, hx⟩ := get_of_lt us (k := k) (by omega)
      have hc : w.cell? ⟨g, k, none⟩ = some (.bool b) := by rw [hb.out.cell, bls_get, hx]; rfl
      have Hx := Lib.hid hx
      clear hx
      have Hc := contains_succ (v := v) Hx.out
      rw [Hall.out] at Hc
      have HC := Lib.hid Hc
      clear Hc
      cases hvb : (v == b)
      · have HV := Lib.hid hvb
        go_wp2
        go_round
        case rel => exact ⟨k + 1, by omega, by go_num, by rw [HC.out, HV.out]; rfl⟩
        case measure => simp [intOf]; omega
      · have HV := Lib.hid hvb
        go_wp2
        go_ret
        exact ⟨⟨k, rfl, by rw [contains_take (k := k + 1) (by omega) (by rw [HC.out, HV.out]; rfl)]; simp⟩, rfl⟩
    · obtain rfl : k = n := by omega
      go_wp2
      go_ret
      exact ⟨⟨-1, rfl, by rw [Hall.out]; rfl⟩, rfl⟩

theorem contains_any (g n c : Nat) (us : List Bool) (v : Bool) (w : World) (hb : Hid (Bk w g 4 (bls us))) (hn : n ≤ us.length) (hs : n ≤ 1048576) :
    Calls Try.prog 85 #[.slice (some ⟨g, 0, none⟩) n c, .bool v] w fun e w' => e = .returned (.bool ((us.take n).contains v)) ∧ w = w' := by
  go_enter Try.func85, Try.ntmps85
  go_wp2_with (go_at_call 113; refine (index_any _ _ _ _ _ _ hb hn hs).mono ?_; rintro e w1 ⟨⟨r, rfl, hr⟩, rfl⟩; have Hr := Lib.hid hr; clear hr)
  go_ret
  exact ⟨ret_bool Hr.out, rfl⟩

set_option maxHeartbeats 3200000 in
theorem implValidPipe_any (A : Option Addr) (c : Nat) (l : List Nd) (w : World) (B : Nat) (h : RdN w B A l) (hB : B ≤ w.heap.size) (hn : l.length ≤ 1048576) :
    Calls Try.prog 60 #[.agg #[.slice A l.length c]] w fun e w' => e = .returned (.bool (pipeOk l)) ∧ Below w.heap.size w w' := by
  cases hr : inR l.length 1 12
  · have Hr := Lib.hid hr
    have hno : Hid (pipeOk l = false) := pipeOk_no fun hp => by rw [inR_yes (by have := hp.low; omega) (by have := hp.high; omega)] at hr; cases hr
    clear hr
    go_enter Try.func60, Try.ntmps60
    go_wp2_with (go_at_call 82; refine (within_any _ _ _ _).mono ?_; rintro e w1 ⟨rfl, rfl⟩; rw [Hr.out])
    go_ret
    exact ⟨ret_bool hno.out.symm, (Below.refl _ _).alloc (Nat.le_refl _) _⟩
  · have Hr := Lib.hid hr
    obtain ⟨hr1, hr2⟩ := inR_iff.1 hr
    clear hr
    have hmk := run_make_row' (P := Try.prog) 96 4 (.bool false) 1 Try.underlying96 Try.infoBool rfl .i64 .i64 l.length (by omega) (by omega)
    go_enter Try.func60, Try.ntmps60
    go_wp2_with (go_at_call 82; refine (within_any _ _ _ _).mono ?_; rintro e w1 ⟨rfl, rfl⟩; rw [Hr.out])
    clear hmk
    go_loopw [18] (fun i wr => ∃ k : Nat, k ≤ l.length ∧ i = .int .i64 k ∧ Good l k ∧ Single l k ∧ Bk wr (w.heap.size + 1) 4 (bls (marks l k l.length)) ∧ Below w.heap.size w wr) (fun i _ => l.length - (intOf i).toNat)
    case atStart => exact ⟨0, Nat.zero_le _, rfl, Good.zero _, Single.zero _, marks_made _ _ _ _ (by simp), ((Below.refl _ _).alloc (Nat.le_refl _) _).alloc (by simp) _⟩
    case round =>
      obtain ⟨k, hk, rfl, hgood, hsing, hbk, hbl⟩ := hrel
      by_cases hlt : k < l.length
      · obtain ⟨b, o, x, rfl, hbB, hx, hc⟩ := (h.below hbl hB).at_ hlt
        obtain ⟨c0, c1, c2, c3, c4⟩ := hc
        have Hgood := Lib.hid hgood
        have Hsing := Lib.hid hsing
        have Hbk := Lib.hid hbk
        have Hbl := Lib.hid hbl
        have Hx := Lib.hid hx
        clear hgood hsing hbk hbl hx h
        have hgw : w.heap.size + 1 < wr.heap.size := Hbk.out.lt
        have hsz := Hbl.out.size
        have hal := Hbl.out.alloc hsz (.cells #[.int .i64 x.k, .int .i64 x.a, .int .i64 x.b, .int .i64 x.n, .int .i64 x.m] 102)
        have hbk0 := Hbk.out.alloc (.cells #[.int .i64 x.k, .int .i64 x.a, .int .i64 x.b, .int .i64 x.n, .int .i64 x.m] 102)
        have Hal := Lib.hid hal
        have Hbk0 := Lib.hid hbk0
        have hk20 : k ≤ 1048576 := by omega
        have hku : k ≤ (marks l k l.length).length := by rw [marks_len]; exact hk
        have Hku := Lib.hid hku
        clear hal hbk0 hku
        cases hnk : (numsOk x && known x.k)
        · have Hnk := Lib.hid hnk
          clear hnk
          go_wp2
          have q0 := cell_regrown (w := wr.alloc (.cells #[.int .i64 x.k, .int .i64 x.a, .int .i64 x.b, .int .i64 x.n, .int .i64 x.m] 102)) (a := ⟨wr.heap.size, 0, none⟩) (v := .int .i64 x.k) (by simp [go_sem])
          have q1 := cell_regrown (w := wr.alloc (.cells #[.int .i64 x.k, .int .i64 x.a, .int .i64 x.b, .int .i64 x.n, .int .i64 x.m] 102)) (a := ⟨wr.heap.size, 1, none⟩) (v := .int .i64 x.a) (by simp [go_sem])
          have q2 := cell_regrown (w := wr.alloc (.cells #[.int .i64 x.k, .int .i64 x.a, .int .i64 x.b, .int .i64 x.n, .int .i64 x.m] 102)) (a := ⟨wr.heap.size, 2, none⟩) (v := .int .i64 x.b) (by simp [go_sem])
          have q3 := cell_regrown (w := wr.alloc (.cells #[.int .i64 x.k, .int .i64 x.a, .int .i64 x.b, .int .i64 x.n, .int .i64 x.m] 102)) (a := ⟨wr.heap.size, 3, none⟩) (v := .int .i64 x.n) (by simp [go_sem])
          have q4 := cell_regrown (w := wr.alloc (.cells #[.int .i64 x.k, .int .i64 x.a, .int .i64 x.b, .int .i64 x.n, .int .i64 x.m] 102)) (a := ⟨wr.heap.size, 4, none⟩) (v := .int .i64 x.m) (by simp [go_sem])
          refine wp_region_quiet_below (by kernel_rfl) (by kernel_rfl) ?_
          repeat (quiet_step ((go_at_call 83; go_must (exact implNums_q Hnk))))
          refine wpQuiet_nil ?_
          intro wq hwq
          obtain ⟨p, hwq⟩ := hwq
          have Hb : Hid (Below (wr.alloc (.cells #[.int .i64 x.k, .int .i64 x.a, .int .i64 x.b, .int .i64 x.n, .int .i64 x.m] 102)).heap.size (wr.alloc (.cells #[.int .i64 x.k, .int .i64 x.a, .int .i64 x.b, .int .i64 x.n, .int .i64 x.m] 102)) wq) := by
            rw [hwq]; exact below_regrown _ _ _
          clear hwq q0 q1 q2 q3 q4
          go_wp2
          go_ret
          exact ⟨ret_bool (pipeOk_no (nums_no Hx.out Hnk.out)).symm, Hal.out.trans (Hb.out.mono Hal.out.size)⟩
        · have Hnk := Lib.hid hnk
          clear hnk
          cases hpl : placesOk x (marks l k l.length) k
          · have Hpl := Lib.hid hpl
            clear hpl
            go_wp2
            go_region_with (first | (go_at_call 83; go_must (refine (implNums_any x _).mono ?_; rintro e w1 ⟨rfl, hb⟩; rw [Hnk.out]; have d0 := (hb.cell (p := ⟨wr.heap.size, 0, none⟩) (by simp)).trans (by simp [go_sem] : _ = some (Value.int .i64 x.k)); have d1 := (hb.cell (p := ⟨wr.heap.size, 1, none⟩) (by simp)).trans (by simp [go_sem] : _ = some (Value.int .i64 x.a)); have d2 := (hb.cell (p := ⟨wr.heap.size, 2, none⟩) (by simp)).trans (by simp [go_sem] : _ = some (Value.int .i64 x.b)); have d3 := (hb.cell (p := ⟨wr.heap.size, 3, none⟩) (by simp)).trans (by simp [go_sem] : _ = some (Value.int .i64 x.n)); have d4 := (hb.cell (p := ⟨wr.heap.size, 4, none⟩) (by simp)).trans (by simp [go_sem] : _ = some (Value.int .i64 x.m)); have HBk1 := Lib.hid (Hbk0.out.afterDraw hb); have Hb := Lib.hid hb; clear hb)) | (go_at_call 84; go_must (refine (places_any x.k x.a x.b x.n x.m _ k _ (marks l k l.length) _ hk20 Hku.out HBk1.out).mono ?_; rintro e w2 ⟨rfl, hpp⟩; rw [Hpl.out]; rw [Hpl.out] at hpp; have Hpp := Lib.hid hpp; clear hpp)))
            all_goals
              go_wp2
              go_ret
              exact ⟨ret_bool (pipeOk_no (place_no Hx.out Hpl.out)).symm, below_placed (below_step Hal.out Hb.out) Hpp.out.1 (Nat.le_succ _)⟩
          · have Hpl := Lib.hid hpl
            clear hpl
            go_wp2
            go_region_with (first | (go_at_call 83; go_must (refine (implNums_any x _).mono ?_; rintro e w1 ⟨rfl, hb⟩; rw [Hnk.out]; have d0 := (hb.cell (p := ⟨wr.heap.size, 0, none⟩) (by simp)).trans (by simp [go_sem] : _ = some (Value.int .i64 x.k)); have d1 := (hb.cell (p := ⟨wr.heap.size, 1, none⟩) (by simp)).trans (by simp [go_sem] : _ = some (Value.int .i64 x.a)); have d2 := (hb.cell (p := ⟨wr.heap.size, 2, none⟩) (by simp)).trans (by simp [go_sem] : _ = some (Value.int .i64 x.b)); have d3 := (hb.cell (p := ⟨wr.heap.size, 3, none⟩) (by simp)).trans (by simp [go_sem] : _ = some (Value.int .i64 x.n)); have d4 := (hb.cell (p := ⟨wr.heap.size, 4, none⟩) (by simp)).trans (by simp [go_sem] : _ = some (Value.int .i64 x.m)); have HBk1 := Lib.hid (Hbk0.out.afterDraw hb); have Hb := Lib.hid hb; clear hb)) | (go_at_call 84; go_must (refine (places_any x.k x.a x.b x.n x.m _ k _ (marks l k l.length) _ hk20 Hku.out HBk1.out).mono ?_; rintro e w2 ⟨rfl, hpp⟩; rw [Hpl.out]; rw [Hpl.out] at hpp; have Hpp := Lib.hid hpp; clear hpp)))
            all_goals
              go_wp2
              go_roundw
              case rel => exact ⟨k + 1, by omega, by go_num, Hgood.out.succ Hx.out (nodeOk_of Hnk.out (place_yes Hx.out Hsing.out Hpl.out).1), (place_yes Hx.out Hsing.out Hpl.out).2.2, by rw [← (place_yes Hx.out Hsing.out Hpl.out).2.1]; exact Hpp.out.2 rfl, below_placed (below_step Hal.out Hb.out) Hpp.out.1 (Nat.le_succ _)⟩
              case measure => simp [intOf]; omega
      · obtain rfl : k = l.length := by omega
        have Hfin := Lib.hid (marks_end hgood hsing (by omega) (by omega))
        have Hbk := Lib.hid hbk
        have Hbl := Lib.hid hbl
        have hml : l.length - 1 ≤ (marks l l.length l.length).length := by rw [marks_len]; omega
        have Hml := Lib.hid hml
        clear hgood hsing hbk hbl h hml
        go_wp2_with fail
        have e1 : (((l.length : Nat) : Int) - 1).toNat = l.length - 1 := by omega
        try rw [e1]
        refine (contains_any _ (l.length - 1) _ (marks l l.length l.length) false _ Hbk Hml.out (by omega)).mono ?_
        rintro e w1 ⟨rfl, rfl⟩
        have Hc : Hid ((!((marks l l.length l.length).take (l.length - 1)).contains false) = pipeOk l) := Hfin.out.symm
        clear e1
        go_wp2_with fail
        go_ret
        exact ⟨ret_bool (by simpa using Hc.out), Hbl.out⟩

end Go.Proofs.Ytnmekcifbmcdpaa

/- Contracts: whether a pipe is valid, told by the reference (counts). -/
namespace Go.Proofs.Ytnmekcifbmcdpaa
open Go.RowKit

theorem Try.infoInt2 : (Try.prog.info? 3).map (fun i => (i.zero, i.size, i.bytes)) = some (some (.int .i64 0), 1, 8) := by kernel_rfl

theorem counts_made (w : World) (g : Nat) (o : Obj) (l : List Nd) (hg : g = (w.alloc o).heap.size) : Bk ((w.alloc o).alloc (.cells (madeCells #[.int .i64 0] l.length) 3)) g 3 (ints (counts l 0 l.length)) := by
  subst hg
  have e : madeCells #[Value.int .i64 0] l.length = (ints (counts l 0 l.length)).toArray := by
    rw [counts_zero]
    have : ints (List.replicate l.length 0) = (madeCells #[Value.int .i64 0] l.length).toList := by rw [toList_madeCells_one]; simp [ints]
    rw [this]
  rw [e]
  exact Bk.new _ _ _

theorem useOf_le (l : List Nd) (j : Int) : useOf l j ≤ 2 * l.length := by
  induction l with
  | nil => simp [useOf]
  | cons x l ih =>
    have h1 := one_le (x.a == j)
    have h2 := one_le (x.b == j)
    simp only [useOf, List.length_cons]
    omega
theorem counts_one {l : List Nd} {k n : Nat} {x : Nd} (hx : l[k]? = some x) {j : Nat} (ha : x.a = (j : Int)) (hb : x.b = -1) : (counts l k n).set j ((useOf (l.take k) (j : Int) : Nat) + 1) = counts l (k + 1) n := by
  apply List.ext_getElem?
  intro i
  by_cases hi : i < n
  · rw [counts_get _ _ hi, useOf_succ hx, ha, hb, one_ne (i := -1) (by omega)]
    by_cases hij : i = j
    · subst hij
      rw [List.getElem?_set_self (by rw [counts_len]; exact hi), one_eq]
      simp
    · rw [List.getElem?_set_ne (by omega), counts_get _ _ hi, one_ne (by omega)]
      simp
  · rw [List.getElem?_eq_none (by rw [List.length_set, counts_len]; omega), List.getElem?_eq_none (by rw [counts_len]; omega)]
theorem counts_two {l : List Nd} {k n : Nat} {x : Nd} (hx : l[k]? = some x) {j j2 : Nat} (ha : x.a = (j : Int)) (hb : x.b = (j2 : Int)) (hne : j ≠ j2) :
    ((counts l k n).set j ((useOf (l.take k) (j : Int) : Nat) + 1)).set j2 ((useOf (l.take k) (j2 : Int) : Nat) + 1) = counts l (k + 1) n := by
  apply List.ext_getElem?
  intro i
  by_cases hi : i < n
  · rw [counts_get _ _ hi, useOf_succ hx, ha, hb]
    by_cases hij2 : i = j2
    · subst hij2
      rw [List.getElem?_set_self (by rw [List.length_set, counts_len]; exact hi), one_eq, one_ne (by omega)]
      simp
    · rw [List.getElem?_set_ne (by omega), one_ne (i := (j2 : Int)) (by omega)]
      by_cases hij : i = j
      · subst hij
        rw [List.getElem?_set_self (by rw [counts_len]; exact hi), one_eq]
        simp
      · rw [List.getElem?_set_ne (by omega), counts_get _ _ hi, one_ne (by omega)]
        simp
  · rw [List.getElem?_eq_none (by rw [List.length_set, List.length_set, counts_len]; omega), List.getElem?_eq_none (by rw [counts_len]; omega)]
theorem counts_none {l : List Nd} {k n : Nat} {x : Nd} (hx : l[k]? = some x) (ha : x.a = -1) (hb : x.b = -1) : counts l k n = counts l (k + 1) n := by
  apply List.ext_getElem?
  intro i
  by_cases hi : i < n
  · rw [counts_get _ _ hi, counts_get _ _ hi, useOf_succ hx, ha, hb, one_ne (i := -1) (by omega)]
    simp
  · rw [List.getElem?_eq_none (by rw [counts_len]; omega), List.getElem?_eq_none (by rw [counts_len]; omega)]

theorem ints_set (l : List Int) (k : Nat) (v : Int) : (ints l).set k (.int .i64 v) = ints (l.set k v) := by simp [ints, List.map_set]
theorem counts_step1 {w : World} {g k n j u : Nat} {t : TypeId} {l : List Nd} {x : Nd} (h : Bk w g t (ints (counts l k n))) (hx : l[k]? = some x) (ha : x.a = (j : Int)) (hb : x.b = -1) (hu : u = useOf (l.take k) (j : Int)) :
    Bk (w.setCell ⟨g, j, none⟩ (.int .i64 ((u : Int) + 1))) g t (ints (counts l (k + 1) n)) := by
  rw [← counts_one hx ha hb, ← ints_set, ← hu]
  exact h.set_ _ _
theorem counts_step2 {w : World} {g k n j j2 u v : Nat} {t : TypeId} {l : List Nd} {x : Nd} (h : Bk w g t (ints (counts l k n))) (hx : l[k]? = some x) (ha : x.a = (j : Int)) (hb : x.b = (j2 : Int)) (hne : j ≠ j2) (hu : u = useOf (l.take k) (j : Int)) (hv : v = useOf (l.take k) (j2 : Int)) :
    Bk ((w.setCell ⟨g, j, none⟩ (.int .i64 ((u : Int) + 1))).setCell ⟨g, j2, none⟩ (.int .i64 ((v : Int) + 1))) g t (ints (counts l (k + 1) n)) := by
  rw [← counts_two hx ha hb hne, ← ints_set, ← ints_set, ← hu, ← hv]
  exact (h.set_ _ _).set_ _ _

/-- A node lies in block b. -/
structure Nd5 (w : World) (b : Nat) (x : Nd) : Prop where
  c0 : w.cell? ⟨b, 0, none⟩ = some (.int .i64 x.k)
  c1 : w.cell? ⟨b, 1, none⟩ = some (.int .i64 x.a)
  c2 : w.cell? ⟨b, 2, none⟩ = some (.int .i64 x.b)
  c3 : w.cell? ⟨b, 3, none⟩ = some (.int .i64 x.n)
  c4 : w.cell? ⟨b, 4, none⟩ = some (.int .i64 x.m)
theorem Nd5.new (w : World) (x : Nd) (t : TypeId) : Nd5 (w.alloc (.cells #[.int .i64 x.k, .int .i64 x.a, .int .i64 x.b, .int .i64 x.n, .int .i64 x.m] t)) w.heap.size x :=
  ⟨by simp [go_sem], by simp [go_sem], by simp [go_sem], by simp [go_sem], by simp [go_sem]⟩
theorem Nd5.below {w w' : World} {b C : Nat} {x : Nd} (h : Nd5 w b x) (hb : Below C w w') (hC : b < C) : Nd5 w' b x :=
  ⟨(hb.cell (p := ⟨b, 0, none⟩) hC).trans h.c0, (hb.cell (p := ⟨b, 1, none⟩) hC).trans h.c1, (hb.cell (p := ⟨b, 2, none⟩) hC).trans h.c2, (hb.cell (p := ⟨b, 3, none⟩) hC).trans h.c3, (hb.cell (p := ⟨b, 4, none⟩) hC).trans h.c4⟩

/-- The nodes below a node that can stand at the place k. -/
theorem kids_form {x : Nd} {k : Nat} (h : kidsOk x k = true) : (x.a = -1 ∧ x.b = -1) ∨ (∃ j : Nat, x.a = (j : Int) ∧ j < k ∧ x.b = -1) ∨ ∃ j j2 : Nat, x.a = (j : Int) ∧ j < k ∧ x.b = (j2 : Int) ∧ j2 < k ∧ j ≠ j2 := by
  rcases arity_cases x.k with e | e | e | e
  · simp [kidsOk, e] at h
    exact .inl h
  · simp [kidsOk, e] at h
    obtain ⟨j, hj, hjk⟩ := inR_toNat h.1
    exact .inr (.inl ⟨j, hj, hjk, h.2⟩)
  · simp [kidsOk, e] at h
    obtain ⟨⟨h1, h2⟩, h3⟩ := h
    obtain ⟨j, hj, hjk⟩ := inR_toNat h1
    obtain ⟨j2, hj2, hjk2⟩ := inR_toNat h2
    exact .inr (.inr ⟨j, j2, hj, hjk, hj2, hjk2, by rintro rfl; exact h3 (hj.trans hj2.symm)⟩)
  · simp [kidsOk, e] at h
theorem node_no {l : List Nd} {k : Nat} {x : Nd} (hx : l[k]? = some x) (h : numsOk x = false ∨ kidsOk x k = false) : ¬ PipeOk l := fun hp => by
  have hn := hp.node k x hx
  simp only [nodeOk, Bool.and_eq_true] at hn
  rcases h with h | h
  · rw [hn.1] at h; cases h
  · rw [hn.2] at h; cases h

theorem uses_succ {l : List Nd} {k : Nat} (h : ∀ i : Nat, i < k → useOf l (i : Int) = 1) (h2 : useOf l (k : Int) = 1) : ∀ i : Nat, i < k + 1 → useOf l (i : Int) = 1 := fun i hi => by
  by_cases e : i = k
  · subst e; exact h2
  · exact h i (by omega)
theorem valid_end {l : List Nd} (hg : Good l l.length) (hu : ∀ i : Nat, i + 1 < l.length → useOf l (i : Int) = 1) : pipeOk l = inR l.length 1 12 := by
  rw [Bool.eq_iff_iff, pipeOk_iff, inR_iff]
  exact ⟨fun hp => ⟨by have := hp.low; omega, by have := hp.high; omega⟩, fun ⟨h1, h2⟩ => ⟨fun i x hx => hg i x (List.getElem?_eq_some_iff.1 hx).1 hx, hu, by omega, by omega⟩⟩

set_option maxHeartbeats 3200000 in
theorem specvalidPipe_any (A : Option Addr) (c : Nat) (l : List Nd) (w : World) (B : Nat) (h : RdN w B A l) (hB : B ≤ w.heap.size) (hn : l.length ≤ 1048576) :
    Calls Try.prog 79 #[.agg #[.slice A l.length c]] w fun e w' => e = .returned (.bool (pipeOk l)) ∧ Below w.heap.size w w' := by
  have hmk := run_make_row' (P := Try.prog) 28 3 (.int .i64 0) 8 Try.underlying28 Try.infoInt2 rfl .i64 .i64 l.length (by omega) (by omega)
  go_enter Try.func79, Try.ntmps79
  go_wp2
  clear hmk
  go_loopw [4] (fun i wr => ∃ k : Nat, k ≤ l.length ∧ i = .int .i64 k ∧ Good l k ∧ Bk wr (w.heap.size + 1) 3 (ints (counts l k l.length)) ∧ Bk wr w.heap.size 32 [.slice A l.length c] ∧ Below w.heap.size w wr) (fun i _ => l.length - (intOf i).toNat)
  case atStart => exact ⟨0, Nat.zero_le _, rfl, Good.zero _, counts_made _ _ _ _ (by simp), (Bk.new w 32 [.slice A l.length c]).alloc _, ((Below.refl _ _).alloc (Nat.le_refl _) _).alloc (by simp) _⟩
  case round =>
    obtain ⟨k, hk, rfl, hgood, hbk, hbox, hbl⟩ := hrel
    have hcb : wr.cell? ⟨w.heap.size, 0, none⟩ = some (.slice A l.length c) := hbox.cell 0
    by_cases hlt : k < l.length
    · obtain ⟨b, o, x, rfl, hbB, hx, hc⟩ := (h.below hbl hB).at_ hlt
      obtain ⟨c0, c1, c2, c3, c4⟩ := hc
      have Hgood := Lib.hid hgood
      have Hbk := Lib.hid hbk
      have Hbox := Lib.hid hbox
      have Hbl := Lib.hid hbl
      have Hx := Lib.hid hx
      clear hgood hbk hbl hx h hbox
      have hgw : w.heap.size + 1 < wr.heap.size := Hbk.out.lt
      have hsz := Hbl.out.size
      have hal := Hbl.out.alloc hsz (.cells #[.int .i64 x.k, .int .i64 x.a, .int .i64 x.b, .int .i64 x.n, .int .i64 x.m] 102)
      have hbk0 := Hbk.out.alloc (.cells #[.int .i64 x.k, .int .i64 x.a, .int .i64 x.b, .int .i64 x.n, .int .i64 x.m] 102)
      have hbx0 := Hbox.out.alloc (.cells #[.int .i64 x.k, .int .i64 x.a, .int .i64 x.b, .int .i64 x.n, .int .i64 x.m] 102)
      have hnd0 := Nd5.new wr x 102
      have Hal := Lib.hid hal
      have Hbk0 := Lib.hid hbk0
      have Hbx0 := Lib.hid hbx0
      have Hnd0 := Lib.hid hnd0
      have hk20 : k ≤ 1048576 := by omega
      clear hal hbk0 hbx0 hnd0
      go_wp2_with fail
      refine (specNums_any x _).mono ?_
      rintro e w1 ⟨rfl, hb1⟩
      have hlt1 : wr.heap.size < w1.heap.size := by have := hb1.size; simp at this; omega
      have Hal1 := Lib.hid (Hal.out.trans (hb1.mono Hal.out.size))
      have Hbk1 := Lib.hid (Hbk0.out.below hb1 Hbk0.out.lt)
      have Hbx1 := Lib.hid (Hbx0.out.below hb1 Hbx0.out.lt)
      have Hnd1 := Lib.hid (Hnd0.out.below hb1 (by simp))
      clear hb1 hcb c0 c1 c2 c3 c4
      cases hnm : numsOk x
      · have Hnm := Lib.hid hnm
        clear hnm
        go_wp2_with fail
        go_ret
        exact ⟨ret_bool (pipeOk_no (node_no Hx.out (.inl Hnm.out))).symm, Hal1.out⟩
      · have Hnm := Lib.hid hnm
        clear hnm
        obtain ⟨d0, d1, d2, d3, d4⟩ := Hnd1.out
        go_wp2_with fail
        refine (specKids_any x k _ hk20).mono ?_
        rintro e w2 ⟨rfl, hb2⟩
        have hlt2 : wr.heap.size < w2.heap.size := Nat.lt_of_lt_of_le hlt1 hb2.size
        have Hal2 := Lib.hid (Hal1.out.trans (hb2.mono Hal1.out.size))
        have Hbk2 := Lib.hid (Hbk1.out.below hb2 Hbk1.out.lt)
        have Hbx2 := Lib.hid (Hbx1.out.below hb2 Hbx1.out.lt)
        have Hnd2 := Lib.hid (Hnd1.out.below hb2 hlt1)
        clear hb2 d0 d1 d2 d3 d4
        cases hkd : kidsOk x k
        · have Hkd := Lib.hid hkd
          clear hkd
          go_wp2_with fail
          go_ret
          exact ⟨ret_bool (pipeOk_no (node_no Hx.out (.inr Hkd.out))).symm, Hal2.out⟩
        · have Hgood2 := Lib.hid (Hgood.out.succ Hx.out (by rw [nodeOk, Hnm.out, hkd]; rfl))
          obtain ⟨d0, d1, d2, d3, d4⟩ := Hnd2.out
          rcases kids_form hkd with ⟨ha, hb⟩ | ⟨j, ha, hj, hb⟩ | ⟨j, j2, ha, hj, hb, hj2, hne⟩
          · rw [ha] at d1
            rw [hb] at d2
            have Ha := Lib.hid ha
            have Hb := Lib.hid hb
            clear ha hb hkd
            go_wp2
            go_roundw
            case rel => exact ⟨k + 1, by omega, by go_num, Hgood2.out, by rw [← counts_none Hx.out Ha.out Hb.out]; exact Hbk2.out, Hbx2.out, Hal2.out⟩
            case measure => simp [intOf]; omega
          · rw [ha] at d1
            rw [hb] at d2
            have Ha := Lib.hid ha
            have Hb := Lib.hid hb
            obtain ⟨u, hu⟩ : ∃ u : Nat, u = useOf (l.take k) (j : Int) := ⟨_, rfl⟩
            have hu2 : u ≤ 2097152 := by rw [hu]; have := useOf_le (l.take k) (j : Int); simp at this; omega
            have e0 : w2.cell? ⟨w.heap.size + 1, j, none⟩ = some (.int .i64 (u : Int)) := by rw [Hbk2.out.cell, ints_get, counts_get _ _ (by omega), hu]; rfl
            have f0 := Hbk2.out.free j
            have Hu := Lib.hid hu
            clear ha hb hkd hu
            go_wp2
            go_region
            all_goals
              go_wp2
              go_roundw
              case rel => exact ⟨k + 1, by omega, by go_num, Hgood2.out, counts_step1 Hbk2.out Hx.out Ha.out Hb.out Hu.out, Hbx2.out.far (p := ⟨w.heap.size + 1, j, none⟩) (Nat.ne_of_lt (Nat.lt_succ_self _)) _, (Hal2.out.setCell (p := ⟨w.heap.size + 1, j, none⟩) (Nat.le_succ _) _).drew⟩
              case measure => simp [intOf]; omega
          · rw [ha] at d1
            rw [hb] at d2
            have Ha := Lib.hid ha
            have Hb := Lib.hid hb
            obtain ⟨u, hu⟩ : ∃ u : Nat, u = useOf (l.take k) (j : Int) := ⟨_, rfl⟩
            obtain ⟨v, hv⟩ : ∃ v : Nat, v = useOf (l.take k) (j2 : Int) := ⟨_, rfl⟩
            have hu2 : u ≤ 2097152 := by rw [hu]; have := useOf_le (l.take k) (j : Int); simp at this; omega
            have hv2 : v ≤ 2097152 := by rw [hv]; have := useOf_le (l.take k) (j2 : Int); simp at this; omega
            have e0 : w2.cell? ⟨w.heap.size + 1, j, none⟩ = some (.int .i64 (u : Int)) := by rw [Hbk2.out.cell, ints_get, counts_get _ _ (by omega), hu]; rfl
            have e1 : w2.cell? ⟨w.heap.size + 1, j2, none⟩ = some (.int .i64 (v : Int)) := by rw [Hbk2.out.cell, ints_get, counts_get _ _ (by omega), hv]; rfl
            have f0 := Hbk2.out.free j
            have f1 := Hbk2.out.free j2
            have Hu := Lib.hid hu
            have Hv := Lib.hid hv
            have Hne : Hid (j ≠ j2) := hne
            have hne2 : j2 ≠ j := fun e => hne e.symm
            clear ha hb hkd hu hv
            go_wp2
            go_region
            all_goals
              go_wp2
              go_region
            all_goals
              go_wp2
              go_roundw
              case rel => exact ⟨k + 1, by omega, by go_num, Hgood2.out, counts_step2 Hbk2.out Hx.out Ha.out Hb.out Hne.out Hu.out Hv.out, (Hbx2.out.far (p := ⟨w.heap.size + 1, j, none⟩) (Nat.ne_of_lt (Nat.lt_succ_self _)) _).far (p := ⟨w.heap.size + 1, j2, none⟩) (Nat.ne_of_lt (Nat.lt_succ_self _)) _, ((Hal2.out.setCell (p := ⟨w.heap.size + 1, j, none⟩) (Nat.le_succ _) _).setCell (p := ⟨w.heap.size + 1, j2, none⟩) (Nat.le_succ _) _).drew.drew⟩
              case measure => simp [intOf]; omega
    · obtain rfl : k = l.length := by omega
      have Hgood := Lib.hid hgood
      have Hbk := Lib.hid hbk
      have Hbl := Lib.hid hbl
      clear hgood hbk hbl h
      go_wp2
      go_loop [6] (fun i => ∃ k : Nat, k ≤ l.length ∧ i = .int .i64 k ∧ ∀ i : Nat, i < k → useOf l (i : Int) = 1) (fun i => l.length - (intOf i).toNat)
      case atStart => exact ⟨0, Nat.zero_le _, rfl, fun i hi => absurd hi (by omega)⟩
      case round =>
        obtain ⟨k, hk2, rfl, hone⟩ := hrel
        have Hone := Lib.hid hone
        clear hone
        by_cases hlt2 : k + 1 < l.length
        · obtain ⟨u, hu⟩ : ∃ u : Nat, u = useOf l (k : Int) := ⟨_, rfl⟩
          have e0 : wr.cell? ⟨w.heap.size + 1, k, none⟩ = some (.int .i64 (u : Int)) := by rw [Hbk.out.cell, ints_get, counts_get _ _ (by omega), List.take_length, hu]; rfl
          have Hu := Lib.hid hu
          clear hu
          by_cases hu1 : u = 1
          · have hub : ((u : Int) != 1) = false := by simp [hu1]
            have Hu1 := Lib.hid hu1
            clear hu1
            go_wp2
            go_round
            case rel => exact ⟨k + 1, by omega, by go_num, uses_succ Hone.out (Hu.out.symm.trans Hu1.out)⟩
            case measure => simp [intOf]; omega
          · have hub : ((u : Int) != 1) = true := by simp; omega
            have Hu1 : Hid (¬ u = 1) := hu1
            clear hu1
            go_wp2
            go_ret
            exact ⟨ret_bool (pipeOk_no fun hp => Hu1.out (Hu.out.trans (hp.uses k hlt2))).symm, Hbl.out⟩
        · have Hend := Lib.hid (valid_end Hgood.out (fun i hi => Hone.out i (by omega)))
          go_wp2_with (go_at_call 92; refine (specInR_any _ _ _ _).mono ?_; rintro e w1 ⟨rfl, rfl⟩)
          go_ret
          exact ⟨ret_bool Hend.out.symm, Hbl.out⟩

end Go.Proofs.Ytnmekcifbmcdpaa

/- Contracts: the tree of the node i (the program). -/
namespace Go.Proofs.Ytnmekcifbmcdpaa
open Go.RowKit Go.Sort

/-- The value of a tree. -/
def tv : T → Value
  | .leaf x => .iface 111 (.agg #[.int .i64 x.k, .int .i64 x.a, .int .i64 x.b, .int .i64 x.n, .int .i64 x.m])
  | .stem x t => .iface 113 (.agg #[.int .i64 x.k, .int .i64 x.a, .int .i64 x.b, .int .i64 x.n, .int .i64 x.m, tv t])
  | .fork x a b => .iface 116 (.agg #[.int .i64 x.k, .int .i64 x.a, .int .i64 x.b, .int .i64 x.n, .int .i64 x.m, tv a, tv b])
theorem tv_iface (t : T) : ∃ ty v, tv t = .iface ty v := by cases t <;> exact ⟨_, _, rfl⟩

set_option maxHeartbeats 3200000 in
theorem treeAt_any {l : List Nd} {i : Nat} {t : T} (ht : IsTree l i t) : ∀ (A : Option Addr) (c : Nat) (w : World) (B : Nat), RdN w B A l → B ≤ w.heap.size → l.length ≤ 1048576 →
    Calls Try.prog 90 #[.agg #[.slice A l.length c], .int .i64 i] w fun e w' => e = .returned (tv t) ∧ Below w.heap.size w w' := by
  induction ht with
  | @leaf i x hx ha h1 h2 =>
    intro A c w B h hB hn
    have hlt : i < l.length := (List.getElem?_eq_some_iff.1 hx).1
    have hb0 := (Below.refl w.heap.size w).alloc (Nat.le_refl _) (.cells #[.slice A l.length c] 32)
    obtain ⟨b, o, y, rfl, hbB, hy, hc⟩ := (h.below hb0 hB).at_ hlt
    obtain rfl := Option.some.inj (hx.symm.trans hy)
    obtain ⟨c0, c1, c2, c3, c4⟩ := hc
    have Ha := Lib.hid ha
    have H1 := Lib.hid h1
    have H2 := Lib.hid h2
    have Hh := Lib.hid h
    clear hx hy ha h h1 h2 hb0
    go_enter Try.func90, Try.ntmps90
    go_wp2_with (go_at_call 111; refine (nodesBelow_any _ _).mono ?_; rintro e w2 ⟨rfl, rfl⟩; rw [Ha.out])
    go_ret
    exact ⟨rfl, ((Below.refl _ _).alloc (Nat.le_refl _) _).alloc (by simp) _⟩
  | @stem i j x t hx ha h1 hj h2 ht ih =>
    intro A c w B h hB hn
    obtain ⟨ty, v, hv⟩ := tv_iface t
    rw [hv] at ih
    have Hv := Lib.hid hv
    have hlt : i < l.length := (List.getElem?_eq_some_iff.1 hx).1
    have hb0 := (Below.refl w.heap.size w).alloc (Nat.le_refl _) (.cells #[.slice A l.length c] 32)
    obtain ⟨b, o, y, rfl, hbB, hy, hc⟩ := (h.below hb0 hB).at_ hlt
    obtain rfl := Option.some.inj (hx.symm.trans hy)
    obtain ⟨c0, c1, c2, c3, c4⟩ := hc
    have Ha := Lib.hid ha
    have H1 := Lib.hid h1
    have H2 := Lib.hid h2
    have Hh := Lib.hid h
    rw [h1] at c1
    rw [h2] at c2
    have Hi := Lib.hid (fun W' B' hW hB' => ih (some ⟨b, o, none⟩) c W' B' hW hB' hn)
    clear hx hy ha h h1 h2 hb0 ih ht hv
    go_enter Try.func90, Try.ntmps90
    go_wp2_with (go_at_call 111; refine (nodesBelow_any _ _).mono ?_; rintro e w2 ⟨rfl, rfl⟩; rw [Ha.out])
    obtain ⟨W2, hW2⟩ : ∃ W2 : World, W2 = (w.alloc (.cells #[.slice (some ⟨b, o, none⟩) l.length c] 32)).alloc (.cells #[.int .i64 x.k, .int .i64 (j : Int), .int .i64 (-1), .int .i64 x.n, .int .i64 x.m] 102) := ⟨_, rfl⟩
    have hb2 : Below w.heap.size w W2 := by rw [hW2]; exact ((Below.refl _ _).alloc (Nat.le_refl _) _).alloc (by simp) _
    have hbox : Bk W2 w.heap.size 32 [.slice (some ⟨b, o, none⟩) l.length c] := by rw [hW2]; exact (Bk.new _ _ [_]).alloc _
    have hnode : Bk W2 (w.heap.size + 1) 102 [.int .i64 x.k, .int .i64 (j : Int), .int .i64 (-1), .int .i64 x.n, .int .i64 x.m] := by
      rw [hW2]
      have := Bk.new (w.alloc (.cells #[.slice (some ⟨b, o, none⟩) l.length c] 32)) 102 [.int .i64 x.k, .int .i64 (j : Int), .int .i64 (-1), .int .i64 x.n, .int .i64 x.m]
      simpa using this
    have HW2 := Lib.hid hW2
    have Hb2 := Lib.hid hb2
    have Hbox := Lib.hid hbox
    have Hnode := Lib.hid hnode
    have hz2 := hb2.size
    clear hW2 hb2 hbox hnode
    rw [← HW2.out]
    have q0 : ∀ d os, (grow (redrawn W2 d) os).cell? ⟨w.heap.size + 1, 0, none⟩ = some (.int .i64 x.k) := fun d os => cell_regrown (Hnode.out.cell 0) d os
    have q1 : ∀ d os, (grow (redrawn W2 d) os).cell? ⟨w.heap.size + 1, 1, none⟩ = some (.int .i64 (j : Int)) := fun d os => cell_regrown (Hnode.out.cell 1) d os
    have q2 : ∀ d os, (grow (redrawn W2 d) os).cell? ⟨w.heap.size + 1, 2, none⟩ = some (.int .i64 (-1)) := fun d os => cell_regrown (Hnode.out.cell 2) d os
    have q3 : ∀ d os, (grow (redrawn W2 d) os).cell? ⟨w.heap.size + 1, 3, none⟩ = some (.int .i64 x.n) := fun d os => cell_regrown (Hnode.out.cell 3) d os
    have q4 : ∀ d os, (grow (redrawn W2 d) os).cell? ⟨w.heap.size + 1, 4, none⟩ = some (.int .i64 x.m) := fun d os => cell_regrown (Hnode.out.cell 4) d os
    have qb : ∀ d os, (grow (redrawn W2 d) os).cell? ⟨w.heap.size, 0, none⟩ = some (.slice (some ⟨b, o, none⟩) l.length c) := fun d os => cell_regrown (Hbox.out.cell 0) d os
    have Hc := Lib.hid (fun d os => Calls.regrown_of (Hi.out (grow (redrawn W2 d) os) B (Hh.out.below (Hb2.out.trans ((below_regrown W2 d os).mono hz2)) hB) (by have := (below_regrown W2 d os).size; omega)))
    refine wp_region_quiet_below (by kernel_rfl) (by kernel_rfl) ?_
    repeat (quiet_step ((go_at_call 90; exact Hc.out _ _)))
    refine wpQuiet_nil ?_
    intro wq hwq
    obtain ⟨p, hwq⟩ := hwq
    have Hq : Hid (Below W2.heap.size W2 wq) := by rw [hwq]; exact below_regrown _ _ _
    clear hwq q0 q1 q2 q3 q4 qb
    go_wp2
    go_ret
    exact ⟨by rw [tv, H1.out, H2.out, Hv.out]; rfl, Hb2.out.trans (Hq.out.mono hz2)⟩
  | @fork i j j2 x ta tb hx ha h1 hj h2 hj2 hta htb iha ihb =>
    intro A c w B h hB hn
    obtain ⟨ty, v, hv⟩ := tv_iface ta
    rw [hv] at iha
    have Hv := Lib.hid hv
    obtain ⟨ty2, v2, hv2⟩ := tv_iface tb
    rw [hv2] at ihb
    have Hv2 := Lib.hid hv2
    have hlt : i < l.length := (List.getElem?_eq_some_iff.1 hx).1
    have hb0 := (Below.refl w.heap.size w).alloc (Nat.le_refl _) (.cells #[.slice A l.length c] 32)
    obtain ⟨b, o, y, rfl, hbB, hy, hc⟩ := (h.below hb0 hB).at_ hlt
    obtain rfl := Option.some.inj (hx.symm.trans hy)
    obtain ⟨c0, c1, c2, c3, c4⟩ := hc
    have Ha := Lib.hid ha
    have H1 := Lib.hid h1
    have H2 := Lib.hid h2
    have Hh := Lib.hid h
    rw [h1] at c1
    rw [h2] at c2
    have Hi := Lib.hid (fun W' B' hW hB' => iha (some ⟨b, o, none⟩) c W' B' hW hB' hn)
    have Hi2 := Lib.hid (fun W' B' hW hB' => ihb (some ⟨b, o, none⟩) c W' B' hW hB' hn)
    clear hx hy ha h h1 h2 hb0 iha ihb hta htb hv hv2
    go_enter Try.func90, Try.ntmps90
    go_wp2_with (go_at_call 111; refine (nodesBelow_any _ _).mono ?_; rintro e w2 ⟨rfl, rfl⟩; rw [Ha.out])
    obtain ⟨W2, hW2⟩ : ∃ W2 : World, W2 = (w.alloc (.cells #[.slice (some ⟨b, o, none⟩) l.length c] 32)).alloc (.cells #[.int .i64 x.k, .int .i64 (j : Int), .int .i64 (j2 : Int), .int .i64 x.n, .int .i64 x.m] 102) := ⟨_, rfl⟩
    have hb2 : Below w.heap.size w W2 := by rw [hW2]; exact ((Below.refl _ _).alloc (Nat.le_refl _) _).alloc (by simp) _
    have hbox : Bk W2 w.heap.size 32 [.slice (some ⟨b, o, none⟩) l.length c] := by rw [hW2]; exact (Bk.new _ _ [_]).alloc _
    have hnode : Bk W2 (w.heap.size + 1) 102 [.int .i64 x.k, .int .i64 (j : Int), .int .i64 (j2 : Int), .int .i64 x.n, .int .i64 x.m] := by
      rw [hW2]
      have := Bk.new (w.alloc (.cells #[.slice (some ⟨b, o, none⟩) l.length c] 32)) 102 [.int .i64 x.k, .int .i64 (j : Int), .int .i64 (j2 : Int), .int .i64 x.n, .int .i64 x.m]
      simpa using this
    have HW2 := Lib.hid hW2
    have Hb2 := Lib.hid hb2
    have Hbox := Lib.hid hbox
    have Hnode := Lib.hid hnode
    have hz2 := hb2.size
    clear hW2 hb2 hbox hnode
    rw [← HW2.out]
    have q0 : ∀ d os, (grow (redrawn W2 d) os).cell? ⟨w.heap.size + 1, 0, none⟩ = some (.int .i64 x.k) := fun d os => cell_regrown (Hnode.out.cell 0) d os
    have q1 : ∀ d os, (grow (redrawn W2 d) os).cell? ⟨w.heap.size + 1, 1, none⟩ = some (.int .i64 (j : Int)) := fun d os => cell_regrown (Hnode.out.cell 1) d os
    have q2 : ∀ d os, (grow (redrawn W2 d) os).cell? ⟨w.heap.size + 1, 2, none⟩ = some (.int .i64 (j2 : Int)) := fun d os => cell_regrown (Hnode.out.cell 2) d os
    have q3 : ∀ d os, (grow (redrawn W2 d) os).cell? ⟨w.heap.size + 1, 3, none⟩ = some (.int .i64 x.n) := fun d os => cell_regrown (Hnode.out.cell 3) d os
    have q4 : ∀ d os, (grow (redrawn W2 d) os).cell? ⟨w.heap.size + 1, 4, none⟩ = some (.int .i64 x.m) := fun d os => cell_regrown (Hnode.out.cell 4) d os
    have qb : ∀ d os, (grow (redrawn W2 d) os).cell? ⟨w.heap.size, 0, none⟩ = some (.slice (some ⟨b, o, none⟩) l.length c) := fun d os => cell_regrown (Hbox.out.cell 0) d os
    have Hc := Lib.hid (fun d os => Calls.regrown_of (Hi.out (grow (redrawn W2 d) os) B (Hh.out.below (Hb2.out.trans ((below_regrown W2 d os).mono hz2)) hB) (by have := (below_regrown W2 d os).size; omega)))
    have Hc2 := Lib.hid (fun d os => Calls.regrown_of (Hi2.out (grow (redrawn W2 d) os) B (Hh.out.below (Hb2.out.trans ((below_regrown W2 d os).mono hz2)) hB) (by have := (below_regrown W2 d os).size; omega)))
    refine wp_region_quiet_below (by kernel_rfl) (by kernel_rfl) ?_
    repeat (quiet_step ((first | (go_at_call_of 90 ((j : Int)); exact Hc.out _ _) | (go_at_call_of 90 ((j2 : Int)); exact Hc2.out _ _))))
    refine wpQuiet_nil ?_
    intro wq hwq
    obtain ⟨p, hwq⟩ := hwq
    have Hq : Hid (Below W2.heap.size W2 wq) := by rw [hwq]; exact below_regrown _ _ _
    clear hwq q0 q1 q2 q3 q4 qb
    go_wp2
    go_ret
    exact ⟨by rw [tv, H1.out, H2.out, Hv.out, Hv2.out]; rfl, Hb2.out.trans (Hq.out.mono hz2)⟩

end Go.Proofs.Ytnmekcifbmcdpaa

/- Contracts: how deep the node i is (the reference); the tree of the node i (the program). -/
namespace Go.Proofs.Ytnmekcifbmcdpaa
open Go.RowKit Go.Sort

/-- The cells of a node. -/
def five (x : Nd) : Array Value := #[.int .i64 x.k, .int .i64 x.a, .int .i64 x.b, .int .i64 x.n, .int .i64 x.m]

end Go.Proofs.Ytnmekcifbmcdpaa

/- Contracts: the depth of a tree, asked of a value behind the interface; the depth of a pipe, told by the reference and by the program. -/
namespace Go.Proofs.Ytnmekcifbmcdpaa
open Go.RowKit Go.Sort

/-- The dynamic type of a tree's value, the value inside, the method that tells its depth. -/
def tyOf : T → TypeId
  | .leaf _ => 111
  | .stem _ _ => 113
  | .fork _ _ _ => 116
def rv : T → Value
  | .leaf x => .agg #[.int .i64 x.k, .int .i64 x.a, .int .i64 x.b, .int .i64 x.n, .int .i64 x.m]
  | .stem x t => .agg #[.int .i64 x.k, .int .i64 x.a, .int .i64 x.b, .int .i64 x.n, .int .i64 x.m, tv t]
  | .fork x a b => .agg #[.int .i64 x.k, .int .i64 x.a, .int .i64 x.b, .int .i64 x.n, .int .i64 x.m, tv a, tv b]
theorem tv_rv (t : T) : tv t = .iface (tyOf t) (rv t) := by cases t <;> rfl

/-- The depth of a pipe; -1 if it is not valid. -/
structure DepthOf (l : List Nd) (d : Int) : Prop where
  no : pipeOk l = false → d = -1
  yes : ∀ {t : T}, pipeOk l = true → IsTree l (l.length - 1) t → d = (t.depth : Nat)

theorem tree_of_pipe {l : List Nd} (h : pipeOk l = true) : ∃ t, IsTree l (l.length - 1) t := by
  have hp := pipeOk_iff.1 h
  exact IsTree.ex hp l.length _ (by have := hp.low; omega) (by have := hp.low; omega)
theorem low_of {l : List Nd} (h : pipeOk l = true) : 1 ≤ l.length := (pipeOk_iff.1 h).low
theorem high_of {l : List Nd} (h : pipeOk l = true) : l.length ≤ 12 := (pipeOk_iff.1 h).high

set_option maxHeartbeats 1600000 in
theorem treeOf_any {l : List Nd} {t : T} (ht : Hid (IsTree l (l.length - 1) t)) (A : Option Addr) (c : Nat) (w : World) (B : Nat) (h : RdN w B A l) (hB : B ≤ w.heap.size) (hlo : 1 ≤ l.length) (hn : l.length ≤ 1048576) :
    Calls Try.prog 63 #[.agg #[.slice A l.length c]] w fun e w' => e = .returned (tv t) ∧ Below w.heap.size w w' := by
  obtain ⟨W0, hW0⟩ : ∃ W0 : World, W0 = w.alloc (.cells #[.slice A l.length c] 32) := ⟨_, rfl⟩
  have hb0 : Below w.heap.size w W0 := by rw [hW0]; exact (Below.refl w.heap.size w).alloc (Nat.le_refl _) _
  have H0 := Lib.hid (h.below hb0 hB)
  have Hb0 := Lib.hid hb0
  have HW0 := Lib.hid hW0
  have hz0 := hb0.size
  clear h hb0 hW0
  obtain ⟨ty, v, hv⟩ := tv_iface t
  have Hv := Lib.hid hv
  clear hv
  go_enter Try.func63, Try.ntmps63
  go_wp2_with fail
  rw [← HW0.out]
  rw [show ((l.length : Nat) : Int) - 1 = ((l.length - 1 : Nat) : Int) from by omega]
  refine (treeAt_any ht.out A c W0 B H0.out (by omega) hn).mono ?_
  rintro e w1 ⟨rfl, hb1⟩
  rw [Hv.out]
  have Hb1 := Lib.hid hb1
  clear hb1
  go_wp2_with fail
  go_ret
  exact ⟨by rw [Hv.out]; rfl, Hb0.out.trans (Hb1.out.mono hz0)⟩

end Go.Proofs.Ytnmekcifbmcdpaa

/- Contracts: the nodes of a tree, in order, behind others (the program: a method of a value behind the interface). -/
namespace Go.Proofs.Ytnmekcifbmcdpaa
open Go.RowKit

/-- Nodes with one below have no second one. -/
def T.Fit : T → Prop
  | .leaf _ => True
  | .stem x t => x.b = -1 ∧ t.Fit
  | .fork _ a b => a.Fit ∧ b.Fit
theorem IsTree.fit {l : List Nd} {i : Nat} {t : T} (h : IsTree l i t) : t.Fit := by
  induction h with
  | leaf => trivial
  | stem _ _ _ _ h2 _ ih => exact ⟨h2, ih⟩
  | fork _ _ _ _ _ _ _ _ iha ihb => exact ⟨iha, ihb⟩

/-- The nodes of the tree of the node i, in order; none if the pipe is not valid. -/
structure OrdOf (l : List Nd) (ok : Bool) (i : Nat) (q : List Nd) : Prop where
  no : ok = false → q = []
  yes : ∀ {t : T}, ok = true → IsTree l i t → q = t.put 0

theorem own_nil (w : World) (base : Nat) : OwnN w base none 0 [] := World.ownsRow_nil w base _ 5

end Go.Proofs.Ytnmekcifbmcdpaa

/- Contracts: a pipe with its nodes in order, and the part of a node, told by the reference and by the program. -/
namespace Go.Proofs.Ytnmekcifbmcdpaa
open Go.RowKit

theorem IsTree.size_le {l : List Nd} {i : Nat} {t : T} (h : IsTree l i t) : t.size + 1 ≤ 2 ^ (i + 1) := by
  induction h with
  | @leaf i => simp only [T.size]; have := Nat.one_lt_two_pow (n := i + 1) (by omega); omega
  | @stem i j x t _ _ _ hj _ _ ih =>
    simp only [T.size]
    have h1 : 2 ^ (j + 1) ≤ 2 ^ i := Nat.pow_le_pow_right (by decide) (by omega)
    have h2 : 2 ^ (i + 1) = 2 * 2 ^ i := by rw [Nat.pow_succ, Nat.mul_comm]
    have h3 : 1 ≤ 2 ^ i := Nat.one_le_two_pow
    omega
  | @fork i j j2 x a b _ _ _ hj _ hj2 _ _ iha ihb =>
    simp only [T.size]
    have h1 : 2 ^ (j + 1) ≤ 2 ^ i := Nat.pow_le_pow_right (by decide) (by omega)
    have h4 : 2 ^ (j2 + 1) ≤ 2 ^ i := Nat.pow_le_pow_right (by decide) (by omega)
    have h2 : 2 ^ (i + 1) = 2 * 2 ^ i := by rw [Nat.pow_succ, Nat.mul_comm]
    omega
theorem IsTree.size_12 {l : List Nd} {i : Nat} {t : T} (h : IsTree l i t) (hi : i < 12) : t.size ≤ 4096 := by
  have h1 := h.size_le
  have h2 : 2 ^ (i + 1) ≤ 2 ^ 12 := Nat.pow_le_pow_right (by decide) (by omega)
  omega

theorem Wrote.below {w W w1 : World} {base c' : Nat} {A A' : Option Addr} {q : List Nd} (k : Wrote W w1 base A A' c' q) (h : Below w.heap.size w W) (hA : ∀ g, rowOf A = some g → w.heap.size ≤ g) : Below w.heap.size w w1 :=
  h.grown k.grown h.size hA

theorem RdN.nil_ (w : World) (B : Nat) : RdN w B none [] := fun h => absurd h (by simp)

end Go.Proofs.Ytnmekcifbmcdpaa

/- Nodes are appended to a slice of nodes of the call's own; a slice of nodes is cloned. -/
namespace Go.Proofs.Ytnmekcifbmcdpaa
open Go.RowKit

theorem nds_one (l : List Nd) : ∀ u ∈ nds l, u.oneCell' = true := by
  induction l with
  | nil => intro u hu; simp [nds] at hu
  | cons x l ih =>
    intro u hu
    simp only [nds, List.mem_cons] at hu
    rcases hu with rfl | rfl | rfl | rfl | rfl | hu
    · rfl
    · rfl
    · rfl
    · rfl
    · rfl
    · exact ih u hu

theorem rd_flat {w : World} {b o : Nat} {l : List Nd} (hc : ∀ (k : Nat) (x : Nd), l[k]? = some x → At5 w b (o + k * 5) x) (j : Nat) (u : Value) (hj : (nds l)[j]? = some u) : w.cell? ((⟨b, o, none⟩ : Addr).add j) = some u := by
  rw [Addr.add_lit]
  have hlt : j < l.length * 5 := by rw [← nds_len]; exact (List.getElem?_eq_some_iff.1 hj).1
  obtain ⟨k, hk⟩ : ∃ k, k = j / 5 := ⟨_, rfl⟩
  obtain ⟨r, hr⟩ : ∃ r, r = j % 5 := ⟨_, rfl⟩
  have hjk : j = k * 5 + r := by omega
  have hr5 : r < 5 := by omega
  have hkl : k < l.length := by omega
  have hx : l[k]? = some l[k] := List.getElem?_eq_getElem hkl
  obtain ⟨c0, c1, c2, c3, c4⟩ := hc k _ hx
  obtain ⟨h0, h1, h2, h3, h4⟩ := nds_at hx
  clear hk hr
  subst hjk
  have hrr : r = 0 ∨ r = 1 ∨ r = 2 ∨ r = 3 ∨ r = 4 := by omega
  rcases hrr with rfl | rfl | rfl | rfl | rfl
  · exact c0.trans (h0.symm.trans hj)
  · rw [← Nat.add_assoc]; exact c1.trans (h1.symm.trans hj)
  · rw [← Nat.add_assoc]; exact c2.trans (h2.symm.trans hj)
  · rw [← Nat.add_assoc]; exact c3.trans (h3.symm.trans hj)
  · rw [← Nat.add_assoc]; exact c4.trans (h4.symm.trans hj)

theorem wpList_append_nodes {ops : Array Oper} {rest : List Oper} {o : Oper} {a : Act} {Q : Exit → Act → World → Prop} {w : World} (hgd : o.guard = none) (s y : Operand)
    (ho : o.op = .call { callee := .builtin .append, args := #[s, y], argTypes := #[30, 30] }) (base : Nat) (A : Option Addr) (c : Nat) (l xs : List Nd) (n : Nat) (hnl : l.length = n) (hs : a.eval s = .slice A n c) (hown : OwnN w base A c l)
    (ad : Addr) (m cx : Nat) (hx : a.eval y = .slice (some ad) m cx) (hm : xs.length = m) (hread : ∀ j u, (nds xs)[j]? = some u → w.cell? (ad.add j) = some u) (hpos : 0 < m) (hn : n + m ≤ 1048576) (hb : base ≤ w.heap.size)
    (h : ∀ (A' : Option Addr) (c' : Nat) (w' : World), Appd w w' base A A' c' (l ++ xs) → wpList Try.prog ops Q rest (a.put o.dst (.slice A' (n + m) c')) w') :
    wpList Try.prog ops Q (o :: rest) a w := by
  subst hnl
  subst hm
  obtain ⟨i, hi, hz0, hz1, hz2⟩ := info_parts Try.infoNode
  refine wpList_plain hgd fun K hK => ?_
  obtain ⟨v', w', hr, h2, h3, _⟩ := run_append_own (P := Try.prog) w base 30 o.type 102 i _ 5 40 Try.underlying30 hi hz0 hz1 hz2 rfl (by decide)
    (.slice A l.length c) l.length (nds l) hown ad xs.length cx (nds xs) (nds_len xs) hread (nds_one xs) (by unfold maxLen; omega) (by omega) (by omega)
  have hw := append_where w Try.underlying30 hi hz0 hz1 hz2 hown (news := nds xs) (m := xs.length) (nds_len xs) hread (nds_one xs) hpos (by unfold maxLen; omega) (by omega) hr
  have hv : ∃ A' c', v' = .slice A' (l.length + xs.length) c' := by
    obtain ⟨_, ⟨_, h0⟩ | ⟨g, cap, cur, hv, _⟩⟩ := h2
    · omega
    · exact ⟨_, _, hv⟩
  obtain ⟨A', c', rfl⟩ := hv
  unfold Oper.wp execOp
  simp only [ho, resolve, invoke, builtin, Sem.run_bind, Sem.run_pure, Result.andThen_ok, List.map_toArray, List.map_cons, List.map_nil, hs, hx, hr]
  refine hK _ _ (h A' c' w' ⟨?_, by rw [← ownBlock_slice A l.length c]; exact h3, by simpa only [ownBlock_slice] using hw⟩)
  unfold OwnN
  rw [List.length_append, nds_append]
  exact h2

theorem own_empty (w : World) : OwnN (w.alloc (.cells #[] 102)) w.heap.size (some ⟨w.heap.size, 0, none⟩) 0 [] := by
  have h1 : Bk (w.alloc (.cells #[] 102)) w.heap.size 102 (nds []) := Bk.new w 102 []
  exact h1.own (Nat.le_refl _) (by simp)

theorem nilN (ad : Addr) (n c : Nat) (w : World) : (binOp .eql 30 (.slice (some ad) n c) (.slice none 0 0)).run Try.prog w = .ok (.bool false) w := by kernel_rfl

end Go.Proofs.Ytnmekcifbmcdpaa

/- Contracts: a node put on a pipe, told by the reference and by the program. -/
namespace Go.Proofs.Ytnmekcifbmcdpaa
open Go.RowKit

/-- Whether the node can be put on the pipe. -/
def putOk (l : List Nd) (x : Nd) : Bool := pipeOk l && ((arity x.k == 1) && (numsOk x && !(l.length == 12)))

/-- A node put on a pipe. -/
structure PutOf (l : List Nd) (x : Nd) (q : List Nd) (ok : Bool) : Prop where
  no : putOk l x = false → q = [] ∧ ok = false
  yes : putOk l x = true → q = l ++ [⟨x.k, (l.length : Int) - 1, -1, x.n, x.m⟩] ∧ ok = true

theorem known_of {k : Int} (h : (arity k == 1) = true) : known k = true := by
  rcases kinds k with (rfl | rfl | rfl | rfl | rfl | rfl | rfl | rfl | rfl | rfl | rfl | rfl | rfl | rfl) | ⟨e0, e1, e2, e3, e4, e5, e6, e7, e8, e9, e10, e11, e12, e13⟩
  all_goals first | rfl | exact absurd h (by decide) | (simp only [arity, e0, e1, e2, e3, e4, e5, e6, e7, e8, e9, e10, e11, e12, e13] at h; exact absurd h (by decide))

theorem Bk.drew_ {w : World} {g : Nat} {t : TypeId} {cs : List Value} (h : Bk w g t cs) : Bk w.drew g t cs := h

theorem arity_vals (k : Int) : arity k = 1 ∨ arity k = 0 ∨ arity k = 2 ∨ arity k = -1 := by
  unfold arity
  split
  · simp
  · split
    · simp
    · split <;> simp

end Go.Proofs.Ytnmekcifbmcdpaa
