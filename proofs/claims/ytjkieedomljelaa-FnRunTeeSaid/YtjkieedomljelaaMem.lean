/- What a slice of numbers, and a slice of such slices, reads as in a world; a block that is known whole; how these are kept over what a call does to memory. -/
import Derived.WalkKit
import Derived.Deep.OwnRows
import Derived.Deep.Draws
import Derived.Laws.Rows
import Derived.Test.YtjkieedomljelaaMath
namespace Go.Proofs.Ytjkieedomljelaa
open Go.RowKit

theorem add_block (a : Addr) (n : Nat) : (a.add n).block = a.block := by unfold Addr.add; split <;> rfl
theorem add_zero_row (g k : Nat) : (⟨g, 0, none⟩ : Addr).add k = ⟨g, k, none⟩ := by
  unfold Addr.add
  split
  · rename_i h; subst h; rfl
  · simp

/-- One world is another one but for draws. -/
def Same (w w' : World) : Prop := ∃ n, w' = w.drewN n
theorem Same.refl (w : World) : Same w w := ⟨0, rfl⟩
theorem Same.drewN {w w' : World} (h : Same w w') (n : Nat) : Same w (w'.drewN n) := by
  obtain ⟨m, rfl⟩ := h
  exact ⟨m + n, World.drewN_drewN ..⟩
theorem Same.trans {a b c : World} (h : Same a b) (k : Same b c) : Same a c := by
  obtain ⟨n, rfl⟩ := k
  exact h.drewN n
theorem Same.below {w w' : World} (h : Same w w') (B : Nat) : Below B w w' := by
  obtain ⟨m, rfl⟩ := h
  exact ⟨rfl, rfl, rfl, Nat.le_refl _, fun _ _ => rfl⟩
theorem Same.heap {w w' : World} (h : Same w w') : w'.heap = w.heap := by
  obtain ⟨m, rfl⟩ := h
  rfl

theorem below_step {w wr w1 : World} (h : Below w.heap.size w wr) (hb : Below wr.heap.size wr.drew w1) : Below w.heap.size w w1 := h.drew.trans (hb.mono h.size)

/-- The slice at A reads as the numbers l, below block B. -/
def RdI (w : World) (B : Nat) (A : Option Addr) (l : List Int) : Prop :=
  0 < l.length → ∃ ad, A = some ad ∧ ad.block < B ∧ ∀ (k : Nat) (x : Int), l[k]? = some x → w.cell? (ad.add k) = some (.int .i64 x)

section
variable {w w' : World} {B B' : Nat} {A : Option Addr} {l : List Int}
theorem RdI.at_ (h : RdI w B A l) {k : Nat} (hk : k < l.length) : ∃ ad x, A = some ad ∧ l[k]? = some x ∧ w.cell? (ad.add k) = some (.int .i64 x) := by
  obtain ⟨ad, e, _, hc⟩ := h (by omega)
  obtain ⟨x, hx⟩ := get_of_lt l hk
  exact ⟨ad, x, e, hx, hc k x hx⟩
theorem RdI.keep (h : RdI w B A l) (hk : ∀ p : Addr, p.block < B → w'.cell? p = w.cell? p) : RdI w' B A l := fun hn => by
  obtain ⟨ad, e, hb, hc⟩ := h hn
  exact ⟨ad, e, hb, fun k x hx => (hk _ (by rw [add_block]; exact hb)).trans (hc k x hx)⟩
theorem RdI.more (h : RdI w B A l) (hB : B ≤ B') : RdI w B' A l := fun hn => by
  obtain ⟨ad, e, hb, hc⟩ := h hn
  exact ⟨ad, e, by omega, hc⟩
theorem RdI.below {C : Nat} (h : RdI w B A l) (hb : Below C w w') (hC : B ≤ C) : RdI w' B A l := h.keep fun _ hp => hb.cell (by omega)
theorem RdI.same (h : RdI w B A l) (s : Same w w') : RdI w' B A l := h.below (s.below B) (Nat.le_refl _)
theorem RdI.drewN (h : RdI w B A l) (n : Nat) : RdI (w.drewN n) B A l := h
end

/-- The slice at A reads as the rows, below block B. -/
def RdR (w : World) (B : Nat) (A : Option Addr) (rows : List (List Int)) : Prop :=
  0 < rows.length → ∃ ad, A = some ad ∧ ad.block < B ∧ ∀ (k : Nat) (r : List Int), rows[k]? = some r → ∃ Ar cr, w.cell? (ad.add k) = some (.slice Ar r.length cr) ∧ RdI w B Ar r

section
variable {w w' : World} {B B' : Nat} {A : Option Addr} {rows : List (List Int)}
theorem RdR.at_ (h : RdR w B A rows) {k : Nat} (hk : k < rows.length) :
    ∃ ad r Ar cr, A = some ad ∧ rows[k]? = some r ∧ w.cell? (ad.add k) = some (.slice Ar r.length cr) ∧ RdI w B Ar r := by
  obtain ⟨ad, e, _, hc⟩ := h (by omega)
  obtain ⟨r, hr⟩ := get_of_lt rows hk
  obtain ⟨Ar, cr, h1, h2⟩ := hc k r hr
  exact ⟨ad, r, Ar, cr, e, hr, h1, h2⟩
theorem RdR.keep (h : RdR w B A rows) (hk : ∀ p : Addr, p.block < B → w'.cell? p = w.cell? p) : RdR w' B A rows := fun hn => by
  obtain ⟨ad, e, hb, hc⟩ := h hn
  refine ⟨ad, e, hb, fun k r hr => ?_⟩
  obtain ⟨Ar, cr, h1, h2⟩ := hc k r hr
  exact ⟨Ar, cr, (hk _ (by rw [add_block]; exact hb)).trans h1, h2.keep hk⟩
theorem RdR.below {C : Nat} (h : RdR w B A rows) (hb : Below C w w') (hC : B ≤ C) : RdR w' B A rows := h.keep fun _ hp => hb.cell (by omega)
theorem RdR.same (h : RdR w B A rows) (s : Same w w') : RdR w' B A rows := h.below (s.below B) (Nat.le_refl _)
theorem RdR.drewN (h : RdR w B A rows) (n : Nat) : RdR (w.drewN n) B A rows := h
theorem RdR.more (h : RdR w B A rows) (hB : B ≤ B') : RdR w B' A rows := fun hn => by
  obtain ⟨ad, e, hb, hc⟩ := h hn
  refine ⟨ad, e, by omega, fun k r hr => ?_⟩
  obtain ⟨Ar, cr, h1, h2⟩ := hc k r hr
  exact ⟨Ar, cr, h1, h2.more hB⟩
end

/-- Block g is just these cells, none of them frozen. -/
def Bk (w : World) (g : Nat) (t : TypeId) (cs : List Value) : Prop := w.heap[g]? = some (.cells cs.toArray t (0, 0))

section
variable {w w' : World} {g : Nat} {t : TypeId} {cs : List Value}
theorem Bk.lt (h : Bk w g t cs) : g < w.heap.size := lt_of_block h
theorem Bk.cell (h : Bk w g t cs) (i : Nat) : w.cell? ⟨g, i, none⟩ = cs[i]? := by
  rw [cell_of_row w g i cs.toArray t (0, 0) h]; simp
theorem Bk.free (h : Bk w g t cs) (i : Nat) : w.frozen? ⟨g, i, none⟩ = false := frozen_of_row w g i cs.toArray t h
theorem Bk.new (w : World) (t : TypeId) (cs : List Value) : Bk (w.alloc (.cells cs.toArray t)) w.heap.size t cs := heap_alloc_new w _
theorem Bk.drewN (h : Bk w g t cs) (n : Nat) : Bk (w.drewN n) g t cs := h
theorem Bk.alloc (h : Bk w g t cs) (o : Obj) : Bk (w.alloc o) g t cs := (Below.heap_alloc w o g h.lt).trans h
theorem Bk.far (h : Bk w g t cs) {p : Addr} (hp : g ≠ p.block) (u : Value) : Bk (w.setCell p u) g t cs := (Below.heap_setCell w p u g hp).trans h
theorem Bk.set_ (h : Bk w g t cs) (i : Nat) (u : Value) : Bk (w.setCell ⟨g, i, none⟩ u) g t (cs.set i u) := by
  unfold Bk at h ⊢
  simp [World.setCell, Array.getElem?_modify, h]
theorem Bk.below {C : Nat} (h : Bk w g t cs) (hb : Below C w w') (hg : g < C) : Bk w' g t cs := (hb.block g hg).trans h
theorem Bk.type_ {t' : TypeId} {cs' : List Value} (h : Bk w g t cs) (h' : Bk w g t' cs') : t = t' := by
  unfold Bk at h h'
  rw [h] at h'
  simp at h'
  exact h'.2
end

/-- The cells of a list of numbers. -/
def ints (l : List Int) : List Value := l.map (Value.int .i64)
theorem ints_get (l : List Int) (k : Nat) : (ints l)[k]? = l[k]?.map (Value.int .i64) := by simp [ints]

theorem Bk.rd {w : World} {g B : Nat} {l : List Int} {t : TypeId} (h : Bk w g t (ints l)) (hB : g < B) : RdI w B (some ⟨g, 0, none⟩) l := fun _ => by
  refine ⟨_, rfl, hB, fun k x hx => ?_⟩
  rw [add_zero_row, h.cell, ints_get, hx]; rfl

/-- A copy of the rows in the call's own memory: block g the slices, one block a row, in ascending order. -/
structure OwnR (w : World) (t1 t2 : TypeId) (base g : Nat) (gs : List Nat) (rows : List (List Int)) : Prop where
  base_ : base ≤ g
  len : gs.length = rows.length
  up : ∀ x ∈ gs, g < x
  asc : gs.Pairwise (· < ·)
  top : Bk w g t1 (List.zipWith (fun x (r : List Int) => Value.slice (some ⟨x, 0, none⟩) r.length r.length) gs rows)
  row : ∀ (j x : Nat) (r : List Int), gs[j]? = some x → rows[j]? = some r → Bk w x t2 (ints r)

section
variable {w w' : World} {t1 t2 : TypeId} {base g : Nat} {gs : List Nat} {rows : List (List Int)}
theorem OwnR.get_ (h : OwnR w t1 t2 base g gs rows) {j x : Nat} (hj : gs[j]? = some x) : ∃ r, rows[j]? = some r := by
  have h1 : j < gs.length := (List.getElem?_eq_some_iff.1 hj).1
  exact get_of_lt rows (by rw [← h.len]; exact h1)
theorem OwnR.lt_ (h : OwnR w t1 t2 base g gs rows) : ∀ x ∈ gs, x < w.heap.size := fun x hx => by
  obtain ⟨j, hj⟩ := List.getElem?_of_mem hx
  obtain ⟨r, hr⟩ := h.get_ hj
  exact (h.row j x r hj hr).lt
theorem OwnR.below {C : Nat} (h : OwnR w t1 t2 base g gs rows) (hb : Below C w w') (hC : w.heap.size ≤ C) : OwnR w' t1 t2 base g gs rows :=
  ⟨h.base_, h.len, h.up, h.asc, h.top.below hb (by have := h.top.lt; omega), fun j x r hj hr => (h.row j x r hj hr).below hb (by have := (h.row j x r hj hr).lt; omega)⟩
theorem OwnR.drewN (h : OwnR w t1 t2 base g gs rows) (n : Nat) : OwnR (w.drewN n) t1 t2 base g gs rows := ⟨h.base_, h.len, h.up, h.asc, h.top, h.row⟩
theorem OwnR.rd {B : Nat} (h : OwnR w t1 t2 base g gs rows) (hB : w.heap.size ≤ B) : RdR w B (some ⟨g, 0, none⟩) rows := fun _ => by
  refine ⟨_, rfl, by have := h.top.lt; show g < B; omega, fun k r hr => ?_⟩
  have h1 : k < rows.length := (List.getElem?_eq_some_iff.1 hr).1
  obtain ⟨x, hx⟩ := get_of_lt gs (k := k) (by rw [h.len]; exact h1)
  have hb := h.row k x r hx hr
  exact ⟨some ⟨x, 0, none⟩, r.length, by rw [add_zero_row, h.top.cell]; simp [List.getElem?_zipWith, hx, hr], hb.rd (by have := hb.lt; omega)⟩
end

/-- .. while it is being made: the rows of gs are there, the others still nil. -/
structure PartR (w : World) (t1 t2 : TypeId) (g : Nat) (gs : List Nat) (rows : List (List Int)) : Prop where
  up : ∀ x ∈ gs, g < x
  asc : gs.Pairwise (· < ·)
  top : Bk w g t1 (List.zipWith (fun x (r : List Int) => Value.slice (some ⟨x, 0, none⟩) r.length r.length) gs rows ++ List.replicate (rows.length - gs.length) (.slice none 0 0))
  row : ∀ (j x : Nat) (r : List Int), gs[j]? = some x → rows[j]? = some r → Bk w x t2 (ints r)

section
variable {w w1 : World} {t1 t2 : TypeId} {g : Nat} {gs : List Nat} {rows : List (List Int)}
theorem PartR.start (h : Bk w g t1 (List.replicate rows.length (.slice none 0 0))) : PartR w t1 t2 g [] rows :=
  ⟨fun _ hx => absurd hx (by simp), List.Pairwise.nil, by simpa using h, fun _ _ _ hj => absurd hj (by simp)⟩
theorem PartR.lt_ (h : PartR w t1 t2 g gs rows) (hle : gs.length ≤ rows.length) : ∀ x ∈ gs, x < w.heap.size := fun x hx => by
  obtain ⟨j, hj⟩ := List.getElem?_of_mem hx
  have h1 : j < gs.length := (List.getElem?_eq_some_iff.1 hj).1
  obtain ⟨r, hr⟩ := get_of_lt rows (k := j) (by omega)
  exact (h.row j x r hj hr).lt
theorem PartR.step (h : PartR w t1 t2 g gs rows) {r : List Int} (hr : rows[gs.length]? = some r) (hb : Below w.heap.size w w1) (hn : Bk w1 w.heap.size t2 (ints r)) :
    PartR (w1.setCell ⟨g, gs.length, none⟩ (.slice (some ⟨w.heap.size, 0, none⟩) r.length r.length)) t1 t2 g (gs ++ [w.heap.size]) rows := by
  have hk : gs.length < rows.length := (List.getElem?_eq_some_iff.1 hr).1
  have hlt := h.lt_ (by omega)
  have hg := h.top.lt
  refine ⟨fun x hx => ?_, List.pairwise_append.2 ⟨h.asc, List.pairwise_singleton _ _, fun a ha b hb => ?_⟩, ?_, fun j x r' hj hr' => ?_⟩
  · rcases List.mem_append.1 hx with hx | hx
    · exact h.up x hx
    · rw [List.mem_singleton.1 hx]; exact hg
  · rw [List.mem_singleton.1 hb]; exact hlt a ha
  · have h2 := (h.top.below hb hg).set_ gs.length (.slice (some ⟨w.heap.size, 0, none⟩) r.length r.length)
    rw [fill_set _ _ _ (by simp; omega) hk] at h2
    rw [zip_snoc _ _ _ rfl hr]
    simpa using h2
  · have hne : x ≠ g := by
      intro e
      subst e
      rcases List.mem_append.1 (List.mem_of_getElem? hj) with hx | hx
      · exact absurd (h.up x hx) (Nat.lt_irrefl _)
      · rw [List.mem_singleton.1 hx] at hg; exact absurd hg (Nat.lt_irrefl _)
    refine Bk.far ?_ (by exact hne) _
    by_cases hjl : j < gs.length
    · rw [List.getElem?_append_left hjl] at hj
      exact (h.row j x r' hj hr').below hb (hlt x (List.mem_of_getElem? hj))
    · have hj1 : j < (gs ++ [w.heap.size]).length := (List.getElem?_eq_some_iff.1 hj).1
      have e : j = gs.length := by simp at hj1; omega
      subst e
      rw [hr] at hr'
      obtain rfl := Option.some.inj hr'
      rw [List.getElem?_append_right (Nat.le_refl _), Nat.sub_self] at hj
      simp at hj
      rw [← hj]
      exact hn
theorem PartR.old (h : PartR w t1 t2 g gs rows) (hk : gs.length < rows.length) : w.cell? ⟨g, gs.length, none⟩ = some (.slice none 0 0) := by
  rw [h.top.cell, List.getElem?_append_right (by simp; omega)]
  have e : gs.length - (List.zipWith (fun x (r : List Int) => Value.slice (some ⟨x, 0, none⟩) r.length r.length) gs rows).length = 0 := by simp; omega
  rw [e, List.getElem?_replicate, if_pos (by omega)]
theorem PartR.done {base : Nat} (h : PartR w t1 t2 g gs rows) (hl : gs.length = rows.length) (hb : base ≤ g) : OwnR w t1 t2 base g gs rows :=
  ⟨hb, hl, h.up, h.asc, by simpa [hl] using h.top, h.row⟩
end

end Go.Proofs.Ytjkieedomljelaa
