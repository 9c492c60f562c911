/- Slices of nodes in memory: five cells a node. -/
import Derived.Test.YtjkieedomljelaaMem
import Derived.Laws.MakeOwn
import Derived.Laws.OwnMore
import Derived.OwnWalk
namespace Go.Proofs.Ytjkieedomljelaa
open Go.RowKit

/-- The cells of a list of nodes. -/
def nds : List Nd → List Value
  | [] => []
  | x :: l => .int .i64 x.k :: .int .i64 x.a :: .int .i64 x.b :: .int .i64 x.n :: .int .i64 x.m :: nds l

theorem nds_len (l : List Nd) : (nds l).length = l.length * 5 := by
  induction l with
  | nil => rfl
  | cons x l ih => simp [nds, ih]; omega
theorem nds_append (l m : List Nd) : nds (l ++ m) = nds l ++ nds m := by
  induction l with
  | nil => rfl
  | cons x l ih => simp [nds, ih]

theorem nds_at {l : List Nd} {k : Nat} {x : Nd} (h : l[k]? = some x) :
    (nds l)[k * 5]? = some (.int .i64 x.k) ∧ (nds l)[k * 5 + 1]? = some (.int .i64 x.a) ∧ (nds l)[k * 5 + 2]? = some (.int .i64 x.b) ∧ (nds l)[k * 5 + 3]? = some (.int .i64 x.n) ∧ (nds l)[k * 5 + 4]? = some (.int .i64 x.m) := by
  induction l generalizing k with
  | nil => simp at h
  | cons y l ih =>
    cases k with
    | zero => simp at h; subst h; exact ⟨rfl, rfl, rfl, rfl, rfl⟩
    | succ k =>
      have e : (k + 1) * 5 = k * 5 + 5 := by omega
      rw [e]
      exact ih (k := k) (by simpa using h)

/-- The five cells of a node at the place o of block b. -/
structure At5 (w : World) (b o : Nat) (x : Nd) : Prop where
  c0 : w.cell? ⟨b, o, none⟩ = some (.int .i64 x.k)
  c1 : w.cell? ⟨b, o + 1, none⟩ = some (.int .i64 x.a)
  c2 : w.cell? ⟨b, o + 2, none⟩ = some (.int .i64 x.b)
  c3 : w.cell? ⟨b, o + 3, none⟩ = some (.int .i64 x.n)
  c4 : w.cell? ⟨b, o + 4, none⟩ = some (.int .i64 x.m)

/-- The slice at A reads as the nodes l, below block B. -/
def RdN (w : World) (B : Nat) (A : Option Addr) (l : List Nd) : Prop :=
  0 < l.length → ∃ b o, A = some ⟨b, o, none⟩ ∧ b < B ∧ ∀ (k : Nat) (x : Nd), l[k]? = some x → At5 w b (o + k * 5) x

section
variable {w w' : World} {B B' : Nat} {A : Option Addr} {l : List Nd}
theorem At5.keep {b o : Nat} {x : Nd} (h : At5 w b o x) (hk : ∀ p : Addr, p.block = b → w'.cell? p = w.cell? p) : At5 w' b o x :=
  ⟨(hk _ rfl).trans h.c0, (hk _ rfl).trans h.c1, (hk _ rfl).trans h.c2, (hk _ rfl).trans h.c3, (hk _ rfl).trans h.c4⟩
theorem RdN.at_ (h : RdN w B A l) {k : Nat} (hk : k < l.length) : ∃ b o x, A = some ⟨b, o, none⟩ ∧ b < B ∧ l[k]? = some x ∧ At5 w b (o + k * 5) x := by
  obtain ⟨b, o, e, hb, hc⟩ := h (by omega)
  obtain ⟨x, hx⟩ := get_of_lt l hk
  exact ⟨b, o, x, e, hb, hx, hc k x hx⟩
theorem RdN.keep (h : RdN w B A l) (hk : ∀ p : Addr, p.block < B → w'.cell? p = w.cell? p) : RdN w' B A l := fun hn => by
  obtain ⟨b, o, e, hb, hc⟩ := h hn
  exact ⟨b, o, e, hb, fun k x hx => (hc k x hx).keep fun p hp => hk p (by omega)⟩
theorem RdN.more (h : RdN w B A l) (hB : B ≤ B') : RdN w B' A l := fun hn => by
  obtain ⟨b, o, e, hb, hc⟩ := h hn
  exact ⟨b, o, e, by omega, hc⟩
theorem RdN.below {C : Nat} (h : RdN w B A l) (hb : Below C w w') (hC : B ≤ C) : RdN w' B A l := h.keep fun _ hp => hb.cell (by omega)
theorem RdN.same (h : RdN w B A l) (s : Same w w') : RdN w' B A l := h.below (s.below B) (Nat.le_refl _)
theorem RdN.drewN (h : RdN w B A l) (n : Nat) : RdN (w.drewN n) B A l := h.same ⟨n, rfl⟩
end

theorem Bk.rdN {w : World} {g B : Nat} {l : List Nd} {t : TypeId} (h : Bk w g t (nds l)) (hB : g < B) : RdN w B (some ⟨g, 0, none⟩) l := fun _ => by
  refine ⟨g, 0, rfl, hB, fun k x hx => ?_⟩
  obtain ⟨h0, h1, h2, h3, h4⟩ := nds_at hx
  rw [Nat.zero_add]
  exact ⟨by rw [h.cell]; exact h0, by rw [h.cell]; exact h1, by rw [h.cell]; exact h2, by rw [h.cell]; exact h3, by rw [h.cell]; exact h4⟩

theorem nds_set {l : List Nd} {k : Nat} (x : Nd) (h : k < l.length) :
    (((((nds l).set (k * 5) (.int .i64 x.k)).set (k * 5 + 1) (.int .i64 x.a)).set (k * 5 + 2) (.int .i64 x.b)).set (k * 5 + 3) (.int .i64 x.n)).set (k * 5 + 4) (.int .i64 x.m) = nds (l.set k x) := by
  induction l generalizing k with
  | nil => simp at h
  | cons y l ih =>
    cases k with
    | zero => simp [nds]
    | succ k =>
      have e : (k + 1) * 5 = k * 5 + 5 := by omega
      rw [e]
      have := ih (k := k) (by simpa using h)
      simp only [nds, List.set_cons_succ, List.set]
      rw [← this]

/-- The node x is stored at the place k of a block of nodes. -/
theorem Bk.node {w : World} {g k : Nat} {t : TypeId} {l : List Nd} (h : Bk w g t (nds l)) (x : Nd) (hk : k < l.length) :
    Bk (((((w.setCell ⟨g, k * 5, none⟩ (.int .i64 x.k)).setCell ⟨g, k * 5 + 1, none⟩ (.int .i64 x.a)).setCell ⟨g, k * 5 + 2, none⟩ (.int .i64 x.b)).setCell ⟨g, k * 5 + 3, none⟩ (.int .i64 x.n)).setCell ⟨g, k * 5 + 4, none⟩ (.int .i64 x.m)) g t (nds (l.set k x)) := by
  rw [← nds_set x hk]
  exact ((((h.set_ _ _).set_ _ _).set_ _ _).set_ _ _).set_ _ _

/-- Five cells that can be written. -/
structure Old5 (w : World) (b o : Nat) (u0 u1 u2 u3 u4 : Value) : Prop where
  c0 : w.cell? ⟨b, o, none⟩ = some u0
  c1 : w.cell? ⟨b, o + 1, none⟩ = some u1
  c2 : w.cell? ⟨b, o + 2, none⟩ = some u2
  c3 : w.cell? ⟨b, o + 3, none⟩ = some u3
  c4 : w.cell? ⟨b, o + 4, none⟩ = some u4
  f0 : w.frozen? ⟨b, o, none⟩ = false
  f1 : w.frozen? ⟨b, o + 1, none⟩ = false
  f2 : w.frozen? ⟨b, o + 2, none⟩ = false
  f3 : w.frozen? ⟨b, o + 3, none⟩ = false
  f4 : w.frozen? ⟨b, o + 4, none⟩ = false
theorem Bk.old5 {w : World} {g o : Nat} {t : TypeId} {cs : List Value} (h : Bk w g t cs) (ho : o + 4 < cs.length) : ∃ u0 u1 u2 u3 u4, Old5 w g o u0 u1 u2 u3 u4 := by
  obtain ⟨u0, h0⟩ := get_of_lt cs (k := o) (by omega)
  obtain ⟨u1, h1⟩ := get_of_lt cs (k := o + 1) (by omega)
  obtain ⟨u2, h2⟩ := get_of_lt cs (k := o + 2) (by omega)
  obtain ⟨u3, h3⟩ := get_of_lt cs (k := o + 3) (by omega)
  obtain ⟨u4, h4⟩ := get_of_lt cs (k := o + 4) (by omega)
  exact ⟨u0, u1, u2, u3, u4, (h.cell _).trans h0, (h.cell _).trans h1, (h.cell _).trans h2, (h.cell _).trans h3, (h.cell _).trans h4, h.free _, h.free _, h.free _, h.free _, h.free _⟩
theorem Old5.below {w w' : World} {b o C : Nat} {u0 u1 u2 u3 u4 : Value} (h : Old5 w b o u0 u1 u2 u3 u4) (hb : Below C w w') (hC : b < C) : Old5 w' b o u0 u1 u2 u3 u4 := by
  have hc : ∀ i, w'.cell? ⟨b, i, none⟩ = w.cell? ⟨b, i, none⟩ := fun i => hb.cell (p := ⟨b, i, none⟩) hC
  have hf : ∀ i, w'.frozen? ⟨b, i, none⟩ = w.frozen? ⟨b, i, none⟩ := fun i => hb.frozen (p := ⟨b, i, none⟩) hC
  exact ⟨(hc _).trans h.c0, (hc _).trans h.c1, (hc _).trans h.c2, (hc _).trans h.c3, (hc _).trans h.c4, (hf _).trans h.f0, (hf _).trans h.f1, (hf _).trans h.f2, (hf _).trans h.f3, (hf _).trans h.f4⟩

/-- Nodes that are all zero. -/
def zeros (n : Nat) : List Nd := List.replicate n ⟨0, 0, 0, 0, 0⟩

theorem nds_zeros (n : Nat) : nds (zeros n) = List.replicate (n * 5) (.int .i64 0) := by
  induction n with
  | zero => rfl
  | succ n ih =>
    have e : (n + 1) * 5 = n * 5 + 1 + 1 + 1 + 1 + 1 := by omega
    rw [e]
    simp only [List.replicate_succ, zeros, nds]
    unfold zeros at ih
    rw [ih]

theorem made_five (n : Nat) : madeCells (Value.agg #[.int .i64 0, .int .i64 0, .int .i64 0, .int .i64 0, .int .i64 0]).cells (n * 5) = (nds (zeros n)).toArray := by
  rw [nds_zeros]
  apply Array.ext
  · simp [size_madeCells]
  · intro i h1 h2
    simp only [madeCells, Array.getElem_map, Array.getElem_range, List.getElem_toArray, List.getElem_replicate]
    have h5 : i % 5 < 5 := Nat.mod_lt _ (by decide)
    show (#[Value.int .i64 0, .int .i64 0, .int .i64 0, .int .i64 0, .int .i64 0])[i % 5]! = _
    generalize i % 5 = j at h5
    match j, h5 with
    | 0, _ => rfl
    | 1, _ => rfl
    | 2, _ => rfl
    | 3, _ => rfl
    | 4, _ => rfl

theorem run_make_nodes {P : Program} (t e : TypeId) (ht : P.underlying t = some (.slice e))
    (hinfo : (P.info? e).map (fun i => (i.zero, i.size, i.bytes)) = some (some (.agg #[.int .i64 0, .int .i64 0, .int .i64 0, .int .i64 0, .int .i64 0]), 5, 40)) (n : Nat) (hn : n ≤ 1048576) (w : World) :
    (Instr.makeSlice t (.int .i64 (n : Int)) (.int .i64 (n : Int))).run P w = .ok (.slice (some ⟨w.heap.size, 0, none⟩) n n) (w.alloc (.cells (nds (zeros n)).toArray e)) := by
  obtain ⟨i, hi, hz0, hz1, hz2⟩ := info_parts hinfo
  have hr := run_make (P := P) w t e i _ ht hi hz0 .i64 .i64 n n (by omega) (by omega) (by rw [hz2]; omega) (by omega)
  rw [hz1] at hr
  simp only [Int.toNat_natCast] at hr
  rw [made_five] at hr
  exact hr

theorem fill_nodes {w : World} {g k : Nat} {t : TypeId} {l : List Nd} {x : Nd} (h : Bk w g t (nds (l.take k ++ zeros (l.length - k)))) (hx : l[k]? = some x) :
    Bk (((((w.setCell ⟨g, k * 5, none⟩ (.int .i64 x.k)).setCell ⟨g, k * 5 + 1, none⟩ (.int .i64 x.a)).setCell ⟨g, k * 5 + 2, none⟩ (.int .i64 x.b)).setCell ⟨g, k * 5 + 3, none⟩ (.int .i64 x.n)).setCell ⟨g, k * 5 + 4, none⟩ (.int .i64 x.m)) g t (nds (l.take (k + 1) ++ zeros (l.length - (k + 1)))) := by
  have hl : k < l.length := (List.getElem?_eq_some_iff.1 hx).1
  have h2 := h.node x (k := k) (by simp [zeros]; omega)
  unfold zeros at h2
  rw [fill_set _ _ _ (by simp; omega) hl] at h2
  rw [take_succ_of hx]
  exact h2
theorem below_five {B : Nat} {a w : World} (h : Below B a w) {g i : Nat} (hg : B ≤ g) (v0 v1 v2 v3 v4 : Value) :
    Below B a (((((w.setCell ⟨g, i, none⟩ v0).setCell ⟨g, i + 1, none⟩ v1).setCell ⟨g, i + 2, none⟩ v2).setCell ⟨g, i + 3, none⟩ v3).setCell ⟨g, i + 4, none⟩ v4) :=
  ((((h.setCell hg _).setCell hg _).setCell hg _).setCell hg _).setCell hg _

end Go.Proofs.Ytjkieedomljelaa
