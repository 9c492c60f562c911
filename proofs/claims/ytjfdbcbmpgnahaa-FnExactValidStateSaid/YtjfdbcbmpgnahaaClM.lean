/- Cells of nodes in memory. -/
import Derived.Test.YtjfdbcbmpgnahaaHld
import Derived.Laws.MakeOwn
import Derived.OwnWalk
namespace Go.Proofs.Ytjfdbcbmpgnahaa
open Go.RowKit

structure Cl where
  n : Int
  l : Int
  r : Int
  hl : Bool
  hr : Bool
  d : Bool
deriving DecidableEq

theorem Cl.ext_ {x y : Cl} (h0 : x.n = y.n) (h1 : x.l = y.l) (h2 : x.r = y.r) (h3 : x.hl = y.hl) (h4 : x.hr = y.hr) (h5 : x.d = y.d) : x = y := by
  cases x; cases y; simp at h0 h1 h2 h3 h4 h5; simp [h0, h1, h2, h3, h4, h5]
def clEq (x y : Cl) : Bool := decide (x = y)
theorem clEq_no0 {x y : Cl} (h : (x.n != y.n) = true) : clEq x y = false := by
  apply decide_eq_false
  intro e
  subst e
  simp at h
theorem clEq_no1 {x y : Cl} (h : (x.l != y.l) = true) : clEq x y = false := by
  apply decide_eq_false
  intro e
  subst e
  simp at h
theorem clEq_no2 {x y : Cl} (h : (x.r != y.r) = true) : clEq x y = false := by
  apply decide_eq_false
  intro e
  subst e
  simp at h
theorem clEq_no3 {x y : Cl} (h : (x.hl != y.hl) = true) : clEq x y = false := by
  apply decide_eq_false
  intro e
  subst e
  simp at h
theorem clEq_no4 {x y : Cl} (h : (x.hr != y.hr) = true) : clEq x y = false := by
  apply decide_eq_false
  intro e
  subst e
  simp at h
theorem clEq_no5 {x y : Cl} (h : (x.d != y.d) = true) : clEq x y = false := by
  apply decide_eq_false
  intro e
  subst e
  simp at h
theorem clEq_yes {x y : Cl} (h0 : (x.n != y.n) = false) (h1 : (x.l != y.l) = false) (h2 : (x.r != y.r) = false) (h3 : (x.hl != y.hl) = false) (h4 : (x.hr != y.hr) = false) (h5 : (x.d != y.d) = false) : clEq x y = true := by
  apply decide_eq_true
  simp at h0 h1 h2 h3 h4 h5
  exact Cl.ext_ h0 h1 h2 h3 h4 h5
theorem clEq_ne {x y : Cl} (h : clEq x y = false) : x ≠ y := of_decide_eq_false h
theorem clEq_eq {x y : Cl} (h : clEq x y = true) : x = y := of_decide_eq_true h

/-- The cells of x stand in cs from o on. -/
structure ClIn (cs : List Value) (o : Nat) (x : Cl) : Prop where
  c0 : cs[o]? = some (.int .i64 x.n)
  c1 : cs[o + 1]? = some (.int .i64 x.l)
  c2 : cs[o + 2]? = some (.int .i64 x.r)
  c3 : cs[o + 3]? = some (.bool x.hl)
  c4 : cs[o + 4]? = some (.bool x.hr)
  c5 : cs[o + 5]? = some (.bool x.d)
/-- .. in memory. -/
structure ClAt (w : World) (b o : Nat) (x : Cl) : Prop where
  c0 : w.cell? ⟨b, o, none⟩ = some (.int .i64 x.n)
  c1 : w.cell? ⟨b, o + 1, none⟩ = some (.int .i64 x.l)
  c2 : w.cell? ⟨b, o + 2, none⟩ = some (.int .i64 x.r)
  c3 : w.cell? ⟨b, o + 3, none⟩ = some (.bool x.hl)
  c4 : w.cell? ⟨b, o + 4, none⟩ = some (.bool x.hr)
  c5 : w.cell? ⟨b, o + 5, none⟩ = some (.bool x.d)
theorem ClIn.at_ {w : World} {g o : Nat} {t : TypeId} {cs : List Value} {x : Cl} (h : ClIn cs o x) (hb : Bk w g t cs) : ClAt w g o x :=
  ⟨(hb.cell _).trans h.c0, (hb.cell _).trans h.c1, (hb.cell _).trans h.c2, (hb.cell _).trans h.c3, (hb.cell _).trans h.c4, (hb.cell _).trans h.c5⟩
theorem ClAt.keep {w w' : World} {b o : Nat} {x : Cl} (h : ClAt w b o x) (hk : ∀ p : Addr, p.block = b → w'.cell? p = w.cell? p) : ClAt w' b o x :=
  ⟨(hk _ rfl).trans h.c0, (hk _ rfl).trans h.c1, (hk _ rfl).trans h.c2, (hk _ rfl).trans h.c3, (hk _ rfl).trans h.c4, (hk _ rfl).trans h.c5⟩

/-- The slice at A reads as the list l, below block B. -/
def RdCl (w : World) (B : Nat) (A : Option Addr) (l : List Cl) : Prop :=
  0 < l.length → ∃ b o, A = some ⟨b, o, none⟩ ∧ b < B ∧ ∀ (k : Nat) (x : Cl), l[k]? = some x → ClAt w b (o + k * 6) x
/-- .. in memory of a call's own, blocks lo to hi. -/
def OwnCl (w : World) (lo hi : Nat) (A : Option Addr) (l : List Cl) : Prop :=
  0 < l.length → ∃ g o cs, A = some ⟨g, o, none⟩ ∧ lo ≤ g ∧ g < hi ∧ Bk w g 96 cs ∧ ∀ (k : Nat) (x : Cl), l[k]? = some x → ClIn cs (o + k * 6) x

section
variable {w w' : World} {B B' lo hi : Nat} {A : Option Addr} {l : List Cl}
theorem RdCl.at_ (h : RdCl w B A l) {k : Nat} (hk : k < l.length) : ∃ b o x, A = some ⟨b, o, none⟩ ∧ b < B ∧ l[k]? = some x ∧ ClAt w b (o + k * 6) x := by
  obtain ⟨b, o, e, hb, hc⟩ := h (by omega)
  obtain ⟨x, hx⟩ := get_of_lt l hk
  exact ⟨b, o, x, e, hb, hx, hc k x hx⟩
theorem RdCl.keep (h : RdCl w B A l) (hk : ∀ p : Addr, p.block < B → w'.cell? p = w.cell? p) : RdCl w' B A l := fun hn => by
  obtain ⟨b, o, e, hb, hc⟩ := h hn
  exact ⟨b, o, e, hb, fun k x hx => (hc k x hx).keep fun p hp => hk p (by omega)⟩
theorem RdCl.more (h : RdCl w B A l) (hB : B ≤ B') : RdCl w B' A l := fun hn => by
  obtain ⟨b, o, e, hb, hc⟩ := h hn
  exact ⟨b, o, e, by omega, hc⟩
theorem RdCl.below {C : Nat} (h : RdCl w B A l) (hb : Below C w w') (hC : B ≤ C) : RdCl w' B A l := h.keep fun _ hp => hb.cell (by omega)
theorem RdCl.drewN (h : RdCl w B A l) (n : Nat) : RdCl (w.drewN n) B A l := h.below (Same.below ⟨n, rfl⟩ B) (Nat.le_refl _)
theorem RdCl.held (h : RdCl w B A l) (hB : B ≤ w.heap.size) : Held w 0 B (fun v => RdCl v B A l) :=
  ⟨Nat.zero_le _, hB, fun _ _ hag => h.keep fun _ hp => cell_agree hag (Nat.zero_le _) hp⟩
theorem OwnCl.rd (h : OwnCl w lo hi A l) : RdCl w hi A l := fun hn => by
  obtain ⟨g, o, cs, rfl, h1, h2, hb, hc⟩ := h hn
  exact ⟨g, o, rfl, h2, fun k x hx => (hc k x hx).at_ hb⟩
theorem OwnCl.rdt (h : OwnCl w lo hi A l) (hz : hi ≤ w.heap.size) : RdCl w w.heap.size A l := h.rd.more hz
theorem OwnCl.agree (h : OwnCl w lo hi A l) (hag : ∀ b, lo ≤ b → b < hi → w'.heap[b]? = w.heap[b]?) : OwnCl w' lo hi A l := fun hn => by
  obtain ⟨g, o, cs, rfl, h1, h2, hb, hc⟩ := h hn
  exact ⟨g, o, cs, rfl, h1, h2, (hag g h1 h2).trans hb, hc⟩
theorem OwnCl.held (h : OwnCl w lo hi A l) (h1 : lo ≤ hi) (h2 : hi ≤ w.heap.size) : Held w lo hi (fun v => OwnCl v lo hi A l) := ⟨h1, h2, fun _ _ hag => h.agree hag⟩
theorem OwnCl.wide {lo2 hi2 : Nat} (h : OwnCl w lo hi A l) (h1 : lo2 ≤ lo) (h2 : hi ≤ hi2) : OwnCl w lo2 hi2 A l := fun hn => by
  obtain ⟨g, o, cs, rfl, h3, h4, hb, hc⟩ := h hn
  exact ⟨g, o, cs, rfl, by omega, by omega, hb, hc⟩
theorem OwnCl.nil_ (w : World) (lo hi : Nat) (A : Option Addr) : OwnCl w lo hi A [] := fun h => absurd h (by simp)
end

theorem ClIn.set_self {cs : List Value} {o : Nat} (x : Cl) (h : o + 5 < cs.length) : ClIn ((((((cs.set o (.int .i64 x.n)).set (o + 1) (.int .i64 x.l)).set (o + 2) (.int .i64 x.r)).set (o + 3) (.bool x.hl)).set (o + 4) (.bool x.hr)).set (o + 5) (.bool x.d)) o x := by
  constructor <;> simp [List.getElem?_set] <;> omega
theorem ClIn.set_far {cs : List Value} {o j : Nat} {x : Cl} {u : Value} (h : ClIn cs o x) (hj : j < o ∨ o + 5 < j) : ClIn (cs.set j u) o x :=
  ⟨by rw [List.getElem?_set_ne (by omega)]; exact h.c0, by rw [List.getElem?_set_ne (by omega)]; exact h.c1, by rw [List.getElem?_set_ne (by omega)]; exact h.c2, by rw [List.getElem?_set_ne (by omega)]; exact h.c3, by rw [List.getElem?_set_ne (by omega)]; exact h.c4, by rw [List.getElem?_set_ne (by omega)]; exact h.c5⟩
/-- 6 cells that can be written. -/
structure ClOld (w : World) (b o : Nat) (u0 u1 u2 u3 u4 u5 : Value) : Prop where
  c0 : w.cell? ⟨b, o, none⟩ = some u0
  c1 : w.cell? ⟨b, o + 1, none⟩ = some u1
  c2 : w.cell? ⟨b, o + 2, none⟩ = some u2
  c3 : w.cell? ⟨b, o + 3, none⟩ = some u3
  c4 : w.cell? ⟨b, o + 4, none⟩ = some u4
  c5 : w.cell? ⟨b, o + 5, none⟩ = some u5
  f0 : w.frozen? ⟨b, o, none⟩ = false
  f1 : w.frozen? ⟨b, o + 1, none⟩ = false
  f2 : w.frozen? ⟨b, o + 2, none⟩ = false
  f3 : w.frozen? ⟨b, o + 3, none⟩ = false
  f4 : w.frozen? ⟨b, o + 4, none⟩ = false
  f5 : w.frozen? ⟨b, o + 5, none⟩ = false
theorem Bk.oldCl {w : World} {g o : Nat} {t : TypeId} {cs : List Value} (h : Bk w g t cs) (ho : o + 5 < cs.length) : ∃ u0 u1 u2 u3 u4 u5, ClOld w g o u0 u1 u2 u3 u4 u5 := by
  obtain ⟨u0, h0⟩ := get_of_lt cs (k := o) (by omega)
  obtain ⟨u1, h1⟩ := get_of_lt cs (k := o + 1) (by omega)
  obtain ⟨u2, h2⟩ := get_of_lt cs (k := o + 2) (by omega)
  obtain ⟨u3, h3⟩ := get_of_lt cs (k := o + 3) (by omega)
  obtain ⟨u4, h4⟩ := get_of_lt cs (k := o + 4) (by omega)
  obtain ⟨u5, h5⟩ := get_of_lt cs (k := o + 5) (by omega)
  exact ⟨u0, u1, u2, u3, u4, u5, (h.cell _).trans h0, (h.cell _).trans h1, (h.cell _).trans h2, (h.cell _).trans h3, (h.cell _).trans h4, (h.cell _).trans h5, h.free _, h.free _, h.free _, h.free _, h.free _, h.free _⟩
theorem ClOld.below {w w' : World} {b o C : Nat} {u0 u1 u2 u3 u4 u5 : Value} (h : ClOld w b o u0 u1 u2 u3 u4 u5) (hb : Below C w w') (hC : b < C) : ClOld w' b o u0 u1 u2 u3 u4 u5 := by
  have hc : ∀ i, w'.cell? ⟨b, i, none⟩ = w.cell? ⟨b, i, none⟩ := fun i => hb.cell (p := ⟨b, i, none⟩) hC
  have hf : ∀ i, w'.frozen? ⟨b, i, none⟩ = w.frozen? ⟨b, i, none⟩ := fun i => hb.frozen (p := ⟨b, i, none⟩) hC
  exact ⟨(hc _).trans h.c0, (hc _).trans h.c1, (hc _).trans h.c2, (hc _).trans h.c3, (hc _).trans h.c4, (hc _).trans h.c5, (hf _).trans h.f0, (hf _).trans h.f1, (hf _).trans h.f2, (hf _).trans h.f3, (hf _).trans h.f4, (hf _).trans h.f5⟩

theorem Try.infoCl : (Try.prog.info? 96).map (fun i => (i.zero, i.size, i.bytes)) = some (some (.agg #[.int .i64 0, .int .i64 0, .int .i64 0, .bool false, .bool false, .bool false]), 6, 32) := by kernel_rfl
/-- The cells of a new row. -/
def madeCl (n : Nat) : List Value := (madeCells #[.int .i64 0, .int .i64 0, .int .i64 0, .bool false, .bool false, .bool false] (n * 6)).toList
theorem madeCl_len (n : Nat) : (madeCl n).length = n * 6 := by simp [madeCl, size_madeCells]
def zeroCl : Cl := ⟨0, 0, 0, false, false, false⟩
theorem madeCl_get (n j : Nat) (hj : j < n * 6) : (madeCl n)[j]? = some ((#[.int .i64 0, .int .i64 0, .int .i64 0, .bool false, .bool false, .bool false])[j % 6]!) := by
  simp [madeCl, madeCells, hj]
theorem madeCl_in (n k : Nat) (hk : k < n) : ClIn (madeCl n) (k * 6) zeroCl := by
  constructor
  · rw [madeCl_get _ _ (by omega), show (k * 6) % 6 = 0 from by omega]; rfl
  · rw [madeCl_get _ _ (by omega), show (k * 6 + 1) % 6 = 1 from by omega]; rfl
  · rw [madeCl_get _ _ (by omega), show (k * 6 + 2) % 6 = 2 from by omega]; rfl
  · rw [madeCl_get _ _ (by omega), show (k * 6 + 3) % 6 = 3 from by omega]; rfl
  · rw [madeCl_get _ _ (by omega), show (k * 6 + 4) % 6 = 4 from by omega]; rfl
  · rw [madeCl_get _ _ (by omega), show (k * 6 + 5) % 6 = 5 from by omega]; rfl
theorem run_makeCl {P : Program} (t e : TypeId) (ht : P.underlying t = some (.slice e))
    (hinfo : (P.info? e).map (fun i => (i.zero, i.size, i.bytes)) = some (some (.agg #[.int .i64 0, .int .i64 0, .int .i64 0, .bool false, .bool false, .bool false]), 6, 32)) (n : Nat) (hn : n ≤ 1048576) (w : World) :
    (Instr.makeSlice t (.int .i64 (n : Int)) (.int .i64 (n : Int))).run P w = .ok (.slice (some ⟨w.heap.size, 0, none⟩) n n) (w.alloc (.cells (madeCl n).toArray e)) := by
  obtain ⟨i, hi, hz0, hz1, hz2⟩ := info_parts hinfo
  have hr := run_make (P := P) w t e i _ ht hi hz0 .i64 .i64 n n (by omega) (by omega) (by rw [hz2]; omega) (by omega)
  rw [hz1] at hr
  simp only [Int.toNat_natCast] at hr
  rw [hr]
  simp [madeCl, Value.cells]

end Go.Proofs.Ytjfdbcbmpgnahaa
