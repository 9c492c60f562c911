/- Orders of generators in memory. -/
import Derived.Test.YtkkgpddpplokfaaHld
import Derived.Laws.MakeOwn
import Derived.OwnWalk
namespace Go.Proofs.Ytkkgpddpplokfaa
open Go.RowKit

structure Od where
  k : Int
  n : Int
  m : Int
deriving DecidableEq

theorem Od.ext_ {x y : Od} (h0 : x.k = y.k) (h1 : x.n = y.n) (h2 : x.m = y.m) : x = y := by
  cases x; cases y; simp at h0 h1 h2; simp [h0, h1, h2]
def odEq (x y : Od) : Bool := decide (x = y)
theorem odEq_no0 {x y : Od} (h : (x.k != y.k) = true) : odEq x y = false := by
  apply decide_eq_false
  intro e
  subst e
  simp at h
theorem odEq_no1 {x y : Od} (h : (x.n != y.n) = true) : odEq x y = false := by
  apply decide_eq_false
  intro e
  subst e
  simp at h
theorem odEq_no2 {x y : Od} (h : (x.m != y.m) = true) : odEq x y = false := by
  apply decide_eq_false
  intro e
  subst e
  simp at h
theorem odEq_yes {x y : Od} (h0 : (x.k != y.k) = false) (h1 : (x.n != y.n) = false) (h2 : (x.m != y.m) = false) : odEq x y = true := by
  apply decide_eq_true
  simp at h0 h1 h2
  exact Od.ext_ h0 h1 h2
theorem odEq_ne {x y : Od} (h : odEq x y = false) : x ≠ y := of_decide_eq_false h
theorem odEq_eq {x y : Od} (h : odEq x y = true) : x = y := of_decide_eq_true h

/-- The cells of x stand in cs from o on. -/
structure OdIn (cs : List Value) (o : Nat) (x : Od) : Prop where
  c0 : cs[o]? = some (.int .i64 x.k)
  c1 : cs[o + 1]? = some (.int .i64 x.n)
  c2 : cs[o + 2]? = some (.int .i64 x.m)
/-- .. in memory. -/
structure OdAt (w : World) (b o : Nat) (x : Od) : Prop where
  c0 : w.cell? ⟨b, o, none⟩ = some (.int .i64 x.k)
  c1 : w.cell? ⟨b, o + 1, none⟩ = some (.int .i64 x.n)
  c2 : w.cell? ⟨b, o + 2, none⟩ = some (.int .i64 x.m)
theorem OdIn.at_ {w : World} {g o : Nat} {t : TypeId} {cs : List Value} {x : Od} (h : OdIn cs o x) (hb : Bk w g t cs) : OdAt w g o x :=
  ⟨(hb.cell _).trans h.c0, (hb.cell _).trans h.c1, (hb.cell _).trans h.c2⟩
theorem OdAt.keep {w w' : World} {b o : Nat} {x : Od} (h : OdAt w b o x) (hk : ∀ p : Addr, p.block = b → w'.cell? p = w.cell? p) : OdAt w' b o x :=
  ⟨(hk _ rfl).trans h.c0, (hk _ rfl).trans h.c1, (hk _ rfl).trans h.c2⟩

/-- The slice at A reads as the list l, below block B. -/
def RdOd (w : World) (B : Nat) (A : Option Addr) (l : List Od) : Prop :=
  0 < l.length → ∃ b o, A = some ⟨b, o, none⟩ ∧ b < B ∧ ∀ (k : Nat) (x : Od), l[k]? = some x → OdAt w b (o + k * 3) x
/-- .. in memory of a call's own, blocks lo to hi. -/
def OwnOd (w : World) (lo hi : Nat) (A : Option Addr) (l : List Od) : Prop :=
  0 < l.length → ∃ g o cs, A = some ⟨g, o, none⟩ ∧ lo ≤ g ∧ g < hi ∧ Bk w g 71 cs ∧ ∀ (k : Nat) (x : Od), l[k]? = some x → OdIn cs (o + k * 3) x

section
variable {w w' : World} {B B' lo hi : Nat} {A : Option Addr} {l : List Od}
theorem RdOd.at_ (h : RdOd w B A l) {k : Nat} (hk : k < l.length) : ∃ b o x, A = some ⟨b, o, none⟩ ∧ b < B ∧ l[k]? = some x ∧ OdAt w b (o + k * 3) x := by
  obtain ⟨b, o, e, hb, hc⟩ := h (by omega)
  obtain ⟨x, hx⟩ := get_of_lt l hk
  exact ⟨b, o, x, e, hb, hx, hc k x hx⟩
theorem RdOd.keep (h : RdOd w B A l) (hk : ∀ p : Addr, p.block < B → w'.cell? p = w.cell? p) : RdOd w' B A l := fun hn => by
  obtain ⟨b, o, e, hb, hc⟩ := h hn
  exact ⟨b, o, e, hb, fun k x hx => (hc k x hx).keep fun p hp => hk p (by omega)⟩
theorem RdOd.more (h : RdOd w B A l) (hB : B ≤ B') : RdOd w B' A l := fun hn => by
  obtain ⟨b, o, e, hb, hc⟩ := h hn
  exact ⟨b, o, e, by omega, hc⟩
theorem RdOd.below {C : Nat} (h : RdOd w B A l) (hb : Below C w w') (hC : B ≤ C) : RdOd w' B A l := h.keep fun _ hp => hb.cell (by omega)
theorem RdOd.drewN (h : RdOd w B A l) (n : Nat) : RdOd (w.drewN n) B A l := h.below (Same.below ⟨n, rfl⟩ B) (Nat.le_refl _)
theorem RdOd.held (h : RdOd w B A l) (hB : B ≤ w.heap.size) : Held w 0 B (fun v => RdOd v B A l) :=
  ⟨Nat.zero_le _, hB, fun _ _ hag => h.keep fun _ hp => cell_agree hag (Nat.zero_le _) hp⟩
theorem OwnOd.rd (h : OwnOd w lo hi A l) : RdOd w hi A l := fun hn => by
  obtain ⟨g, o, cs, rfl, h1, h2, hb, hc⟩ := h hn
  exact ⟨g, o, rfl, h2, fun k x hx => (hc k x hx).at_ hb⟩
theorem OwnOd.rdt (h : OwnOd w lo hi A l) (hz : hi ≤ w.heap.size) : RdOd w w.heap.size A l := h.rd.more hz
theorem OwnOd.agree (h : OwnOd w lo hi A l) (hag : ∀ b, lo ≤ b → b < hi → w'.heap[b]? = w.heap[b]?) : OwnOd w' lo hi A l := fun hn => by
  obtain ⟨g, o, cs, rfl, h1, h2, hb, hc⟩ := h hn
  exact ⟨g, o, cs, rfl, h1, h2, (hag g h1 h2).trans hb, hc⟩
theorem OwnOd.held (h : OwnOd w lo hi A l) (h1 : lo ≤ hi) (h2 : hi ≤ w.heap.size) : Held w lo hi (fun v => OwnOd v lo hi A l) := ⟨h1, h2, fun _ _ hag => h.agree hag⟩
theorem OwnOd.wide {lo2 hi2 : Nat} (h : OwnOd w lo hi A l) (h1 : lo2 ≤ lo) (h2 : hi ≤ hi2) : OwnOd w lo2 hi2 A l := fun hn => by
  obtain ⟨g, o, cs, rfl, h3, h4, hb, hc⟩ := h hn
  exact ⟨g, o, cs, rfl, by omega, by omega, hb, hc⟩
theorem OwnOd.nil_ (w : World) (lo hi : Nat) (A : Option Addr) : OwnOd w lo hi A [] := fun h => absurd h (by simp)
end

theorem OdIn.set_self {cs : List Value} {o : Nat} (x : Od) (h : o + 2 < cs.length) : OdIn (((cs.set o (.int .i64 x.k)).set (o + 1) (.int .i64 x.n)).set (o + 2) (.int .i64 x.m)) o x := by
  constructor <;> simp [List.getElem?_set] <;> omega
theorem OdIn.set_far {cs : List Value} {o j : Nat} {x : Od} {u : Value} (h : OdIn cs o x) (hj : j < o ∨ o + 2 < j) : OdIn (cs.set j u) o x :=
  ⟨by rw [List.getElem?_set_ne (by omega)]; exact h.c0, by rw [List.getElem?_set_ne (by omega)]; exact h.c1, by rw [List.getElem?_set_ne (by omega)]; exact h.c2⟩
/-- 3 cells that can be written. -/
structure OdOld (w : World) (b o : Nat) (u0 u1 u2 : Value) : Prop where
  c0 : w.cell? ⟨b, o, none⟩ = some u0
  c1 : w.cell? ⟨b, o + 1, none⟩ = some u1
  c2 : w.cell? ⟨b, o + 2, none⟩ = some u2
  f0 : w.frozen? ⟨b, o, none⟩ = false
  f1 : w.frozen? ⟨b, o + 1, none⟩ = false
  f2 : w.frozen? ⟨b, o + 2, none⟩ = false
theorem Bk.oldOd {w : World} {g o : Nat} {t : TypeId} {cs : List Value} (h : Bk w g t cs) (ho : o + 2 < cs.length) : ∃ u0 u1 u2, OdOld w g o u0 u1 u2 := by
  obtain ⟨u0, h0⟩ := get_of_lt cs (k := o) (by omega)
  obtain ⟨u1, h1⟩ := get_of_lt cs (k := o + 1) (by omega)
  obtain ⟨u2, h2⟩ := get_of_lt cs (k := o + 2) (by omega)
  exact ⟨u0, u1, u2, (h.cell _).trans h0, (h.cell _).trans h1, (h.cell _).trans h2, h.free _, h.free _, h.free _⟩
theorem OdOld.below {w w' : World} {b o C : Nat} {u0 u1 u2 : Value} (h : OdOld w b o u0 u1 u2) (hb : Below C w w') (hC : b < C) : OdOld w' b o u0 u1 u2 := by
  have hc : ∀ i, w'.cell? ⟨b, i, none⟩ = w.cell? ⟨b, i, none⟩ := fun i => hb.cell (p := ⟨b, i, none⟩) hC
  have hf : ∀ i, w'.frozen? ⟨b, i, none⟩ = w.frozen? ⟨b, i, none⟩ := fun i => hb.frozen (p := ⟨b, i, none⟩) hC
  exact ⟨(hc _).trans h.c0, (hc _).trans h.c1, (hc _).trans h.c2, (hf _).trans h.f0, (hf _).trans h.f1, (hf _).trans h.f2⟩

theorem Try.infoOd : (Try.prog.info? 71).map (fun i => (i.zero, i.size, i.bytes)) = some (some (.agg #[.int .i64 0, .int .i64 0, .int .i64 0]), 3, 24) := by kernel_rfl
/-- The cells of a new row. -/
def madeOd (n : Nat) : List Value := (madeCells #[.int .i64 0, .int .i64 0, .int .i64 0] (n * 3)).toList
theorem madeOd_len (n : Nat) : (madeOd n).length = n * 3 := by simp [madeOd, size_madeCells]
def zeroOd : Od := ⟨0, 0, 0⟩
theorem madeOd_get (n j : Nat) (hj : j < n * 3) : (madeOd n)[j]? = some ((#[.int .i64 0, .int .i64 0, .int .i64 0])[j % 3]!) := by
  simp [madeOd, madeCells, hj]
theorem madeOd_in (n k : Nat) (hk : k < n) : OdIn (madeOd n) (k * 3) zeroOd := by
  constructor
  · rw [madeOd_get _ _ (by omega), show (k * 3) % 3 = 0 from by omega]; rfl
  · rw [madeOd_get _ _ (by omega), show (k * 3 + 1) % 3 = 1 from by omega]; rfl
  · rw [madeOd_get _ _ (by omega), show (k * 3 + 2) % 3 = 2 from by omega]; rfl
theorem run_makeOd {P : Program} (t e : TypeId) (ht : P.underlying t = some (.slice e))
    (hinfo : (P.info? e).map (fun i => (i.zero, i.size, i.bytes)) = some (some (.agg #[.int .i64 0, .int .i64 0, .int .i64 0]), 3, 24)) (n : Nat) (hn : n ≤ 1048576) (w : World) :
    (Instr.makeSlice t (.int .i64 (n : Int)) (.int .i64 (n : Int))).run P w = .ok (.slice (some ⟨w.heap.size, 0, none⟩) n n) (w.alloc (.cells (madeOd n).toArray e)) := by
  obtain ⟨i, hi, hz0, hz1, hz2⟩ := info_parts hinfo
  have hr := run_make (P := P) w t e i _ ht hi hz0 .i64 .i64 n n (by omega) (by omega) (by rw [hz2]; omega) (by omega)
  rw [hz1] at hr
  simp only [Int.toNat_natCast] at hr
  rw [hr]
  simp [madeOd, Value.cells]

end Go.Proofs.Ytkkgpddpplokfaa
