/- Resumes in memory. -/
import Derived.Test.YtkkgpddpplokfaaHld
import Derived.Laws.MakeOwn
import Derived.OwnWalk
namespace Go.Proofs.Ytkkgpddpplokfaa
open Go.RowKit

structure Re where
  k : Int
  v : Int
deriving DecidableEq

theorem Re.ext_ {x y : Re} (h0 : x.k = y.k) (h1 : x.v = y.v) : x = y := by
  cases x; cases y; simp at h0 h1; simp [h0, h1]
def reEq (x y : Re) : Bool := decide (x = y)
theorem reEq_no0 {x y : Re} (h : (x.k != y.k) = true) : reEq x y = false := by
  apply decide_eq_false
  intro e
  subst e
  simp at h
theorem reEq_no1 {x y : Re} (h : (x.v != y.v) = true) : reEq x y = false := by
  apply decide_eq_false
  intro e
  subst e
  simp at h
theorem reEq_yes {x y : Re} (h0 : (x.k != y.k) = false) (h1 : (x.v != y.v) = false) : reEq x y = true := by
  apply decide_eq_true
  simp at h0 h1
  exact Re.ext_ h0 h1
theorem reEq_ne {x y : Re} (h : reEq x y = false) : x ≠ y := of_decide_eq_false h
theorem reEq_eq {x y : Re} (h : reEq x y = true) : x = y := of_decide_eq_true h

/-- The cells of x stand in cs from o on. -/
structure ReIn (cs : List Value) (o : Nat) (x : Re) : Prop where
  c0 : cs[o]? = some (.int .i64 x.k)
  c1 : cs[o + 1]? = some (.int .i64 x.v)
/-- .. in memory. -/
structure ReAt (w : World) (b o : Nat) (x : Re) : Prop where
  c0 : w.cell? ⟨b, o, none⟩ = some (.int .i64 x.k)
  c1 : w.cell? ⟨b, o + 1, none⟩ = some (.int .i64 x.v)
theorem ReIn.at_ {w : World} {g o : Nat} {t : TypeId} {cs : List Value} {x : Re} (h : ReIn cs o x) (hb : Bk w g t cs) : ReAt w g o x :=
  ⟨(hb.cell _).trans h.c0, (hb.cell _).trans h.c1⟩
theorem ReAt.keep {w w' : World} {b o : Nat} {x : Re} (h : ReAt w b o x) (hk : ∀ p : Addr, p.block = b → w'.cell? p = w.cell? p) : ReAt w' b o x :=
  ⟨(hk _ rfl).trans h.c0, (hk _ rfl).trans h.c1⟩

/-- The slice at A reads as the list l, below block B. -/
def RdRe (w : World) (B : Nat) (A : Option Addr) (l : List Re) : Prop :=
  0 < l.length → ∃ b o, A = some ⟨b, o, none⟩ ∧ b < B ∧ ∀ (k : Nat) (x : Re), l[k]? = some x → ReAt w b (o + k * 2) x
/-- .. in memory of a call's own, blocks lo to hi. -/
def OwnRe (w : World) (lo hi : Nat) (A : Option Addr) (l : List Re) : Prop :=
  0 < l.length → ∃ g o cs, A = some ⟨g, o, none⟩ ∧ lo ≤ g ∧ g < hi ∧ Bk w g 40 cs ∧ ∀ (k : Nat) (x : Re), l[k]? = some x → ReIn cs (o + k * 2) x

section
variable {w w' : World} {B B' lo hi : Nat} {A : Option Addr} {l : List Re}
theorem RdRe.at_ (h : RdRe w B A l) {k : Nat} (hk : k < l.length) : ∃ b o x, A = some ⟨b, o, none⟩ ∧ b < B ∧ l[k]? = some x ∧ ReAt w b (o + k * 2) x := by
  obtain ⟨b, o, e, hb, hc⟩ := h (by omega)
  obtain ⟨x, hx⟩ := get_of_lt l hk
  exact ⟨b, o, x, e, hb, hx, hc k x hx⟩
theorem RdRe.keep (h : RdRe w B A l) (hk : ∀ p : Addr, p.block < B → w'.cell? p = w.cell? p) : RdRe w' B A l := fun hn => by
  obtain ⟨b, o, e, hb, hc⟩ := h hn
  exact ⟨b, o, e, hb, fun k x hx => (hc k x hx).keep fun p hp => hk p (by omega)⟩
theorem RdRe.more (h : RdRe w B A l) (hB : B ≤ B') : RdRe w B' A l := fun hn => by
  obtain ⟨b, o, e, hb, hc⟩ := h hn
  exact ⟨b, o, e, by omega, hc⟩
theorem RdRe.below {C : Nat} (h : RdRe w B A l) (hb : Below C w w') (hC : B ≤ C) : RdRe w' B A l := h.keep fun _ hp => hb.cell (by omega)
theorem RdRe.drewN (h : RdRe w B A l) (n : Nat) : RdRe (w.drewN n) B A l := h.below (Same.below ⟨n, rfl⟩ B) (Nat.le_refl _)
theorem RdRe.held (h : RdRe w B A l) (hB : B ≤ w.heap.size) : Held w 0 B (fun v => RdRe v B A l) :=
  ⟨Nat.zero_le _, hB, fun _ _ hag => h.keep fun _ hp => cell_agree hag (Nat.zero_le _) hp⟩
theorem OwnRe.rd (h : OwnRe w lo hi A l) : RdRe w hi A l := fun hn => by
  obtain ⟨g, o, cs, rfl, h1, h2, hb, hc⟩ := h hn
  exact ⟨g, o, rfl, h2, fun k x hx => (hc k x hx).at_ hb⟩
theorem OwnRe.rdt (h : OwnRe w lo hi A l) (hz : hi ≤ w.heap.size) : RdRe w w.heap.size A l := h.rd.more hz
theorem OwnRe.agree (h : OwnRe w lo hi A l) (hag : ∀ b, lo ≤ b → b < hi → w'.heap[b]? = w.heap[b]?) : OwnRe w' lo hi A l := fun hn => by
  obtain ⟨g, o, cs, rfl, h1, h2, hb, hc⟩ := h hn
  exact ⟨g, o, cs, rfl, h1, h2, (hag g h1 h2).trans hb, hc⟩
theorem OwnRe.held (h : OwnRe w lo hi A l) (h1 : lo ≤ hi) (h2 : hi ≤ w.heap.size) : Held w lo hi (fun v => OwnRe v lo hi A l) := ⟨h1, h2, fun _ _ hag => h.agree hag⟩
theorem OwnRe.wide {lo2 hi2 : Nat} (h : OwnRe w lo hi A l) (h1 : lo2 ≤ lo) (h2 : hi ≤ hi2) : OwnRe w lo2 hi2 A l := fun hn => by
  obtain ⟨g, o, cs, rfl, h3, h4, hb, hc⟩ := h hn
  exact ⟨g, o, cs, rfl, by omega, by omega, hb, hc⟩
theorem OwnRe.nil_ (w : World) (lo hi : Nat) (A : Option Addr) : OwnRe w lo hi A [] := fun h => absurd h (by simp)
end

theorem ReIn.set_self {cs : List Value} {o : Nat} (x : Re) (h : o + 1 < cs.length) : ReIn ((cs.set o (.int .i64 x.k)).set (o + 1) (.int .i64 x.v)) o x := by
  constructor <;> simp [List.getElem?_set] <;> omega
theorem ReIn.set_far {cs : List Value} {o j : Nat} {x : Re} {u : Value} (h : ReIn cs o x) (hj : j < o ∨ o + 1 < j) : ReIn (cs.set j u) o x :=
  ⟨by rw [List.getElem?_set_ne (by omega)]; exact h.c0, by rw [List.getElem?_set_ne (by omega)]; exact h.c1⟩
/-- 2 cells that can be written. -/
structure ReOld (w : World) (b o : Nat) (u0 u1 : Value) : Prop where
  c0 : w.cell? ⟨b, o, none⟩ = some u0
  c1 : w.cell? ⟨b, o + 1, none⟩ = some u1
  f0 : w.frozen? ⟨b, o, none⟩ = false
  f1 : w.frozen? ⟨b, o + 1, none⟩ = false
theorem Bk.oldRe {w : World} {g o : Nat} {t : TypeId} {cs : List Value} (h : Bk w g t cs) (ho : o + 1 < cs.length) : ∃ u0 u1, ReOld w g o u0 u1 := by
  obtain ⟨u0, h0⟩ := get_of_lt cs (k := o) (by omega)
  obtain ⟨u1, h1⟩ := get_of_lt cs (k := o + 1) (by omega)
  exact ⟨u0, u1, (h.cell _).trans h0, (h.cell _).trans h1, h.free _, h.free _⟩
theorem ReOld.below {w w' : World} {b o C : Nat} {u0 u1 : Value} (h : ReOld w b o u0 u1) (hb : Below C w w') (hC : b < C) : ReOld w' b o u0 u1 := by
  have hc : ∀ i, w'.cell? ⟨b, i, none⟩ = w.cell? ⟨b, i, none⟩ := fun i => hb.cell (p := ⟨b, i, none⟩) hC
  have hf : ∀ i, w'.frozen? ⟨b, i, none⟩ = w.frozen? ⟨b, i, none⟩ := fun i => hb.frozen (p := ⟨b, i, none⟩) hC
  exact ⟨(hc _).trans h.c0, (hc _).trans h.c1, (hf _).trans h.f0, (hf _).trans h.f1⟩

theorem Try.infoRe : (Try.prog.info? 40).map (fun i => (i.zero, i.size, i.bytes)) = some (some (.agg #[.int .i64 0, .int .i64 0]), 2, 16) := by kernel_rfl
/-- The cells of a new row. -/
def madeRe (n : Nat) : List Value := (madeCells #[.int .i64 0, .int .i64 0] (n * 2)).toList
theorem madeRe_len (n : Nat) : (madeRe n).length = n * 2 := by simp [madeRe, size_madeCells]
def zeroRe : Re := ⟨0, 0⟩
theorem madeRe_get (n j : Nat) (hj : j < n * 2) : (madeRe n)[j]? = some ((#[.int .i64 0, .int .i64 0])[j % 2]!) := by
  simp [madeRe, madeCells, hj]
theorem madeRe_in (n k : Nat) (hk : k < n) : ReIn (madeRe n) (k * 2) zeroRe := by
  constructor
  · rw [madeRe_get _ _ (by omega), show (k * 2) % 2 = 0 from by omega]; rfl
  · rw [madeRe_get _ _ (by omega), show (k * 2 + 1) % 2 = 1 from by omega]; rfl
theorem run_makeRe {P : Program} (t e : TypeId) (ht : P.underlying t = some (.slice e))
    (hinfo : (P.info? e).map (fun i => (i.zero, i.size, i.bytes)) = some (some (.agg #[.int .i64 0, .int .i64 0]), 2, 16)) (n : Nat) (hn : n ≤ 1048576) (w : World) :
    (Instr.makeSlice t (.int .i64 (n : Int)) (.int .i64 (n : Int))).run P w = .ok (.slice (some ⟨w.heap.size, 0, none⟩) n n) (w.alloc (.cells (madeRe n).toArray e)) := by
  obtain ⟨i, hi, hz0, hz1, hz2⟩ := info_parts hinfo
  have hr := run_make (P := P) w t e i _ ht hi hz0 .i64 .i64 n n (by omega) (by omega) (by rw [hz2]; omega) (by omega)
  rw [hz1] at hr
  simp only [Int.toNat_natCast] at hr
  rw [hr]
  simp [madeRe, Value.cells]

end Go.Proofs.Ytkkgpddpplokfaa
