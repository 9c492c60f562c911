/- Generators in memory. -/
import Derived.Test.YtkkgpddpplokfaaHld
import Derived.Laws.MakeOwn
import Derived.OwnWalk
namespace Go.Proofs.Ytkkgpddpplokfaa
open Go.RowKit

structure Gn where
  at_ : Int
  sum : Int
  sent : Int
  hd : Int
  ph : Int
deriving DecidableEq

theorem Gn.ext_ {x y : Gn} (h0 : x.at_ = y.at_) (h1 : x.sum = y.sum) (h2 : x.sent = y.sent) (h3 : x.hd = y.hd) (h4 : x.ph = y.ph) : x = y := by
  cases x; cases y; simp at h0 h1 h2 h3 h4; simp [h0, h1, h2, h3, h4]
def gnEq (x y : Gn) : Bool := decide (x = y)
theorem gnEq_no0 {x y : Gn} (h : (x.at_ != y.at_) = true) : gnEq x y = false := by
  apply decide_eq_false
  intro e
  subst e
  simp at h
theorem gnEq_no1 {x y : Gn} (h : (x.sum != y.sum) = true) : gnEq x y = false := by
  apply decide_eq_false
  intro e
  subst e
  simp at h
theorem gnEq_no2 {x y : Gn} (h : (x.sent != y.sent) = true) : gnEq x y = false := by
  apply decide_eq_false
  intro e
  subst e
  simp at h
theorem gnEq_no3 {x y : Gn} (h : (x.hd != y.hd) = true) : gnEq x y = false := by
  apply decide_eq_false
  intro e
  subst e
  simp at h
theorem gnEq_no4 {x y : Gn} (h : (x.ph != y.ph) = true) : gnEq x y = false := by
  apply decide_eq_false
  intro e
  subst e
  simp at h
theorem gnEq_yes {x y : Gn} (h0 : (x.at_ != y.at_) = false) (h1 : (x.sum != y.sum) = false) (h2 : (x.sent != y.sent) = false) (h3 : (x.hd != y.hd) = false) (h4 : (x.ph != y.ph) = false) : gnEq x y = true := by
  apply decide_eq_true
  simp at h0 h1 h2 h3 h4
  exact Gn.ext_ h0 h1 h2 h3 h4
theorem gnEq_ne {x y : Gn} (h : gnEq x y = false) : x ≠ y := of_decide_eq_false h
theorem gnEq_eq {x y : Gn} (h : gnEq x y = true) : x = y := of_decide_eq_true h

/-- The cells of x stand in cs from o on. -/
structure GnIn (cs : List Value) (o : Nat) (x : Gn) : Prop where
  c0 : cs[o]? = some (.int .i64 x.at_)
  c1 : cs[o + 1]? = some (.int .i64 x.sum)
  c2 : cs[o + 2]? = some (.int .i64 x.sent)
  c3 : cs[o + 3]? = some (.int .i64 x.hd)
  c4 : cs[o + 4]? = some (.int .i64 x.ph)
/-- .. in memory. -/
structure GnAt (w : World) (b o : Nat) (x : Gn) : Prop where
  c0 : w.cell? ⟨b, o, none⟩ = some (.int .i64 x.at_)
  c1 : w.cell? ⟨b, o + 1, none⟩ = some (.int .i64 x.sum)
  c2 : w.cell? ⟨b, o + 2, none⟩ = some (.int .i64 x.sent)
  c3 : w.cell? ⟨b, o + 3, none⟩ = some (.int .i64 x.hd)
  c4 : w.cell? ⟨b, o + 4, none⟩ = some (.int .i64 x.ph)
theorem GnIn.at_ {w : World} {g o : Nat} {t : TypeId} {cs : List Value} {x : Gn} (h : GnIn cs o x) (hb : Bk w g t cs) : GnAt w g o x :=
  ⟨(hb.cell _).trans h.c0, (hb.cell _).trans h.c1, (hb.cell _).trans h.c2, (hb.cell _).trans h.c3, (hb.cell _).trans h.c4⟩
theorem GnAt.keep {w w' : World} {b o : Nat} {x : Gn} (h : GnAt w b o x) (hk : ∀ p : Addr, p.block = b → w'.cell? p = w.cell? p) : GnAt w' b o x :=
  ⟨(hk _ rfl).trans h.c0, (hk _ rfl).trans h.c1, (hk _ rfl).trans h.c2, (hk _ rfl).trans h.c3, (hk _ rfl).trans h.c4⟩

/-- The slice at A reads as the list l, below block B. -/
def RdGn (w : World) (B : Nat) (A : Option Addr) (l : List Gn) : Prop :=
  0 < l.length → ∃ b o, A = some ⟨b, o, none⟩ ∧ b < B ∧ ∀ (k : Nat) (x : Gn), l[k]? = some x → GnAt w b (o + k * 5) x
/-- .. in memory of a call's own, blocks lo to hi. -/
def OwnGn (w : World) (lo hi : Nat) (A : Option Addr) (l : List Gn) : Prop :=
  0 < l.length → ∃ g o cs, A = some ⟨g, o, none⟩ ∧ lo ≤ g ∧ g < hi ∧ Bk w g 32 cs ∧ ∀ (k : Nat) (x : Gn), l[k]? = some x → GnIn cs (o + k * 5) x

section
variable {w w' : World} {B B' lo hi : Nat} {A : Option Addr} {l : List Gn}
theorem RdGn.at_ (h : RdGn w B A l) {k : Nat} (hk : k < l.length) : ∃ b o x, A = some ⟨b, o, none⟩ ∧ b < B ∧ l[k]? = some x ∧ GnAt w b (o + k * 5) x := by
  obtain ⟨b, o, e, hb, hc⟩ := h (by omega)
  obtain ⟨x, hx⟩ := get_of_lt l hk
  exact ⟨b, o, x, e, hb, hx, hc k x hx⟩
theorem RdGn.keep (h : RdGn w B A l) (hk : ∀ p : Addr, p.block < B → w'.cell? p = w.cell? p) : RdGn w' B A l := fun hn => by
  obtain ⟨b, o, e, hb, hc⟩ := h hn
  exact ⟨b, o, e, hb, fun k x hx => (hc k x hx).keep fun p hp => hk p (by omega)⟩
theorem RdGn.more (h : RdGn w B A l) (hB : B ≤ B') : RdGn w B' A l := fun hn => by
  obtain ⟨b, o, e, hb, hc⟩ := h hn
  exact ⟨b, o, e, by omega, hc⟩
theorem RdGn.below {C : Nat} (h : RdGn w B A l) (hb : Below C w w') (hC : B ≤ C) : RdGn w' B A l := h.keep fun _ hp => hb.cell (by omega)
theorem RdGn.drewN (h : RdGn w B A l) (n : Nat) : RdGn (w.drewN n) B A l := h.below (Same.below ⟨n, rfl⟩ B) (Nat.le_refl _)
theorem RdGn.held (h : RdGn w B A l) (hB : B ≤ w.heap.size) : Held w 0 B (fun v => RdGn v B A l) :=
  ⟨Nat.zero_le _, hB, fun _ _ hag => h.keep fun _ hp => cell_agree hag (Nat.zero_le _) hp⟩
theorem OwnGn.rd (h : OwnGn w lo hi A l) : RdGn w hi A l := fun hn => by
  obtain ⟨g, o, cs, rfl, h1, h2, hb, hc⟩ := h hn
  exact ⟨g, o, rfl, h2, fun k x hx => (hc k x hx).at_ hb⟩
theorem OwnGn.rdt (h : OwnGn w lo hi A l) (hz : hi ≤ w.heap.size) : RdGn w w.heap.size A l := h.rd.more hz
theorem OwnGn.agree (h : OwnGn w lo hi A l) (hag : ∀ b, lo ≤ b → b < hi → w'.heap[b]? = w.heap[b]?) : OwnGn w' lo hi A l := fun hn => by
  obtain ⟨g, o, cs, rfl, h1, h2, hb, hc⟩ := h hn
  exact ⟨g, o, cs, rfl, h1, h2, (hag g h1 h2).trans hb, hc⟩
theorem OwnGn.held (h : OwnGn w lo hi A l) (h1 : lo ≤ hi) (h2 : hi ≤ w.heap.size) : Held w lo hi (fun v => OwnGn v lo hi A l) := ⟨h1, h2, fun _ _ hag => h.agree hag⟩
theorem OwnGn.wide {lo2 hi2 : Nat} (h : OwnGn w lo hi A l) (h1 : lo2 ≤ lo) (h2 : hi ≤ hi2) : OwnGn w lo2 hi2 A l := fun hn => by
  obtain ⟨g, o, cs, rfl, h3, h4, hb, hc⟩ := h hn
  exact ⟨g, o, cs, rfl, by omega, by omega, hb, hc⟩
theorem OwnGn.nil_ (w : World) (lo hi : Nat) (A : Option Addr) : OwnGn w lo hi A [] := fun h => absurd h (by simp)
end

theorem GnIn.set_self {cs : List Value} {o : Nat} (x : Gn) (h : o + 4 < cs.length) : GnIn (((((cs.set o (.int .i64 x.at_)).set (o + 1) (.int .i64 x.sum)).set (o + 2) (.int .i64 x.sent)).set (o + 3) (.int .i64 x.hd)).set (o + 4) (.int .i64 x.ph)) o x := by
  constructor <;> simp [List.getElem?_set] <;> omega
theorem GnIn.set_far {cs : List Value} {o j : Nat} {x : Gn} {u : Value} (h : GnIn cs o x) (hj : j < o ∨ o + 4 < j) : GnIn (cs.set j u) o x :=
  ⟨by rw [List.getElem?_set_ne (by omega)]; exact h.c0, by rw [List.getElem?_set_ne (by omega)]; exact h.c1, by rw [List.getElem?_set_ne (by omega)]; exact h.c2, by rw [List.getElem?_set_ne (by omega)]; exact h.c3, by rw [List.getElem?_set_ne (by omega)]; exact h.c4⟩
/-- 5 cells that can be written. -/
structure GnOld (w : World) (b o : Nat) (u0 u1 u2 u3 u4 : Value) : Prop where
  c0 : w.cell? ⟨b, o, none⟩ = some u0
  c1 : w.cell? ⟨b, o + 1, none⟩ = some u1
  c2 : w.cell? ⟨b, o + 2, none⟩ = some u2
  c3 : w.cell? ⟨b, o + 3, none⟩ = some u3
  c4 : w.cell? ⟨b, o + 4, none⟩ = some u4
  f0 : w.frozen? ⟨b, o, none⟩ = false
  f1 : w.frozen? ⟨b, o + 1, none⟩ = false
  f2 : w.frozen? ⟨b, o + 2, none⟩ = false
  f3 : w.frozen? ⟨b, o + 3, none⟩ = false
  f4 : w.frozen? ⟨b, o + 4, none⟩ = false
theorem Bk.oldGn {w : World} {g o : Nat} {t : TypeId} {cs : List Value} (h : Bk w g t cs) (ho : o + 4 < cs.length) : ∃ u0 u1 u2 u3 u4, GnOld w g o u0 u1 u2 u3 u4 := by
  obtain ⟨u0, h0⟩ := get_of_lt cs (k := o) (by omega)
  obtain ⟨u1, h1⟩ := get_of_lt cs (k := o + 1) (by omega)
  obtain ⟨u2, h2⟩ := get_of_lt cs (k := o + 2) (by omega)
  obtain ⟨u3, h3⟩ := get_of_lt cs (k := o + 3) (by omega)
  obtain ⟨u4, h4⟩ := get_of_lt cs (k := o + 4) (by omega)
  exact ⟨u0, u1, u2, u3, u4, (h.cell _).trans h0, (h.cell _).trans h1, (h.cell _).trans h2, (h.cell _).trans h3, (h.cell _).trans h4, h.free _, h.free _, h.free _, h.free _, h.free _⟩
theorem GnOld.below {w w' : World} {b o C : Nat} {u0 u1 u2 u3 u4 : Value} (h : GnOld w b o u0 u1 u2 u3 u4) (hb : Below C w w') (hC : b < C) : GnOld w' b o u0 u1 u2 u3 u4 := by
  have hc : ∀ i, w'.cell? ⟨b, i, none⟩ = w.cell? ⟨b, i, none⟩ := fun i => hb.cell (p := ⟨b, i, none⟩) hC
  have hf : ∀ i, w'.frozen? ⟨b, i, none⟩ = w.frozen? ⟨b, i, none⟩ := fun i => hb.frozen (p := ⟨b, i, none⟩) hC
  exact ⟨(hc _).trans h.c0, (hc _).trans h.c1, (hc _).trans h.c2, (hc _).trans h.c3, (hc _).trans h.c4, (hf _).trans h.f0, (hf _).trans h.f1, (hf _).trans h.f2, (hf _).trans h.f3, (hf _).trans h.f4⟩

theorem Try.infoGn : (Try.prog.info? 32).map (fun i => (i.zero, i.size, i.bytes)) = some (some (.agg #[.int .i64 0, .int .i64 0, .int .i64 0, .int .i64 0, .int .i64 0]), 5, 40) := by kernel_rfl
/-- The cells of a new row. -/
def madeGn (n : Nat) : List Value := (madeCells #[.int .i64 0, .int .i64 0, .int .i64 0, .int .i64 0, .int .i64 0] (n * 5)).toList
theorem madeGn_len (n : Nat) : (madeGn n).length = n * 5 := by simp [madeGn, size_madeCells]
def zeroGn : Gn := ⟨0, 0, 0, 0, 0⟩
theorem madeGn_get (n j : Nat) (hj : j < n * 5) : (madeGn n)[j]? = some ((#[.int .i64 0, .int .i64 0, .int .i64 0, .int .i64 0, .int .i64 0])[j % 5]!) := by
  simp [madeGn, madeCells, hj]
theorem madeGn_in (n k : Nat) (hk : k < n) : GnIn (madeGn n) (k * 5) zeroGn := by
  constructor
  · rw [madeGn_get _ _ (by omega), show (k * 5) % 5 = 0 from by omega]; rfl
  · rw [madeGn_get _ _ (by omega), show (k * 5 + 1) % 5 = 1 from by omega]; rfl
  · rw [madeGn_get _ _ (by omega), show (k * 5 + 2) % 5 = 2 from by omega]; rfl
  · rw [madeGn_get _ _ (by omega), show (k * 5 + 3) % 5 = 3 from by omega]; rfl
  · rw [madeGn_get _ _ (by omega), show (k * 5 + 4) % 5 = 4 from by omega]; rfl
theorem run_makeGn {P : Program} (t e : TypeId) (ht : P.underlying t = some (.slice e))
    (hinfo : (P.info? e).map (fun i => (i.zero, i.size, i.bytes)) = some (some (.agg #[.int .i64 0, .int .i64 0, .int .i64 0, .int .i64 0, .int .i64 0]), 5, 40)) (n : Nat) (hn : n ≤ 1048576) (w : World) :
    (Instr.makeSlice t (.int .i64 (n : Int)) (.int .i64 (n : Int))).run P w = .ok (.slice (some ⟨w.heap.size, 0, none⟩) n n) (w.alloc (.cells (madeGn n).toArray e)) := by
  obtain ⟨i, hi, hz0, hz1, hz2⟩ := info_parts hinfo
  have hr := run_make (P := P) w t e i _ ht hi hz0 .i64 .i64 n n (by omega) (by omega) (by rw [hz2]; omega) (by omega)
  rw [hz1] at hr
  simp only [Int.toNat_natCast] at hr
  rw [hr]
  simp [madeGn, Value.cells]

end Go.Proofs.Ytkkgpddpplokfaa
