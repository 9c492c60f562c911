/- Tees: what a valid one is; a tee in memory, where each of its three slices lies by itself. -/
import Derived.Test.YtjkieedomljelaaBoo
namespace Go.Proofs.Ytjkieedomljelaa
open Go.RowKit

structure Te where
  it : List Int
  fd : Int
  pl : List Int
  op : List Bool
deriving DecidableEq

/-- Where the slices of a tee lie. -/
structure Tr where
  a1 : Option Addr
  c1 : Nat
  a2 : Option Addr
  c2 : Nat
  a3 : Option Addr
  c3 : Nat

def zeroTe : Te := ⟨[], 0, [], []⟩
def nilTr : Tr := ⟨none, 0, none, 0, none, 0⟩

structure RdT (w : World) (B : Nat) (r : Tr) (t : Te) : Prop where
  it : RdI w B r.a1 t.it
  pl : RdI w B r.a2 t.pl
  op : RdB w B r.a3 t.op

section
variable {w w' : World} {B B' : Nat} {r : Tr} {t : Te}
theorem RdT.more (h : RdT w B r t) (hB : B ≤ B') : RdT w B' r t := ⟨h.it.more hB, h.pl.more hB, h.op.more hB⟩
theorem RdT.below {C : Nat} (h : RdT w B r t) (hb : Below C w w') (hC : B ≤ C) : RdT w' B r t := ⟨h.it.below hb hC, h.pl.below hb hC, h.op.below hb hC⟩
theorem RdT.keep (h : RdT w B r t) (hk : ∀ p : Addr, p.block < B → w'.cell? p = w.cell? p) : RdT w' B r t := ⟨h.it.keep hk, h.pl.keep hk, h.op.keep hk⟩
theorem RdT.drewN (h : RdT w B r t) (n : Nat) : RdT (w.drewN n) B r t := ⟨h.it.drewN n, h.pl.drewN n, h.op.drewN n⟩
theorem RdT.held (h : RdT w B r t) (hB : B ≤ w.heap.size) : Held w 0 B (fun v => RdT v B r t) :=
  ⟨Nat.zero_le _, hB, fun _ _ hag => h.keep fun _ hp => cell_agree hag (Nat.zero_le _) hp⟩
theorem RdT.nil_ (w : World) (B : Nat) (r : Tr) : RdT w B r zeroTe := ⟨fun h => absurd h (by simp [zeroTe]), fun h => absurd h (by simp [zeroTe]), fun h => absurd h (by simp [zeroTe])⟩
end

/-- Two intervals of blocks have none in common. -/
def Off (a1 b1 a2 b2 : Nat) : Prop := b1 ≤ a2 ∨ b2 ≤ a1

/-- A tee in memory of a call's own: its slices lie in intervals that have nothing in common. -/
def OwnT (w : World) (lo hi : Nat) (r : Tr) (t : Te) : Prop :=
  ∃ x1 y1 x2 y2 x3 y3 : Nat, (lo ≤ x1 ∧ x1 ≤ y1 ∧ y1 ≤ hi) ∧ (lo ≤ x2 ∧ x2 ≤ y2 ∧ y2 ≤ hi) ∧ (lo ≤ x3 ∧ x3 ≤ y3 ∧ y3 ≤ hi) ∧ (y1 ≤ x2 ∨ y2 ≤ x1) ∧ (y1 ≤ x3 ∨ y3 ≤ x1) ∧ (y2 ≤ x3 ∨ y3 ≤ x2) ∧
    OwnI w x1 y1 r.a1 t.it ∧ OwnI w x2 y2 r.a2 t.pl ∧ OwnB w x3 y3 r.a3 t.op

section
variable {w w' : World} {lo hi : Nat} {r : Tr} {t : Te}
theorem OwnT.rd (h : OwnT w lo hi r t) : RdT w hi r t := by
  obtain ⟨x1, y1, x2, y2, x3, y3, h1, h2, h3, -, -, -, k1, k2, k3⟩ := h
  exact ⟨k1.rd.more h1.2.2, k2.rd.more h2.2.2, k3.rd.more h3.2.2⟩
theorem OwnT.rdt (h : OwnT w lo hi r t) (hz : hi ≤ w.heap.size) : RdT w w.heap.size r t := h.rd.more hz
theorem OwnT.agree (h : OwnT w lo hi r t) (hag : ∀ b, lo ≤ b → b < hi → w'.heap[b]? = w.heap[b]?) : OwnT w' lo hi r t := by
  obtain ⟨x1, y1, x2, y2, x3, y3, h1, h2, h3, d1, d2, d3, k1, k2, k3⟩ := h
  exact ⟨x1, y1, x2, y2, x3, y3, h1, h2, h3, d1, d2, d3, k1.agree fun b hb hc => hag b (by omega) (by omega), k2.agree fun b hb hc => hag b (by omega) (by omega), k3.agree fun b hb hc => hag b (by omega) (by omega)⟩
theorem OwnT.held (h : OwnT w lo hi r t) (h1 : lo ≤ hi) (h2 : hi ≤ w.heap.size) : Held w lo hi (fun v => OwnT v lo hi r t) := ⟨h1, h2, fun _ _ hag => h.agree hag⟩
theorem OwnT.wide {lo2 hi2 : Nat} (h : OwnT w lo hi r t) (h1 : lo2 ≤ lo) (h2 : hi ≤ hi2) : OwnT w lo2 hi2 r t := by
  obtain ⟨x1, y1, x2, y2, x3, y3, a1, a2, a3, d1, d2, d3, k1, k2, k3⟩ := h
  exact ⟨x1, y1, x2, y2, x3, y3, by omega, by omega, by omega, d1, d2, d3, k1, k2, k3⟩
theorem OwnT.nil_ (w : World) {lo hi : Nat} (h : lo ≤ hi) (r : Tr) : OwnT w lo hi r zeroTe :=
  ⟨lo, lo, lo, lo, lo, lo, ⟨Nat.le_refl _, Nat.le_refl _, h⟩, ⟨Nat.le_refl _, Nat.le_refl _, h⟩, ⟨Nat.le_refl _, Nat.le_refl _, h⟩, .inl (Nat.le_refl _), .inl (Nat.le_refl _), .inl (Nat.le_refl _),
    fun h => absurd h (by simp [zeroTe]), fun h => absurd h (by simp [zeroTe]), fun h => absurd h (by simp [zeroTe])⟩
end

/-- The tee of marks. -/
def mkT (t : Te) (k : Int) : Te := ⟨mkI t.it.length k, t.fd, mkI t.pl.length (k + t.it.length), mkB t.op.length (k + t.it.length + t.pl.length)⟩
/-- How many cells its slices have. -/
def szT (t : Te) : Nat := t.it.length + t.pl.length + t.op.length

/-- What a valid tee is. -/
def teeOk (t : Te) : Bool := rowOk t.it && inR t.fd 0 t.it.length && inR t.pl.length 1 4 && decide (t.op.length = t.pl.length) && allB t.pl 0 t.fd
structure TeeOk (t : Te) : Prop where
  len : t.it.length ≤ 12
  items : allB t.it 0 99 = true
  fed0 : 0 ≤ t.fd
  fed1 : t.fd ≤ t.it.length
  places : allB t.pl 0 t.fd = true
  many0 : 1 ≤ t.pl.length
  many1 : t.pl.length ≤ 4
  open_ : t.op.length = t.pl.length
theorem teeOk_iff {t : Te} : teeOk t = true ↔ TeeOk t := by
  constructor
  · intro h
    simp only [teeOk, rowOk, Bool.and_eq_true, decide_eq_true_eq, inR_iff] at h
    obtain ⟨⟨⟨⟨⟨h1, h2⟩, h3, h4⟩, h5, h6⟩, h7⟩, h8⟩ := h
    exact ⟨h1, h2, h3, h4, h8, by omega, by omega, h7⟩
  · intro ⟨h1, h2, h3, h4, h5, h6, h7, h8⟩
    simp only [teeOk, rowOk, Bool.and_eq_true, decide_eq_true_eq, inR_iff]
    exact ⟨⟨⟨⟨⟨h1, h2⟩, h3, h4⟩, by omega, by omega⟩, h8⟩, h5⟩

end Go.Proofs.Ytjkieedomljelaa
