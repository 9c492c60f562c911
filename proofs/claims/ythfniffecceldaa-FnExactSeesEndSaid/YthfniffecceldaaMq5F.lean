/- Texts on the program and its reference, put together (PlM, PmA, IntA, LsA, LsB, LsD, LsE, LsC, LsF, LsG, ListT, OwnV, LsH, LsI, LsJ, LsK). -/
import Derived.Test.YthfniffecceldaaMq5B
import Derived.Laws.MakeOwn
import Derived.OwnWalk
import Derived.Test.YthfniffecceldaaMq5E
import Derived.Deep.RegionHeld3
import Derived.IntWalk
import Derived.Deep.QuietTactic
import Derived.BigQuiet
import Derived.Lib.SlicesCompact
import Derived.Deep.AppendSrc
import Derived.Deep.Upon
/- Pulls at sources in memory. -/
namespace Go.Proofs.Ythfniffecceldaa
open Go.RowKit

structure Pl where
  s : Int
  i : Int
deriving DecidableEq

theorem Pl.ext_ {x y : Pl} (h0 : x.s = y.s) (h1 : x.i = y.i) : x = y := by
  cases x; cases y; simp at h0 h1; simp [h0, h1]
def plEq (x y : Pl) : Bool := decide (x = y)
theorem plEq_no0 {x y : Pl} (h : (x.s != y.s) = true) : plEq x y = false := by
  apply decide_eq_false
  intro e
  subst e
  simp at h
theorem plEq_no1 {x y : Pl} (h : (x.i != y.i) = true) : plEq x y = false := by
  apply decide_eq_false
  intro e
  subst e
  simp at h
theorem plEq_yes {x y : Pl} (h0 : (x.s != y.s) = false) (h1 : (x.i != y.i) = false) : plEq x y = true := by
  apply decide_eq_true
  simp at h0 h1
  exact Pl.ext_ h0 h1
theorem plEq_ne {x y : Pl} (h : plEq x y = false) : x ≠ y := of_decide_eq_false h
theorem plEq_eq {x y : Pl} (h : plEq x y = true) : x = y := of_decide_eq_true h

/-- The cells of x stand in cs from o on. -/
structure PlIn (cs : List Value) (o : Nat) (x : Pl) : Prop where
  c0 : cs[o]? = some (.int .i64 x.s)
  c1 : cs[o + 1]? = some (.int .i64 x.i)
/-- .. in memory. -/
structure PlAt (w : World) (b o : Nat) (x : Pl) : Prop where
  c0 : w.cell? ⟨b, o, none⟩ = some (.int .i64 x.s)
  c1 : w.cell? ⟨b, o + 1, none⟩ = some (.int .i64 x.i)
theorem PlIn.at_ {w : World} {g o : Nat} {t : TypeId} {cs : List Value} {x : Pl} (h : PlIn cs o x) (hb : Bk w g t cs) : PlAt w g o x :=
  ⟨(hb.cell _).trans h.c0, (hb.cell _).trans h.c1⟩
theorem PlAt.keep {w w' : World} {b o : Nat} {x : Pl} (h : PlAt w b o x) (hk : ∀ p : Addr, p.block = b → w'.cell? p = w.cell? p) : PlAt w' b o x :=
  ⟨(hk _ rfl).trans h.c0, (hk _ rfl).trans h.c1⟩

/-- The slice at A reads as the list l, below block B. -/
def RdPl (w : World) (B : Nat) (A : Option Addr) (l : List Pl) : Prop :=
  0 < l.length → ∃ b o, A = some ⟨b, o, none⟩ ∧ b < B ∧ ∀ (k : Nat) (x : Pl), l[k]? = some x → PlAt w b (o + k * 2) x
/-- .. in memory of a call's own, blocks lo to hi. -/
def OwnPl (w : World) (lo hi : Nat) (A : Option Addr) (l : List Pl) : Prop :=
  0 < l.length → ∃ g o cs, A = some ⟨g, o, none⟩ ∧ lo ≤ g ∧ g < hi ∧ Bk w g 90 cs ∧ ∀ (k : Nat) (x : Pl), l[k]? = some x → PlIn cs (o + k * 2) x

section
variable {w w' : World} {B B' lo hi : Nat} {A : Option Addr} {l : List Pl}
theorem RdPl.at_ (h : RdPl w B A l) {k : Nat} (hk : k < l.length) : ∃ b o x, A = some ⟨b, o, none⟩ ∧ b < B ∧ l[k]? = some x ∧ PlAt w b (o + k * 2) x := by
  obtain ⟨b, o, e, hb, hc⟩ := h (by omega)
  obtain ⟨x, hx⟩ := get_of_lt l hk
  exact ⟨b, o, x, e, hb, hx, hc k x hx⟩
theorem RdPl.keep (h : RdPl w B A l) (hk : ∀ p : Addr, p.block < B → w'.cell? p = w.cell? p) : RdPl w' B A l := fun hn => by
  obtain ⟨b, o, e, hb, hc⟩ := h hn
  exact ⟨b, o, e, hb, fun k x hx => (hc k x hx).keep fun p hp => hk p (by omega)⟩
theorem RdPl.more (h : RdPl w B A l) (hB : B ≤ B') : RdPl w B' A l := fun hn => by
  obtain ⟨b, o, e, hb, hc⟩ := h hn
  exact ⟨b, o, e, by omega, hc⟩
theorem RdPl.below {C : Nat} (h : RdPl w B A l) (hb : Below C w w') (hC : B ≤ C) : RdPl w' B A l := h.keep fun _ hp => hb.cell (by omega)
theorem RdPl.drewN (h : RdPl w B A l) (n : Nat) : RdPl (w.drewN n) B A l := h.below (Same.below ⟨n, rfl⟩ B) (Nat.le_refl _)
theorem RdPl.held (h : RdPl w B A l) (hB : B ≤ w.heap.size) : Held w 0 B (fun v => RdPl v B A l) :=
  ⟨Nat.zero_le _, hB, fun _ _ hag => h.keep fun _ hp => cell_agree hag (Nat.zero_le _) hp⟩
theorem OwnPl.rd (h : OwnPl w lo hi A l) : RdPl w hi A l := fun hn => by
  obtain ⟨g, o, cs, rfl, h1, h2, hb, hc⟩ := h hn
  exact ⟨g, o, rfl, h2, fun k x hx => (hc k x hx).at_ hb⟩
theorem OwnPl.rdt (h : OwnPl w lo hi A l) (hz : hi ≤ w.heap.size) : RdPl w w.heap.size A l := h.rd.more hz
theorem OwnPl.agree (h : OwnPl w lo hi A l) (hag : ∀ b, lo ≤ b → b < hi → w'.heap[b]? = w.heap[b]?) : OwnPl w' lo hi A l := fun hn => by
  obtain ⟨g, o, cs, rfl, h1, h2, hb, hc⟩ := h hn
  exact ⟨g, o, cs, rfl, h1, h2, (hag g h1 h2).trans hb, hc⟩
theorem OwnPl.held (h : OwnPl w lo hi A l) (h1 : lo ≤ hi) (h2 : hi ≤ w.heap.size) : Held w lo hi (fun v => OwnPl v lo hi A l) := ⟨h1, h2, fun _ _ hag => h.agree hag⟩
theorem OwnPl.wide {lo2 hi2 : Nat} (h : OwnPl w lo hi A l) (h1 : lo2 ≤ lo) (h2 : hi ≤ hi2) : OwnPl w lo2 hi2 A l := fun hn => by
  obtain ⟨g, o, cs, rfl, h3, h4, hb, hc⟩ := h hn
  exact ⟨g, o, cs, rfl, by omega, by omega, hb, hc⟩
theorem OwnPl.nil_ (w : World) (lo hi : Nat) (A : Option Addr) : OwnPl w lo hi A [] := fun h => absurd h (by simp)
end

theorem PlIn.set_self {cs : List Value} {o : Nat} (x : Pl) (h : o + 1 < cs.length) : PlIn ((cs.set o (.int .i64 x.s)).set (o + 1) (.int .i64 x.i)) o x := by
  constructor <;> simp [List.getElem?_set] <;> omega
theorem PlIn.set_far {cs : List Value} {o j : Nat} {x : Pl} {u : Value} (h : PlIn cs o x) (hj : j < o ∨ o + 1 < j) : PlIn (cs.set j u) o x :=
  ⟨by rw [List.getElem?_set_ne (by omega)]; exact h.c0, by rw [List.getElem?_set_ne (by omega)]; exact h.c1⟩
/-- 2 cells that can be written. -/
structure PlOld (w : World) (b o : Nat) (u0 u1 : Value) : Prop where
  c0 : w.cell? ⟨b, o, none⟩ = some u0
  c1 : w.cell? ⟨b, o + 1, none⟩ = some u1
  f0 : w.frozen? ⟨b, o, none⟩ = false
  f1 : w.frozen? ⟨b, o + 1, none⟩ = false
theorem Bk.oldPl {w : World} {g o : Nat} {t : TypeId} {cs : List Value} (h : Bk w g t cs) (ho : o + 1 < cs.length) : ∃ u0 u1, PlOld w g o u0 u1 := by
  obtain ⟨u0, h0⟩ := get_of_lt cs (k := o) (by omega)
  obtain ⟨u1, h1⟩ := get_of_lt cs (k := o + 1) (by omega)
  exact ⟨u0, u1, (h.cell _).trans h0, (h.cell _).trans h1, h.free _, h.free _⟩
theorem PlOld.below {w w' : World} {b o C : Nat} {u0 u1 : Value} (h : PlOld w b o u0 u1) (hb : Below C w w') (hC : b < C) : PlOld w' b o u0 u1 := by
  have hc : ∀ i, w'.cell? ⟨b, i, none⟩ = w.cell? ⟨b, i, none⟩ := fun i => hb.cell (p := ⟨b, i, none⟩) hC
  have hf : ∀ i, w'.frozen? ⟨b, i, none⟩ = w.frozen? ⟨b, i, none⟩ := fun i => hb.frozen (p := ⟨b, i, none⟩) hC
  exact ⟨(hc _).trans h.c0, (hc _).trans h.c1, (hf _).trans h.f0, (hf _).trans h.f1⟩

theorem Try.infoPl : (Try.prog.info? 90).map (fun i => (i.zero, i.size, i.bytes)) = some (some (.agg #[.int .i64 0, .int .i64 0]), 2, 16) := by kernel_rfl
/-- The cells of a new row. -/
def madePl (n : Nat) : List Value := (madeCells #[.int .i64 0, .int .i64 0] (n * 2)).toList
theorem madePl_len (n : Nat) : (madePl n).length = n * 2 := by simp [madePl, size_madeCells]
def zeroPl : Pl := ⟨0, 0⟩
theorem madePl_get (n j : Nat) (hj : j < n * 2) : (madePl n)[j]? = some ((#[.int .i64 0, .int .i64 0])[j % 2]!) := by
  simp [madePl, madeCells, hj]
theorem madePl_in (n k : Nat) (hk : k < n) : PlIn (madePl n) (k * 2) zeroPl := by
  constructor
  · rw [madePl_get _ _ (by omega), show (k * 2) % 2 = 0 from by omega]; rfl
  · rw [madePl_get _ _ (by omega), show (k * 2 + 1) % 2 = 1 from by omega]; rfl
theorem run_makePl {P : Program} (t e : TypeId) (ht : P.underlying t = some (.slice e))
    (hinfo : (P.info? e).map (fun i => (i.zero, i.size, i.bytes)) = some (some (.agg #[.int .i64 0, .int .i64 0]), 2, 16)) (n : Nat) (hn : n ≤ 1048576) (w : World) :
    (Instr.makeSlice t (.int .i64 (n : Int)) (.int .i64 (n : Int))).run P w = .ok (.slice (some ⟨w.heap.size, 0, none⟩) n n) (w.alloc (.cells (madePl n).toArray e)) := by
  obtain ⟨i, hi, hz0, hz1, hz2⟩ := info_parts hinfo
  have hr := run_make (P := P) w t e i _ ht hi hz0 .i64 .i64 n n (by omega) (by omega) (by rw [hz2]; omega) (by omega)
  rw [hz1] at hr
  simp only [Int.toNat_natCast] at hr
  rw [hr]
  simp [madePl, Value.cells]

end Go.Proofs.Ythfniffecceldaa

/- Plain mathematics: how a node of a valid pipe is pulled. -/
namespace Go.Proofs.Ythfniffecceldaa

/-- A node with all that is below it, told with its index. -/
inductive TI where
  | leaf (i : Nat) (x : Nd) : TI
  | stem (i : Nat) (x : Nd) (t : TI) : TI
  | fork (i : Nat) (x : Nd) (a b : TI) : TI
def TI.ix : TI → Nat
  | .leaf i _ => i
  | .stem i _ _ => i
  | .fork i _ _ _ => i
def TI.t : TI → T
  | .leaf _ x => .leaf x
  | .stem _ x t => .stem x t.t
  | .fork _ x a b => .fork x a.t b.t

inductive IsTI (l : List Nd) : TI → Prop where
  | leaf {i : Nat} {x : Nd} (hx : l[i]? = some x) (ha : arity x.k = 0) (h1 : x.a = -1) (h2 : x.b = -1) : IsTI l (.leaf i x)
  | stem {i : Nat} {x : Nd} {t : TI} (hx : l[i]? = some x) (ha : arity x.k = 1) (h1 : x.a = (t.ix : Int)) (hj : t.ix < i) (h2 : x.b = -1) (ht : IsTI l t) : IsTI l (.stem i x t)
  | fork {i : Nat} {x : Nd} {a b : TI} (hx : l[i]? = some x) (ha : arity x.k = 2) (h1 : x.a = (a.ix : Int)) (hj : a.ix < i) (h2 : x.b = (b.ix : Int)) (hj2 : b.ix < i) (hta : IsTI l a) (htb : IsTI l b) : IsTI l (.fork i x a b)

theorem IsTree.ti {l : List Nd} {i : Nat} {t : T} (h : IsTree l i t) : ∃ u : TI, IsTI l u ∧ u.ix = i ∧ u.t = t := by
  induction h with
  | @leaf i x hx ha h1 h2 => exact ⟨.leaf i x, .leaf hx ha h1 h2, rfl, rfl⟩
  | @stem i j x t hx ha h1 hj h2 _ ih =>
    obtain ⟨u, hu, rfl, rfl⟩ := ih
    exact ⟨.stem i x u, .stem hx ha h1 hj h2 hu, rfl, rfl⟩
  | @fork i j j2 x a b hx ha h1 hj h2 hj2 _ _ iha ihb =>
    obtain ⟨u, hu, rfl, rfl⟩ := iha
    obtain ⟨v, hv, rfl, rfl⟩ := ihb
    exact ⟨.fork i x u v, .fork hx ha h1 hj h2 hj2 hu hv, rfl, rfl⟩
theorem IsTI.lt {l : List Nd} {u : TI} (h : IsTI l u) : u.ix < l.length := by
  cases h with
  | leaf hx => exact (List.getElem?_eq_some_iff.1 hx).1
  | stem hx => exact (List.getElem?_eq_some_iff.1 hx).1
  | fork hx => exact (List.getElem?_eq_some_iff.1 hx).1

/-- The cells of the nodes, and the pulls so far. -/
structure PS where
  cs : List Cl
  lg : List Pl
def PS.at_ (s : PS) (i : Nat) : Cl := s.cs.getD i zeroCl
def PS.put (s : PS) (i : Nat) (c : Cl) : PS := { s with cs := s.cs.set i c }
def PS.say (s : PS) (p : Pl) : PS := { s with lg := s.lg ++ [p] }
theorem PS.get {s : PS} {i : Nat} (h : i < s.cs.length) : s.cs[i]? = some (s.at_ i) := by
  unfold PS.at_
  rw [List.getD_eq_getElem?_getD, List.getElem?_eq_getElem h]; rfl
theorem PS.at_of {s : PS} {i : Nat} {c : Cl} (h : s.cs[i]? = some c) : s.at_ i = c := by
  unfold PS.at_
  rw [List.getD_eq_getElem?_getD, h]; rfl
theorem PS.at_put {s : PS} {i : Nat} {c : Cl} (h : i < s.cs.length) : (s.put i c).at_ i = c := PS.at_of (by simp [PS.put, h])
theorem PS.at_put_ne {s : PS} {i j : Nat} {c : Cl} (h : i ≠ j) : (s.put i c).at_ j = s.at_ j := by
  unfold PS.at_ PS.put
  rw [List.getD_eq_getElem?_getD, List.getD_eq_getElem?_getD, List.getElem?_set_ne h]
theorem PS.put_self {s : PS} {i : Nat} (h : i < s.cs.length) : s.put i (s.at_ i) = s := by
  unfold PS.put
  have : s.cs.set i (s.at_ i) = s.cs := by
    apply List.ext_getElem?
    intro k
    by_cases e : i = k
    · subst e; rw [List.getElem?_set_self h, PS.get h]
    · rw [List.getElem?_set_ne e]
  rw [this]
theorem PS.put_put (s : PS) (i : Nat) (c d : Cl) : (s.put i c).put i d = s.put i d := by simp [PS.put]
theorem PS.put_same {s : PS} {i : Nat} {c : Cl} (h : i < s.cs.length) (hc : c = s.at_ i) : s.put i c = s := by rw [hc]; exact PS.put_self h

abbrev PF := PS → PS × Option Int

/-- A node that gave none is not asked again. -/
def doneP (i : Nat) (f : PF) : PF := fun s => if (s.at_ i).d = true then (s, none) else
  match f s with
  | (s', none) => (s'.put i { s'.at_ i with d := true }, none)
  | (s', some v) => (s', some v)
def srcP (src : List (List Int)) (i : Nat) (x : Nd) : PF := fun s =>
  if (s.at_ i).n = ((src.getD x.n.toNat []).length : Int) then (s.say ⟨x.n, -1⟩, none)
  else ((s.say ⟨x.n, (s.at_ i).n⟩).put i { s.at_ i with n := (s.at_ i).n + 1 }, some ((src.getD x.n.toNat []).getD (s.at_ i).n.toNat 0))
/-- Each item is another one. -/
def chgP (i : Nat) (g : Int → Cl → Cl × Int) (f : PF) : PF := fun s => match f s with
  | (s', none) => (s', none)
  | (s', some v) => (s'.put i (g v (s'.at_ i)).1, some (g v (s'.at_ i)).2)
def mapG (x : Nd) (v : Int) (c : Cl) : Cl × Int := (c, rst (x.n * v + x.m))
def scanG (v : Int) (c : Cl) : Cl × Int := ({ c with n := rst (c.n + v) }, rst (c.n + v))
/-- Items that may pass. -/
def someL (i : Nat) (may : Int → Cl → Cl × Bool) (f : PF) : Nat → PF
  | 0 => fun s => (s, none)
  | n + 1 => fun s => match f s with
    | (s', none) => (s', none)
    | (s', some v) => if (may v (s'.at_ i)).2 = true then (s'.put i (may v (s'.at_ i)).1, some v) else someL i may f n (s'.put i (may v (s'.at_ i)).1)
def mayF (x : Nd) (v : Int) (c : Cl) : Cl × Bool := (c, Int.tmod v x.n == x.m)
def mayS (x : Nd) (v : Int) (c : Cl) : Cl × Bool := if x.n ≤ v then ({ c with n := 1 }, true) else (c, c.n == 1)
def mayO (v : Int) (c : Cl) : Cl × Bool := ({ c with l := v, hl := true }, !(c.hl && c.l == v))
def takeP (i : Nat) (n : Int) (f : PF) : PF := fun s => if (s.at_ i).n = n then (s, none) else f (s.put i { s.at_ i with n := (s.at_ i).n + 1 })
def dropL (i : Nat) (n : Int) (f : PF) : Nat → PF
  | 0 => f
  | k + 1 => fun s => if (s.at_ i).n < n then
      match f (s.put i { s.at_ i with n := (s.at_ i).n + 1 }) with
      | (s', none) => (s', none)
      | (s', some _) => dropL i n f k s'
    else f s
def dropP (i : Nat) (n : Int) (f : PF) : PF := fun s => dropL i n f (n - (s.at_ i).n).toNat s
def whileP (n : Int) (f : PF) : PF := fun s => match f s with
  | (s', none) => (s', none)
  | (s', some v) => if n ≤ v then (s', none) else (s', some v)
def batchL (f : PF) : Nat → Int → Bool → PF
  | 0, sum, b => fun s => (s, if b then some sum else none)
  | k + 1, sum, b => fun s => match f s with
    | (s', none) => (s', if b then some sum else none)
    | (s', some v) => batchL f k (rst (sum + v)) true s'
def batchP (n : Int) (f : PF) : PF := batchL f n.toNat 0 false
def chainP (fa fb : PF) : PF := fun s => match fa s with
  | (s', some v) => (s', some v)
  | (s', none) => fb s'
def zipP (fa fb : PF) : PF := fun s => match fa s with
  | (s', none) => (s', none)
  | (s', some v) => match fb s' with
    | (s2, none) => (s2, none)
    | (s2, some y) => (s2, some (rst (v + y)))
def turnP (i : Nat) (fa fb : PF) : PF := fun s =>
  if (s.at_ i).n = 1 then chainP fb fa (s.put i { s.at_ i with n := 1 - (s.at_ i).n }) else chainP fa fb (s.put i { s.at_ i with n := 1 - (s.at_ i).n })
def fetchL (i : Nat) (f : PF) (s : PS) : PS := if (s.at_ i).hl = true then s else (f s).1.put i { (f s).1.at_ i with l := (f s).2.getD 0, hl := (f s).2.isSome }
def fetchR (i : Nat) (f : PF) (s : PS) : PS := if (s.at_ i).hr = true then s else (f s).1.put i { (f s).1.at_ i with r := (f s).2.getD 0, hr := (f s).2.isSome }
def pickP (i : Nat) (s : PS) : PS × Option Int :=
  if (s.at_ i).hl = true ∧ ((s.at_ i).hr = false ∨ (s.at_ i).l ≤ (s.at_ i).r) then (s.put i { s.at_ i with l := 0, hl := false }, some (s.at_ i).l)
  else (s.put i { s.at_ i with r := 0, hr := false }, if (s.at_ i).hr = true then some (s.at_ i).r else none)
def mergeP (i : Nat) (fa fb : PF) : PF := fun s => pickP i (fetchR i fb (fetchL i fa s))

def stemP (fu : PS → Nat) (i : Nat) (x : Nd) (f : PF) : PF :=
  if x.k = 1 then chgP i (mapG x) f else
  if x.k = 2 then fun s => someL i (mayF x) f (fu s) s else
  if x.k = 3 then takeP i x.n f else
  if x.k = 4 then dropP i x.n f else
  if x.k = 5 then whileP x.n f else
  if x.k = 6 then fun s => someL i (mayS x) f (fu s) s else
  if x.k = 11 then chgP i scanG f else
  if x.k = 12 then batchP x.n f else fun s => someL i mayO f (fu s) s
def forkP (i : Nat) (x : Nd) (fa fb : PF) : PF :=
  if x.k = 7 then chainP fa fb else if x.k = 8 then zipP fa fb else if x.k = 9 then mergeP i fa fb else turnP i fa fb
def pull (src : List (List Int)) (fu : PS → Nat) : TI → PF
  | .leaf i x => doneP i (srcP src i x)
  | .stem i x t => doneP i (stemP fu i x (pull src fu t))
  | .fork i x a b => doneP i (forkP i x (pull src fu a) (pull src fu b))

/-- A sum over the nodes and their cells. -/
def wsum (f : Nd → Cl → Nat) : List Nd → List Cl → Nat
  | x :: l, c :: cs => f x c + wsum f l cs
  | [], _ => 0
  | _, [] => 0
theorem wsum_set {f : Nd → Cl → Nat} : ∀ {l : List Nd} {cs : List Cl} {i : Nat} {x : Nd} {c : Cl} (d : Cl), l[i]? = some x → cs[i]? = some c → wsum f l (cs.set i d) + f x c = wsum f l cs + f x d
  | [], _, i, _, _, _, h, _ => by simp at h
  | _ :: _, [], i, _, _, _, _, h => by simp at h
  | y :: l, b :: cs, 0, x, c, d, hx, hc => by
    simp at hx hc; subst hx; subst hc
    simp only [List.set_cons_zero, wsum]; omega
  | y :: l, b :: cs, i + 1, x, c, d, hx, hc => by
    simp at hx hc
    have := wsum_set (f := f) (l := l) (cs := cs) (i := i) d hx hc
    simp only [List.set_cons_succ, wsum]; omega

/-- What is left to be pulled at a node of a source, its end included. -/
def wSrc (src : List (List Int)) (x : Nd) (c : Cl) : Nat := if x.k = 0 then ((src.getD x.n.toNat []).length - c.n.toNat) + (if c.d then 0 else 1) else 0
/-- .. with what a merge keeps. -/
def wAll (src : List (List Int)) (x : Nd) (c : Cl) : Nat := if x.k = 9 then (if c.hl then 1 else 0) + (if c.hr then 1 else 0) else wSrc src x c
def PS.W (s : PS) (l : List Nd) (src : List (List Int)) : Nat := wsum (wSrc src) l s.cs
def PS.M (s : PS) (l : List Nd) (src : List (List Int)) : Nat := wsum (wAll src) l s.cs

/-- The cells are those of the nodes. -/
structure StOk (l : List Nd) (src : List (List Int)) (cs : List Cl) : Prop where
  len : cs.length = l.length
  cell : ∀ (i : Nat) (x : Nd) (c : Cl), l[i]? = some x → cs[i]? = some c → (0 ≤ c.n ∧ c.n ≤ mostOf x src) ∧ (0 ≤ c.l ∧ c.l ≤ 99) ∧ (0 ≤ c.r ∧ c.r ≤ 99)

theorem stOk_iff {l : List Nd} {src : List (List Int)} {cs : List Cl} : cellsOk l src cs = true ↔ StOk l src cs := by
  simp only [cellsOk, Bool.and_eq_true, decide_eq_true_eq]
  constructor
  · rintro ⟨hl, ha⟩
    refine ⟨hl, fun i x c hx hc => ?_⟩
    have h1 := List.all_eq_true.1 ha (x, c) (List.mem_of_getElem? (zip_get hx hc))
    simp only [cellOk, Bool.and_eq_true, inR_iff] at h1
    exact h1
  · rintro ⟨hl, ha⟩
    refine ⟨hl, List.all_eq_true.2 fun p hp => ?_⟩
    obtain ⟨i, hi⟩ := List.getElem?_of_mem hp
    obtain ⟨x, c⟩ := p
    rw [List.getElem?_zip_eq_some] at hi
    have h1 := ha i x c hi.1 hi.2
    simp only [cellOk, Bool.and_eq_true, inR_iff]
    exact h1

theorem StOk.at_ {l : List Nd} {src : List (List Int)} {s : PS} (h : StOk l src s.cs) {i : Nat} {x : Nd} (hx : l[i]? = some x) : (0 ≤ (s.at_ i).n ∧ (s.at_ i).n ≤ mostOf x src) ∧ (0 ≤ (s.at_ i).l ∧ (s.at_ i).l ≤ 99) ∧ (0 ≤ (s.at_ i).r ∧ (s.at_ i).r ≤ 99) :=
  h.cell i x _ hx (PS.get (by rw [h.len]; exact (List.getElem?_eq_some_iff.1 hx).1))
theorem StOk.set_ {l : List Nd} {src : List (List Int)} {s : PS} (h : StOk l src s.cs) {i : Nat} {x : Nd} (hx : l[i]? = some x) {c : Cl} (hc : (0 ≤ c.n ∧ c.n ≤ mostOf x src) ∧ (0 ≤ c.l ∧ c.l ≤ 99) ∧ (0 ≤ c.r ∧ c.r ≤ 99)) : StOk l src (s.put i c).cs := by
  refine ⟨by simp [PS.put, h.len], fun j y d hy hd => ?_⟩
  by_cases e : i = j
  · subst e
    have hi : i < s.cs.length := by rw [h.len]; exact (List.getElem?_eq_some_iff.1 hx).1
    simp only [PS.put, List.getElem?_set_self hi] at hd
    obtain rfl := Option.some.inj (hx.symm.trans hy)
    obtain rfl := Option.some.inj hd
    exact hc
  · simp only [PS.put, List.getElem?_set_ne e] at hd
    exact h.cell j y d hy hd

/-- What a pull at the node j, and at all below it, does. -/
structure FineAt (l : List Nd) (src : List (List Int)) (j : Nat) (s : PS) (r : PS × Option Int) : Prop where
  ok : StOk l src r.1.cs
  far : ∀ k, j < k → r.1.cs[k]? = s.cs[k]?
  item : ∀ v, r.2 = some v → 0 ≤ v ∧ v ≤ 99
  mle : r.1.M l src + (if r.2.isSome then 1 else 0) ≤ s.M l src
  wle : r.1.lg.length + r.1.W l src ≤ s.lg.length + s.W l src
def Fine (l : List Nd) (src : List (List Int)) (j : Nat) (f : PF) : Prop := ∀ s, StOk l src s.cs → FineAt l src j s (f s)

section
variable {l : List Nd} {src : List (List Int)} {i j : Nat} {x : Nd} {f fa fb : PF} {s : PS}
theorem M_put {c : Cl} (h : StOk l src s.cs) (hx : l[i]? = some x) : (s.put i c).M l src + wAll src x (s.at_ i) = s.M l src + wAll src x c :=
  wsum_set c hx (PS.get (by rw [h.len]; exact (List.getElem?_eq_some_iff.1 hx).1))
theorem W_put {c : Cl} (h : StOk l src s.cs) (hx : l[i]? = some x) : (s.put i c).W l src + wSrc src x (s.at_ i) = s.W l src + wSrc src x c :=
  wsum_set c hx (PS.get (by rw [h.len]; exact (List.getElem?_eq_some_iff.1 hx).1))
theorem far_put {c : Cl} (k : Nat) (hk : i < k) : (s.put i c).cs[k]? = s.cs[k]? := by simp only [PS.put]; rw [List.getElem?_set_ne (by omega)]
theorem StOk.lt (h : StOk l src s.cs) (hx : l[i]? = some x) : i < s.cs.length := by rw [h.len]; exact (List.getElem?_eq_some_iff.1 hx).1

/-- Nothing was done. -/
theorem FineAt.none_ (h : StOk l src s.cs) : FineAt l src j s (s, none) := ⟨h, fun _ _ => rfl, fun _ e => (by cases e), by simp, Nat.le_refl _⟩
/-- One after the other. -/
theorem FineAt.next {s2 : PS} {o : Option Int} {r : PS × Option Int} (h : FineAt l src j s (s2, o)) (k : FineAt l src j s2 r) : FineAt l src j s r :=
  ⟨k.ok, fun a ha => (k.far a ha).trans (h.far a ha), k.item, by have h1 := h.mle; have h2 := k.mle; simp only at h1; split at h1 <;> omega, Nat.le_trans k.wle h.wle⟩
theorem FineAt.drop_ {s2 : PS} {o : Option Int} (h : FineAt l src j s (s2, o)) : FineAt l src j s (s2, none) :=
  ⟨h.ok, h.far, fun _ e => (by cases e), by have := h.mle; simp only at this; split at this <;> simp <;> omega, h.wle⟩
theorem FineAt.wide {j2 : Nat} {r : PS × Option Int} (h : FineAt l src j s r) (hj : j ≤ j2) : FineAt l src j2 s r := ⟨h.ok, fun k hk => h.far k (by omega), h.item, h.mle, h.wle⟩
theorem FineAt.item_ {s2 : PS} {v u : Int} (h : FineAt l src j s (s2, some v)) (hu : 0 ≤ u ∧ u ≤ 99) : FineAt l src j s (s2, some u) :=
  ⟨h.ok, h.far, fun w e => (by cases e; exact hu), h.mle, h.wle⟩
/-- The cell of a node that is no source and no merge is written. -/
theorem FineAt.put_ {s2 : PS} {o : Option Int} {c : Cl} (h : FineAt l src i s (s2, o)) (hx : l[i]? = some x) (hk : x.k ≠ 0 ∧ x.k ≠ 9) (hc : (0 ≤ c.n ∧ c.n ≤ mostOf x src) ∧ (0 ≤ c.l ∧ c.l ≤ 99) ∧ (0 ≤ c.r ∧ c.r ≤ 99)) : FineAt l src i s (s2.put i c, o) := by
  have h1 := M_put (c := c) h.ok hx
  have h2 := W_put (c := c) h.ok hx
  simp only [wAll, wSrc, hk.1, hk.2, if_false] at h1 h2
  refine ⟨StOk.set_ h.ok hx hc, fun k hk => (far_put k hk).trans (h.far k hk), h.item, ?_, ?_⟩
  · have := h.mle; simp only at this ⊢; omega
  · have := h.wle; simp only [PS.put] at this h2 ⊢; omega
theorem FineAt.start {c : Cl} (h : StOk l src s.cs) (hx : l[i]? = some x) (hk : x.k ≠ 0 ∧ x.k ≠ 9) (hc : (0 ≤ c.n ∧ c.n ≤ mostOf x src) ∧ (0 ≤ c.l ∧ c.l ≤ 99) ∧ (0 ≤ c.r ∧ c.r ≤ 99)) : FineAt l src i s (s.put i c, none) := (FineAt.none_ h).put_ hx hk hc
end

end Go.Proofs.Ythfniffecceldaa

/- Numbers are appended to a slice of the call's own. -/
namespace Go.Proofs.Ythfniffecceldaa
open Go.RowKit

/-- The slice at A holds the numbers l in memory from block base on, from the beginning of its block. -/
def OwnJ (w : World) (base : Nat) (A : Option Addr) (c : Nat) (l : List Int) : Prop := w.ownsRow base 3 1 (.slice A l.length c) l.length (ints l)

section
variable {w w' : World} {base c : Nat} {A : Option Addr} {l : List Int}
theorem OwnJ.form (h : OwnJ w base A c l) (hl : 0 < l.length) : ∃ g, A = some ⟨g, 0, none⟩ ∧ base ≤ g ∧ g < w.heap.size := by
  obtain ⟨_, ⟨_, h0⟩ | ⟨g, cap, cur, hv, hb, hh, _⟩⟩ := h
  · omega
  · injection hv with hA
    exact ⟨g, hA, hb, lt_of_block hh⟩
theorem OwnJ.row_lt (h : OwnJ w base A c l) : ∀ g, rowOf A = some g → base ≤ g ∧ g < w.heap.size := fun g hg => by
  have := World.ownsRow.lt h g (by rw [ownBlock_slice]; exact hg)
  exact this
theorem OwnJ.grown {row : Option Nat} (h : OwnJ w base A c l) (hg : w.grownBy w' row) (hne : rowOf A = none ∨ rowOf A ≠ row) : OwnJ w' base A c l :=
  World.ownsRow.kept h hg (by rw [ownBlock_slice]; exact hne)
theorem OwnJ.below {C : Nat} (h : OwnJ w base A c l) (hb : Below C w w') (hC : w.heap.size ≤ C) : OwnJ w' base A c l :=
  h.grown (row := none) ⟨hb.os, hb.tape, hb.output, Nat.le_trans (Nat.le_refl _) hb.size, fun k hk _ => hb.block k (by omega)⟩ (by cases A <;> simp [rowOf])
theorem OwnJ.nil_ (w : World) (base : Nat) : OwnJ w base none 0 [] := World.ownsRow_nil w base _ 1
theorem OwnJ.bk (h : OwnJ w base A c l) (hl : 0 < l.length) : ∃ g cs, A = some ⟨g, 0, none⟩ ∧ base ≤ g ∧ Bk w g 3 cs ∧ l.length ≤ c ∧ ∀ (k : Nat) (x : Int), l[k]? = some x → cs[k]? = some (.int .i64 x) := by
  obtain ⟨h1, ⟨_, h0⟩ | ⟨g, cap, cur, hv, hb, hh, hn, _, _, ht⟩⟩ := h
  · omega
  · injection hv with hA _ hc
    subst hc
    refine ⟨g, cur.toList, hA, hb, by unfold Bk; simpa using hh, hn, fun k x hx => ?_⟩
    have hk : k < l.length := (List.getElem?_eq_some_iff.1 hx).1
    have : (cur.toList.take (l.length * 1))[k]? = some (.int .i64 x) := by rw [ht, ints_get, hx]; rfl
    rwa [List.getElem?_take_of_lt (by omega)] at this
theorem OwnJ.ownI (h : OwnJ w base A c l) : OwnI w base w.heap.size A l := fun hl => by
  obtain ⟨g, cs, e, hb, hbk, _, hc⟩ := h.bk hl
  exact ⟨g, 0, cs, e, hb, hbk.lt, hbk, fun k x hx => by rw [Nat.zero_add]; exact hc k x hx⟩
end

theorem emptyJ (w : World) : OwnJ (w.alloc (.cells #[] 3)) w.heap.size (some ⟨w.heap.size, 0, none⟩) 0 [] :=
  ⟨rfl, .inr ⟨w.heap.size, 0, #[], rfl, Nat.le_refl _, heap_alloc_new w _, Nat.le_refl _, Nat.zero_le _, rfl, rfl⟩⟩

theorem wpList_append_int {ops : Array Oper} {rest : List Oper} {o : Oper} {a : Act} {Q : Exit → Act → World → Prop} {w : World} (hgd : o.guard = none) (s y : Operand)
    (ho : o.op = .call { callee := .builtin .append, args := #[s, y], argTypes := #[23, 23] }) (base : Nat) (A : Option Addr) (c : Nat) (l : List Int) (x : Int) (n : Nat) (hnl : l.length = n) (hs : a.eval s = .slice A n c) (hown : OwnJ w base A c l)
    (g : Nat) (hx : a.eval y = .slice (some ⟨g, 0, none⟩) 1 1) (hg : g = w.heap.size) (hn : n ≤ 1048576) (hb : base ≤ w.heap.size)
    (h : ∀ (A' : Option Addr) (c' : Nat) (w' : World), OwnJ w' base A' c' (l ++ [x]) → (w.alloc (.cells #[.int .i64 x] 3)).grownBy w' (rowOf A) → wpList Try.prog ops Q rest (a.put o.dst (.slice A' (n + 1) c')) w') :
    wpList Try.prog ops Q (o :: rest) a (w.alloc (.cells #[.int .i64 x] 3)) := by
  subst hg
  subst hnl
  obtain ⟨i, hi, hz0, hz1, hz2⟩ := info_parts Try.infoInt
  have hown2 := hown.below ((Below.refl w.heap.size w).alloc (Nat.le_refl _) (.cells #[.int .i64 x] 3)) (Nat.le_refl _)
  have hb1 : Bk (w.alloc (.cells #[.int .i64 x] 3)) w.heap.size 3 [.int .i64 x] := Bk.new w _ [_]
  have hread : ∀ (j : Nat) (u : Value), (ints [x])[j]? = some u → (w.alloc (.cells #[.int .i64 x] 3)).cell? ((⟨w.heap.size, 0, none⟩ : Addr).add j) = some u := fun j u hj => by
    rw [add_zero_row, hb1.cell]
    exact hj
  have hone : ∀ u ∈ ints [x], u.oneCell' = true := by
    intro u hu
    simp [ints] at hu
    subst hu
    rfl
  refine wpList_plain hgd fun K hK => ?_
  obtain ⟨v', w', hr, h2, h3, _⟩ := run_append_own (P := Try.prog) (w.alloc (.cells #[.int .i64 x] 3)) base 23 o.type 3 i _ 1 8 Try.underlying23 hi hz0 hz1 hz2 rfl (by decide)
    (.slice A l.length c) l.length (ints l) hown2 ⟨w.heap.size, 0, none⟩ 1 1 (ints [x]) rfl hread hone (by unfold maxLen; omega) (by omega) (by simp; omega)
  have hv : ∃ A' c', v' = .slice A' (l.length + 1) c' := by
    obtain ⟨_, ⟨_, h0⟩ | ⟨g, cap, cur, hv, _⟩⟩ := h2
    · omega
    · exact ⟨_, _, hv⟩
  obtain ⟨A', c', rfl⟩ := hv
  unfold Oper.wp execOp
  simp only [ho, resolve, invoke, builtin, Sem.run_bind, Sem.run_pure, Result.andThen_ok, List.map_toArray, List.map_cons, List.map_nil, hs, hx, hr]
  refine hK _ _ (h A' c' w' ?_ (by rw [← ownBlock_slice A l.length c]; exact h3))
  unfold OwnJ
  rw [List.length_append, show ints (l ++ [x]) = ints l ++ ints [x] from by simp [ints]]
  exact h2

end Go.Proofs.Ythfniffecceldaa

/- Contracts: lists that the reference makes out of lists (the first great one, turns, sums at equal places). -/
namespace Go.Proofs.Ythfniffecceldaa
open Go.RowKit

theorem step_append_int {ops : Array Oper} {o : Oper} {a : Act} {K : Act → World → Prop} {Q : Exit → Act → World → Prop} {E : Prop} {w : World} (hgd : o.guard = none) (s y : Operand)
    (ho : o.op = .call { callee := .builtin .append, args := #[s, y], argTypes := #[23, 23] }) (base : Nat) (A : Option Addr) (c : Nat) (l : List Int) (x : Int) (n : Nat) (hnl : l.length = n) (hs : a.eval s = .slice A n c) (hown : OwnJ w base A c l)
    (g : Nat) (hx : a.eval y = .slice (some ⟨g, 0, none⟩) 1 1) (hg : g = w.heap.size) (hn : n ≤ 1048576) (hb : base ≤ w.heap.size)
    (h : ∀ (A' : Option Addr) (c' : Nat) (w' : World), OwnJ w' base A' c' (l ++ [x]) → (w.alloc (.cells #[.int .i64 x] 3)).grownBy w' (rowOf A) → K (a.put o.dst (.slice A' (n + 1) c')) w') :
    if Region.wanted o (yielded ops a.tmps) = true then Oper.wp Try.prog o a (w.alloc (.cells #[.int .i64 x] 3)) K Q else E := by
  have hw : Region.wanted o (yielded ops a.tmps) = true := by simp [Region.wanted, hgd]
  rw [if_pos hw]
  subst hg
  subst hnl
  obtain ⟨i, hi, hz0, hz1, hz2⟩ := info_parts Try.infoInt
  have hown2 := hown.below ((Below.refl w.heap.size w).alloc (Nat.le_refl _) (.cells #[.int .i64 x] 3)) (Nat.le_refl _)
  have hb1 : Bk (w.alloc (.cells #[.int .i64 x] 3)) w.heap.size 3 [.int .i64 x] := Bk.new w _ [_]
  have hread : ∀ (j : Nat) (u : Value), (ints [x])[j]? = some u → (w.alloc (.cells #[.int .i64 x] 3)).cell? ((⟨w.heap.size, 0, none⟩ : Addr).add j) = some u := fun j u hj => by
    rw [add_zero_row, hb1.cell]
    exact hj
  have hone : ∀ u ∈ ints [x], u.oneCell' = true := by
    intro u hu
    simp [ints] at hu
    subst hu
    rfl
  obtain ⟨v', w', hr, h2, h3, _⟩ := run_append_own (P := Try.prog) (w.alloc (.cells #[.int .i64 x] 3)) base 23 o.type 3 i _ 1 8 Try.underlying23 hi hz0 hz1 hz2 rfl (by decide)
    (.slice A l.length c) l.length (ints l) hown2 ⟨w.heap.size, 0, none⟩ 1 1 (ints [x]) rfl hread hone (by unfold maxLen; omega) (by omega) (by simp; omega)
  have hv : ∃ A' c', v' = .slice A' (l.length + 1) c' := by
    obtain ⟨_, ⟨_, h0⟩ | ⟨g, cap, cur, hv, _⟩⟩ := h2
    · omega
    · exact ⟨_, _, hv⟩
  obtain ⟨A', c', rfl⟩ := hv
  unfold Oper.wp execOp
  simp only [ho, resolve, invoke, builtin, Sem.run_bind, Sem.run_pure, Result.andThen_ok, List.map_toArray, List.map_cons, List.map_nil, hs, hx, hr]
  refine h A' c' w' ?_ (by rw [← ownBlock_slice A l.length c]; exact h3)
  unfold OwnJ
  rw [List.length_append, show ints (l ++ [x]) = ints l ++ ints [x] from by simp [ints]]
  exact h2

theorem RdI.val {w : World} {B : Nat} {ad : Addr} {l : List Int} (h : RdI w B (some ad) l) {k : Nat} {x : Int} (hx : l[k]? = some x) : w.cell? (ad.add k) = some (.int .i64 x) := by
  obtain ⟨ad', e, _, hc⟩ := h (by have := (List.getElem?_eq_some_iff.1 hx).1; omega)
  obtain rfl := Option.some.inj e
  exact hc k x hx

end Go.Proofs.Ythfniffecceldaa

/- Contracts: two lists merged, and sums of groups, by the reference. -/
namespace Go.Proofs.Ythfniffecceldaa
open Go.RowKit

theorem mergeL_l {a b : List Int} {i k : Nat} {x : Int} (hx : a[i]? = some x) (hk : b.length ≤ k) : mergeL (a.drop i) (b.drop k) = x :: mergeL (a.drop (i + 1)) (b.drop k) := by
  rw [List.drop_eq_nil_of_le hk, mergeL_nil, mergeL_nil, drop_cons_of hx]
theorem mergeL_r {a b : List Int} {i k : Nat} {y : Int} (hi : a.length ≤ i) (hy : b[k]? = some y) : mergeL (a.drop i) (b.drop k) = y :: mergeL (a.drop i) (b.drop (k + 1)) := by
  rw [List.drop_eq_nil_of_le hi, nil_mergeL, nil_mergeL, drop_cons_of hy]
theorem mergeL_xl {a b : List Int} {i k : Nat} {x y : Int} (hx : a[i]? = some x) (hy : b[k]? = some y) (h : x ≤ y) : mergeL (a.drop i) (b.drop k) = x :: mergeL (a.drop (i + 1)) (b.drop k) := by
  rw [drop_cons_of hx, drop_cons_of hy, mergeL_left h]
theorem mergeL_xr {a b : List Int} {i k : Nat} {x y : Int} (hx : a[i]? = some x) (hy : b[k]? = some y) (h : ¬ x ≤ y) : mergeL (a.drop i) (b.drop k) = y :: mergeL (a.drop i) (b.drop (k + 1)) := by
  rw [drop_cons_of hx, drop_cons_of hy, mergeL_right h]
theorem mergeL_end {a b : List Int} {i k : Nat} (hi : a.length ≤ i) (hk : b.length ≤ k) : mergeL (a.drop i) (b.drop k) = [] := by
  rw [List.drop_eq_nil_of_le hi, List.drop_eq_nil_of_le hk, mergeL_nil]

end Go.Proofs.Ythfniffecceldaa

/- Contracts: lists made item by item, by the reference (running sums). -/
namespace Go.Proofs.Ythfniffecceldaa
open Go.RowKit

theorem OwnJ.base_ {w : World} {base b2 c : Nat} {A : Option Addr} {l : List Int} (h : OwnJ w base A c l) (hb : b2 ≤ base) : OwnJ w b2 A c l :=
  ⟨h.1, h.2.elim .inl fun ⟨g, cap, cur, hv, hbk, r⟩ => .inr ⟨g, cap, cur, hv, Nat.le_trans hb hbk, r⟩⟩

end Go.Proofs.Ythfniffecceldaa

/- Contracts: lists made item by item, by the reference (equal neighbours once). -/
namespace Go.Proofs.Ythfniffecceldaa
open Go.RowKit

theorem compactUpTo_congr {d e : Array Int} : ∀ m, (∀ i, i < m → d[i]! = e[i]!) → Lib.compactUpTo d m = Lib.compactUpTo e m
  | 0, _ => rfl
  | m + 1, h => by
    have hk : Lib.keeps d m = Lib.keeps e m := by unfold Lib.keeps; rw [h m (by omega), h (m - 1) (by omega)]
    rw [Lib.compactUpTo_succ, Lib.compactUpTo_succ, compactUpTo_congr m (fun i hi => h i (by omega)), h m (by omega), hk]
theorem take_at {l : List Int} {n i : Nat} {x : Int} (h : l[i]? = some x) (hi : i < n) : (l.take n).toArray[i]! = x := by
  rw [List.getElem!_toArray, List.getElem!_eq_getElem?_getD, List.getElem?_take_of_lt hi, h]
  rfl
theorem compact_succ {l : List Int} {i : Nat} {x : Int} (h : l[i]? = some x) : Lib.compact (l.take (i + 1)) = Lib.compact (l.take i) ++ (if i = 0 ∨ l[i - 1]? ≠ some x then [x] else []) := by
  have hi := (List.getElem?_eq_some_iff.1 h).1
  unfold Lib.compact
  rw [List.length_take, List.length_take, Nat.min_eq_left (by omega), Nat.min_eq_left (by omega), Lib.compactUpTo_succ, take_at h (Nat.lt_succ_self i)]
  congr 1
  · refine compactUpTo_congr i fun k hk => ?_
    obtain ⟨y, hy⟩ := get_of_lt l (k := k) (by omega)
    rw [take_at hy (by omega), take_at hy hk]
  · obtain ⟨y, hy⟩ := get_of_lt l (k := i - 1) (by omega)
    unfold Lib.keeps
    rw [take_at h (Nat.lt_succ_self i), take_at hy (by omega), hy]
    by_cases h0 : i = 0
    · simp [h0]
    · by_cases e : y = x
      · subst e; simp [h0]
      · have e2 : ¬ x = y := fun q => e q.symm
        simp [h0, e, e2]
theorem compact_len (l : List Int) : (Lib.compact l).length ≤ l.length := by
  unfold Lib.compact Lib.compactUpTo
  rw [List.length_map]
  have := List.length_filter_le (Lib.keeps l.toArray) (List.range l.length)
  simpa using this
theorem compact_items {l : List Int} (h : Items l) : Items (Lib.compact l) := h.sub fun x hx => by
  unfold Lib.compact Lib.compactUpTo at hx
  obtain ⟨i, hi, rfl⟩ := List.mem_map.1 hx
  have hil : i < l.length := List.mem_range.1 (List.mem_filter.1 hi).1
  simp [hil]

end Go.Proofs.Ythfniffecceldaa

/- Contracts: sums of groups, by the reference. -/
namespace Go.Proofs.Ythfniffecceldaa
open Go.RowKit

theorem OwnJ.stored {w : World} {base g c m k : Nat} {l : List Int} (h : OwnJ w base (some ⟨g, 0, none⟩) c l) (hl : l.length = m) (u : Int) :
    (w.setCell ⟨g, k, none⟩ (.int .i64 u)).ownsRow base 3 1 (.slice (some ⟨g, 0, none⟩) m c) m (ints (l.set k u)) := by
  subst hl
  have := (World.ownsRow.stored h k (.int .i64 u)).1
  rwa [show (ints l).set k (.int .i64 u) = ints (l.set k u) from by simp [ints, List.map_set]] at this
theorem batTo_app {n : Nat} {a : List Int} {j m : Nat} {o : List Int} {x y : Int} (ho : o = if j % n = 0 then batTo n a j ++ [0] else batTo n a j) (hm : o.length = m + 1) (hy : o[m]? = some y) (hx : a[j]? = some x) : batTo n a (j + 1) = o.set m (rst (y + x)) := by
  subst ho
  simp only [batTo]
  rw [hm, Nat.add_sub_cancel, List.getD_eq_getElem?_getD, List.getD_eq_getElem?_getD, hy, hx]
  rfl
theorem batTo_items {n : Nat} {a : List Int} (ha : Items a) : ∀ j, Items (batTo n a j)
  | 0 => Items.nil_
  | j + 1 => by
    have ih := batTo_items (n := n) ha j
    have h0 : Items (if j % n = 0 then batTo n a j ++ [0] else batTo n a j) := by
      split
      · exact ih.app (fun x hx => by simp at hx; omega)
      · exact ih
    intro z hz
    simp only [batTo] at hz
    rcases List.mem_or_eq_of_mem_set hz with e | e
    · exact h0 z e
    · subst e
      refine rst_in ?_
      have h1 : 0 ≤ (if j % n = 0 then batTo n a j ++ [0] else batTo n a j).getD ((if j % n = 0 then batTo n a j ++ [0] else batTo n a j).length - 1) 0 := by
        rw [List.getD_eq_getElem?_getD]
        cases e : (if j % n = 0 then batTo n a j ++ [0] else batTo n a j)[(if j % n = 0 then batTo n a j ++ [0] else batTo n a j).length - 1]? with
        | none => simp
        | some v => exact (h0.get e).1
      have h2 : 0 ≤ a.getD j 0 := by
        rw [List.getD_eq_getElem?_getD]
        cases e : a[j]? with
        | none => simp
        | some v => exact (ha.get e).1
      omega

end Go.Proofs.Ythfniffecceldaa

/- Contracts: lists made item by item, by the reference (each item another one, and items that are kept). -/
namespace Go.Proofs.Ythfniffecceldaa
open Go.RowKit

set_option maxHeartbeats 800000 in
theorem specMapped_any (k xa xb n m x : Int) (w : World) (hn : 0 ≤ n ∧ n ≤ 99) (hm : 0 ≤ m ∧ m ≤ 99) (hx : 0 ≤ x ∧ x ≤ 99) :
    Calls Try.prog 82 #[.agg #[.int .i64 k, .int .i64 xa, .int .i64 xb, .int .i64 n, .int .i64 m], .int .i64 x] w fun e w' => e = .returned (.int .i64 (rst (n * x + m))) ∧ Below w.heap.size w w' := by
  have h1 : 0 ≤ n * x := Int.mul_nonneg hn.1 hx.1
  have h2 : n * x ≤ 99 * 99 := Int.mul_le_mul hn.2 hx.2 hx.1 (by omega)
  have h3 : IntKind.i64.wrap (n * x) = n * x := IntWalk.i64_in _ (by omega)
  have h4 : IntKind.i64.wrap (n * x + m) = n * x + m := IntWalk.i64_in _ (by omega)
  have h5 : (n * x + m).tmod 100 = rst (n * x + m) := rfl
  have h6 := rst_in (x := n * x + m) (by omega)
  go_enter Try.func82, Try.ntmps82
  go_wp2_with fail
  go_ret
  exact ⟨rfl, (Below.refl _ _).alloc (Nat.le_refl _) _⟩

set_option maxHeartbeats 800000 in
theorem specKeeps_any (k xa xb n m x : Int) (w : World) (hn : 1 ≤ n ∧ n ≤ 99) (b : Bool) (hb : (x.tmod n == m) = b) (hx : 0 ≤ x ∧ x ≤ 99) :
    Calls Try.prog 83 #[.agg #[.int .i64 k, .int .i64 xa, .int .i64 xb, .int .i64 n, .int .i64 m], .int .i64 x] w fun e w' => e = .returned (.bool b) ∧ Below w.heap.size w w' := by
  have hz : n ≠ 0 := by omega
  obtain ⟨r, hr⟩ : ∃ r, x.tmod n = r := ⟨_, rfl⟩
  rw [hr] at hb
  have hr2 : IntKind.i64.wrap r = r := by
    rw [← hr, Int.tmod_eq_emod_of_nonneg hx.1]
    have h1 := Int.emod_nonneg x hz
    have h2 := Int.emod_lt_of_pos x (show 0 < n by omega)
    exact IntWalk.i64_in _ (by omega)
  go_enter Try.func83, Try.ntmps83
  go_wp2_with fail
  go_region
  go_wp2_with fail
  go_ret
  exact ⟨rfl, ((Below.refl _ _).alloc (Nat.le_refl _) _).drew⟩

end Go.Proofs.Ythfniffecceldaa

/- Contracts: lists made item by item, by the reference (other items, and items that are kept). -/
namespace Go.Proofs.Ythfniffecceldaa
open Go.RowKit Go.Sort

end Go.Proofs.Ythfniffecceldaa

/- Plain mathematics: the list of the tree of a node. -/
namespace Go.Proofs.Ythfniffecceldaa

/-- What a node makes of the list below. -/
def stemL (x : Nd) (l : List Int) : List Int :=
  if x.k = 1 then mapL x.n x.m l else
  if x.k = 2 then filL x.n x.m l else
  if x.k = 3 then l.take x.n.toNat else
  if x.k = 4 then l.drop x.n.toNat else
  if x.k = 5 then l.take (frst l x.n) else
  if x.k = 6 then l.drop (frst l x.n) else
  if x.k = 11 then scanL 0 l else
  if x.k = 12 then batL x.n.toNat l else Lib.compact l
/-- What a node makes of the lists below. -/
def forkL (x : Nd) (a b : List Int) : List Int :=
  if x.k = 7 then a ++ b else if x.k = 8 then zipL a b else if x.k = 9 then mergeL a b else turnL a b
/-- The list of a tree. -/
def lst (src : List (List Int)) : T → List Int
  | .leaf x => src.getD x.n.toNat []
  | .stem x t => stemL x (lst src t)
  | .fork x a b => forkL x (lst src a) (lst src b)

/-- The numbers of each node of the tree are those of its kind. -/
def T.nums : T → Prop
  | .leaf x => numsOk x = true
  | .stem x t => numsOk x = true ∧ t.nums
  | .fork x a b => numsOk x = true ∧ a.nums ∧ b.nums
theorem IsTree.nums {l : List Nd} (hp : PipeOk l) {i : Nat} {t : T} (h : IsTree l i t) : t.nums := by
  have ok : ∀ (i : Nat) (x : Nd), l[i]? = some x → numsOk x = true := fun i x hx => by
    have h1 := hp.node i x hx
    simp only [nodeOk, Bool.and_eq_true] at h1
    exact h1.1
  induction h with
  | leaf hx => exact ok _ _ hx
  | stem hx _ _ _ _ _ ih => exact ⟨ok _ _ hx, ih⟩
  | fork hx _ _ _ _ _ _ _ iha ihb => exact ⟨ok _ _ hx, iha, ihb⟩

theorem stemL_len {x : Nd} {l : List Int} : (stemL x l).length ≤ l.length := by
  unfold stemL
  split
  · exact Nat.le_of_eq (mapL_len _ _ _)
  split
  · exact filL_len _ _ _
  split
  · rw [List.length_take]; omega
  split
  · rw [List.length_drop]; omega
  split
  · rw [List.length_take]; omega
  split
  · rw [List.length_drop]; omega
  split
  · exact Nat.le_of_eq (scanL_len _ _)
  split
  · exact batTo_len _ _ _
  · exact compact_len _
theorem forkL_len {x : Nd} {a b : List Int} : (forkL x a b).length ≤ a.length + b.length := by
  unfold forkL
  split
  · rw [List.length_append]; omega
  split
  · rw [zipL_len]; omega
  split
  · rw [mergeL_len]; omega
  · rw [turnL_len]; omega
theorem stemL_items {x : Nd} {l : List Int} (hx : numsOk x = true) (h : Items l) : Items (stemL x l) := by
  unfold stemL
  split
  · rename_i e
    simp [numsOk, e, inR] at hx
    exact mapL_items (by omega) (by omega) h
  split
  · exact filL_items h
  split
  · exact h.take _
  split
  · exact h.drop _
  split
  · exact h.take _
  split
  · exact h.drop _
  split
  · exact scanL_items (by omega) h
  split
  · exact batTo_items h _
  · exact compact_items h
theorem forkL_items {x : Nd} {a b : List Int} (ha : Items a) (hb : Items b) : Items (forkL x a b) := by
  unfold forkL
  split
  · exact ha.app hb
  split
  · exact zipL_items ha hb
  split
  · exact mergeL_items ha hb
  · exact turnTo_items ha hb _

theorem src_items {src : List (List Int)} (hs : srcOk src = true) {k : Nat} {r : List Int} (hr : src[k]? = some r) : Items r ∧ r.length ≤ 12 := by
  simp only [srcOk, Bool.and_eq_true] at hs
  have h1 := List.all_eq_true.1 hs.1 r (List.mem_of_getElem? hr)
  simp only [rowOk, Bool.and_eq_true, decide_eq_true_eq] at h1
  refine ⟨fun x hx => ?_, h1.1⟩
  have := List.all_eq_true.1 h1.2 x hx
  exact inR_iff.1 this
theorem lst_items {src : List (List Int)} (hs : srcOk src = true) : ∀ {t : T}, t.nums → Items (lst src t)
  | .leaf x, _ => by
    unfold lst
    rw [List.getD_eq_getElem?_getD]
    cases e : src[x.n.toNat]? with
    | none => exact Items.nil_
    | some r => exact (src_items hs e).1
  | .stem x t, h => stemL_items h.1 (lst_items hs h.2)
  | .fork x a b, h => forkL_items (lst_items hs h.2.1) (lst_items hs h.2.2)
theorem lst_len {src : List (List Int)} (hs : srcOk src = true) : ∀ (t : T), (lst src t).length ≤ 12 * 2 ^ (t.depth - 1)
  | .leaf x => by
    unfold lst
    rw [List.getD_eq_getElem?_getD]
    cases e : src[x.n.toNat]? with
    | none => simp
    | some r => have := (src_items hs e).2; simpa [T.depth] using this
  | .stem x t => by
    have h1 := lst_len hs t
    have h2 : (lst src (.stem x t)).length ≤ (lst src t).length := stemL_len
    have h3 : 2 ^ (t.depth - 1) ≤ 2 ^ ((T.stem x t).depth - 1) := Nat.pow_le_pow_right (by omega) (by simp only [T.depth]; omega)
    omega
  | .fork x a b => by
    have h1 := lst_len hs a
    have h2 := lst_len hs b
    have h3 : (lst src (.fork x a b)).length ≤ (lst src a).length + (lst src b).length := forkL_len
    have hp := T.depth_pos a
    have hq := T.depth_pos b
    have h4 : 2 ^ (a.depth - 1) ≤ 2 ^ (max a.depth b.depth - 1) := Nat.pow_le_pow_right (by omega) (by omega)
    have h5 : 2 ^ (b.depth - 1) ≤ 2 ^ (max a.depth b.depth - 1) := Nat.pow_le_pow_right (by omega) (by omega)
    have h6 : 2 ^ ((T.fork x a b).depth - 1) = 2 * 2 ^ (max a.depth b.depth - 1) := by
      rw [show (T.fork x a b).depth - 1 = (max a.depth b.depth - 1) + 1 by simp only [T.depth]; omega, Nat.pow_succ]
      omega
    omega
theorem lst_short {src : List (List Int)} (hs : srcOk src = true) {t : T} (ht : t.depth ≤ 12) : (lst src t).length ≤ 24576 := by
  have h1 := lst_len hs t
  have h2 : 2 ^ (t.depth - 1) ≤ 2 ^ 11 := Nat.pow_le_pow_right (by omega) (by omega)
  omega

end Go.Proofs.Ythfniffecceldaa

/- Slices of numbers of the call's own that begin anywhere in their block: cut, read, and appended to by other slices. -/
namespace Go.Proofs.Ythfniffecceldaa
open Go.RowKit

/-- The slice at A, with room for c, holds the numbers l in memory from block base on. -/
def OwnV (w : World) (base : Nat) (A : Option Addr) (c : Nat) (l : List Int) : Prop :=
  (A = none ∧ c = 0 ∧ l = []) ∨ ∃ g o cs, A = some ⟨g, o, none⟩ ∧ base ≤ g ∧ Bk w g 3 cs ∧ o + c ≤ cs.length ∧ l.length ≤ c ∧ ∀ (k : Nat) (x : Int), l[k]? = some x → cs[o + k]? = some (.int .i64 x)

section
variable {w w' : World} {base b2 c : Nat} {A : Option Addr} {l : List Int}
theorem OwnV.len_le (h : OwnV w base A c l) : l.length ≤ c := by
  rcases h with ⟨_, rfl, rfl⟩ | ⟨g, o, cs, _, _, _, _, h, _⟩
  · simp
  · exact h
theorem OwnV.base_ (h : OwnV w base A c l) (hb : b2 ≤ base) : OwnV w b2 A c l :=
  h.imp id fun ⟨g, o, cs, h1, h2, h3⟩ => ⟨g, o, cs, h1, Nat.le_trans hb h2, h3⟩
theorem OwnV.row_lt (h : OwnV w base A c l) : ∀ g, rowOf A = some g → base ≤ g ∧ g < w.heap.size := fun g hg => by
  rcases h with ⟨rfl, _, _⟩ | ⟨g', o, cs, rfl, hb, hbk, _⟩
  · cases hg
  · have : g' = g := Option.some.inj hg
    subst this
    exact ⟨hb, hbk.lt⟩
theorem OwnV.grown {row : Option Nat} (h : OwnV w base A c l) (hg : w.grownBy w' row) (hne : rowOf A = none ∨ rowOf A ≠ row) : OwnV w' base A c l := by
  rcases h with h | ⟨g, o, cs, rfl, hb, hbk, r⟩
  · exact .inl h
  · refine .inr ⟨g, o, cs, rfl, hb, ?_, r⟩
    have : some g ≠ row := hne.elim (fun e => by cases e) id
    exact (hg.block g hbk.lt this).trans hbk
theorem OwnV.below {C : Nat} (h : OwnV w base A c l) (hb : Below C w w') (hC : w.heap.size ≤ C) : OwnV w' base A c l :=
  h.imp id fun ⟨g, o, cs, h1, h2, h3, r⟩ => ⟨g, o, cs, h1, h2, h3.below hb (by have := h3.lt; omega), r⟩
theorem OwnV.rd (h : OwnV w base A c l) : RdI w w.heap.size A l := fun hn => by
  rcases h with ⟨_, _, rfl⟩ | ⟨g, o, cs, rfl, hb, hbk, _, _, hc⟩
  · exact absurd hn (by simp)
  · exact ⟨_, rfl, hbk.lt, fun k x hx => by rw [Addr.add_lit, hbk.cell]; exact hc k x hx⟩
theorem OwnV.ownI (h : OwnV w base A c l) : OwnI w base w.heap.size A l := fun hn => by
  rcases h with ⟨_, _, rfl⟩ | ⟨g, o, cs, rfl, hb, hbk, _, _, hc⟩
  · exact absurd hn (by simp)
  · exact ⟨g, o, cs, rfl, hb, hbk.lt, hbk, hc⟩
theorem OwnJ.ownV (h : OwnJ w base A c l) : OwnV w base A c l := by
  obtain ⟨h1, ⟨hv, h0⟩ | ⟨g, cap, cur, hv, hb, hh, hn, _, hcs, ht⟩⟩ := h
  · injection hv with hA _ hc
    exact .inl ⟨hA, hc, List.eq_nil_of_length_eq_zero h0⟩
  · injection hv with hA _ hc
    subst hc
    refine .inr ⟨g, 0, cur.toList, hA, hb, by unfold Bk; simpa using hh, by simp; omega, hn, fun k x hx => ?_⟩
    have hk : k < l.length := (List.getElem?_eq_some_iff.1 hx).1
    have : (cur.toList.take (l.length * 1))[k]? = some (.int .i64 x) := by rw [ht, ints_get, hx]; rfl
    rw [Nat.zero_add]
    rwa [List.getElem?_take_of_lt (by omega)] at this
theorem OwnV.take (h : OwnV w base A c l) (n : Nat) : OwnV w base A c (l.take n) := by
  rcases h with ⟨hA, hc, rfl⟩ | ⟨g, o, cs, hA, hb, hbk, h1, h2, hc⟩
  · exact .inl ⟨hA, hc, by simp⟩
  · refine .inr ⟨g, o, cs, hA, hb, hbk, h1, Nat.le_trans (List.length_take_le' _ _) h2, fun k x hx => hc k x ?_⟩
    rw [List.getElem?_take] at hx
    split at hx
    · exact hx
    · cases hx
theorem OwnV.drop {g o : Nat} (h : OwnV w base (some ⟨g, o, none⟩) c l) (n : Nat) (hn : n ≤ l.length) : OwnV w base (some ⟨g, o + n, none⟩) (c - n) (l.drop n) := by
  rcases h with ⟨hA, _, _⟩ | ⟨g', o', cs, hA, hb, hbk, h1, h2, hc⟩
  · cases hA
  · obtain ⟨rfl, rfl⟩ : g = g' ∧ o = o' := by injection hA with hA; injection hA with a b; exact ⟨a, b⟩
    refine .inr ⟨g, o + n, cs, rfl, hb, hbk, by omega, by rw [List.length_drop]; omega, fun k x hx => ?_⟩
    rw [List.getElem?_drop] at hx
    rw [Nat.add_assoc]
    exact hc (n + k) x hx
end

/-- Cells from o on are those of vs. -/
def setMany (cs : List Value) : Nat → List Value → List Value
  | _, [] => cs
  | o, v :: vs => setMany (cs.set o v) (o + 1) vs
theorem setMany_len : ∀ (vs cs : List Value) (o : Nat), (setMany cs o vs).length = cs.length
  | [], _, _ => rfl
  | v :: vs, cs, o => by rw [setMany, setMany_len vs]; simp
theorem setMany_low : ∀ (vs cs : List Value) (o k : Nat), k < o → (setMany cs o vs)[k]? = cs[k]?
  | [], _, _, _, _ => rfl
  | v :: vs, cs, o, k, h => by rw [setMany, setMany_low vs _ _ _ (by omega), List.getElem?_set_ne (by omega)]
theorem setMany_in : ∀ (vs cs : List Value) (o j : Nat), o + vs.length ≤ cs.length → j < vs.length → (setMany cs o vs)[o + j]? = vs[j]?
  | [], _, _, _, _, h => absurd h (by simp)
  | v :: vs, cs, o, 0, h1, h2 => by
    simp only [List.length_cons] at h1
    rw [setMany, setMany_low vs _ _ _ (by omega), Nat.add_zero, List.getElem?_set_self (by omega)]
    rfl
  | v :: vs, cs, o, j + 1, h1, h2 => by
    simp only [List.length_cons] at h1 h2
    rw [setMany, show o + (j + 1) = (o + 1) + j by omega, setMany_in vs _ _ _ (by simp; omega) (by omega)]
    rfl
theorem Bk.setCells {g : Nat} {t : TypeId} : ∀ (vs : List Value) {w : World} {cs : List Value} (o : Nat), Bk w g t cs → Bk (w.setCells g o vs) g t (setMany cs o vs)
  | [], _, _, _, h => h
  | v :: vs, w, cs, o, h => by rw [World.setCells, setMany]; exact Bk.setCells vs (o + 1) (h.set_ o v)

theorem setCells_grown {g : Nat} : ∀ (vs : List Value) {a w : World} (o : Nat), a.grownBy w (some g) → a.grownBy (w.setCells g o vs) (some g)
  | [], _, _, _, h => h
  | v :: vs, a, w, o, h => by rw [World.setCells]; exact setCells_grown vs (o + 1) (grown_one h o v)

/-- The numbers of one slice are appended to another one of the call's own. -/
theorem run_append_ints (w : World) (base : Nat) (A : Option Addr) (c : Nat) (l : List Int) (h : OwnV w base A c l) (A2 : Option Addr) (c2 : Nat) (b : List Int) (B : Nat) (hb : RdI w B A2 b) (hn : l.length + b.length ≤ 1048576) (hz : base ≤ w.heap.size) (ty : TypeId) :
    ∃ A' c' w', (Builtin.append_ #[23, 23] ty #[.slice A l.length c, .slice A2 b.length c2]).run Try.prog w = .ok (.slice A' (l.length + b.length) c') w' ∧ OwnV w' base A' c' (l ++ b) ∧ w.grownBy w' (rowOf A) := by
  obtain ⟨i, hi, hz0, hz1, hz2⟩ := info_parts Try.infoInt
  by_cases hb0 : 0 < b.length
  · obtain ⟨ad, rfl, hadB, hc⟩ := hb hb0
    have hsrc : Src Try.prog i.size 23 (.slice (some ad) b.length c2) b.length (ints b) w := Src.ofSlice w Try.underlying23 ad b.length c2 (ints b) (by rw [hz1]; simp [ints]) (fun j u hj => by
      rw [ints_get] at hj
      cases hx : b[j]? with
      | none => rw [hx] at hj; cases hj
      | some x => rw [hx] at hj; obtain rfl := Option.some.inj hj; exact hc j x hx) (fun u hu => by
      obtain ⟨x, _, rfl⟩ := List.mem_map.1 hu
      rfl)
    have hnl : (ints b).length = b.length := by simp [ints]
    by_cases hroom : l.length + b.length ≤ c
    · rcases h with ⟨_, hc0, _⟩ | ⟨g, o, cs, rfl, hbg, hbk, h1, h2, hcs⟩
      · omega
      have hr := run_append_room_src (P := Try.prog) w 23 23 ty 3 i Try.underlying23 hi g o l.length c _ b.length (ints b) hsrc hroom
        (fun j hj => by rw [hbk.cell, hz1, Nat.mul_one, List.getElem?_eq_getElem (by omega)]; rfl) (fun j hj => hbk.free _)
      refine ⟨_, c, _, hr, .inr ⟨g, o, _, rfl, hbg, Bk.setCells (ints b) _ hbk, by rw [setMany_len]; exact h1, by simp; omega, fun k x hx => ?_⟩, setCells_grown _ _ (World.grownBy.refl w _)⟩
      rw [hz1, Nat.mul_one]
      by_cases hk : k < l.length
      · rw [setMany_low _ _ _ _ (by omega)]
        rw [List.getElem?_append_left hk] at hx
        exact hcs k x hx
      · rw [List.getElem?_append_right (by omega)] at hx
        have hkb : k - l.length < b.length := (List.getElem?_eq_some_iff.1 hx).1
        rw [show o + k = o + l.length + (k - l.length) by omega, setMany_in _ _ _ _ (by omega) (by omega), ints_get, hx]
        rfl
    · have hold : (Builtin.firstCells i.size l.length (.slice A l.length c)).run Try.prog w.drew = .ok (ints l).toArray w.drew := by
        rcases h with ⟨rfl, rfl, rfl⟩ | ⟨g, o, cs, rfl, hbg, hbk, h1, h2, hcs⟩
        · exact run_firstCells_none w.drew i.size 0 0 0
        · refine run_firstCells_some w.drew i.size l.length ⟨g, o, none⟩ l.length c (ints l) (by rw [hz1]; simp [ints]) (fun j u hj => ?_)
          rw [ints_get] at hj
          cases hx : l[j]? with
          | none => rw [hx] at hj; cases hj
          | some x =>
            rw [hx] at hj
            obtain rfl := Option.some.inj hj
            rw [Addr.add_lit]
            exact (hbk.cell _).trans (hcs j x hx)
      have hr := run_append_grow_src (P := Try.prog) w 23 23 ty 3 i _ Try.underlying23 hi hz0 A l.length c (ints l) hold _ b.length (ints b) hsrc (by omega) (by omega) (growslice_fits (by omega) (by rw [hz2]; omega))
      have hge := grownCap_ge w (l.length + b.length) c 3
      refine ⟨_, _, _, hr, .inr ⟨w.heap.size, 0, ((ints l ++ ints b).toArray ++ Builtin.zeroCells (Value.cells (.int .i64 0)) (grownCap w (l.length + b.length) c 3 - (l.length + b.length))).toList, rfl, hz, ?_, ?_, by simpa using hge, fun k x hx => ?_⟩, ⟨rfl, rfl, rfl, by simp, fun k hk _ => Below.heap_alloc w.drew _ k hk⟩⟩
      · unfold Bk
        rw [Array.toArray_toList]
        exact heap_alloc_new w.drew _
      · simp [size_zeroCells, ints, Value.cells]
        omega
      · have hk : k < l.length + b.length := by have := (List.getElem?_eq_some_iff.1 hx).1; simpa using this
        rw [Nat.zero_add, Array.toList_append, List.getElem?_append_left (by simp [ints]; omega)]
        rw [show (ints l ++ ints b).toArray.toList = ints (l ++ b) from by simp [ints], ints_get, hx]
        rfl
  · have hb1 : b = [] := List.eq_nil_of_length_eq_zero (by omega)
    subst hb1
    have hsrc : Src Try.prog i.size 23 (.slice A2 0 c2) 0 [] w := by
      cases A2 with
      | none => exact Src.ofNil w Try.underlying23 c2
      | some ad => exact Src.ofSlice w Try.underlying23 ad 0 c2 [] (by simp) (fun j u hj => by simp at hj) (fun u hu => by cases hu)
    refine ⟨A, c, w, run_append_nothing w 23 23 ty 3 i Try.underlying23 hi A l.length c h.len_le _ hsrc, by rw [List.append_nil]; exact h, World.grownBy.refl w _⟩

end Go.Proofs.Ythfniffecceldaa

/- Contracts: the list of a node, by the reference (parts). -/
namespace Go.Proofs.Ythfniffecceldaa
open Go.RowKit

theorem OwnV.drop0 {w : World} {base c g o : Nat} {l : List Int} (h : OwnV w base (some ⟨g, o, none⟩) c l) (n : Nat) (_ : n ≤ l.length) (hc : c ≤ n) : OwnV w base (some ⟨g, o, none⟩) 0 (l.drop n) := by
  rcases h with ⟨hA, _, _⟩ | ⟨g', o', cs, hA, hb, hbk, h1, h2, hcs⟩
  · cases hA
  · have hnil : l.drop n = [] := List.eq_nil_of_length_eq_zero (by rw [List.length_drop]; omega)
    rw [hnil]
    exact .inr ⟨g', o', cs, hA, hb, hbk, by omega, Nat.le_refl _, fun k x hx => by simp at hx⟩

theorem wpList_append_ints {ops : Array Oper} {rest : List Oper} {o : Oper} {a : Act} {Q : Exit → Act → World → Prop} {w : World} (hgd : o.guard = none) (s y : Operand)
    (ho : o.op = .call { callee := .builtin .append, args := #[s, y], argTypes := #[23, 23] }) (base : Nat) (A : Option Addr) (c : Nat) (l : List Int) (n : Nat) (hnl : l.length = n) (hs : a.eval s = .slice A n c) (hown : OwnV w base A c l)
    (A2 : Option Addr) (c2 : Nat) (b : List Int) (nb B : Nat) (hnb : b.length = nb) (hx : a.eval y = .slice A2 nb c2) (hb : RdI w B A2 b) (hn : n + nb ≤ 1048576) (hz : base ≤ w.heap.size)
    (h : ∀ (A' : Option Addr) (c' : Nat) (w' : World), OwnV w' base A' c' (l ++ b) → w.grownBy w' (rowOf A) → wpList Try.prog ops Q rest (a.put o.dst (.slice A' (n + nb) c')) w') :
    wpList Try.prog ops Q (o :: rest) a w := by
  subst hnl
  subst hnb
  refine wpList_plain hgd fun K hK => ?_
  obtain ⟨A', c', w', hr, h2, h3⟩ := run_append_ints w base A c l hown A2 c2 b B hb hn hz o.type
  unfold Oper.wp execOp
  simp only [ho, resolve, invoke, builtin, Sem.run_bind, Sem.run_pure, Result.andThen_ok, List.map_toArray, List.map_cons, List.map_nil, hs, hx, hr]
  exact hK _ _ (h A' c' w' h2 h3)

set_option maxHeartbeats 800000 in
theorem specCopyInts_any (A : Option Addr) (c : Nat) (l : List Int) (w : World) (B : Nat) (h : RdI w B A l) (hB : B ≤ w.heap.size) (hn : l.length ≤ 65536) :
    Calls Try.prog 36 #[.slice A l.length c] w fun e w' => ∃ R cR, e = .returned (.slice R l.length cR) ∧ OwnV w' w.heap.size R cR l ∧ Below w.heap.size w w' := by
  have hbe : Below w.heap.size w (w.alloc (.cells #[] 3)) := (Below.refl _ _).alloc (Nat.le_refl _) _
  have H := Lib.hid (h.below hbe hB)
  have Hbe := Lib.hid hbe
  have He := Lib.hid (emptyJ w).ownV
  clear h hbe
  go_enter Try.func36, Try.ntmps36
  go_wp2_with (at_builtin; go_must (refine wpList_append_ints rfl _ _ rfl w.heap.size _ _ [] 0 rfl rfl He.out A c l l.length B rfl rfl H.out (by omega) (by simp) ?_; intro R cR w2 ho2 hg2); have Ho2 := Lib.hid ho2; have Hg2 := Lib.hid hg2; clear ho2 hg2)
  go_ret
  refine ⟨R, cR, ret_slice (by simp), by simpa using Ho2.out, Hbe.out.grown Hg2.out (by simp) (fun g hg => ?_)⟩
  have : w.heap.size = g := Option.some.inj hg
  omega

end Go.Proofs.Ythfniffecceldaa

/- Contracts: the list of a node, by the reference (item by item). -/
namespace Go.Proofs.Ythfniffecceldaa
open Go.RowKit

end Go.Proofs.Ythfniffecceldaa

/- Contracts: the list of a node, by the reference (two below). -/
namespace Go.Proofs.Ythfniffecceldaa
open Go.RowKit

end Go.Proofs.Ythfniffecceldaa

/- Contracts: the list of a node, by the reference (the tree). -/
namespace Go.Proofs.Ythfniffecceldaa
open Go.RowKit

theorem arity_zero {k : Int} (h : arity k = 0) : k = 0 := by
  unfold arity at h
  split at h
  · rename_i e; simpa using e
  split at h
  · cases h
  split at h
  · cases h
  · cases h
theorem arity_two {k : Int} (h : arity k = 2) : k = 7 ∨ k = 8 ∨ k = 9 ∨ k = 10 := by
  unfold arity at h
  split at h
  · cases h
  split at h
  · rename_i e; simpa [or_assoc] using e
  split at h
  · cases h
  · cases h
theorem arity_one {k : Int} (h : arity k = 1) : k = 1 ∨ k = 2 ∨ k = 3 ∨ k = 4 ∨ k = 5 ∨ k = 6 ∨ k = 11 ∨ k = 12 ∨ k = 13 := by
  unfold arity at h
  split at h
  · cases h
  split at h
  · cases h
  split at h
  · rename_i e; simpa [or_assoc] using e
  · cases h

end Go.Proofs.Ythfniffecceldaa
