/- Texts on the program and its reference, put together (ClM, NodeE, ClC, State, New, SrcB, VSa, VSb, VSc, LsL, LiQ, Rf). -/
import Derived.Test.YtkjhncohanfciaaMc5G
import Derived.Laws.MakeOwn
import Derived.OwnWalk
import Derived.Test.YtkjhncohanfciaaMc5A
import Derived.Deep.RegionWith
import Derived.Deep.QuietTactic
import Derived.BigQuiet
import Derived.Test.YtkjhncohanfciaaMc5E
import Derived.Deep.DeepMust
import Derived.Deep.RegionHeld3
import Derived.Lib.QuietBelow
import Derived.Test.YtkjhncohanfciaaMc5F
import Derived.Test.YtkjhncohanfciaaMc5L
import Derived.RangeFuncNested
import Derived.RangeFuncBound
import Derived.RangeFuncCalls
import Derived.RangeFuncLeaves
/- Cells of nodes in memory. -/
namespace Go.Proofs.Ytkjhncohanfciaa
open Go.RowKit

structure Cl where
  n : Int
  l : Int
  r : Int
  hl : Bool
  hr : Bool
  d : Bool
deriving DecidableEq

theorem Cl.ext_ {x y : Cl} (h0 : x.n = y.n) (h1 : x.l = y.l) (h2 : x.r = y.r) (h3 : x.hl = y.hl) (h4 : x.hr = y.hr) (h5 : x.d = y.d) : x = y := by
  cases x; cases y; simp at h0 h1 h2 h3 h4 h5; simp [h0, h1, h2, h3, h4, h5]
def clEq (x y : Cl) : Bool := decide (x = y)
theorem clEq_no0 {x y : Cl} (h : (x.n != y.n) = true) : clEq x y = false := by
  apply decide_eq_false
  intro e
  subst e
  simp at h
theorem clEq_no1 {x y : Cl} (h : (x.l != y.l) = true) : clEq x y = false := by
  apply decide_eq_false
  intro e
  subst e
  simp at h
theorem clEq_no2 {x y : Cl} (h : (x.r != y.r) = true) : clEq x y = false := by
  apply decide_eq_false
  intro e
  subst e
  simp at h
theorem clEq_no3 {x y : Cl} (h : (x.hl != y.hl) = true) : clEq x y = false := by
  apply decide_eq_false
  intro e
  subst e
  simp at h
theorem clEq_no4 {x y : Cl} (h : (x.hr != y.hr) = true) : clEq x y = false := by
  apply decide_eq_false
  intro e
  subst e
  simp at h
theorem clEq_no5 {x y : Cl} (h : (x.d != y.d) = true) : clEq x y = false := by
  apply decide_eq_false
  intro e
  subst e
  simp at h
theorem clEq_yes {x y : Cl} (h0 : (x.n != y.n) = false) (h1 : (x.l != y.l) = false) (h2 : (x.r != y.r) = false) (h3 : (x.hl != y.hl) = false) (h4 : (x.hr != y.hr) = false) (h5 : (x.d != y.d) = false) : clEq x y = true := by
  apply decide_eq_true
  simp at h0 h1 h2 h3 h4 h5
  exact Cl.ext_ h0 h1 h2 h3 h4 h5
theorem clEq_ne {x y : Cl} (h : clEq x y = false) : x ≠ y := of_decide_eq_false h
theorem clEq_eq {x y : Cl} (h : clEq x y = true) : x = y := of_decide_eq_true h

/-- The cells of x stand in cs from o on. -/
structure ClIn (cs : List Value) (o : Nat) (x : Cl) : Prop where
  c0 : cs[o]? = some (.int .i64 x.n)
  c1 : cs[o + 1]? = some (.int .i64 x.l)
  c2 : cs[o + 2]? = some (.int .i64 x.r)
  c3 : cs[o + 3]? = some (.bool x.hl)
  c4 : cs[o + 4]? = some (.bool x.hr)
  c5 : cs[o + 5]? = some (.bool x.d)
/-- .. in memory. -/
structure ClAt (w : World) (b o : Nat) (x : Cl) : Prop where
  c0 : w.cell? ⟨b, o, none⟩ = some (.int .i64 x.n)
  c1 : w.cell? ⟨b, o + 1, none⟩ = some (.int .i64 x.l)
  c2 : w.cell? ⟨b, o + 2, none⟩ = some (.int .i64 x.r)
  c3 : w.cell? ⟨b, o + 3, none⟩ = some (.bool x.hl)
  c4 : w.cell? ⟨b, o + 4, none⟩ = some (.bool x.hr)
  c5 : w.cell? ⟨b, o + 5, none⟩ = some (.bool x.d)
theorem ClIn.at_ {w : World} {g o : Nat} {t : TypeId} {cs : List Value} {x : Cl} (h : ClIn cs o x) (hb : Bk w g t cs) : ClAt w g o x :=
  ⟨(hb.cell _).trans h.c0, (hb.cell _).trans h.c1, (hb.cell _).trans h.c2, (hb.cell _).trans h.c3, (hb.cell _).trans h.c4, (hb.cell _).trans h.c5⟩
theorem ClAt.keep {w w' : World} {b o : Nat} {x : Cl} (h : ClAt w b o x) (hk : ∀ p : Addr, p.block = b → w'.cell? p = w.cell? p) : ClAt w' b o x :=
  ⟨(hk _ rfl).trans h.c0, (hk _ rfl).trans h.c1, (hk _ rfl).trans h.c2, (hk _ rfl).trans h.c3, (hk _ rfl).trans h.c4, (hk _ rfl).trans h.c5⟩

/-- The slice at A reads as the list l, below block B. -/
def RdCl (w : World) (B : Nat) (A : Option Addr) (l : List Cl) : Prop :=
  0 < l.length → ∃ b o, A = some ⟨b, o, none⟩ ∧ b < B ∧ ∀ (k : Nat) (x : Cl), l[k]? = some x → ClAt w b (o + k * 6) x
section
variable {w w' : World} {B B' lo hi : Nat} {A : Option Addr} {l : List Cl}
theorem RdCl.at_ (h : RdCl w B A l) {k : Nat} (hk : k < l.length) : ∃ b o x, A = some ⟨b, o, none⟩ ∧ b < B ∧ l[k]? = some x ∧ ClAt w b (o + k * 6) x := by
  obtain ⟨b, o, e, hb, hc⟩ := h (by omega)
  obtain ⟨x, hx⟩ := get_of_lt l hk
  exact ⟨b, o, x, e, hb, hx, hc k x hx⟩
theorem RdCl.keep (h : RdCl w B A l) (hk : ∀ p : Addr, p.block < B → w'.cell? p = w.cell? p) : RdCl w' B A l := fun hn => by
  obtain ⟨b, o, e, hb, hc⟩ := h hn
  exact ⟨b, o, e, hb, fun k x hx => (hc k x hx).keep fun p hp => hk p (by omega)⟩
theorem RdCl.more (h : RdCl w B A l) (hB : B ≤ B') : RdCl w B' A l := fun hn => by
  obtain ⟨b, o, e, hb, hc⟩ := h hn
  exact ⟨b, o, e, by omega, hc⟩
theorem RdCl.below {C : Nat} (h : RdCl w B A l) (hb : Below C w w') (hC : B ≤ C) : RdCl w' B A l := h.keep fun _ hp => hb.cell (by omega)
theorem RdCl.drewN (h : RdCl w B A l) (n : Nat) : RdCl (w.drewN n) B A l := h.below (Same.below ⟨n, rfl⟩ B) (Nat.le_refl _)
theorem RdCl.held (h : RdCl w B A l) (hB : B ≤ w.heap.size) : Held w 0 B (fun v => RdCl v B A l) :=
  ⟨Nat.zero_le _, hB, fun _ _ hag => h.keep fun _ hp => cell_agree hag (Nat.zero_le _) hp⟩
end

theorem ClIn.set_self {cs : List Value} {o : Nat} (x : Cl) (h : o + 5 < cs.length) : ClIn ((((((cs.set o (.int .i64 x.n)).set (o + 1) (.int .i64 x.l)).set (o + 2) (.int .i64 x.r)).set (o + 3) (.bool x.hl)).set (o + 4) (.bool x.hr)).set (o + 5) (.bool x.d)) o x := by
  constructor <;> simp [List.getElem?_set] <;> omega
theorem ClIn.set_far {cs : List Value} {o j : Nat} {x : Cl} {u : Value} (h : ClIn cs o x) (hj : j < o ∨ o + 5 < j) : ClIn (cs.set j u) o x :=
  ⟨by rw [List.getElem?_set_ne (by omega)]; exact h.c0, by rw [List.getElem?_set_ne (by omega)]; exact h.c1, by rw [List.getElem?_set_ne (by omega)]; exact h.c2, by rw [List.getElem?_set_ne (by omega)]; exact h.c3, by rw [List.getElem?_set_ne (by omega)]; exact h.c4, by rw [List.getElem?_set_ne (by omega)]; exact h.c5⟩
/-- 6 cells that can be written. -/
structure ClOld (w : World) (b o : Nat) (u0 u1 u2 u3 u4 u5 : Value) : Prop where
  c0 : w.cell? ⟨b, o, none⟩ = some u0
  c1 : w.cell? ⟨b, o + 1, none⟩ = some u1
  c2 : w.cell? ⟨b, o + 2, none⟩ = some u2
  c3 : w.cell? ⟨b, o + 3, none⟩ = some u3
  c4 : w.cell? ⟨b, o + 4, none⟩ = some u4
  c5 : w.cell? ⟨b, o + 5, none⟩ = some u5
  f0 : w.frozen? ⟨b, o, none⟩ = false
  f1 : w.frozen? ⟨b, o + 1, none⟩ = false
  f2 : w.frozen? ⟨b, o + 2, none⟩ = false
  f3 : w.frozen? ⟨b, o + 3, none⟩ = false
  f4 : w.frozen? ⟨b, o + 4, none⟩ = false
  f5 : w.frozen? ⟨b, o + 5, none⟩ = false
theorem Bk.oldCl {w : World} {g o : Nat} {t : TypeId} {cs : List Value} (h : Bk w g t cs) (ho : o + 5 < cs.length) : ∃ u0 u1 u2 u3 u4 u5, ClOld w g o u0 u1 u2 u3 u4 u5 := by
  obtain ⟨u0, h0⟩ := get_of_lt cs (k := o) (by omega)
  obtain ⟨u1, h1⟩ := get_of_lt cs (k := o + 1) (by omega)
  obtain ⟨u2, h2⟩ := get_of_lt cs (k := o + 2) (by omega)
  obtain ⟨u3, h3⟩ := get_of_lt cs (k := o + 3) (by omega)
  obtain ⟨u4, h4⟩ := get_of_lt cs (k := o + 4) (by omega)
  obtain ⟨u5, h5⟩ := get_of_lt cs (k := o + 5) (by omega)
  exact ⟨u0, u1, u2, u3, u4, u5, (h.cell _).trans h0, (h.cell _).trans h1, (h.cell _).trans h2, (h.cell _).trans h3, (h.cell _).trans h4, (h.cell _).trans h5, h.free _, h.free _, h.free _, h.free _, h.free _, h.free _⟩
theorem ClOld.below {w w' : World} {b o C : Nat} {u0 u1 u2 u3 u4 u5 : Value} (h : ClOld w b o u0 u1 u2 u3 u4 u5) (hb : Below C w w') (hC : b < C) : ClOld w' b o u0 u1 u2 u3 u4 u5 := by
  have hc : ∀ i, w'.cell? ⟨b, i, none⟩ = w.cell? ⟨b, i, none⟩ := fun i => hb.cell (p := ⟨b, i, none⟩) hC
  have hf : ∀ i, w'.frozen? ⟨b, i, none⟩ = w.frozen? ⟨b, i, none⟩ := fun i => hb.frozen (p := ⟨b, i, none⟩) hC
  exact ⟨(hc _).trans h.c0, (hc _).trans h.c1, (hc _).trans h.c2, (hc _).trans h.c3, (hc _).trans h.c4, (hc _).trans h.c5, (hf _).trans h.f0, (hf _).trans h.f1, (hf _).trans h.f2, (hf _).trans h.f3, (hf _).trans h.f4, (hf _).trans h.f5⟩

/-- The cells of a new row. -/
def madeCl (n : Nat) : List Value := (madeCells #[.int .i64 0, .int .i64 0, .int .i64 0, .bool false, .bool false, .bool false] (n * 6)).toList
theorem madeCl_len (n : Nat) : (madeCl n).length = n * 6 := by simp [madeCl, size_madeCells]
def zeroCl : Cl := ⟨0, 0, 0, false, false, false⟩
theorem madeCl_get (n j : Nat) (hj : j < n * 6) : (madeCl n)[j]? = some ((#[.int .i64 0, .int .i64 0, .int .i64 0, .bool false, .bool false, .bool false])[j % 6]!) := by
  simp [madeCl, madeCells, hj]
theorem madeCl_in (n k : Nat) (hk : k < n) : ClIn (madeCl n) (k * 6) zeroCl := by
  constructor
  · rw [madeCl_get _ _ (by omega), show (k * 6) % 6 = 0 from by omega]; rfl
  · rw [madeCl_get _ _ (by omega), show (k * 6 + 1) % 6 = 1 from by omega]; rfl
  · rw [madeCl_get _ _ (by omega), show (k * 6 + 2) % 6 = 2 from by omega]; rfl
  · rw [madeCl_get _ _ (by omega), show (k * 6 + 3) % 6 = 3 from by omega]; rfl
  · rw [madeCl_get _ _ (by omega), show (k * 6 + 4) % 6 = 4 from by omega]; rfl
  · rw [madeCl_get _ _ (by omega), show (k * 6 + 5) % 6 = 5 from by omega]; rfl
theorem run_makeCl {P : Program} (t e : TypeId) (ht : P.underlying t = some (.slice e))
    (hinfo : (P.info? e).map (fun i => (i.zero, i.size, i.bytes)) = some (some (.agg #[.int .i64 0, .int .i64 0, .int .i64 0, .bool false, .bool false, .bool false]), 6, 32)) (n : Nat) (hn : n ≤ 1048576) (w : World) :
    (Instr.makeSlice t (.int .i64 (n : Int)) (.int .i64 (n : Int))).run P w = .ok (.slice (some ⟨w.heap.size, 0, none⟩) n n) (w.alloc (.cells (madeCl n).toArray e)) := by
  obtain ⟨i, hi, hz0, hz1, hz2⟩ := info_parts hinfo
  have hr := run_make (P := P) w t e i _ ht hi hz0 .i64 .i64 n n (by omega) (by omega) (by rw [hz2]; omega) (by omega)
  rw [hz1] at hr
  simp only [Int.toNat_natCast] at hr
  rw [hr]
  simp [madeCl, Value.cells]

end Go.Proofs.Ytkjhncohanfciaa

/- Contracts: slices of nodes, and pipes, compared. -/
namespace Go.Proofs.Ytkjhncohanfciaa
open Go.RowKit

set_option maxHeartbeats 800000 in
theorem eqNodeS_any (A1 A2 : Option Addr) (c1 c2 : Nat) (l1 l2 : List Nd) (w : World) (B : Nat) (h1 : RdN w B A1 l1) (h2 : RdN w B A2 l2) (hB : B ≤ w.heap.size) (n1 : l1.length ≤ 1048576) :
    Calls Try.prog 43 #[.slice A1 l1.length c1, .slice A2 l2.length c2] w fun e w' => e = .returned (.bool (decide (l1 = l2))) ∧ Below w.heap.size w w' := by
  by_cases hl : l1.length = l2.length
  · have hb : ((l1.length : Int) != (l2.length : Int)) = false := by simp [hl]
    have hb' : (l1.length != l2.length) = false := by simp [hl]
    have Hl := Lib.hid hl
    clear hl
    go_enter Try.func43, Try.ntmps43
    go_wp2
    go_loopw [5] (fun i wr => ∃ k : Nat, k ≤ l1.length ∧ i = .int .i64 k ∧ l1.take k = l2.take k ∧ Below w.heap.size w wr) (fun i _ => l1.length - (intOf i).toNat)
    case atStart => exact ⟨0, Nat.zero_le _, rfl, by simp, Below.refl _ _⟩
    case round =>
      obtain ⟨k, hk, rfl, hall, hs⟩ := hrel
      have Hall := Lib.hid hall
      clear hall
      by_cases hlt : k < l1.length
      · have hlt2 : k < l2.length := by rw [← Hl.out]; exact hlt
        obtain ⟨b, o, x, rfl, hbB, hx, hc⟩ := (h1.below hs hB).at_ hlt
        obtain ⟨b2, o2, y, rfl, hbB2, hy, hd⟩ := (h2.below hs hB).at_ hlt2
        obtain ⟨p0, p1, p2, p3, p4⟩ := hc
        obtain ⟨q0, q1, q2, q3, q4⟩ := hd
        have Hx := Lib.hid hx
        have Hy := Lib.hid hy
        have Hs := Lib.hid hs
        clear hx hy h1 h2 hs
        cases hxy : ndEq x y
        · have Hxy := Lib.hid hxy
          clear hxy
          go_wp2
          go_region_with (go_at_call 67; refine (eqNode_any x y _).mono ?_; rintro e w1 ⟨rfl, hb⟩; rw [Hxy.out]; have Hb := Lib.hid hb; clear hb)
          all_goals
            go_wp2
            go_ret
            exact ⟨ret_bool (decide_eq_false (ne_of_get Hx.out Hy.out (ndEq_ne Hxy.out))).symm, below_step Hs.out Hb.out⟩
        · have Hxy := Lib.hid hxy
          clear hxy
          go_wp2
          go_region_with (go_at_call 67; refine (eqNode_any x y _).mono ?_; rintro e w1 ⟨rfl, hb⟩; rw [Hxy.out]; have Hb := Lib.hid hb; clear hb)
          all_goals
            go_wp2
            go_roundw
            case rel => exact ⟨k + 1, by omega, by go_num, take_eq_succ Hall.out Hx.out (by rw [ndEq_eq Hxy.out]; exact Hy.out), below_step Hs.out Hb.out⟩
            case measure => simp [intOf]; omega
      · go_wp2
        go_ret
        exact ⟨ret_bool (decide_eq_true (eq_of_take (by omega) (by rw [← Hl.out]; omega) Hall.out)).symm, hs⟩
  · have hb' : (l1.length != l2.length) = true := by simp [hl]
    have Hl : Hid (¬ l1.length = l2.length) := hl
    clear hl
    go_enter Try.func43, Try.ntmps43
    go_wp2
    go_ret
    exact ⟨ret_bool (by rw [decide_eq_false]; intro e; exact Hl.out (by rw [e])), Below.refl _ _⟩

set_option maxHeartbeats 400000 in
theorem eqPipe_any (A1 A2 : Option Addr) (c1 c2 : Nat) (l1 l2 : List Nd) (w : World) (B : Nat) (h1 : RdN w B A1 l1) (h2 : RdN w B A2 l2) (hB : B ≤ w.heap.size) (n1 : l1.length ≤ 1048576) :
    Calls Try.prog 16 #[.agg #[.slice A1 l1.length c1], .agg #[.slice A2 l2.length c2]] w fun e w' => e = .returned (.bool (decide (l1 = l2))) ∧ Below w.heap.size w w' := by
  have hB0 := ((Below.refl w.heap.size w).alloc (Nat.le_refl _) (.cells #[.slice A1 l1.length c1] 32)).alloc (by simp) (.cells #[.slice A2 l2.length c2] 32)
  cases hd : decide (l1 = l2)
  all_goals
    have Hd := Lib.hid hd
    have Hh1 := Lib.hid h1
    have Hh2 := Lib.hid h2
    have HB0 := Lib.hid hB0
    clear hd h1 h2 hB0
    go_enter Try.func16, Try.ntmps16
    go_wp2_with fail
    refine (eqNodeS_any _ _ _ _ _ _ _ B (Hh1.out.below HB0.out hB) (Hh2.out.below HB0.out hB) (by simp; omega) n1).mono ?_
    rintro e w1 ⟨rfl, hb⟩
    rw [Hd.out]
    have Hb := Lib.hid hb
    clear hb
    go_wp2_with fail
    go_ret
    exact ⟨rfl, HB0.out.trans (Hb.out.mono (by simp; omega))⟩

end Go.Proofs.Ytkjhncohanfciaa

/- Contracts of the functions on cells of nodes. -/
namespace Go.Proofs.Ytkjhncohanfciaa
open Go.RowKit

/-- n marks, the first number of which is k. -/
def mkCl (n : Nat) (k : Int) : List Cl := (List.range n).map fun i : Nat => ⟨k + 6 * i, k + 6 * i + 1, k + 6 * i + 2, (k + 6 * i + 3) % 3 == 0, (k + 6 * i + 4) % 3 == 0, (k + 6 * i + 5) % 3 == 0⟩
theorem mkCl_len (n : Nat) (k : Int) : (mkCl n k).length = n := by simp [mkCl]
theorem mkCl_get {n : Nat} {k : Int} {i : Nat} (h : i < n) : (mkCl n k)[i]? = some ⟨k + 6 * i, k + 6 * i + 1, k + 6 * i + 2, (k + 6 * i + 3) % 3 == 0, (k + 6 * i + 4) % 3 == 0, (k + 6 * i + 5) % 3 == 0⟩ := by simp [mkCl, h]
theorem mkCl_at {n : Nat} {k m : Int} {i : Nat} (h : i < n) (hm : m = k + 6 * i) : (mkCl n k)[i]? = some ⟨m, m + 1, m + 2, (m + 3) % 3 == 0, (m + 4) % 3 == 0, (m + 5) % 3 == 0⟩ := by rw [mkCl_get h, hm]

end Go.Proofs.Ytkjhncohanfciaa

/- Contracts of the functions on states (a box of a slice of cells), and of those that make new ones. -/
namespace Go.Proofs.Ytkjhncohanfciaa
open Go.RowKit

end Go.Proofs.Ytkjhncohanfciaa

/- Contracts: the state of a pipe before the first pull, told by the reference and by the program. -/
namespace Go.Proofs.Ytkjhncohanfciaa
open Go.RowKit

/-- A new state. -/
structure NewOf (l : List Nd) (q : List Cl) : Prop where
  no : pipeOk l = false → q = []
  yes : pipeOk l = true → q = List.replicate l.length zeroCl
end Go.Proofs.Ytkjhncohanfciaa

/- Contracts of the functions that test whether lists are sources, the program's and the reference's. -/
namespace Go.Proofs.Ytkjhncohanfciaa
open Go.RowKit

set_option maxHeartbeats 400000 in
theorem validItems_any (A : Option Addr) (c : Nat) (l : List Int) (w : World) (B : Nat) (h : RdI w B A l) (hn : l.length ≤ 1048576) :
    Calls Try.prog 63 #[.slice A l.length c] w fun e w' => e = .returned (.bool (rowOk l)) ∧ w = w' := by
  unfold rowOk
  by_cases hlt : l.length ≤ 12
  · cases hb : allB l 0 99
    all_goals
      have Hb := Lib.hid hb
      clear hb
      go_enter Try.func63, Try.ntmps63
      go_wp2_with (go_at_call 81; refine (allWithin_any _ _ _ _ _ _ _ h hn).mono ?_; rintro e w' ⟨rfl, rfl⟩; rw [Hb.out])
      go_ret
      exact ⟨ret_bool (by simp [hlt]), rfl⟩
  · go_enter Try.func63, Try.ntmps63
    go_wp2
    go_ret
    exact ⟨rfl, rfl⟩

set_option maxHeartbeats 400000 in
theorem implValidSources_any (A : Option Addr) (c : Nat) (rows : List (List Int)) (w : World) (B : Nat) (h : RdR w B A rows) (hn : rows.length ≤ 1048576) (hr : ∀ r ∈ rows, r.length ≤ 1048576) :
    Calls Try.prog 40 #[.slice A rows.length c] w fun e w' => e = .returned (.bool (srcOk rows)) ∧ w = w' := by
  by_cases h3 : rows.length = 3
  · have h3' : ((rows.length : Int) != 3) = false := by simp [h3]
    have H3 := Lib.hid h3
    clear h3
    go_enter Try.func40, Try.ntmps40
    go_wp2
    go_loop [10] (fun i => ∃ k : Nat, k ≤ rows.length ∧ i = .int .i64 k ∧ (rows.take k).all rowOk = true) (fun i => rows.length - (intOf i).toNat)
    case atStart => exact ⟨0, Nat.zero_le _, rfl, by simp⟩
    case round =>
      obtain ⟨k, hk, rfl, hall⟩ := hrel
      have Hall := Lib.hid hall
      clear hall
      by_cases hlt : k < rows.length
      · obtain ⟨ad, r, Ar, cr, rfl, hx, hc, hrd⟩ := h.at_ hlt
        have hrn := hr r (List.mem_of_getElem? hx)
        have Hx := Lib.hid hx
        have Hrd := Lib.hid hrd
        clear hx h hr hrd
        cases hin : rowOk r
        · have Hin := Lib.hid hin
          clear hin
          go_wp2_with (go_at_call 63; refine (validItems_any _ _ _ _ _ Hrd.out hrn).mono ?_; rintro e w' ⟨rfl, rfl⟩; rw [Hin.out])
          go_ret
          exact ⟨ret_bool (by rw [srcOk, all_false_of Hx.out Hin.out]; rfl), rfl⟩
        · have Hin := Lib.hid hin
          clear hin
          go_wp2_with (go_at_call 63; refine (validItems_any _ _ _ _ _ Hrd.out hrn).mono ?_; rintro e w' ⟨rfl, rfl⟩; rw [Hin.out])
          go_round
          case rel => exact ⟨k + 1, by omega, by go_num, all_take_succ Hx.out Hin.out Hall.out⟩
          case measure => simp [intOf]; omega
      · go_wp2
        go_ret
        exact ⟨ret_bool (by rw [srcOk, all_of_take (by omega) Hall.out, H3.out]; rfl), rfl⟩
  · have h3' : ((rows.length : Int) != 3) = true := by simp; omega
    have H3 : Hid (rows.length ≠ 3) := h3
    clear h3
    go_enter Try.func40, Try.ntmps40
    go_wp2
    go_ret
    exact ⟨ret_bool (by simp [srcOk, H3.out]), rfl⟩

set_option maxHeartbeats 400000 in
theorem specvalidSources_any (A : Option Addr) (c : Nat) (rows : List (List Int)) (w : World) (B : Nat) (h : RdR w B A rows) (hn : rows.length ≤ 1048576) (hr : ∀ r ∈ rows, r.length ≤ 1048576) :
    Calls Try.prog 55 #[.slice A rows.length c] w fun e w' => e = .returned (.bool (srcOk rows)) ∧ w = w' := by
  go_enter Try.func55, Try.ntmps55
  go_wp2
  go_loop [3] (fun i => ∃ k : Nat, k ≤ rows.length ∧ i = .int .i64 k ∧ (rows.take k).all rowOk = true) (fun i => rows.length - (intOf i).toNat)
  case atStart => exact ⟨0, Nat.zero_le _, rfl, by simp⟩
  case round =>
    obtain ⟨k, hk, rfl, hall⟩ := hrel
    have Hall := Lib.hid hall
    clear hall
    by_cases hlt : k < rows.length
    · obtain ⟨ad, r, Ar, cr, rfl, hx, hc, hrd⟩ := h.at_ hlt
      have hrn := hr r (List.mem_of_getElem? hx)
      have Hx := Lib.hid hx
      have Hrd := Lib.hid hrd
      clear hx h hr hrd
      by_cases h12 : r.length ≤ 12
      · cases hb : allB r 0 99
        · have Hb := Lib.hid hb
          clear hb
          go_wp2_with (go_at_call 72; refine (allIn_any _ _ _ _ _ _ _ Hrd.out hrn).mono ?_; rintro e w' ⟨rfl, rfl⟩; rw [Hb.out])
          go_ret
          exact ⟨ret_bool (by rw [srcOk, all_false_of Hx.out (by rw [rowOk, Hb.out, Bool.and_false])]; rfl), rfl⟩
        · have Hb := Lib.hid hb
          clear hb
          go_wp2_with (go_at_call 72; refine (allIn_any _ _ _ _ _ _ _ Hrd.out hrn).mono ?_; rintro e w' ⟨rfl, rfl⟩; rw [Hb.out])
          go_round
          case rel => exact ⟨k + 1, by omega, by go_num, all_take_succ Hx.out (by rw [rowOk, Hb.out, decide_eq_true h12]; rfl) Hall.out⟩
          case measure => simp [intOf]; omega
      · go_wp2
        go_ret
        exact ⟨ret_bool (by rw [srcOk, all_false_of Hx.out (by rw [rowOk, decide_eq_false h12, Bool.false_and])]; rfl), rfl⟩
    · go_wp2
      go_ret
      exact ⟨ret_bool (by rw [srcOk, all_of_take (by omega) Hall.out, Bool.true_and]; exact beq_three _), rfl⟩

end Go.Proofs.Ytkjhncohanfciaa

/- Contracts: whether a state is one of a pipe and sources, told by the reference and by the program. -/
namespace Go.Proofs.Ytkjhncohanfciaa
open Go.RowKit

/-- The greatest count of a node. -/
def mostOf (x : Nd) (src : List (List Int)) : Int :=
  if x.k = 0 then ((src.getD x.n.toNat []).length : Int) else if x.k = 3 then x.n else if x.k = 4 then x.n else if x.k = 6 then 1 else if x.k = 10 then 1 else if x.k = 11 then 99 else 0
/-- Whether a cell can be that of a node. -/
def cellOk (src : List (List Int)) (p : Nd × Cl) : Bool := inR p.2.n 0 (mostOf p.1 src) && (inR p.2.l 0 99 && inR p.2.r 0 99)
/-- Whether there are a cell for each node, and each one can be that. -/
def cellsOk (l : List Nd) (src : List (List Int)) (cs : List Cl) : Bool := decide (cs.length = l.length) && (l.zip cs).all (cellOk src)
def stateOk (l : List Nd) (src : List (List Int)) (cs : List Cl) : Bool := pipeOk l && (srcOk src && cellsOk l src cs)
theorem zip_get {l : List Nd} {cs : List Cl} {k : Nat} {x : Nd} {c : Cl} (hx : l[k]? = some x) (hc : cs[k]? = some c) : (l.zip cs)[k]? = some (x, c) := by
  rw [List.getElem?_zip_eq_some]; exact ⟨hx, hc⟩
theorem src_rows {src : List (List Int)} (h : srcOk src = true) : src.length = 3 ∧ ∀ r ∈ src, r.length ≤ 12 := by
  simp only [srcOk, Bool.and_eq_true, decide_eq_true_eq, List.all_eq_true, rowOk] at h
  exact ⟨h.2, fun r hr => (h.1 r hr).1⟩
theorem mostOf_bd {x : Nd} {src : List (List Int)} (h : srcOk src = true) (hn : numsOk x = true) : 0 ≤ mostOf x src ∧ mostOf x src ≤ 1000 := by
  obtain ⟨h3, hr⟩ := src_rows h
  unfold mostOf
  split
  · rename_i hk
    refine ⟨by omega, ?_⟩
    have : (src.getD x.n.toNat []).length ≤ 12 := by
      rw [List.getD_eq_getElem?_getD]
      cases e : src[x.n.toNat]? with
      | none => simp
      | some r => exact hr r (List.mem_of_getElem? e)
    omega
  · split
    · rename_i hk; simp [numsOk, hk, inR] at hn; omega
    · split
      · rename_i hk; simp [numsOk, hk, inR] at hn; omega
      · split
        · omega
        · split
          · omega
          · split <;> omega

end Go.Proofs.Ytkjhncohanfciaa

/- Contracts: whether a state is one of a pipe and sources (the reference). -/
namespace Go.Proofs.Ytkjhncohanfciaa
open Go.RowKit Go.Sort

end Go.Proofs.Ytkjhncohanfciaa

/- Contracts: whether a state is one of a pipe and sources (the reference's and the program's doors). -/
namespace Go.Proofs.Ytkjhncohanfciaa
open Go.RowKit Go.Sort

set_option maxHeartbeats 1600000 in
theorem specvalidInput_any (A0 : Option Addr) (c0 : Nat) (l : List Nd) (As : Option Addr) (ca : Nat) (src : List (List Int)) (w : World) (B : Nat) (h0 : RdN w B A0 l) (hs : RdR w B As src) (hB : B ≤ w.heap.size) (hn0 : l.length ≤ 1048576) (hns : src.length ≤ 1048576) (hm : Hid (∀ r ∈ src, r.length ≤ 1048576)) :
    Calls Try.prog 35 #[.agg #[.slice A0 l.length c0], .slice As src.length ca] w fun e w' => e = .returned (.bool (pipeOk l && srcOk src)) ∧ Below w.heap.size w w' := by
  obtain ⟨W0, hW0⟩ : ∃ W0 : World, W0 = w.alloc (.cells #[.slice A0 l.length c0] 32) := ⟨_, rfl⟩
  have hb0 : Below w.heap.size w W0 := by rw [hW0]; exact (Below.refl w.heap.size w).alloc (Nat.le_refl _) _
  have H0 := Lib.hid (h0.below hb0 hB)
  have S0 := Lib.hid (hs.below hb0 hB)
  have Hb0 := Lib.hid hb0
  have HW0 := Lib.hid hW0
  have hz0 := hb0.size
  clear h0 hs hb0 hW0
  cases hv : pipeOk l
  · have Hv := Lib.hid hv
    clear hv
    go_enter Try.func35, Try.ntmps35
    go_wp2_with fail
    rw [← HW0.out]
    refine (specvalidPipe_any A0 c0 l W0 B H0.out (by omega) hn0).mono ?_
    rintro e w1 ⟨rfl, hb1⟩
    rw [Hv.out]
    have Hb1 := Lib.hid hb1
    clear hb1
    go_wp2_with fail
    go_ret
    exact ⟨rfl, Hb0.out.trans (Hb1.out.mono hz0)⟩
  · have Hv := Lib.hid hv
    clear hv
    go_enter Try.func35, Try.ntmps35
    go_wp2_with fail
    rw [← HW0.out]
    refine (specvalidPipe_any A0 c0 l W0 B H0.out (by omega) hn0).mono ?_
    rintro e w1 ⟨rfl, hb1⟩
    rw [Hv.out]
    have S1 := Lib.hid (S0.out.below hb1 (by omega))
    have Hb1 := Lib.hid (Hb0.out.trans (hb1.mono hz0))
    clear hb1
    go_wp2_with fail
    refine (specvalidSources_any As ca src w1 B S1.out hns hm.out).mono ?_
    rintro e w2 ⟨rfl, rfl⟩
    go_wp2_with fail
    go_ret
    exact ⟨by simp, Hb1.out⟩

end Go.Proofs.Ytkjhncohanfciaa

/- Contracts: the list of a pipe and its length, by the reference. -/
namespace Go.Proofs.Ytkjhncohanfciaa
open Go.RowKit

/-- The list of a pipe; none if the pipe or the sources are not valid. -/
structure ListOfq (l : List Nd) (src : List (List Int)) (q : List Int) : Prop where
  no : (pipeOk l && srcOk src) = false → q = []
  yes : ∀ {t : T}, (pipeOk l && srcOk src) = true → IsTree l (l.length - 1) t → q = lst src t
theorem ListOfq.ex (l : List Nd) (src : List (List Int)) : ∃ q, ListOfq l src q := by
  cases h : (pipeOk l && srcOk src)
  · refine ⟨[], ?_, ?_⟩
    · intro _; rfl
    · intro t h2
      rw [h] at h2
      cases h2
  · obtain ⟨t, ht⟩ := tree_of_pipe (Bool.and_eq_true_iff.1 h).1
    refine ⟨lst src t, ?_, ?_⟩
    · intro h2
      rw [h] at h2
      cases h2
    · intro u _ hu
      rw [ht.same hu]
theorem src_three {src : List (List Int)} (h : srcOk src = true) : src.length = 3 := by
  simp only [srcOk, Bool.and_eq_true] at h
  simpa using h.2

set_option maxRecDepth 100000 in
set_option maxHeartbeats 1600000 in
theorem specAll_any (A : Option Addr) (c : Nat) (l : List Nd) (As : Option Addr) (ca : Nat) (src : List (List Int)) (w : World) (B : Nat) {t : T} (hv : (pipeOk l && srcOk src) = true) (ht : IsTree l (l.length - 1) t) (h : RdN w B A l) (hs : RdR w B As src) (hB : B ≤ w.heap.size) (hn : l.length ≤ 1048576) :
    Calls Try.prog 36 #[.agg #[.slice A l.length c], .slice As src.length ca] w fun e w' => ∃ R cR, e = .returned (.slice R (lst src t).length cR) ∧ OwnV w' w.heap.size R cR (lst src t) ∧ Below w.heap.size w w' := by
  obtain ⟨hp, hsr⟩ := Bool.and_eq_true_iff.1 hv
  obtain ⟨W0, hW0⟩ : ∃ W0 : World, W0 = w.alloc (.cells #[.slice A l.length c] 32) := ⟨_, rfl⟩
  have hb0 : Below w.heap.size w W0 := by rw [hW0]; exact (Below.refl w.heap.size w).alloc (Nat.le_refl _) _
  have hlo := low_of hp
  have hhi := high_of hp
  have hdt : t.depth ≤ 12 := by have := ht.depth_le; omega
  have hsh := lst_short hsr hdt
  have HC := Lib.hid (specListOf_tree hsr (src_three hsr) A c As ca B hn ht (ht.nums (pipeOk_iff.1 hp)) hdt W0 (h.below hb0 hB) (hs.below hb0 hB) (Nat.le_trans hB hb0.size))
  have Hb0 := Lib.hid hb0
  have HW0 := Lib.hid hW0
  have hz0 := hb0.size
  have hi1 : ((l.length - 1 : Nat) : Int) = (l.length : Int) - 1 := by omega
  rw [hi1] at HC
  have hwr : IntKind.i64.wrap ((l.length : Int) - 1) = (l.length : Int) - 1 := IntWalk.i64_in _ (by omega)
  clear hb0 hW0 h hs hv hp hsr hi1
  go_enter Try.func36, Try.ntmps36
  go_wp2_with fail
  rw [← HW0.out]
  refine HC.out.mono ?_
  rintro e w1 ⟨R, cR, rfl, ho, hb1⟩
  have hz1 := hb1.size
  have Ho := Lib.hid ho
  have Hb1 := Lib.hid (Hb0.out.trans (hb1.mono hz0))
  clear ho hb1 HC
  go_wp2_with fail
  refine (specCopyInts_any R cR (lst src t) w1 w1.heap.size Ho.out.rd (Nat.le_refl _) (by omega)).mono ?_
  rintro e w2 ⟨R2, c2, rfl, ho2, hb2⟩
  have Ho2 := Lib.hid (ho2.base_ (Nat.le_trans hz0 hz1))
  have Hb2 := Lib.hid (Hb1.out.trans (hb2.mono (Nat.le_trans hz0 hz1)))
  clear ho2 hb2
  go_wp2_with fail
  go_ret
  exact ⟨R2, c2, rfl, Ho2.out, Hb2.out⟩

set_option maxRecDepth 100000 in
set_option maxHeartbeats 1600000 in
theorem specListOf_any (A : Option Addr) (c : Nat) (l : List Nd) (As : Option Addr) (ca : Nat) (src : List (List Int)) (w : World) (B : Nat) (q : List Int) (hq : Hid (ListOfq l src q)) (h : RdN w B A l) (hs : RdR w B As src) (hB : B ≤ w.heap.size) (hn : l.length ≤ 1048576) (hns : src.length ≤ 1048576) (hm : Hid (∀ r ∈ src, r.length ≤ 1048576)) :
    Calls Try.prog 11 #[.agg #[.slice A l.length c], .slice As src.length ca] w fun e w' => ∃ A' c', e = .returned (.slice A' q.length c') ∧ OwnI w' w.heap.size w'.heap.size A' q ∧ Below w.heap.size w w' := by
  obtain ⟨W0, hW0⟩ : ∃ W0 : World, W0 = w.alloc (.cells #[.slice A l.length c] 32) := ⟨_, rfl⟩
  have hb0 : Below w.heap.size w W0 := by rw [hW0]; exact (Below.refl w.heap.size w).alloc (Nat.le_refl _) _
  have hx0 : Bk W0 w.heap.size 32 [.slice A l.length c] := by rw [hW0]; exact Bk.new _ _ [_]
  have H0 := Lib.hid (h.below hb0 hB)
  have Hs0 := Lib.hid (hs.below hb0 hB)
  have Hb0 := Lib.hid hb0
  have Hx0 := Lib.hid hx0
  have HW0 := Lib.hid hW0
  have hz0 := hb0.size
  clear h hs hb0 hx0 hW0
  go_enter Try.func11, Try.ntmps11
  go_wp2_with fail
  rw [← HW0.out]
  refine (specvalidInput_any A c l As ca src W0 B H0.out Hs0.out (by omega) hn hns hm).mono ?_
  rintro e w1 ⟨rfl, hb1⟩
  have Hb1 := Lib.hid (Hb0.out.trans (hb1.mono hz0))
  have Hx1 := Lib.hid (Hx0.out.below hb1 Hx0.out.lt)
  have H1 := Lib.hid (H0.out.below hb1 (by omega))
  have Hs1 := Lib.hid (Hs0.out.below hb1 (by omega))
  have hc1 : w1.cell? ⟨w.heap.size, 0, none⟩ = some (.slice A l.length c) := Hx1.out.cell 0
  have hz1 := Hb1.out.size
  clear hb1
  cases hv : (pipeOk l && srcOk src)
  · obtain rfl := hq.out.no hv
    have Hv := Lib.hid hv
    clear hv
    go_wp2_with fail
    go_ret
    exact ⟨none, 0, rfl, fun h => absurd h (by simp), Hb1.out⟩
  obtain ⟨t, ht⟩ := tree_of_pipe (Bool.and_eq_true_iff.1 hv).1
  have hqq := hq.out.yes hv ht
  subst hqq
  have HC := Lib.hid (specAll_any A c l As ca src w1 B hv ht H1.out Hs1.out (by omega) hn)
  have Hv := Lib.hid hv
  clear hv ht hq
  go_wp2_with fail
  refine HC.out.mono ?_
  rintro e w2 ⟨R, cR, rfl, ho, hb2⟩
  have Ho := Lib.hid (ho.ownI.wide hz1 (Nat.le_refl _))
  have Hb2 := Lib.hid (Hb1.out.trans (hb2.mono hz1))
  clear ho hb2
  go_wp2_with fail
  go_ret
  exact ⟨R, cR, rfl, Ho.out, Hb2.out⟩

end Go.Proofs.Ytkjhncohanfciaa


/- Contracts: the list of a pipe, by the program. -/
namespace Go.Proofs.Ytkjhncohanfciaa
open Go.RowKit Go.Sort

set_option maxRecDepth 100000 in
set_option maxHeartbeats 1600000 in
theorem implListOf_any (hBat : BatchOk) (A : Option Addr) (c : Nat) (l : List Nd) (As : Option Addr) (ca : Nat) (src : List (List Int)) (w : World) (B : Nat) (q : List Int) (hq : Hid (ListOfq l src q)) (h : RdN w B A l) (hs : RdR w B As src) (hB : B ≤ w.heap.size) (hn : l.length ≤ 1048576) (hns : src.length ≤ 1048576) (hm : Hid (∀ r ∈ src, r.length ≤ 1048576)) :
    Calls Try.prog 14 #[.agg #[.slice A l.length c], .slice As src.length ca] w fun e w' => ∃ A' c', e = .returned (.slice A' q.length c') ∧ OwnI w' w.heap.size w'.heap.size A' q ∧ Below w.heap.size w w' := by
  obtain ⟨W0, hW0⟩ : ∃ W0 : World, W0 = w.alloc (.cells #[.slice A l.length c] 32) := ⟨_, rfl⟩
  have hb0 : Below w.heap.size w W0 := by rw [hW0]; exact (Below.refl w.heap.size w).alloc (Nat.le_refl _) _
  have hx0 : Bk W0 w.heap.size 32 [.slice A l.length c] := by rw [hW0]; exact Bk.new _ _ [_]
  have H0 := Lib.hid (h.below hb0 hB)
  have Hs0 := Lib.hid (hs.below hb0 hB)
  have Hb0 := Lib.hid hb0
  have Hx0 := Lib.hid hx0
  have HW0 := Lib.hid hW0
  have HBat := Lib.hid hBat
  have hz0 := hb0.size
  clear h hs hb0 hx0 hW0 hBat
  go_enter Try.func14, Try.ntmps14
  go_wp2_with fail
  rw [← HW0.out]
  refine (implValidPipe_any A c l W0 B H0.out (by omega) hn).mono ?_
  rintro e w1 ⟨rfl, hb1⟩
  have Hb1 := Lib.hid (Hb0.out.trans (hb1.mono hz0))
  have Hx1 := Lib.hid (Hx0.out.below hb1 Hx0.out.lt)
  have H1 := Lib.hid (H0.out.below hb1 (by omega))
  have Hs1 := Lib.hid (Hs0.out.below hb1 (by omega))
  have hc1 : w1.cell? ⟨w.heap.size, 0, none⟩ = some (.slice A l.length c) := Hx1.out.cell 0
  have hz1 := Hb1.out.size
  clear hb1
  cases hv : pipeOk l
  · obtain rfl := hq.out.no (by rw [hv]; rfl)
    have Hv := Lib.hid hv
    clear hv
    go_wp2_with fail
    go_ret
    exact ⟨none, 0, rfl, fun h => absurd h (by simp), Hb1.out⟩
  have Hv := Lib.hid hv
  clear hv
  go_wp2_with fail
  refine (implValidSources_any As ca src w1 B Hs1.out hns hm.out).mono ?_
  rintro e w2 ⟨rfl, rfl⟩
  cases hvs : srcOk src
  · obtain rfl := hq.out.no (by rw [hvs, Bool.and_false])
    have Hvs := Lib.hid hvs
    clear hvs
    go_wp2_with fail
    go_ret
    exact ⟨none, 0, rfl, fun h => absurd h (by simp), Hb1.out⟩
  obtain ⟨t, ht⟩ := tree_of_pipe Hv.out
  have hqq := hq.out.yes (by rw [Hv.out, hvs]; rfl) ht
  subst hqq
  have hlo := low_of Hv.out
  have hhi := high_of Hv.out
  have hdt : t.depth ≤ 12 := by have := ht.depth_le; omega
  have HT := Lib.hid (treeOf_any (Lib.hid ht) A c w1 B H1.out (by omega) hlo hn)
  have HL : Hid (∀ W, Below w1.heap.size w1 W → Calls Try.prog 41 #[tv t, .slice As src.length ca] W fun e w' => ∃ R cR, e = .returned (.slice R (lst src t).length cR) ∧ OwnV w' W.heap.size R cR (lst src t) ∧ Below W.heap.size W w') :=
    Lib.hid (fun W hb => implListOf_tree HBat.out hvs (src_three hvs) As ca B ht (ht.nums (pipeOk_iff.1 Hv.out)) hdt W (Hs1.out.below hb (by omega)) (by have := hb.size; omega))
  have Hvs := Lib.hid hvs
  obtain ⟨ty, v, htv⟩ := tv_iface t
  rw [htv] at HT HL
  clear hvs ht hq htv
  go_wp2_with fail
  refine HT.out.mono ?_
  rintro e w2 ⟨rfl, hb2⟩
  have Hb2 := Lib.hid hb2
  have hz2 := hb2.size
  clear hb2
  go_wp2_with fail
  refine (HL.out w2 Hb2.out).mono ?_
  rintro e w3 ⟨R, cR, rfl, ho, hb3⟩
  have Ho := Lib.hid (ho.ownI.wide (lo2 := w.heap.size) (by omega) (Nat.le_refl _))
  have Hb3 := Lib.hid (Hb1.out.trans ((Hb2.out.trans (hb3.mono hz2)).mono hz1))
  clear ho hb3
  go_wp2_with fail
  go_ret
  exact ⟨R, cR, rfl, Ho.out, Hb3.out⟩

end Go.Proofs.Ytkjhncohanfciaa

/- A range over a function, with no word on what the iterator may write: the iterator's run and the rounds are told together. -/
namespace Go.Proofs.Ytkjhncohanfciaa
open Go.RowKit

/-- How the body of a round may be left. -/
def freePost (l D : Nat) (Rdy : World → Prop) (Dn : Code → World → Prop) (R : Ending → World → Prop) (Wb : World) : Exit → Act → World → Prop
  | .normal, _, W' => W'.heap[l]? = Wb.heap[l]? ∧ W'.heap[D]? = Wb.heap[D]? ∧ ∀ o : Obj, o.isCells = false → Rdy (W'.putObj l o) → R (.returned (.bool true)) (W'.putObj l o)
  | .ret, _, W' => W'.heap[l]? = Wb.heap[l]? ∧ W'.heap[D]? = Wb.heap[D]? ∧ ∀ o : Obj, o.isCells = false → Dn .ret (W'.putObj l o) → R (.returned (.bool false)) (W'.putObj l o)
  | .exit id, _, W' => W'.heap[l]? = Wb.heap[l]? ∧ W'.heap[D]? = Wb.heap[D]? ∧ ∀ o : Obj, o.isCells = false → Dn (.exit id) (W'.putObj l o) → R (.returned (.bool false)) (W'.putObj l o)
  | .goto t, _, W' => W'.heap[l]? = Wb.heap[l]? ∧ W'.heap[D]? = Wb.heap[D]? ∧ ∀ o : Obj, o.isCells = false → Dn (.goto t) (W'.putObj l o) → R (.returned (.bool false)) (W'.putObj l o)
  | .panic _, _, _ => False
  | .outgrown, _, _ => False

/-- How the iterator may end. -/
def freeEnd (F : Fence) (n : Nat) (P : Program) (l D : Nat) (Q : Exit → Act → World → Prop) (a : Act) (Rdy : World → Prop) (Dn : Code → World → Prop) (e : Ending) (W' : World) : Prop :=
  (∃ v, e = .returned v) ∧
    ((Rdy W' ∧ ∀ o : Obj, o.isCells = false → (W'.putObj l o).heap[D]? = some (.deferred (some [])) → Q .normal { a with defers := { target := .collected D, args := #[] } :: a.defers } (W'.putObj l o)) ∨
     (∃ c, Dn c W' ∧ ∀ o : Obj, o.isCells = false → (W'.putObj l o).heap[D]? = some (.deferred (some [])) → c.wpIn F n P Q { a with defers := { target := .collected D, args := #[] } :: a.defers } (W'.putObj l o)))

theorem wpIn_rangeFunc_free {α : Type} {F : Fence} {n : Nat} {P : Program} {g : Operand} {ps : Array Tmp} {assign body : Code} {Q : Exit → Act → World → Prop} {a : Act} {w : World}
    (hro : F.round = none) (h1 : 1 ≤ n) {gf : Nat} {lb : Array Value} (hg : a.eval g = .func (.func gf) #[] lb) (hFg : F.fn gf) (eg : ∀ args w, (callFunc gf args).run P w = .ok (.enter gf args) w)
    {encs : α → Array Value} (hps : ∀ x, (encs x).size = ps.size) (a₁ : α → Act)
    (hassign : ∀ (l : Nat) (x : α) (W : World) (K : Act → World → Prop), K (a₁ x) W →
      assign.wpIn (F.inRound l) (n - 1 - 1) P (Exit.then K (fun _ _ _ => False)) { tmps := (ps.zip (encs x)).foldl (fun t (p, v) => t.setIfInBounds p v) a.tmps, defers := [] } W)
    (hiter : ∀ (l D : Nat) (W1 : World) (Rdy : World → Prop) (Dn : Code → World → Prop),
      D = w.heap.size → l = w.heap.size + 1 → W1.heap.size = w.heap.size + 2 → Below w.heap.size w W1 → Rdy W1 →
      (∀ W, Rdy W → (∃ o : Obj, W.heap[l]? = some o ∧ o.isCells = false) ∧ W.heap[D]? = some (.deferred (some []))) →
      (∀ W W', Rdy W → W'.heap[l]? = W.heap[l]? → W'.heap[D]? = W.heap[D]? → Rdy W') →
      (∀ c W W', Dn c W → W'.heap[l]? = W.heap[l]? → W'.heap[D]? = W.heap[D]? → Dn c W') →
      (∀ (x : α) (W : World) (R : Ending → World → Prop), Rdy W →
        (∀ o : Obj, o.isCells = false → (W.putObj l o).heap[l]? = some o → (W.putObj l o).heap[D]? = some (.deferred (some [])) → body.wpIn (F.inRound l) (n - 1 - 1) P (freePost l D Rdy Dn R (W.putObj l o)) (a₁ x) (W.putObj l o)) →
        YieldAt F (n - 1 - 1) P l (encs x) W R) →
      CallsIn F (n - 1) P gf (#[.func (.yield l) #[] #[]] ++ lb) W1 (freeEnd F n P l D Q a Rdy Dn)) :
    (Code.rangeFunc g ps assign body).wpIn F n P Q a w := by
  refine wpIn_rangeFunc ?_
  intro fn hfn
  rw [hro]
  obtain ⟨rec, hrec⟩ : ∃ rec : LoopState → Option Code → Loop, rec = fun st pe => { state := st, pending := pe, fn, tmps := a.tmps, params := ps, assign, body, defers := w.heap.size } := ⟨_, rfl⟩
  obtain ⟨W1, hW1⟩ : ∃ W1, (w.alloc (.deferred (some []))).alloc (.loop (rec .ready none)) = W1 := ⟨_, rfl⟩
  have hL1 : W1.heap[w.heap.size + 1]? = some (.loop (rec .ready none)) := by
    rw [← hW1]; have := World.alloc_heap_new (w.alloc (.deferred (some []))) (.loop (rec .ready none)); rwa [World.size_alloc] at this
  have hK1 : W1.heap[w.heap.size]? = some (.deferred (some [])) := by
    rw [← hW1]; exact (Below.heap_alloc _ _ _ (by simp)).trans (World.alloc_heap_new w _)
  have hb1 : Below w.heap.size w W1 := by
    rw [← hW1]; exact ((Below.refl _ w).alloc (Nat.le_refl _) _).alloc (by simp) _
  refine ⟨w.heap.size + 1, [{ target := .collected w.heap.size, args := #[] }], W1, { target := .fn (.func gf) lb, args := #[.func (.yield (w.heap.size + 1)) #[] #[]] }, W1, gf,
    #[.func (.yield (w.heap.size + 1)) #[] #[]] ++ lb, W1, ?_, ?_, ?_, ?_, fun _ => h1, ?_⟩
  · rw [← hW1, hrec]; exact run_enterLoop_outer _ _ _ _ _
  · simp only [resolve, hg]
    simp [go_sem]
  · intro f' hf'; simp [Target.leads] at hf'; subst hf'; exact hFg
  · simp [invoke, go_sem, eg]
  · refine (hiter (w.heap.size + 1) w.heap.size W1
      (fun W => W.heap[w.heap.size + 1]? = some (.loop (rec .ready none)) ∧ W.heap[w.heap.size]? = some (.deferred (some [])))
      (fun c W => W.heap[w.heap.size + 1]? = some (.loop (rec .done (some c))) ∧ W.heap[w.heap.size]? = some (.deferred (some [])))
      rfl rfl (by rw [← hW1]; simp) hb1 ⟨hL1, hK1⟩
      (fun W h => ⟨⟨_, h.1, rfl⟩, h.2⟩)
      (fun W W' h e1 e2 => ⟨e1.trans h.1, e2.trans h.2⟩)
      (fun c W W' h e1 e2 => ⟨e1.trans h.1, e2.trans h.2⟩)
      ?_).mono ?_
    · -- ONE ROUND
      rintro x W R ⟨hl, hk⟩ hbody
      have hlt : w.heap.size + 1 < W.heap.size := (Array.getElem?_eq_some_iff.1 hl).1
      have hy := run_yield (P := P) (args := encs x) hl (by rw [hrec]; exact hps x)
      rw [hrec] at hy
      refine ⟨fn, _, assign, body, hy, roundIn_of_wpIn hfn (hassign _ x W _ ⟨_, run_beginRound hl (by rw [hrec]), ?_⟩)⟩
      have hl2 : (W.putObj (w.heap.size + 1) (.loop { rec .ready none with state := .busy })).heap[w.heap.size + 1]? = some (.loop { rec .ready none with state := .busy }) := World.putObj_heap_same hlt
      have hk2 : (W.putObj (w.heap.size + 1) (.loop { rec .ready none with state := .busy })).heap[w.heap.size]? = some (.deferred (some [])) := (World.putObj_heap_other (by omega)).trans hk
      refine wpIn_mono (hbody _ rfl hl2 hk2) ?_
      have fin : ∀ (jump : Option Code) (W3 : World), W3.heap[w.heap.size + 1]? = (W.putObj (w.heap.size + 1) (.loop { rec .ready none with state := .busy })).heap[w.heap.size + 1]? →
          W3.heap[w.heap.size]? = (W.putObj (w.heap.size + 1) (.loop { rec .ready none with state := .busy })).heap[w.heap.size]? →
          (Instr.endRound (w.heap.size + 1) jump).run P W3 = .ok (.bool jump.isNone) (W3.putObj (w.heap.size + 1) (.loop (rec (if jump.isNone then .ready else .done) jump))) ∧
          (W3.putObj (w.heap.size + 1) (.loop (rec (if jump.isNone then .ready else .done) jump))).heap[w.heap.size + 1]? = some (.loop (rec (if jump.isNone then .ready else .done) jump)) ∧
          (W3.putObj (w.heap.size + 1) (.loop (rec (if jump.isNone then .ready else .done) jump))).heap[w.heap.size]? = some (.deferred (some [])) := fun jump W3 h3 h4 => by
        have hl3 := h3.trans hl2
        have := run_endRound (P := P) jump hl3
        rw [hrec] at this ⊢
        exact ⟨this, World.putObj_heap_same (Array.getElem?_eq_some_iff.1 hl3).1, (World.putObj_heap_other (by omega)).trans (h4.trans hk2)⟩
      rintro e a3 W3 hp
      cases e with
      | normal =>
        obtain ⟨h3, h4, hr3⟩ := hp
        obtain ⟨hr, hl4, hk4⟩ := fin none W3 h3 h4
        exact ⟨_, _, hr, hr3 _ rfl ⟨hl4, hk4⟩⟩
      | ret =>
        obtain ⟨h3, h4, hr3⟩ := hp
        obtain ⟨hr, hl4, hk4⟩ := fin (some .ret) W3 h3 h4
        exact ⟨_, _, hr, hr3 _ rfl ⟨hl4, hk4⟩⟩
      | exit id =>
        obtain ⟨h3, h4, hr3⟩ := hp
        obtain ⟨hr, hl4, hk4⟩ := fin (some (.exit id)) W3 h3 h4
        exact ⟨_, _, hr, hr3 _ rfl ⟨hl4, hk4⟩⟩
      | goto t =>
        obtain ⟨h3, h4, hr3⟩ := hp
        obtain ⟨hr, hl4, hk4⟩ := fin (some (.goto t)) W3 h3 h4
        exact ⟨_, _, hr, hr3 _ rfl ⟨hl4, hk4⟩⟩
      | panic ch => exact hp.elim
      | outgrown => exact hp.elim
    · -- BEHIND THE ITERATOR
      rintro e W2 ⟨⟨v, rfl⟩, (⟨⟨hl, hk⟩, hQ⟩ | ⟨c, ⟨hl, hk⟩, hQ⟩)⟩
      · have hend := run_endLoop (P := P) hl (by rw [hrec]; simp)
        refine ⟨none, _, by rw [hrec] at hend; exact hend, hQ _ rfl ?_⟩
        exact (World.putObj_heap_other (by omega)).trans hk
      · have hend := run_endLoop (P := P) hl (by rw [hrec]; simp)
        refine ⟨some c, _, by rw [hrec] at hend; exact hend, hQ _ rfl ?_⟩
        exact (World.putObj_heap_other (by omega)).trans hk

end Go.Proofs.Ytkjhncohanfciaa
