/- Texts on the program and its reference, put together (ListM, Held, PB, PX, Copy, Hld, IntA). -/
import Derived.Test.YtkjhncohanfciaaMc5F
import Derived.Test.YtkjhncohanfciaaMc5A
import Derived.Test.YtkjhncohanfciaaMc5B
import Derived.Deep.QuietTactic
import Derived.BigQuiet
import Derived.OwnWalk
/- Plain mathematics: the list of a pipe, node by node. -/
namespace Go.Proofs.Ytkjhncohanfciaa
open Go.Lib

/-- Numbers that items can be. -/
def Items (l : List Int) : Prop := ∀ x ∈ l, 0 ≤ x ∧ x ≤ 99
/-- What stays of a sum or product. -/
def rst (x : Int) : Int := Int.tmod x 100
theorem rst_in {x : Int} (h : 0 ≤ x) : 0 ≤ rst x ∧ rst x ≤ 99 := by
  unfold rst
  rw [Int.tmod_eq_emod_of_nonneg h]
  omega
theorem Items.get {l : List Int} (h : Items l) {k : Nat} {x : Int} (hx : l[k]? = some x) : 0 ≤ x ∧ x ≤ 99 := h x (List.mem_of_getElem? hx)
theorem Items.nil_ : Items [] := fun _ h => absurd h (by simp)
theorem Items.app {a b : List Int} (ha : Items a) (hb : Items b) : Items (a ++ b) := fun x hx => (List.mem_append.1 hx).elim (ha x) (hb x)
theorem Items.sub {a b : List Int} (ha : Items a) (h : ∀ x ∈ b, x ∈ a) : Items b := fun x hx => ha x (h x hx)
theorem Items.take {a : List Int} (ha : Items a) (n : Nat) : Items (a.take n) := ha.sub fun _ => List.mem_of_mem_take
theorem Items.drop {a : List Int} (ha : Items a) (n : Nat) : Items (a.drop n) := ha.sub fun _ => List.mem_of_mem_drop
theorem drop_cons_of {l : List Int} {i : Nat} {x : Int} (h : l[i]? = some x) : l.drop i = x :: l.drop (i + 1) := by
  obtain ⟨hi, rfl⟩ := List.getElem?_eq_some_iff.1 h
  exact List.drop_eq_getElem_cons hi

/-- The index of the first number that is at least n. -/
def frst : List Int → Int → Nat
  | [], _ => 0
  | x :: l, n => if x < n then frst l n + 1 else 0
theorem frst_le : ∀ (l : List Int) (n : Int), frst l n ≤ l.length
  | [], _ => by simp [frst]
  | x :: l, n => by
    have := frst_le l n
    simp only [frst, List.length_cons]
    split <;> omega
theorem frst_step {l : List Int} {i : Nat} {x n : Int} (h : l[i]? = some x) (hx : x < n) : frst (l.drop i) n = frst (l.drop (i + 1)) n + 1 := by
  rw [drop_cons_of h, frst, if_pos hx]
theorem frst_stop {l : List Int} {i : Nat} {x n : Int} (h : l[i]? = some x) (hx : ¬ x < n) : frst (l.drop i) n = 0 := by
  rw [drop_cons_of h, frst, if_neg hx]
theorem frst_end {l : List Int} {i : Nat} (n : Int) (h : l.length ≤ i) : frst (l.drop i) n = 0 := by
  rw [List.drop_eq_nil_of_le h, frst]

/-- The sums of the numbers at equal places. -/
def zipL (a b : List Int) : List Int := List.zipWith (fun x y => rst (x + y)) a b
theorem zipL_len (a b : List Int) : (zipL a b).length = min a.length b.length := List.length_zipWith
theorem zipL_get {a b : List Int} {i : Nat} {x y : Int} (hx : a[i]? = some x) (hy : b[i]? = some y) : (zipL a b)[i]? = some (rst (x + y)) := by
  simp [zipL, List.getElem?_zipWith, hx, hy]
theorem zipL_items {a b : List Int} (ha : Items a) (hb : Items b) : Items (zipL a b) := fun z hz => by
  obtain ⟨i, hi⟩ := List.mem_iff_getElem?.1 hz
  have hl := (List.getElem?_eq_some_iff.1 hi).1
  rw [zipL_len] at hl
  obtain ⟨x, hx⟩ := get_of_lt a (k := i) (by omega)
  obtain ⟨y, hy⟩ := get_of_lt b (k := i) (by omega)
  rw [zipL_get hx hy] at hi
  obtain rfl := Option.some.inj hi
  have := ha.get hx
  have := hb.get hy
  exact rst_in (by omega)

/-- The first i numbers of each list, by turns. -/
def turnTo (a b : List Int) : Nat → List Int
  | 0 => []
  | i + 1 => turnTo a b i ++ a[i]?.toList ++ b[i]?.toList
/-- The numbers of both lists by turns. -/
def turnL (a b : List Int) : List Int := turnTo a b (max a.length b.length)
theorem turnTo_len (a b : List Int) : ∀ i, (turnTo a b i).length ≤ 2 * i
  | 0 => by simp [turnTo]
  | i + 1 => by
    have := turnTo_len a b i
    have h1 : a[i]?.toList.length ≤ 1 := by cases a[i]? <;> simp
    have h2 : b[i]?.toList.length ≤ 1 := by cases b[i]? <;> simp
    simp only [turnTo, List.length_append]
    omega
theorem turnTo_items {a b : List Int} (ha : Items a) (hb : Items b) : ∀ i, Items (turnTo a b i)
  | 0 => Items.nil_
  | i + 1 => ((turnTo_items ha hb i).app (fun x hx => ha.get (k := i) (by simpa using hx))).app (fun x hx => hb.get (k := i) (by simpa using hx))
theorem turnTo_len_eq (a b : List Int) : ∀ i, (turnTo a b i).length = min i a.length + min i b.length
  | 0 => by simp [turnTo]
  | i + 1 => by
    have := turnTo_len_eq a b i
    simp only [turnTo, List.length_append]
    by_cases h1 : i < a.length <;> by_cases h2 : i < b.length
    · simp [h1, h2]; omega
    · simp [h1, h2]; omega
    · simp [h1, h2]; omega
    · simp [h1, h2]; omega
theorem turnL_len (a b : List Int) : (turnL a b).length = a.length + b.length := by
  rw [turnL, turnTo_len_eq]; omega

/-- Both lists merged by their first numbers. -/
def mergeL (a b : List Int) : List Int := List.merge a b (fun x y => decide (x ≤ y))
theorem mergeL_len (a b : List Int) : (mergeL a b).length = a.length + b.length := List.length_merge _ a b
theorem mergeL_nil (a : List Int) : mergeL a [] = a := by simp [mergeL]
theorem nil_mergeL (b : List Int) : mergeL [] b = b := by simp [mergeL]
theorem mergeL_left {a b : List Int} {x y : Int} (h : x ≤ y) : mergeL (x :: a) (y :: b) = x :: mergeL a (y :: b) := by
  unfold mergeL; rw [List.cons_merge_cons, if_pos (by simpa using h)]
theorem mergeL_right {a b : List Int} {x y : Int} (h : ¬ x ≤ y) : mergeL (x :: a) (y :: b) = y :: mergeL (x :: a) b := by
  unfold mergeL; rw [List.cons_merge_cons, if_neg (by simpa using h)]
theorem mergeL_items {a b : List Int} (ha : Items a) (hb : Items b) : Items (mergeL a b) := fun x hx => by
  rcases (List.mem_merge.1 hx) with h | h
  · exact ha x h
  · exact hb x h

/-- n times each number and m more. -/
def mapL (n m : Int) (l : List Int) : List Int := l.map fun x => rst (n * x + m)
/-- The numbers whose rest is m. -/
def filL (n m : Int) (l : List Int) : List Int := l.filter fun x => Int.tmod x n == m
/-- The sum of the numbers and s. -/
def sumL (s : Int) (l : List Int) : Int := l.foldl (fun s x => rst (s + x)) s
/-- The running sums behind s. -/
def scanL (s : Int) : List Int → List Int
  | [] => []
  | x :: l => rst (s + x) :: scanL (rst (s + x)) l
theorem sumL_in {s : Int} (hs : 0 ≤ s ∧ s ≤ 99) : ∀ {l : List Int}, Items l → 0 ≤ sumL s l ∧ sumL s l ≤ 99 := by
  intro l
  induction l generalizing s with
  | nil => intro _; exact hs
  | cons x l ih =>
    intro h
    have hx := h x (by simp)
    exact ih (rst_in (by omega)) (fun y hy => h y (by simp [hy]))
theorem sumL_succ {l : List Int} {i : Nat} {x : Int} (s : Int) (h : l[i]? = some x) : sumL s (l.take (i + 1)) = rst (sumL s (l.take i) + x) := by
  unfold sumL
  rw [take_succ_of h, List.foldl_append]
  rfl
theorem scanL_len : ∀ (l : List Int) (s : Int), (scanL s l).length = l.length
  | [], _ => rfl
  | x :: l, s => by simp [scanL, scanL_len l]
theorem scanL_app (l : List Int) (x s : Int) : scanL s (l ++ [x]) = scanL s l ++ [rst (sumL s l + x)] := by
  induction l generalizing s with
  | nil => rfl
  | cons y l ih => simp only [List.cons_append, scanL, ih, sumL, List.foldl_cons]
theorem scanL_succ {l : List Int} {i : Nat} {x : Int} (s : Int) (h : l[i]? = some x) : scanL s (l.take (i + 1)) = scanL s (l.take i) ++ [sumL s (l.take (i + 1))] := by
  rw [take_succ_of h, scanL_app]
  congr 2
  unfold sumL
  rw [List.foldl_append]
  rfl
theorem scanL_items {s : Int} (hs : 0 ≤ s) : ∀ {l : List Int}, Items l → Items (scanL s l) := by
  intro l
  induction l generalizing s with
  | nil => intro _; exact Items.nil_
  | cons x l ih =>
    intro h y hy
    have hx := h x (by simp)
    have hr := rst_in (x := s + x) (by omega)
    rcases List.mem_cons.1 hy with e | e
    · rw [e]; exact hr
    · exact ih hr.1 (fun z hz => h z (by simp [hz])) y e
theorem mapL_succ {l : List Int} {i : Nat} {x : Int} (n m : Int) (h : l[i]? = some x) : mapL n m (l.take (i + 1)) = mapL n m (l.take i) ++ [rst (n * x + m)] := by
  unfold mapL; rw [take_succ_of h, List.map_append]; rfl
theorem mapL_len (n m : Int) (l : List Int) : (mapL n m l).length = l.length := List.length_map _
theorem mapL_items {n m : Int} {l : List Int} (hn : 0 ≤ n) (hm : 0 ≤ m) (h : Items l) : Items (mapL n m l) := fun y hy => by
  obtain ⟨x, hx, rfl⟩ := List.mem_map.1 hy
  have := Int.mul_nonneg hn (h x hx).1
  exact rst_in (by omega)
theorem filL_succ {l : List Int} {i : Nat} {x : Int} (n m : Int) (h : l[i]? = some x) : filL n m (l.take (i + 1)) = filL n m (l.take i) ++ (if Int.tmod x n == m then [x] else []) := by
  unfold filL; rw [take_succ_of h, List.filter_append]
  congr 1
  by_cases e : (Int.tmod x n == m) = true <;> simp [e]
theorem filL_len (n m : Int) (l : List Int) : (filL n m l).length ≤ l.length := List.length_filter_le _ _
theorem filL_items {n m : Int} {l : List Int} (h : Items l) : Items (filL n m l) := h.sub fun _ hx => (List.mem_filter.1 hx).1

/-- The sums of the groups of the first i numbers, as they are made. -/
def batTo (n : Nat) (a : List Int) : Nat → List Int
  | 0 => []
  | i + 1 =>
    let o := if i % n = 0 then batTo n a i ++ [0] else batTo n a i
    o.set (o.length - 1) (rst (o.getD (o.length - 1) 0 + a.getD i 0))
theorem batTo_len (n : Nat) (a : List Int) : ∀ i, (batTo n a i).length ≤ i
  | 0 => by simp [batTo]
  | i + 1 => by
    have := batTo_len n a i
    simp only [batTo, List.length_set]
    split
    · simp; omega
    · omega
theorem batTo_pos {n : Nat} (hn : 0 < n) (a : List Int) : ∀ i, 0 < i → 0 < (batTo n a i).length
  | 0, h => absurd h (by omega)
  | i + 1, _ => by
    simp only [batTo, List.length_set]
    split
    · simp
    · rename_i h0
      refine batTo_pos hn a i (Nat.pos_of_ne_zero fun e => h0 ?_)
      rw [e, Nat.zero_mod]
/-- The sums of groups of n. -/
def batL (n : Nat) (a : List Int) : List Int := batTo n a a.length

end Go.Proofs.Ytkjhncohanfciaa

/- Contracts: marks in nodes are read again; marks in pipes. -/
namespace Go.Proofs.Ytkjhncohanfciaa
open Go.RowKit

set_option maxHeartbeats 1600000 in
theorem heldNodeS_any (A : Option Addr) (c n : Nat) (k : Int) (w : World) (B : Nat) (h : RdN w B A (mkN n k)) (hn : n ≤ 1048576) (hk0 : 0 ≤ k) (hk1 : k ≤ 16777216) :
    Calls Try.prog 49 #[.slice A n c, .int .i64 k] w fun e w' => e = .returned (.int .i64 (k + 5 * n)) ∧ w = w' := by
  have Hh := Lib.hid h
  clear h
  go_enter Try.func49, Try.ntmps49
  go_wp2
  go_loop [1, 5] (fun s i => ∃ j : Nat, j ≤ n ∧ i = .int .i64 j ∧ ∃ m : Int, m = k + 5 * j ∧ s = .int .i64 m) (fun _ i => n - (intOf i).toNat)
  case atStart => exact ⟨0, Nat.zero_le _, rfl, k, by simp, rfl⟩
  case round =>
    obtain ⟨j, hj, rfl, m, hm, rfl⟩ := hrel
    have hm0 : 0 ≤ m := by omega
    have hm1 : m ≤ 33554432 := by omega
    by_cases hlt : j < n
    · obtain ⟨b, o, x, rfl, hbB, hx, hc⟩ := Hh.out.at_ (k := j) (by rw [mkN_len]; exact hlt)
      rw [mkN_get hlt] at hx
      obtain rfl := Option.some.inj hx
      obtain ⟨c0, c1, c2, c3, c4⟩ := hc
      simp only [← hm] at c0 c1 c2 c3 c4
      have Hm := Lib.hid hm
      clear hm hx
      go_wp2
      go_round
      case rel => exact ⟨j + 1, by omega, by go_num, _, by rw [Hm.out]; omega, rfl⟩
      case measure => simp [intOf]; omega
    · obtain rfl : j = n := by omega
      have Hm := Lib.hid hm
      clear hm
      go_wp2
      go_ret
      exact ⟨ret_int (by rw [Hm.out]), rfl⟩

set_option maxHeartbeats 800000 in
theorem heldPipe_any (A : Option Addr) (c n : Nat) (k : Int) (w : World) (B : Nat) (h : RdN w B A (mkN n k)) (hB : B ≤ w.heap.size) (hn : n ≤ 1048576) (hk0 : 0 ≤ k) (hk1 : k ≤ 16777216) :
    Calls Try.prog 28 #[.agg #[.slice A n c], .int .i64 k] w fun e w' => e = .returned (.int .i64 (k + 5 * n)) ∧ Below w.heap.size w w' := by
  have hb0 := (Below.refl w.heap.size w).alloc (Nat.le_refl _) (.cells #[.slice A n c] 32)
  have Hh := Lib.hid (h.below hb0 hB)
  have Hb0 := Lib.hid hb0
  have hpos : (0 : Int) ≤ k + 5 * n := by omega
  clear h hb0
  go_enter Try.func28, Try.ntmps28
  go_wp2_with fail
  refine (heldNodeS_any A c n k _ B Hh.out hn hk0 hk1).mono ?_
  rintro e w1 ⟨rfl, rfl⟩
  go_wp2_with fail
  go_ret
  exact ⟨rfl, Hb0.out⟩

set_option maxHeartbeats 800000 in
theorem markPipe_any (A : Option Addr) (c : Nat) (l : List Nd) (k : Int) (w : World) (base : Nat) (h : OwnN w base A c l) (hn : l.length ≤ 1048576) (hk0 : 0 ≤ k) (hk1 : k ≤ 16777216) :
    Calls Try.prog 18 #[.agg #[.slice A l.length c], .int .i64 k] w fun e w' => e = .returned (.int .i64 (k + 5 * l.length)) ∧ OwnN w' base A c (mkN l.length k) ∧ w.grownBy w' (rowOf A) := by
  have hb0 := (Below.refl w.heap.size w).alloc (Nat.le_refl _) (.cells #[.slice A l.length c] 32)
  have Hh := Lib.hid (h.below hb0 (Nat.le_refl _))
  have Hb0 := Lib.hid (World.grownBy_alloc w (.cells #[.slice A l.length c] 32) (rowOf A))
  clear h hb0
  go_enter Try.func18, Try.ntmps18
  go_wp2_with fail
  refine (markNodeS_any A c l k _ base Hh.out hn hk0 hk1).mono ?_
  rintro e w1 ⟨rfl, ho, hg⟩
  have Ho := Lib.hid ho
  have Hg := Lib.hid hg
  clear ho hg
  go_wp2_with fail
  go_ret
  exact ⟨rfl, Ho.out, ⟨Hg.out.os.trans Hb0.out.os, Hg.out.tape.trans Hb0.out.tape, Hg.out.output.trans Hb0.out.output, Nat.le_trans Hb0.out.size Hg.out.size, fun j hj hne => (Hg.out.block j (Nat.lt_of_lt_of_le hj Hb0.out.size) hne).trans (Hb0.out.block j hj hne)⟩⟩

end Go.Proofs.Ytkjhncohanfciaa

/- Boxes that hold pipes made by calls, through calls and through marks. -/
namespace Go.Proofs.Ytkjhncohanfciaa
open Go.RowKit

/-- The box bx holds a pipe, whose nodes l lie in memory of its own, from block base on and before the box. -/
structure PB (w : World) (bx base : Nat) (A : Option Addr) (c : Nat) (l : List Nd) : Prop where
  box : Bk w bx 32 [.slice A l.length c]
  own : OwnN w base A c l
  lt : ∀ g, rowOf A = some g → g < bx

/-- The box b0 holds a pipe, whose nodes l lie before it. -/
structure AB (w : World) (b0 : Nat) (A : Option Addr) (c : Nat) (l : List Nd) : Prop where
  box : Bk w b0 24 [.slice A l.length c]
  rd : RdN w b0 A l

section
variable {w w' : World} {bx base c b0 : Nat} {A : Option Addr} {l : List Nd}
theorem PB.below {C : Nat} (h : PB w bx base A c l) (hb : Below C w w') (hC : w.heap.size ≤ C) : PB w' bx base A c l := ⟨h.box.below hb (by have := h.box.lt; omega), h.own.below hb hC, h.lt⟩
theorem PB.drewN (h : PB w bx base A c l) (n : Nat) : PB (w.drewN n) bx base A c l := ⟨h.box.drewN n, h.own.drewN n, h.lt⟩
theorem PB.cell (h : PB w bx base A c l) : w.cell? ⟨bx, 0, none⟩ = some (.slice A l.length c) := h.box.cell 0
theorem AB.below {C : Nat} (h : AB w b0 A c l) (hb : Below C w w') (hC : b0 < C) : AB w' b0 A c l := ⟨h.box.below hb hC, h.rd.below hb (by omega)⟩
theorem AB.drewN (h : AB w b0 A c l) (n : Nat) : AB (w.drewN n) b0 A c l := ⟨h.box.drewN n, h.rd.drewN n⟩
theorem AB.cell (h : AB w b0 A c l) : w.cell? ⟨b0, 0, none⟩ = some (.slice A l.length c) := h.box.cell 0
variable {bx2 base2 c2 : Nat} {A2 : Option Addr} {l2 : List Nd}
theorem PB.mark_left (h : PB w bx base A c l) (k : PB w bx2 base2 A2 c2 l2) (hlt : bx < base2) (hg : w.grownBy w' (rowOf A2)) : PB w' bx base A c l := by
  refine ⟨h.box.grown hg fun e => ?_, h.own.grown hg ?_, h.lt⟩
  · have := (k.own.row_lt _ e.symm).1; omega
  · cases hA : rowOf A with
    | none => exact .inl rfl
    | some g =>
      refine .inr fun e => ?_
      have := (k.own.row_lt _ e.symm).1
      have := h.lt g hA
      omega
theorem PB.mark_right (h : PB w bx base A c l) (k : PB w bx2 base2 A2 c2 l2) (hlt : bx2 ≤ base) (hle : base ≤ bx) (hg : w.grownBy w' (rowOf A2)) : PB w' bx base A c l := by
  refine ⟨h.box.grown hg fun e => ?_, h.own.grown hg ?_, h.lt⟩
  · have := k.lt _ e.symm; omega
  · cases hA : rowOf A with
    | none => exact .inl rfl
    | some g =>
      refine .inr fun e => ?_
      have := k.lt _ e.symm
      have := (h.own.row_lt g hA).1
      omega
theorem PB.mark_self {m : List Nd} (h : PB w bx base A c l) (ho : OwnN w' base A c m) (hm : m.length = l.length) (hg : w.grownBy w' (rowOf A)) : PB w' bx base A c m :=
  ⟨by rw [hm]; exact h.box.grown hg (fun e => by have := h.lt _ e.symm; omega), ho, h.lt⟩
theorem AB.mark (h : AB w b0 A c l) (k : PB w bx2 base2 A2 c2 l2) (hlt : b0 < base2) (hz : base2 ≤ w.heap.size) (hg : w.grownBy w' (rowOf A2)) : AB w' b0 A c l :=
  ⟨h.box.grown hg (fun e => by have := (k.own.row_lt _ e.symm).1; omega), h.rd.grown k.own (by omega) hz hg⟩
/-- A call's own result, boxed. -/
theorem PB.new (h : OwnN w base A c l) : PB (w.alloc (.cells #[.slice A l.length c] 32)) w.heap.size base A c l :=
  ⟨Bk.new w _ [_], h.below ((Below.refl _ _).alloc (Nat.le_refl _) _) (Nat.le_refl _), fun g hg => (h.row_lt g hg).2⟩
end

end Go.Proofs.Ytkjhncohanfciaa

/- Boxes that hold pipes made by calls, told by an interval of blocks; through calls and through marks. -/
namespace Go.Proofs.Ytkjhncohanfciaa
open Go.RowKit

/-- The box bx holds a pipe, whose nodes l lie in memory of its own; both lie in blocks from lo on and before hi. -/
structure PX (w : World) (bx lo hi : Nat) (A : Option Addr) (c : Nat) (l : List Nd) : Prop where
  box : Bk w bx 32 [.slice A l.length c]
  own : OwnN w lo A c l
  lo_ : lo ≤ bx
  hi_ : bx < hi
  top : hi ≤ w.heap.size
  lt : ∀ g, rowOf A = some g → g < hi
  ne : ∀ g, rowOf A = some g → g ≠ bx

section
variable {w w' : World} {bx lo hi c : Nat} {A : Option Addr} {l : List Nd}
theorem PX.below {C : Nat} (h : PX w bx lo hi A c l) (hb : Below C w w') (hC : w.heap.size ≤ C) : PX w' bx lo hi A c l :=
  ⟨h.box.below hb (by have := h.box.lt; omega), h.own.below hb hC, h.lo_, h.hi_, Nat.le_trans h.top hb.size, h.lt, h.ne⟩
theorem PX.drewN (h : PX w bx lo hi A c l) (n : Nat) : PX (w.drewN n) bx lo hi A c l := ⟨h.box.drewN n, h.own.drewN n, h.lo_, h.hi_, h.top, h.lt, h.ne⟩
theorem PX.cell (h : PX w bx lo hi A c l) : w.cell? ⟨bx, 0, none⟩ = some (.slice A l.length c) := h.box.cell 0
theorem PX.new {b : Nat} (h : OwnN w b A c l) (hb : lo ≤ b) (hz : lo ≤ w.heap.size) : PX (w.alloc (.cells #[.slice A l.length c] 32)) w.heap.size lo (w.heap.size + 1) A c l :=
  ⟨Bk.new w _ [_], (h.below ((Below.refl _ _).alloc (Nat.le_refl _) _) (Nat.le_refl _)).base_ hb, hz, Nat.lt_succ_self _, by simp, fun g hg => by have := (h.row_lt g hg).2; omega, fun g hg => by have := (h.row_lt g hg).2; omega⟩
theorem PX.set {b : Nat} (h : OwnN w b A c l) (hx : Bk w bx 32 [.slice none 0 0]) (hb : lo ≤ b) (h1 : lo ≤ bx) (hne : ∀ g, rowOf A = some g → g ≠ bx) : PX (w.setCell ⟨bx, 0, none⟩ (.slice A l.length c)) bx lo w.heap.size A c l :=
  ⟨hx.set_ 0 _, (h.grown (grown_one (World.grownBy.refl w (some bx)) 0 _) (by
    cases hA : rowOf A with
    | none => exact .inl rfl
    | some g => exact .inr fun e => hne g hA (Option.some.inj e))).base_ hb, h1, hx.lt, by simp [World.setCell], fun g hg => (h.row_lt g hg).2, hne⟩
theorem PX.end_set {a : World} {b : Nat} (hb0 : Below a.heap.size a w) (h : OwnN w b A c l) (hx : Bk w bx 32 [.slice none 0 0]) (hb : a.heap.size ≤ b) (h1 : a.heap.size ≤ bx) (hne : ∀ g, rowOf A = some g → g ≠ bx) :
    ∃ W : World, W = w.setCell ⟨bx, 0, none⟩ (.slice A l.length c) ∧ PX W bx a.heap.size w.heap.size A c l ∧ Below a.heap.size a W :=
  ⟨_, rfl, PX.set h hx hb h1 hne, hb0.setCell (p := ⟨bx, 0, none⟩) h1 _⟩
theorem PX.end_new {a : World} {b : Nat} (hb0 : Below a.heap.size a w) (h : OwnN w b A c l) (hb : a.heap.size ≤ b) :
    ∃ W : World, W = w.alloc (.cells #[.slice A l.length c] 32) ∧ PX W w.heap.size a.heap.size (w.heap.size + 1) A c l ∧ Below a.heap.size a W :=
  ⟨_, rfl, PX.new h hb hb0.size, hb0.alloc hb0.size _⟩
variable {bx2 lo2 hi2 c2 : Nat} {A2 : Option Addr} {l2 : List Nd}
theorem PX.row_lo (h : PX w bx lo hi A c l) : ∀ g, rowOf A = some g → lo ≤ g := fun g hg => (h.own.row_lt g hg).1
theorem PX.mark_other (h : PX w bx lo hi A c l) (k : PX w bx2 lo2 hi2 A2 c2 l2) (hd : hi ≤ lo2 ∨ hi2 ≤ lo) (hg : w.grownBy w' (rowOf A2)) : PX w' bx lo hi A c l := by
  refine ⟨h.box.grown hg fun e => ?_, h.own.grown hg ?_, h.lo_, h.hi_, Nat.le_trans h.top hg.size, h.lt, h.ne⟩
  · have h1 := k.row_lo _ e.symm
    have h2 := k.lt _ e.symm
    have h3 := h.lo_
    have h4 := h.hi_
    omega
  · cases hA : rowOf A with
    | none => exact .inl rfl
    | some g =>
      refine .inr fun e => ?_
      have h1 := k.row_lo _ e.symm
      have h2 := k.lt _ e.symm
      have h3 := h.row_lo g hA
      have h4 := h.lt g hA
      omega
theorem PX.mark_self {m : List Nd} (h : PX w bx lo hi A c l) (ho : OwnN w' lo A c m) (hm : m.length = l.length) (hg : w.grownBy w' (rowOf A)) : PX w' bx lo hi A c m :=
  ⟨by rw [hm]; exact h.box.grown hg (fun e => h.ne _ e.symm rfl), ho, h.lo_, h.hi_, Nat.le_trans h.top hg.size, h.lt, h.ne⟩
theorem AB.mark_px {b0 : Nat} (h : AB w b0 A c l) (k : PX w bx2 lo2 hi2 A2 c2 l2) (hlt : b0 < lo2) (hg : w.grownBy w' (rowOf A2)) : AB w' b0 A c l :=
  ⟨h.box.grown hg (fun e => by have := k.row_lo _ e.symm; omega), h.rd.grown k.own (by omega) (by have := k.lo_; have := k.hi_; have := k.top; omega) hg⟩
theorem Bk.mark_px {g : Nat} {t : TypeId} {cs : List Value} (h : Bk w g t cs) (k : PX w bx2 lo2 hi2 A2 c2 l2) (hlt : g < lo2) (hg : w.grownBy w' (rowOf A2)) : Bk w' g t cs :=
  h.grown hg (fun e => by have := k.row_lo _ e.symm; omega)
theorem PX.below_mark {B : Nat} {a : World} (k : PX w bx2 lo2 hi2 A2 c2 l2) (hb : Below B a w) (hB : B ≤ lo2) (hz : B ≤ w.heap.size) (hg : w.grownBy w' (rowOf A2)) : Below B a w' :=
  hb.grown hg hz (fun g h => by have := k.row_lo g h; omega)
end

end Go.Proofs.Ytkjhncohanfciaa

/- Contracts of the functions that copy lists of numbers into new memory, compare them, and count them. -/
namespace Go.Proofs.Ytkjhncohanfciaa
open Go.RowKit

theorem Try.infoInt : (Try.prog.info? 3).map (fun i => (i.zero, i.size, i.bytes)) = some (some (.int .i64 0), 1, 8) := by kernel_rfl
theorem Try.infoInts : (Try.prog.info? 28).map (fun i => (i.zero, i.size, i.bytes)) = some (some (.slice none 0 0), 1, 24) := by kernel_rfl

set_option maxHeartbeats 400000 in
theorem eqIntS_any (A1 A2 : Option Addr) (c1 c2 : Nat) (l1 l2 : List Int) (w : World) (B : Nat) (h1 : RdI w B A1 l1) (h2 : RdI w B A2 l2) (n1 : l1.length ≤ 1048576) :
    Calls Try.prog 15 #[.slice A1 l1.length c1, .slice A2 l2.length c2] w fun e w' => e = .returned (.bool (decide (l1 = l2))) ∧ Same w w' := by
  by_cases hl : l1.length = l2.length
  · have hb' : (l1.length != l2.length) = false := by simp [hl]
    have Hl := Lib.hid hl
    clear hl
    go_enter Try.func15, Try.ntmps15
    go_wp2
    go_loopw [5] (fun i wr => ∃ k : Nat, k ≤ l1.length ∧ i = .int .i64 k ∧ l1.take k = l2.take k ∧ Same w wr) (fun i _ => l1.length - (intOf i).toNat)
    case atStart => exact ⟨0, Nat.zero_le _, rfl, by simp, Same.refl _⟩
    case round =>
      obtain ⟨k, hk, rfl, hall, hs⟩ := hrel
      have Hall := Lib.hid hall
      clear hall
      by_cases hlt : k < l1.length
      · have hlt2 : k < l2.length := by rw [← Hl.out]; exact hlt
        obtain ⟨ad, x, rfl, hx, hc⟩ := (h1.same hs).at_ hlt
        obtain ⟨ad2, y, rfl, hy, hc2⟩ := (h2.same hs).at_ hlt2
        have Hx := Lib.hid hx
        have Hy := Lib.hid hy
        have Hs := Lib.hid hs
        clear hx hy h1 h2 hs
        by_cases hxy : x = y
        · subst hxy
          go_wp2
          go_quiet (fail)
          all_goals go_wp2
          go_roundw
          case rel => exact ⟨k + 1, by omega, by go_num, take_eq_succ Hall.out Hx.out Hy.out, Hs.out.drewN _⟩
          case measure => simp [intOf]; omega
        · have hb2 : (x != y) = true := by simp [hxy]
          have Hxy : Hid (¬ x = y) := hxy
          clear hxy
          go_wp2
          go_quiet (fail)
          all_goals go_wp2
          go_ret
          exact ⟨ret_bool (decide_eq_false (ne_of_get Hx.out Hy.out Hxy.out)).symm, Hs.out.drewN _⟩
      · go_wp2
        go_ret
        exact ⟨ret_bool (decide_eq_true (eq_of_take (by omega) (by rw [← Hl.out]; omega) Hall.out)).symm, hs⟩
  · have hb' : (l1.length != l2.length) = true := by simp [hl]
    have Hl : Hid (¬ l1.length = l2.length) := hl
    clear hl
    go_enter Try.func15, Try.ntmps15
    go_wp2
    go_ret
    exact ⟨ret_bool (by rw [decide_eq_false]; intro e; exact Hl.out (by rw [e])), Same.refl _⟩

/-- The same, met inside a region that draws its order. -/
theorem eqIntS_q {A1 A2 : Option Addr} {c1 c2 : Nat} {l1 l2 : List Int} {w : World} {B n : Nat} {b : Bool} (h1 : RdI w B A1 l1) (h2 : RdI w B A2 l2) (n1 : l1.length ≤ 1048576) (hb : Hid (decide (l1 = l2) = b)) :
    Calls Try.prog 15 #[.slice A1 l1.length c1, .slice A2 l2.length c2] (w.drewN n) fun e w' => e = .returned (.bool b) ∧ ∃ m, w' = w.drewN m :=
  Calls.quiet_of ((eqIntS_any A1 A2 c1 c2 l1 l2 (w.drewN n) B (h1.drewN n) (h2.drewN n) n1).mono fun _ _ ⟨he, hs⟩ => ⟨by rw [he, hb.out], hs⟩)

set_option maxHeartbeats 400000 in
theorem eqIntSS_any (A1 A2 : Option Addr) (c1 c2 : Nat) (l1 l2 : List (List Int)) (w : World) (B : Nat) (h1 : RdR w B A1 l1) (h2 : RdR w B A2 l2) (n1 : l1.length ≤ 1048576)
    (m1 : ∀ r ∈ l1, r.length ≤ 1048576) :
    Calls Try.prog 17 #[.slice A1 l1.length c1, .slice A2 l2.length c2] w fun e w' => e = .returned (.bool (decide (l1 = l2))) ∧ Same w w' := by
  by_cases hl : l1.length = l2.length
  · have hb' : (l1.length != l2.length) = false := by simp [hl]
    have Hl := Lib.hid hl
    clear hl
    go_enter Try.func17, Try.ntmps17
    go_wp2
    go_loopw [5] (fun i wr => ∃ k : Nat, k ≤ l1.length ∧ i = .int .i64 k ∧ l1.take k = l2.take k ∧ Same w wr) (fun i _ => l1.length - (intOf i).toNat)
    case atStart => exact ⟨0, Nat.zero_le _, rfl, by simp, Same.refl _⟩
    case round =>
      obtain ⟨k, hk, rfl, hall, hs⟩ := hrel
      have Hall := Lib.hid hall
      clear hall
      by_cases hlt : k < l1.length
      · have hlt2 : k < l2.length := by rw [← Hl.out]; exact hlt
        obtain ⟨ad, x, Ax, cx, rfl, hx, hc, hrx⟩ := (h1.same hs).at_ hlt
        obtain ⟨ad2, y, Ay, cy, rfl, hy, hc2, hry⟩ := (h2.same hs).at_ hlt2
        have hnx := m1 x (List.mem_of_getElem? hx)
        have Hx := Lib.hid hx
        have Hy := Lib.hid hy
        have Hs := Lib.hid hs
        have Hrx := Lib.hid hrx
        have Hry := Lib.hid hry
        clear hx hy h1 h2 m1 hrx hry hs
        by_cases hxy : x = y
        · have Hd : Hid (decide (x = y) = true) := decide_eq_true hxy
          have Hxy := Lib.hid hxy
          clear hxy
          go_wp2
          go_quiet ((go_at_call 15; exact eqIntS_q Hrx.out Hry.out hnx Hd))
          all_goals go_wp2
          go_roundw
          case rel => exact ⟨k + 1, by omega, by go_num, take_eq_succ Hall.out Hx.out (by rw [Hxy.out]; exact Hy.out), Hs.out.drewN _⟩
          case measure => simp [intOf]; omega
        · have Hd : Hid (decide (x = y) = false) := decide_eq_false hxy
          have Hxy : Hid (¬ x = y) := hxy
          clear hxy
          go_wp2
          go_quiet ((go_at_call 15; exact eqIntS_q Hrx.out Hry.out hnx Hd))
          all_goals go_wp2
          go_ret
          exact ⟨ret_bool (decide_eq_false (ne_of_get Hx.out Hy.out Hxy.out)).symm, Hs.out.drewN _⟩
      · go_wp2
        go_ret
        exact ⟨ret_bool (decide_eq_true (eq_of_take (by omega) (by rw [← Hl.out]; omega) Hall.out)).symm, hs⟩
  · have hb' : (l1.length != l2.length) = true := by simp [hl]
    have Hl : Hid (¬ l1.length = l2.length) := hl
    clear hl
    go_enter Try.func17, Try.ntmps17
    go_wp2
    go_ret
    exact ⟨ret_bool (by rw [decide_eq_false]; intro e; exact Hl.out (by rw [e])), Same.refl _⟩

theorem bk_made (w : World) (t : TypeId) (l : List Int) (z : Value) {n : Nat} : Bk (w.alloc (.cells (madeCells #[z] n) t)) w.heap.size t (ints (l.take 0) ++ List.replicate (n - 0) z) := by
  have e : madeCells #[z] n = (List.replicate n z).toArray := by rw [← toList_madeCells_one]
  rw [e]
  have h := Bk.new w t (List.replicate n z)
  simpa [ints] using h
theorem fill_ints {w : World} {g k n : Nat} {t : TypeId} {l : List Int} {x : Int} (h : Bk w g t (ints (l.take k) ++ List.replicate (n - k) (.int .i64 0))) (hx : l[k]? = some x) (hk : k < n) :
    Bk (w.setCell ⟨g, k, none⟩ (.int .i64 x)) g t (ints (l.take (k + 1)) ++ List.replicate (n - (k + 1)) (.int .i64 0)) := by
  have h2 := h.set_ k (.int .i64 x)
  have hl : k < l.length := (List.getElem?_eq_some_iff.1 hx).1
  rw [fill_set _ _ _ (by simp [ints]; omega) hk] at h2
  rw [take_succ_of hx]
  simpa [ints] using h2

set_option maxHeartbeats 400000 in
theorem toIntS_any (A : Option Addr) (c : Nat) (l : List Int) (w : World) (B : Nat) (h : RdI w B A l) (hB : B ≤ w.heap.size) (hn : l.length ≤ 1048576) :
    Calls Try.prog 38 #[.slice A l.length c] w fun e w' => e = .returned (.slice (some ⟨w.heap.size, 0, none⟩) l.length l.length) ∧ Bk w' w.heap.size 3 (ints l) ∧ Below w.heap.size w w' := by
  have hmk := run_make_row' (P := Try.prog) 28 3 (.int .i64 0) 8 Try.underlying28 Try.infoInt rfl .i64 .i64 l.length (by omega) (by omega)
  go_enter Try.func38, Try.ntmps38
  go_wp2
  clear hmk
  go_loopw [4] (fun i wr => ∃ k : Nat, k ≤ l.length ∧ i = .int .i64 k ∧ Bk wr w.heap.size 3 (ints (l.take k) ++ List.replicate (l.length - k) (.int .i64 0)) ∧ Below w.heap.size w wr) (fun i _ => l.length - (intOf i).toNat)
  case atStart => exact ⟨0, Nat.zero_le _, rfl, bk_made _ _ _ _, (Below.refl _ _).alloc (Nat.le_refl _) _⟩
  case round =>
    obtain ⟨k, hk, rfl, hbk, hbl⟩ := hrel
    have Hbl := Lib.hid hbl
    clear hbl
    by_cases hlt : k < l.length
    · obtain ⟨ad, x, rfl, hx, hc⟩ := (h.below Hbl.out hB).at_ hlt
      have hold : ∃ u, wr.cell? ⟨w.heap.size, k, none⟩ = some u := by
        rw [hbk.cell]; exact get_of_lt _ (by simp [ints]; omega)
      obtain ⟨u, hu⟩ := hold
      have hf := hbk.free k
      have Hx := Lib.hid hx
      have Hbk := Lib.hid hbk
      clear hx h hbk
      go_wp2
      go_roundw
      case rel => exact ⟨k + 1, by omega, by go_num, fill_ints Hbk.out Hx.out hlt, Hbl.out.setCell (Nat.le_refl _) _⟩
      case measure => simp [intOf]; omega
    · go_wp2
      go_ret
      obtain rfl : k = l.length := by omega
      exact ⟨rfl, by simpa using hbk, Hbl.out⟩

set_option maxHeartbeats 400000 in
theorem toIntSS_any (A : Option Addr) (c : Nat) (rows : List (List Int)) (w : World) (B : Nat) (h : RdR w B A rows) (hB : B ≤ w.heap.size) (hn : rows.length ≤ 1048576) (hm : ∀ r ∈ rows, r.length ≤ 1048576) :
    Calls Try.prog 13 #[.slice A rows.length c] w fun e w' => e = .returned (.slice (some ⟨w.heap.size, 0, none⟩) rows.length rows.length) ∧ (∃ gs, OwnR w' 28 3 w.heap.size w.heap.size gs rows) ∧ Below w.heap.size w w' := by
  have hmk := run_make_row' (P := Try.prog) 25 28 (.slice none 0 0) 24 Try.underlying25 Try.infoInts rfl .i64 .i64 rows.length (by omega) (by omega)
  go_enter Try.func13, Try.ntmps13
  go_wp2
  clear hmk
  go_loopw [4] (fun i wr => ∃ gs : List Nat, gs.length ≤ rows.length ∧ i = .int .i64 gs.length ∧ PartR wr 28 3 w.heap.size gs rows ∧ Below w.heap.size w wr) (fun i _ => rows.length - (intOf i).toNat)
  case atStart => exact ⟨[], Nat.zero_le _, rfl, PartR.start (by simpa [ints] using bk_made w 28 [] (.slice none 0 0) (n := rows.length)), (Below.refl _ _).alloc (Nat.le_refl _) _⟩
  case round =>
    obtain ⟨gs, hk, rfl, hp, hbl⟩ := hrel
    by_cases hlt : gs.length < rows.length
    · obtain ⟨ad, r, Ar, cr, rfl, hx, hc, hrd⟩ := (h.below hbl hB).at_ hlt
      have hrn := hm r (List.mem_of_getElem? hx)
      have hsz := hbl.size
      have hgl := hp.top.lt
      have hold := hp.old hlt
      have hfr := hp.top.free gs.length
      have Hbl := Lib.hid hbl
      have Hx := Lib.hid hx
      have Hp := Lib.hid hp
      have Hrd := Lib.hid hrd
      have Hold := Lib.hid hold
      have Hfr := Lib.hid hfr
      clear hx h hp hm hrd hbl hold hfr
      go_wp2_with (go_at_call 38; refine (toIntS_any _ _ _ _ _ Hrd.out (by omega) hrn).mono ?_; rintro e w1 ⟨rfl, hb1, hb2⟩; have hc1 := (hb2.cell (p := ⟨w.heap.size, gs.length, none⟩) hgl).trans Hold.out; have hf1 := (hb2.frozen (p := ⟨w.heap.size, gs.length, none⟩) hgl).trans Hfr.out; have Hb1 := Lib.hid hb1; have Hb2 := Lib.hid hb2; clear hb1 hb2)
      go_roundw
      case rel => exact ⟨gs ++ [wr.heap.size], by rw [List.length_append]; exact hlt, by simp, Hp.out.step Hx.out Hb2.out Hb1.out, (Hbl.out.trans (Hb2.out.mono hsz)).setCell (Nat.le_refl _) _⟩
      case measure => simp [intOf]; omega
    · go_wp2
      go_ret
      exact ⟨rfl, ⟨gs, hp.done (by omega) (Nat.le_refl _)⟩, hbl⟩

set_option maxHeartbeats 400000 in
theorem szIntSS_any (A : Option Addr) (c : Nat) (rows : List (List Int)) (left : Int) (w : World) (B : Nat) (h : RdR w B A rows) (h0 : 0 ≤ left) (h1 : left ≤ 1048576) (hn : rows.length ≤ maxLen) (hm : ∀ r ∈ rows, r.length ≤ maxLen) :
    Calls Try.prog 10 #[.slice A rows.length c, .int .i64 left] w fun e w' => e = .returned (.int .i64 (szLeft left (bulk rows))) ∧ w = w' := by
  unfold maxLen at hn
  by_cases hl : left < rows.length
  · rw [szLeft_no (by unfold bulk; omega)]
    go_enter Try.func10, Try.ntmps10
    go_wp2
    go_ret
    exact ⟨rfl, rfl⟩
  · go_enter Try.func10, Try.ntmps10
    go_wp2
    go_loop [1, 5] (fun l i => ∃ k : Nat, k ≤ rows.length ∧ i = .int .i64 k ∧ ∃ m : Int, m = left - rows.length - ((rows.take k).map List.length).sum ∧ 0 ≤ m ∧ l = .int .i64 m) (fun _ i => rows.length - (intOf i).toNat)
    case atStart => exact ⟨0, Nat.zero_le _, rfl, _, by simp, by omega, rfl⟩
    case round =>
      obtain ⟨k, hk, rfl, m, hmm, hm0, rfl⟩ := hrel
      have hm1 : m ≤ 1048576 := by omega
      by_cases hlt : k < rows.length
      · obtain ⟨ad, r, Ar, cr, rfl, hx, hc, hrd⟩ := h.at_ hlt
        have hrn := hm r (List.mem_of_getElem? hx)
        have e1 := sum_take_succ hx
        have e2 := sum_take_le rows (k + 1)
        by_cases hfit : m < r.length
        · have Hfin : Hid (left < bulk rows) := by unfold bulk; show left < _; omega
          clear hx h hm hmm e1 e2
          go_wp2_with (go_at_call 34; refine (szIntS_any _ _ _ _ _ hm0 hm1 hrn).mono ?_; rintro e w1 ⟨rfl, rfl⟩; rw [szLeft_no hfit])
          go_ret
          exact ⟨ret_int (szLeft_no Hfin.out).symm, rfl⟩
        · have Hnew : Hid (m - r.length = left - rows.length - ((rows.take (k + 1)).map List.length).sum) := by show _ = _; omega
          clear hx h hm hmm e1 e2
          go_wp2_with (go_at_call 34; refine (szIntS_any _ _ _ _ _ hm0 hm1 hrn).mono ?_; rintro e w1 ⟨rfl, rfl⟩; rw [szLeft_yes hfit])
          go_round
          case rel => exact ⟨k + 1, by omega, by go_num, _, Hnew.out, by omega, rfl⟩
          case measure => simp [intOf]; omega
      · obtain rfl : k = rows.length := by omega
        rw [List.take_length] at hmm
        have Hfin : Hid ((bulk rows : Int) ≤ left ∧ m = left - bulk rows) := by
          unfold bulk
          exact ⟨by omega, by omega⟩
        clear hmm
        go_wp2
        go_ret
        exact ⟨ret_int (Hfin.out.2.trans (szLeft_yes (Int.not_lt.2 Hfin.out.1)).symm), rfl⟩

end Go.Proofs.Ytkjhncohanfciaa

/- What a call made, told by an interval of blocks; kept over calls that make memory and over marks in other intervals. -/
namespace Go.Proofs.Ytkjhncohanfciaa
open Go.RowKit

/-- Only blocks from lo on and before hi, and new ones, have changed. -/
structure Chg (lo hi : Nat) (w w' : World) : Prop where
  os : w'.os = w.os
  tape : w'.tape = w.tape
  output : w'.output = w.output
  size : w.heap.size ≤ w'.heap.size
  block : ∀ j, j < w.heap.size → (j < lo ∨ hi ≤ j) → w'.heap[j]? = w.heap[j]?

/-- P holds in every world that agrees on the blocks from lo on and before hi. -/
structure Held (w : World) (lo hi : Nat) (P : World → Prop) : Prop where
  le : lo ≤ hi
  top : hi ≤ w.heap.size
  at_ : ∀ w' : World, hi ≤ w'.heap.size → (∀ b, lo ≤ b → b < hi → w'.heap[b]? = w.heap[b]?) → P w'

section
variable {w w' a : World} {lo hi lo2 hi2 : Nat} {P : World → Prop}
theorem Chg.refl (lo hi : Nat) (w : World) : Chg lo hi w w := ⟨rfl, rfl, rfl, Nat.le_refl _, fun _ _ _ => rfl⟩
theorem Chg.of_grown {row : Option Nat} (h : w.grownBy w' row) (hr : ∀ g, row = some g → lo ≤ g ∧ g < hi) : Chg lo hi w w' :=
  ⟨h.os, h.tape, h.output, h.size, fun j hj ho => h.block j hj (fun e => by have := hr j e.symm; omega)⟩
theorem Chg.of_below (h : Below w.heap.size w w') : Chg lo hi w w' := ⟨h.os, h.tape, h.output, h.size, fun j hj _ => h.block j hj⟩
theorem Chg.trans {v : World} (h : Chg lo hi a w) (k : Chg lo hi w v) : Chg lo hi a v :=
  ⟨k.os.trans h.os, k.tape.trans h.tape, k.output.trans h.output, Nat.le_trans h.size k.size, fun j hj ho => (k.block j (Nat.lt_of_lt_of_le hj h.size) ho).trans (h.block j hj ho)⟩
theorem Chg.wide (h : Chg lo hi w w') (h1 : lo2 ≤ lo) (h2 : hi ≤ hi2) : Chg lo2 hi2 w w' := ⟨h.os, h.tape, h.output, h.size, fun j hj ho => h.block j hj (by omega)⟩
theorem Chg.set {b : Nat} (h : Chg lo hi a w) (h1 : lo ≤ b) (h2 : b < hi) (i : Nat) (u : Value) : Chg lo hi a (w.setCell ⟨b, i, none⟩ u) :=
  ⟨h.os, h.tape, h.output, by simpa [World.setCell] using h.size, fun j hj ho => (Below.heap_setCell w ⟨b, i, none⟩ u j (by intro e; subst e; omega)).trans (h.block j hj ho)⟩
theorem Chg.below_ {B : Nat} (k : Chg lo hi w w') (h : Below B a w) (hB : B ≤ lo) (hz : B ≤ w.heap.size) : Below B a w' :=
  ⟨k.os.trans h.os, k.tape.trans h.tape, k.output.trans h.output, Nat.le_trans h.size k.size, fun j hj => (k.block j (by omega) (by omega)).trans (h.block j hj)⟩
theorem Held.out (h : Held w lo hi P) : P w := h.at_ w h.top fun _ _ _ => rfl
theorem Held.chg (h : Held w lo hi P) (k : Chg lo2 hi2 w w') (hd : hi ≤ lo2 ∨ hi2 ≤ lo) : Held w' lo hi P :=
  ⟨h.le, Nat.le_trans h.top k.size, fun v hv hag => h.at_ v hv fun b h1 h2 => (hag b h1 h2).trans (k.block b (by have := h.top; omega) (by omega))⟩
theorem Held.below {C : Nat} (h : Held w lo hi P) (hb : Below C w w') (hC : hi ≤ C) : Held w' lo hi P :=
  ⟨h.le, Nat.le_trans h.top hb.size, fun v hv hag => h.at_ v hv fun b h1 h2 => (hag b h1 h2).trans (hb.block b (by omega))⟩
theorem Held.drewN (h : Held w lo hi P) (n : Nat) : Held (w.drewN n) lo hi P := ⟨h.le, h.top, h.at_⟩
theorem Held.mono {Q : World → Prop} (h : Held w lo hi P) (hq : ∀ v, P v → Q v) : Held w lo hi Q := ⟨h.le, h.top, fun v hv hag => hq v (h.at_ v hv hag)⟩
theorem Bk.held {g : Nat} {t : TypeId} {cs : List Value} (h : Bk w g t cs) : Held w g (g + 1) (fun v => Bk v g t cs) :=
  ⟨by omega, h.lt, fun v _ hag => (hag g (Nat.le_refl _) (by omega)).trans h⟩
theorem cell_agree {p : Addr} (hag : ∀ b, lo ≤ b → b < hi → w'.heap[b]? = w.heap[b]?) (h1 : lo ≤ p.block) (h2 : p.block < hi) : w'.cell? p = w.cell? p := World.cell?_of_block (hag _ h1 h2)
theorem RdN.held {B : Nat} {A : Option Addr} {l : List Nd} (h : RdN w B A l) (hB : B ≤ w.heap.size) : Held w 0 B (fun v => RdN v B A l) :=
  ⟨Nat.zero_le _, hB, fun _ _ hag => h.keep fun _ hp => cell_agree hag (Nat.zero_le _) hp⟩
theorem RdI.held {B : Nat} {A : Option Addr} {l : List Int} (h : RdI w B A l) (hB : B ≤ w.heap.size) : Held w 0 B (fun v => RdI v B A l) :=
  ⟨Nat.zero_le _, hB, fun _ _ hag => h.keep fun _ hp => cell_agree hag (Nat.zero_le _) hp⟩
theorem RdR.held {B : Nat} {A : Option Addr} {rows : List (List Int)} (h : RdR w B A rows) (hB : B ≤ w.heap.size) : Held w 0 B (fun v => RdR v B A rows) :=
  ⟨Nat.zero_le _, hB, fun _ _ hag => h.keep fun _ hp => cell_agree hag (Nat.zero_le _) hp⟩
end

/-- The nodes of a pipe in memory of a call's own. -/
structure OwnP (w : World) (lo hi : Nat) (A : Option Addr) (c : Nat) (l : List Nd) : Prop where
  own : OwnN w lo A c l
  lt : ∀ g, rowOf A = some g → g < hi

section
variable {w w' a : World} {lo hi c : Nat} {A : Option Addr} {l : List Nd}
theorem OwnP.of {b : Nat} (h : OwnN w b A c l) (hlo : lo ≤ b) : OwnP w lo w.heap.size A c l := ⟨h.base_ hlo, fun g hg => (h.row_lt g hg).2⟩
theorem OwnP.agree (h : OwnP w lo hi A c l) (hag : ∀ b, lo ≤ b → b < hi → w'.heap[b]? = w.heap[b]?) : OwnP w' lo hi A c l := by
  refine ⟨?_, h.lt⟩
  obtain ⟨h1, h2 | ⟨g, cap, cur, hv, hg, hh, hr⟩⟩ := h.own
  · exact ⟨h1, .inl h2⟩
  · have hA : A = some ⟨g, 0, none⟩ := by injection hv
    exact ⟨h1, .inr ⟨g, cap, cur, hv, hg, (hag g hg (h.lt g (by rw [hA]; rfl))).trans hh, hr⟩⟩
theorem OwnP.held (h : OwnP w lo hi A c l) (h1 : lo ≤ hi) (h2 : hi ≤ w.heap.size) : Held w lo hi (fun v => OwnP v lo hi A c l) := ⟨h1, h2, fun _ _ hag => h.agree hag⟩
theorem OwnP.rdt (h : OwnP w lo hi A c l) (_ : hi ≤ w.heap.size) : RdN w w.heap.size A l := h.own.rd
theorem markPipe_h (k : Int) (h : OwnP w lo hi A c l) (hn : l.length ≤ 1048576) (hk0 : 0 ≤ k) (hk1 : k ≤ 16777216) :
    Calls Try.prog 18 #[.agg #[.slice A l.length c], .int .i64 k] w fun e w' => e = .returned (.int .i64 (k + 5 * l.length)) ∧ OwnP w' lo hi A c (mkN l.length k) ∧ Chg lo hi w w' :=
  (markPipe_any A c l k w lo h.own hn hk0 hk1).mono fun _ _ ⟨he, ho, hg⟩ => ⟨he, ⟨ho, h.lt⟩, .of_grown hg fun g hg => ⟨(h.own.row_lt g hg).1, h.lt g hg⟩⟩
end

/-- Numbers in memory of a call's own, wherever they begin in their block. -/
def OwnI (w : World) (lo hi : Nat) (A : Option Addr) (l : List Int) : Prop :=
  0 < l.length → ∃ g o cs, A = some ⟨g, o, none⟩ ∧ lo ≤ g ∧ g < hi ∧ Bk w g 3 cs ∧ ∀ (k : Nat) (x : Int), l[k]? = some x → cs[o + k]? = some (.int .i64 x)

section
variable {w w' a : World} {lo hi c : Nat} {A : Option Addr} {l : List Int}
theorem OwnI.rd (h : OwnI w lo hi A l) : RdI w hi A l := fun hn => by
  obtain ⟨g, o, cs, rfl, h1, h2, hb, hc⟩ := h hn
  refine ⟨_, rfl, h2, fun k x hx => ?_⟩
  rw [Addr.add_lit, hb.cell]
  exact hc k x hx
theorem OwnI.rdt (h : OwnI w lo hi A l) (hz : hi ≤ w.heap.size) : RdI w w.heap.size A l := h.rd.more hz
theorem OwnI.agree (h : OwnI w lo hi A l) (hag : ∀ b, lo ≤ b → b < hi → w'.heap[b]? = w.heap[b]?) : OwnI w' lo hi A l := fun hn => by
  obtain ⟨g, o, cs, rfl, h1, h2, hb, hc⟩ := h hn
  exact ⟨g, o, cs, rfl, h1, h2, (hag g h1 h2).trans hb, hc⟩
theorem OwnI.held (h : OwnI w lo hi A l) (h1 : lo ≤ hi) (h2 : hi ≤ w.heap.size) : Held w lo hi (fun v => OwnI v lo hi A l) := ⟨h1, h2, fun _ _ hag => h.agree hag⟩
theorem OwnI.wide {lo2 hi2 : Nat} (h : OwnI w lo hi A l) (h1 : lo2 ≤ lo) (h2 : hi ≤ hi2) : OwnI w lo2 hi2 A l := fun hn => by
  obtain ⟨g, o, cs, rfl, h3, h4, hb, hc⟩ := h hn
  exact ⟨g, o, cs, rfl, by omega, by omega, hb, hc⟩
theorem Bk.ownI {g : Nat} (h : Bk w g 3 (ints l)) (h1 : lo ≤ g) (h2 : g < hi) : OwnI w lo hi (some ⟨g, 0, none⟩) l := fun _ =>
  ⟨g, 0, ints l, rfl, h1, h2, h, fun k x hx => by rw [Nat.zero_add, ints_get, hx]; rfl⟩
end

/-- n marks, the first of which is k. -/
def mkI (n : Nat) (k : Int) : List Int := (List.range n).map fun i : Nat => k + i
theorem mkI_len (n : Nat) (k : Int) : (mkI n k).length = n := by simp [mkI]
theorem mkI_get {n : Nat} {k : Int} {i : Nat} (h : i < n) : (mkI n k)[i]? = some (k + i) := by simp [mkI, h]

set_option maxHeartbeats 1600000 in
theorem markIntS_h {lo hi : Nat} {A : Option Addr} {c : Nat} {l : List Int} {w : World} (k : Int) (h : OwnI w lo hi A l) (hn : l.length ≤ 1048576) (hk0 : 0 ≤ k) (hk1 : k ≤ 16777216) :
    Calls Try.prog 20 #[.slice A l.length c, .int .i64 k] w fun e w' => e = .returned (.int .i64 (k + l.length)) ∧ OwnI w' lo hi A (mkI l.length k) ∧ Chg lo hi w w' := by
  by_cases hl : 0 < l.length
  · obtain ⟨g, o, cs, rfl, hlo, hhi, hb0, hc0⟩ := h hl
    obtain ⟨n, hnl⟩ : ∃ n : Nat, n = l.length := ⟨_, rfl⟩
    have hcs : o + n ≤ cs.length := by
      obtain ⟨x, hx⟩ := get_of_lt l (k := n - 1) (by omega)
      have := (List.getElem?_eq_some_iff.1 (hc0 (n - 1) x hx)).1
      omega
    have Hb0 := Lib.hid hb0
    have hn2 : n ≤ 1048576 := by omega
    rw [← hnl]
    clear h hb0 hc0 hnl hl hn
    go_enter Try.func20, Try.ntmps20
    go_wp2
    go_loopw [1, 5] (fun s i wr => ∃ j : Nat, j ≤ n ∧ i = .int .i64 j ∧ (∃ m : Int, m = k + j ∧ s = .int .i64 m) ∧ (∃ ds, Bk wr g 3 ds ∧ ds.length = cs.length ∧ ∀ i : Nat, i < j → ds[o + i]? = some (.int .i64 (k + i))) ∧ Chg lo hi w wr) (fun _ i _ => n - (intOf i).toNat)
    case atStart => exact ⟨0, Nat.zero_le _, rfl, ⟨k, by simp, rfl⟩, ⟨cs, Hb0.out, rfl, fun i hi => absurd hi (by omega)⟩, Chg.refl _ _ _⟩
    case round =>
      obtain ⟨j, hj, rfl, ⟨m, hm, rfl⟩, ⟨ds, hds, hdl, hdc⟩, hg⟩ := hrel
      have hm0 : 0 ≤ m := by omega
      have hm1 : m ≤ 33554432 := by omega
      by_cases hlt : j < n
      · obtain ⟨u, hu⟩ := get_of_lt ds (k := o + j) (by omega)
        have cu := (hds.cell (o + j)).trans hu
        have fu := hds.free (o + j)
        have Hds := Lib.hid hds
        have Hdl := Lib.hid hdl
        have Hdc := Lib.hid hdc
        have Hg := Lib.hid hg
        have Hm := Lib.hid hm
        clear hds hdl hdc hg hm hu
        go_wp2
        go_roundw
        case rel =>
          refine ⟨j + 1, by omega, by go_num, ⟨_, by rw [Hm.out]; omega, rfl⟩, ⟨_, Hds.out.set_ _ _, by rw [List.length_set]; exact Hdl.out, fun i hi => ?_⟩, Hg.out.set hlo hhi _ _⟩
          rw [List.getElem?_set]
          by_cases e : o + j = o + i
          · obtain rfl : i = j := by omega
            rw [if_pos rfl, if_pos (by have := Hdl.out; omega), Hm.out]
          · rw [if_neg e]
            exact Hdc.out i (by omega)
        case measure => simp [intOf]; omega
      · obtain rfl : j = n := by omega
        have Hds := Lib.hid hds
        have Hdc := Lib.hid hdc
        have Hg := Lib.hid hg
        have Hm := Lib.hid hm
        clear hds hdc hg hm hdl
        go_wp2
        go_ret
        refine ⟨ret_int (by rw [Hm.out]), fun _ => ⟨g, o, ds, rfl, hlo, hhi, Hds.out, fun i x hx => ?_⟩, Hg.out⟩
        have hi : i < j := by have := (List.getElem?_eq_some_iff.1 hx).1; rwa [mkI_len] at this
        rw [mkI_get hi] at hx
        rw [← Option.some.inj hx]
        exact Hdc.out i hi
  · have hl0 : l = [] := List.eq_nil_of_length_eq_zero (by omega)
    subst hl0
    clear h
    go_enter Try.func20, Try.ntmps20
    go_wp2
    refine wp_loop_rounds 1 ?_
    rw [rounds_succ]
    go_wp2
    go_ret
    exact ⟨by simp, fun h => absurd h (by simp [mkI]), Chg.refl _ _ _⟩

set_option maxHeartbeats 1600000 in
theorem heldIntS_any (A : Option Addr) (c n : Nat) (k : Int) (w : World) (B : Nat) (h : RdI w B A (mkI n k)) (hn : n ≤ 1048576) (hk0 : 0 ≤ k) (hk1 : k ≤ 16777216) :
    Calls Try.prog 21 #[.slice A n c, .int .i64 k] w fun e w' => e = .returned (.int .i64 (k + n)) ∧ w = w' := by
  have Hh := Lib.hid h
  clear h
  go_enter Try.func21, Try.ntmps21
  go_wp2
  go_loop [1, 5] (fun s i => ∃ j : Nat, j ≤ n ∧ i = .int .i64 j ∧ ∃ m : Int, m = k + j ∧ s = .int .i64 m) (fun _ i => n - (intOf i).toNat)
  case atStart => exact ⟨0, Nat.zero_le _, rfl, k, by simp, rfl⟩
  case round =>
    obtain ⟨j, hj, rfl, m, hm, rfl⟩ := hrel
    have hm0 : 0 ≤ m := by omega
    have hm1 : m ≤ 33554432 := by omega
    by_cases hlt : j < n
    · obtain ⟨ad, x, rfl, hx, hc⟩ := Hh.out.at_ (k := j) (by rw [mkI_len]; exact hlt)
      rw [mkI_get hlt] at hx
      obtain rfl := Option.some.inj hx
      rw [← hm] at hc
      have Hm := Lib.hid hm
      clear hm hx
      go_wp2
      go_round
      case rel => exact ⟨j + 1, by omega, by go_num, _, by rw [Hm.out]; omega, rfl⟩
      case measure => simp [intOf]; omega
    · obtain rfl : j = n := by omega
      have Hm := Lib.hid hm
      clear hm
      go_wp2
      go_ret
      exact ⟨ret_int (by rw [Hm.out]), rfl⟩

end Go.Proofs.Ytkjhncohanfciaa

/- Numbers are appended to a slice of the call's own. -/
namespace Go.Proofs.Ytkjhncohanfciaa
open Go.RowKit

/-- The slice at A holds the numbers l in memory from block base on, from the beginning of its block. -/
def OwnJ (w : World) (base : Nat) (A : Option Addr) (c : Nat) (l : List Int) : Prop := w.ownsRow base 3 1 (.slice A l.length c) l.length (ints l)

section
variable {w w' : World} {base c : Nat} {A : Option Addr} {l : List Int}
theorem OwnJ.form (h : OwnJ w base A c l) (hl : 0 < l.length) : ∃ g, A = some ⟨g, 0, none⟩ ∧ base ≤ g ∧ g < w.heap.size := by
  obtain ⟨_, ⟨_, h0⟩ | ⟨g, cap, cur, hv, hb, hh, _⟩⟩ := h
  · omega
  · injection hv with hA
    exact ⟨g, hA, hb, lt_of_block hh⟩
theorem OwnJ.row_lt (h : OwnJ w base A c l) : ∀ g, rowOf A = some g → base ≤ g ∧ g < w.heap.size := fun g hg => by
  have := World.ownsRow.lt h g (by rw [ownBlock_slice]; exact hg)
  exact this
theorem OwnJ.grown {row : Option Nat} (h : OwnJ w base A c l) (hg : w.grownBy w' row) (hne : rowOf A = none ∨ rowOf A ≠ row) : OwnJ w' base A c l :=
  World.ownsRow.kept h hg (by rw [ownBlock_slice]; exact hne)
theorem OwnJ.below {C : Nat} (h : OwnJ w base A c l) (hb : Below C w w') (hC : w.heap.size ≤ C) : OwnJ w' base A c l :=
  h.grown (row := none) ⟨hb.os, hb.tape, hb.output, Nat.le_trans (Nat.le_refl _) hb.size, fun k hk _ => hb.block k (by omega)⟩ (by cases A <;> simp [rowOf])
theorem OwnJ.nil_ (w : World) (base : Nat) : OwnJ w base none 0 [] := World.ownsRow_nil w base _ 1
theorem OwnJ.bk (h : OwnJ w base A c l) (hl : 0 < l.length) : ∃ g cs, A = some ⟨g, 0, none⟩ ∧ base ≤ g ∧ Bk w g 3 cs ∧ l.length ≤ c ∧ ∀ (k : Nat) (x : Int), l[k]? = some x → cs[k]? = some (.int .i64 x) := by
  obtain ⟨h1, ⟨_, h0⟩ | ⟨g, cap, cur, hv, hb, hh, hn, _, _, ht⟩⟩ := h
  · omega
  · injection hv with hA _ hc
    subst hc
    refine ⟨g, cur.toList, hA, hb, by unfold Bk; simpa using hh, hn, fun k x hx => ?_⟩
    have hk : k < l.length := (List.getElem?_eq_some_iff.1 hx).1
    have : (cur.toList.take (l.length * 1))[k]? = some (.int .i64 x) := by rw [ht, ints_get, hx]; rfl
    rwa [List.getElem?_take_of_lt (by omega)] at this
theorem OwnJ.ownI (h : OwnJ w base A c l) : OwnI w base w.heap.size A l := fun hl => by
  obtain ⟨g, cs, e, hb, hbk, _, hc⟩ := h.bk hl
  exact ⟨g, 0, cs, e, hb, hbk.lt, hbk, fun k x hx => by rw [Nat.zero_add]; exact hc k x hx⟩
end

theorem emptyJ (w : World) : OwnJ (w.alloc (.cells #[] 3)) w.heap.size (some ⟨w.heap.size, 0, none⟩) 0 [] :=
  ⟨rfl, .inr ⟨w.heap.size, 0, #[], rfl, Nat.le_refl _, heap_alloc_new w _, Nat.le_refl _, Nat.zero_le _, rfl, rfl⟩⟩

theorem wpList_append_int {ops : Array Oper} {rest : List Oper} {o : Oper} {a : Act} {Q : Exit → Act → World → Prop} {w : World} (hgd : o.guard = none) (s y : Operand)
    (ho : o.op = .call { callee := .builtin .append, args := #[s, y], argTypes := #[28, 28] }) (base : Nat) (A : Option Addr) (c : Nat) (l : List Int) (x : Int) (n : Nat) (hnl : l.length = n) (hs : a.eval s = .slice A n c) (hown : OwnJ w base A c l)
    (g : Nat) (hx : a.eval y = .slice (some ⟨g, 0, none⟩) 1 1) (hg : g = w.heap.size) (hn : n ≤ 1048576) (hb : base ≤ w.heap.size)
    (h : ∀ (A' : Option Addr) (c' : Nat) (w' : World), OwnJ w' base A' c' (l ++ [x]) → (w.alloc (.cells #[.int .i64 x] 3)).grownBy w' (rowOf A) → wpList Try.prog ops Q rest (a.put o.dst (.slice A' (n + 1) c')) w') :
    wpList Try.prog ops Q (o :: rest) a (w.alloc (.cells #[.int .i64 x] 3)) := by
  subst hg
  subst hnl
  obtain ⟨i, hi, hz0, hz1, hz2⟩ := info_parts Try.infoInt
  have hown2 := hown.below ((Below.refl w.heap.size w).alloc (Nat.le_refl _) (.cells #[.int .i64 x] 3)) (Nat.le_refl _)
  have hb1 : Bk (w.alloc (.cells #[.int .i64 x] 3)) w.heap.size 3 [.int .i64 x] := Bk.new w _ [_]
  have hread : ∀ (j : Nat) (u : Value), (ints [x])[j]? = some u → (w.alloc (.cells #[.int .i64 x] 3)).cell? ((⟨w.heap.size, 0, none⟩ : Addr).add j) = some u := fun j u hj => by
    rw [add_zero_row, hb1.cell]
    exact hj
  have hone : ∀ u ∈ ints [x], u.oneCell' = true := by
    intro u hu
    simp [ints] at hu
    subst hu
    rfl
  refine wpList_plain hgd fun K hK => ?_
  obtain ⟨v', w', hr, h2, h3, _⟩ := run_append_own (P := Try.prog) (w.alloc (.cells #[.int .i64 x] 3)) base 28 o.type 3 i _ 1 8 Try.underlying28 hi hz0 hz1 hz2 rfl (by decide)
    (.slice A l.length c) l.length (ints l) hown2 ⟨w.heap.size, 0, none⟩ 1 1 (ints [x]) rfl hread hone (by unfold maxLen; omega) (by omega) (by simp; omega)
  have hv : ∃ A' c', v' = .slice A' (l.length + 1) c' := by
    obtain ⟨_, ⟨_, h0⟩ | ⟨g, cap, cur, hv, _⟩⟩ := h2
    · omega
    · exact ⟨_, _, hv⟩
  obtain ⟨A', c', rfl⟩ := hv
  unfold Oper.wp execOp
  simp only [ho, resolve, invoke, builtin, Sem.run_bind, Sem.run_pure, Result.andThen_ok, List.map_toArray, List.map_cons, List.map_nil, hs, hx, hr]
  refine hK _ _ (h A' c' w' ?_ (by rw [← ownBlock_slice A l.length c]; exact h3))
  unfold OwnJ
  rw [List.length_append, show ints (l ++ [x]) = ints l ++ ints [x] from by simp [ints]]
  exact h2

end Go.Proofs.Ytkjhncohanfciaa
