/- Texts on the program and its reference, put together (JoinM, SrcsM, ListM, Held, PB, PX, Copy, Hld, IntA, LsA, LsB, LsD, LsE, LsF, LsG, LiA, LiB, LsC, ListT, OwnV, LsH, LiI, SortJ, LiJ, LiK, LiC, LiD). -/
import Derived.Test.YtnmekcifbmcdpaaGLawListA
import Derived.Lib.SlicesCompact
import Derived.Deep.QuietTactic
import Derived.BigQuiet
import Derived.OwnWalk
import Derived.Deep.RegionHeld3
import Derived.IntWalk
import Derived.Deep.AppendSrc
import Derived.Deep.Upon
import Derived.Test.YtnmekcifbmcdpaaShelf
import Derived.Lib.RowBridge
import Derived.Sort.Grow
/- Plain mathematics: a tree put behind other nodes is that tree moved; what two pipes joined are; what a pipe with moved sources is. -/
namespace Go.Proofs.Ytnmekcifbmcdpaa

/-- A node behind n others. -/
def shNd (n : Nat) (x : Nd) : Nd := ⟨x.k, if 0 ≤ x.a then x.a + n else x.a, if 0 ≤ x.b then x.b + n else x.b, x.n, x.m⟩

/-- The nodes have no more below than the tree tells. -/
def T.Fit2 : T → Prop
  | .leaf x => x.a = -1 ∧ x.b = -1
  | .stem x t => x.b = -1 ∧ t.Fit2
  | .fork _ a b => a.Fit2 ∧ b.Fit2
theorem IsTree.fit2 {l : List Nd} {i : Nat} {t : T} (h : IsTree l i t) : t.Fit2 := by
  induction h with
  | leaf _ _ h1 h2 => exact ⟨h1, h2⟩
  | stem _ _ _ _ h2 _ ih => exact ⟨h2, ih⟩
  | fork _ _ _ _ _ _ _ _ iha ihb => exact ⟨iha, ihb⟩
theorem T.put_shift (t : T) : t.Fit2 → ∀ m n : Nat, (t.put m).map (shNd n) = t.put (m + n) := by
  induction t with
  | leaf x =>
    intro h m n
    obtain ⟨h1, h2⟩ := h
    obtain ⟨k, a, b, n', m'⟩ := x
    simp only at h1 h2
    subst h1 h2
    rfl
  | stem x t ih =>
    intro h m n
    obtain ⟨hb, ht⟩ := h
    have hp := t.size_pos
    simp only [T.put, List.map_append, ih ht, List.map_cons, List.map_nil, shNd]
    rw [if_pos (by omega), if_neg (by rw [hb]; omega)]
    have e : (m : Int) + (t.size : Int) - 1 + (n : Int) = ((m + n : Nat) : Int) + (t.size : Int) - 1 := by omega
    rw [e]
  | fork x a b iha ihb =>
    intro h m n
    obtain ⟨ha, hb⟩ := h
    have hp := a.size_pos
    have hq := b.size_pos
    simp only [T.put, List.map_append, iha ha, ihb hb, List.map_cons, List.map_nil, shNd]
    rw [if_pos (by omega), if_pos (by omega)]
    have e : (m : Int) + (a.size : Int) - 1 + (n : Int) = ((m + n : Nat) : Int) + (a.size : Int) - 1 := by omega
    have e2 : (m : Int) + (a.size : Int) + (b.size : Int) - 1 + (n : Int) = ((m + n : Nat) : Int) + (a.size : Int) + (b.size : Int) - 1 := by omega
    have e3 : m + a.size + n = m + n + a.size := by omega
    rw [e, e2, e3]

/-- Whether two pipes can be joined. -/
def joinOk (l r : List Nd) (k : Int) : Bool := pipeOk l && (pipeOk r && ((arity k == 2) && decide (l.length + r.length < 12)))
/-- Two pipes joined. -/
structure JoinOf (l r : List Nd) (k : Int) (q : List Nd) (ok : Bool) : Prop where
  no : joinOk l r k = false → q = [] ∧ ok = false
  yes : ∀ {ta tb : T}, joinOk l r k = true → IsTree l (l.length - 1) ta → IsTree r (r.length - 1) tb → q = (T.fork ⟨k, 0, 0, 0, 0⟩ ta tb).put 0 ∧ ok = true
theorem join_parts (k : Int) (ta tb : T) (hb : tb.Fit2) : (T.fork ⟨k, 0, 0, 0, 0⟩ ta tb).put 0 = ta.put 0 ++ (tb.put 0).map (shNd ta.size) ++ [⟨k, (ta.size : Int) - 1, (ta.size : Int) + (tb.size : Int) - 1, 0, 0⟩] := by
  simp only [T.put, T.put_shift tb hb 0 ta.size]
  simp

/-- A node with its source moved. -/
def mvNd (to : List Int) (x : Nd) : Nd := if x.k = 0 then ⟨x.k, x.a, x.b, to.getD x.n.toNat 0, x.m⟩ else x
/-- Whether the sources of a pipe can be moved. -/
def moveOk (l : List Nd) (to : List Int) : Bool := pipeOk l && (decide (to.length = 3) && allB to 0 2)
/-- A pipe with its sources moved. -/
structure MoveOf (l : List Nd) (to : List Int) (q : List Nd) : Prop where
  no : moveOk l to = false → q = []
  yes : moveOk l to = true → q = l.map (mvNd to)
theorem source_n {l : List Nd} (h : pipeOk l = true) {i : Nat} {x : Nd} (hx : l[i]? = some x) (hk : x.k = 0) : ∃ s : Nat, x.n = (s : Int) ∧ s < 3 := by
  have h1 := (pipeOk_iff.1 h).node i x hx
  simp only [nodeOk, Bool.and_eq_true] at h1
  have h2 := h1.1
  simp [numsOk, hk, inR] at h2
  exact ⟨x.n.toNat, by omega, by omega⟩
theorem nds_set_n {l : List Nd} {k : Nat} {x : Nd} (hx : l[k]? = some x) (v : Int) : (nds l).set (k * 5 + 3) (.int .i64 v) = nds (l.set k ⟨x.k, x.a, x.b, v, x.m⟩) := by
  induction l generalizing k with
  | nil => simp at hx
  | cons y l ih =>
    cases k with
    | zero =>
      simp at hx
      subst hx
      simp [nds]
    | succ k =>
      have e : (k + 1) * 5 + 3 = k * 5 + 3 + 5 := by omega
      rw [e]
      have := ih (k := k) (by simpa using hx)
      simp only [nds, List.set_cons_succ, List.set]
      rw [← this]
theorem mv_step {l : List Nd} {to : List Int} {j : Nat} {x : Nd} (hx : l[j]? = some x) : ((l.take j).map (mvNd to) ++ l.drop j).set j (mvNd to x) = (l.take (j + 1)).map (mvNd to) ++ l.drop (j + 1) := by
  have hj : j < l.length := (List.getElem?_eq_some_iff.1 hx).1
  rw [List.set_append_right _ _ (by simp; omega), take_succ_of hx]
  have e : j - ((l.take j).map (mvNd to)).length = 0 := by simp; omega
  rw [e]
  cases h : l.drop j with
  | nil => have := congrArg List.length h; simp at this; omega
  | cons y r =>
    have : l.drop (j + 1) = r := by rw [← List.drop_drop, h]; rfl
    rw [this]
    simp
theorem mv_same {l : List Nd} {to : List Int} {j : Nat} {x : Nd} (hx : l[j]? = some x) (hk : x.k ≠ 0) : (l.take j).map (mvNd to) ++ l.drop j = (l.take (j + 1)).map (mvNd to) ++ l.drop (j + 1) := by
  have hj : j < l.length := (List.getElem?_eq_some_iff.1 hx).1
  rw [take_succ_of hx]
  cases h : l.drop j with
  | nil => have := congrArg List.length h; simp at this; omega
  | cons y r =>
    have h1 : l.drop (j + 1) = r := by rw [← List.drop_drop, h]; rfl
    have h2 : y = x := by
      have := List.getElem?_drop (xs := l) (i := j) (j := 0)
      rw [h] at this
      simp [hx] at this
      exact this
    rw [h1, h2]
    simp [mvNd, hk]

end Go.Proofs.Ytnmekcifbmcdpaa

/- Plain mathematics: the sources of a pipe, ascending, each once. -/
namespace Go.Proofs.Ytnmekcifbmcdpaa
open Go.Lib

/-- Whether a pipe has the source s. -/
def srcIn (l : List Nd) (s : Int) : Bool := l.any (fun x => x.k == 0 && x.n == s)
/-- The sources less than s, ascending. -/
def srcs (l : List Nd) (s : Nat) : List Int := ((List.range s).filter (fun s : Nat => srcIn l (s : Int))).map (fun s : Nat => (s : Int))
/-- The sources in the order of the nodes. -/
def nsOf (l : List Nd) : List Int := (l.filter (fun x => x.k == 0)).map (·.n)
structure SrcsOf (l : List Nd) (q : List Int) : Prop where
  no : pipeOk l = false → q = []
  yes : pipeOk l = true → q = srcs l 3

theorem srcs_succ (l : List Nd) (s : Nat) : srcs l (s + 1) = srcs l s ++ (if srcIn l s then [(s : Int)] else []) := by
  unfold srcs
  rw [List.range_succ, List.filter_append, List.map_append]
  congr 1
  by_cases h : srcIn l s <;> simp [h]
theorem srcs_len (l : List Nd) (s : Nat) : (srcs l s).length ≤ s := by
  unfold srcs
  rw [List.length_map]
  have := List.length_filter_le (fun s : Nat => srcIn l (s : Int)) (List.range s)
  simpa using this
theorem nsOf_succ {l : List Nd} {k : Nat} {x : Nd} (h : l[k]? = some x) : nsOf (l.take (k + 1)) = nsOf (l.take k) ++ (if x.k == 0 then [x.n] else []) := by
  unfold nsOf
  rw [take_succ_of h, List.filter_append, List.map_append]
  congr 1
  by_cases e : (x.k == 0) = true
  · simp [e]
  · simp [e]
theorem nsOf_len (l : List Nd) (k : Nat) : (nsOf (l.take k)).length ≤ k := by
  unfold nsOf
  rw [List.length_map]
  have := List.length_filter_le (fun x : Nd => x.k == 0) (l.take k)
  have := List.length_take_le k l
  omega

/-- Two ascending lists with the same members are one. -/
theorem asc_unique : ∀ (a b : List Int), a.Pairwise (· < ·) → b.Pairwise (· < ·) → (∀ x, x ∈ a ↔ x ∈ b) → a = b := by
  intro a
  induction a with
  | nil =>
    intro b _ _ h
    cases b with
    | nil => rfl
    | cons y b => exact absurd ((h y).2 (by simp)) (by simp)
  | cons x a ih =>
    intro b ha hb h
    cases b with
    | nil => exact absurd ((h x).1 (by simp)) (by simp)
    | cons y b =>
      rw [List.pairwise_cons] at ha hb
      have hxy : x = y := by
        have h1 := (h x).1 (by simp)
        have h2 := (h y).2 (by simp)
        rcases List.mem_cons.1 h1 with e | e
        · exact e
        · rcases List.mem_cons.1 h2 with f | f
          · exact f.symm
          · have := ha.1 y f
            have := hb.1 x e
            omega
      subst hxy
      rw [ih b ha.2 hb.2 fun z => ?_]
      constructor
      · intro hz
        rcases List.mem_cons.1 ((h z).1 (List.mem_cons_of_mem _ hz)) with e | e
        · have := ha.1 z hz; omega
        · exact e
      · intro hz
        rcases List.mem_cons.1 ((h z).2 (List.mem_cons_of_mem _ hz)) with e | e
        · have := hb.1 z hz; omega
        · exact e

theorem compact_part (d : Array Int) (hs : ∀ i j, i ≤ j → j < d.size → d[i]! ≤ d[j]!) : ∀ m, m ≤ d.size →
    (∀ x, x ∈ compactUpTo d m ↔ ∃ j, j < m ∧ d[j]! = x) ∧ (compactUpTo d m).Pairwise (· < ·) := by
  intro m
  induction m with
  | zero => intro _; simp [compactUpTo]
  | succ m ih =>
    intro hm
    obtain ⟨h1, h2⟩ := ih (by omega)
    rw [compactUpTo_succ]
    by_cases hk : keeps d m = true
    · rw [if_pos hk]
      refine ⟨fun x => ?_, List.pairwise_append.2 ⟨h2, List.pairwise_singleton _ _, fun a ha b hb => ?_⟩⟩
      · rw [List.mem_append, h1, List.mem_singleton]
        constructor
        · rintro (⟨j, hj, e⟩ | e)
          · exact ⟨j, by omega, e⟩
          · exact ⟨m, by omega, e.symm⟩
        · rintro ⟨j, hj, e⟩
          by_cases hjm : j = m
          · subst hjm; exact .inr e.symm
          · exact .inl ⟨j, by omega, e⟩
      · rw [List.mem_singleton.1 hb]
        obtain ⟨j, hj, e⟩ := (h1 a).1 ha
        have e1 := hs j (m - 1) (by omega) (by omega)
        have e2 := hs (m - 1) m (by omega) (by omega)
        simp only [keeps, decide_eq_true_eq] at hk
        have : m ≠ 0 := by omega
        have hne := hk.resolve_left this
        omega
    · rw [if_neg hk, List.append_nil]
      refine ⟨fun x => ?_, h2⟩
      rw [h1]
      constructor
      · rintro ⟨j, hj, e⟩; exact ⟨j, by omega, e⟩
      · rintro ⟨j, hj, e⟩
        by_cases hjm : j = m
        · subst hjm
          simp only [keeps, decide_eq_true_eq, not_or] at hk
          have h0 : 0 < j := by omega
          exact ⟨j - 1, by omega, by have := Classical.not_not.1 hk.2; rw [← this]; exact e⟩
        · exact ⟨j, by omega, e⟩

theorem mem_arr {d : List Int} {x : Int} : x ∈ d ↔ ∃ j, j < d.length ∧ d.toArray[j]! = x := by
  rw [List.mem_iff_getElem]
  constructor
  · rintro ⟨j, hj, e⟩; exact ⟨j, hj, by simp [hj, e]⟩
  · rintro ⟨j, hj, e⟩; exact ⟨j, hj, by simpa [hj] using e⟩

theorem sorted_compact (zs : List Int) : (∀ x, x ∈ compact (zs.mergeSort fun x y => decide (x ≤ y)) ↔ x ∈ zs) ∧ (compact (zs.mergeSort fun x y => decide (x ≤ y))).Pairwise (· < ·) := by
  obtain ⟨d, hd⟩ : ∃ d, d = zs.mergeSort fun x y => decide (x ≤ y) := ⟨_, rfl⟩
  have hp : d.Pairwise (fun a b => decide (a ≤ b) = true) := by
    rw [hd]
    exact List.pairwise_mergeSort (fun a b c h1 h2 => by simp at *; omega) (fun a b => by simp; omega) zs
  have hs : ∀ i j, i ≤ j → j < d.toArray.size → d.toArray[i]! ≤ d.toArray[j]! := fun i j hij hj => by
    have hj' : j < d.length := by simpa using hj
    have hi' : i < d.length := by omega
    simp only [List.getElem!_toArray, getElem!_pos d i hi', getElem!_pos d j hj']
    by_cases e : i = j
    · subst e; exact Int.le_refl _
    · have := List.pairwise_iff_getElem.1 hp i j hi' hj' (by omega)
      simpa using this
  obtain ⟨h1, h2⟩ := compact_part d.toArray hs d.length (by simp)
  rw [← hd]
  refine ⟨fun x => ?_, h2⟩
  unfold compact
  rw [h1, ← mem_arr, hd, List.mem_mergeSort]

theorem srcs_asc (l : List Nd) (s : Nat) : (srcs l s).Pairwise (· < ·) := by
  unfold srcs
  rw [List.pairwise_map]
  have := (List.pairwise_lt_range (n := s)).filter (fun s : Nat => srcIn l (s : Int))
  exact this.imp (fun h => by omega)

theorem srcs_of_ns {l : List Nd} (h : pipeOk l = true) : compact ((nsOf l).mergeSort fun x y => decide (x ≤ y)) = srcs l 3 := by
  obtain ⟨h1, h2⟩ := sorted_compact (nsOf l)
  refine asc_unique _ _ h2 (srcs_asc l 3) fun x => ?_
  rw [h1]
  simp only [nsOf, srcs, srcIn, List.mem_map, List.mem_filter, List.mem_range, List.any_eq_true, Bool.and_eq_true, beq_iff_eq]
  constructor
  · rintro ⟨y, ⟨hy, hk⟩, e⟩
    obtain ⟨i, hi⟩ := List.getElem?_of_mem hy
    obtain ⟨s, hs, hs3⟩ := source_n h hi hk
    exact ⟨s, ⟨hs3, y, hy, hk, hs⟩, by omega⟩
  · rintro ⟨s, ⟨hs3, y, hy, hk, hn⟩, e⟩
    exact ⟨y, ⟨hy, hk⟩, by omega⟩

end Go.Proofs.Ytnmekcifbmcdpaa

/- Plain mathematics: the list of a pipe, node by node. -/
namespace Go.Proofs.Ytnmekcifbmcdpaa
open Go.Lib

/-- Numbers that items can be. -/
def Items (l : List Int) : Prop := ∀ x ∈ l, 0 ≤ x ∧ x ≤ 99
/-- What stays of a sum or product. -/
def rst (x : Int) : Int := Int.tmod x 100
theorem rst_in {x : Int} (h : 0 ≤ x) : 0 ≤ rst x ∧ rst x ≤ 99 := by
  unfold rst
  rw [Int.tmod_eq_emod_of_nonneg h]
  omega
theorem Items.get {l : List Int} (h : Items l) {k : Nat} {x : Int} (hx : l[k]? = some x) : 0 ≤ x ∧ x ≤ 99 := h x (List.mem_of_getElem? hx)
theorem Items.nil_ : Items [] := fun _ h => absurd h (by simp)
theorem Items.app {a b : List Int} (ha : Items a) (hb : Items b) : Items (a ++ b) := fun x hx => (List.mem_append.1 hx).elim (ha x) (hb x)
theorem Items.sub {a b : List Int} (ha : Items a) (h : ∀ x ∈ b, x ∈ a) : Items b := fun x hx => ha x (h x hx)
theorem Items.take {a : List Int} (ha : Items a) (n : Nat) : Items (a.take n) := ha.sub fun _ => List.mem_of_mem_take
theorem Items.drop {a : List Int} (ha : Items a) (n : Nat) : Items (a.drop n) := ha.sub fun _ => List.mem_of_mem_drop
theorem drop_cons_of {l : List Int} {i : Nat} {x : Int} (h : l[i]? = some x) : l.drop i = x :: l.drop (i + 1) := by
  obtain ⟨hi, rfl⟩ := List.getElem?_eq_some_iff.1 h
  exact List.drop_eq_getElem_cons hi

/-- The index of the first number that is at least n. -/
def frst : List Int → Int → Nat
  | [], _ => 0
  | x :: l, n => if x < n then frst l n + 1 else 0
theorem frst_le : ∀ (l : List Int) (n : Int), frst l n ≤ l.length
  | [], _ => by simp [frst]
  | x :: l, n => by
    have := frst_le l n
    simp only [frst, List.length_cons]
    split <;> omega
theorem frst_step {l : List Int} {i : Nat} {x n : Int} (h : l[i]? = some x) (hx : x < n) : frst (l.drop i) n = frst (l.drop (i + 1)) n + 1 := by
  rw [drop_cons_of h, frst, if_pos hx]
theorem frst_stop {l : List Int} {i : Nat} {x n : Int} (h : l[i]? = some x) (hx : ¬ x < n) : frst (l.drop i) n = 0 := by
  rw [drop_cons_of h, frst, if_neg hx]
theorem frst_end {l : List Int} {i : Nat} (n : Int) (h : l.length ≤ i) : frst (l.drop i) n = 0 := by
  rw [List.drop_eq_nil_of_le h, frst]

/-- The sums of the numbers at equal places. -/
def zipL (a b : List Int) : List Int := List.zipWith (fun x y => rst (x + y)) a b
theorem zipL_len (a b : List Int) : (zipL a b).length = min a.length b.length := List.length_zipWith
theorem zipL_get {a b : List Int} {i : Nat} {x y : Int} (hx : a[i]? = some x) (hy : b[i]? = some y) : (zipL a b)[i]? = some (rst (x + y)) := by
  simp [zipL, List.getElem?_zipWith, hx, hy]
theorem zipL_items {a b : List Int} (ha : Items a) (hb : Items b) : Items (zipL a b) := fun z hz => by
  obtain ⟨i, hi⟩ := List.mem_iff_getElem?.1 hz
  have hl := (List.getElem?_eq_some_iff.1 hi).1
  rw [zipL_len] at hl
  obtain ⟨x, hx⟩ := get_of_lt a (k := i) (by omega)
  obtain ⟨y, hy⟩ := get_of_lt b (k := i) (by omega)
  rw [zipL_get hx hy] at hi
  obtain rfl := Option.some.inj hi
  have := ha.get hx
  have := hb.get hy
  exact rst_in (by omega)

/-- The first i numbers of each list, by turns. -/
def turnTo (a b : List Int) : Nat → List Int
  | 0 => []
  | i + 1 => turnTo a b i ++ a[i]?.toList ++ b[i]?.toList
/-- The numbers of both lists by turns. -/
def turnL (a b : List Int) : List Int := turnTo a b (max a.length b.length)
theorem turnTo_len (a b : List Int) : ∀ i, (turnTo a b i).length ≤ 2 * i
  | 0 => by simp [turnTo]
  | i + 1 => by
    have := turnTo_len a b i
    have h1 : a[i]?.toList.length ≤ 1 := by cases a[i]? <;> simp
    have h2 : b[i]?.toList.length ≤ 1 := by cases b[i]? <;> simp
    simp only [turnTo, List.length_append]
    omega
theorem turnTo_items {a b : List Int} (ha : Items a) (hb : Items b) : ∀ i, Items (turnTo a b i)
  | 0 => Items.nil_
  | i + 1 => ((turnTo_items ha hb i).app (fun x hx => ha.get (k := i) (by simpa using hx))).app (fun x hx => hb.get (k := i) (by simpa using hx))
theorem turnTo_len_eq (a b : List Int) : ∀ i, (turnTo a b i).length = min i a.length + min i b.length
  | 0 => by simp [turnTo]
  | i + 1 => by
    have := turnTo_len_eq a b i
    simp only [turnTo, List.length_append]
    by_cases h1 : i < a.length <;> by_cases h2 : i < b.length
    · simp [h1, h2]; omega
    · simp [h1, h2]; omega
    · simp [h1, h2]; omega
    · simp [h1, h2]; omega
theorem turnL_len (a b : List Int) : (turnL a b).length = a.length + b.length := by
  rw [turnL, turnTo_len_eq]; omega

/-- Both lists merged by their first numbers. -/
def mergeL (a b : List Int) : List Int := List.merge a b (fun x y => decide (x ≤ y))
theorem mergeL_len (a b : List Int) : (mergeL a b).length = a.length + b.length := List.length_merge _ a b
theorem mergeL_nil (a : List Int) : mergeL a [] = a := by simp [mergeL]
theorem nil_mergeL (b : List Int) : mergeL [] b = b := by simp [mergeL]
theorem mergeL_left {a b : List Int} {x y : Int} (h : x ≤ y) : mergeL (x :: a) (y :: b) = x :: mergeL a (y :: b) := by
  unfold mergeL; rw [List.cons_merge_cons, if_pos (by simpa using h)]
theorem mergeL_right {a b : List Int} {x y : Int} (h : ¬ x ≤ y) : mergeL (x :: a) (y :: b) = y :: mergeL (x :: a) b := by
  unfold mergeL; rw [List.cons_merge_cons, if_neg (by simpa using h)]
theorem mergeL_items {a b : List Int} (ha : Items a) (hb : Items b) : Items (mergeL a b) := fun x hx => by
  rcases (List.mem_merge.1 hx) with h | h
  · exact ha x h
  · exact hb x h

/-- n times each number and m more. -/
def mapL (n m : Int) (l : List Int) : List Int := l.map fun x => rst (n * x + m)
/-- The numbers whose rest is m. -/
def filL (n m : Int) (l : List Int) : List Int := l.filter fun x => Int.tmod x n == m
/-- The sum of the numbers and s. -/
def sumL (s : Int) (l : List Int) : Int := l.foldl (fun s x => rst (s + x)) s
/-- The running sums behind s. -/
def scanL (s : Int) : List Int → List Int
  | [] => []
  | x :: l => rst (s + x) :: scanL (rst (s + x)) l
theorem sumL_in {s : Int} (hs : 0 ≤ s ∧ s ≤ 99) : ∀ {l : List Int}, Items l → 0 ≤ sumL s l ∧ sumL s l ≤ 99 := by
  intro l
  induction l generalizing s with
  | nil => intro _; exact hs
  | cons x l ih =>
    intro h
    have hx := h x (by simp)
    exact ih (rst_in (by omega)) (fun y hy => h y (by simp [hy]))
theorem sumL_succ {l : List Int} {i : Nat} {x : Int} (s : Int) (h : l[i]? = some x) : sumL s (l.take (i + 1)) = rst (sumL s (l.take i) + x) := by
  unfold sumL
  rw [take_succ_of h, List.foldl_append]
  rfl
theorem scanL_len : ∀ (l : List Int) (s : Int), (scanL s l).length = l.length
  | [], _ => rfl
  | x :: l, s => by simp [scanL, scanL_len l]
theorem scanL_app (l : List Int) (x s : Int) : scanL s (l ++ [x]) = scanL s l ++ [rst (sumL s l + x)] := by
  induction l generalizing s with
  | nil => rfl
  | cons y l ih => simp only [List.cons_append, scanL, ih, sumL, List.foldl_cons]
theorem scanL_succ {l : List Int} {i : Nat} {x : Int} (s : Int) (h : l[i]? = some x) : scanL s (l.take (i + 1)) = scanL s (l.take i) ++ [sumL s (l.take (i + 1))] := by
  rw [take_succ_of h, scanL_app]
  congr 2
  unfold sumL
  rw [List.foldl_append]
  rfl
theorem scanL_items {s : Int} (hs : 0 ≤ s) : ∀ {l : List Int}, Items l → Items (scanL s l) := by
  intro l
  induction l generalizing s with
  | nil => intro _; exact Items.nil_
  | cons x l ih =>
    intro h y hy
    have hx := h x (by simp)
    have hr := rst_in (x := s + x) (by omega)
    rcases List.mem_cons.1 hy with e | e
    · rw [e]; exact hr
    · exact ih hr.1 (fun z hz => h z (by simp [hz])) y e
theorem mapL_succ {l : List Int} {i : Nat} {x : Int} (n m : Int) (h : l[i]? = some x) : mapL n m (l.take (i + 1)) = mapL n m (l.take i) ++ [rst (n * x + m)] := by
  unfold mapL; rw [take_succ_of h, List.map_append]; rfl
theorem mapL_len (n m : Int) (l : List Int) : (mapL n m l).length = l.length := List.length_map _
theorem mapL_items {n m : Int} {l : List Int} (hn : 0 ≤ n) (hm : 0 ≤ m) (h : Items l) : Items (mapL n m l) := fun y hy => by
  obtain ⟨x, hx, rfl⟩ := List.mem_map.1 hy
  have := Int.mul_nonneg hn (h x hx).1
  exact rst_in (by omega)
theorem filL_succ {l : List Int} {i : Nat} {x : Int} (n m : Int) (h : l[i]? = some x) : filL n m (l.take (i + 1)) = filL n m (l.take i) ++ (if Int.tmod x n == m then [x] else []) := by
  unfold filL; rw [take_succ_of h, List.filter_append]
  congr 1
  by_cases e : (Int.tmod x n == m) = true <;> simp [e]
theorem filL_len (n m : Int) (l : List Int) : (filL n m l).length ≤ l.length := List.length_filter_le _ _
theorem filL_items {n m : Int} {l : List Int} (h : Items l) : Items (filL n m l) := h.sub fun _ hx => (List.mem_filter.1 hx).1

/-- The sums of the groups of the first i numbers, as they are made. -/
def batTo (n : Nat) (a : List Int) : Nat → List Int
  | 0 => []
  | i + 1 =>
    let o := if i % n = 0 then batTo n a i ++ [0] else batTo n a i
    o.set (o.length - 1) (rst (o.getD (o.length - 1) 0 + a.getD i 0))
theorem batTo_len (n : Nat) (a : List Int) : ∀ i, (batTo n a i).length ≤ i
  | 0 => by simp [batTo]
  | i + 1 => by
    have := batTo_len n a i
    simp only [batTo, List.length_set]
    split
    · simp; omega
    · omega
theorem batTo_pos {n : Nat} (hn : 0 < n) (a : List Int) : ∀ i, 0 < i → 0 < (batTo n a i).length
  | 0, h => absurd h (by omega)
  | i + 1, _ => by
    simp only [batTo, List.length_set]
    split
    · simp
    · rename_i h0
      refine batTo_pos hn a i (Nat.pos_of_ne_zero fun e => h0 ?_)
      rw [e, Nat.zero_mod]
/-- The sums of groups of n. -/
def batL (n : Nat) (a : List Int) : List Int := batTo n a a.length

end Go.Proofs.Ytnmekcifbmcdpaa

/- Contracts: marks in nodes are read again; marks in pipes. -/
namespace Go.Proofs.Ytnmekcifbmcdpaa
open Go.RowKit

set_option maxHeartbeats 800000 in
theorem markPipe_any (A : Option Addr) (c : Nat) (l : List Nd) (k : Int) (w : World) (base : Nat) (h : OwnN w base A c l) (hn : l.length ≤ 1048576) (hk0 : 0 ≤ k) (hk1 : k ≤ 16777216) :
    Calls Try.prog 23 #[.agg #[.slice A l.length c], .int .i64 k] w fun e w' => e = .returned (.int .i64 (k + 5 * l.length)) ∧ OwnN w' base A c (mkN l.length k) ∧ w.grownBy w' (rowOf A) := by
  have hb0 := (Below.refl w.heap.size w).alloc (Nat.le_refl _) (.cells #[.slice A l.length c] 32)
  have Hh := Lib.hid (h.below hb0 (Nat.le_refl _))
  have Hb0 := Lib.hid (World.grownBy_alloc w (.cells #[.slice A l.length c] 32) (rowOf A))
  clear h hb0
  go_enter Try.func23, Try.ntmps23
  go_wp2_with fail
  refine (markNodeS_any A c l k _ base Hh.out hn hk0 hk1).mono ?_
  rintro e w1 ⟨rfl, ho, hg⟩
  have Ho := Lib.hid ho
  have Hg := Lib.hid hg
  clear ho hg
  go_wp2_with fail
  go_ret
  exact ⟨rfl, Ho.out, ⟨Hg.out.os.trans Hb0.out.os, Hg.out.tape.trans Hb0.out.tape, Hg.out.output.trans Hb0.out.output, Nat.le_trans Hb0.out.size Hg.out.size, fun j hj hne => (Hg.out.block j (Nat.lt_of_lt_of_le hj Hb0.out.size) hne).trans (Hb0.out.block j hj hne)⟩⟩

end Go.Proofs.Ytnmekcifbmcdpaa

/- Boxes that hold pipes made by calls, through calls and through marks. -/
namespace Go.Proofs.Ytnmekcifbmcdpaa
open Go.RowKit

/-- The box bx holds a pipe, whose nodes l lie in memory of its own, from block base on and before the box. -/
structure PB (w : World) (bx base : Nat) (A : Option Addr) (c : Nat) (l : List Nd) : Prop where
  box : Bk w bx 32 [.slice A l.length c]
  own : OwnN w base A c l
  lt : ∀ g, rowOf A = some g → g < bx

/-- The box b0 holds a pipe, whose nodes l lie before it. -/
structure AB (w : World) (b0 : Nat) (A : Option Addr) (c : Nat) (l : List Nd) : Prop where
  box : Bk w b0 24 [.slice A l.length c]
  rd : RdN w b0 A l

section
variable {w w' : World} {bx base c b0 : Nat} {A : Option Addr} {l : List Nd}
theorem PB.below {C : Nat} (h : PB w bx base A c l) (hb : Below C w w') (hC : w.heap.size ≤ C) : PB w' bx base A c l := ⟨h.box.below hb (by have := h.box.lt; omega), h.own.below hb hC, h.lt⟩
theorem PB.drewN (h : PB w bx base A c l) (n : Nat) : PB (w.drewN n) bx base A c l := ⟨h.box.drewN n, h.own.drewN n, h.lt⟩
theorem PB.cell (h : PB w bx base A c l) : w.cell? ⟨bx, 0, none⟩ = some (.slice A l.length c) := h.box.cell 0
theorem AB.below {C : Nat} (h : AB w b0 A c l) (hb : Below C w w') (hC : b0 < C) : AB w' b0 A c l := ⟨h.box.below hb hC, h.rd.below hb (by omega)⟩
theorem AB.drewN (h : AB w b0 A c l) (n : Nat) : AB (w.drewN n) b0 A c l := ⟨h.box.drewN n, h.rd.drewN n⟩
theorem AB.cell (h : AB w b0 A c l) : w.cell? ⟨b0, 0, none⟩ = some (.slice A l.length c) := h.box.cell 0
variable {bx2 base2 c2 : Nat} {A2 : Option Addr} {l2 : List Nd}
theorem PB.mark_left (h : PB w bx base A c l) (k : PB w bx2 base2 A2 c2 l2) (hlt : bx < base2) (hg : w.grownBy w' (rowOf A2)) : PB w' bx base A c l := by
  refine ⟨h.box.grown hg fun e => ?_, h.own.grown hg ?_, h.lt⟩
  · have := (k.own.row_lt _ e.symm).1; omega
  · cases hA : rowOf A with
    | none => exact .inl rfl
    | some g =>
      refine .inr fun e => ?_
      have := (k.own.row_lt _ e.symm).1
      have := h.lt g hA
      omega
theorem PB.mark_right (h : PB w bx base A c l) (k : PB w bx2 base2 A2 c2 l2) (hlt : bx2 ≤ base) (hle : base ≤ bx) (hg : w.grownBy w' (rowOf A2)) : PB w' bx base A c l := by
  refine ⟨h.box.grown hg fun e => ?_, h.own.grown hg ?_, h.lt⟩
  · have := k.lt _ e.symm; omega
  · cases hA : rowOf A with
    | none => exact .inl rfl
    | some g =>
      refine .inr fun e => ?_
      have := k.lt _ e.symm
      have := (h.own.row_lt g hA).1
      omega
theorem PB.mark_self {m : List Nd} (h : PB w bx base A c l) (ho : OwnN w' base A c m) (hm : m.length = l.length) (hg : w.grownBy w' (rowOf A)) : PB w' bx base A c m :=
  ⟨by rw [hm]; exact h.box.grown hg (fun e => by have := h.lt _ e.symm; omega), ho, h.lt⟩
theorem AB.mark (h : AB w b0 A c l) (k : PB w bx2 base2 A2 c2 l2) (hlt : b0 < base2) (hz : base2 ≤ w.heap.size) (hg : w.grownBy w' (rowOf A2)) : AB w' b0 A c l :=
  ⟨h.box.grown hg (fun e => by have := (k.own.row_lt _ e.symm).1; omega), h.rd.grown k.own (by omega) hz hg⟩
/-- A call's own result, boxed. -/
theorem PB.new (h : OwnN w base A c l) : PB (w.alloc (.cells #[.slice A l.length c] 32)) w.heap.size base A c l :=
  ⟨Bk.new w _ [_], h.below ((Below.refl _ _).alloc (Nat.le_refl _) _) (Nat.le_refl _), fun g hg => (h.row_lt g hg).2⟩
end

end Go.Proofs.Ytnmekcifbmcdpaa

/- Boxes that hold pipes made by calls, told by an interval of blocks; through calls and through marks. -/
namespace Go.Proofs.Ytnmekcifbmcdpaa
open Go.RowKit

/-- The box bx holds a pipe, whose nodes l lie in memory of its own; both lie in blocks from lo on and before hi. -/
structure PX (w : World) (bx lo hi : Nat) (A : Option Addr) (c : Nat) (l : List Nd) : Prop where
  box : Bk w bx 32 [.slice A l.length c]
  own : OwnN w lo A c l
  lo_ : lo ≤ bx
  hi_ : bx < hi
  top : hi ≤ w.heap.size
  lt : ∀ g, rowOf A = some g → g < hi
  ne : ∀ g, rowOf A = some g → g ≠ bx

section
variable {w w' : World} {bx lo hi c : Nat} {A : Option Addr} {l : List Nd}
theorem PX.below {C : Nat} (h : PX w bx lo hi A c l) (hb : Below C w w') (hC : w.heap.size ≤ C) : PX w' bx lo hi A c l :=
  ⟨h.box.below hb (by have := h.box.lt; omega), h.own.below hb hC, h.lo_, h.hi_, Nat.le_trans h.top hb.size, h.lt, h.ne⟩
theorem PX.drewN (h : PX w bx lo hi A c l) (n : Nat) : PX (w.drewN n) bx lo hi A c l := ⟨h.box.drewN n, h.own.drewN n, h.lo_, h.hi_, h.top, h.lt, h.ne⟩
theorem PX.cell (h : PX w bx lo hi A c l) : w.cell? ⟨bx, 0, none⟩ = some (.slice A l.length c) := h.box.cell 0
theorem PX.new {b : Nat} (h : OwnN w b A c l) (hb : lo ≤ b) (hz : lo ≤ w.heap.size) : PX (w.alloc (.cells #[.slice A l.length c] 32)) w.heap.size lo (w.heap.size + 1) A c l :=
  ⟨Bk.new w _ [_], (h.below ((Below.refl _ _).alloc (Nat.le_refl _) _) (Nat.le_refl _)).base_ hb, hz, Nat.lt_succ_self _, by simp, fun g hg => by have := (h.row_lt g hg).2; omega, fun g hg => by have := (h.row_lt g hg).2; omega⟩
theorem PX.set {b : Nat} (h : OwnN w b A c l) (hx : Bk w bx 32 [.slice none 0 0]) (hb : lo ≤ b) (h1 : lo ≤ bx) (hne : ∀ g, rowOf A = some g → g ≠ bx) : PX (w.setCell ⟨bx, 0, none⟩ (.slice A l.length c)) bx lo w.heap.size A c l :=
  ⟨hx.set_ 0 _, (h.grown (grown_one (World.grownBy.refl w (some bx)) 0 _) (by
    cases hA : rowOf A with
    | none => exact .inl rfl
    | some g => exact .inr fun e => hne g hA (Option.some.inj e))).base_ hb, h1, hx.lt, by simp [World.setCell], fun g hg => (h.row_lt g hg).2, hne⟩
theorem PX.end_set {a : World} {b : Nat} (hb0 : Below a.heap.size a w) (h : OwnN w b A c l) (hx : Bk w bx 32 [.slice none 0 0]) (hb : a.heap.size ≤ b) (h1 : a.heap.size ≤ bx) (hne : ∀ g, rowOf A = some g → g ≠ bx) :
    ∃ W : World, W = w.setCell ⟨bx, 0, none⟩ (.slice A l.length c) ∧ PX W bx a.heap.size w.heap.size A c l ∧ Below a.heap.size a W :=
  ⟨_, rfl, PX.set h hx hb h1 hne, hb0.setCell (p := ⟨bx, 0, none⟩) h1 _⟩
theorem PX.end_new {a : World} {b : Nat} (hb0 : Below a.heap.size a w) (h : OwnN w b A c l) (hb : a.heap.size ≤ b) :
    ∃ W : World, W = w.alloc (.cells #[.slice A l.length c] 32) ∧ PX W w.heap.size a.heap.size (w.heap.size + 1) A c l ∧ Below a.heap.size a W :=
  ⟨_, rfl, PX.new h hb hb0.size, hb0.alloc hb0.size _⟩
variable {bx2 lo2 hi2 c2 : Nat} {A2 : Option Addr} {l2 : List Nd}
theorem PX.row_lo (h : PX w bx lo hi A c l) : ∀ g, rowOf A = some g → lo ≤ g := fun g hg => (h.own.row_lt g hg).1
theorem PX.mark_other (h : PX w bx lo hi A c l) (k : PX w bx2 lo2 hi2 A2 c2 l2) (hd : hi ≤ lo2 ∨ hi2 ≤ lo) (hg : w.grownBy w' (rowOf A2)) : PX w' bx lo hi A c l := by
  refine ⟨h.box.grown hg fun e => ?_, h.own.grown hg ?_, h.lo_, h.hi_, Nat.le_trans h.top hg.size, h.lt, h.ne⟩
  · have h1 := k.row_lo _ e.symm
    have h2 := k.lt _ e.symm
    have h3 := h.lo_
    have h4 := h.hi_
    omega
  · cases hA : rowOf A with
    | none => exact .inl rfl
    | some g =>
      refine .inr fun e => ?_
      have h1 := k.row_lo _ e.symm
      have h2 := k.lt _ e.symm
      have h3 := h.row_lo g hA
      have h4 := h.lt g hA
      omega
theorem PX.mark_self {m : List Nd} (h : PX w bx lo hi A c l) (ho : OwnN w' lo A c m) (hm : m.length = l.length) (hg : w.grownBy w' (rowOf A)) : PX w' bx lo hi A c m :=
  ⟨by rw [hm]; exact h.box.grown hg (fun e => h.ne _ e.symm rfl), ho, h.lo_, h.hi_, Nat.le_trans h.top hg.size, h.lt, h.ne⟩
theorem AB.mark_px {b0 : Nat} (h : AB w b0 A c l) (k : PX w bx2 lo2 hi2 A2 c2 l2) (hlt : b0 < lo2) (hg : w.grownBy w' (rowOf A2)) : AB w' b0 A c l :=
  ⟨h.box.grown hg (fun e => by have := k.row_lo _ e.symm; omega), h.rd.grown k.own (by omega) (by have := k.lo_; have := k.hi_; have := k.top; omega) hg⟩
theorem Bk.mark_px {g : Nat} {t : TypeId} {cs : List Value} (h : Bk w g t cs) (k : PX w bx2 lo2 hi2 A2 c2 l2) (hlt : g < lo2) (hg : w.grownBy w' (rowOf A2)) : Bk w' g t cs :=
  h.grown hg (fun e => by have := k.row_lo _ e.symm; omega)
theorem PX.below_mark {B : Nat} {a : World} (k : PX w bx2 lo2 hi2 A2 c2 l2) (hb : Below B a w) (hB : B ≤ lo2) (hz : B ≤ w.heap.size) (hg : w.grownBy w' (rowOf A2)) : Below B a w' :=
  hb.grown hg hz (fun g h => by have := k.row_lo g h; omega)
end

end Go.Proofs.Ytnmekcifbmcdpaa

/- Contracts of the functions that copy lists of numbers into new memory, compare them, and count them. -/
namespace Go.Proofs.Ytnmekcifbmcdpaa
open Go.RowKit

theorem Try.infoInt : (Try.prog.info? 3).map (fun i => (i.zero, i.size, i.bytes)) = some (some (.int .i64 0), 1, 8) := by kernel_rfl
theorem Try.infoInts : (Try.prog.info? 28).map (fun i => (i.zero, i.size, i.bytes)) = some (some (.slice none 0 0), 1, 24) := by kernel_rfl

set_option maxHeartbeats 400000 in
theorem eqIntS_any (A1 A2 : Option Addr) (c1 c2 : Nat) (l1 l2 : List Int) (w : World) (B : Nat) (h1 : RdI w B A1 l1) (h2 : RdI w B A2 l2) (n1 : l1.length ≤ 1048576) :
    Calls Try.prog 20 #[.slice A1 l1.length c1, .slice A2 l2.length c2] w fun e w' => e = .returned (.bool (decide (l1 = l2))) ∧ Same w w' := by
  by_cases hl : l1.length = l2.length
  · have hb' : (l1.length != l2.length) = false := by simp [hl]
    have Hl := Lib.hid hl
    clear hl
    go_enter Try.func20, Try.ntmps20
    go_wp2
    go_loopw [5] (fun i wr => ∃ k : Nat, k ≤ l1.length ∧ i = .int .i64 k ∧ l1.take k = l2.take k ∧ Same w wr) (fun i _ => l1.length - (intOf i).toNat)
    case atStart => exact ⟨0, Nat.zero_le _, rfl, by simp, Same.refl _⟩
    case round =>
      obtain ⟨k, hk, rfl, hall, hs⟩ := hrel
      have Hall := Lib.hid hall
      clear hall
      by_cases hlt : k < l1.length
      · have hlt2 : k < l2.length := by rw [← Hl.out]; exact hlt
        obtain ⟨ad, x, rfl, hx, hc⟩ := (h1.same hs).at_ hlt
        obtain ⟨ad2, y, rfl, hy, hc2⟩ := (h2.same hs).at_ hlt2
        have Hx := Lib.hid hx
        have Hy := Lib.hid hy
        have Hs := Lib.hid hs
        clear hx hy h1 h2 hs
        by_cases hxy : x = y
        · subst hxy
          go_wp2
          go_quiet (fail)
          all_goals go_wp2
          go_roundw
          case rel => exact ⟨k + 1, by omega, by go_num, take_eq_succ Hall.out Hx.out Hy.out, Hs.out.drewN _⟩
          case measure => simp [intOf]; omega
        · have hb2 : (x != y) = true := by simp [hxy]
          have Hxy : Hid (¬ x = y) := hxy
          clear hxy
          go_wp2
          go_quiet (fail)
          all_goals go_wp2
          go_ret
          exact ⟨ret_bool (decide_eq_false (ne_of_get Hx.out Hy.out Hxy.out)).symm, Hs.out.drewN _⟩
      · go_wp2
        go_ret
        exact ⟨ret_bool (decide_eq_true (eq_of_take (by omega) (by rw [← Hl.out]; omega) Hall.out)).symm, hs⟩
  · have hb' : (l1.length != l2.length) = true := by simp [hl]
    have Hl : Hid (¬ l1.length = l2.length) := hl
    clear hl
    go_enter Try.func20, Try.ntmps20
    go_wp2
    go_ret
    exact ⟨ret_bool (by rw [decide_eq_false]; intro e; exact Hl.out (by rw [e])), Same.refl _⟩

/-- The same, met inside a region that draws its order. -/
theorem eqIntS_q {A1 A2 : Option Addr} {c1 c2 : Nat} {l1 l2 : List Int} {w : World} {B n : Nat} {b : Bool} (h1 : RdI w B A1 l1) (h2 : RdI w B A2 l2) (n1 : l1.length ≤ 1048576) (hb : Hid (decide (l1 = l2) = b)) :
    Calls Try.prog 20 #[.slice A1 l1.length c1, .slice A2 l2.length c2] (w.drewN n) fun e w' => e = .returned (.bool b) ∧ ∃ m, w' = w.drewN m :=
  Calls.quiet_of ((eqIntS_any A1 A2 c1 c2 l1 l2 (w.drewN n) B (h1.drewN n) (h2.drewN n) n1).mono fun _ _ ⟨he, hs⟩ => ⟨by rw [he, hb.out], hs⟩)

set_option maxHeartbeats 400000 in
theorem eqIntSS_any (A1 A2 : Option Addr) (c1 c2 : Nat) (l1 l2 : List (List Int)) (w : World) (B : Nat) (h1 : RdR w B A1 l1) (h2 : RdR w B A2 l2) (n1 : l1.length ≤ 1048576)
    (m1 : ∀ r ∈ l1, r.length ≤ 1048576) :
    Calls Try.prog 22 #[.slice A1 l1.length c1, .slice A2 l2.length c2] w fun e w' => e = .returned (.bool (decide (l1 = l2))) ∧ Same w w' := by
  by_cases hl : l1.length = l2.length
  · have hb' : (l1.length != l2.length) = false := by simp [hl]
    have Hl := Lib.hid hl
    clear hl
    go_enter Try.func22, Try.ntmps22
    go_wp2
    go_loopw [5] (fun i wr => ∃ k : Nat, k ≤ l1.length ∧ i = .int .i64 k ∧ l1.take k = l2.take k ∧ Same w wr) (fun i _ => l1.length - (intOf i).toNat)
    case atStart => exact ⟨0, Nat.zero_le _, rfl, by simp, Same.refl _⟩
    case round =>
      obtain ⟨k, hk, rfl, hall, hs⟩ := hrel
      have Hall := Lib.hid hall
      clear hall
      by_cases hlt : k < l1.length
      · have hlt2 : k < l2.length := by rw [← Hl.out]; exact hlt
        obtain ⟨ad, x, Ax, cx, rfl, hx, hc, hrx⟩ := (h1.same hs).at_ hlt
        obtain ⟨ad2, y, Ay, cy, rfl, hy, hc2, hry⟩ := (h2.same hs).at_ hlt2
        have hnx := m1 x (List.mem_of_getElem? hx)
        have Hx := Lib.hid hx
        have Hy := Lib.hid hy
        have Hs := Lib.hid hs
        have Hrx := Lib.hid hrx
        have Hry := Lib.hid hry
        clear hx hy h1 h2 m1 hrx hry hs
        by_cases hxy : x = y
        · have Hd : Hid (decide (x = y) = true) := decide_eq_true hxy
          have Hxy := Lib.hid hxy
          clear hxy
          go_wp2
          go_quiet ((go_at_call 20; exact eqIntS_q Hrx.out Hry.out hnx Hd))
          all_goals go_wp2
          go_roundw
          case rel => exact ⟨k + 1, by omega, by go_num, take_eq_succ Hall.out Hx.out (by rw [Hxy.out]; exact Hy.out), Hs.out.drewN _⟩
          case measure => simp [intOf]; omega
        · have Hd : Hid (decide (x = y) = false) := decide_eq_false hxy
          have Hxy : Hid (¬ x = y) := hxy
          clear hxy
          go_wp2
          go_quiet ((go_at_call 20; exact eqIntS_q Hrx.out Hry.out hnx Hd))
          all_goals go_wp2
          go_ret
          exact ⟨ret_bool (decide_eq_false (ne_of_get Hx.out Hy.out Hxy.out)).symm, Hs.out.drewN _⟩
      · go_wp2
        go_ret
        exact ⟨ret_bool (decide_eq_true (eq_of_take (by omega) (by rw [← Hl.out]; omega) Hall.out)).symm, hs⟩
  · have hb' : (l1.length != l2.length) = true := by simp [hl]
    have Hl : Hid (¬ l1.length = l2.length) := hl
    clear hl
    go_enter Try.func22, Try.ntmps22
    go_wp2
    go_ret
    exact ⟨ret_bool (by rw [decide_eq_false]; intro e; exact Hl.out (by rw [e])), Same.refl _⟩

theorem bk_made (w : World) (t : TypeId) (l : List Int) (z : Value) {n : Nat} : Bk (w.alloc (.cells (madeCells #[z] n) t)) w.heap.size t (ints (l.take 0) ++ List.replicate (n - 0) z) := by
  have e : madeCells #[z] n = (List.replicate n z).toArray := by rw [← toList_madeCells_one]
  rw [e]
  have h := Bk.new w t (List.replicate n z)
  simpa [ints] using h
theorem fill_ints {w : World} {g k n : Nat} {t : TypeId} {l : List Int} {x : Int} (h : Bk w g t (ints (l.take k) ++ List.replicate (n - k) (.int .i64 0))) (hx : l[k]? = some x) (hk : k < n) :
    Bk (w.setCell ⟨g, k, none⟩ (.int .i64 x)) g t (ints (l.take (k + 1)) ++ List.replicate (n - (k + 1)) (.int .i64 0)) := by
  have h2 := h.set_ k (.int .i64 x)
  have hl : k < l.length := (List.getElem?_eq_some_iff.1 hx).1
  rw [fill_set _ _ _ (by simp [ints]; omega) hk] at h2
  rw [take_succ_of hx]
  simpa [ints] using h2

set_option maxHeartbeats 400000 in
theorem toIntS_any (A : Option Addr) (c : Nat) (l : List Int) (w : World) (B : Nat) (h : RdI w B A l) (hB : B ≤ w.heap.size) (hn : l.length ≤ 1048576) :
    Calls Try.prog 52 #[.slice A l.length c] w fun e w' => e = .returned (.slice (some ⟨w.heap.size, 0, none⟩) l.length l.length) ∧ Bk w' w.heap.size 3 (ints l) ∧ Below w.heap.size w w' := by
  have hmk := run_make_row' (P := Try.prog) 28 3 (.int .i64 0) 8 Try.underlying28 Try.infoInt rfl .i64 .i64 l.length (by omega) (by omega)
  go_enter Try.func52, Try.ntmps52
  go_wp2
  clear hmk
  go_loopw [4] (fun i wr => ∃ k : Nat, k ≤ l.length ∧ i = .int .i64 k ∧ Bk wr w.heap.size 3 (ints (l.take k) ++ List.replicate (l.length - k) (.int .i64 0)) ∧ Below w.heap.size w wr) (fun i _ => l.length - (intOf i).toNat)
  case atStart => exact ⟨0, Nat.zero_le _, rfl, bk_made _ _ _ _, (Below.refl _ _).alloc (Nat.le_refl _) _⟩
  case round =>
    obtain ⟨k, hk, rfl, hbk, hbl⟩ := hrel
    have Hbl := Lib.hid hbl
    clear hbl
    by_cases hlt : k < l.length
    · obtain ⟨ad, x, rfl, hx, hc⟩ := (h.below Hbl.out hB).at_ hlt
      have hold : ∃ u, wr.cell? ⟨w.heap.size, k, none⟩ = some u := by
        rw [hbk.cell]; exact get_of_lt _ (by simp [ints]; omega)
      obtain ⟨u, hu⟩ := hold
      have hf := hbk.free k
      have Hx := Lib.hid hx
      have Hbk := Lib.hid hbk
      clear hx h hbk
      go_wp2
      go_roundw
      case rel => exact ⟨k + 1, by omega, by go_num, fill_ints Hbk.out Hx.out hlt, Hbl.out.setCell (Nat.le_refl _) _⟩
      case measure => simp [intOf]; omega
    · go_wp2
      go_ret
      obtain rfl : k = l.length := by omega
      exact ⟨rfl, by simpa using hbk, Hbl.out⟩

set_option maxHeartbeats 400000 in
theorem toIntSS_any (A : Option Addr) (c : Nat) (rows : List (List Int)) (w : World) (B : Nat) (h : RdR w B A rows) (hB : B ≤ w.heap.size) (hn : rows.length ≤ 1048576) (hm : ∀ r ∈ rows, r.length ≤ 1048576) :
    Calls Try.prog 18 #[.slice A rows.length c] w fun e w' => e = .returned (.slice (some ⟨w.heap.size, 0, none⟩) rows.length rows.length) ∧ (∃ gs, OwnR w' 28 3 w.heap.size w.heap.size gs rows) ∧ Below w.heap.size w w' := by
  have hmk := run_make_row' (P := Try.prog) 25 28 (.slice none 0 0) 24 Try.underlying25 Try.infoInts rfl .i64 .i64 rows.length (by omega) (by omega)
  go_enter Try.func18, Try.ntmps18
  go_wp2
  clear hmk
  go_loopw [4] (fun i wr => ∃ gs : List Nat, gs.length ≤ rows.length ∧ i = .int .i64 gs.length ∧ PartR wr 28 3 w.heap.size gs rows ∧ Below w.heap.size w wr) (fun i _ => rows.length - (intOf i).toNat)
  case atStart => exact ⟨[], Nat.zero_le _, rfl, PartR.start (by simpa [ints] using bk_made w 28 [] (.slice none 0 0) (n := rows.length)), (Below.refl _ _).alloc (Nat.le_refl _) _⟩
  case round =>
    obtain ⟨gs, hk, rfl, hp, hbl⟩ := hrel
    by_cases hlt : gs.length < rows.length
    · obtain ⟨ad, r, Ar, cr, rfl, hx, hc, hrd⟩ := (h.below hbl hB).at_ hlt
      have hrn := hm r (List.mem_of_getElem? hx)
      have hsz := hbl.size
      have hgl := hp.top.lt
      have hold := hp.old hlt
      have hfr := hp.top.free gs.length
      have Hbl := Lib.hid hbl
      have Hx := Lib.hid hx
      have Hp := Lib.hid hp
      have Hrd := Lib.hid hrd
      have Hold := Lib.hid hold
      have Hfr := Lib.hid hfr
      clear hx h hp hm hrd hbl hold hfr
      go_wp2_with (go_at_call 52; refine (toIntS_any _ _ _ _ _ Hrd.out (by omega) hrn).mono ?_; rintro e w1 ⟨rfl, hb1, hb2⟩; have hc1 := (hb2.cell (p := ⟨w.heap.size, gs.length, none⟩) hgl).trans Hold.out; have hf1 := (hb2.frozen (p := ⟨w.heap.size, gs.length, none⟩) hgl).trans Hfr.out; have Hb1 := Lib.hid hb1; have Hb2 := Lib.hid hb2; clear hb1 hb2)
      go_roundw
      case rel => exact ⟨gs ++ [wr.heap.size], by rw [List.length_append]; exact hlt, by simp, Hp.out.step Hx.out Hb2.out Hb1.out, (Hbl.out.trans (Hb2.out.mono hsz)).setCell (Nat.le_refl _) _⟩
      case measure => simp [intOf]; omega
    · go_wp2
      go_ret
      exact ⟨rfl, ⟨gs, hp.done (by omega) (Nat.le_refl _)⟩, hbl⟩

set_option maxHeartbeats 400000 in
theorem szIntSS_any (A : Option Addr) (c : Nat) (rows : List (List Int)) (left : Int) (w : World) (B : Nat) (h : RdR w B A rows) (h0 : 0 ≤ left) (h1 : left ≤ 1048576) (hn : rows.length ≤ maxLen) (hm : ∀ r ∈ rows, r.length ≤ maxLen) :
    Calls Try.prog 15 #[.slice A rows.length c, .int .i64 left] w fun e w' => e = .returned (.int .i64 (szLeft left (bulk rows))) ∧ w = w' := by
  unfold maxLen at hn
  by_cases hl : left < rows.length
  · rw [szLeft_no (by unfold bulk; omega)]
    go_enter Try.func15, Try.ntmps15
    go_wp2
    go_ret
    exact ⟨rfl, rfl⟩
  · go_enter Try.func15, Try.ntmps15
    go_wp2
    go_loop [1, 5] (fun l i => ∃ k : Nat, k ≤ rows.length ∧ i = .int .i64 k ∧ ∃ m : Int, m = left - rows.length - ((rows.take k).map List.length).sum ∧ 0 ≤ m ∧ l = .int .i64 m) (fun _ i => rows.length - (intOf i).toNat)
    case atStart => exact ⟨0, Nat.zero_le _, rfl, _, by simp, by omega, rfl⟩
    case round =>
      obtain ⟨k, hk, rfl, m, hmm, hm0, rfl⟩ := hrel
      have hm1 : m ≤ 1048576 := by omega
      by_cases hlt : k < rows.length
      · obtain ⟨ad, r, Ar, cr, rfl, hx, hc, hrd⟩ := h.at_ hlt
        have hrn := hm r (List.mem_of_getElem? hx)
        have e1 := sum_take_succ hx
        have e2 := sum_take_le rows (k + 1)
        by_cases hfit : m < r.length
        · have Hfin : Hid (left < bulk rows) := by unfold bulk; show left < _; omega
          clear hx h hm hmm e1 e2
          go_wp2_with (go_at_call 56; refine (szIntS_any _ _ _ _ _ hm0 hm1 hrn).mono ?_; rintro e w1 ⟨rfl, rfl⟩; rw [szLeft_no hfit])
          go_ret
          exact ⟨ret_int (szLeft_no Hfin.out).symm, rfl⟩
        · have Hnew : Hid (m - r.length = left - rows.length - ((rows.take (k + 1)).map List.length).sum) := by show _ = _; omega
          clear hx h hm hmm e1 e2
          go_wp2_with (go_at_call 56; refine (szIntS_any _ _ _ _ _ hm0 hm1 hrn).mono ?_; rintro e w1 ⟨rfl, rfl⟩; rw [szLeft_yes hfit])
          go_round
          case rel => exact ⟨k + 1, by omega, by go_num, _, Hnew.out, by omega, rfl⟩
          case measure => simp [intOf]; omega
      · obtain rfl : k = rows.length := by omega
        rw [List.take_length] at hmm
        have Hfin : Hid ((bulk rows : Int) ≤ left ∧ m = left - bulk rows) := by
          unfold bulk
          exact ⟨by omega, by omega⟩
        clear hmm
        go_wp2
        go_ret
        exact ⟨ret_int (Hfin.out.2.trans (szLeft_yes (Int.not_lt.2 Hfin.out.1)).symm), rfl⟩

end Go.Proofs.Ytnmekcifbmcdpaa

/- What a call made, told by an interval of blocks; kept over calls that make memory and over marks in other intervals. -/
namespace Go.Proofs.Ytnmekcifbmcdpaa
open Go.RowKit

/-- Only blocks from lo on and before hi, and new ones, have changed. -/
structure Chg (lo hi : Nat) (w w' : World) : Prop where
  os : w'.os = w.os
  tape : w'.tape = w.tape
  output : w'.output = w.output
  size : w.heap.size ≤ w'.heap.size
  block : ∀ j, j < w.heap.size → (j < lo ∨ hi ≤ j) → w'.heap[j]? = w.heap[j]?

/-- P holds in every world that agrees on the blocks from lo on and before hi. -/
structure Held (w : World) (lo hi : Nat) (P : World → Prop) : Prop where
  le : lo ≤ hi
  top : hi ≤ w.heap.size
  at_ : ∀ w' : World, hi ≤ w'.heap.size → (∀ b, lo ≤ b → b < hi → w'.heap[b]? = w.heap[b]?) → P w'

section
variable {w w' a : World} {lo hi lo2 hi2 : Nat} {P : World → Prop}
theorem Chg.refl (lo hi : Nat) (w : World) : Chg lo hi w w := ⟨rfl, rfl, rfl, Nat.le_refl _, fun _ _ _ => rfl⟩
theorem Chg.of_grown {row : Option Nat} (h : w.grownBy w' row) (hr : ∀ g, row = some g → lo ≤ g ∧ g < hi) : Chg lo hi w w' :=
  ⟨h.os, h.tape, h.output, h.size, fun j hj ho => h.block j hj (fun e => by have := hr j e.symm; omega)⟩
theorem Chg.of_below (h : Below w.heap.size w w') : Chg lo hi w w' := ⟨h.os, h.tape, h.output, h.size, fun j hj _ => h.block j hj⟩
theorem Chg.trans {v : World} (h : Chg lo hi a w) (k : Chg lo hi w v) : Chg lo hi a v :=
  ⟨k.os.trans h.os, k.tape.trans h.tape, k.output.trans h.output, Nat.le_trans h.size k.size, fun j hj ho => (k.block j (Nat.lt_of_lt_of_le hj h.size) ho).trans (h.block j hj ho)⟩
theorem Chg.wide (h : Chg lo hi w w') (h1 : lo2 ≤ lo) (h2 : hi ≤ hi2) : Chg lo2 hi2 w w' := ⟨h.os, h.tape, h.output, h.size, fun j hj ho => h.block j hj (by omega)⟩
theorem Chg.set {b : Nat} (h : Chg lo hi a w) (h1 : lo ≤ b) (h2 : b < hi) (i : Nat) (u : Value) : Chg lo hi a (w.setCell ⟨b, i, none⟩ u) :=
  ⟨h.os, h.tape, h.output, by simpa [World.setCell] using h.size, fun j hj ho => (Below.heap_setCell w ⟨b, i, none⟩ u j (by intro e; subst e; omega)).trans (h.block j hj ho)⟩
theorem Chg.below_ {B : Nat} (k : Chg lo hi w w') (h : Below B a w) (hB : B ≤ lo) (hz : B ≤ w.heap.size) : Below B a w' :=
  ⟨k.os.trans h.os, k.tape.trans h.tape, k.output.trans h.output, Nat.le_trans h.size k.size, fun j hj => (k.block j (by omega) (by omega)).trans (h.block j hj)⟩
theorem Held.out (h : Held w lo hi P) : P w := h.at_ w h.top fun _ _ _ => rfl
theorem Held.chg (h : Held w lo hi P) (k : Chg lo2 hi2 w w') (hd : hi ≤ lo2 ∨ hi2 ≤ lo) : Held w' lo hi P :=
  ⟨h.le, Nat.le_trans h.top k.size, fun v hv hag => h.at_ v hv fun b h1 h2 => (hag b h1 h2).trans (k.block b (by have := h.top; omega) (by omega))⟩
theorem Held.below {C : Nat} (h : Held w lo hi P) (hb : Below C w w') (hC : hi ≤ C) : Held w' lo hi P :=
  ⟨h.le, Nat.le_trans h.top hb.size, fun v hv hag => h.at_ v hv fun b h1 h2 => (hag b h1 h2).trans (hb.block b (by omega))⟩
theorem Held.drewN (h : Held w lo hi P) (n : Nat) : Held (w.drewN n) lo hi P := ⟨h.le, h.top, h.at_⟩
theorem Held.mono {Q : World → Prop} (h : Held w lo hi P) (hq : ∀ v, P v → Q v) : Held w lo hi Q := ⟨h.le, h.top, fun v hv hag => hq v (h.at_ v hv hag)⟩
theorem Bk.held {g : Nat} {t : TypeId} {cs : List Value} (h : Bk w g t cs) : Held w g (g + 1) (fun v => Bk v g t cs) :=
  ⟨by omega, h.lt, fun v _ hag => (hag g (Nat.le_refl _) (by omega)).trans h⟩
theorem cell_agree {p : Addr} (hag : ∀ b, lo ≤ b → b < hi → w'.heap[b]? = w.heap[b]?) (h1 : lo ≤ p.block) (h2 : p.block < hi) : w'.cell? p = w.cell? p := World.cell?_of_block (hag _ h1 h2)
theorem RdN.held {B : Nat} {A : Option Addr} {l : List Nd} (h : RdN w B A l) (hB : B ≤ w.heap.size) : Held w 0 B (fun v => RdN v B A l) :=
  ⟨Nat.zero_le _, hB, fun _ _ hag => h.keep fun _ hp => cell_agree hag (Nat.zero_le _) hp⟩
theorem RdI.held {B : Nat} {A : Option Addr} {l : List Int} (h : RdI w B A l) (hB : B ≤ w.heap.size) : Held w 0 B (fun v => RdI v B A l) :=
  ⟨Nat.zero_le _, hB, fun _ _ hag => h.keep fun _ hp => cell_agree hag (Nat.zero_le _) hp⟩
theorem RdR.held {B : Nat} {A : Option Addr} {rows : List (List Int)} (h : RdR w B A rows) (hB : B ≤ w.heap.size) : Held w 0 B (fun v => RdR v B A rows) :=
  ⟨Nat.zero_le _, hB, fun _ _ hag => h.keep fun _ hp => cell_agree hag (Nat.zero_le _) hp⟩
end

/-- The nodes of a pipe in memory of a call's own. -/
structure OwnP (w : World) (lo hi : Nat) (A : Option Addr) (c : Nat) (l : List Nd) : Prop where
  own : OwnN w lo A c l
  lt : ∀ g, rowOf A = some g → g < hi

section
variable {w w' a : World} {lo hi c : Nat} {A : Option Addr} {l : List Nd}
theorem OwnP.of {b : Nat} (h : OwnN w b A c l) (hlo : lo ≤ b) : OwnP w lo w.heap.size A c l := ⟨h.base_ hlo, fun g hg => (h.row_lt g hg).2⟩
theorem OwnP.agree (h : OwnP w lo hi A c l) (hag : ∀ b, lo ≤ b → b < hi → w'.heap[b]? = w.heap[b]?) : OwnP w' lo hi A c l := by
  refine ⟨?_, h.lt⟩
  obtain ⟨h1, h2 | ⟨g, cap, cur, hv, hg, hh, hr⟩⟩ := h.own
  · exact ⟨h1, .inl h2⟩
  · have hA : A = some ⟨g, 0, none⟩ := by injection hv
    exact ⟨h1, .inr ⟨g, cap, cur, hv, hg, (hag g hg (h.lt g (by rw [hA]; rfl))).trans hh, hr⟩⟩
theorem OwnP.held (h : OwnP w lo hi A c l) (h1 : lo ≤ hi) (h2 : hi ≤ w.heap.size) : Held w lo hi (fun v => OwnP v lo hi A c l) := ⟨h1, h2, fun _ _ hag => h.agree hag⟩
theorem OwnP.rdt (h : OwnP w lo hi A c l) (_ : hi ≤ w.heap.size) : RdN w w.heap.size A l := h.own.rd
theorem markPipe_h (k : Int) (h : OwnP w lo hi A c l) (hn : l.length ≤ 1048576) (hk0 : 0 ≤ k) (hk1 : k ≤ 16777216) :
    Calls Try.prog 23 #[.agg #[.slice A l.length c], .int .i64 k] w fun e w' => e = .returned (.int .i64 (k + 5 * l.length)) ∧ OwnP w' lo hi A c (mkN l.length k) ∧ Chg lo hi w w' :=
  (markPipe_any A c l k w lo h.own hn hk0 hk1).mono fun _ _ ⟨he, ho, hg⟩ => ⟨he, ⟨ho, h.lt⟩, .of_grown hg fun g hg => ⟨(h.own.row_lt g hg).1, h.lt g hg⟩⟩
end

/-- Numbers in memory of a call's own, wherever they begin in their block. -/
def OwnI (w : World) (lo hi : Nat) (A : Option Addr) (l : List Int) : Prop :=
  0 < l.length → ∃ g o cs, A = some ⟨g, o, none⟩ ∧ lo ≤ g ∧ g < hi ∧ Bk w g 3 cs ∧ ∀ (k : Nat) (x : Int), l[k]? = some x → cs[o + k]? = some (.int .i64 x)

section
variable {w w' a : World} {lo hi c : Nat} {A : Option Addr} {l : List Int}
theorem OwnI.rd (h : OwnI w lo hi A l) : RdI w hi A l := fun hn => by
  obtain ⟨g, o, cs, rfl, h1, h2, hb, hc⟩ := h hn
  refine ⟨_, rfl, h2, fun k x hx => ?_⟩
  rw [Addr.add_lit, hb.cell]
  exact hc k x hx
theorem OwnI.rdt (h : OwnI w lo hi A l) (hz : hi ≤ w.heap.size) : RdI w w.heap.size A l := h.rd.more hz
theorem OwnI.agree (h : OwnI w lo hi A l) (hag : ∀ b, lo ≤ b → b < hi → w'.heap[b]? = w.heap[b]?) : OwnI w' lo hi A l := fun hn => by
  obtain ⟨g, o, cs, rfl, h1, h2, hb, hc⟩ := h hn
  exact ⟨g, o, cs, rfl, h1, h2, (hag g h1 h2).trans hb, hc⟩
theorem OwnI.held (h : OwnI w lo hi A l) (h1 : lo ≤ hi) (h2 : hi ≤ w.heap.size) : Held w lo hi (fun v => OwnI v lo hi A l) := ⟨h1, h2, fun _ _ hag => h.agree hag⟩
theorem OwnI.wide {lo2 hi2 : Nat} (h : OwnI w lo hi A l) (h1 : lo2 ≤ lo) (h2 : hi ≤ hi2) : OwnI w lo2 hi2 A l := fun hn => by
  obtain ⟨g, o, cs, rfl, h3, h4, hb, hc⟩ := h hn
  exact ⟨g, o, cs, rfl, by omega, by omega, hb, hc⟩
theorem Bk.ownI {g : Nat} (h : Bk w g 3 (ints l)) (h1 : lo ≤ g) (h2 : g < hi) : OwnI w lo hi (some ⟨g, 0, none⟩) l := fun _ =>
  ⟨g, 0, ints l, rfl, h1, h2, h, fun k x hx => by rw [Nat.zero_add, ints_get, hx]; rfl⟩
end

/-- n marks, the first of which is k. -/
def mkI (n : Nat) (k : Int) : List Int := (List.range n).map fun i : Nat => k + i
theorem mkI_len (n : Nat) (k : Int) : (mkI n k).length = n := by simp [mkI]
theorem mkI_get {n : Nat} {k : Int} {i : Nat} (h : i < n) : (mkI n k)[i]? = some (k + i) := by simp [mkI, h]

set_option maxHeartbeats 1600000 in
theorem markIntS_h {lo hi : Nat} {A : Option Addr} {c : Nat} {l : List Int} {w : World} (k : Int) (h : OwnI w lo hi A l) (hn : l.length ≤ 1048576) (hk0 : 0 ≤ k) (hk1 : k ≤ 16777216) :
    Calls Try.prog 25 #[.slice A l.length c, .int .i64 k] w fun e w' => e = .returned (.int .i64 (k + l.length)) ∧ OwnI w' lo hi A (mkI l.length k) ∧ Chg lo hi w w' := by
  by_cases hl : 0 < l.length
  · obtain ⟨g, o, cs, rfl, hlo, hhi, hb0, hc0⟩ := h hl
    obtain ⟨n, hnl⟩ : ∃ n : Nat, n = l.length := ⟨_, rfl⟩
    have hcs : o + n ≤ cs.length := by
      obtain ⟨x, hx⟩ := get_of_lt l (k := n - 1) (by omega)
      have := (List.getElem?_eq_some_iff.1 (hc0 (n - 1) x hx)).1
      omega
    have Hb0 := Lib.hid hb0
    have hn2 : n ≤ 1048576 := by omega
    rw [← hnl]
    clear h hb0 hc0 hnl hl hn
    go_enter Try.func25, Try.ntmps25
    go_wp2
    go_loopw [1, 5] (fun s i wr => ∃ j : Nat, j ≤ n ∧ i = .int .i64 j ∧ (∃ m : Int, m = k + j ∧ s = .int .i64 m) ∧ (∃ ds, Bk wr g 3 ds ∧ ds.length = cs.length ∧ ∀ i : Nat, i < j → ds[o + i]? = some (.int .i64 (k + i))) ∧ Chg lo hi w wr) (fun _ i _ => n - (intOf i).toNat)
    case atStart => exact ⟨0, Nat.zero_le _, rfl, ⟨k, by simp, rfl⟩, ⟨cs, Hb0.out, rfl, fun i hi => absurd hi (by omega)⟩, Chg.refl _ _ _⟩
    case round =>
      obtain ⟨j, hj, rfl, ⟨m, hm, rfl⟩, ⟨ds, hds, hdl, hdc⟩, hg⟩ := hrel
      have hm0 : 0 ≤ m := by omega
      have hm1 : m ≤ 33554432 := by omega
      by_cases hlt : j < n
      · obtain ⟨u, hu⟩ := get_of_lt ds (k := o + j) (by omega)
        have cu := (hds.cell (o + j)).trans hu
        have fu := hds.free (o + j)
        have Hds := Lib.hid hds
        have Hdl := Lib.hid hdl
        have Hdc := Lib.hid hdc
        have Hg := Lib.hid hg
        have Hm := Lib.hid hm
        clear hds hdl hdc hg hm hu
        go_wp2
        go_roundw
        case rel =>
          refine ⟨j + 1, by omega, by go_num, ⟨_, by rw [Hm.out]; omega, rfl⟩, ⟨_, Hds.out.set_ _ _, by rw [List.length_set]; exact Hdl.out, fun i hi => ?_⟩, Hg.out.set hlo hhi _ _⟩
          rw [List.getElem?_set]
          by_cases e : o + j = o + i
          · obtain rfl : i = j := by omega
            rw [if_pos rfl, if_pos (by have := Hdl.out; omega), Hm.out]
          · rw [if_neg e]
            exact Hdc.out i (by omega)
        case measure => simp [intOf]; omega
      · obtain rfl : j = n := by omega
        have Hds := Lib.hid hds
        have Hdc := Lib.hid hdc
        have Hg := Lib.hid hg
        have Hm := Lib.hid hm
        clear hds hdc hg hm hdl
        go_wp2
        go_ret
        refine ⟨ret_int (by rw [Hm.out]), fun _ => ⟨g, o, ds, rfl, hlo, hhi, Hds.out, fun i x hx => ?_⟩, Hg.out⟩
        have hi : i < j := by have := (List.getElem?_eq_some_iff.1 hx).1; rwa [mkI_len] at this
        rw [mkI_get hi] at hx
        rw [← Option.some.inj hx]
        exact Hdc.out i hi
  · have hl0 : l = [] := List.eq_nil_of_length_eq_zero (by omega)
    subst hl0
    clear h
    go_enter Try.func25, Try.ntmps25
    go_wp2
    refine wp_loop_rounds 1 ?_
    rw [rounds_succ]
    go_wp2
    go_ret
    exact ⟨by simp, fun h => absurd h (by simp [mkI]), Chg.refl _ _ _⟩

set_option maxHeartbeats 1600000 in
theorem heldIntS_any (A : Option Addr) (c n : Nat) (k : Int) (w : World) (B : Nat) (h : RdI w B A (mkI n k)) (hn : n ≤ 1048576) (hk0 : 0 ≤ k) (hk1 : k ≤ 16777216) :
    Calls Try.prog 26 #[.slice A n c, .int .i64 k] w fun e w' => e = .returned (.int .i64 (k + n)) ∧ w = w' := by
  have Hh := Lib.hid h
  clear h
  go_enter Try.func26, Try.ntmps26
  go_wp2
  go_loop [1, 5] (fun s i => ∃ j : Nat, j ≤ n ∧ i = .int .i64 j ∧ ∃ m : Int, m = k + j ∧ s = .int .i64 m) (fun _ i => n - (intOf i).toNat)
  case atStart => exact ⟨0, Nat.zero_le _, rfl, k, by simp, rfl⟩
  case round =>
    obtain ⟨j, hj, rfl, m, hm, rfl⟩ := hrel
    have hm0 : 0 ≤ m := by omega
    have hm1 : m ≤ 33554432 := by omega
    by_cases hlt : j < n
    · obtain ⟨ad, x, rfl, hx, hc⟩ := Hh.out.at_ (k := j) (by rw [mkI_len]; exact hlt)
      rw [mkI_get hlt] at hx
      obtain rfl := Option.some.inj hx
      rw [← hm] at hc
      have Hm := Lib.hid hm
      clear hm hx
      go_wp2
      go_round
      case rel => exact ⟨j + 1, by omega, by go_num, _, by rw [Hm.out]; omega, rfl⟩
      case measure => simp [intOf]; omega
    · obtain rfl : j = n := by omega
      have Hm := Lib.hid hm
      clear hm
      go_wp2
      go_ret
      exact ⟨ret_int (by rw [Hm.out]), rfl⟩

end Go.Proofs.Ytnmekcifbmcdpaa

/- Numbers are appended to a slice of the call's own. -/
namespace Go.Proofs.Ytnmekcifbmcdpaa
open Go.RowKit

/-- The slice at A holds the numbers l in memory from block base on, from the beginning of its block. -/
def OwnJ (w : World) (base : Nat) (A : Option Addr) (c : Nat) (l : List Int) : Prop := w.ownsRow base 3 1 (.slice A l.length c) l.length (ints l)

section
variable {w w' : World} {base c : Nat} {A : Option Addr} {l : List Int}
theorem OwnJ.form (h : OwnJ w base A c l) (hl : 0 < l.length) : ∃ g, A = some ⟨g, 0, none⟩ ∧ base ≤ g ∧ g < w.heap.size := by
  obtain ⟨_, ⟨_, h0⟩ | ⟨g, cap, cur, hv, hb, hh, _⟩⟩ := h
  · omega
  · injection hv with hA
    exact ⟨g, hA, hb, lt_of_block hh⟩
theorem OwnJ.row_lt (h : OwnJ w base A c l) : ∀ g, rowOf A = some g → base ≤ g ∧ g < w.heap.size := fun g hg => by
  have := World.ownsRow.lt h g (by rw [ownBlock_slice]; exact hg)
  exact this
theorem OwnJ.grown {row : Option Nat} (h : OwnJ w base A c l) (hg : w.grownBy w' row) (hne : rowOf A = none ∨ rowOf A ≠ row) : OwnJ w' base A c l :=
  World.ownsRow.kept h hg (by rw [ownBlock_slice]; exact hne)
theorem OwnJ.below {C : Nat} (h : OwnJ w base A c l) (hb : Below C w w') (hC : w.heap.size ≤ C) : OwnJ w' base A c l :=
  h.grown (row := none) ⟨hb.os, hb.tape, hb.output, Nat.le_trans (Nat.le_refl _) hb.size, fun k hk _ => hb.block k (by omega)⟩ (by cases A <;> simp [rowOf])
theorem OwnJ.nil_ (w : World) (base : Nat) : OwnJ w base none 0 [] := World.ownsRow_nil w base _ 1
theorem OwnJ.bk (h : OwnJ w base A c l) (hl : 0 < l.length) : ∃ g cs, A = some ⟨g, 0, none⟩ ∧ base ≤ g ∧ Bk w g 3 cs ∧ l.length ≤ c ∧ ∀ (k : Nat) (x : Int), l[k]? = some x → cs[k]? = some (.int .i64 x) := by
  obtain ⟨h1, ⟨_, h0⟩ | ⟨g, cap, cur, hv, hb, hh, hn, _, _, ht⟩⟩ := h
  · omega
  · injection hv with hA _ hc
    subst hc
    refine ⟨g, cur.toList, hA, hb, by unfold Bk; simpa using hh, hn, fun k x hx => ?_⟩
    have hk : k < l.length := (List.getElem?_eq_some_iff.1 hx).1
    have : (cur.toList.take (l.length * 1))[k]? = some (.int .i64 x) := by rw [ht, ints_get, hx]; rfl
    rwa [List.getElem?_take_of_lt (by omega)] at this
theorem OwnJ.ownI (h : OwnJ w base A c l) : OwnI w base w.heap.size A l := fun hl => by
  obtain ⟨g, cs, e, hb, hbk, _, hc⟩ := h.bk hl
  exact ⟨g, 0, cs, e, hb, hbk.lt, hbk, fun k x hx => by rw [Nat.zero_add]; exact hc k x hx⟩
end

theorem emptyJ (w : World) : OwnJ (w.alloc (.cells #[] 3)) w.heap.size (some ⟨w.heap.size, 0, none⟩) 0 [] :=
  ⟨rfl, .inr ⟨w.heap.size, 0, #[], rfl, Nat.le_refl _, heap_alloc_new w _, Nat.le_refl _, Nat.zero_le _, rfl, rfl⟩⟩

theorem wpList_append_int {ops : Array Oper} {rest : List Oper} {o : Oper} {a : Act} {Q : Exit → Act → World → Prop} {w : World} (hgd : o.guard = none) (s y : Operand)
    (ho : o.op = .call { callee := .builtin .append, args := #[s, y], argTypes := #[28, 28] }) (base : Nat) (A : Option Addr) (c : Nat) (l : List Int) (x : Int) (n : Nat) (hnl : l.length = n) (hs : a.eval s = .slice A n c) (hown : OwnJ w base A c l)
    (g : Nat) (hx : a.eval y = .slice (some ⟨g, 0, none⟩) 1 1) (hg : g = w.heap.size) (hn : n ≤ 1048576) (hb : base ≤ w.heap.size)
    (h : ∀ (A' : Option Addr) (c' : Nat) (w' : World), OwnJ w' base A' c' (l ++ [x]) → (w.alloc (.cells #[.int .i64 x] 3)).grownBy w' (rowOf A) → wpList Try.prog ops Q rest (a.put o.dst (.slice A' (n + 1) c')) w') :
    wpList Try.prog ops Q (o :: rest) a (w.alloc (.cells #[.int .i64 x] 3)) := by
  subst hg
  subst hnl
  obtain ⟨i, hi, hz0, hz1, hz2⟩ := info_parts Try.infoInt
  have hown2 := hown.below ((Below.refl w.heap.size w).alloc (Nat.le_refl _) (.cells #[.int .i64 x] 3)) (Nat.le_refl _)
  have hb1 : Bk (w.alloc (.cells #[.int .i64 x] 3)) w.heap.size 3 [.int .i64 x] := Bk.new w _ [_]
  have hread : ∀ (j : Nat) (u : Value), (ints [x])[j]? = some u → (w.alloc (.cells #[.int .i64 x] 3)).cell? ((⟨w.heap.size, 0, none⟩ : Addr).add j) = some u := fun j u hj => by
    rw [add_zero_row, hb1.cell]
    exact hj
  have hone : ∀ u ∈ ints [x], u.oneCell' = true := by
    intro u hu
    simp [ints] at hu
    subst hu
    rfl
  refine wpList_plain hgd fun K hK => ?_
  obtain ⟨v', w', hr, h2, h3, _⟩ := run_append_own (P := Try.prog) (w.alloc (.cells #[.int .i64 x] 3)) base 28 o.type 3 i _ 1 8 Try.underlying28 hi hz0 hz1 hz2 rfl (by decide)
    (.slice A l.length c) l.length (ints l) hown2 ⟨w.heap.size, 0, none⟩ 1 1 (ints [x]) rfl hread hone (by unfold maxLen; omega) (by omega) (by simp; omega)
  have hv : ∃ A' c', v' = .slice A' (l.length + 1) c' := by
    obtain ⟨_, ⟨_, h0⟩ | ⟨g, cap, cur, hv, _⟩⟩ := h2
    · omega
    · exact ⟨_, _, hv⟩
  obtain ⟨A', c', rfl⟩ := hv
  unfold Oper.wp execOp
  simp only [ho, resolve, invoke, builtin, Sem.run_bind, Sem.run_pure, Result.andThen_ok, List.map_toArray, List.map_cons, List.map_nil, hs, hx, hr]
  refine hK _ _ (h A' c' w' ?_ (by rw [← ownBlock_slice A l.length c]; exact h3))
  unfold OwnJ
  rw [List.length_append, show ints (l ++ [x]) = ints l ++ ints [x] from by simp [ints]]
  exact h2

end Go.Proofs.Ytnmekcifbmcdpaa

/- Contracts: lists that the reference makes out of lists (the first great one, turns, sums at equal places). -/
namespace Go.Proofs.Ytnmekcifbmcdpaa
open Go.RowKit

theorem step_append_int {ops : Array Oper} {o : Oper} {a : Act} {K : Act → World → Prop} {Q : Exit → Act → World → Prop} {E : Prop} {w : World} (hgd : o.guard = none) (s y : Operand)
    (ho : o.op = .call { callee := .builtin .append, args := #[s, y], argTypes := #[28, 28] }) (base : Nat) (A : Option Addr) (c : Nat) (l : List Int) (x : Int) (n : Nat) (hnl : l.length = n) (hs : a.eval s = .slice A n c) (hown : OwnJ w base A c l)
    (g : Nat) (hx : a.eval y = .slice (some ⟨g, 0, none⟩) 1 1) (hg : g = w.heap.size) (hn : n ≤ 1048576) (hb : base ≤ w.heap.size)
    (h : ∀ (A' : Option Addr) (c' : Nat) (w' : World), OwnJ w' base A' c' (l ++ [x]) → (w.alloc (.cells #[.int .i64 x] 3)).grownBy w' (rowOf A) → K (a.put o.dst (.slice A' (n + 1) c')) w') :
    if Region.wanted o (yielded ops a.tmps) = true then Oper.wp Try.prog o a (w.alloc (.cells #[.int .i64 x] 3)) K Q else E := by
  have hw : Region.wanted o (yielded ops a.tmps) = true := by simp [Region.wanted, hgd]
  rw [if_pos hw]
  subst hg
  subst hnl
  obtain ⟨i, hi, hz0, hz1, hz2⟩ := info_parts Try.infoInt
  have hown2 := hown.below ((Below.refl w.heap.size w).alloc (Nat.le_refl _) (.cells #[.int .i64 x] 3)) (Nat.le_refl _)
  have hb1 : Bk (w.alloc (.cells #[.int .i64 x] 3)) w.heap.size 3 [.int .i64 x] := Bk.new w _ [_]
  have hread : ∀ (j : Nat) (u : Value), (ints [x])[j]? = some u → (w.alloc (.cells #[.int .i64 x] 3)).cell? ((⟨w.heap.size, 0, none⟩ : Addr).add j) = some u := fun j u hj => by
    rw [add_zero_row, hb1.cell]
    exact hj
  have hone : ∀ u ∈ ints [x], u.oneCell' = true := by
    intro u hu
    simp [ints] at hu
    subst hu
    rfl
  obtain ⟨v', w', hr, h2, h3, _⟩ := run_append_own (P := Try.prog) (w.alloc (.cells #[.int .i64 x] 3)) base 28 o.type 3 i _ 1 8 Try.underlying28 hi hz0 hz1 hz2 rfl (by decide)
    (.slice A l.length c) l.length (ints l) hown2 ⟨w.heap.size, 0, none⟩ 1 1 (ints [x]) rfl hread hone (by unfold maxLen; omega) (by omega) (by simp; omega)
  have hv : ∃ A' c', v' = .slice A' (l.length + 1) c' := by
    obtain ⟨_, ⟨_, h0⟩ | ⟨g, cap, cur, hv, _⟩⟩ := h2
    · omega
    · exact ⟨_, _, hv⟩
  obtain ⟨A', c', rfl⟩ := hv
  unfold Oper.wp execOp
  simp only [ho, resolve, invoke, builtin, Sem.run_bind, Sem.run_pure, Result.andThen_ok, List.map_toArray, List.map_cons, List.map_nil, hs, hx, hr]
  refine h A' c' w' ?_ (by rw [← ownBlock_slice A l.length c]; exact h3)
  unfold OwnJ
  rw [List.length_append, show ints (l ++ [x]) = ints l ++ ints [x] from by simp [ints]]
  exact h2

set_option maxRecDepth 100000 in
set_option maxHeartbeats 1600000 in
theorem specFirstAt_any (A : Option Addr) (c : Nat) (l : List Int) (n : Int) (w : World) (B : Nat) (h : RdI w B A l) (hn : l.length ≤ 1048576) :
    Calls Try.prog 105 #[.slice A l.length c, .int .i64 n] w fun e w' => e = .returned (.int .i64 (frst l n)) ∧ w = w' := by
  have H := Lib.hid h
  clear h
  go_enter Try.func105, Try.ntmps105
  go_wp2_with fail
  go_loop [5] (fun i => ∃ j : Nat, j ≤ l.length ∧ i = .int .i64 j ∧ frst l n = j + frst (l.drop j) n) (fun i => l.length - (intOf i).toNat)
  case atStart => exact ⟨0, Nat.zero_le _, rfl, by simp⟩
  case round =>
    obtain ⟨j, hj, rfl, hf⟩ := hrel
    have Hf := Lib.hid hf
    clear hf
    by_cases hlt : j < l.length
    · obtain ⟨ad, x, rfl, hx, hc⟩ := H.out.at_ hlt
      have Hx := Lib.hid hx
      clear hx
      by_cases hxn : x < n
      · go_wp2_with fail
        go_round
        case rel => exact ⟨j + 1, by omega, by go_num, by rw [Hf.out, frst_step Hx.out hxn]; omega⟩
        case measure => simp [intOf]; omega
      · go_wp2_with fail
        go_ret
        exact ⟨ret_int (by rw [Hf.out, frst_stop Hx.out (by omega)]; simp), rfl⟩
    · go_wp2_with fail
      go_ret
      exact ⟨ret_int (by rw [Hf.out, frst_end n (by omega)]; simp), rfl⟩

theorem RdI.val {w : World} {B : Nat} {ad : Addr} {l : List Int} (h : RdI w B (some ad) l) {k : Nat} {x : Int} (hx : l[k]? = some x) : w.cell? (ad.add k) = some (.int .i64 x) := by
  obtain ⟨ad', e, _, hc⟩ := h (by have := (List.getElem?_eq_some_iff.1 hx).1; omega)
  obtain rfl := Option.some.inj e
  exact hc k x hx

set_option maxRecDepth 100000 in
set_option maxHeartbeats 3200000 in
theorem specTurned_any (A : Option Addr) (c : Nat) (a : List Int) (A2 : Option Addr) (c2 : Nat) (b : List Int) (w : World) (B : Nat) (ha : RdI w B A a) (hb : RdI w B A2 b) (hB : B ≤ w.heap.size) (hn : a.length ≤ 65536) (hn2 : b.length ≤ 65536) :
    Calls Try.prog 109 #[.slice A a.length c, .slice A2 b.length c2] w fun e w' => ∃ R cR, e = .returned (.slice R (turnL a b).length cR) ∧ OwnJ w' w.heap.size R cR (turnL a b) ∧ Below w.heap.size w w' := by
  have Ha := Lib.hid ha
  have Hb := Lib.hid hb
  have hbe : Below w.heap.size w (w.alloc (.cells #[] 3)) := (Below.refl _ _).alloc (Nat.le_refl _) _
  have Hbe := Lib.hid hbe
  have He := Lib.hid (emptyJ w)
  clear ha hb hbe
  go_enter Try.func109, Try.ntmps109
  go_wp2_with fail
  go_loopw [5, 6] (fun sl i wr => ∃ j : Nat, j ≤ max a.length b.length ∧ i = .int .i64 j ∧ (∃ R cR, sl = .slice R (turnTo a b j).length cR ∧ OwnJ wr w.heap.size R cR (turnTo a b j)) ∧ Below w.heap.size w wr) (fun _ i _ => max a.length b.length - (intOf i).toNat)
  case atStart => exact ⟨0, Nat.zero_le _, rfl, ⟨_, _, rfl, He.out⟩, Hbe.out⟩
  case round =>
    obtain ⟨j, hj, rfl, ⟨R, cR, rfl, ho⟩, hb⟩ := hrel
    have hz := hb.size
    have hlen := turnTo_len a b j
    have Ho := Lib.hid ho
    have Hbw := Lib.hid hb
    have Ha2 := Lib.hid (Ha.out.below hb hB)
    have Hb2 := Lib.hid (Hb.out.below hb hB)
    clear ho hb
    by_cases h1 : j < a.length
    · obtain ⟨ad, x, rfl, hx, hc⟩ := Ha2.out.at_ h1
      have Hx := Lib.hid hx
      clear hx
      by_cases h2 : j < b.length
      · obtain ⟨ad2, y, rfl, hy, hc2⟩ := Hb2.out.at_ h2
        have Hy := Lib.hid hy
        clear hy hc2
        go_wp2_with (at_builtin; (first
          | (
            refine wpList_append_int rfl _ _ rfl w.heap.size R cR (turnTo a b j) x (turnTo a b j).length rfl rfl Ho.out _ rfl rfl (by omega) (by omega) ?_
            intro R2 c2' w2 ho2 hg2
            have hbb := (Hbw.out.alloc hz _).grown hg2 (by simp; omega) (fun g hg => (Ho.out.row_lt g hg).1)
            have hcy := (Hb.out.below hbb hB).val Hy.out
            have hz2 := hbb.size
            have Hbb := Lib.hid hbb
            have Ho2 := Lib.hid ho2
            clear ho2 hg2 hbb)
          | (
            refine wpList_append_int rfl _ _ rfl w.heap.size R2 c2' (turnTo a b j ++ [x]) y ((turnTo a b j).length + 1) (by simp) rfl Ho2.out _ rfl rfl (by omega) (by omega) ?_
            intro R3 c3' w3 ho3 hg3
            have Ho3 := Lib.hid ho3
            have Hg3 := Lib.hid hg3
            clear ho3 hg3)))
        go_roundw
        case rel =>
          have ht : turnTo a b (j + 1) = turnTo a b j ++ [x] ++ [y] := by simp only [turnTo, Hx.out, Hy.out]; rfl
          refine ⟨j + 1, by omega, by go_num, ⟨R3, c3', by rw [ht]; simp, by rw [ht]; exact Ho3.out⟩, ?_⟩
          exact (Hbb.out.alloc hz2 _).grown Hg3.out (by simp; omega) (fun g hg => (Ho2.out.row_lt g hg).1)
        case measure => simp [intOf]; omega
      · go_wp2_with (at_builtin; go_must (refine wpList_append_int rfl _ _ rfl w.heap.size R cR (turnTo a b j) x (turnTo a b j).length rfl rfl Ho.out _ rfl rfl (by omega) (by omega) ?_; intro R2 c2' w2 ho2 hg2); have hbb := (Hbw.out.alloc hz _).grown hg2 (by simp; omega) (fun g hg => (Ho.out.row_lt g hg).1); have hz2 := hbb.size; have Hbb := Lib.hid hbb; have Ho2 := Lib.hid ho2; clear ho2 hg2 hbb)
        go_roundw
        case rel =>
          have ht : turnTo a b (j + 1) = turnTo a b j ++ [x] := by simp only [turnTo, Hx.out, List.getElem?_eq_none (show b.length ≤ j by omega)]; simp
          exact ⟨j + 1, by omega, by go_num, ⟨R2, c2', by rw [ht]; simp, by rw [ht]; exact Ho2.out⟩, Hbb.out⟩
        case measure => simp [intOf]; omega
    · by_cases h2 : j < b.length
      · obtain ⟨ad2, y, rfl, hy, hc2⟩ := Hb2.out.at_ h2
        have Hy := Lib.hid hy
        clear hy
        go_wp2_with (at_builtin; go_must (refine wpList_append_int rfl _ _ rfl w.heap.size R cR (turnTo a b j) y (turnTo a b j).length rfl rfl Ho.out _ rfl rfl (by omega) (by omega) ?_; intro R2 c2' w2 ho2 hg2); have hbb := (Hbw.out.alloc hz _).grown hg2 (by simp; omega) (fun g hg => (Ho.out.row_lt g hg).1); have hz2 := hbb.size; have Hbb := Lib.hid hbb; have Ho2 := Lib.hid ho2; clear ho2 hg2 hbb)
        go_roundw
        case rel =>
          have ht : turnTo a b (j + 1) = turnTo a b j ++ [y] := by simp only [turnTo, Hy.out, List.getElem?_eq_none (show a.length ≤ j by omega)]; simp
          exact ⟨j + 1, by omega, by go_num, ⟨R2, c2', by rw [ht]; simp, by rw [ht]; exact Ho2.out⟩, Hbb.out⟩
        case measure => simp [intOf]; omega
      · obtain rfl : j = max a.length b.length := by omega
        go_wp2_with fail
        go_ret
        exact ⟨R, cR, rfl, Ho.out, Hbw.out⟩

set_option maxRecDepth 100000 in
set_option maxHeartbeats 3200000 in
theorem specZipped_any (A : Option Addr) (c : Nat) (a : List Int) (A2 : Option Addr) (c2 : Nat) (b : List Int) (w : World) (B : Nat) (ha : RdI w B A a) (hb : RdI w B A2 b) (hB : B ≤ w.heap.size) (hn : a.length ≤ 65536) (ia : Items a) (ib : Items b) :
    Calls Try.prog 107 #[.slice A a.length c, .slice A2 b.length c2] w fun e w' => ∃ R cR, e = .returned (.slice R (zipL a b).length cR) ∧ OwnJ w' w.heap.size R cR (zipL a b) ∧ Below w.heap.size w w' := by
  have Ha := Lib.hid ha
  have Hb := Lib.hid hb
  have hbe : Below w.heap.size w (w.alloc (.cells #[] 3)) := (Below.refl _ _).alloc (Nat.le_refl _) _
  have Hbe := Lib.hid hbe
  have He := Lib.hid (emptyJ w)
  have Ia := Lib.hid ia
  have Ib := Lib.hid ib
  have hzl := zipL_len a b
  clear ha hb hbe ia ib
  go_enter Try.func107, Try.ntmps107
  go_wp2_with fail
  go_loopw [5, 6] (fun sl i wr => ∃ j : Nat, j ≤ min a.length b.length ∧ i = .int .i64 j ∧ (∃ R cR, sl = .slice R j cR ∧ OwnJ wr w.heap.size R cR ((zipL a b).take j)) ∧ Below w.heap.size w wr) (fun _ i _ => min a.length b.length - (intOf i).toNat)
  case atStart => exact ⟨0, Nat.zero_le _, rfl, ⟨_, _, rfl, He.out⟩, Hbe.out⟩
  case round =>
    obtain ⟨j, hj, rfl, ⟨R, cR, rfl, ho⟩, hb⟩ := hrel
    have hz := hb.size
    have Ho := Lib.hid ho
    have Hbw := Lib.hid hb
    have Ha2 := Lib.hid (Ha.out.below hb hB)
    have Hb2 := Lib.hid (Hb.out.below hb hB)
    clear ho hb
    by_cases h1 : j < a.length
    · by_cases h2 : j < b.length
      · obtain ⟨ad, x, rfl, hx, hc⟩ := Ha2.out.at_ h1
        obtain ⟨ad2, y, rfl, hy, hc2⟩ := Hb2.out.at_ h2
        have hxi := Ia.out.get hx
        have hyi := Ib.out.get hy
        have hwr : IntKind.i64.wrap (x + y) = x + y := IntWalk.i64_in _ (by omega)
        have Hzg := Lib.hid (zipL_get hx hy)
        have Hx := Lib.hid hx
        have Hy := Lib.hid hy
        clear hx hy
        have Ho' : Hid (OwnJ wr.drew w.heap.size R cR ((zipL a b).take j)) := Lib.hid Ho.out
        have hl2 : ((zipL a b).take j).length = j := by rw [List.length_take]; omega
        have hsm : (Int.tmod (x + y) 100) = rst (x + y) := rfl
        go_wp2_with fail
        go_region_held3 (fun w' => w'.cell? (ad.add j) = some (.int .i64 x) ∧ w'.cell? (ad2.add j) = some (.int .i64 y)) (go_keep)
          (first
            | (
              refine step_append_int rfl _ _ rfl w.heap.size R cR ((zipL a b).take j) (rst (x + y)) j hl2 rfl Ho'.out _ rfl rfl (by omega) (by first | omega | (simp; omega)) ?_
              intro R2 c2' w2 ho2 hg2
              have hbb := (Hbw.out.drew.alloc hz _).grown hg2 (by simp; omega) (fun g hg => (Ho.out.row_lt g hg).1)
              have ks := And.intro ((Ha.out.below hbb hB).val Hx.out) ((Hb.out.below hbb hB).val Hy.out)
              have Hbb := Lib.hid hbb
              have Ho2 := Lib.hid ho2
              clear ho2 hg2 hbb))
        all_goals
          go_wp2_with fail
          go_roundw
          case rel =>
            exact ⟨j + 1, by omega, by go_num, ⟨R2, c2', rfl, by rw [take_succ_of Hzg.out]; exact Ho2.out⟩, Hbb.out⟩
          case measure => simp [intOf]; omega
      · obtain rfl : j = b.length := by omega
        go_wp2_with fail
        go_ret
        exact ⟨R, cR, ret_slice (by omega), by rw [List.take_of_length_le (by omega)] at Ho; exact Ho.out, Hbw.out⟩
    · obtain rfl : j = a.length := by omega
      go_wp2_with fail
      go_ret
      exact ⟨R, cR, ret_slice (by omega), by rw [List.take_of_length_le (by omega)] at Ho; exact Ho.out, Hbw.out⟩

end Go.Proofs.Ytnmekcifbmcdpaa

/- Contracts: two lists merged, and sums of groups, by the reference. -/
namespace Go.Proofs.Ytnmekcifbmcdpaa
open Go.RowKit

theorem mergeL_l {a b : List Int} {i k : Nat} {x : Int} (hx : a[i]? = some x) (hk : b.length ≤ k) : mergeL (a.drop i) (b.drop k) = x :: mergeL (a.drop (i + 1)) (b.drop k) := by
  rw [List.drop_eq_nil_of_le hk, mergeL_nil, mergeL_nil, drop_cons_of hx]
theorem mergeL_r {a b : List Int} {i k : Nat} {y : Int} (hi : a.length ≤ i) (hy : b[k]? = some y) : mergeL (a.drop i) (b.drop k) = y :: mergeL (a.drop i) (b.drop (k + 1)) := by
  rw [List.drop_eq_nil_of_le hi, nil_mergeL, nil_mergeL, drop_cons_of hy]
theorem mergeL_xl {a b : List Int} {i k : Nat} {x y : Int} (hx : a[i]? = some x) (hy : b[k]? = some y) (h : x ≤ y) : mergeL (a.drop i) (b.drop k) = x :: mergeL (a.drop (i + 1)) (b.drop k) := by
  rw [drop_cons_of hx, drop_cons_of hy, mergeL_left h]
theorem mergeL_xr {a b : List Int} {i k : Nat} {x y : Int} (hx : a[i]? = some x) (hy : b[k]? = some y) (h : ¬ x ≤ y) : mergeL (a.drop i) (b.drop k) = y :: mergeL (a.drop i) (b.drop (k + 1)) := by
  rw [drop_cons_of hx, drop_cons_of hy, mergeL_right h]
theorem mergeL_end {a b : List Int} {i k : Nat} (hi : a.length ≤ i) (hk : b.length ≤ k) : mergeL (a.drop i) (b.drop k) = [] := by
  rw [List.drop_eq_nil_of_le hi, List.drop_eq_nil_of_le hk, mergeL_nil]

set_option maxRecDepth 100000 in
set_option maxHeartbeats 6400000 in
theorem specMerged_any (A : Option Addr) (c : Nat) (a : List Int) (A2 : Option Addr) (c2 : Nat) (b : List Int) (w : World) (B : Nat) (ha : RdI w B A a) (hb : RdI w B A2 b) (hB : B ≤ w.heap.size) (hn : a.length ≤ 65536) (hn2 : b.length ≤ 65536) :
    Calls Try.prog 108 #[.slice A a.length c, .slice A2 b.length c2] w fun e w' => ∃ R cR, e = .returned (.slice R (mergeL a b).length cR) ∧ OwnJ w' w.heap.size R cR (mergeL a b) ∧ Below w.heap.size w w' := by
  have Ha := Lib.hid ha
  have Hb := Lib.hid hb
  have hbe : Below w.heap.size w (w.alloc (.cells #[] 3)) := (Below.refl _ _).alloc (Nat.le_refl _) _
  have Hbe := Lib.hid hbe
  have He := Lib.hid (emptyJ w)
  clear ha hb hbe
  go_enter Try.func108, Try.ntmps108
  go_wp2_with fail
  go_loopw [5, 6, 7] (fun sl i k wr => ∃ (p q : Nat) (o : List Int), p ≤ a.length ∧ q ≤ b.length ∧ o.length = p + q ∧ i = .int .i64 p ∧ k = .int .i64 q ∧ (∃ R cR, sl = .slice R o.length cR ∧ OwnJ wr w.heap.size R cR o) ∧ mergeL a b = o ++ mergeL (a.drop p) (b.drop q) ∧ Below w.heap.size w wr) (fun _ i k _ => a.length + b.length - (intOf i).toNat - (intOf k).toNat)
  case atStart => exact ⟨0, 0, [], Nat.zero_le _, Nat.zero_le _, rfl, rfl, rfl, ⟨_, _, rfl, He.out⟩, by simp, Hbe.out⟩
  case round =>
    obtain ⟨p, q, o, hp, hq, hol, rfl, rfl, ⟨R, cR, rfl, ho⟩, hm, hb⟩ := hrel
    have hz := hb.size
    have Ho := Lib.hid ho
    have Hbw := Lib.hid hb
    have HoN : Hid (∀ n, OwnJ (wr.drewN n) w.heap.size R cR o) := Lib.hid (fun _ => Ho.out)
    have HbN : Hid (∀ n, Below w.heap.size w (wr.drewN n)) := Lib.hid (fun n => hb.trans (((Same.refl wr).drewN n).below _))
    have Hm := Lib.hid hm
    have Hol := Lib.hid hol
    have hle : o.length ≤ 131072 := by omega
    have Ha2 := Lib.hid (Ha.out.below hb hB)
    have Hb2 := Lib.hid (Hb.out.below hb hB)
    clear ho hb hm hol
    by_cases h1 : p < a.length
    · obtain ⟨ad, x, rfl, hx, hc⟩ := Ha2.out.at_ h1
      have Hx := Lib.hid hx
      clear hx
      by_cases h2 : q < b.length
      · obtain ⟨ad2, y, rfl, hy, hc2⟩ := Hb2.out.at_ h2
        have Hy := Lib.hid hy
        clear hy
        by_cases hxy : x ≤ y
        · go_wp2_with fail
          have hd1 : ((q : Int) == (b.length : Int)) = false := by rw [beq_eq_false_iff_ne]; omega
          go_quiet (fail)
          go_wp2_with (at_builtin; go_must (refine wpList_append_int rfl _ _ rfl w.heap.size R cR o x o.length rfl rfl (HoN.out _) _ rfl rfl (by omega) (by first | omega | (simp; omega)) ?_; intro R2 c2' w2 ho2 hg2); have hbb := ((HbN.out _).alloc (by first | exact hz | (simp; omega)) _).grown hg2 (by simp; omega) (fun g hg => (Ho.out.row_lt g hg).1); have Hbb := Lib.hid hbb; have Ho2 := Lib.hid ho2; clear ho2 hg2 hbb)
          go_roundw
          case rel => exact ⟨p + 1, q, o ++ [x], by omega, by omega, by rw [List.length_append, Hol.out]; simp; omega, by go_num, by go_num, ⟨R2, c2', by simp, Ho2.out⟩, by rw [Hm.out, mergeL_xl Hx.out Hy.out hxy]; simp, Hbb.out⟩
          case measure => simp [intOf]; omega
        · go_wp2_with fail
          have hd1 : ((q : Int) == (b.length : Int)) = false := by rw [beq_eq_false_iff_ne]; omega
          go_quiet (fail)
          go_wp2_with (at_builtin; go_must (refine wpList_append_int rfl _ _ rfl w.heap.size R cR o y o.length rfl rfl (HoN.out _) _ rfl rfl (by omega) (by first | omega | (simp; omega)) ?_; intro R2 c2' w2 ho2 hg2); have hbb := ((HbN.out _).alloc (by first | exact hz | (simp; omega)) _).grown hg2 (by simp; omega) (fun g hg => (Ho.out.row_lt g hg).1); have Hbb := Lib.hid hbb; have Ho2 := Lib.hid ho2; clear ho2 hg2 hbb)
          go_roundw
          case rel => exact ⟨p, q + 1, o ++ [y], by omega, by omega, by rw [List.length_append, Hol.out]; simp; omega, by go_num, by go_num, ⟨R2, c2', by simp, Ho2.out⟩, by rw [Hm.out, mergeL_xr Hx.out Hy.out (by omega)]; simp, Hbb.out⟩
          case measure => simp [intOf]; omega
      · have hd1 : ((q : Int) == (b.length : Int)) = true := by rw [beq_iff_eq]; omega
        go_wp2_with fail
        go_quiet (fail)
        go_wp2_with (at_builtin; go_must (refine wpList_append_int rfl _ _ rfl w.heap.size R cR o x o.length rfl rfl (HoN.out _) _ rfl rfl (by omega) (by first | omega | (simp; omega)) ?_; intro R2 c2' w2 ho2 hg2); have hbb := ((HbN.out _).alloc (by first | exact hz | (simp; omega)) _).grown hg2 (by simp; omega) (fun g hg => (Ho.out.row_lt g hg).1); have Hbb := Lib.hid hbb; have Ho2 := Lib.hid ho2; clear ho2 hg2 hbb)
        go_roundw
        case rel => exact ⟨p + 1, q, o ++ [x], by omega, by omega, by rw [List.length_append, Hol.out]; simp; omega, by go_num, by go_num, ⟨R2, c2', by simp, Ho2.out⟩, by rw [Hm.out, mergeL_l Hx.out (by omega)]; simp, Hbb.out⟩
        case measure => simp [intOf]; omega
    · by_cases h2 : q < b.length
      · obtain ⟨ad2, y, rfl, hy, hc2⟩ := Hb2.out.at_ h2
        have Hy := Lib.hid hy
        clear hy
        go_wp2_with fail
        have hd1 : ((q : Int) == (b.length : Int)) = false := by rw [beq_eq_false_iff_ne]; omega
        have hd2 : decide ((p : Int) < a.length) = false := by simp; omega
        go_quiet (fail)
        go_wp2_with (at_builtin; go_must (refine wpList_append_int rfl _ _ rfl w.heap.size R cR o y o.length rfl rfl (HoN.out _) _ rfl rfl (by omega) (by first | omega | (simp; omega)) ?_; intro R2 c2' w2 ho2 hg2); have hbb := ((HbN.out _).alloc (by first | exact hz | (simp; omega)) _).grown hg2 (by simp; omega) (fun g hg => (Ho.out.row_lt g hg).1); have Hbb := Lib.hid hbb; have Ho2 := Lib.hid ho2; clear ho2 hg2 hbb)
        go_roundw
        case rel => exact ⟨p, q + 1, o ++ [y], by omega, by omega, by rw [List.length_append, Hol.out]; simp; omega, by go_num, by go_num, ⟨R2, c2', by simp, Ho2.out⟩, by rw [Hm.out, mergeL_r (by omega) Hy.out]; simp, Hbb.out⟩
        case measure => simp [intOf]; omega
      · have h3 : q = b.length := by omega
        have h4 : p = a.length := by omega
        have hmm := Hm.out
        rw [mergeL_end (by omega) (by omega), List.append_nil] at hmm
        have Hmm := Lib.hid hmm
        clear hmm
        go_wp2_with fail
        go_ret
        exact ⟨R, cR, ret_slice (by rw [Hmm.out]), by rw [Hmm.out]; exact Ho.out, Hbw.out⟩

end Go.Proofs.Ytnmekcifbmcdpaa

/- Contracts: lists made item by item, by the reference (running sums). -/
namespace Go.Proofs.Ytnmekcifbmcdpaa
open Go.RowKit

theorem OwnJ.base_ {w : World} {base b2 c : Nat} {A : Option Addr} {l : List Int} (h : OwnJ w base A c l) (hb : b2 ≤ base) : OwnJ w b2 A c l :=
  ⟨h.1, h.2.elim .inl fun ⟨g, cap, cur, hv, hbk, r⟩ => .inr ⟨g, cap, cur, hv, Nat.le_trans hb hbk, r⟩⟩

set_option maxRecDepth 100000 in
set_option maxHeartbeats 6400000 in
theorem specSummed_scan (A : Option Addr) (c : Nat) (a : List Int) (xa xb n m : Int) (w : World) (B : Nat) (ha : RdI w B A a) (hB : B ≤ w.heap.size) (hn : a.length ≤ 65536) (ia : Items a) :
    Calls Try.prog 110 #[.agg #[.int .i64 11, .int .i64 xa, .int .i64 xb, .int .i64 n, .int .i64 m], .slice A a.length c] w fun e w' => ∃ R cR, e = .returned (.slice R (scanL 0 a).length cR) ∧ OwnJ w' w.heap.size R cR (scanL 0 a) ∧ Below w.heap.size w w' := by
  obtain ⟨W0, hW0⟩ : ∃ W0 : World, W0 = w.alloc (.cells #[.int .i64 11, .int .i64 xa, .int .i64 xb, .int .i64 n, .int .i64 m] 102) := ⟨_, rfl⟩
  have hb0 : Below w.heap.size w W0 := by rw [hW0]; exact (Below.refl w.heap.size w).alloc (Nat.le_refl _) _
  have hx0 : Bk W0 w.heap.size 102 [.int .i64 11, .int .i64 xa, .int .i64 xb, .int .i64 n, .int .i64 m] := by rw [hW0]; exact Bk.new _ _ [_, _, _, _, _]
  have hs0 : W0.heap.size = w.heap.size + 1 := by rw [hW0]; simp
  have he : OwnJ (W0.alloc (.cells #[] 3)) (w.heap.size + 1) (some ⟨w.heap.size + 1, 0, none⟩) 0 [] := by have := emptyJ W0; rwa [hs0] at this
  have hbe : Below W0.heap.size W0 (W0.alloc (.cells #[] 3)) := (Below.refl _ _).alloc (Nat.le_refl _) _
  have Ha := Lib.hid (ha.below hb0 hB)
  have Hb0 := Lib.hid hb0
  have Hx0 := Lib.hid hx0
  have HW0 := Lib.hid hW0
  have Hs0 := Lib.hid hs0
  have He := Lib.hid he
  have Hbe := Lib.hid hbe
  have Ia := Lib.hid ia
  have hz0 : w.heap.size + 1 ≤ W0.heap.size := by omega
  clear ha hb0 hx0 hW0 hs0 he hbe ia
  go_enter Try.func110, Try.ntmps110
  go_wp2_with fail
  rw [← HW0.out]
  go_loopw [5, 6, 7] (fun sl su i wr => ∃ j : Nat, j ≤ a.length ∧ i = .int .i64 j ∧ (∃ s, s = sumL 0 (a.take j) ∧ su = .int .i64 s) ∧ (∃ R cR, sl = .slice R (scanL 0 (a.take j)).length cR ∧ OwnJ wr (w.heap.size + 1) R cR (scanL 0 (a.take j))) ∧ Below W0.heap.size W0 wr) (fun _ _ i _ => a.length - (intOf i).toNat)
  case atStart => exact ⟨0, Nat.zero_le _, rfl, ⟨0, rfl, rfl⟩, ⟨_, _, rfl, He.out⟩, Hbe.out⟩
  case round =>
    obtain ⟨j, hj, rfl, ⟨s, hs, rfl⟩, ⟨R, cR, rfl, ho⟩, hb⟩ := hrel
    have hz := Nat.le_trans hz0 hb.size
    obtain ⟨m0, hm0⟩ : ∃ m, (scanL 0 (a.take j)).length = m := ⟨_, rfl⟩
    have hmj : m0 ≤ j := by rw [← hm0]; exact Nat.le_trans (Nat.le_of_eq (scanL_len _ _)) (List.length_take_le _ _)
    have hsi : 0 ≤ s ∧ s ≤ 99 := by rw [hs]; exact sumL_in (by omega) (Ia.out.take j)
    rw [hm0]
    have Hm0 := Lib.hid hm0
    have Hs := Lib.hid hs
    have Ho := Lib.hid ho
    have Hbw := Lib.hid hb
    have HoN : Hid (∀ n, OwnJ (wr.drewN n) (w.heap.size + 1) R cR (scanL 0 (a.take j))) := Lib.hid (fun _ => Ho.out)
    have HbN : Hid (∀ n, Below W0.heap.size W0 (wr.drewN n)) := Lib.hid (fun n => Hbw.out.trans (((Same.refl wr).drewN n).below _))
    have Ha2 := Lib.hid (Ha.out.below hb (by omega))
    have hxw := Hx0.out.below hb Hx0.out.lt
    have c0 : wr.cell? ⟨w.heap.size, 0, none⟩ = some (.int .i64 11) := hxw.cell 0
    have c1 : wr.cell? ⟨w.heap.size, 1, none⟩ = some (.int .i64 xa) := hxw.cell 1
    have c2 : wr.cell? ⟨w.heap.size, 2, none⟩ = some (.int .i64 xb) := hxw.cell 2
    have c3 : wr.cell? ⟨w.heap.size, 3, none⟩ = some (.int .i64 n) := hxw.cell 3
    have c4 : wr.cell? ⟨w.heap.size, 4, none⟩ = some (.int .i64 m) := hxw.cell 4
    have Hxw := Lib.hid hxw
    clear ho hb hm0 hs hxw
    by_cases h1 : j < a.length
    · obtain ⟨ad, x, rfl, hx, hc⟩ := Ha2.out.at_ h1
      have hxi := Ia.out.get hx
      have hsw : IntKind.i64.wrap (s + x) = s + x := IntWalk.i64_in _ (by omega)
      have hsr : (s + x).tmod 100 = rst (s + x) := rfl
      have hss : sumL 0 (a.take (j + 1)) = rst (s + x) := by rw [sumL_succ 0 hx, Hs.out]
      have hri := rst_in (x := s + x) (by omega)
      have Hss := Lib.hid hss
      have Hx := Lib.hid hx
      clear hx hss
      go_wp2_with fail
      go_quiet (fail)
      go_wp2_with (at_builtin; go_must (refine wpList_append_int rfl _ _ rfl (w.heap.size + 1) R cR _ (rst (s + x)) m0 Hm0.out rfl (HoN.out _) _ rfl rfl (by omega) (by first | omega | (simp; omega)) ?_; intro R2 c2' w2 ho2 hg2); have hbb := ((HbN.out _).alloc (by first | exact Hbw.out.size | (simp; exact Hbw.out.size)) _).grown hg2 (by have := Hbw.out.size; simp; omega) (fun g hg => by have := (Ho.out.row_lt g hg).1; rw [Hs0.out]; exact this); have Hbb := Lib.hid hbb; have Ho2 := Lib.hid ho2; clear ho2 hg2 hbb)
      go_roundw
      case rel =>
        have hF : scanL 0 (a.take (j + 1)) = scanL 0 (a.take j) ++ [rst (s + x)] := by rw [scanL_succ 0 Hx.out, Hss.out]
        exact ⟨j + 1, by omega, by go_num, ⟨_, Hss.out.symm, rfl⟩, ⟨R2, c2', by rw [hF, List.length_append, Hm0.out]; rfl, by rw [hF]; exact Ho2.out⟩, Hbb.out⟩
      case measure => simp [intOf]; omega

    · obtain rfl : j = a.length := by omega
      go_wp2_with fail
      go_ret
      have Hm1 := Hm0.out
      have Ho1 := Ho.out
      rw [List.take_of_length_le (Nat.le_refl _)] at Hm1 Ho1
      exact ⟨R, cR, ret_slice (by rw [Hm1]), Ho1.base_ (by omega), Hb0.out.trans (Hbw.out.mono (by omega))⟩

end Go.Proofs.Ytnmekcifbmcdpaa

/- Contracts: lists made item by item, by the reference (equal neighbours once). -/
namespace Go.Proofs.Ytnmekcifbmcdpaa
open Go.RowKit

theorem compactUpTo_congr {d e : Array Int} : ∀ m, (∀ i, i < m → d[i]! = e[i]!) → Lib.compactUpTo d m = Lib.compactUpTo e m
  | 0, _ => rfl
  | m + 1, h => by
    have hk : Lib.keeps d m = Lib.keeps e m := by unfold Lib.keeps; rw [h m (by omega), h (m - 1) (by omega)]
    rw [Lib.compactUpTo_succ, Lib.compactUpTo_succ, compactUpTo_congr m (fun i hi => h i (by omega)), h m (by omega), hk]
theorem take_at {l : List Int} {n i : Nat} {x : Int} (h : l[i]? = some x) (hi : i < n) : (l.take n).toArray[i]! = x := by
  rw [List.getElem!_toArray, List.getElem!_eq_getElem?_getD, List.getElem?_take_of_lt hi, h]
  rfl
theorem compact_succ {l : List Int} {i : Nat} {x : Int} (h : l[i]? = some x) : Lib.compact (l.take (i + 1)) = Lib.compact (l.take i) ++ (if i = 0 ∨ l[i - 1]? ≠ some x then [x] else []) := by
  have hi := (List.getElem?_eq_some_iff.1 h).1
  unfold Lib.compact
  rw [List.length_take, List.length_take, Nat.min_eq_left (by omega), Nat.min_eq_left (by omega), Lib.compactUpTo_succ, take_at h (Nat.lt_succ_self i)]
  congr 1
  · refine compactUpTo_congr i fun k hk => ?_
    obtain ⟨y, hy⟩ := get_of_lt l (k := k) (by omega)
    rw [take_at hy (by omega), take_at hy hk]
  · obtain ⟨y, hy⟩ := get_of_lt l (k := i - 1) (by omega)
    unfold Lib.keeps
    rw [take_at h (Nat.lt_succ_self i), take_at hy (by omega), hy]
    by_cases h0 : i = 0
    · simp [h0]
    · by_cases e : y = x
      · subst e; simp [h0]
      · have e2 : ¬ x = y := fun q => e q.symm
        simp [h0, e, e2]
theorem compact_len (l : List Int) : (Lib.compact l).length ≤ l.length := by
  unfold Lib.compact Lib.compactUpTo
  rw [List.length_map]
  have := List.length_filter_le (Lib.keeps l.toArray) (List.range l.length)
  simpa using this
theorem compact_items {l : List Int} (h : Items l) : Items (Lib.compact l) := h.sub fun x hx => by
  unfold Lib.compact Lib.compactUpTo at hx
  obtain ⟨i, hi, rfl⟩ := List.mem_map.1 hx
  have hil : i < l.length := List.mem_range.1 (List.mem_filter.1 hi).1
  simp [hil]

set_option maxRecDepth 100000 in
set_option maxHeartbeats 6400000 in
theorem specSummed_once (A : Option Addr) (c : Nat) (a : List Int) (xa xb n m : Int) (w : World) (B : Nat) (ha : RdI w B A a) (hB : B ≤ w.heap.size) (hn : a.length ≤ 65536) (ia : Items a) :
    Calls Try.prog 110 #[.agg #[.int .i64 13, .int .i64 xa, .int .i64 xb, .int .i64 n, .int .i64 m], .slice A a.length c] w fun e w' => ∃ R cR, e = .returned (.slice R (Lib.compact a).length cR) ∧ OwnJ w' w.heap.size R cR (Lib.compact a) ∧ Below w.heap.size w w' := by
  obtain ⟨W0, hW0⟩ : ∃ W0 : World, W0 = w.alloc (.cells #[.int .i64 13, .int .i64 xa, .int .i64 xb, .int .i64 n, .int .i64 m] 102) := ⟨_, rfl⟩
  have hb0 : Below w.heap.size w W0 := by rw [hW0]; exact (Below.refl w.heap.size w).alloc (Nat.le_refl _) _
  have hx0 : Bk W0 w.heap.size 102 [.int .i64 13, .int .i64 xa, .int .i64 xb, .int .i64 n, .int .i64 m] := by rw [hW0]; exact Bk.new _ _ [_, _, _, _, _]
  have hs0 : W0.heap.size = w.heap.size + 1 := by rw [hW0]; simp
  have he : OwnJ (W0.alloc (.cells #[] 3)) (w.heap.size + 1) (some ⟨w.heap.size + 1, 0, none⟩) 0 [] := by have := emptyJ W0; rwa [hs0] at this
  have hbe : Below W0.heap.size W0 (W0.alloc (.cells #[] 3)) := (Below.refl _ _).alloc (Nat.le_refl _) _
  have Ha := Lib.hid (ha.below hb0 hB)
  have Hb0 := Lib.hid hb0
  have Hx0 := Lib.hid hx0
  have HW0 := Lib.hid hW0
  have Hs0 := Lib.hid hs0
  have He := Lib.hid he
  have Hbe := Lib.hid hbe
  have Ia := Lib.hid ia
  have hz0 : w.heap.size + 1 ≤ W0.heap.size := by omega
  clear ha hb0 hx0 hW0 hs0 he hbe ia
  go_enter Try.func110, Try.ntmps110
  go_wp2_with fail
  rw [← HW0.out]
  go_loopw [5, 6, 7] (fun sl su i wr => ∃ j : Nat, j ≤ a.length ∧ i = .int .i64 j ∧ (∃ s, s = sumL 0 (a.take j) ∧ su = .int .i64 s) ∧ (∃ R cR, sl = .slice R (Lib.compact (a.take j)).length cR ∧ OwnJ wr (w.heap.size + 1) R cR (Lib.compact (a.take j))) ∧ Below W0.heap.size W0 wr) (fun _ _ i _ => a.length - (intOf i).toNat)
  case atStart => exact ⟨0, Nat.zero_le _, rfl, ⟨0, rfl, rfl⟩, ⟨_, _, rfl, He.out⟩, Hbe.out⟩
  case round =>
    obtain ⟨j, hj, rfl, ⟨s, hs, rfl⟩, ⟨R, cR, rfl, ho⟩, hb⟩ := hrel
    have hz := Nat.le_trans hz0 hb.size
    obtain ⟨m0, hm0⟩ : ∃ m, (Lib.compact (a.take j)).length = m := ⟨_, rfl⟩
    have hmj : m0 ≤ j := by rw [← hm0]; exact Nat.le_trans (compact_len _) (List.length_take_le _ _)
    have hsi : 0 ≤ s ∧ s ≤ 99 := by rw [hs]; exact sumL_in (by omega) (Ia.out.take j)
    rw [hm0]
    have Hm0 := Lib.hid hm0
    have Hs := Lib.hid hs
    have Ho := Lib.hid ho
    have Hbw := Lib.hid hb
    have HoN : Hid (∀ n, OwnJ (wr.drewN n) (w.heap.size + 1) R cR (Lib.compact (a.take j))) := Lib.hid (fun _ => Ho.out)
    have HbN : Hid (∀ n, Below W0.heap.size W0 (wr.drewN n)) := Lib.hid (fun n => Hbw.out.trans (((Same.refl wr).drewN n).below _))
    have Ha2 := Lib.hid (Ha.out.below hb (by omega))
    have hxw := Hx0.out.below hb Hx0.out.lt
    have c0 : wr.cell? ⟨w.heap.size, 0, none⟩ = some (.int .i64 13) := hxw.cell 0
    have c1 : wr.cell? ⟨w.heap.size, 1, none⟩ = some (.int .i64 xa) := hxw.cell 1
    have c2 : wr.cell? ⟨w.heap.size, 2, none⟩ = some (.int .i64 xb) := hxw.cell 2
    have c3 : wr.cell? ⟨w.heap.size, 3, none⟩ = some (.int .i64 n) := hxw.cell 3
    have c4 : wr.cell? ⟨w.heap.size, 4, none⟩ = some (.int .i64 m) := hxw.cell 4
    have Hxw := Lib.hid hxw
    clear ho hb hm0 hs hxw
    by_cases h1 : j < a.length
    · obtain ⟨ad, x, rfl, hx, hc⟩ := Ha2.out.at_ h1
      have hxi := Ia.out.get hx
      have hsw : IntKind.i64.wrap (s + x) = s + x := IntWalk.i64_in _ (by omega)
      have hsr : (s + x).tmod 100 = rst (s + x) := rfl
      have hss : sumL 0 (a.take (j + 1)) = rst (s + x) := by rw [sumL_succ 0 hx, Hs.out]
      have hri := rst_in (x := s + x) (by omega)
      have Hss := Lib.hid hss
      have Hx := Lib.hid hx
      clear hx hss
      by_cases h0 : j = 0
      · have HF : Hid (Lib.compact (a.take (j + 1)) = Lib.compact (a.take j) ++ [x]) := Lib.hid (by rw [compact_succ Hx.out, if_pos (.inl h0)])
        have hj2 : ((j : Int) == 0) = true := by rw [beq_iff_eq]; omega
        clear h0
        go_wp2_with fail
        go_quiet (fail)
        go_wp2_with fail
        go_quiet (fail)
        go_wp2_with (at_builtin; go_must (refine wpList_append_int rfl _ _ rfl (w.heap.size + 1) R cR _ x m0 Hm0.out rfl (HoN.out _) _ rfl rfl (by omega) (by first | omega | (simp; omega)) ?_; intro R2 c2' w2 ho2 hg2); have hbb := ((HbN.out _).alloc (by first | exact Hbw.out.size | (simp; exact Hbw.out.size)) _).grown hg2 (by have := Hbw.out.size; simp; omega) (fun g hg => by have := (Ho.out.row_lt g hg).1; rw [Hs0.out]; exact this); have Hbb := Lib.hid hbb; have Ho2 := Lib.hid ho2; clear ho2 hg2 hbb)
        go_roundw
        case rel =>
          have hF : Lib.compact (a.take (j + 1)) = Lib.compact (a.take j) ++ [x] := HF.out
          exact ⟨j + 1, by omega, by go_num, ⟨_, Hss.out.symm, rfl⟩, ⟨R2, c2', by rw [hF, List.length_append, Hm0.out]; rfl, by rw [hF]; exact Ho2.out⟩, Hbb.out⟩
        case measure => simp [intOf]; omega
      · obtain ⟨y, hy⟩ := get_of_lt a (k := j - 1) (by omega)
        have hcy := Ha2.out.val hy
        have hj1 : IntKind.i64.wrap ((j : Int) - 1) = ((j - 1 : Nat) : Int) := by rw [show ((j - 1 : Nat) : Int) = (j : Int) - 1 by omega]; exact IntWalk.i64_in _ (by omega)
        have hj2 : ((j : Int) == 0) = false := by rw [beq_eq_false_iff_ne]; omega
        by_cases hxy : x = y
        · have hxy2 : (x != y) = false := by simp [hxy]
          have HF : Hid (Lib.compact (a.take (j + 1)) = Lib.compact (a.take j)) := Lib.hid (by rw [compact_succ Hx.out, if_neg (by rw [hy, hxy]; simp [h0]), List.append_nil])
          clear hy hxy
          go_wp2_with fail
          go_quiet (fail)
          go_wp2_with fail
          go_quiet (fail)
          go_wp2_with fail
          go_roundw
          case rel =>
            have hF : Lib.compact (a.take (j + 1)) = Lib.compact (a.take j) := HF.out
            exact ⟨j + 1, by omega, by go_num, ⟨_, Hss.out.symm, rfl⟩, ⟨R, cR, by rw [hF, Hm0.out], by rw [hF]; exact HoN.out _⟩, HbN.out _⟩
          case measure => simp [intOf]; omega
        · have hxy2 : (x != y) = true := by simp [hxy]
          have HF : Hid (Lib.compact (a.take (j + 1)) = Lib.compact (a.take j) ++ [x]) := Lib.hid (by rw [compact_succ Hx.out, if_pos (.inr (by rw [hy]; intro e; exact hxy (Option.some.inj e).symm))])
          clear hy hxy
          go_wp2_with fail
          go_quiet (fail)
          go_wp2_with fail
          go_quiet (fail)
          go_wp2_with (at_builtin; go_must (refine wpList_append_int rfl _ _ rfl (w.heap.size + 1) R cR _ x m0 Hm0.out rfl (HoN.out _) _ rfl rfl (by omega) (by first | omega | (simp; omega)) ?_; intro R2 c2' w2 ho2 hg2); have hbb := ((HbN.out _).alloc (by first | exact Hbw.out.size | (simp; exact Hbw.out.size)) _).grown hg2 (by have := Hbw.out.size; simp; omega) (fun g hg => by have := (Ho.out.row_lt g hg).1; rw [Hs0.out]; exact this); have Hbb := Lib.hid hbb; have Ho2 := Lib.hid ho2; clear ho2 hg2 hbb)
          go_roundw
          case rel =>
            have hF : Lib.compact (a.take (j + 1)) = Lib.compact (a.take j) ++ [x] := HF.out
            exact ⟨j + 1, by omega, by go_num, ⟨_, Hss.out.symm, rfl⟩, ⟨R2, c2', by rw [hF, List.length_append, Hm0.out]; rfl, by rw [hF]; exact Ho2.out⟩, Hbb.out⟩
          case measure => simp [intOf]; omega

    · obtain rfl : j = a.length := by omega
      go_wp2_with fail
      go_ret
      have Hm1 := Hm0.out
      have Ho1 := Ho.out
      rw [List.take_of_length_le (Nat.le_refl _)] at Hm1 Ho1
      exact ⟨R, cR, ret_slice (by rw [Hm1]), Ho1.base_ (by omega), Hb0.out.trans (Hbw.out.mono (by omega))⟩

end Go.Proofs.Ytnmekcifbmcdpaa

/- Contracts: lists made item by item, by the reference (each item another one, and items that are kept). -/
namespace Go.Proofs.Ytnmekcifbmcdpaa
open Go.RowKit

set_option maxHeartbeats 800000 in
theorem specMapped_any (k xa xb n m x : Int) (w : World) (hn : 0 ≤ n ∧ n ≤ 99) (hm : 0 ≤ m ∧ m ≤ 99) (hx : 0 ≤ x ∧ x ≤ 99) :
    Calls Try.prog 134 #[.agg #[.int .i64 k, .int .i64 xa, .int .i64 xb, .int .i64 n, .int .i64 m], .int .i64 x] w fun e w' => e = .returned (.int .i64 (rst (n * x + m))) ∧ Below w.heap.size w w' := by
  have h1 : 0 ≤ n * x := Int.mul_nonneg hn.1 hx.1
  have h2 : n * x ≤ 99 * 99 := Int.mul_le_mul hn.2 hx.2 hx.1 (by omega)
  have h3 : IntKind.i64.wrap (n * x) = n * x := IntWalk.i64_in _ (by omega)
  have h4 : IntKind.i64.wrap (n * x + m) = n * x + m := IntWalk.i64_in _ (by omega)
  have h5 : (n * x + m).tmod 100 = rst (n * x + m) := rfl
  have h6 := rst_in (x := n * x + m) (by omega)
  go_enter Try.func134, Try.ntmps134
  go_wp2_with fail
  go_ret
  exact ⟨rfl, (Below.refl _ _).alloc (Nat.le_refl _) _⟩

set_option maxHeartbeats 800000 in
theorem specKeeps_any (k xa xb n m x : Int) (w : World) (hn : 1 ≤ n ∧ n ≤ 99) (b : Bool) (hb : (x.tmod n == m) = b) (hx : 0 ≤ x ∧ x ≤ 99) :
    Calls Try.prog 135 #[.agg #[.int .i64 k, .int .i64 xa, .int .i64 xb, .int .i64 n, .int .i64 m], .int .i64 x] w fun e w' => e = .returned (.bool b) ∧ Below w.heap.size w w' := by
  have hz : n ≠ 0 := by omega
  obtain ⟨r, hr⟩ : ∃ r, x.tmod n = r := ⟨_, rfl⟩
  rw [hr] at hb
  have hr2 : IntKind.i64.wrap r = r := by
    rw [← hr, Int.tmod_eq_emod_of_nonneg hx.1]
    have h1 := Int.emod_nonneg x hz
    have h2 := Int.emod_lt_of_pos x (show 0 < n by omega)
    exact IntWalk.i64_in _ (by omega)
  go_enter Try.func135, Try.ntmps135
  go_wp2_with fail
  go_region
  go_wp2_with fail
  go_ret
  exact ⟨rfl, ((Below.refl _ _).alloc (Nat.le_refl _) _).drew⟩

end Go.Proofs.Ytnmekcifbmcdpaa

/- Contracts: lists made item by item, by the reference (other items, and items that are kept). -/
namespace Go.Proofs.Ytnmekcifbmcdpaa
open Go.RowKit Go.Sort

set_option maxRecDepth 100000 in
set_option maxHeartbeats 6400000 in
theorem specSummed_map (A : Option Addr) (c : Nat) (a : List Int) (xa xb n m : Int) (w : World) (B : Nat) (ha : RdI w B A a) (hB : B ≤ w.heap.size) (hn : a.length ≤ 65536) (ia : Items a) (hnb : 0 ≤ n ∧ n ≤ 99) (hmb : 0 ≤ m ∧ m ≤ 99) :
    Calls Try.prog 110 #[.agg #[.int .i64 1, .int .i64 xa, .int .i64 xb, .int .i64 n, .int .i64 m], .slice A a.length c] w fun e w' => ∃ R cR, e = .returned (.slice R (mapL n m a).length cR) ∧ OwnJ w' w.heap.size R cR (mapL n m a) ∧ Below w.heap.size w w' := by
  obtain ⟨W0, hW0⟩ : ∃ W0 : World, W0 = w.alloc (.cells #[.int .i64 1, .int .i64 xa, .int .i64 xb, .int .i64 n, .int .i64 m] 102) := ⟨_, rfl⟩
  have hb0 : Below w.heap.size w W0 := by rw [hW0]; exact (Below.refl w.heap.size w).alloc (Nat.le_refl _) _
  have hx0 : Bk W0 w.heap.size 102 [.int .i64 1, .int .i64 xa, .int .i64 xb, .int .i64 n, .int .i64 m] := by rw [hW0]; exact Bk.new _ _ [_, _, _, _, _]
  have hs0 : W0.heap.size = w.heap.size + 1 := by rw [hW0]; simp
  have he : OwnJ (W0.alloc (.cells #[] 3)) (w.heap.size + 1) (some ⟨w.heap.size + 1, 0, none⟩) 0 [] := by have := emptyJ W0; rwa [hs0] at this
  have hbe : Below W0.heap.size W0 (W0.alloc (.cells #[] 3)) := (Below.refl _ _).alloc (Nat.le_refl _) _
  have Ha := Lib.hid (ha.below hb0 hB)
  have Hb0 := Lib.hid hb0
  have Hx0 := Lib.hid hx0
  have HW0 := Lib.hid hW0
  have Hs0 := Lib.hid hs0
  have He := Lib.hid he
  have Hbe := Lib.hid hbe
  have Ia := Lib.hid ia
  have hz0 : w.heap.size + 1 ≤ W0.heap.size := by omega
  have Hnb := Lib.hid hnb
  have Hmb := Lib.hid hmb
  clear hnb hmb ha hb0 hx0 hW0 hs0 he hbe ia
  go_enter Try.func110, Try.ntmps110
  go_wp2_with fail
  rw [← HW0.out]
  go_loopw [5, 6, 7] (fun sl su i wr => ∃ j : Nat, j ≤ a.length ∧ i = .int .i64 j ∧ (∃ s, s = sumL 0 (a.take j) ∧ su = .int .i64 s) ∧ (∃ R cR, sl = .slice R (mapL n m (a.take j)).length cR ∧ OwnJ wr (w.heap.size + 1) R cR (mapL n m (a.take j))) ∧ Below W0.heap.size W0 wr) (fun _ _ i _ => a.length - (intOf i).toNat)
  case atStart => exact ⟨0, Nat.zero_le _, rfl, ⟨0, rfl, rfl⟩, ⟨_, _, rfl, He.out⟩, Hbe.out⟩
  case round =>
    obtain ⟨j, hj, rfl, ⟨s, hs, rfl⟩, ⟨R, cR, rfl, ho⟩, hb⟩ := hrel
    have hz := Nat.le_trans hz0 hb.size
    obtain ⟨m0, hm0⟩ : ∃ q0, (mapL n m (a.take j)).length = q0 := ⟨_, rfl⟩
    have hmj : m0 ≤ j := by rw [← hm0]; exact Nat.le_trans (Nat.le_of_eq (mapL_len n m _)) (List.length_take_le _ _)
    have hsi : 0 ≤ s ∧ s ≤ 99 := by rw [hs]; exact sumL_in (by omega) (Ia.out.take j)
    rw [hm0]
    have Hm0 := Lib.hid hm0
    have Hs := Lib.hid hs
    have Ho := Lib.hid ho
    have Hbw := Lib.hid hb
    have HoN : Hid (∀ dn, OwnJ (wr.drewN dn) (w.heap.size + 1) R cR (mapL n m (a.take j))) := Lib.hid (fun _ => Ho.out)
    have HbN : Hid (∀ n, Below W0.heap.size W0 (wr.drewN n)) := Lib.hid (fun n => Hbw.out.trans (((Same.refl wr).drewN n).below _))
    have Ha2 := Lib.hid (Ha.out.below hb (by omega))
    have hxw := Hx0.out.below hb Hx0.out.lt
    have c0 : wr.cell? ⟨w.heap.size, 0, none⟩ = some (.int .i64 1) := hxw.cell 0
    have c1 : wr.cell? ⟨w.heap.size, 1, none⟩ = some (.int .i64 xa) := hxw.cell 1
    have c2 : wr.cell? ⟨w.heap.size, 2, none⟩ = some (.int .i64 xb) := hxw.cell 2
    have c3 : wr.cell? ⟨w.heap.size, 3, none⟩ = some (.int .i64 n) := hxw.cell 3
    have c4 : wr.cell? ⟨w.heap.size, 4, none⟩ = some (.int .i64 m) := hxw.cell 4
    have Hxw := Lib.hid hxw
    clear ho hb hm0 hs hxw
    by_cases h1 : j < a.length
    · obtain ⟨ad, x, rfl, hx, hc⟩ := Ha2.out.at_ h1
      have hxi := Ia.out.get hx
      have hsw : IntKind.i64.wrap (s + x) = s + x := IntWalk.i64_in _ (by omega)
      have hsr : (s + x).tmod 100 = rst (s + x) := rfl
      have hss : sumL 0 (a.take (j + 1)) = rst (s + x) := by rw [sumL_succ 0 hx, Hs.out]
      have hri := rst_in (x := s + x) (by omega)
      have Hss := Lib.hid hss
      have Hx := Lib.hid hx
      clear hx hss
      have HF : Hid (mapL n m (a.take (j + 1)) = mapL n m (a.take j) ++ [rst (n * x + m)]) := Lib.hid (mapL_succ n m Hx.out)
      go_wp2_with fail
      go_region_held3 (fun w' => w'.cell? ⟨w.heap.size, 0, none⟩ = some (.int .i64 1) ∧ w'.cell? ⟨w.heap.size, 1, none⟩ = some (.int .i64 xa) ∧ w'.cell? ⟨w.heap.size, 2, none⟩ = some (.int .i64 xb) ∧ w'.cell? ⟨w.heap.size, 3, none⟩ = some (.int .i64 n) ∧ w'.cell? ⟨w.heap.size, 4, none⟩ = some (.int .i64 m) ∧ w'.cell? (ad.add j) = some (.int .i64 x)) (go_keep)
        (first
          | (
            refine step_append_int rfl _ _ rfl (w.heap.size + 1) R cR _ (rst (n * x + m)) m0 Hm0.out rfl (HoQ.out) _ rfl rfl (by omega) (by first | omega | (simp; omega)) ?_
            intro R2 c2' w2 ho2 hg2
            have hbb := (Hb6.out.alloc (by first | exact Hb6.out.size | (simp; exact Hb6.out.size)) _).grown hg2 (by have := Hb6.out.size; simp; omega) (fun g hg => by have := (Ho.out.row_lt g hg).1; rw [Hs0.out]; exact this)
            have hx2 := Hx0.out.below hbb Hx0.out.lt
            have ks := And.intro (hx2.cell 0) (And.intro (hx2.cell 1) (And.intro (hx2.cell 2) (And.intro (hx2.cell 3) (And.intro (hx2.cell 4) ((Ha.out.below hbb (by omega)).val Hx.out)))))
            have Hbb := Lib.hid hbb
            have Ho2 := Lib.hid ho2
            clear ho2 hg2 hbb hx2)
          | (
            go_at_call 134
            refine (specMapped_any 1 xa xb n m x _ Hnb.out Hmb.out hxi).mono ?_
            rintro e w5 ⟨rfl, hb5⟩
            have hb50 : Below wr.heap.size wr w5 := ((Below.refl wr.heap.size wr).drew).trans (hb5.mono (by simp))
            have hb6 := Hbw.out.trans (hb50.mono Hbw.out.size)
            have hx2 := Hx0.out.below hb6 Hx0.out.lt
            have ks := And.intro (hx2.cell 0) (And.intro (hx2.cell 1) (And.intro (hx2.cell 2) (And.intro (hx2.cell 3) (And.intro (hx2.cell 4) ((Ha.out.below hb6 (by omega)).val Hx.out)))))
            have hzq := Nat.le_trans hz hb50.size
            have Hb6 := Lib.hid hb6
            have HoQ := Lib.hid (Ho.out.below hb50 (Nat.le_refl _))
            clear hb5 hb50 hb6 hx2))
      all_goals
        go_wp2_with fail
        go_roundw
        case rel =>
          have hF : mapL n m (a.take (j + 1)) = mapL n m (a.take j) ++ [rst (n * x + m)] := HF.out
          exact ⟨j + 1, by omega, by go_num, ⟨_, Hss.out.symm, rfl⟩, ⟨R2, c2', by rw [hF, List.length_append, Hm0.out]; rfl, by rw [hF]; exact Ho2.out⟩, Hbb.out⟩
        case measure => simp [intOf]; omega

    · obtain rfl : j = a.length := by omega
      go_wp2_with fail
      go_ret
      have Hm1 := Hm0.out
      have Ho1 := Ho.out
      rw [List.take_of_length_le (Nat.le_refl _)] at Hm1 Ho1
      exact ⟨R, cR, ret_slice (by rw [Hm1]), Ho1.base_ (by omega), Hb0.out.trans (Hbw.out.mono (by omega))⟩

set_option maxRecDepth 100000 in
set_option maxHeartbeats 6400000 in
theorem specSummed_filter (A : Option Addr) (c : Nat) (a : List Int) (xa xb n m : Int) (w : World) (B : Nat) (ha : RdI w B A a) (hB : B ≤ w.heap.size) (hn : a.length ≤ 65536) (ia : Items a) (hnb : 1 ≤ n ∧ n ≤ 99) :
    Calls Try.prog 110 #[.agg #[.int .i64 2, .int .i64 xa, .int .i64 xb, .int .i64 n, .int .i64 m], .slice A a.length c] w fun e w' => ∃ R cR, e = .returned (.slice R (filL n m a).length cR) ∧ OwnJ w' w.heap.size R cR (filL n m a) ∧ Below w.heap.size w w' := by
  obtain ⟨W0, hW0⟩ : ∃ W0 : World, W0 = w.alloc (.cells #[.int .i64 2, .int .i64 xa, .int .i64 xb, .int .i64 n, .int .i64 m] 102) := ⟨_, rfl⟩
  have hb0 : Below w.heap.size w W0 := by rw [hW0]; exact (Below.refl w.heap.size w).alloc (Nat.le_refl _) _
  have hx0 : Bk W0 w.heap.size 102 [.int .i64 2, .int .i64 xa, .int .i64 xb, .int .i64 n, .int .i64 m] := by rw [hW0]; exact Bk.new _ _ [_, _, _, _, _]
  have hs0 : W0.heap.size = w.heap.size + 1 := by rw [hW0]; simp
  have he : OwnJ (W0.alloc (.cells #[] 3)) (w.heap.size + 1) (some ⟨w.heap.size + 1, 0, none⟩) 0 [] := by have := emptyJ W0; rwa [hs0] at this
  have hbe : Below W0.heap.size W0 (W0.alloc (.cells #[] 3)) := (Below.refl _ _).alloc (Nat.le_refl _) _
  have Ha := Lib.hid (ha.below hb0 hB)
  have Hb0 := Lib.hid hb0
  have Hx0 := Lib.hid hx0
  have HW0 := Lib.hid hW0
  have Hs0 := Lib.hid hs0
  have He := Lib.hid he
  have Hbe := Lib.hid hbe
  have Ia := Lib.hid ia
  have hz0 : w.heap.size + 1 ≤ W0.heap.size := by omega
  have Hnb := Lib.hid hnb
  clear hnb ha hb0 hx0 hW0 hs0 he hbe ia
  go_enter Try.func110, Try.ntmps110
  go_wp2_with fail
  rw [← HW0.out]
  go_loopw [5, 6, 7] (fun sl su i wr => ∃ j : Nat, j ≤ a.length ∧ i = .int .i64 j ∧ (∃ s, s = sumL 0 (a.take j) ∧ su = .int .i64 s) ∧ (∃ R cR, sl = .slice R (filL n m (a.take j)).length cR ∧ OwnJ wr (w.heap.size + 1) R cR (filL n m (a.take j))) ∧ Below W0.heap.size W0 wr) (fun _ _ i _ => a.length - (intOf i).toNat)
  case atStart => exact ⟨0, Nat.zero_le _, rfl, ⟨0, rfl, rfl⟩, ⟨_, _, rfl, He.out⟩, Hbe.out⟩
  case round =>
    obtain ⟨j, hj, rfl, ⟨s, hs, rfl⟩, ⟨R, cR, rfl, ho⟩, hb⟩ := hrel
    have hz := Nat.le_trans hz0 hb.size
    obtain ⟨m0, hm0⟩ : ∃ q0, (filL n m (a.take j)).length = q0 := ⟨_, rfl⟩
    have hmj : m0 ≤ j := by rw [← hm0]; exact Nat.le_trans (filL_len n m _) (List.length_take_le _ _)
    have hsi : 0 ≤ s ∧ s ≤ 99 := by rw [hs]; exact sumL_in (by omega) (Ia.out.take j)
    rw [hm0]
    have Hm0 := Lib.hid hm0
    have Hs := Lib.hid hs
    have Ho := Lib.hid ho
    have Hbw := Lib.hid hb
    have HoN : Hid (∀ dn, OwnJ (wr.drewN dn) (w.heap.size + 1) R cR (filL n m (a.take j))) := Lib.hid (fun _ => Ho.out)
    have HbN : Hid (∀ n, Below W0.heap.size W0 (wr.drewN n)) := Lib.hid (fun n => Hbw.out.trans (((Same.refl wr).drewN n).below _))
    have Ha2 := Lib.hid (Ha.out.below hb (by omega))
    have hxw := Hx0.out.below hb Hx0.out.lt
    have c0 : wr.cell? ⟨w.heap.size, 0, none⟩ = some (.int .i64 2) := hxw.cell 0
    have c1 : wr.cell? ⟨w.heap.size, 1, none⟩ = some (.int .i64 xa) := hxw.cell 1
    have c2 : wr.cell? ⟨w.heap.size, 2, none⟩ = some (.int .i64 xb) := hxw.cell 2
    have c3 : wr.cell? ⟨w.heap.size, 3, none⟩ = some (.int .i64 n) := hxw.cell 3
    have c4 : wr.cell? ⟨w.heap.size, 4, none⟩ = some (.int .i64 m) := hxw.cell 4
    have Hxw := Lib.hid hxw
    clear ho hb hm0 hs hxw
    by_cases h1 : j < a.length
    · obtain ⟨ad, x, rfl, hx, hc⟩ := Ha2.out.at_ h1
      have hxi := Ia.out.get hx
      have hsw : IntKind.i64.wrap (s + x) = s + x := IntWalk.i64_in _ (by omega)
      have hsr : (s + x).tmod 100 = rst (s + x) := rfl
      have hss : sumL 0 (a.take (j + 1)) = rst (s + x) := by rw [sumL_succ 0 hx, Hs.out]
      have hri := rst_in (x := s + x) (by omega)
      have Hss := Lib.hid hss
      have Hx := Lib.hid hx
      clear hx hss
      cases hk : (x.tmod n == m)
      · have HF : Hid (filL n m (a.take (j + 1)) = filL n m (a.take j)) := Lib.hid (by rw [filL_succ n m Hx.out, hk]; simp)
        have Hk := Lib.hid hk
        clear hk
        go_wp2_with fail
        have q0 : ∀ d os, (grow (redrawn wr d) os).cell? ⟨w.heap.size, 0, none⟩ = some (.int .i64 2) := fun d os => cell_regrown (Hxw.out.cell 0) d os
        have q1 : ∀ d os, (grow (redrawn wr d) os).cell? ⟨w.heap.size, 1, none⟩ = some (.int .i64 xa) := fun d os => cell_regrown (Hxw.out.cell 1) d os
        have q2 : ∀ d os, (grow (redrawn wr d) os).cell? ⟨w.heap.size, 2, none⟩ = some (.int .i64 xb) := fun d os => cell_regrown (Hxw.out.cell 2) d os
        have q3 : ∀ d os, (grow (redrawn wr d) os).cell? ⟨w.heap.size, 3, none⟩ = some (.int .i64 n) := fun d os => cell_regrown (Hxw.out.cell 3) d os
        have q4 : ∀ d os, (grow (redrawn wr d) os).cell? ⟨w.heap.size, 4, none⟩ = some (.int .i64 m) := fun d os => cell_regrown (Hxw.out.cell 4) d os
        have qx : ∀ d os, (grow (redrawn wr d) os).cell? (ad.add j) = some (.int .i64 x) := fun d os => cell_regrown hc d os
        have Hc := Lib.hid (fun d os => Calls.regrown_of (specKeeps_any 2 xa xb n m x (grow (redrawn wr d) os) Hnb.out false Hk.out hxi))
        refine wp_region_quiet_below (by kernel_rfl) (by kernel_rfl) ?_
        repeat (quiet_step ((first | (go_at_call 135; exact Hc.out _ _))))
        refine wpQuiet_nil ?_
        intro wq hwq
        obtain ⟨pq, hwq⟩ := hwq
        have hb5 : Below wr.heap.size wr wq := by rw [hwq]; exact below_regrown _ _ _
        have hb6 := Hbw.out.trans (hb5.mono Hbw.out.size)
        have d0 : wq.cell? ⟨w.heap.size, 0, none⟩ = some (.int .i64 2) := (Hx0.out.below hb6 Hx0.out.lt).cell 0
        have dx : wq.cell? (ad.add j) = some (.int .i64 x) := (Ha.out.below hb6 (by omega)).val Hx.out
        have hzq := Nat.le_trans hz hb5.size
        have Hb6 := Lib.hid hb6
        have HoQ := Lib.hid (Ho.out.below hb5 (Nat.le_refl _))
        have HbN : Hid (∀ n, Below W0.heap.size W0 (wq.drewN n)) := Lib.hid (fun n => Hb6.out.trans (((Same.refl wq).drewN n).below _))
        have HoN : Hid (∀ dn, OwnJ (wq.drewN dn) (w.heap.size + 1) R cR (filL n m (a.take j))) := Lib.hid (fun _ => HoQ.out)
        clear hwq q0 q1 q2 q3 q4 qx hb5 hb6 c0 c1 c2 c3 c4 hc
        go_wp2_with fail
        go_quiet (fail)
        go_wp2_with fail
        go_roundw
        case rel =>
          have hF : filL n m (a.take (j + 1)) = filL n m (a.take j) := HF.out
          exact ⟨j + 1, by omega, by go_num, ⟨_, Hss.out.symm, rfl⟩, ⟨R, cR, by rw [hF, Hm0.out], by rw [hF]; exact HoN.out _⟩, HbN.out _⟩
        case measure => simp [intOf]; omega
      · have HF : Hid (filL n m (a.take (j + 1)) = filL n m (a.take j) ++ [x]) := Lib.hid (by rw [filL_succ n m Hx.out, hk]; simp)
        have Hk := Lib.hid hk
        clear hk
        go_wp2_with fail
        have q0 : ∀ d os, (grow (redrawn wr d) os).cell? ⟨w.heap.size, 0, none⟩ = some (.int .i64 2) := fun d os => cell_regrown (Hxw.out.cell 0) d os
        have q1 : ∀ d os, (grow (redrawn wr d) os).cell? ⟨w.heap.size, 1, none⟩ = some (.int .i64 xa) := fun d os => cell_regrown (Hxw.out.cell 1) d os
        have q2 : ∀ d os, (grow (redrawn wr d) os).cell? ⟨w.heap.size, 2, none⟩ = some (.int .i64 xb) := fun d os => cell_regrown (Hxw.out.cell 2) d os
        have q3 : ∀ d os, (grow (redrawn wr d) os).cell? ⟨w.heap.size, 3, none⟩ = some (.int .i64 n) := fun d os => cell_regrown (Hxw.out.cell 3) d os
        have q4 : ∀ d os, (grow (redrawn wr d) os).cell? ⟨w.heap.size, 4, none⟩ = some (.int .i64 m) := fun d os => cell_regrown (Hxw.out.cell 4) d os
        have qx : ∀ d os, (grow (redrawn wr d) os).cell? (ad.add j) = some (.int .i64 x) := fun d os => cell_regrown hc d os
        have Hc := Lib.hid (fun d os => Calls.regrown_of (specKeeps_any 2 xa xb n m x (grow (redrawn wr d) os) Hnb.out true Hk.out hxi))
        refine wp_region_quiet_below (by kernel_rfl) (by kernel_rfl) ?_
        repeat (quiet_step ((first | (go_at_call 135; exact Hc.out _ _))))
        refine wpQuiet_nil ?_
        intro wq hwq
        obtain ⟨pq, hwq⟩ := hwq
        have hb5 : Below wr.heap.size wr wq := by rw [hwq]; exact below_regrown _ _ _
        have hb6 := Hbw.out.trans (hb5.mono Hbw.out.size)
        have d0 : wq.cell? ⟨w.heap.size, 0, none⟩ = some (.int .i64 2) := (Hx0.out.below hb6 Hx0.out.lt).cell 0
        have dx : wq.cell? (ad.add j) = some (.int .i64 x) := (Ha.out.below hb6 (by omega)).val Hx.out
        have hzq := Nat.le_trans hz hb5.size
        have Hb6 := Lib.hid hb6
        have HoQ := Lib.hid (Ho.out.below hb5 (Nat.le_refl _))
        have HbN : Hid (∀ n, Below W0.heap.size W0 (wq.drewN n)) := Lib.hid (fun n => Hb6.out.trans (((Same.refl wq).drewN n).below _))
        have HoN : Hid (∀ dn, OwnJ (wq.drewN dn) (w.heap.size + 1) R cR (filL n m (a.take j))) := Lib.hid (fun _ => HoQ.out)
        clear hwq q0 q1 q2 q3 q4 qx hb5 hb6 c0 c1 c2 c3 c4 hc
        go_wp2_with (at_builtin; go_must (refine wpList_append_int rfl _ _ rfl (w.heap.size + 1) R cR _ x m0 Hm0.out rfl (HoQ.out) _ rfl rfl (by omega) (by first | omega | (simp; omega)) ?_; intro R2 c2' w2 ho2 hg2); have hbb := ((Hb6.out).alloc (by first | exact Hb6.out.size | (simp; exact Hb6.out.size)) _).grown hg2 (by have := Hb6.out.size; simp; omega) (fun g hg => by have := (Ho.out.row_lt g hg).1; rw [Hs0.out]; exact this); have Hbb := Lib.hid hbb; have Ho2 := Lib.hid ho2; clear ho2 hg2 hbb)
        go_roundw
        case rel =>
          have hF : filL n m (a.take (j + 1)) = filL n m (a.take j) ++ [x] := HF.out
          exact ⟨j + 1, by omega, by go_num, ⟨_, Hss.out.symm, rfl⟩, ⟨R2, c2', by rw [hF, List.length_append, Hm0.out]; rfl, by rw [hF]; exact Ho2.out⟩, Hbb.out⟩
        case measure => simp [intOf]; omega

    · obtain rfl : j = a.length := by omega
      go_wp2_with fail
      go_ret
      have Hm1 := Hm0.out
      have Ho1 := Ho.out
      rw [List.take_of_length_le (Nat.le_refl _)] at Hm1 Ho1
      exact ⟨R, cR, ret_slice (by rw [Hm1]), Ho1.base_ (by omega), Hb0.out.trans (Hbw.out.mono (by omega))⟩

end Go.Proofs.Ytnmekcifbmcdpaa

/- Contracts: lists out of lists, by the program (one number out of a list). -/
namespace Go.Proofs.Ytnmekcifbmcdpaa
open Go.RowKit

theorem implRest_any (n : Int) (w : World) (h : 0 ≤ n) :
    Calls Try.prog 136 #[.int .i64 n] w fun e w' => e = .returned (.int .i64 (rst n)) ∧ w = w' := by
  have h5 : n.tmod 100 = rst n := rfl
  have h6 := rst_in h
  go_enter Try.func136, Try.ntmps136
  go_wp2
  go_ret
  exact ⟨rfl, rfl⟩

set_option maxHeartbeats 1600000 in
theorem implFirstGreat_any (A : Option Addr) (c : Nat) (l : List Int) (n : Int) (w : World) (B : Nat) (h : RdI w B A l) (hn : l.length ≤ 1048576) :
    Calls Try.prog 117 #[.slice A l.length c, .int .i64 n] w fun e w' => e = .returned (.int .i64 (frst l n)) ∧ w = w' := by
  have H := Lib.hid h
  clear h
  go_enter Try.func117, Try.ntmps117
  go_wp2_with fail
  go_loop [9] (fun i => ∃ j : Nat, j ≤ l.length ∧ i = .int .i64 j ∧ frst l n = j + frst (l.drop j) n) (fun i => l.length - (intOf i).toNat)
  case atStart => exact ⟨0, Nat.zero_le _, rfl, by simp⟩
  case round =>
    obtain ⟨j, hj, rfl, hf⟩ := hrel
    have Hf := Lib.hid hf
    clear hf
    by_cases hlt : j < l.length
    · obtain ⟨ad, x, rfl, hx, hc⟩ := H.out.at_ hlt
      have Hx := Lib.hid hx
      clear hx
      by_cases hxn : x < n
      · go_wp2_with fail
        go_round
        case rel => exact ⟨j + 1, by omega, by go_num, by rw [Hf.out, frst_step Hx.out hxn]; omega⟩
        case measure => simp [intOf]; omega
      · go_wp2_with fail
        go_ret
        exact ⟨ret_int (by rw [Hf.out, frst_stop Hx.out (by omega)]; simp), rfl⟩
    · go_wp2_with fail
      go_ret
      exact ⟨ret_int (by rw [Hf.out, frst_end n (by omega)]; simp; omega), rfl⟩

set_option maxHeartbeats 1600000 in
theorem implSumOf_any (A : Option Addr) (c : Nat) (l : List Int) (w : World) (B : Nat) (h : RdI w B A l) (hn : l.length ≤ 1048576) (il : Items l) :
    Calls Try.prog 138 #[.slice A l.length c] w fun e w' => e = .returned (.int .i64 (sumL 0 l)) ∧ w = w' := by
  have H := Lib.hid h
  have Il := Lib.hid il
  clear h il
  go_enter Try.func138, Try.ntmps138
  go_wp2_with fail
  go_loop [3, 8] (fun su i => ∃ j : Nat, j ≤ l.length ∧ i = .int .i64 j ∧ ∃ s, s = sumL 0 (l.take j) ∧ su = .int .i64 s) (fun _ i => l.length - (intOf i).toNat)
  case atStart => exact ⟨0, Nat.zero_le _, rfl, 0, rfl, rfl⟩
  case round =>
    obtain ⟨j, hj, rfl, s, hs, rfl⟩ := hrel
    have hsi : 0 ≤ s ∧ s ≤ 99 := by rw [hs]; exact sumL_in (by omega) (Il.out.take j)
    have Hs := Lib.hid hs
    clear hs
    by_cases hlt : j < l.length
    · obtain ⟨ad, x, rfl, hx, hc⟩ := H.out.at_ hlt
      have hxi := Il.out.get hx
      have hsw : IntKind.i64.wrap (s + x) = s + x := IntWalk.i64_in _ (by omega)
      have Hss : Hid (sumL 0 (l.take (j + 1)) = rst (s + x)) := Lib.hid (by rw [sumL_succ 0 hx, Hs.out])
      clear hx
      go_wp2_with fail
      refine (implRest_any (s + x) w (by omega)).mono ?_
      rintro e w1 ⟨rfl, rfl⟩
      go_wp2_with fail
      go_round
      case rel => exact ⟨j + 1, by omega, by go_num, _, Hss.out.symm, rfl⟩
      case measure => simp [intOf]; omega
    · obtain rfl : j = l.length := by omega
      rw [List.take_of_length_le (Nat.le_refl _)] at Hs
      go_wp2_with fail
      go_ret
      exact ⟨ret_int (by rw [Hs.out]), rfl⟩

end Go.Proofs.Ytnmekcifbmcdpaa

/- Contracts: lists out of lists, by the program (item by item). -/
namespace Go.Proofs.Ytnmekcifbmcdpaa
open Go.RowKit

set_option maxRecDepth 100000 in
set_option maxHeartbeats 3200000 in
theorem implMapped_any (A : Option Addr) (c : Nat) (a : List Int) (n m : Int) (w : World) (B : Nat) (ha : RdI w B A a) (hB : B ≤ w.heap.size) (hn : a.length ≤ 65536) (ia : Items a) (hnb : 0 ≤ n ∧ n ≤ 99) (hmb : 0 ≤ m ∧ m ≤ 99) :
    Calls Try.prog 115 #[.slice A a.length c, .int .i64 n, .int .i64 m] w fun e w' => ∃ R cR, e = .returned (.slice R (mapL n m a).length cR) ∧ OwnJ w' w.heap.size R cR (mapL n m a) ∧ Below w.heap.size w w' := by
  have Ha := Lib.hid ha
  have Ia := Lib.hid ia
  clear ha ia
  go_enter Try.func115, Try.ntmps115
  go_wp2_with fail
  go_loopw [7, 12] (fun sl i wr => ∃ j : Nat, j ≤ a.length ∧ i = .int .i64 j ∧ (∃ R cR, sl = .slice R (mapL n m (a.take j)).length cR ∧ OwnJ wr w.heap.size R cR (mapL n m (a.take j))) ∧ Below w.heap.size w wr) (fun sl i _ => a.length - (intOf i).toNat)
  case atStart => exact ⟨0, Nat.zero_le _, rfl, ⟨none, 0, rfl, OwnJ.nil_ _ _⟩, Below.refl _ _⟩
  case round =>
    obtain ⟨j, hj, rfl, ⟨R, cR, rfl, ho⟩, hb⟩ := hrel
    have hz := hb.size
    obtain ⟨m0, hm0⟩ : ∃ q0, (mapL n m (a.take j)).length = q0 := ⟨_, rfl⟩
    have hmj : m0 ≤ j := by rw [← hm0]; exact Nat.le_trans (Nat.le_of_eq (mapL_len n m _)) (List.length_take_le _ _)
    rw [hm0]
    have Hm0 := Lib.hid hm0
    have Ho := Lib.hid ho
    have Hbw := Lib.hid hb
    have Ha2 := Lib.hid (Ha.out.below hb hB)
    clear ho hb hm0
    by_cases h1 : j < a.length
    · obtain ⟨ad, x, rfl, hx, hc⟩ := Ha2.out.at_ h1
      have hxi := Ia.out.get hx
      have Hx := Lib.hid hx
      clear hx
      have h1' : 0 ≤ n * x := Int.mul_nonneg hnb.1 hxi.1
      have h2' : n * x ≤ 99 * 99 := Int.mul_le_mul hnb.2 hxi.2 hxi.1 (by omega)
      have h3 : IntKind.i64.wrap (n * x) = n * x := IntWalk.i64_in _ (by omega)
      have h4 : IntKind.i64.wrap (n * x + m) = n * x + m := IntWalk.i64_in _ (by omega)
      go_wp2_with fail
      refine (implRest_any (n * x + m) wr (by omega)).mono ?_
      rintro e w1 ⟨rfl, rfl⟩
      go_wp2_with (at_builtin; go_must (refine wpList_append_int rfl _ _ rfl w.heap.size R cR _ (rst (n * x + m)) m0 Hm0.out rfl Ho.out _ rfl rfl (by omega) (by omega) ?_; intro R2 c2' w2 ho2 hg2); have hbb := (Hbw.out.alloc hz _).grown hg2 (by simp; omega) (fun g hg => (Ho.out.row_lt g hg).1); have Hbb := Lib.hid hbb; have Ho2 := Lib.hid ho2; clear ho2 hg2 hbb)
      go_roundw
      case rel =>
        have hF : mapL n m (a.take (j + 1)) = mapL n m (a.take j) ++ [rst (n * x + m)] := mapL_succ n m Hx.out
        exact ⟨j + 1, by omega, by go_num, ⟨R2, c2', by rw [hF, List.length_append, Hm0.out]; rfl, by rw [hF]; exact Ho2.out⟩, Hbb.out⟩
      case measure => simp [intOf]; omega
    · obtain rfl : j = a.length := by omega
      have Hm1 := Hm0.out
      have Ho1 := Ho.out
      rw [List.take_of_length_le (Nat.le_refl _)] at Hm1 Ho1
      have HM := Lib.hid Hm1
      have HO := Lib.hid Ho1
      clear Hm1 Ho1
      go_wp2_with fail
      go_ret
      exact ⟨R, cR, ret_slice (by rw [HM.out]), HO.out, Hbw.out⟩

set_option maxRecDepth 100000 in
set_option maxHeartbeats 3200000 in
theorem implScanned_any (A : Option Addr) (c : Nat) (a : List Int) (w : World) (B : Nat) (ha : RdI w B A a) (hB : B ≤ w.heap.size) (hn : a.length ≤ 65536) (ia : Items a) :
    Calls Try.prog 118 #[.slice A a.length c] w fun e w' => ∃ R cR, e = .returned (.slice R (scanL 0 a).length cR) ∧ OwnJ w' w.heap.size R cR (scanL 0 a) ∧ Below w.heap.size w w' := by
  have Ha := Lib.hid ha
  have Ia := Lib.hid ia
  clear ha ia
  go_enter Try.func118, Try.ntmps118
  go_wp2_with fail
  go_loopw [3, 4, 9] (fun sl su i wr => ∃ j : Nat, j ≤ a.length ∧ i = .int .i64 j ∧ (∃ s, s = sumL 0 (a.take j) ∧ su = .int .i64 s) ∧ (∃ R cR, sl = .slice R (scanL 0 (a.take j)).length cR ∧ OwnJ wr w.heap.size R cR (scanL 0 (a.take j))) ∧ Below w.heap.size w wr) (fun sl su i _ => a.length - (intOf i).toNat)
  case atStart => exact ⟨0, Nat.zero_le _, rfl, ⟨0, rfl, rfl⟩, ⟨none, 0, rfl, OwnJ.nil_ _ _⟩, Below.refl _ _⟩
  case round =>
    obtain ⟨j, hj, rfl, ⟨s, hs, rfl⟩, ⟨R, cR, rfl, ho⟩, hb⟩ := hrel
    have hz := hb.size
    obtain ⟨m0, hm0⟩ : ∃ q0, (scanL 0 (a.take j)).length = q0 := ⟨_, rfl⟩
    have hmj : m0 ≤ j := by rw [← hm0]; exact Nat.le_trans (Nat.le_of_eq (scanL_len _ _)) (List.length_take_le _ _)
    have hsi : 0 ≤ s ∧ s ≤ 99 := by rw [hs]; exact sumL_in (by omega) (Ia.out.take j)
    have Hs := Lib.hid hs
    clear hs
    rw [hm0]
    have Hm0 := Lib.hid hm0
    have Ho := Lib.hid ho
    have Hbw := Lib.hid hb
    have Ha2 := Lib.hid (Ha.out.below hb hB)
    clear ho hb hm0
    by_cases h1 : j < a.length
    · obtain ⟨ad, x, rfl, hx, hc⟩ := Ha2.out.at_ h1
      have hxi := Ia.out.get hx
      have Hx := Lib.hid hx
      clear hx
      have hsw : IntKind.i64.wrap (s + x) = s + x := IntWalk.i64_in _ (by omega)
      have Hss : Hid (sumL 0 (a.take (j + 1)) = rst (s + x)) := Lib.hid (by rw [sumL_succ 0 Hx.out, Hs.out])
      go_wp2_with fail
      refine (implRest_any (s + x) wr (by omega)).mono ?_
      rintro e w1 ⟨rfl, rfl⟩
      go_wp2_with (at_builtin; go_must (refine wpList_append_int rfl _ _ rfl w.heap.size R cR _ (rst (s + x)) m0 Hm0.out rfl Ho.out _ rfl rfl (by omega) (by omega) ?_; intro R2 c2' w2 ho2 hg2); have hbb := (Hbw.out.alloc hz _).grown hg2 (by simp; omega) (fun g hg => (Ho.out.row_lt g hg).1); have Hbb := Lib.hid hbb; have Ho2 := Lib.hid ho2; clear ho2 hg2 hbb)
      go_roundw
      case rel =>
        have hF : scanL 0 (a.take (j + 1)) = scanL 0 (a.take j) ++ [rst (s + x)] := by rw [scanL_succ 0 Hx.out, Hss.out]
        exact ⟨j + 1, by omega, by go_num, ⟨_, Hss.out.symm, rfl⟩, ⟨R2, c2', by rw [hF, List.length_append, Hm0.out]; rfl, by rw [hF]; exact Ho2.out⟩, Hbb.out⟩
      case measure => simp [intOf]; omega
    · obtain rfl : j = a.length := by omega
      have Hm1 := Hm0.out
      have Ho1 := Ho.out
      rw [List.take_of_length_le (Nat.le_refl _)] at Hm1 Ho1
      have HM := Lib.hid Hm1
      have HO := Lib.hid Ho1
      clear Hm1 Ho1
      go_wp2_with fail
      go_ret
      exact ⟨R, cR, ret_slice (by rw [HM.out]), HO.out, Hbw.out⟩

set_option maxRecDepth 100000 in
set_option maxHeartbeats 3200000 in
theorem implFiltered_any (A : Option Addr) (c : Nat) (a : List Int) (n m : Int) (w : World) (B : Nat) (ha : RdI w B A a) (hB : B ≤ w.heap.size) (hn : a.length ≤ 65536) (ia : Items a) (hnb : 1 ≤ n ∧ n ≤ 99) :
    Calls Try.prog 116 #[.slice A a.length c, .int .i64 n, .int .i64 m] w fun e w' => ∃ R cR, e = .returned (.slice R (filL n m a).length cR) ∧ OwnJ w' w.heap.size R cR (filL n m a) ∧ Below w.heap.size w w' := by
  have Ha := Lib.hid ha
  have Ia := Lib.hid ia
  clear ha ia
  go_enter Try.func116, Try.ntmps116
  go_wp2_with fail
  go_loopw [7, 12] (fun sl i wr => ∃ j : Nat, j ≤ a.length ∧ i = .int .i64 j ∧ (∃ R cR, sl = .slice R (filL n m (a.take j)).length cR ∧ OwnJ wr w.heap.size R cR (filL n m (a.take j))) ∧ Below w.heap.size w wr) (fun sl i _ => a.length - (intOf i).toNat)
  case atStart => exact ⟨0, Nat.zero_le _, rfl, ⟨none, 0, rfl, OwnJ.nil_ _ _⟩, Below.refl _ _⟩
  case round =>
    obtain ⟨j, hj, rfl, ⟨R, cR, rfl, ho⟩, hb⟩ := hrel
    have hz := hb.size
    obtain ⟨m0, hm0⟩ : ∃ q0, (filL n m (a.take j)).length = q0 := ⟨_, rfl⟩
    have hmj : m0 ≤ j := by rw [← hm0]; exact Nat.le_trans (filL_len n m _) (List.length_take_le _ _)
    rw [hm0]
    have Hm0 := Lib.hid hm0
    have Ho := Lib.hid ho
    have Hbw := Lib.hid hb
    have Ha2 := Lib.hid (Ha.out.below hb hB)
    clear ho hb hm0
    by_cases h1 : j < a.length
    · obtain ⟨ad, x, rfl, hx, hc⟩ := Ha2.out.at_ h1
      have hxi := Ia.out.get hx
      have Hx := Lib.hid hx
      clear hx
      have hz : n ≠ 0 := by omega
      obtain ⟨r, hr⟩ : ∃ r, x.tmod n = r := ⟨_, rfl⟩
      have hr2 : IntKind.i64.wrap r = r := by
        rw [← hr, Int.tmod_eq_emod_of_nonneg hxi.1]
        have h1 := Int.emod_nonneg x hz
        have h2 := Int.emod_lt_of_pos x (show 0 < n by omega)
        exact IntWalk.i64_in _ (by omega)
      by_cases hk : r = m
      · have HF : Hid (filL n m (a.take (j + 1)) = filL n m (a.take j) ++ [x]) := Lib.hid (by rw [filL_succ n m Hx.out, hr, hk]; simp)
        have hkb : (r == m) = true := by rw [beq_iff_eq]; exact hk
        clear hk
        go_wp2_with (at_builtin; go_must (refine wpList_append_int rfl _ _ rfl w.heap.size R cR _ x m0 Hm0.out rfl Ho.out _ rfl rfl (by omega) Hbw.out.size ?_; intro R2 c2' w2 ho2 hg2); have hbb := (Hbw.out.alloc (Nat.le_trans (Nat.le_refl _) Hbw.out.size) _).grown hg2 (by have := Hbw.out.size; simp; omega) (fun g hg => (Ho.out.row_lt g hg).1); have Hbb := Lib.hid hbb; have Ho2 := Lib.hid ho2; clear ho2 hg2 hbb)
        go_roundw
        case rel =>
          have hF : filL n m (a.take (j + 1)) = filL n m (a.take j) ++ [x] := HF.out
          exact ⟨j + 1, by omega, by go_num, ⟨R2, c2', by rw [hF, List.length_append, Hm0.out]; rfl, by rw [hF]; exact Ho2.out⟩, Hbb.out⟩
        case measure => simp [intOf]; omega
      · have HF : Hid (filL n m (a.take (j + 1)) = filL n m (a.take j)) := Lib.hid (by rw [filL_succ n m Hx.out, hr]; simp [hk])
        have hkb : (r == m) = false := by rw [beq_eq_false_iff_ne]; exact hk
        clear hk
        go_wp2_with fail
        go_roundw
        case rel => exact ⟨j + 1, by omega, by go_num, ⟨R, cR, by rw [HF.out, Hm0.out], by rw [HF.out]; exact Ho.out⟩, Hbw.out⟩
        case measure => simp [intOf]; omega
    · obtain rfl : j = a.length := by omega
      have Hm1 := Hm0.out
      have Ho1 := Ho.out
      rw [List.take_of_length_le (Nat.le_refl _)] at Hm1 Ho1
      have HM := Lib.hid Hm1
      have HO := Lib.hid Ho1
      clear Hm1 Ho1
      go_wp2_with fail
      go_ret
      exact ⟨R, cR, ret_slice (by rw [HM.out]), HO.out, Hbw.out⟩

end Go.Proofs.Ytnmekcifbmcdpaa

/- Contracts: sums of groups, by the reference. -/
namespace Go.Proofs.Ytnmekcifbmcdpaa
open Go.RowKit

theorem OwnJ.stored {w : World} {base g c m k : Nat} {l : List Int} (h : OwnJ w base (some ⟨g, 0, none⟩) c l) (hl : l.length = m) (u : Int) :
    (w.setCell ⟨g, k, none⟩ (.int .i64 u)).ownsRow base 3 1 (.slice (some ⟨g, 0, none⟩) m c) m (ints (l.set k u)) := by
  subst hl
  have := (World.ownsRow.stored h k (.int .i64 u)).1
  rwa [show (ints l).set k (.int .i64 u) = ints (l.set k u) from by simp [ints, List.map_set]] at this
theorem batTo_app {n : Nat} {a : List Int} {j m : Nat} {o : List Int} {x y : Int} (ho : o = if j % n = 0 then batTo n a j ++ [0] else batTo n a j) (hm : o.length = m + 1) (hy : o[m]? = some y) (hx : a[j]? = some x) : batTo n a (j + 1) = o.set m (rst (y + x)) := by
  subst ho
  simp only [batTo]
  rw [hm, Nat.add_sub_cancel, List.getD_eq_getElem?_getD, List.getD_eq_getElem?_getD, hy, hx]
  rfl
theorem batTo_items {n : Nat} {a : List Int} (ha : Items a) : ∀ j, Items (batTo n a j)
  | 0 => Items.nil_
  | j + 1 => by
    have ih := batTo_items (n := n) ha j
    have h0 : Items (if j % n = 0 then batTo n a j ++ [0] else batTo n a j) := by
      split
      · exact ih.app (fun x hx => by simp at hx; omega)
      · exact ih
    intro z hz
    simp only [batTo] at hz
    rcases List.mem_or_eq_of_mem_set hz with e | e
    · exact h0 z e
    · subst e
      refine rst_in ?_
      have h1 : 0 ≤ (if j % n = 0 then batTo n a j ++ [0] else batTo n a j).getD ((if j % n = 0 then batTo n a j ++ [0] else batTo n a j).length - 1) 0 := by
        rw [List.getD_eq_getElem?_getD]
        cases e : (if j % n = 0 then batTo n a j ++ [0] else batTo n a j)[(if j % n = 0 then batTo n a j ++ [0] else batTo n a j).length - 1]? with
        | none => simp
        | some v => exact (h0.get e).1
      have h2 : 0 ≤ a.getD j 0 := by
        rw [List.getD_eq_getElem?_getD]
        cases e : a[j]? with
        | none => simp
        | some v => exact (ha.get e).1
      omega

set_option maxRecDepth 100000 in
set_option maxHeartbeats 6400000 in
theorem specBatched_any (A : Option Addr) (c : Nat) (a : List Int) (n : Nat) (w : World) (B : Nat) (ha : RdI w B A a) (hB : B ≤ w.heap.size) (hn : a.length ≤ 65536) (hn0 : 0 < n) (hn1 : n ≤ 65536) (ia : Items a) :
    Calls Try.prog 106 #[.slice A a.length c, .int .i64 n] w fun e w' => ∃ R cR, e = .returned (.slice R (batL n a).length cR) ∧ OwnJ w' w.heap.size R cR (batL n a) ∧ Below w.heap.size w w' := by
  have Ha := Lib.hid ha
  have hbe : Below w.heap.size w (w.alloc (.cells #[] 3)) := (Below.refl _ _).alloc (Nat.le_refl _) _
  have Hbe := Lib.hid hbe
  have He := Lib.hid (emptyJ w)
  have Ia := Lib.hid ia
  have hnz : (n : Int) ≠ 0 := by omega
  clear ha hbe ia
  go_enter Try.func106, Try.ntmps106
  go_wp2_with fail
  go_loopw [5, 6] (fun sl i wr => ∃ j : Nat, j ≤ a.length ∧ i = .int .i64 j ∧ (∃ R cR, sl = .slice R (batTo n a j).length cR ∧ OwnJ wr w.heap.size R cR (batTo n a j)) ∧ Below w.heap.size w wr) (fun _ i _ => a.length - (intOf i).toNat)
  case atStart => exact ⟨0, Nat.zero_le _, rfl, ⟨_, _, rfl, He.out⟩, Hbe.out⟩
  case round =>
    obtain ⟨j, hj, rfl, ⟨R, cR, rfl, ho⟩, hb⟩ := hrel
    have hz := hb.size
    have hlen := batTo_len n a j
    have hp := batTo_pos hn0 a j
    have Ib := Lib.hid (batTo_items (n := n) Ia.out j)
    have Ha2 := Lib.hid (Ha.out.below hb hB)
    have Ho := Lib.hid ho
    have Hbw := Lib.hid hb
    obtain ⟨m0, hm0⟩ : ∃ m, (batTo n a j).length = m := ⟨_, rfl⟩
    rw [hm0] at hlen hp
    rw [hm0]
    have Hm0 := Lib.hid hm0
    clear ho hb hm0
    by_cases h1 : j < a.length
    · obtain ⟨ad, x, rfl, hx, hc⟩ := Ha2.out.at_ h1
      have hxi := Ia.out.get hx
      have Hx := Lib.hid hx
      have htm : (j : Int).tmod (n : Int) = ((j % n : Nat) : Int) := (Int.ofNat_tmod j n).symm
      clear hx
      by_cases h0 : j % n = 0
      · have htm0 : (j : Int).tmod (n : Int) = 0 := by rw [htm, h0]; rfl
        clear htm
        go_wp2_with (at_builtin; go_must (refine wpList_append_int rfl _ _ rfl w.heap.size R cR (batTo n a j) 0 m0 Hm0.out rfl Ho.out _ rfl rfl (by omega) (by omega) ?_; intro R2 c2' w2 ho2 hg2); have hbb := (Hbw.out.alloc hz _).grown hg2 (by simp; omega) (fun g hg => (Ho.out.row_lt g hg).1); have hcx := (Ha.out.below hbb hB).val Hx.out; have hz2 := hbb.size; have Hbb := Lib.hid hbb; have Ho2 := Lib.hid ho2; clear ho2 hg2 hbb)
        have hl2 : Hid ((batTo n a j ++ [0]).length = m0 + 1) := Lib.hid (by rw [List.length_append, Hm0.out]; rfl)
        have hy2 : Hid ((batTo n a j ++ [0])[m0]? = some 0) := Lib.hid (by rw [← Hm0.out]; simp)
        obtain ⟨g, cs, rfl, hg0, hbk, _, hcs⟩ := Ho2.out.bk (by rw [hl2.out]; omega)
        have hcy : w2.cell? ⟨g, m0, none⟩ = some (.int .i64 0) := by rw [hbk.cell]; exact hcs m0 0 hy2.out
        have hfy : w2.frozen? ⟨g, m0, none⟩ = false := hbk.free m0
        have hgl := hbk.lt
        have hs1 : IntKind.i64.wrap ((m0 : Int) + 1 - 1) = m0 := by rw [show (m0 : Int) + 1 - 1 = m0 by omega]; exact IntWalk.i64_in _ (by omega)
        have hs2 : IntKind.i64.wrap (0 + x) = x := by rw [Int.zero_add]; exact IntWalk.i64_in _ (by omega)
        have hr : x.tmod 100 = rst (0 + x) := by rw [Int.zero_add]; rfl
        clear hbk hcs
        go_region
        go_wp2_with fail
        go_roundw
        case rel =>
          have hB1 : batTo n a (j + 1) = (batTo n a j ++ [0]).set m0 (rst x) := by rw [← Int.zero_add x]; exact batTo_app (by rw [if_pos h0]) hl2.out hy2.out Hx.out
          have hst := OwnJ.stored (k := m0) Ho2.out hl2.out (rst x)
          refine ⟨j + 1, by omega, by go_num, ⟨some ⟨g, 0, none⟩, c2', by rw [hB1, List.length_set, hl2.out], ?_⟩, (Hbb.out.setCell (p := ⟨g, m0, none⟩) hg0 _).drew⟩
          unfold OwnJ
          rw [hB1, List.length_set, hl2.out]
          exact hst
        case measure => simp [intOf]; omega
      · obtain ⟨m, rfl⟩ : ∃ m, m0 = m + 1 := ⟨m0 - 1, by have := hp (Nat.pos_of_ne_zero (fun e => h0 (by rw [e, Nat.zero_mod]))); omega⟩
        have htm0 : (j : Int).tmod (n : Int) ≠ 0 := by rw [htm]; omega
        obtain ⟨y, hy⟩ := get_of_lt (batTo n a j) (k := m) (by rw [Hm0.out]; omega)
        have hyi := Ib.out.get hy
        obtain ⟨g, cs, rfl, hg0, hbk, _, hcs⟩ := Ho.out.bk (by rw [Hm0.out]; omega)
        have hcy : wr.cell? ⟨g, m, none⟩ = some (.int .i64 y) := by rw [hbk.cell]; exact hcs m y hy
        have hfy : wr.frozen? ⟨g, m, none⟩ = false := hbk.free m
        have hgl := hbk.lt
        have hs1 : IntKind.i64.wrap ((m : Int) + 1 - 1) = m := by rw [show (m : Int) + 1 - 1 = m by omega]; exact IntWalk.i64_in _ (by omega)
        have hs2 : IntKind.i64.wrap (y + x) = y + x := IntWalk.i64_in _ (by omega)
        have hr : (y + x).tmod 100 = rst (y + x) := rfl
        have Hy := Lib.hid hy
        clear hbk hcs htm hy
        go_wp2_with fail
        go_region
        go_wp2_with fail
        go_roundw
        case rel =>
          have hB1 : batTo n a (j + 1) = (batTo n a j).set m (rst (y + x)) := batTo_app (by rw [if_neg h0]) Hm0.out Hy.out Hx.out
          have hst := OwnJ.stored (k := m) Ho.out Hm0.out (rst (y + x))
          refine ⟨j + 1, by omega, by go_num, ⟨some ⟨g, 0, none⟩, cR, by rw [hB1, List.length_set, Hm0.out], ?_⟩, (Hbw.out.setCell (p := ⟨g, m, none⟩) hg0 _).drew⟩
          unfold OwnJ
          rw [hB1, List.length_set, Hm0.out]
          exact hst
        case measure => simp [intOf]; omega
    · obtain rfl : j = a.length := by omega
      go_wp2_with fail
      go_ret
      exact ⟨R, cR, ret_slice (by rw [← Hm0.out]; rfl), Ho.out, Hbw.out⟩

end Go.Proofs.Ytnmekcifbmcdpaa

/- Plain mathematics: the list of the tree of a node. -/
namespace Go.Proofs.Ytnmekcifbmcdpaa

/-- What a node makes of the list below. -/
def stemL (x : Nd) (l : List Int) : List Int :=
  if x.k = 1 then mapL x.n x.m l else
  if x.k = 2 then filL x.n x.m l else
  if x.k = 3 then l.take x.n.toNat else
  if x.k = 4 then l.drop x.n.toNat else
  if x.k = 5 then l.take (frst l x.n) else
  if x.k = 6 then l.drop (frst l x.n) else
  if x.k = 11 then scanL 0 l else
  if x.k = 12 then batL x.n.toNat l else Lib.compact l
/-- What a node makes of the lists below. -/
def forkL (x : Nd) (a b : List Int) : List Int :=
  if x.k = 7 then a ++ b else if x.k = 8 then zipL a b else if x.k = 9 then mergeL a b else turnL a b
/-- The list of a tree. -/
def lst (src : List (List Int)) : T → List Int
  | .leaf x => src.getD x.n.toNat []
  | .stem x t => stemL x (lst src t)
  | .fork x a b => forkL x (lst src a) (lst src b)

/-- The numbers of each node of the tree are those of its kind. -/
def T.nums : T → Prop
  | .leaf x => numsOk x = true
  | .stem x t => numsOk x = true ∧ t.nums
  | .fork x a b => numsOk x = true ∧ a.nums ∧ b.nums
theorem IsTree.nums {l : List Nd} (hp : PipeOk l) {i : Nat} {t : T} (h : IsTree l i t) : t.nums := by
  have ok : ∀ (i : Nat) (x : Nd), l[i]? = some x → numsOk x = true := fun i x hx => by
    have h1 := hp.node i x hx
    simp only [nodeOk, Bool.and_eq_true] at h1
    exact h1.1
  induction h with
  | leaf hx => exact ok _ _ hx
  | stem hx _ _ _ _ _ ih => exact ⟨ok _ _ hx, ih⟩
  | fork hx _ _ _ _ _ _ _ iha ihb => exact ⟨ok _ _ hx, iha, ihb⟩

theorem stemL_len {x : Nd} {l : List Int} : (stemL x l).length ≤ l.length := by
  unfold stemL
  split
  · exact Nat.le_of_eq (mapL_len _ _ _)
  split
  · exact filL_len _ _ _
  split
  · rw [List.length_take]; omega
  split
  · rw [List.length_drop]; omega
  split
  · rw [List.length_take]; omega
  split
  · rw [List.length_drop]; omega
  split
  · exact Nat.le_of_eq (scanL_len _ _)
  split
  · exact batTo_len _ _ _
  · exact compact_len _
theorem forkL_len {x : Nd} {a b : List Int} : (forkL x a b).length ≤ a.length + b.length := by
  unfold forkL
  split
  · rw [List.length_append]; omega
  split
  · rw [zipL_len]; omega
  split
  · rw [mergeL_len]; omega
  · rw [turnL_len]; omega
theorem stemL_items {x : Nd} {l : List Int} (hx : numsOk x = true) (h : Items l) : Items (stemL x l) := by
  unfold stemL
  split
  · rename_i e
    simp [numsOk, e, inR] at hx
    exact mapL_items (by omega) (by omega) h
  split
  · exact filL_items h
  split
  · exact h.take _
  split
  · exact h.drop _
  split
  · exact h.take _
  split
  · exact h.drop _
  split
  · exact scanL_items (by omega) h
  split
  · exact batTo_items h _
  · exact compact_items h
theorem forkL_items {x : Nd} {a b : List Int} (ha : Items a) (hb : Items b) : Items (forkL x a b) := by
  unfold forkL
  split
  · exact ha.app hb
  split
  · exact zipL_items ha hb
  split
  · exact mergeL_items ha hb
  · exact turnTo_items ha hb _

theorem src_items {src : List (List Int)} (hs : srcOk src = true) {k : Nat} {r : List Int} (hr : src[k]? = some r) : Items r ∧ r.length ≤ 12 := by
  simp only [srcOk, Bool.and_eq_true] at hs
  have h1 := List.all_eq_true.1 hs.1 r (List.mem_of_getElem? hr)
  simp only [rowOk, Bool.and_eq_true, decide_eq_true_eq] at h1
  refine ⟨fun x hx => ?_, h1.1⟩
  have := List.all_eq_true.1 h1.2 x hx
  exact inR_iff.1 this
theorem lst_items {src : List (List Int)} (hs : srcOk src = true) : ∀ {t : T}, t.nums → Items (lst src t)
  | .leaf x, _ => by
    unfold lst
    rw [List.getD_eq_getElem?_getD]
    cases e : src[x.n.toNat]? with
    | none => exact Items.nil_
    | some r => exact (src_items hs e).1
  | .stem x t, h => stemL_items h.1 (lst_items hs h.2)
  | .fork x a b, h => forkL_items (lst_items hs h.2.1) (lst_items hs h.2.2)
theorem lst_len {src : List (List Int)} (hs : srcOk src = true) : ∀ (t : T), (lst src t).length ≤ 12 * 2 ^ (t.depth - 1)
  | .leaf x => by
    unfold lst
    rw [List.getD_eq_getElem?_getD]
    cases e : src[x.n.toNat]? with
    | none => simp
    | some r => have := (src_items hs e).2; simpa [T.depth] using this
  | .stem x t => by
    have h1 := lst_len hs t
    have h2 : (lst src (.stem x t)).length ≤ (lst src t).length := stemL_len
    have h3 : 2 ^ (t.depth - 1) ≤ 2 ^ ((T.stem x t).depth - 1) := Nat.pow_le_pow_right (by omega) (by simp only [T.depth]; omega)
    omega
  | .fork x a b => by
    have h1 := lst_len hs a
    have h2 := lst_len hs b
    have h3 : (lst src (.fork x a b)).length ≤ (lst src a).length + (lst src b).length := forkL_len
    have hp := T.depth_pos a
    have hq := T.depth_pos b
    have h4 : 2 ^ (a.depth - 1) ≤ 2 ^ (max a.depth b.depth - 1) := Nat.pow_le_pow_right (by omega) (by omega)
    have h5 : 2 ^ (b.depth - 1) ≤ 2 ^ (max a.depth b.depth - 1) := Nat.pow_le_pow_right (by omega) (by omega)
    have h6 : 2 ^ ((T.fork x a b).depth - 1) = 2 * 2 ^ (max a.depth b.depth - 1) := by
      rw [show (T.fork x a b).depth - 1 = (max a.depth b.depth - 1) + 1 by simp only [T.depth]; omega, Nat.pow_succ]
      omega
    omega
theorem lst_short {src : List (List Int)} (hs : srcOk src = true) {t : T} (ht : t.depth ≤ 12) : (lst src t).length ≤ 24576 := by
  have h1 := lst_len hs t
  have h2 : 2 ^ (t.depth - 1) ≤ 2 ^ 11 := Nat.pow_le_pow_right (by omega) (by omega)
  omega

end Go.Proofs.Ytnmekcifbmcdpaa

/- Slices of numbers of the call's own that begin anywhere in their block: cut, read, and appended to by other slices. -/
namespace Go.Proofs.Ytnmekcifbmcdpaa
open Go.RowKit

/-- The slice at A, with room for c, holds the numbers l in memory from block base on. -/
def OwnV (w : World) (base : Nat) (A : Option Addr) (c : Nat) (l : List Int) : Prop :=
  (A = none ∧ c = 0 ∧ l = []) ∨ ∃ g o cs, A = some ⟨g, o, none⟩ ∧ base ≤ g ∧ Bk w g 3 cs ∧ o + c ≤ cs.length ∧ l.length ≤ c ∧ ∀ (k : Nat) (x : Int), l[k]? = some x → cs[o + k]? = some (.int .i64 x)

section
variable {w w' : World} {base b2 c : Nat} {A : Option Addr} {l : List Int}
theorem OwnV.len_le (h : OwnV w base A c l) : l.length ≤ c := by
  rcases h with ⟨_, rfl, rfl⟩ | ⟨g, o, cs, _, _, _, _, h, _⟩
  · simp
  · exact h
theorem OwnV.base_ (h : OwnV w base A c l) (hb : b2 ≤ base) : OwnV w b2 A c l :=
  h.imp id fun ⟨g, o, cs, h1, h2, h3⟩ => ⟨g, o, cs, h1, Nat.le_trans hb h2, h3⟩
theorem OwnV.row_lt (h : OwnV w base A c l) : ∀ g, rowOf A = some g → base ≤ g ∧ g < w.heap.size := fun g hg => by
  rcases h with ⟨rfl, _, _⟩ | ⟨g', o, cs, rfl, hb, hbk, _⟩
  · cases hg
  · have : g' = g := Option.some.inj hg
    subst this
    exact ⟨hb, hbk.lt⟩
theorem OwnV.grown {row : Option Nat} (h : OwnV w base A c l) (hg : w.grownBy w' row) (hne : rowOf A = none ∨ rowOf A ≠ row) : OwnV w' base A c l := by
  rcases h with h | ⟨g, o, cs, rfl, hb, hbk, r⟩
  · exact .inl h
  · refine .inr ⟨g, o, cs, rfl, hb, ?_, r⟩
    have : some g ≠ row := hne.elim (fun e => by cases e) id
    exact (hg.block g hbk.lt this).trans hbk
theorem OwnV.below {C : Nat} (h : OwnV w base A c l) (hb : Below C w w') (hC : w.heap.size ≤ C) : OwnV w' base A c l :=
  h.imp id fun ⟨g, o, cs, h1, h2, h3, r⟩ => ⟨g, o, cs, h1, h2, h3.below hb (by have := h3.lt; omega), r⟩
theorem OwnV.rd (h : OwnV w base A c l) : RdI w w.heap.size A l := fun hn => by
  rcases h with ⟨_, _, rfl⟩ | ⟨g, o, cs, rfl, hb, hbk, _, _, hc⟩
  · exact absurd hn (by simp)
  · exact ⟨_, rfl, hbk.lt, fun k x hx => by rw [Addr.add_lit, hbk.cell]; exact hc k x hx⟩
theorem OwnV.ownI (h : OwnV w base A c l) : OwnI w base w.heap.size A l := fun hn => by
  rcases h with ⟨_, _, rfl⟩ | ⟨g, o, cs, rfl, hb, hbk, _, _, hc⟩
  · exact absurd hn (by simp)
  · exact ⟨g, o, cs, rfl, hb, hbk.lt, hbk, hc⟩
theorem OwnJ.ownV (h : OwnJ w base A c l) : OwnV w base A c l := by
  obtain ⟨h1, ⟨hv, h0⟩ | ⟨g, cap, cur, hv, hb, hh, hn, _, hcs, ht⟩⟩ := h
  · injection hv with hA _ hc
    exact .inl ⟨hA, hc, List.eq_nil_of_length_eq_zero h0⟩
  · injection hv with hA _ hc
    subst hc
    refine .inr ⟨g, 0, cur.toList, hA, hb, by unfold Bk; simpa using hh, by simp; omega, hn, fun k x hx => ?_⟩
    have hk : k < l.length := (List.getElem?_eq_some_iff.1 hx).1
    have : (cur.toList.take (l.length * 1))[k]? = some (.int .i64 x) := by rw [ht, ints_get, hx]; rfl
    rw [Nat.zero_add]
    rwa [List.getElem?_take_of_lt (by omega)] at this
theorem OwnV.take (h : OwnV w base A c l) (n : Nat) : OwnV w base A c (l.take n) := by
  rcases h with ⟨hA, hc, rfl⟩ | ⟨g, o, cs, hA, hb, hbk, h1, h2, hc⟩
  · exact .inl ⟨hA, hc, by simp⟩
  · refine .inr ⟨g, o, cs, hA, hb, hbk, h1, Nat.le_trans (List.length_take_le' _ _) h2, fun k x hx => hc k x ?_⟩
    rw [List.getElem?_take] at hx
    split at hx
    · exact hx
    · cases hx
theorem OwnV.drop {g o : Nat} (h : OwnV w base (some ⟨g, o, none⟩) c l) (n : Nat) (hn : n ≤ l.length) : OwnV w base (some ⟨g, o + n, none⟩) (c - n) (l.drop n) := by
  rcases h with ⟨hA, _, _⟩ | ⟨g', o', cs, hA, hb, hbk, h1, h2, hc⟩
  · cases hA
  · obtain ⟨rfl, rfl⟩ : g = g' ∧ o = o' := by injection hA with hA; injection hA with a b; exact ⟨a, b⟩
    refine .inr ⟨g, o + n, cs, rfl, hb, hbk, by omega, by rw [List.length_drop]; omega, fun k x hx => ?_⟩
    rw [List.getElem?_drop] at hx
    rw [Nat.add_assoc]
    exact hc (n + k) x hx
end

/-- Cells from o on are those of vs. -/
def setMany (cs : List Value) : Nat → List Value → List Value
  | _, [] => cs
  | o, v :: vs => setMany (cs.set o v) (o + 1) vs
theorem setMany_len : ∀ (vs cs : List Value) (o : Nat), (setMany cs o vs).length = cs.length
  | [], _, _ => rfl
  | v :: vs, cs, o => by rw [setMany, setMany_len vs]; simp
theorem setMany_low : ∀ (vs cs : List Value) (o k : Nat), k < o → (setMany cs o vs)[k]? = cs[k]?
  | [], _, _, _, _ => rfl
  | v :: vs, cs, o, k, h => by rw [setMany, setMany_low vs _ _ _ (by omega), List.getElem?_set_ne (by omega)]
theorem setMany_in : ∀ (vs cs : List Value) (o j : Nat), o + vs.length ≤ cs.length → j < vs.length → (setMany cs o vs)[o + j]? = vs[j]?
  | [], _, _, _, _, h => absurd h (by simp)
  | v :: vs, cs, o, 0, h1, h2 => by
    simp only [List.length_cons] at h1
    rw [setMany, setMany_low vs _ _ _ (by omega), Nat.add_zero, List.getElem?_set_self (by omega)]
    rfl
  | v :: vs, cs, o, j + 1, h1, h2 => by
    simp only [List.length_cons] at h1 h2
    rw [setMany, show o + (j + 1) = (o + 1) + j by omega, setMany_in vs _ _ _ (by simp; omega) (by omega)]
    rfl
theorem Bk.setCells {g : Nat} {t : TypeId} : ∀ (vs : List Value) {w : World} {cs : List Value} (o : Nat), Bk w g t cs → Bk (w.setCells g o vs) g t (setMany cs o vs)
  | [], _, _, _, h => h
  | v :: vs, w, cs, o, h => by rw [World.setCells, setMany]; exact Bk.setCells vs (o + 1) (h.set_ o v)

theorem setCells_grown {g : Nat} : ∀ (vs : List Value) {a w : World} (o : Nat), a.grownBy w (some g) → a.grownBy (w.setCells g o vs) (some g)
  | [], _, _, _, h => h
  | v :: vs, a, w, o, h => by rw [World.setCells]; exact setCells_grown vs (o + 1) (grown_one h o v)

/-- The numbers of one slice are appended to another one of the call's own. -/
theorem run_append_ints (w : World) (base : Nat) (A : Option Addr) (c : Nat) (l : List Int) (h : OwnV w base A c l) (A2 : Option Addr) (c2 : Nat) (b : List Int) (B : Nat) (hb : RdI w B A2 b) (hn : l.length + b.length ≤ 1048576) (hz : base ≤ w.heap.size) (ty : TypeId) :
    ∃ A' c' w', (Builtin.append_ #[28, 28] ty #[.slice A l.length c, .slice A2 b.length c2]).run Try.prog w = .ok (.slice A' (l.length + b.length) c') w' ∧ OwnV w' base A' c' (l ++ b) ∧ w.grownBy w' (rowOf A) := by
  obtain ⟨i, hi, hz0, hz1, hz2⟩ := info_parts Try.infoInt
  by_cases hb0 : 0 < b.length
  · obtain ⟨ad, rfl, hadB, hc⟩ := hb hb0
    have hsrc : Src Try.prog i.size 28 (.slice (some ad) b.length c2) b.length (ints b) w := Src.ofSlice w Try.underlying28 ad b.length c2 (ints b) (by rw [hz1]; simp [ints]) (fun j u hj => by
      rw [ints_get] at hj
      cases hx : b[j]? with
      | none => rw [hx] at hj; cases hj
      | some x => rw [hx] at hj; obtain rfl := Option.some.inj hj; exact hc j x hx) (fun u hu => by
      obtain ⟨x, _, rfl⟩ := List.mem_map.1 hu
      rfl)
    have hnl : (ints b).length = b.length := by simp [ints]
    by_cases hroom : l.length + b.length ≤ c
    · rcases h with ⟨_, hc0, _⟩ | ⟨g, o, cs, rfl, hbg, hbk, h1, h2, hcs⟩
      · omega
      have hr := run_append_room_src (P := Try.prog) w 28 28 ty 3 i Try.underlying28 hi g o l.length c _ b.length (ints b) hsrc hroom
        (fun j hj => by rw [hbk.cell, hz1, Nat.mul_one, List.getElem?_eq_getElem (by omega)]; rfl) (fun j hj => hbk.free _)
      refine ⟨_, c, _, hr, .inr ⟨g, o, _, rfl, hbg, Bk.setCells (ints b) _ hbk, by rw [setMany_len]; exact h1, by simp; omega, fun k x hx => ?_⟩, setCells_grown _ _ (World.grownBy.refl w _)⟩
      rw [hz1, Nat.mul_one]
      by_cases hk : k < l.length
      · rw [setMany_low _ _ _ _ (by omega)]
        rw [List.getElem?_append_left hk] at hx
        exact hcs k x hx
      · rw [List.getElem?_append_right (by omega)] at hx
        have hkb : k - l.length < b.length := (List.getElem?_eq_some_iff.1 hx).1
        rw [show o + k = o + l.length + (k - l.length) by omega, setMany_in _ _ _ _ (by omega) (by omega), ints_get, hx]
        rfl
    · have hold : (Builtin.firstCells i.size l.length (.slice A l.length c)).run Try.prog w.drew = .ok (ints l).toArray w.drew := by
        rcases h with ⟨rfl, rfl, rfl⟩ | ⟨g, o, cs, rfl, hbg, hbk, h1, h2, hcs⟩
        · exact run_firstCells_none w.drew i.size 0 0 0
        · refine run_firstCells_some w.drew i.size l.length ⟨g, o, none⟩ l.length c (ints l) (by rw [hz1]; simp [ints]) (fun j u hj => ?_)
          rw [ints_get] at hj
          cases hx : l[j]? with
          | none => rw [hx] at hj; cases hj
          | some x =>
            rw [hx] at hj
            obtain rfl := Option.some.inj hj
            rw [Addr.add_lit]
            exact (hbk.cell _).trans (hcs j x hx)
      have hr := run_append_grow_src (P := Try.prog) w 28 28 ty 3 i _ Try.underlying28 hi hz0 A l.length c (ints l) hold _ b.length (ints b) hsrc (by omega) (by omega) (growslice_fits (by omega) (by rw [hz2]; omega))
      have hge := grownCap_ge w (l.length + b.length) c 3
      refine ⟨_, _, _, hr, .inr ⟨w.heap.size, 0, ((ints l ++ ints b).toArray ++ Builtin.zeroCells (Value.cells (.int .i64 0)) (grownCap w (l.length + b.length) c 3 - (l.length + b.length))).toList, rfl, hz, ?_, ?_, by simpa using hge, fun k x hx => ?_⟩, ⟨rfl, rfl, rfl, by simp, fun k hk _ => Below.heap_alloc w.drew _ k hk⟩⟩
      · unfold Bk
        rw [Array.toArray_toList]
        exact heap_alloc_new w.drew _
      · simp [size_zeroCells, ints, Value.cells]
        omega
      · have hk : k < l.length + b.length := by have := (List.getElem?_eq_some_iff.1 hx).1; simpa using this
        rw [Nat.zero_add, Array.toList_append, List.getElem?_append_left (by simp [ints]; omega)]
        rw [show (ints l ++ ints b).toArray.toList = ints (l ++ b) from by simp [ints], ints_get, hx]
        rfl
  · have hb1 : b = [] := List.eq_nil_of_length_eq_zero (by omega)
    subst hb1
    have hsrc : Src Try.prog i.size 28 (.slice A2 0 c2) 0 [] w := by
      cases A2 with
      | none => exact Src.ofNil w Try.underlying28 c2
      | some ad => exact Src.ofSlice w Try.underlying28 ad 0 c2 [] (by simp) (fun j u hj => by simp at hj) (fun u hu => by cases hu)
    refine ⟨A, c, w, run_append_nothing w 28 28 ty 3 i Try.underlying28 hi A l.length c h.len_le _ hsrc, by rw [List.append_nil]; exact h, World.grownBy.refl w _⟩

end Go.Proofs.Ytnmekcifbmcdpaa

/- Contracts: the list of a node, by the reference (parts). -/
namespace Go.Proofs.Ytnmekcifbmcdpaa
open Go.RowKit

theorem OwnV.drop0 {w : World} {base c g o : Nat} {l : List Int} (h : OwnV w base (some ⟨g, o, none⟩) c l) (n : Nat) (_ : n ≤ l.length) (hc : c ≤ n) : OwnV w base (some ⟨g, o, none⟩) 0 (l.drop n) := by
  rcases h with ⟨hA, _, _⟩ | ⟨g', o', cs, hA, hb, hbk, h1, h2, hcs⟩
  · cases hA
  · have hnil : l.drop n = [] := List.eq_nil_of_length_eq_zero (by rw [List.length_drop]; omega)
    rw [hnil]
    exact .inr ⟨g', o', cs, hA, hb, hbk, by omega, Nat.le_refl _, fun k x hx => by simp at hx⟩

theorem wpList_append_ints {ops : Array Oper} {rest : List Oper} {o : Oper} {a : Act} {Q : Exit → Act → World → Prop} {w : World} (hgd : o.guard = none) (s y : Operand)
    (ho : o.op = .call { callee := .builtin .append, args := #[s, y], argTypes := #[28, 28] }) (base : Nat) (A : Option Addr) (c : Nat) (l : List Int) (n : Nat) (hnl : l.length = n) (hs : a.eval s = .slice A n c) (hown : OwnV w base A c l)
    (A2 : Option Addr) (c2 : Nat) (b : List Int) (nb B : Nat) (hnb : b.length = nb) (hx : a.eval y = .slice A2 nb c2) (hb : RdI w B A2 b) (hn : n + nb ≤ 1048576) (hz : base ≤ w.heap.size)
    (h : ∀ (A' : Option Addr) (c' : Nat) (w' : World), OwnV w' base A' c' (l ++ b) → w.grownBy w' (rowOf A) → wpList Try.prog ops Q rest (a.put o.dst (.slice A' (n + nb) c')) w') :
    wpList Try.prog ops Q (o :: rest) a w := by
  subst hnl
  subst hnb
  refine wpList_plain hgd fun K hK => ?_
  obtain ⟨A', c', w', hr, h2, h3⟩ := run_append_ints w base A c l hown A2 c2 b B hb hn hz o.type
  unfold Oper.wp execOp
  simp only [ho, resolve, invoke, builtin, Sem.run_bind, Sem.run_pure, Result.andThen_ok, List.map_toArray, List.map_cons, List.map_nil, hs, hx, hr]
  exact hK _ _ (h A' c' w' h2 h3)

set_option maxHeartbeats 800000 in
theorem specCopyInts_any (A : Option Addr) (c : Nat) (l : List Int) (w : World) (B : Nat) (h : RdI w B A l) (hB : B ≤ w.heap.size) (hn : l.length ≤ 65536) :
    Calls Try.prog 77 #[.slice A l.length c] w fun e w' => ∃ R cR, e = .returned (.slice R l.length cR) ∧ OwnV w' w.heap.size R cR l ∧ Below w.heap.size w w' := by
  have hbe : Below w.heap.size w (w.alloc (.cells #[] 3)) := (Below.refl _ _).alloc (Nat.le_refl _) _
  have H := Lib.hid (h.below hbe hB)
  have Hbe := Lib.hid hbe
  have He := Lib.hid (emptyJ w).ownV
  clear h hbe
  go_enter Try.func77, Try.ntmps77
  go_wp2_with (at_builtin; go_must (refine wpList_append_ints rfl _ _ rfl w.heap.size _ _ [] 0 rfl rfl He.out A c l l.length B rfl rfl H.out (by omega) (by simp) ?_; intro R cR w2 ho2 hg2); have Ho2 := Lib.hid ho2; have Hg2 := Lib.hid hg2; clear ho2 hg2)
  go_ret
  refine ⟨R, cR, ret_slice (by simp), by simpa using Ho2.out, Hbe.out.grown Hg2.out (by simp) (fun g hg => ?_)⟩
  have : w.heap.size = g := Option.some.inj hg
  omega

set_option maxRecDepth 100000 in
set_option maxHeartbeats 6400000 in
theorem lsTake {l : List Nd} {src : List (List Int)} {i j : Nat} {p : Nat} {m : Int} {q z : List Int} (A : Option Addr) (c : Nat) (As : Option Addr) (ca : Nat) (w : World) (B : Nat) (h : RdN w B A l) (hB : B ≤ w.heap.size) (hn : l.length ≤ 1048576)
    (hx : l[i]? = some ⟨3, (j : Int), -1, (p : Int), m⟩)
    (hi : ∀ W, Below w.heap.size w W → Calls Try.prog 80 #[.agg #[.slice A l.length c], .slice As src.length ca, .int .i64 (j : Int)] W fun e w' => ∃ R cR, e = .returned (.slice R q.length cR) ∧ OwnV w' W.heap.size R cR q ∧ Below W.heap.size W w')
    (iq : Items q) (lq : q.length ≤ 65536) (hF : Hid (z = q.take p)) :
    Calls Try.prog 80 #[.agg #[.slice A l.length c], .slice As src.length ca, .int .i64 i] w fun e w' => ∃ R cR, e = .returned (.slice R z.length cR) ∧ OwnV w' w.heap.size R cR z ∧ Below w.heap.size w w' := by
  have _u1 := hn
  have _u2 := lq
  have _u3 := iq
  clear _u1 _u2 _u3
  have hlt : i < l.length := (List.getElem?_eq_some_iff.1 hx).1
  have hb0 := (Below.refl w.heap.size w).alloc (Nat.le_refl _) (.cells #[.slice A l.length c] 32)
  obtain ⟨b, o, y, rfl, hbB, hy, hc⟩ := (h.below hb0 (by omega)).at_ hlt
  obtain rfl := Option.some.inj (hx.symm.trans hy)
  obtain ⟨c0, c1, c2, c3, c4⟩ := hc
  simp only at c0 c1 c2 c3 c4
  obtain ⟨W2, hW2⟩ : ∃ W2 : World, W2 = (w.alloc (.cells #[.slice (some ⟨b, o, none⟩) l.length c] 32)).alloc (.cells #[.int .i64 3, .int .i64 (j : Int), .int .i64 (-1), .int .i64 (p : Int), .int .i64 m] 102) := ⟨_, rfl⟩
  have hb2 : Below w.heap.size w W2 := by rw [hW2]; exact ((Below.refl _ _).alloc (Nat.le_refl _) _).alloc (by simp) _
  have hs2 : W2.heap.size = w.heap.size + 2 := by rw [hW2]; simp
  have hbox : Bk W2 w.heap.size 32 [.slice (some ⟨b, o, none⟩) l.length c] := by rw [hW2]; exact (Bk.new _ _ [_]).alloc _
  have hnode : Bk W2 (w.heap.size + 1) 102 [.int .i64 3, .int .i64 (j : Int), .int .i64 (-1), .int .i64 (p : Int), .int .i64 m] := by
    rw [hW2]
    have := Bk.new (w.alloc (.cells #[.slice (some ⟨b, o, none⟩) l.length c] 32)) 102 [.int .i64 3, .int .i64 (j : Int), .int .i64 (-1), .int .i64 (p : Int), .int .i64 m]
    simpa using this
  have HW2 := Lib.hid hW2
  have Hb2 := Lib.hid hb2
  have Hbox := Lib.hid hbox
  have Hnode := Lib.hid hnode
  have Hs2 := Lib.hid hs2
  have Hi := Lib.hid hi
  have Iq := Lib.hid iq
  clear hx hy h hb0 hi iq hW2 hb2 hbox hnode hs2
  go_enter Try.func80, Try.ntmps80
  go_wp2_with fail
  rw [← HW2.out]
  refine (Hi.out W2 Hb2.out).mono ?_
  rintro e w3 ⟨R, cR, rfl, ho3, hb3⟩
  have hbox3 := Hbox.out.below hb3 Hbox.out.lt
  have hnode3 := Hnode.out.below hb3 Hnode.out.lt
  have e0 : w3.cell? ⟨w.heap.size, 0, none⟩ = some (.slice (some ⟨b, o, none⟩) l.length c) := hbox3.cell 0
  have d0 : w3.cell? ⟨w.heap.size + 1, 0, none⟩ = some (.int .i64 3) := hnode3.cell 0
  have d1 : w3.cell? ⟨w.heap.size + 1, 1, none⟩ = some (.int .i64 (j : Int)) := hnode3.cell 1
  have d2 : w3.cell? ⟨w.heap.size + 1, 2, none⟩ = some (.int .i64 (-1)) := hnode3.cell 2
  have d3 : w3.cell? ⟨w.heap.size + 1, 3, none⟩ = some (.int .i64 (p : Int)) := hnode3.cell 3
  have d4 : w3.cell? ⟨w.heap.size + 1, 4, none⟩ = some (.int .i64 m) := hnode3.cell 4
  have hz2 : w.heap.size ≤ W2.heap.size := by rw [Hs2.out]; omega
  have hz3 := hb3.size
  have hcap := ho3.len_le
  have Hb3 := Lib.hid (Hb2.out.trans (hb3.mono hz2))
  have Hb23 := Lib.hid hb3
  have Ho3 := Lib.hid (ho3.base_ hz2)
  clear ho3 hb3 hbox3 hnode3
  by_cases hp : p ≤ q.length
  · have hmin : min (p : Int) (q.length : Int) = p := by omega
    go_wp2_with fail
    go_ret
    exact ⟨R, cR, ret_slice (by rw [hF.out, List.length_take]; omega), by rw [hF.out]; exact Ho3.out.take p, Hb3.out⟩
  · have hmin : min (p : Int) (q.length : Int) = q.length := by omega
    go_wp2_with fail
    go_ret
    exact ⟨R, cR, ret_slice (by rw [hF.out, List.length_take]; omega), by rw [hF.out]; exact Ho3.out.take p, Hb3.out⟩

set_option maxRecDepth 100000 in
set_option maxHeartbeats 6400000 in
theorem lsDrop {l : List Nd} {src : List (List Int)} {i j : Nat} {p : Nat} {m : Int} {q z : List Int} (A : Option Addr) (c : Nat) (As : Option Addr) (ca : Nat) (w : World) (B : Nat) (h : RdN w B A l) (hB : B ≤ w.heap.size) (hn : l.length ≤ 1048576)
    (hx : l[i]? = some ⟨4, (j : Int), -1, (p : Int), m⟩)
    (hi : ∀ W, Below w.heap.size w W → Calls Try.prog 80 #[.agg #[.slice A l.length c], .slice As src.length ca, .int .i64 (j : Int)] W fun e w' => ∃ R cR, e = .returned (.slice R q.length cR) ∧ OwnV w' W.heap.size R cR q ∧ Below W.heap.size W w')
    (iq : Items q) (lq : q.length ≤ 65536) (hF : Hid (z = q.drop (min p q.length))) :
    Calls Try.prog 80 #[.agg #[.slice A l.length c], .slice As src.length ca, .int .i64 i] w fun e w' => ∃ R cR, e = .returned (.slice R z.length cR) ∧ OwnV w' w.heap.size R cR z ∧ Below w.heap.size w w' := by
  have _u1 := hn
  have _u2 := lq
  have _u3 := iq
  clear _u1 _u2 _u3
  have hlt : i < l.length := (List.getElem?_eq_some_iff.1 hx).1
  have hb0 := (Below.refl w.heap.size w).alloc (Nat.le_refl _) (.cells #[.slice A l.length c] 32)
  obtain ⟨b, o, y, rfl, hbB, hy, hc⟩ := (h.below hb0 (by omega)).at_ hlt
  obtain rfl := Option.some.inj (hx.symm.trans hy)
  obtain ⟨c0, c1, c2, c3, c4⟩ := hc
  simp only at c0 c1 c2 c3 c4
  obtain ⟨W2, hW2⟩ : ∃ W2 : World, W2 = (w.alloc (.cells #[.slice (some ⟨b, o, none⟩) l.length c] 32)).alloc (.cells #[.int .i64 4, .int .i64 (j : Int), .int .i64 (-1), .int .i64 (p : Int), .int .i64 m] 102) := ⟨_, rfl⟩
  have hb2 : Below w.heap.size w W2 := by rw [hW2]; exact ((Below.refl _ _).alloc (Nat.le_refl _) _).alloc (by simp) _
  have hs2 : W2.heap.size = w.heap.size + 2 := by rw [hW2]; simp
  have hbox : Bk W2 w.heap.size 32 [.slice (some ⟨b, o, none⟩) l.length c] := by rw [hW2]; exact (Bk.new _ _ [_]).alloc _
  have hnode : Bk W2 (w.heap.size + 1) 102 [.int .i64 4, .int .i64 (j : Int), .int .i64 (-1), .int .i64 (p : Int), .int .i64 m] := by
    rw [hW2]
    have := Bk.new (w.alloc (.cells #[.slice (some ⟨b, o, none⟩) l.length c] 32)) 102 [.int .i64 4, .int .i64 (j : Int), .int .i64 (-1), .int .i64 (p : Int), .int .i64 m]
    simpa using this
  have HW2 := Lib.hid hW2
  have Hb2 := Lib.hid hb2
  have Hbox := Lib.hid hbox
  have Hnode := Lib.hid hnode
  have Hs2 := Lib.hid hs2
  have Hi := Lib.hid hi
  have Iq := Lib.hid iq
  clear hx hy h hb0 hi iq hW2 hb2 hbox hnode hs2
  go_enter Try.func80, Try.ntmps80
  go_wp2_with fail
  rw [← HW2.out]
  refine (Hi.out W2 Hb2.out).mono ?_
  rintro e w3 ⟨R, cR, rfl, ho3, hb3⟩
  have hbox3 := Hbox.out.below hb3 Hbox.out.lt
  have hnode3 := Hnode.out.below hb3 Hnode.out.lt
  have e0 : w3.cell? ⟨w.heap.size, 0, none⟩ = some (.slice (some ⟨b, o, none⟩) l.length c) := hbox3.cell 0
  have d0 : w3.cell? ⟨w.heap.size + 1, 0, none⟩ = some (.int .i64 4) := hnode3.cell 0
  have d1 : w3.cell? ⟨w.heap.size + 1, 1, none⟩ = some (.int .i64 (j : Int)) := hnode3.cell 1
  have d2 : w3.cell? ⟨w.heap.size + 1, 2, none⟩ = some (.int .i64 (-1)) := hnode3.cell 2
  have d3 : w3.cell? ⟨w.heap.size + 1, 3, none⟩ = some (.int .i64 (p : Int)) := hnode3.cell 3
  have d4 : w3.cell? ⟨w.heap.size + 1, 4, none⟩ = some (.int .i64 m) := hnode3.cell 4
  have hz2 : w.heap.size ≤ W2.heap.size := by rw [Hs2.out]; omega
  have hz3 := hb3.size
  have hcap := ho3.len_le
  have Hb3 := Lib.hid (Hb2.out.trans (hb3.mono hz2))
  have Hb23 := Lib.hid hb3
  have Ho3 := Lib.hid (ho3.base_ hz2)
  clear ho3 hb3 hbox3 hnode3
  by_cases hp : p ≤ q.length
  · have hmin : min (p : Int) (q.length : Int) = p := by omega
    have Ht : Hid (min p q.length = p) := Lib.hid (by omega)
    have htl := hp
    clear hp
    rcases Ho3.out with ⟨hA, hc0, hq0⟩ | ⟨g, o', cs, hA, _⟩
    · subst hA hc0
      have hq1 : q.length = 0 := by rw [hq0]; rfl
      have ht0 : p = 0 := by omega
      clear hq0
      subst ht0
      rw [hq1]
      go_wp2_with fail
      go_ret
      exact ⟨none, 0, ret_slice (by rw [hF.out, List.length_drop, Ht.out]; omega), .inl ⟨rfl, rfl, List.eq_nil_of_length_eq_zero (by rw [hF.out, List.length_drop]; omega)⟩, Hb3.out⟩
    · subst hA
      have hd := Ho3.out.drop p htl
      have hd0 : cR ≤ p → OwnV w3 w.heap.size (some ⟨g, o', none⟩) 0 (q.drop p) := Ho3.out.drop0 p htl
      have Hd := Lib.hid hd
      have Hd0 := Lib.hid hd0
      clear hd hd0
      by_cases hct : cR = p
      · have Hct := Lib.hid hct
        have hqt : q.length = p := by omega
        subst hct
        rw [hqt]
        clear hqt
        go_wp2_with fail
        go_ret
        exact ⟨some ⟨g, o', none⟩, 0, ret_slice (by rw [hF.out, List.length_drop, Ht.out]; omega), by rw [hF.out, Ht.out]; exact Hd0.out (by omega), Hb3.out⟩
      · go_wp2_with fail
        go_ret
        exact ⟨some ⟨g, o' + p, none⟩, cR - p, ret_slice (by rw [hF.out, List.length_drop, Ht.out] <;> omega), by rw [hF.out, Ht.out]; exact Hd.out, Hb3.out⟩
  · have hmin : min (p : Int) (q.length : Int) = q.length := by omega
    obtain ⟨t, ht⟩ : ∃ t, q.length = t := ⟨_, rfl⟩
    have Ht : Hid (min p q.length = t) := Lib.hid (by omega)
    have hmin2 : min (p : Int) (t : Int) = t := by omega
    have htl : t ≤ q.length := by omega
    have hpt : ¬ p ≤ t := by omega
    rw [ht]
    clear hp hmin
    rcases Ho3.out with ⟨hA, hc0, hq0⟩ | ⟨g, o', cs, hA, _⟩
    · subst hA hc0
      have hq1 : q.length = 0 := by rw [hq0]; rfl
      have ht0 : t = 0 := by omega
      clear hq0
      subst ht0
      go_wp2_with fail
      go_ret
      exact ⟨none, 0, ret_slice (by rw [hF.out, List.length_drop, Ht.out]; omega), .inl ⟨rfl, rfl, List.eq_nil_of_length_eq_zero (by rw [hF.out, List.length_drop]; omega)⟩, Hb3.out⟩
    · subst hA
      have hd := Ho3.out.drop t htl
      have hd0 : cR ≤ t → OwnV w3 w.heap.size (some ⟨g, o', none⟩) 0 (q.drop t) := Ho3.out.drop0 t htl
      have Hd := Lib.hid hd
      have Hd0 := Lib.hid hd0
      clear hd hd0
      by_cases hct : cR = t
      · have Hct := Lib.hid hct
        have hqt : q.length = t := by omega
        subst hct
        clear hqt
        go_wp2_with fail
        go_ret
        exact ⟨some ⟨g, o', none⟩, 0, ret_slice (by rw [hF.out, List.length_drop, Ht.out]; omega), by rw [hF.out, Ht.out]; exact Hd0.out (by omega), Hb3.out⟩
      · go_wp2_with fail
        go_ret
        exact ⟨some ⟨g, o' + t, none⟩, cR - t, ret_slice (by rw [hF.out, List.length_drop, Ht.out] <;> omega), by rw [hF.out, Ht.out]; exact Hd.out, Hb3.out⟩

set_option maxRecDepth 100000 in
set_option maxHeartbeats 6400000 in
theorem lsWhile {l : List Nd} {src : List (List Int)} {i j : Nat} {n m : Int} {q z : List Int} (A : Option Addr) (c : Nat) (As : Option Addr) (ca : Nat) (w : World) (B : Nat) (h : RdN w B A l) (hB : B ≤ w.heap.size) (hn : l.length ≤ 1048576)
    (hx : l[i]? = some ⟨5, (j : Int), -1, n, m⟩)
    (hi : ∀ W, Below w.heap.size w W → Calls Try.prog 80 #[.agg #[.slice A l.length c], .slice As src.length ca, .int .i64 (j : Int)] W fun e w' => ∃ R cR, e = .returned (.slice R q.length cR) ∧ OwnV w' W.heap.size R cR q ∧ Below W.heap.size W w')
    (iq : Items q) (lq : q.length ≤ 65536) (hF : Hid (z = q.take (frst q n))) :
    Calls Try.prog 80 #[.agg #[.slice A l.length c], .slice As src.length ca, .int .i64 i] w fun e w' => ∃ R cR, e = .returned (.slice R z.length cR) ∧ OwnV w' w.heap.size R cR z ∧ Below w.heap.size w w' := by
  have _u1 := hn
  have _u2 := lq
  have _u3 := iq
  clear _u1 _u2 _u3
  have hlt : i < l.length := (List.getElem?_eq_some_iff.1 hx).1
  have hb0 := (Below.refl w.heap.size w).alloc (Nat.le_refl _) (.cells #[.slice A l.length c] 32)
  obtain ⟨b, o, y, rfl, hbB, hy, hc⟩ := (h.below hb0 (by omega)).at_ hlt
  obtain rfl := Option.some.inj (hx.symm.trans hy)
  obtain ⟨c0, c1, c2, c3, c4⟩ := hc
  simp only at c0 c1 c2 c3 c4
  obtain ⟨W2, hW2⟩ : ∃ W2 : World, W2 = (w.alloc (.cells #[.slice (some ⟨b, o, none⟩) l.length c] 32)).alloc (.cells #[.int .i64 5, .int .i64 (j : Int), .int .i64 (-1), .int .i64 n, .int .i64 m] 102) := ⟨_, rfl⟩
  have hb2 : Below w.heap.size w W2 := by rw [hW2]; exact ((Below.refl _ _).alloc (Nat.le_refl _) _).alloc (by simp) _
  have hs2 : W2.heap.size = w.heap.size + 2 := by rw [hW2]; simp
  have hbox : Bk W2 w.heap.size 32 [.slice (some ⟨b, o, none⟩) l.length c] := by rw [hW2]; exact (Bk.new _ _ [_]).alloc _
  have hnode : Bk W2 (w.heap.size + 1) 102 [.int .i64 5, .int .i64 (j : Int), .int .i64 (-1), .int .i64 n, .int .i64 m] := by
    rw [hW2]
    have := Bk.new (w.alloc (.cells #[.slice (some ⟨b, o, none⟩) l.length c] 32)) 102 [.int .i64 5, .int .i64 (j : Int), .int .i64 (-1), .int .i64 n, .int .i64 m]
    simpa using this
  have HW2 := Lib.hid hW2
  have Hb2 := Lib.hid hb2
  have Hbox := Lib.hid hbox
  have Hnode := Lib.hid hnode
  have Hs2 := Lib.hid hs2
  have Hi := Lib.hid hi
  have Iq := Lib.hid iq
  clear hx hy h hb0 hi iq hW2 hb2 hbox hnode hs2
  go_enter Try.func80, Try.ntmps80
  go_wp2_with fail
  rw [← HW2.out]
  refine (Hi.out W2 Hb2.out).mono ?_
  rintro e w3 ⟨R, cR, rfl, ho3, hb3⟩
  have hbox3 := Hbox.out.below hb3 Hbox.out.lt
  have hnode3 := Hnode.out.below hb3 Hnode.out.lt
  have e0 : w3.cell? ⟨w.heap.size, 0, none⟩ = some (.slice (some ⟨b, o, none⟩) l.length c) := hbox3.cell 0
  have d0 : w3.cell? ⟨w.heap.size + 1, 0, none⟩ = some (.int .i64 5) := hnode3.cell 0
  have d1 : w3.cell? ⟨w.heap.size + 1, 1, none⟩ = some (.int .i64 (j : Int)) := hnode3.cell 1
  have d2 : w3.cell? ⟨w.heap.size + 1, 2, none⟩ = some (.int .i64 (-1)) := hnode3.cell 2
  have d3 : w3.cell? ⟨w.heap.size + 1, 3, none⟩ = some (.int .i64 n) := hnode3.cell 3
  have d4 : w3.cell? ⟨w.heap.size + 1, 4, none⟩ = some (.int .i64 m) := hnode3.cell 4
  have hz2 : w.heap.size ≤ W2.heap.size := by rw [Hs2.out]; omega
  have hz3 := hb3.size
  have hcap := ho3.len_le
  have Hb3 := Lib.hid (Hb2.out.trans (hb3.mono hz2))
  have Hb23 := Lib.hid hb3
  have Ho3 := Lib.hid (ho3.base_ hz2)
  clear ho3 hb3 hbox3 hnode3
  go_wp2_with fail
  refine (specFirstAt_any R cR q n w3 w3.heap.size Ho3.out.rd (by omega)).mono ?_
  rintro e w4 ⟨rfl, rfl⟩
  have hfl := frst_le q n
  obtain ⟨t, ht⟩ : ∃ t, frst q n = t := ⟨_, rfl⟩
  rw [ht] at hfl
  rw [ht]
  have htl := hfl
  have Ht := Lib.hid ht
  clear ht hfl
  go_wp2_with fail
  go_ret
  exact ⟨R, cR, ret_slice (by rw [hF.out, List.length_take, Ht.out]; omega), by rw [hF.out]; exact Ho3.out.take _, Hb3.out⟩

set_option maxRecDepth 100000 in
set_option maxHeartbeats 6400000 in
theorem lsSkip {l : List Nd} {src : List (List Int)} {i j : Nat} {n m : Int} {q z : List Int} (A : Option Addr) (c : Nat) (As : Option Addr) (ca : Nat) (w : World) (B : Nat) (h : RdN w B A l) (hB : B ≤ w.heap.size) (hn : l.length ≤ 1048576)
    (hx : l[i]? = some ⟨6, (j : Int), -1, n, m⟩)
    (hi : ∀ W, Below w.heap.size w W → Calls Try.prog 80 #[.agg #[.slice A l.length c], .slice As src.length ca, .int .i64 (j : Int)] W fun e w' => ∃ R cR, e = .returned (.slice R q.length cR) ∧ OwnV w' W.heap.size R cR q ∧ Below W.heap.size W w')
    (iq : Items q) (lq : q.length ≤ 65536) (hF : Hid (z = q.drop (frst q n))) :
    Calls Try.prog 80 #[.agg #[.slice A l.length c], .slice As src.length ca, .int .i64 i] w fun e w' => ∃ R cR, e = .returned (.slice R z.length cR) ∧ OwnV w' w.heap.size R cR z ∧ Below w.heap.size w w' := by
  have _u1 := hn
  have _u2 := lq
  have _u3 := iq
  clear _u1 _u2 _u3
  have hlt : i < l.length := (List.getElem?_eq_some_iff.1 hx).1
  have hb0 := (Below.refl w.heap.size w).alloc (Nat.le_refl _) (.cells #[.slice A l.length c] 32)
  obtain ⟨b, o, y, rfl, hbB, hy, hc⟩ := (h.below hb0 (by omega)).at_ hlt
  obtain rfl := Option.some.inj (hx.symm.trans hy)
  obtain ⟨c0, c1, c2, c3, c4⟩ := hc
  simp only at c0 c1 c2 c3 c4
  obtain ⟨W2, hW2⟩ : ∃ W2 : World, W2 = (w.alloc (.cells #[.slice (some ⟨b, o, none⟩) l.length c] 32)).alloc (.cells #[.int .i64 6, .int .i64 (j : Int), .int .i64 (-1), .int .i64 n, .int .i64 m] 102) := ⟨_, rfl⟩
  have hb2 : Below w.heap.size w W2 := by rw [hW2]; exact ((Below.refl _ _).alloc (Nat.le_refl _) _).alloc (by simp) _
  have hs2 : W2.heap.size = w.heap.size + 2 := by rw [hW2]; simp
  have hbox : Bk W2 w.heap.size 32 [.slice (some ⟨b, o, none⟩) l.length c] := by rw [hW2]; exact (Bk.new _ _ [_]).alloc _
  have hnode : Bk W2 (w.heap.size + 1) 102 [.int .i64 6, .int .i64 (j : Int), .int .i64 (-1), .int .i64 n, .int .i64 m] := by
    rw [hW2]
    have := Bk.new (w.alloc (.cells #[.slice (some ⟨b, o, none⟩) l.length c] 32)) 102 [.int .i64 6, .int .i64 (j : Int), .int .i64 (-1), .int .i64 n, .int .i64 m]
    simpa using this
  have HW2 := Lib.hid hW2
  have Hb2 := Lib.hid hb2
  have Hbox := Lib.hid hbox
  have Hnode := Lib.hid hnode
  have Hs2 := Lib.hid hs2
  have Hi := Lib.hid hi
  have Iq := Lib.hid iq
  clear hx hy h hb0 hi iq hW2 hb2 hbox hnode hs2
  go_enter Try.func80, Try.ntmps80
  go_wp2_with fail
  rw [← HW2.out]
  refine (Hi.out W2 Hb2.out).mono ?_
  rintro e w3 ⟨R, cR, rfl, ho3, hb3⟩
  have hbox3 := Hbox.out.below hb3 Hbox.out.lt
  have hnode3 := Hnode.out.below hb3 Hnode.out.lt
  have e0 : w3.cell? ⟨w.heap.size, 0, none⟩ = some (.slice (some ⟨b, o, none⟩) l.length c) := hbox3.cell 0
  have d0 : w3.cell? ⟨w.heap.size + 1, 0, none⟩ = some (.int .i64 6) := hnode3.cell 0
  have d1 : w3.cell? ⟨w.heap.size + 1, 1, none⟩ = some (.int .i64 (j : Int)) := hnode3.cell 1
  have d2 : w3.cell? ⟨w.heap.size + 1, 2, none⟩ = some (.int .i64 (-1)) := hnode3.cell 2
  have d3 : w3.cell? ⟨w.heap.size + 1, 3, none⟩ = some (.int .i64 n) := hnode3.cell 3
  have d4 : w3.cell? ⟨w.heap.size + 1, 4, none⟩ = some (.int .i64 m) := hnode3.cell 4
  have hz2 : w.heap.size ≤ W2.heap.size := by rw [Hs2.out]; omega
  have hz3 := hb3.size
  have hcap := ho3.len_le
  have Hb3 := Lib.hid (Hb2.out.trans (hb3.mono hz2))
  have Hb23 := Lib.hid hb3
  have Ho3 := Lib.hid (ho3.base_ hz2)
  clear ho3 hb3 hbox3 hnode3
  go_wp2_with fail
  refine (specFirstAt_any R cR q n w3 w3.heap.size Ho3.out.rd (by omega)).mono ?_
  rintro e w4 ⟨rfl, rfl⟩
  have hfl := frst_le q n
  obtain ⟨t, ht⟩ : ∃ t, frst q n = t := ⟨_, rfl⟩
  rw [ht] at hfl
  rw [ht]
  have htl := hfl
  have Ht := Lib.hid ht
  clear ht hfl
  rcases Ho3.out with ⟨hA, hc0, hq0⟩ | ⟨g, o', cs, hA, _⟩
  · subst hA hc0
    have hq1 : q.length = 0 := by rw [hq0]; rfl
    have ht0 : t = 0 := by omega
    clear hq0
    subst ht0
    rw [hq1]
    go_wp2_with fail
    go_ret
    exact ⟨none, 0, ret_slice (by rw [hF.out, List.length_drop, Ht.out]; omega), .inl ⟨rfl, rfl, List.eq_nil_of_length_eq_zero (by rw [hF.out, List.length_drop]; omega)⟩, Hb3.out⟩
  · subst hA
    have hd := Ho3.out.drop t htl
    have hd0 : cR ≤ t → OwnV w3 w.heap.size (some ⟨g, o', none⟩) 0 (q.drop t) := Ho3.out.drop0 t htl
    have Hd := Lib.hid hd
    have Hd0 := Lib.hid hd0
    clear hd hd0
    by_cases hct : cR = t
    · have Hct := Lib.hid hct
      have hqt : q.length = t := by omega
      subst hct
      rw [hqt]
      clear hqt
      go_wp2_with fail
      go_ret
      exact ⟨some ⟨g, o', none⟩, 0, ret_slice (by rw [hF.out, List.length_drop, Ht.out]; omega), by rw [hF.out, Ht.out]; exact Hd0.out (by omega), Hb3.out⟩
    · go_wp2_with fail
      go_ret
      exact ⟨some ⟨g, o' + t, none⟩, cR - t, ret_slice (by rw [hF.out, List.length_drop, Ht.out] <;> omega), by rw [hF.out, Ht.out]; exact Hd.out, Hb3.out⟩

end Go.Proofs.Ytnmekcifbmcdpaa

/- Contracts: the list of a node with one below, by the program. -/
namespace Go.Proofs.Ytnmekcifbmcdpaa
open Go.RowKit

set_option maxRecDepth 100000 in
set_option maxHeartbeats 6400000 in
theorem implStem_map (R : Option Addr) (cR : Nat) (q z : List Int) (xa xb : Int) (n m : Int) (w : World) (base : Nat) (ha : OwnV w base R cR q) (hbase : base ≤ w.heap.size) (lq : q.length ≤ 65536) (iq : Items q) (hnb : 0 ≤ n ∧ n ≤ 99) (hmb : 0 ≤ m ∧ m ≤ 99) (hF : Hid (z = mapL n m q)) :
    Calls Try.prog 88 #[.agg #[.int .i64 1, .int .i64 xa, .int .i64 xb, .int .i64 n, .int .i64 m], .slice R q.length cR] w fun e w' => ∃ R' c', e = .returned (.slice R' z.length c') ∧ OwnV w' base R' c' z ∧ w.grownBy w' (rowOf R) := by
  have _u1 := lq
  have _u2 := iq
  have _u3 := hbase
  clear _u1 _u2 _u3
  obtain ⟨w3, hW3⟩ : ∃ w3 : World, w3 = w.alloc (.cells #[.int .i64 1, .int .i64 xa, .int .i64 xb, .int .i64 n, .int .i64 m] 102) := ⟨_, rfl⟩
  have hb2 : Below w.heap.size w w3 := by rw [hW3]; exact (Below.refl _ _).alloc (Nat.le_refl _) _
  have Ho3 := Lib.hid (ha.below hb2 (Nat.le_refl _))
  have hcap := ha.len_le
  have Iq := Lib.hid iq
  have HW3 := Lib.hid hW3
  have hz3 := hb2.size
  have Hb2 := Lib.hid hb2
  have Hb3 := Lib.hid (grown_below hb2 (rowOf R))
  clear ha iq hW3 hb2
  go_enter Try.func88, Try.ntmps88
  go_wp2_with fail
  rw [← HW3.out]
  refine (implMapped_any R cR q n m w3 w3.heap.size Ho3.out.rd (Nat.le_refl _) lq Iq.out hnb hmb).mono ?_
  rintro e w4 ⟨R4, c4, rfl, ho4, hb4⟩
  have Ho4 := Lib.hid (ho4.ownV.base_ (Nat.le_trans hbase hz3))
  have Hb4 := Lib.hid (grown_below (Hb2.out.trans (hb4.mono hz3)) (rowOf R))
  clear ho4 hb4
  go_wp2_with fail
  go_ret
  exact ⟨R4, c4, ret_slice (by rw [hF.out]), by rw [hF.out]; exact Ho4.out, Hb4.out⟩

set_option maxRecDepth 100000 in
set_option maxHeartbeats 6400000 in
theorem implStem_filter (R : Option Addr) (cR : Nat) (q z : List Int) (xa xb : Int) (n m : Int) (w : World) (base : Nat) (ha : OwnV w base R cR q) (hbase : base ≤ w.heap.size) (lq : q.length ≤ 65536) (iq : Items q) (hnb : 1 ≤ n ∧ n ≤ 99) (hF : Hid (z = filL n m q)) :
    Calls Try.prog 88 #[.agg #[.int .i64 2, .int .i64 xa, .int .i64 xb, .int .i64 n, .int .i64 m], .slice R q.length cR] w fun e w' => ∃ R' c', e = .returned (.slice R' z.length c') ∧ OwnV w' base R' c' z ∧ w.grownBy w' (rowOf R) := by
  have _u1 := lq
  have _u2 := iq
  have _u3 := hbase
  clear _u1 _u2 _u3
  obtain ⟨w3, hW3⟩ : ∃ w3 : World, w3 = w.alloc (.cells #[.int .i64 2, .int .i64 xa, .int .i64 xb, .int .i64 n, .int .i64 m] 102) := ⟨_, rfl⟩
  have hb2 : Below w.heap.size w w3 := by rw [hW3]; exact (Below.refl _ _).alloc (Nat.le_refl _) _
  have Ho3 := Lib.hid (ha.below hb2 (Nat.le_refl _))
  have hcap := ha.len_le
  have Iq := Lib.hid iq
  have HW3 := Lib.hid hW3
  have hz3 := hb2.size
  have Hb2 := Lib.hid hb2
  have Hb3 := Lib.hid (grown_below hb2 (rowOf R))
  clear ha iq hW3 hb2
  go_enter Try.func88, Try.ntmps88
  go_wp2_with fail
  rw [← HW3.out]
  refine (implFiltered_any R cR q n m w3 w3.heap.size Ho3.out.rd (Nat.le_refl _) lq Iq.out hnb).mono ?_
  rintro e w4 ⟨R4, c4, rfl, ho4, hb4⟩
  have Ho4 := Lib.hid (ho4.ownV.base_ (Nat.le_trans hbase hz3))
  have Hb4 := Lib.hid (grown_below (Hb2.out.trans (hb4.mono hz3)) (rowOf R))
  clear ho4 hb4
  go_wp2_with fail
  go_ret
  exact ⟨R4, c4, ret_slice (by rw [hF.out]), by rw [hF.out]; exact Ho4.out, Hb4.out⟩

set_option maxRecDepth 100000 in
set_option maxHeartbeats 6400000 in
theorem implStem_scan (R : Option Addr) (cR : Nat) (q z : List Int) (xa xb : Int) (n m : Int) (w : World) (base : Nat) (ha : OwnV w base R cR q) (hbase : base ≤ w.heap.size) (lq : q.length ≤ 65536) (iq : Items q) (hF : Hid (z = scanL 0 q)) :
    Calls Try.prog 88 #[.agg #[.int .i64 11, .int .i64 xa, .int .i64 xb, .int .i64 n, .int .i64 m], .slice R q.length cR] w fun e w' => ∃ R' c', e = .returned (.slice R' z.length c') ∧ OwnV w' base R' c' z ∧ w.grownBy w' (rowOf R) := by
  have _u1 := lq
  have _u2 := iq
  have _u3 := hbase
  clear _u1 _u2 _u3
  obtain ⟨w3, hW3⟩ : ∃ w3 : World, w3 = w.alloc (.cells #[.int .i64 11, .int .i64 xa, .int .i64 xb, .int .i64 n, .int .i64 m] 102) := ⟨_, rfl⟩
  have hb2 : Below w.heap.size w w3 := by rw [hW3]; exact (Below.refl _ _).alloc (Nat.le_refl _) _
  have Ho3 := Lib.hid (ha.below hb2 (Nat.le_refl _))
  have hcap := ha.len_le
  have Iq := Lib.hid iq
  have HW3 := Lib.hid hW3
  have hz3 := hb2.size
  have Hb2 := Lib.hid hb2
  have Hb3 := Lib.hid (grown_below hb2 (rowOf R))
  clear ha iq hW3 hb2
  go_enter Try.func88, Try.ntmps88
  go_wp2_with fail
  rw [← HW3.out]
  refine (implScanned_any R cR q  w3 w3.heap.size Ho3.out.rd (Nat.le_refl _) lq Iq.out).mono ?_
  rintro e w4 ⟨R4, c4, rfl, ho4, hb4⟩
  have Ho4 := Lib.hid (ho4.ownV.base_ (Nat.le_trans hbase hz3))
  have Hb4 := Lib.hid (grown_below (Hb2.out.trans (hb4.mono hz3)) (rowOf R))
  clear ho4 hb4
  go_wp2_with fail
  go_ret
  exact ⟨R4, c4, ret_slice (by rw [hF.out]), by rw [hF.out]; exact Ho4.out, Hb4.out⟩

set_option maxRecDepth 100000 in
set_option maxHeartbeats 6400000 in
theorem implStem_while (R : Option Addr) (cR : Nat) (q z : List Int) (xa xb : Int) (n m : Int) (w : World) (base : Nat) (ha : OwnV w base R cR q) (hbase : base ≤ w.heap.size) (lq : q.length ≤ 65536) (iq : Items q) (hF : Hid (z = q.take (frst q n))) :
    Calls Try.prog 88 #[.agg #[.int .i64 5, .int .i64 xa, .int .i64 xb, .int .i64 n, .int .i64 m], .slice R q.length cR] w fun e w' => ∃ R' c', e = .returned (.slice R' z.length c') ∧ OwnV w' base R' c' z ∧ w.grownBy w' (rowOf R) := by
  have _u1 := lq
  have _u2 := iq
  have _u3 := hbase
  clear _u1 _u2 _u3
  obtain ⟨w3, hW3⟩ : ∃ w3 : World, w3 = w.alloc (.cells #[.int .i64 5, .int .i64 xa, .int .i64 xb, .int .i64 n, .int .i64 m] 102) := ⟨_, rfl⟩
  have hb2 : Below w.heap.size w w3 := by rw [hW3]; exact (Below.refl _ _).alloc (Nat.le_refl _) _
  have Ho3 := Lib.hid (ha.below hb2 (Nat.le_refl _))
  have hcap := ha.len_le
  have Iq := Lib.hid iq
  have HW3 := Lib.hid hW3
  have hz3 := hb2.size
  have Hb2 := Lib.hid hb2
  have Hb3 := Lib.hid (grown_below hb2 (rowOf R))
  clear ha iq hW3 hb2
  go_enter Try.func88, Try.ntmps88
  go_wp2_with fail
  rw [← HW3.out]
  refine (implFirstGreat_any R cR q n w3 w3.heap.size Ho3.out.rd (by omega)).mono ?_
  rintro e w4 ⟨rfl, rfl⟩
  have hfl := frst_le q n
  obtain ⟨t, ht⟩ : ∃ t, frst q n = t := ⟨_, rfl⟩
  rw [ht] at hfl
  rw [ht]
  have htl := hfl
  have Ht := Lib.hid ht
  clear ht hfl
  go_wp2_with fail
  go_ret
  exact ⟨R, cR, ret_slice (by rw [hF.out, List.length_take, Ht.out]; omega), by rw [hF.out]; exact Ho3.out.take _, Hb3.out⟩

set_option maxRecDepth 100000 in
set_option maxHeartbeats 6400000 in
theorem implStem_skip (R : Option Addr) (cR : Nat) (q z : List Int) (xa xb : Int) (n m : Int) (w : World) (base : Nat) (ha : OwnV w base R cR q) (hbase : base ≤ w.heap.size) (lq : q.length ≤ 65536) (iq : Items q) (hF : Hid (z = q.drop (frst q n))) :
    Calls Try.prog 88 #[.agg #[.int .i64 6, .int .i64 xa, .int .i64 xb, .int .i64 n, .int .i64 m], .slice R q.length cR] w fun e w' => ∃ R' c', e = .returned (.slice R' z.length c') ∧ OwnV w' base R' c' z ∧ w.grownBy w' (rowOf R) := by
  have _u1 := lq
  have _u2 := iq
  have _u3 := hbase
  clear _u1 _u2 _u3
  obtain ⟨w3, hW3⟩ : ∃ w3 : World, w3 = w.alloc (.cells #[.int .i64 6, .int .i64 xa, .int .i64 xb, .int .i64 n, .int .i64 m] 102) := ⟨_, rfl⟩
  have hb2 : Below w.heap.size w w3 := by rw [hW3]; exact (Below.refl _ _).alloc (Nat.le_refl _) _
  have Ho3 := Lib.hid (ha.below hb2 (Nat.le_refl _))
  have hcap := ha.len_le
  have Iq := Lib.hid iq
  have HW3 := Lib.hid hW3
  have hz3 := hb2.size
  have Hb2 := Lib.hid hb2
  have Hb3 := Lib.hid (grown_below hb2 (rowOf R))
  clear ha iq hW3 hb2
  go_enter Try.func88, Try.ntmps88
  go_wp2_with fail
  rw [← HW3.out]
  refine (implFirstGreat_any R cR q n w3 w3.heap.size Ho3.out.rd (by omega)).mono ?_
  rintro e w4 ⟨rfl, rfl⟩
  have hfl := frst_le q n
  obtain ⟨t, ht⟩ : ∃ t, frst q n = t := ⟨_, rfl⟩
  rw [ht] at hfl
  rw [ht]
  have htl := hfl
  have Ht := Lib.hid ht
  clear ht hfl
  rcases Ho3.out with ⟨hA, hc0, hq0⟩ | ⟨g, o', cs, hA, _⟩
  · subst hA hc0
    have hq1 : q.length = 0 := by rw [hq0]; rfl
    have ht0 : t = 0 := by omega
    clear hq0
    subst ht0
    rw [hq1]
    go_wp2_with fail
    go_ret
    exact ⟨none, 0, ret_slice (by rw [hF.out, List.length_drop, Ht.out]; omega), .inl ⟨rfl, rfl, List.eq_nil_of_length_eq_zero (by rw [hF.out, List.length_drop]; omega)⟩, Hb3.out⟩
  · subst hA
    have hd := Ho3.out.drop t htl
    have hd0 : cR ≤ t → OwnV w3 base (some ⟨g, o', none⟩) 0 (q.drop t) := Ho3.out.drop0 t htl
    have Hd := Lib.hid hd
    have Hd0 := Lib.hid hd0
    clear hd hd0
    by_cases hct : cR = t
    · have Hct := Lib.hid hct
      have hqt : q.length = t := by omega
      subst hct
      rw [hqt]
      clear hqt
      go_wp2_with fail
      go_ret
      exact ⟨some ⟨g, o', none⟩, 0, ret_slice (by rw [hF.out, List.length_drop, Ht.out]; omega), by rw [hF.out, Ht.out]; exact Hd0.out (by omega), Hb3.out⟩
    · go_wp2_with fail
      go_ret
      exact ⟨some ⟨g, o' + t, none⟩, cR - t, ret_slice (by rw [hF.out, List.length_drop, Ht.out] <;> omega), by rw [hF.out, Ht.out]; exact Hd.out, Hb3.out⟩

set_option maxRecDepth 100000 in
set_option maxHeartbeats 6400000 in
theorem implStem_take (R : Option Addr) (cR : Nat) (q z : List Int) (xa xb : Int) (p : Nat) (m : Int) (w : World) (base : Nat) (ha : OwnV w base R cR q) (hbase : base ≤ w.heap.size) (lq : q.length ≤ 65536) (iq : Items q) (hF : Hid (z = q.take p)) :
    Calls Try.prog 88 #[.agg #[.int .i64 3, .int .i64 xa, .int .i64 xb, .int .i64 (p : Int), .int .i64 m], .slice R q.length cR] w fun e w' => ∃ R' c', e = .returned (.slice R' z.length c') ∧ OwnV w' base R' c' z ∧ w.grownBy w' (rowOf R) := by
  have _u1 := lq
  have _u2 := iq
  have _u3 := hbase
  clear _u1 _u2 _u3
  obtain ⟨w3, hW3⟩ : ∃ w3 : World, w3 = w.alloc (.cells #[.int .i64 3, .int .i64 xa, .int .i64 xb, .int .i64 (p : Int), .int .i64 m] 102) := ⟨_, rfl⟩
  have hb2 : Below w.heap.size w w3 := by rw [hW3]; exact (Below.refl _ _).alloc (Nat.le_refl _) _
  have Ho3 := Lib.hid (ha.below hb2 (Nat.le_refl _))
  have hcap := ha.len_le
  have Iq := Lib.hid iq
  have HW3 := Lib.hid hW3
  have hz3 := hb2.size
  have Hb2 := Lib.hid hb2
  have Hb3 := Lib.hid (grown_below hb2 (rowOf R))
  clear ha iq hW3 hb2
  go_enter Try.func88, Try.ntmps88
  by_cases hp : p ≤ q.length
  · have hmin : min (p : Int) (q.length : Int) = p := by omega
    go_wp2_with fail
    rw [← HW3.out]
    go_ret
    exact ⟨R, cR, ret_slice (by rw [hF.out, List.length_take]; omega), by rw [hF.out]; exact Ho3.out.take p, Hb3.out⟩
  · have hmin : min (p : Int) (q.length : Int) = q.length := by omega
    go_wp2_with fail
    rw [← HW3.out]
    go_ret
    exact ⟨R, cR, ret_slice (by rw [hF.out, List.length_take]; omega), by rw [hF.out]; exact Ho3.out.take p, Hb3.out⟩

set_option maxRecDepth 100000 in
set_option maxHeartbeats 6400000 in
theorem implStem_drop (R : Option Addr) (cR : Nat) (q z : List Int) (xa xb : Int) (p : Nat) (m : Int) (w : World) (base : Nat) (ha : OwnV w base R cR q) (hbase : base ≤ w.heap.size) (lq : q.length ≤ 65536) (iq : Items q) (hF : Hid (z = q.drop (min p q.length))) :
    Calls Try.prog 88 #[.agg #[.int .i64 4, .int .i64 xa, .int .i64 xb, .int .i64 (p : Int), .int .i64 m], .slice R q.length cR] w fun e w' => ∃ R' c', e = .returned (.slice R' z.length c') ∧ OwnV w' base R' c' z ∧ w.grownBy w' (rowOf R) := by
  have _u1 := lq
  have _u2 := iq
  have _u3 := hbase
  clear _u1 _u2 _u3
  obtain ⟨w3, hW3⟩ : ∃ w3 : World, w3 = w.alloc (.cells #[.int .i64 4, .int .i64 xa, .int .i64 xb, .int .i64 (p : Int), .int .i64 m] 102) := ⟨_, rfl⟩
  have hb2 : Below w.heap.size w w3 := by rw [hW3]; exact (Below.refl _ _).alloc (Nat.le_refl _) _
  have Ho3 := Lib.hid (ha.below hb2 (Nat.le_refl _))
  have hcap := ha.len_le
  have Iq := Lib.hid iq
  have HW3 := Lib.hid hW3
  have hz3 := hb2.size
  have Hb2 := Lib.hid hb2
  have Hb3 := Lib.hid (grown_below hb2 (rowOf R))
  clear ha iq hW3 hb2
  go_enter Try.func88, Try.ntmps88
  by_cases hp : p ≤ q.length
  · have hmin : min (p : Int) (q.length : Int) = p := by omega
    have Ht : Hid (min p q.length = p) := Lib.hid (by omega)
    have htl := hp
    clear hp
    rcases Ho3.out with ⟨hA, hc0, hq0⟩ | ⟨g, o', cs, hA, _⟩
    · subst hA hc0
      have hq1 : q.length = 0 := by rw [hq0]; rfl
      have ht0 : p = 0 := by omega
      clear hq0
      subst ht0
      rw [hq1]
      go_wp2_with fail
      first | rw [← HW3.out] | (have h0 := HW3.out; rw [show ((0 : Nat) : Int) = 0 from rfl] at h0; rw [← h0])
      go_ret
      exact ⟨none, 0, ret_slice (by rw [hF.out, List.length_drop, Ht.out]; omega), .inl ⟨rfl, rfl, List.eq_nil_of_length_eq_zero (by rw [hF.out, List.length_drop]; omega)⟩, Hb3.out⟩
    · subst hA
      have hd := Ho3.out.drop p htl
      have hd0 : cR ≤ p → OwnV w3 base (some ⟨g, o', none⟩) 0 (q.drop p) := Ho3.out.drop0 p htl
      have Hd := Lib.hid hd
      have Hd0 := Lib.hid hd0
      clear hd hd0
      by_cases hct : cR = p
      · have Hct := Lib.hid hct
        have hqt : q.length = p := by omega
        subst hct
        rw [hqt]
        clear hqt
        go_wp2_with fail
        first | rw [← HW3.out] | (have h0 := HW3.out; rw [show ((0 : Nat) : Int) = 0 from rfl] at h0; rw [← h0])
        go_ret
        exact ⟨some ⟨g, o', none⟩, 0, ret_slice (by rw [hF.out, List.length_drop, Ht.out]; omega), by rw [hF.out, Ht.out]; exact Hd0.out (by omega), Hb3.out⟩
      · go_wp2_with fail
        first | rw [← HW3.out] | (have h0 := HW3.out; rw [show ((0 : Nat) : Int) = 0 from rfl] at h0; rw [← h0])
        go_ret
        exact ⟨some ⟨g, o' + p, none⟩, cR - p, ret_slice (by rw [hF.out, List.length_drop, Ht.out] <;> omega), by rw [hF.out, Ht.out]; exact Hd.out, Hb3.out⟩
  · have hmin : min (p : Int) (q.length : Int) = q.length := by omega
    obtain ⟨t, ht⟩ : ∃ t, q.length = t := ⟨_, rfl⟩
    have Ht : Hid (min p q.length = t) := Lib.hid (by omega)
    have hmin2 : min (p : Int) (t : Int) = t := by omega
    have htl : t ≤ q.length := by omega
    have hpt : ¬ p ≤ t := by omega
    rw [ht]
    clear hp hmin
    rcases Ho3.out with ⟨hA, hc0, hq0⟩ | ⟨g, o', cs, hA, _⟩
    · subst hA hc0
      have hq1 : q.length = 0 := by rw [hq0]; rfl
      have ht0 : t = 0 := by omega
      clear hq0
      subst ht0
      go_wp2_with fail
      first | rw [← HW3.out] | (have h0 := HW3.out; rw [show ((0 : Nat) : Int) = 0 from rfl] at h0; rw [← h0])
      go_ret
      exact ⟨none, 0, ret_slice (by rw [hF.out, List.length_drop, Ht.out]; omega), .inl ⟨rfl, rfl, List.eq_nil_of_length_eq_zero (by rw [hF.out, List.length_drop]; omega)⟩, Hb3.out⟩
    · subst hA
      have hd := Ho3.out.drop t htl
      have hd0 : cR ≤ t → OwnV w3 base (some ⟨g, o', none⟩) 0 (q.drop t) := Ho3.out.drop0 t htl
      have Hd := Lib.hid hd
      have Hd0 := Lib.hid hd0
      clear hd hd0
      by_cases hct : cR = t
      · have Hct := Lib.hid hct
        have hqt : q.length = t := by omega
        subst hct
        clear hqt
        go_wp2_with fail
        first | rw [← HW3.out] | (have h0 := HW3.out; rw [show ((0 : Nat) : Int) = 0 from rfl] at h0; rw [← h0])
        go_ret
        exact ⟨some ⟨g, o', none⟩, 0, ret_slice (by rw [hF.out, List.length_drop, Ht.out]; omega), by rw [hF.out, Ht.out]; exact Hd0.out (by omega), Hb3.out⟩
      · go_wp2_with fail
        first | rw [← HW3.out] | (have h0 := HW3.out; rw [show ((0 : Nat) : Int) = 0 from rfl] at h0; rw [← h0])
        go_ret
        exact ⟨some ⟨g, o' + t, none⟩, cR - t, ret_slice (by rw [hF.out, List.length_drop, Ht.out] <;> omega), by rw [hF.out, Ht.out]; exact Hd.out, Hb3.out⟩

end Go.Proofs.Ytnmekcifbmcdpaa

/- Contracts: numbers of the call's own are sorted, and equal neighbours left out. -/
namespace Go.Proofs.Ytnmekcifbmcdpaa
open Go.RowKit Go.Sort

/-- The slice at A holds the numbers l from the beginning of a block of the call's own, with room for c. -/
def RowJ (w : World) (base : Nat) (A : Option Addr) (c : Nat) (l : List Int) : Prop :=
  ∃ g cs, A = some ⟨g, 0, none⟩ ∧ base ≤ g ∧ Bk w g 3 cs ∧ l.length ≤ c ∧ ∀ (k : Nat) (x : Int), l[k]? = some x → cs[k]? = some (.int .i64 x)
theorem OwnJ.rowJ {w : World} {base c : Nat} {A : Option Addr} {l : List Int} (h : OwnJ w base A c l) (hl : 0 < l.length) : RowJ w base A c l := by
  obtain ⟨g, cs, e, h1, h2, h3, h4⟩ := h.bk hl
  exact ⟨g, cs, e, h1, h2, h3, h4⟩
theorem RowJ.ownI {w : World} {base c : Nat} {A : Option Addr} {l : List Int} (h : RowJ w base A c l) : OwnI w base w.heap.size A l := fun _ => by
  obtain ⟨g, cs, e, hb, hbk, _, hc⟩ := h
  exact ⟨g, 0, cs, e, hb, hbk.lt, hbk, fun k x hx => by rw [Nat.zero_add]; exact hc k x hx⟩
theorem RowJ.row {w : World} {base c : Nat} {A : Option Addr} {l : List Int} (h : RowJ w base A c l) : ∀ g, rowOf A = some g → base ≤ g := fun g hg => by
  obtain ⟨g', cs, e, hb, _⟩ := h
  subst e
  have : g' = g := Option.some.inj hg
  omega
theorem RowJ.holds {w : World} {g : Nat} {cs : List Value} {l : List Int} (hb : Bk w g 3 cs) (hc : ∀ (k : Nat) (x : Int), l[k]? = some x → cs[k]? = some (.int .i64 x)) : Holds (Value.int .i64) w g 0 l.toArray := fun j hj => by
  have hj' : j < l.length := by simpa using hj
  rw [Nat.zero_add]
  refine ⟨?_, hb.free j⟩
  rw [hb.cell, hc j l[j] (List.getElem?_eq_getElem hj')]
  simp [hj']

/-- The row after numbers were written over its first ones. -/
theorem put_row {w : World} {g : Nat} {cs : List Value} (hb : Bk w g 3 cs) (d : List Int) (hd : d.length ≤ cs.length) (n : Nat) (os : Array Obj) :
    (∃ cs', Bk (grow (putRow (Value.int .i64) (Go.Sort.ahead w n) g 0 d.toArray) os) g 3 cs' ∧ ∀ (k : Nat) (x : Int), d[k]? = some x → cs'[k]? = some (.int .i64 x)) ∧ w.grownBy (grow (putRow (Value.int .i64) (Go.Sort.ahead w n) g 0 d.toArray) os) (some g) := by
  have hlt := hb.lt
  have hh : w.heap[g]? = some (.cells cs.toArray 3 (0, 0)) := hb
  refine ⟨⟨(putCells (Value.int .i64) 0 d.toArray cs.toArray).toList, ?_, fun k x hx => ?_⟩, ⟨rfl, rfl, rfl, ?_, fun k hk hne => ?_⟩⟩
  · unfold Bk grow putRow mapBlock Go.Sort.ahead
    simp only
    rw [Array.getElem?_append_left (by simpa using hlt), Array.getElem?_modify, if_pos rfl, hh]
    simp [onCells]
  · have hk : k < d.length := (List.getElem?_eq_some_iff.1 hx).1
    simp only [putCells]
    rw [Array.getElem?_toList, Array.getElem?_mapIdx]
    have hk2 : k < cs.toArray.size := by simp; omega
    rw [Array.getElem?_eq_getElem hk2]
    simp only [Option.map_some]
    rw [if_pos (by simp; omega)]
    have : d[k] = x := (List.getElem?_eq_some_iff.1 hx).2
    simp [hk, this]
  · simp [grow, putRow, mapBlock, Go.Sort.ahead]
  · unfold grow putRow mapBlock Go.Sort.ahead
    simp only
    rw [Array.getElem?_append_left (by simpa using hk), Array.getElem?_modify, if_neg (fun e => hne (by rw [e]))]

theorem compact_any (A : Option Addr) (c : Nat) (l : List Int) (w : World) (base : Nat) (h : RowJ w base A c l) (hl : 0 < l.length) (hn : l.length ≤ 1048576) :
    Calls Try.prog 120 #[.slice A l.length c] w fun e w' => e = .returned (.slice A (Lib.compact l).length c) ∧ RowJ w' base A c (Lib.compact l) ∧ w.grownBy w' (rowOf A) := by
  obtain ⟨g, cs, rfl, hb, hbk, hcap, hc⟩ := h
  have hcl := Lib.compact_length_le l
  have hcs : l.length ≤ cs.length := by
    have := (List.getElem?_eq_some_iff.1 (hc (l.length - 1) _ (List.getElem?_eq_getElem (by omega)))).1
    omega
  refine (Try.slices_Compact_int g 0 c l w (RowJ.holds hbk hc) (by omega) hcap).mono ?_
  rintro e w' ⟨he, n, rfl⟩
  obtain ⟨⟨cs', hb', hc'⟩, hg⟩ := put_row hbk (Lib.compact l ++ List.replicate (l.length - (Lib.compact l).length) 0) (by simp; omega) n #[]
  rw [grow_empty] at hb' hg
  exact ⟨he, ⟨g, cs', rfl, hb, hb', by omega, fun k x hx => hc' k x (by rw [List.getElem?_append_left (List.getElem?_eq_some_iff.1 hx).1]; exact hx)⟩, hg⟩

end Go.Proofs.Ytnmekcifbmcdpaa

/- Contracts: equal neighbours once, by the program: the library's Compact at a slice of the call's own. -/
namespace Go.Proofs.Ytnmekcifbmcdpaa
open Go.RowKit Go.Sort

theorem put_rowV {w : World} {g o : Nat} {cs : List Value} (hb : Bk w g 3 cs) (d : List Int) (hd : o + d.length ≤ cs.length) (n : Nat) :
    (∃ cs', cs'.length = cs.length ∧ Bk (putRow (Value.int .i64) (Go.Sort.ahead w n) g o d.toArray) g 3 cs' ∧ ∀ (k : Nat) (x : Int), d[k]? = some x → cs'[o + k]? = some (.int .i64 x)) ∧ w.grownBy (putRow (Value.int .i64) (Go.Sort.ahead w n) g o d.toArray) (some g) := by
  have hlt := hb.lt
  have hh : w.heap[g]? = some (.cells cs.toArray 3 (0, 0)) := hb
  refine ⟨⟨(putCells (Value.int .i64) o d.toArray cs.toArray).toList, by simp [putCells], ?_, fun k x hx => ?_⟩, ⟨rfl, rfl, rfl, ?_, fun k hk hne => ?_⟩⟩
  · unfold Bk putRow mapBlock Go.Sort.ahead
    simp only
    rw [Array.getElem?_modify, if_pos rfl, hh]
    simp [onCells]
  · have hk : k < d.length := (List.getElem?_eq_some_iff.1 hx).1
    simp only [putCells]
    rw [Array.getElem?_toList, Array.getElem?_mapIdx]
    have hk2 : o + k < cs.toArray.size := by simp; omega
    rw [Array.getElem?_eq_getElem hk2]
    simp only [Option.map_some]
    rw [if_pos (by simp; omega)]
    have : d[k] = x := (List.getElem?_eq_some_iff.1 hx).2
    simp [hk, this]
  · simp [putRow, mapBlock, Go.Sort.ahead]
  · unfold putRow mapBlock Go.Sort.ahead
    simp only
    rw [Array.getElem?_modify, if_neg (fun e => hne (by rw [e]))]

theorem compactV_any (A : Option Addr) (c : Nat) (l : List Int) (w : World) (base : Nat) (h : OwnV w base A c l) (hn : l.length ≤ 1048576) :
    Calls Try.prog 120 #[.slice A l.length c] w fun e w' => ∃ A' c', e = .returned (.slice A' (Lib.compact l).length c') ∧ OwnV w' base A' c' (Lib.compact l) ∧ w.grownBy w' (rowOf A) := by
  by_cases hl : 0 < l.length
  · rcases h with ⟨_, _, rfl⟩ | ⟨g, o, cs, rfl, hb, hbk, h1, h2, hc⟩
    · simp at hl
    have hcl := Lib.compact_length_le l
    have hH : Holds (Value.int .i64) w g o l.toArray := fun j hj => by
      have hj' : j < l.length := by simpa using hj
      refine ⟨?_, hbk.free _⟩
      rw [hbk.cell, hc j l[j] (List.getElem?_eq_getElem hj')]
      simp [hj']
    refine (Try.slices_Compact_int g o c l w hH (by omega) h2).mono ?_
    rintro e w' ⟨he, n, rfl⟩
    obtain ⟨⟨cs', hcl', hb', hc'⟩, hg⟩ := put_rowV (o := o) hbk (Lib.compact l ++ List.replicate (l.length - (Lib.compact l).length) 0) (by simp; omega) n
    exact ⟨_, c, he, .inr ⟨g, o, cs', rfl, hb, hb', by omega, by omega, fun k x hx => hc' k x (by rw [List.getElem?_append_left (List.getElem?_eq_some_iff.1 hx).1]; exact hx)⟩, hg⟩
  · have hl0 : l = [] := List.eq_nil_of_length_eq_zero (by omega)
    subst hl0
    refine (Try.slices_Compact_int_empty A c w).mono ?_
    rintro e w' ⟨he, rfl⟩
    exact ⟨A, c, he, h, World.grownBy.refl _ _⟩

end Go.Proofs.Ytnmekcifbmcdpaa

/- Contracts: equal neighbours once, and copies, by the program. -/
namespace Go.Proofs.Ytnmekcifbmcdpaa
open Go.RowKit

set_option maxRecDepth 100000 in
set_option maxHeartbeats 6400000 in
theorem implStem_once (R : Option Addr) (cR : Nat) (q z : List Int) (xa xb : Int) (n m : Int) (w : World) (base : Nat) (ha : OwnV w base R cR q) (hbase : base ≤ w.heap.size) (lq : q.length ≤ 65536) (iq : Items q) (hF : Hid (z = Lib.compact q)) :
    Calls Try.prog 88 #[.agg #[.int .i64 13, .int .i64 xa, .int .i64 xb, .int .i64 n, .int .i64 m], .slice R q.length cR] w fun e w' => ∃ R' c', e = .returned (.slice R' z.length c') ∧ OwnV w' base R' c' z ∧ w.grownBy w' (rowOf R) := by
  have _u1 := lq
  have _u2 := iq
  have _u3 := hbase
  clear _u1 _u2 _u3
  obtain ⟨w3, hW3⟩ : ∃ w3 : World, w3 = w.alloc (.cells #[.int .i64 13, .int .i64 xa, .int .i64 xb, .int .i64 n, .int .i64 m] 102) := ⟨_, rfl⟩
  have hb2 : Below w.heap.size w w3 := by rw [hW3]; exact (Below.refl _ _).alloc (Nat.le_refl _) _
  have Ho3 := Lib.hid (ha.below hb2 (Nat.le_refl _))
  have hcap := ha.len_le
  have Iq := Lib.hid iq
  have HW3 := Lib.hid hW3
  have hz3 := hb2.size
  have Hb2 := Lib.hid hb2
  have Hb3 := Lib.hid (grown_below hb2 (rowOf R))
  clear ha iq hW3 hb2
  go_enter Try.func88, Try.ntmps88
  go_wp2_with fail
  rw [← HW3.out]
  refine (compactV_any R cR q w3 base Ho3.out (by omega)).mono ?_
  rintro e w4 ⟨R4, c4, rfl, ho4, hg4⟩
  have Ho4 := Lib.hid ho4
  have Hb4 := Lib.hid (grown_of Hb3.out hg4 (.inl rfl))
  clear ho4 hg4
  go_wp2_with fail
  go_ret
  exact ⟨R4, c4, ret_slice (by rw [hF.out]), by rw [hF.out]; exact Ho4.out, Hb4.out⟩

/-- The slice at A, in whatever memory, reads as l; its address is one of a row. -/
theorem cloneI_any (g o c : Nat) (l : List Int) (w : World) (hc : ∀ (k : Nat) (x : Int), l[k]? = some x → w.cell? ⟨g, o + k, none⟩ = some (.int .i64 x)) (hn : l.length ≤ 1048576) :
    Calls Try.prog 87 #[.slice (some ⟨g, o, none⟩) l.length c] w fun e w' => ∃ A' c', e = .returned (.slice A' l.length c') ∧ OwnV w' w.heap.size A' c' l ∧ Below w.heap.size w w' := by
  refine (Try.slices_Clone_int g o l.length c l w (Nat.le_refl _) (by omega) (fun j hj => ?_)).mono ?_
  · have := hc j l[j] (List.getElem?_eq_getElem hj)
    rw [this]
    simp [hj]
  · rintro e w' ⟨v, rfl, ho, _, hb⟩
    rw [List.take_of_length_le (Nat.le_refl _)] at ho
    have hv : ∃ A' c', v = .slice A' l.length c' := by
      obtain ⟨_, ⟨h1, h2⟩ | ⟨g', cap, cur, h1, _⟩⟩ := ho
      · exact ⟨none, 0, by rw [h1, h2]⟩
      · exact ⟨_, _, h1⟩
    obtain ⟨A', c', rfl⟩ := hv
    exact ⟨A', c', rfl, OwnJ.ownV ho, hb⟩

end Go.Proofs.Ytnmekcifbmcdpaa

/- Contracts: lists out of lists, by the program (by turns). -/
namespace Go.Proofs.Ytnmekcifbmcdpaa
open Go.RowKit
set_option maxRecDepth 100000 in
set_option maxHeartbeats 3200000 in
theorem implTurned_any (A : Option Addr) (c : Nat) (a : List Int) (A2 : Option Addr) (c2 : Nat) (b : List Int) (w : World) (B : Nat) (ha : RdI w B A a) (hb : RdI w B A2 b) (hB : B ≤ w.heap.size) (hn : a.length ≤ 65536) (hn2 : b.length ≤ 65536) :
    Calls Try.prog 124 #[.slice A a.length c, .slice A2 b.length c2] w fun e w' => ∃ R cR, e = .returned (.slice R (turnL a b).length cR) ∧ OwnJ w' w.heap.size R cR (turnL a b) ∧ Below w.heap.size w w' := by
  have Ha := Lib.hid ha
  have Hb := Lib.hid hb
  clear ha hb
  go_enter Try.func124, Try.ntmps124
  by_cases hab : a.length < b.length
  · have hmax : max (a.length : Int) (b.length : Int) = (b.length : Int) := by omega
    go_wp2_with fail
    go_loopw [5, 12] (fun sl i wr => ∃ j : Nat, j ≤ b.length ∧ i = .int .i64 j ∧ (∃ R cR, sl = .slice R (turnTo a b j).length cR ∧ OwnJ wr w.heap.size R cR (turnTo a b j)) ∧ Below w.heap.size w wr) (fun _ i _ => b.length - (intOf i).toNat)
    case atStart => exact ⟨0, Nat.zero_le _, rfl, ⟨none, 0, rfl, OwnJ.nil_ _ _⟩, Below.refl _ _⟩
    case round =>
      obtain ⟨j, hj, rfl, ⟨R, cR, rfl, ho⟩, hb⟩ := hrel
      have hz := hb.size
      have hlen := turnTo_len a b j
      have Ho := Lib.hid ho
      have Hbw := Lib.hid hb
      have Ha2 := Lib.hid (Ha.out.below hb hB)
      have Hb2 := Lib.hid (Hb.out.below hb hB)
      clear ho hb
      by_cases h1 : j < a.length
      · obtain ⟨ad, x, rfl, hx, hc⟩ := Ha2.out.at_ h1
        have Hx := Lib.hid hx
        clear hx
        by_cases h2 : j < b.length
        · obtain ⟨ad2, y, rfl, hy, hc2⟩ := Hb2.out.at_ h2
          have Hy := Lib.hid hy
          clear hy hc2
          go_wp2_with (at_builtin; (first
            | (
              refine wpList_append_int rfl _ _ rfl w.heap.size R cR (turnTo a b j) x (turnTo a b j).length rfl rfl Ho.out _ rfl rfl (by omega) (by omega) ?_
              intro R2 c2' w2 ho2 hg2
              have hbb := (Hbw.out.alloc hz _).grown hg2 (by simp; omega) (fun g hg => (Ho.out.row_lt g hg).1)
              have hcy := (Hb.out.below hbb hB).val Hy.out
              have hz2 := hbb.size
              have Hbb := Lib.hid hbb
              have Ho2 := Lib.hid ho2
              clear ho2 hg2 hbb)
            | (
              refine wpList_append_int rfl _ _ rfl w.heap.size R2 c2' (turnTo a b j ++ [x]) y ((turnTo a b j).length + 1) (by simp) rfl Ho2.out _ rfl rfl (by omega) (by omega) ?_
              intro R3 c3' w3 ho3 hg3
              have Ho3 := Lib.hid ho3
              have Hg3 := Lib.hid hg3
              clear ho3 hg3)))
          go_roundw
          case rel =>
            have ht : turnTo a b (j + 1) = turnTo a b j ++ [x] ++ [y] := by simp only [turnTo, Hx.out, Hy.out]; rfl
            refine ⟨j + 1, by omega, by go_num, ⟨R3, c3', by rw [ht]; simp, by rw [ht]; exact Ho3.out⟩, ?_⟩
            exact (Hbb.out.alloc hz2 _).grown Hg3.out (by simp; omega) (fun g hg => (Ho2.out.row_lt g hg).1)
          case measure => simp [intOf]; omega
        · exfalso
          omega
      · by_cases h2 : j < b.length
        · obtain ⟨ad2, y, rfl, hy, hc2⟩ := Hb2.out.at_ h2
          have Hy := Lib.hid hy
          clear hy
          go_wp2_with (at_builtin; go_must (refine wpList_append_int rfl _ _ rfl w.heap.size R cR (turnTo a b j) y (turnTo a b j).length rfl rfl Ho.out _ rfl rfl (by omega) (by omega) ?_; intro R2 c2' w2 ho2 hg2); have hbb := (Hbw.out.alloc hz _).grown hg2 (by simp; omega) (fun g hg => (Ho.out.row_lt g hg).1); have hz2 := hbb.size; have Hbb := Lib.hid hbb; have Ho2 := Lib.hid ho2; clear ho2 hg2 hbb)
          go_roundw
          case rel =>
            have ht : turnTo a b (j + 1) = turnTo a b j ++ [y] := by simp only [turnTo, Hy.out, List.getElem?_eq_none (show a.length ≤ j by omega)]; simp
            exact ⟨j + 1, by omega, by go_num, ⟨R2, c2', by rw [ht]; simp, by rw [ht]; exact Ho2.out⟩, Hbb.out⟩
          case measure => simp [intOf]; omega
        · have hjm : j = b.length := by omega
          go_wp2_with fail
          go_ret
          have ht : turnL a b = turnTo a b j := by rw [turnL, hjm]; congr 1; omega
          exact ⟨R, cR, ret_slice (by rw [ht]), by rw [ht]; exact Ho.out, Hbw.out⟩
  · have hmax : max (a.length : Int) (b.length : Int) = (a.length : Int) := by omega
    go_wp2_with fail
    go_loopw [5, 12] (fun sl i wr => ∃ j : Nat, j ≤ a.length ∧ i = .int .i64 j ∧ (∃ R cR, sl = .slice R (turnTo a b j).length cR ∧ OwnJ wr w.heap.size R cR (turnTo a b j)) ∧ Below w.heap.size w wr) (fun _ i _ => a.length - (intOf i).toNat)
    case atStart => exact ⟨0, Nat.zero_le _, rfl, ⟨none, 0, rfl, OwnJ.nil_ _ _⟩, Below.refl _ _⟩
    case round =>
      obtain ⟨j, hj, rfl, ⟨R, cR, rfl, ho⟩, hb⟩ := hrel
      have hz := hb.size
      have hlen := turnTo_len a b j
      have Ho := Lib.hid ho
      have Hbw := Lib.hid hb
      have Ha2 := Lib.hid (Ha.out.below hb hB)
      have Hb2 := Lib.hid (Hb.out.below hb hB)
      clear ho hb
      by_cases h1 : j < a.length
      · obtain ⟨ad, x, rfl, hx, hc⟩ := Ha2.out.at_ h1
        have Hx := Lib.hid hx
        clear hx
        by_cases h2 : j < b.length
        · obtain ⟨ad2, y, rfl, hy, hc2⟩ := Hb2.out.at_ h2
          have Hy := Lib.hid hy
          clear hy hc2
          go_wp2_with (at_builtin; (first
            | (
              refine wpList_append_int rfl _ _ rfl w.heap.size R cR (turnTo a b j) x (turnTo a b j).length rfl rfl Ho.out _ rfl rfl (by omega) (by omega) ?_
              intro R2 c2' w2 ho2 hg2
              have hbb := (Hbw.out.alloc hz _).grown hg2 (by simp; omega) (fun g hg => (Ho.out.row_lt g hg).1)
              have hcy := (Hb.out.below hbb hB).val Hy.out
              have hz2 := hbb.size
              have Hbb := Lib.hid hbb
              have Ho2 := Lib.hid ho2
              clear ho2 hg2 hbb)
            | (
              refine wpList_append_int rfl _ _ rfl w.heap.size R2 c2' (turnTo a b j ++ [x]) y ((turnTo a b j).length + 1) (by simp) rfl Ho2.out _ rfl rfl (by omega) (by omega) ?_
              intro R3 c3' w3 ho3 hg3
              have Ho3 := Lib.hid ho3
              have Hg3 := Lib.hid hg3
              clear ho3 hg3)))
          go_roundw
          case rel =>
            have ht : turnTo a b (j + 1) = turnTo a b j ++ [x] ++ [y] := by simp only [turnTo, Hx.out, Hy.out]; rfl
            refine ⟨j + 1, by omega, by go_num, ⟨R3, c3', by rw [ht]; simp, by rw [ht]; exact Ho3.out⟩, ?_⟩
            exact (Hbb.out.alloc hz2 _).grown Hg3.out (by simp; omega) (fun g hg => (Ho2.out.row_lt g hg).1)
          case measure => simp [intOf]; omega
        · go_wp2_with (at_builtin; go_must (refine wpList_append_int rfl _ _ rfl w.heap.size R cR (turnTo a b j) x (turnTo a b j).length rfl rfl Ho.out _ rfl rfl (by omega) (by omega) ?_; intro R2 c2' w2 ho2 hg2); have hbb := (Hbw.out.alloc hz _).grown hg2 (by simp; omega) (fun g hg => (Ho.out.row_lt g hg).1); have hz2 := hbb.size; have Hbb := Lib.hid hbb; have Ho2 := Lib.hid ho2; clear ho2 hg2 hbb)
          go_roundw
          case rel =>
            have ht : turnTo a b (j + 1) = turnTo a b j ++ [x] := by simp only [turnTo, Hx.out, List.getElem?_eq_none (show b.length ≤ j by omega)]; simp
            exact ⟨j + 1, by omega, by go_num, ⟨R2, c2', by rw [ht]; simp, by rw [ht]; exact Ho2.out⟩, Hbb.out⟩
          case measure => simp [intOf]; omega
      · by_cases h2 : j < b.length
        · exfalso
          omega
        · have hjm : j = a.length := by omega
          go_wp2_with fail
          go_ret
          have ht : turnL a b = turnTo a b j := by rw [turnL, hjm]; congr 1; omega
          exact ⟨R, cR, ret_slice (by rw [ht]), by rw [ht]; exact Ho.out, Hbw.out⟩

end Go.Proofs.Ytnmekcifbmcdpaa

/- Contracts: lists out of lists, by the program (at equal places). -/
namespace Go.Proofs.Ytnmekcifbmcdpaa
open Go.RowKit
set_option maxRecDepth 100000 in
set_option maxHeartbeats 3200000 in
theorem implZipped_any (A : Option Addr) (c : Nat) (a : List Int) (A2 : Option Addr) (c2 : Nat) (b : List Int) (w : World) (B : Nat) (ha : RdI w B A a) (hb : RdI w B A2 b) (hB : B ≤ w.heap.size) (hn : a.length ≤ 65536) (hn2 : b.length ≤ 65536) (ia : Items a) (ib : Items b) :
    Calls Try.prog 122 #[.slice A a.length c, .slice A2 b.length c2] w fun e w' => ∃ R cR, e = .returned (.slice R (zipL a b).length cR) ∧ OwnJ w' w.heap.size R cR (zipL a b) ∧ Below w.heap.size w w' := by
  have Ha := Lib.hid ha
  have Hb := Lib.hid hb
  have Ia := Lib.hid ia
  have Ib := Lib.hid ib
  have hzl := zipL_len a b
  clear ha hb ia ib
  go_enter Try.func122, Try.ntmps122
  by_cases hab : b.length < a.length
  · have hmin : min (a.length : Int) (b.length : Int) = (b.length : Nat) := by omega
    go_wp2_with fail
    go_loopw [5, 12] (fun sl i wr => ∃ j : Nat, j ≤ b.length ∧ i = .int .i64 j ∧ (∃ R cR, sl = .slice R j cR ∧ OwnJ wr w.heap.size R cR ((zipL a b).take j)) ∧ Below w.heap.size w wr) (fun _ i _ => b.length - (intOf i).toNat)
    case atStart => exact ⟨0, Nat.zero_le _, rfl, ⟨none, 0, rfl, OwnJ.nil_ _ _⟩, Below.refl _ _⟩
    case round =>
      obtain ⟨j, hj, rfl, ⟨R, cR, rfl, ho⟩, hb⟩ := hrel
      have hz := hb.size
      have Ho := Lib.hid ho
      have Hbw := Lib.hid hb
      have Ha2 := Lib.hid (Ha.out.below hb hB)
      have Hb2 := Lib.hid (Hb.out.below hb hB)
      clear ho hb
      by_cases h0 : j < b.length
      · have h1 : j < a.length := by omega
        have h2 : j < b.length := by omega
        obtain ⟨ad, x, rfl, hx, hc⟩ := Ha2.out.at_ h1
        obtain ⟨ad2, y, rfl, hy, hc2⟩ := Hb2.out.at_ h2
        have hxi := Ia.out.get hx
        have hyi := Ib.out.get hy
        have hwr : IntKind.i64.wrap (x + y) = x + y := IntWalk.i64_in _ (by omega)
        have Hzg := Lib.hid (zipL_get hx hy)
        have Hx := Lib.hid hx
        have Hy := Lib.hid hy
        clear hx hy
        go_wp2_with fail
        have Ho' : Hid (OwnJ wr.drew w.heap.size R cR ((zipL a b).take j)) := Lib.hid Ho.out
        have hl2 : ((zipL a b).take j).length = j := by rw [List.length_take]; omega
        go_region_held3 (fun w' => w'.cell? (ad.add j) = some (.int .i64 x) ∧ w'.cell? (ad2.add j) = some (.int .i64 y)) (go_keep)
          (first
            | (
              refine step_append_int rfl _ _ rfl w.heap.size R cR ((zipL a b).take j) (rst (x + y)) j hl2 rfl Ho'.out _ rfl rfl (by omega) (by first | omega | (simp; omega)) ?_
              intro R2 c2' w2 ho2 hg2
              have hbb := (Hbw.out.drew.alloc hz _).grown hg2 (by simp; omega) (fun g hg => (Ho.out.row_lt g hg).1)
              have ks := And.intro ((Ha.out.below hbb hB).val Hx.out) ((Hb.out.below hbb hB).val Hy.out)
              have Hbb := Lib.hid hbb
              have Ho2 := Lib.hid ho2
              clear ho2 hg2 hbb)
            | (
              go_at_call 136
              refine (implRest_any (x + y) _ (by omega)).mono ?_
              rintro e w1 ⟨rfl, rfl⟩))
        all_goals
          go_wp2_with fail
          go_roundw
          case rel =>
            exact ⟨j + 1, by omega, by go_num, ⟨R2, c2', rfl, by rw [take_succ_of Hzg.out]; exact Ho2.out⟩, Hbb.out⟩
          case measure => simp [intOf]; omega
      · have hjm : j = b.length := by omega
        have HO := Ho.out
        rw [List.take_of_length_le (by omega)] at HO
        have HO := Lib.hid HO
        go_wp2_with fail
        go_ret
        exact ⟨R, cR, ret_slice (by omega), HO.out, Hbw.out⟩
  · have hmin : min (a.length : Int) (b.length : Int) = (a.length : Nat) := by omega
    go_wp2_with fail
    go_loopw [5, 12] (fun sl i wr => ∃ j : Nat, j ≤ a.length ∧ i = .int .i64 j ∧ (∃ R cR, sl = .slice R j cR ∧ OwnJ wr w.heap.size R cR ((zipL a b).take j)) ∧ Below w.heap.size w wr) (fun _ i _ => a.length - (intOf i).toNat)
    case atStart => exact ⟨0, Nat.zero_le _, rfl, ⟨none, 0, rfl, OwnJ.nil_ _ _⟩, Below.refl _ _⟩
    case round =>
      obtain ⟨j, hj, rfl, ⟨R, cR, rfl, ho⟩, hb⟩ := hrel
      have hz := hb.size
      have Ho := Lib.hid ho
      have Hbw := Lib.hid hb
      have Ha2 := Lib.hid (Ha.out.below hb hB)
      have Hb2 := Lib.hid (Hb.out.below hb hB)
      clear ho hb
      by_cases h0 : j < a.length
      · have h1 : j < a.length := by omega
        have h2 : j < b.length := by omega
        obtain ⟨ad, x, rfl, hx, hc⟩ := Ha2.out.at_ h1
        obtain ⟨ad2, y, rfl, hy, hc2⟩ := Hb2.out.at_ h2
        have hxi := Ia.out.get hx
        have hyi := Ib.out.get hy
        have hwr : IntKind.i64.wrap (x + y) = x + y := IntWalk.i64_in _ (by omega)
        have Hzg := Lib.hid (zipL_get hx hy)
        have Hx := Lib.hid hx
        have Hy := Lib.hid hy
        clear hx hy
        go_wp2_with fail
        have Ho' : Hid (OwnJ wr.drew w.heap.size R cR ((zipL a b).take j)) := Lib.hid Ho.out
        have hl2 : ((zipL a b).take j).length = j := by rw [List.length_take]; omega
        go_region_held3 (fun w' => w'.cell? (ad.add j) = some (.int .i64 x) ∧ w'.cell? (ad2.add j) = some (.int .i64 y)) (go_keep)
          (first
            | (
              refine step_append_int rfl _ _ rfl w.heap.size R cR ((zipL a b).take j) (rst (x + y)) j hl2 rfl Ho'.out _ rfl rfl (by omega) (by first | omega | (simp; omega)) ?_
              intro R2 c2' w2 ho2 hg2
              have hbb := (Hbw.out.drew.alloc hz _).grown hg2 (by simp; omega) (fun g hg => (Ho.out.row_lt g hg).1)
              have ks := And.intro ((Ha.out.below hbb hB).val Hx.out) ((Hb.out.below hbb hB).val Hy.out)
              have Hbb := Lib.hid hbb
              have Ho2 := Lib.hid ho2
              clear ho2 hg2 hbb)
            | (
              go_at_call 136
              refine (implRest_any (x + y) _ (by omega)).mono ?_
              rintro e w1 ⟨rfl, rfl⟩))
        all_goals
          go_wp2_with fail
          go_roundw
          case rel =>
            exact ⟨j + 1, by omega, by go_num, ⟨R2, c2', rfl, by rw [take_succ_of Hzg.out]; exact Ho2.out⟩, Hbb.out⟩
          case measure => simp [intOf]; omega
      · have hjm : j = a.length := by omega
        have HO := Ho.out
        rw [List.take_of_length_le (by omega)] at HO
        have HO := Lib.hid HO
        go_wp2_with fail
        go_ret
        exact ⟨R, cR, ret_slice (by omega), HO.out, Hbw.out⟩

end Go.Proofs.Ytnmekcifbmcdpaa
