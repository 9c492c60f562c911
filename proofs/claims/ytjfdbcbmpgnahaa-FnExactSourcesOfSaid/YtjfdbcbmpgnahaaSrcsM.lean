/- Plain mathematics: the sources of a pipe, ascending, each once. -/
import Derived.Test.YtjfdbcbmpgnahaaJoinM
import Derived.Lib.SlicesCompact
namespace Go.Proofs.Ytjfdbcbmpgnahaa
open Go.Lib

/-- Whether a pipe has the source s. -/
def srcIn (l : List Nd) (s : Int) : Bool := l.any (fun x => x.k == 0 && x.n == s)
/-- The sources less than s, ascending. -/
def srcs (l : List Nd) (s : Nat) : List Int := ((List.range s).filter (fun s : Nat => srcIn l (s : Int))).map (fun s : Nat => (s : Int))
/-- The sources in the order of the nodes. -/
def nsOf (l : List Nd) : List Int := (l.filter (fun x => x.k == 0)).map (·.n)
structure SrcsOf (l : List Nd) (q : List Int) : Prop where
  no : pipeOk l = false → q = []
  yes : pipeOk l = true → q = srcs l 3

theorem srcs_succ (l : List Nd) (s : Nat) : srcs l (s + 1) = srcs l s ++ (if srcIn l s then [(s : Int)] else []) := by
  unfold srcs
  rw [List.range_succ, List.filter_append, List.map_append]
  congr 1
  by_cases h : srcIn l s <;> simp [h]
theorem srcs_len (l : List Nd) (s : Nat) : (srcs l s).length ≤ s := by
  unfold srcs
  rw [List.length_map]
  have := List.length_filter_le (fun s : Nat => srcIn l (s : Int)) (List.range s)
  simpa using this
theorem nsOf_succ {l : List Nd} {k : Nat} {x : Nd} (h : l[k]? = some x) : nsOf (l.take (k + 1)) = nsOf (l.take k) ++ (if x.k == 0 then [x.n] else []) := by
  unfold nsOf
  rw [take_succ_of h, List.filter_append, List.map_append]
  congr 1
  by_cases e : (x.k == 0) = true
  · simp [e]
  · simp [e]
theorem nsOf_len (l : List Nd) (k : Nat) : (nsOf (l.take k)).length ≤ k := by
  unfold nsOf
  rw [List.length_map]
  have := List.length_filter_le (fun x : Nd => x.k == 0) (l.take k)
  have := List.length_take_le k l
  omega

/-- Two ascending lists with the same members are one. -/
theorem asc_unique : ∀ (a b : List Int), a.Pairwise (· < ·) → b.Pairwise (· < ·) → (∀ x, x ∈ a ↔ x ∈ b) → a = b := by
  intro a
  induction a with
  | nil =>
    intro b _ _ h
    cases b with
    | nil => rfl
    | cons y b => exact absurd ((h y).2 (by simp)) (by simp)
  | cons x a ih =>
    intro b ha hb h
    cases b with
    | nil => exact absurd ((h x).1 (by simp)) (by simp)
    | cons y b =>
      rw [List.pairwise_cons] at ha hb
      have hxy : x = y := by
        have h1 := (h x).1 (by simp)
        have h2 := (h y).2 (by simp)
        rcases List.mem_cons.1 h1 with e | e
        · exact e
        · rcases List.mem_cons.1 h2 with f | f
          · exact f.symm
          · have := ha.1 y f
            have := hb.1 x e
            omega
      subst hxy
      rw [ih b ha.2 hb.2 fun z => ?_]
      constructor
      · intro hz
        rcases List.mem_cons.1 ((h z).1 (List.mem_cons_of_mem _ hz)) with e | e
        · have := ha.1 z hz; omega
        · exact e
      · intro hz
        rcases List.mem_cons.1 ((h z).2 (List.mem_cons_of_mem _ hz)) with e | e
        · have := hb.1 z hz; omega
        · exact e

theorem compact_part (d : Array Int) (hs : ∀ i j, i ≤ j → j < d.size → d[i]! ≤ d[j]!) : ∀ m, m ≤ d.size →
    (∀ x, x ∈ compactUpTo d m ↔ ∃ j, j < m ∧ d[j]! = x) ∧ (compactUpTo d m).Pairwise (· < ·) := by
  intro m
  induction m with
  | zero => intro _; simp [compactUpTo]
  | succ m ih =>
    intro hm
    obtain ⟨h1, h2⟩ := ih (by omega)
    rw [compactUpTo_succ]
    by_cases hk : keeps d m = true
    · rw [if_pos hk]
      refine ⟨fun x => ?_, List.pairwise_append.2 ⟨h2, List.pairwise_singleton _ _, fun a ha b hb => ?_⟩⟩
      · rw [List.mem_append, h1, List.mem_singleton]
        constructor
        · rintro (⟨j, hj, e⟩ | e)
          · exact ⟨j, by omega, e⟩
          · exact ⟨m, by omega, e.symm⟩
        · rintro ⟨j, hj, e⟩
          by_cases hjm : j = m
          · subst hjm; exact .inr e.symm
          · exact .inl ⟨j, by omega, e⟩
      · rw [List.mem_singleton.1 hb]
        obtain ⟨j, hj, e⟩ := (h1 a).1 ha
        have e1 := hs j (m - 1) (by omega) (by omega)
        have e2 := hs (m - 1) m (by omega) (by omega)
        simp only [keeps, decide_eq_true_eq] at hk
        have : m ≠ 0 := by omega
        have hne := hk.resolve_left this
        omega
    · rw [if_neg hk, List.append_nil]
      refine ⟨fun x => ?_, h2⟩
      rw [h1]
      constructor
      · rintro ⟨j, hj, e⟩; exact ⟨j, by omega, e⟩
      · rintro ⟨j, hj, e⟩
        by_cases hjm : j = m
        · subst hjm
          simp only [keeps, decide_eq_true_eq, not_or] at hk
          have h0 : 0 < j := by omega
          exact ⟨j - 1, by omega, by have := Classical.not_not.1 hk.2; rw [← this]; exact e⟩
        · exact ⟨j, by omega, e⟩

theorem mem_arr {d : List Int} {x : Int} : x ∈ d ↔ ∃ j, j < d.length ∧ d.toArray[j]! = x := by
  rw [List.mem_iff_getElem]
  constructor
  · rintro ⟨j, hj, e⟩; exact ⟨j, hj, by simp [hj, e]⟩
  · rintro ⟨j, hj, e⟩; exact ⟨j, hj, by simpa [hj] using e⟩

theorem sorted_compact (zs : List Int) : (∀ x, x ∈ compact (zs.mergeSort fun x y => decide (x ≤ y)) ↔ x ∈ zs) ∧ (compact (zs.mergeSort fun x y => decide (x ≤ y))).Pairwise (· < ·) := by
  obtain ⟨d, hd⟩ : ∃ d, d = zs.mergeSort fun x y => decide (x ≤ y) := ⟨_, rfl⟩
  have hp : d.Pairwise (fun a b => decide (a ≤ b) = true) := by
    rw [hd]
    exact List.pairwise_mergeSort (fun a b c h1 h2 => by simp at *; omega) (fun a b => by simp; omega) zs
  have hs : ∀ i j, i ≤ j → j < d.toArray.size → d.toArray[i]! ≤ d.toArray[j]! := fun i j hij hj => by
    have hj' : j < d.length := by simpa using hj
    have hi' : i < d.length := by omega
    simp only [List.getElem!_toArray, getElem!_pos d i hi', getElem!_pos d j hj']
    by_cases e : i = j
    · subst e; exact Int.le_refl _
    · have := List.pairwise_iff_getElem.1 hp i j hi' hj' (by omega)
      simpa using this
  obtain ⟨h1, h2⟩ := compact_part d.toArray hs d.length (by simp)
  rw [← hd]
  refine ⟨fun x => ?_, h2⟩
  unfold compact
  rw [h1, ← mem_arr, hd, List.mem_mergeSort]

theorem srcs_asc (l : List Nd) (s : Nat) : (srcs l s).Pairwise (· < ·) := by
  unfold srcs
  rw [List.pairwise_map]
  have := (List.pairwise_lt_range (n := s)).filter (fun s : Nat => srcIn l (s : Int))
  exact this.imp (fun h => by omega)

theorem srcs_of_ns {l : List Nd} (h : pipeOk l = true) : compact ((nsOf l).mergeSort fun x y => decide (x ≤ y)) = srcs l 3 := by
  obtain ⟨h1, h2⟩ := sorted_compact (nsOf l)
  refine asc_unique _ _ h2 (srcs_asc l 3) fun x => ?_
  rw [h1]
  simp only [nsOf, srcs, srcIn, List.mem_map, List.mem_filter, List.mem_range, List.any_eq_true, Bool.and_eq_true, beq_iff_eq]
  constructor
  · rintro ⟨y, ⟨hy, hk⟩, e⟩
    obtain ⟨i, hi⟩ := List.getElem?_of_mem hy
    obtain ⟨s, hs, hs3⟩ := source_n h hi hk
    exact ⟨s, ⟨hs3, y, hy, hk, hs⟩, by omega⟩
  · rintro ⟨s, ⟨hs3, y, hy, hk, hn⟩, e⟩
    exact ⟨y, ⟨hy, hk⟩, by omega⟩

end Go.Proofs.Ytjfdbcbmpgnahaa
