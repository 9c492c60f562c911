/- Plain mathematics: marking the nodes that are below tells the same as counting them. -/
import Derived.Test.YtjkieedomljelaaPipeM
namespace Go.Proofs.Ytjkieedomljelaa

theorem inR_toNat {a : Int} {k : Nat} (h : inR a 0 ((k : Int) - 1) = true) : ∃ j : Nat, a = (j : Int) ∧ j < k := by
  obtain ⟨h1, h2⟩ := inR_iff.1 h
  exact ⟨a.toNat, by omega, by omega⟩
theorem one_eq (j : Nat) : one ((j : Int) == (j : Int)) = 1 := by simp [one]
theorem one_ne {i j : Int} (h : i ≠ j) : one (i == j) = 0 := by simp [one, h]
theorem one_yes {i j : Int} (h : i = j) : one (i == j) = 1 := by simp [one, h]

theorem marks_mark {l : List Nd} {k n : Nat} {x : Nd} (hx : l[k]? = some x) {j : Nat} (ha : x.a = (j : Int)) (hb : x.b = -1) : (marks l k n).set j true = marks l (k + 1) n := by
  apply List.ext_getElem?
  intro i
  by_cases hi : i < n
  · rw [marks_get _ _ hi, useOf_succ hx, ha, hb, one_ne (i := -1) (by omega)]
    by_cases hij : i = j
    · subst hij
      rw [List.getElem?_set_self (by rw [marks_len]; exact hi), one_eq]
      simp
    · rw [List.getElem?_set_ne (by omega), marks_get _ _ hi, one_ne (by omega)]
      simp
  · rw [List.getElem?_eq_none (by rw [List.length_set, marks_len]; omega), List.getElem?_eq_none (by rw [marks_len]; omega)]
theorem marks_mark2 {l : List Nd} {k n : Nat} {x : Nd} (hx : l[k]? = some x) {j j2 : Nat} (ha : x.a = (j : Int)) (hb : x.b = (j2 : Int)) : ((marks l k n).set j true).set j2 true = marks l (k + 1) n := by
  apply List.ext_getElem?
  intro i
  by_cases hi : i < n
  · rw [marks_get _ _ hi, useOf_succ hx, ha, hb]
    by_cases hij2 : i = j2
    · subst hij2
      rw [List.getElem?_set_self (by rw [List.length_set, marks_len]; exact hi), one_eq]
      simp
    · rw [List.getElem?_set_ne (by omega), one_ne (i := (j2 : Int)) (by omega)]
      by_cases hij : i = j
      · subst hij
        rw [List.getElem?_set_self (by rw [marks_len]; exact hi), one_eq]
        simp
      · rw [List.getElem?_set_ne (by omega), marks_get _ _ hi, one_ne (by omega)]
        simp
  · rw [List.getElem?_eq_none (by rw [List.length_set, List.length_set, marks_len]; omega), List.getElem?_eq_none (by rw [marks_len]; omega)]
theorem marks_none {l : List Nd} {k n : Nat} {x : Nd} (hx : l[k]? = some x) (ha : x.a = -1) (hb : x.b = -1) : marks l k n = marks l (k + 1) n := by
  apply List.ext_getElem?
  intro i
  by_cases hi : i < n
  · rw [marks_get _ _ hi, marks_get _ _ hi, useOf_succ hx, ha, hb, one_ne (i := -1) (by omega)]
    simp
  · rw [List.getElem?_eq_none (by rw [marks_len]; omega), List.getElem?_eq_none (by rw [marks_len]; omega)]

/-- No node is below two. -/
def Single (l : List Nd) (k : Nat) : Prop := ∀ j : Nat, useOf (l.take k) (j : Int) ≤ 1

theorem place_yes {l : List Nd} {k : Nat} {x : Nd} (hx : l[k]? = some x) (hs : Single l k) (h : placesOk x (marks l k l.length) k = true) :
    kidsOk x k = true ∧ marked x (marks l k l.length) = marks l (k + 1) l.length ∧ Single l (k + 1) := by
  have hk : k < l.length := (List.getElem?_eq_some_iff.1 hx).1
  rcases arity_cases x.k with e | e | e | e
  · simp [placesOk, e] at h
    obtain ⟨h1, h2⟩ := h
    refine ⟨by simp [kidsOk, e, h1, h2], by simp only [marked, e]; exact marks_none hx h1 h2, fun j => ?_⟩
    rw [useOf_succ hx, h1, h2, one_ne (by omega)]
    exact hs j
  · simp [placesOk, e] at h
    obtain ⟨⟨h1, h2⟩, h3⟩ := h
    obtain ⟨j, hj, hjk⟩ := inR_toNat h1
    refine ⟨by simp [kidsOk, e, h1, h3], ?_, fun i => ?_⟩
    · simp only [marked, e]
      show (marks l k l.length).set x.a.toNat true = _
      rw [hj, Int.toNat_natCast]
      exact marks_mark hx hj h3
    · rw [hj, Int.toNat_natCast, marks_get _ _ (by omega)] at h2
      simp at h2
      rw [useOf_succ hx, h3, hj, one_ne (i := -1) (by omega)]
      by_cases hij : i = j
      · subst hij; rw [h2, one_eq]; omega
      · rw [one_ne (by omega)]; exact hs i
  · simp [placesOk, e] at h
    obtain ⟨⟨h1, h2⟩, h3, h4⟩ := h
    obtain ⟨j, hj, hjk⟩ := inR_toNat h1
    obtain ⟨j2, hj2, hjk2⟩ := inR_toNat h3
    rw [hj, hj2, Int.toNat_natCast, Int.toNat_natCast] at h4
    rw [hj, Int.toNat_natCast, marks_get _ _ (by omega)] at h2
    simp at h2
    have hne : j ≠ j2 := by
      intro e2
      subst e2
      rw [List.getElem?_set_self (by rw [marks_len]; omega)] at h4
      simp at h4
    rw [List.getElem?_set_ne hne, marks_get _ _ (by omega)] at h4
    simp at h4
    refine ⟨by simp [kidsOk, e]; exact ⟨⟨h1, h3⟩, by omega⟩, ?_, fun i => ?_⟩
    · simp only [marked, e]
      show ((marks l k l.length).set x.a.toNat true).set x.b.toNat true = _
      rw [hj, hj2, Int.toNat_natCast, Int.toNat_natCast]
      exact marks_mark2 hx hj hj2
    · rw [useOf_succ hx, hj, hj2]
      by_cases hij : i = j
      · subst hij; rw [h2, one_eq, one_ne (by omega)]; omega
      · rw [one_ne (i := (j : Int)) (by omega)]
        by_cases hij2 : i = j2
        · subst hij2; rw [h4, one_eq]; omega
        · rw [one_ne (by omega)]; exact hs i
  · simp [placesOk, e] at h

theorem twice_no {l : List Nd} {k : Nat} {x : Nd} (hx : l[k]? = some x) {j : Nat} (hj : j < k) (h1 : 1 ≤ useOf (l.take k) (j : Int)) (h2 : x.a = (j : Int) ∨ x.b = (j : Int)) : ¬ PipeOk l := fun hp => by
  have hk : k < l.length := (List.getElem?_eq_some_iff.1 hx).1
  have h3 := hp.uses j (by omega)
  have h4 := useOf_take_le l (k + 1) (j : Int)
  rw [useOf_succ hx] at h4
  rcases h2 with h2 | h2 <;> rw [one_yes h2] at h4 <;> omega

theorem place_no {l : List Nd} {k : Nat} {x : Nd} (hx : l[k]? = some x) (h : placesOk x (marks l k l.length) k = false) : ¬ PipeOk l := fun hp => by
  have hk : k < l.length := (List.getElem?_eq_some_iff.1 hx).1
  have hn := hp.node k x hx
  simp only [nodeOk, Bool.and_eq_true] at hn
  have hkids := hn.2
  rcases arity_cases x.k with e | e | e | e
  · simp [kidsOk, e] at hkids
    simp [placesOk, e, hkids] at h
  · simp [kidsOk, e] at hkids
    obtain ⟨h1, h2⟩ := hkids
    obtain ⟨j, hj, hjk⟩ := inR_toNat h1
    simp [placesOk, e, h1, h2] at h
    rw [hj, Int.toNat_natCast, marks_get _ _ (by omega)] at h
    simp at h
    exact twice_no hx hjk (by omega) (.inl hj) hp
  · simp [kidsOk, e] at hkids
    obtain ⟨⟨h1, h2⟩, h3⟩ := hkids
    obtain ⟨j, hj, hjk⟩ := inR_toNat h1
    obtain ⟨j2, hj2, hjk2⟩ := inR_toNat h2
    have hne : j ≠ j2 := by rintro rfl; exact h3 (hj.trans hj2.symm)
    simp [placesOk, e, h1, h2] at h
    rw [hj, hj2, Int.toNat_natCast, Int.toNat_natCast, marks_get _ _ (by omega), List.getElem?_set_ne hne, marks_get _ _ (by omega)] at h
    simp at h
    by_cases hz : useOf (l.take k) (j : Int) = 0
    · exact twice_no hx hjk2 (by have := h hz; omega) (.inr hj2) hp
    · exact twice_no hx hjk (by omega) (.inl hj) hp
  · simp [kidsOk, e] at hkids

theorem nums_no {l : List Nd} {k : Nat} {x : Nd} (hx : l[k]? = some x) (h : (numsOk x && known x.k) = false) : ¬ PipeOk l := fun hp => by
  have hn := hp.node k x hx
  simp only [nodeOk, Bool.and_eq_true] at hn
  rw [hn.1, known_kids hn.2] at h
  cases h

/-- The first k nodes can stand where they do. -/
def Good (l : List Nd) (k : Nat) : Prop := ∀ (i : Nat) (x : Nd), i < k → l[i]? = some x → nodeOk x i = true
theorem Good.zero (l : List Nd) : Good l 0 := fun _ _ h => absurd h (by omega)
theorem Good.succ {l : List Nd} {k : Nat} {x : Nd} (h : Good l k) (hx : l[k]? = some x) (hn : nodeOk x k = true) : Good l (k + 1) := fun i y hi hy => by
  by_cases e : i = k
  · subst e
    rw [hx] at hy
    obtain rfl := Option.some.inj hy
    exact hn
  · exact h i y (by omega) hy
theorem Single.zero (l : List Nd) : Single l 0 := fun _ => by simp [useOf]

/-- The end of the marking: all but the last one are marked. -/
theorem marks_end {l : List Nd} (hg : Good l l.length) (hs : Single l l.length) (h1 : 1 ≤ l.length) (h12 : l.length ≤ 12) :
    pipeOk l = !((marks l l.length l.length).take (l.length - 1)).contains false := by
  rw [Bool.eq_iff_iff, pipeOk_iff]
  simp only [Bool.not_eq_true', List.contains_eq_mem, decide_eq_false_iff_not]
  constructor
  · intro hp hm
    obtain ⟨j, hj⟩ := List.getElem?_of_mem hm
    have hjl : j < l.length - 1 := by have := (List.getElem?_eq_some_iff.1 hj).1; simp at this; omega
    rw [List.getElem?_take_of_lt hjl, marks_get _ _ (by omega), List.take_length] at hj
    simp at hj
    have := hp.uses j (by omega)
    omega
  · intro hm
    refine ⟨fun i x hx => hg i x (List.getElem?_eq_some_iff.1 hx).1 hx, fun i hi => ?_, h1, h12⟩
    have h2 := hs i
    rw [List.take_length] at h2
    have h3 : useOf l (i : Int) ≠ 0 := fun e => hm (List.mem_of_getElem? (i := i) (by rw [List.getElem?_take_of_lt (by omega), marks_get _ _ (by omega), List.take_length, e]; rfl))
    omega

end Go.Proofs.Ytjkieedomljelaa
