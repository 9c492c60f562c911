/- Slices of numbers of the call's own that begin anywhere in their block: cut, read, and appended to by other slices. -/
import Derived.Test.YtjkieedomljelaaIntA
import Derived.Deep.AppendSrc
import Derived.Deep.Upon
namespace Go.Proofs.Ytjkieedomljelaa
open Go.RowKit

/-- The slice at A, with room for c, holds the numbers l in memory from block base on. -/
def OwnV (w : World) (base : Nat) (A : Option Addr) (c : Nat) (l : List Int) : Prop :=
  (A = none ∧ c = 0 ∧ l = []) ∨ ∃ g o cs, A = some ⟨g, o, none⟩ ∧ base ≤ g ∧ Bk w g 3 cs ∧ o + c ≤ cs.length ∧ l.length ≤ c ∧ ∀ (k : Nat) (x : Int), l[k]? = some x → cs[o + k]? = some (.int .i64 x)

section
variable {w w' : World} {base b2 c : Nat} {A : Option Addr} {l : List Int}
theorem OwnV.len_le (h : OwnV w base A c l) : l.length ≤ c := by
  rcases h with ⟨_, rfl, rfl⟩ | ⟨g, o, cs, _, _, _, _, h, _⟩
  · simp
  · exact h
theorem OwnV.base_ (h : OwnV w base A c l) (hb : b2 ≤ base) : OwnV w b2 A c l :=
  h.imp id fun ⟨g, o, cs, h1, h2, h3⟩ => ⟨g, o, cs, h1, Nat.le_trans hb h2, h3⟩
theorem OwnV.row_lt (h : OwnV w base A c l) : ∀ g, rowOf A = some g → base ≤ g ∧ g < w.heap.size := fun g hg => by
  rcases h with ⟨rfl, _, _⟩ | ⟨g', o, cs, rfl, hb, hbk, _⟩
  · cases hg
  · have : g' = g := Option.some.inj hg
    subst this
    exact ⟨hb, hbk.lt⟩
theorem OwnV.grown {row : Option Nat} (h : OwnV w base A c l) (hg : w.grownBy w' row) (hne : rowOf A = none ∨ rowOf A ≠ row) : OwnV w' base A c l := by
  rcases h with h | ⟨g, o, cs, rfl, hb, hbk, r⟩
  · exact .inl h
  · refine .inr ⟨g, o, cs, rfl, hb, ?_, r⟩
    have : some g ≠ row := hne.elim (fun e => by cases e) id
    exact (hg.block g hbk.lt this).trans hbk
theorem OwnV.below {C : Nat} (h : OwnV w base A c l) (hb : Below C w w') (hC : w.heap.size ≤ C) : OwnV w' base A c l :=
  h.imp id fun ⟨g, o, cs, h1, h2, h3, r⟩ => ⟨g, o, cs, h1, h2, h3.below hb (by have := h3.lt; omega), r⟩
theorem OwnV.rd (h : OwnV w base A c l) : RdI w w.heap.size A l := fun hn => by
  rcases h with ⟨_, _, rfl⟩ | ⟨g, o, cs, rfl, hb, hbk, _, _, hc⟩
  · exact absurd hn (by simp)
  · exact ⟨_, rfl, hbk.lt, fun k x hx => by rw [Addr.add_lit, hbk.cell]; exact hc k x hx⟩
theorem OwnV.ownI (h : OwnV w base A c l) : OwnI w base w.heap.size A l := fun hn => by
  rcases h with ⟨_, _, rfl⟩ | ⟨g, o, cs, rfl, hb, hbk, _, _, hc⟩
  · exact absurd hn (by simp)
  · exact ⟨g, o, cs, rfl, hb, hbk.lt, hbk, hc⟩
theorem OwnJ.ownV (h : OwnJ w base A c l) : OwnV w base A c l := by
  obtain ⟨h1, ⟨hv, h0⟩ | ⟨g, cap, cur, hv, hb, hh, hn, _, hcs, ht⟩⟩ := h
  · injection hv with hA _ hc
    exact .inl ⟨hA, hc, List.eq_nil_of_length_eq_zero h0⟩
  · injection hv with hA _ hc
    subst hc
    refine .inr ⟨g, 0, cur.toList, hA, hb, by unfold Bk; simpa using hh, by simp; omega, hn, fun k x hx => ?_⟩
    have hk : k < l.length := (List.getElem?_eq_some_iff.1 hx).1
    have : (cur.toList.take (l.length * 1))[k]? = some (.int .i64 x) := by rw [ht, ints_get, hx]; rfl
    rw [Nat.zero_add]
    rwa [List.getElem?_take_of_lt (by omega)] at this
theorem OwnV.take (h : OwnV w base A c l) (n : Nat) : OwnV w base A c (l.take n) := by
  rcases h with ⟨hA, hc, rfl⟩ | ⟨g, o, cs, hA, hb, hbk, h1, h2, hc⟩
  · exact .inl ⟨hA, hc, by simp⟩
  · refine .inr ⟨g, o, cs, hA, hb, hbk, h1, Nat.le_trans (List.length_take_le' _ _) h2, fun k x hx => hc k x ?_⟩
    rw [List.getElem?_take] at hx
    split at hx
    · exact hx
    · cases hx
theorem OwnV.drop {g o : Nat} (h : OwnV w base (some ⟨g, o, none⟩) c l) (n : Nat) (hn : n ≤ l.length) : OwnV w base (some ⟨g, o + n, none⟩) (c - n) (l.drop n) := by
  rcases h with ⟨hA, _, _⟩ | ⟨g', o', cs, hA, hb, hbk, h1, h2, hc⟩
  · cases hA
  · obtain ⟨rfl, rfl⟩ : g = g' ∧ o = o' := by injection hA with hA; injection hA with a b; exact ⟨a, b⟩
    refine .inr ⟨g, o + n, cs, rfl, hb, hbk, by omega, by rw [List.length_drop]; omega, fun k x hx => ?_⟩
    rw [List.getElem?_drop] at hx
    rw [Nat.add_assoc]
    exact hc (n + k) x hx
end

/-- Cells from o on are those of vs. -/
def setMany (cs : List Value) : Nat → List Value → List Value
  | _, [] => cs
  | o, v :: vs => setMany (cs.set o v) (o + 1) vs
theorem setMany_len : ∀ (vs cs : List Value) (o : Nat), (setMany cs o vs).length = cs.length
  | [], _, _ => rfl
  | v :: vs, cs, o => by rw [setMany, setMany_len vs]; simp
theorem setMany_low : ∀ (vs cs : List Value) (o k : Nat), k < o → (setMany cs o vs)[k]? = cs[k]?
  | [], _, _, _, _ => rfl
  | v :: vs, cs, o, k, h => by rw [setMany, setMany_low vs _ _ _ (by omega), List.getElem?_set_ne (by omega)]
theorem setMany_in : ∀ (vs cs : List Value) (o j : Nat), o + vs.length ≤ cs.length → j < vs.length → (setMany cs o vs)[o + j]? = vs[j]?
  | [], _, _, _, _, h => absurd h (by simp)
  | v :: vs, cs, o, 0, h1, h2 => by
    simp only [List.length_cons] at h1
    rw [setMany, setMany_low vs _ _ _ (by omega), Nat.add_zero, List.getElem?_set_self (by omega)]
    rfl
  | v :: vs, cs, o, j + 1, h1, h2 => by
    simp only [List.length_cons] at h1 h2
    rw [setMany, show o + (j + 1) = (o + 1) + j by omega, setMany_in vs _ _ _ (by simp; omega) (by omega)]
    rfl
theorem Bk.setCells {g : Nat} {t : TypeId} : ∀ (vs : List Value) {w : World} {cs : List Value} (o : Nat), Bk w g t cs → Bk (w.setCells g o vs) g t (setMany cs o vs)
  | [], _, _, _, h => h
  | v :: vs, w, cs, o, h => by rw [World.setCells, setMany]; exact Bk.setCells vs (o + 1) (h.set_ o v)

theorem setCells_grown {g : Nat} : ∀ (vs : List Value) {a w : World} (o : Nat), a.grownBy w (some g) → a.grownBy (w.setCells g o vs) (some g)
  | [], _, _, _, h => h
  | v :: vs, a, w, o, h => by rw [World.setCells]; exact setCells_grown vs (o + 1) (grown_one h o v)

/-- The numbers of one slice are appended to another one of the call's own. -/
theorem run_append_ints (w : World) (base : Nat) (A : Option Addr) (c : Nat) (l : List Int) (h : OwnV w base A c l) (A2 : Option Addr) (c2 : Nat) (b : List Int) (B : Nat) (hb : RdI w B A2 b) (hn : l.length + b.length ≤ 1048576) (hz : base ≤ w.heap.size) (ty : TypeId) :
    ∃ A' c' w', (Builtin.append_ #[22, 22] ty #[.slice A l.length c, .slice A2 b.length c2]).run Try.prog w = .ok (.slice A' (l.length + b.length) c') w' ∧ OwnV w' base A' c' (l ++ b) ∧ w.grownBy w' (rowOf A) := by
  obtain ⟨i, hi, hz0, hz1, hz2⟩ := info_parts Try.infoInt
  by_cases hb0 : 0 < b.length
  · obtain ⟨ad, rfl, hadB, hc⟩ := hb hb0
    have hsrc : Src Try.prog i.size 22 (.slice (some ad) b.length c2) b.length (ints b) w := Src.ofSlice w Try.underlying22 ad b.length c2 (ints b) (by rw [hz1]; simp [ints]) (fun j u hj => by
      rw [ints_get] at hj
      cases hx : b[j]? with
      | none => rw [hx] at hj; cases hj
      | some x => rw [hx] at hj; obtain rfl := Option.some.inj hj; exact hc j x hx) (fun u hu => by
      obtain ⟨x, _, rfl⟩ := List.mem_map.1 hu
      rfl)
    have hnl : (ints b).length = b.length := by simp [ints]
    by_cases hroom : l.length + b.length ≤ c
    · rcases h with ⟨_, hc0, _⟩ | ⟨g, o, cs, rfl, hbg, hbk, h1, h2, hcs⟩
      · omega
      have hr := run_append_room_src (P := Try.prog) w 22 22 ty 3 i Try.underlying22 hi g o l.length c _ b.length (ints b) hsrc hroom
        (fun j hj => by rw [hbk.cell, hz1, Nat.mul_one, List.getElem?_eq_getElem (by omega)]; rfl) (fun j hj => hbk.free _)
      refine ⟨_, c, _, hr, .inr ⟨g, o, _, rfl, hbg, Bk.setCells (ints b) _ hbk, by rw [setMany_len]; exact h1, by simp; omega, fun k x hx => ?_⟩, setCells_grown _ _ (World.grownBy.refl w _)⟩
      rw [hz1, Nat.mul_one]
      by_cases hk : k < l.length
      · rw [setMany_low _ _ _ _ (by omega)]
        rw [List.getElem?_append_left hk] at hx
        exact hcs k x hx
      · rw [List.getElem?_append_right (by omega)] at hx
        have hkb : k - l.length < b.length := (List.getElem?_eq_some_iff.1 hx).1
        rw [show o + k = o + l.length + (k - l.length) by omega, setMany_in _ _ _ _ (by omega) (by omega), ints_get, hx]
        rfl
    · have hold : (Builtin.firstCells i.size l.length (.slice A l.length c)).run Try.prog w.drew = .ok (ints l).toArray w.drew := by
        rcases h with ⟨rfl, rfl, rfl⟩ | ⟨g, o, cs, rfl, hbg, hbk, h1, h2, hcs⟩
        · exact run_firstCells_none w.drew i.size 0 0 0
        · refine run_firstCells_some w.drew i.size l.length ⟨g, o, none⟩ l.length c (ints l) (by rw [hz1]; simp [ints]) (fun j u hj => ?_)
          rw [ints_get] at hj
          cases hx : l[j]? with
          | none => rw [hx] at hj; cases hj
          | some x =>
            rw [hx] at hj
            obtain rfl := Option.some.inj hj
            rw [Addr.add_lit]
            exact (hbk.cell _).trans (hcs j x hx)
      have hr := run_append_grow_src (P := Try.prog) w 22 22 ty 3 i _ Try.underlying22 hi hz0 A l.length c (ints l) hold _ b.length (ints b) hsrc (by omega) (by omega) (growslice_fits (by omega) (by rw [hz2]; omega))
      have hge := grownCap_ge w (l.length + b.length) c 3
      refine ⟨_, _, _, hr, .inr ⟨w.heap.size, 0, ((ints l ++ ints b).toArray ++ Builtin.zeroCells (Value.cells (.int .i64 0)) (grownCap w (l.length + b.length) c 3 - (l.length + b.length))).toList, rfl, hz, ?_, ?_, by simpa using hge, fun k x hx => ?_⟩, ⟨rfl, rfl, rfl, by simp, fun k hk _ => Below.heap_alloc w.drew _ k hk⟩⟩
      · unfold Bk
        rw [Array.toArray_toList]
        exact heap_alloc_new w.drew _
      · simp [size_zeroCells, ints, Value.cells]
        omega
      · have hk : k < l.length + b.length := by have := (List.getElem?_eq_some_iff.1 hx).1; simpa using this
        rw [Nat.zero_add, Array.toList_append, List.getElem?_append_left (by simp [ints]; omega)]
        rw [show (ints l ++ ints b).toArray.toList = ints (l ++ b) from by simp [ints], ints_get, hx]
        rfl
  · have hb1 : b = [] := List.eq_nil_of_length_eq_zero (by omega)
    subst hb1
    have hsrc : Src Try.prog i.size 22 (.slice A2 0 c2) 0 [] w := by
      cases A2 with
      | none => exact Src.ofNil w Try.underlying22 c2
      | some ad => exact Src.ofSlice w Try.underlying22 ad 0 c2 [] (by simp) (fun j u hj => by simp at hj) (fun u hu => by cases hu)
    refine ⟨A, c, w, run_append_nothing w 22 22 ty 3 i Try.underlying22 hi A l.length c h.len_le _ hsrc, by rw [List.append_nil]; exact h, World.grownBy.refl w _⟩

end Go.Proofs.Ytjkieedomljelaa
