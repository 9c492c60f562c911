/- Slices of numbers and of bools are copied: append of a whole slice, slices.Clone. -/
import Derived.Test.YtjkieedomljelaaOwnV
import Derived.Test.YtjkieedomljelaaBoo
namespace Go.Proofs.Ytjkieedomljelaa
open Go.RowKit

theorem wpList_append_intsA {ops : Array Oper} {rest : List Oper} {o : Oper} {a : Act} {Q : Exit → Act → World → Prop} {w : World} (hgd : o.guard = none) (s y : Operand)
    (ho : o.op = .call { callee := .builtin .append, args := #[s, y], argTypes := #[22, 22] }) (base : Nat) (A : Option Addr) (c : Nat) (l : List Int) (n : Nat) (hnl : l.length = n) (hs : a.eval s = .slice A n c) (hown : OwnV w base A c l)
    (A2 : Option Addr) (c2 : Nat) (b : List Int) (nb B : Nat) (hnb : b.length = nb) (hx : a.eval y = .slice A2 nb c2) (hb : RdI w B A2 b) (hn : n + nb ≤ 1048576) (hz : base ≤ w.heap.size)
    (h : ∀ (A' : Option Addr) (c' : Nat) (w' : World), OwnV w' base A' c' (l ++ b) → w.grownBy w' (rowOf A) → wpList Try.prog ops Q rest (a.put o.dst (.slice A' (n + nb) c')) w') :
    wpList Try.prog ops Q (o :: rest) a w := by
  subst hnl
  subst hnb
  refine wpList_plain hgd fun K hK => ?_
  obtain ⟨A', c', w', hr, h2, h3⟩ := run_append_ints w base A c l hown A2 c2 b B hb hn hz o.type
  unfold Oper.wp execOp
  simp only [ho, resolve, invoke, builtin, Sem.run_bind, Sem.run_pure, Result.andThen_ok, List.map_toArray, List.map_cons, List.map_nil, hs, hx, hr]
  exact hK _ _ (h A' c' w' h2 h3)

def OwnBv (w : World) (base : Nat) (A : Option Addr) (c : Nat) (l : List Bool) : Prop :=
  (A = none ∧ c = 0 ∧ l = []) ∨ ∃ g o cs, A = some ⟨g, o, none⟩ ∧ base ≤ g ∧ Bk w g 4 cs ∧ o + c ≤ cs.length ∧ l.length ≤ c ∧ ∀ (k : Nat) (x : Bool), l[k]? = some x → cs[o + k]? = some (.bool x)

section
variable {w w' : World} {base b2 c : Nat} {A : Option Addr} {l : List Bool}
theorem OwnBv.len_le (h : OwnBv w base A c l) : l.length ≤ c := by
  rcases h with ⟨_, rfl, rfl⟩ | ⟨g, o, cs, _, _, _, _, h, _⟩
  · simp
  · exact h
theorem OwnBv.base_ (h : OwnBv w base A c l) (hb : b2 ≤ base) : OwnBv w b2 A c l :=
  h.imp id fun ⟨g, o, cs, h1, h2, h3⟩ => ⟨g, o, cs, h1, Nat.le_trans hb h2, h3⟩
theorem OwnBv.row_lt (h : OwnBv w base A c l) : ∀ g, rowOf A = some g → base ≤ g ∧ g < w.heap.size := fun g hg => by
  rcases h with ⟨rfl, _, _⟩ | ⟨g', o, cs, rfl, hb, hbk, _⟩
  · cases hg
  · have : g' = g := Option.some.inj hg
    subst this
    exact ⟨hb, hbk.lt⟩
theorem OwnBv.grown {row : Option Nat} (h : OwnBv w base A c l) (hg : w.grownBy w' row) (hne : rowOf A = none ∨ rowOf A ≠ row) : OwnBv w' base A c l := by
  rcases h with h | ⟨g, o, cs, rfl, hb, hbk, r⟩
  · exact .inl h
  · refine .inr ⟨g, o, cs, rfl, hb, ?_, r⟩
    have : some g ≠ row := hne.elim (fun e => by cases e) id
    exact (hg.block g hbk.lt this).trans hbk
theorem OwnBv.below {C : Nat} (h : OwnBv w base A c l) (hb : Below C w w') (hC : w.heap.size ≤ C) : OwnBv w' base A c l :=
  h.imp id fun ⟨g, o, cs, h1, h2, h3, r⟩ => ⟨g, o, cs, h1, h2, h3.below hb (by have := h3.lt; omega), r⟩
theorem OwnBv.rd (h : OwnBv w base A c l) : RdB w w.heap.size A l := fun hn => by
  rcases h with ⟨_, _, rfl⟩ | ⟨g, o, cs, rfl, hb, hbk, _, _, hc⟩
  · exact absurd hn (by simp)
  · exact ⟨_, rfl, hbk.lt, fun k x hx => by rw [Addr.add_lit, hbk.cell]; exact hc k x hx⟩
theorem OwnBv.ownB (h : OwnBv w base A c l) : OwnB w base w.heap.size A l := fun hn => by
  rcases h with ⟨_, _, rfl⟩ | ⟨g, o, cs, rfl, hb, hbk, _, _, hc⟩
  · exact absurd hn (by simp)
  · exact ⟨g, o, cs, rfl, hb, hbk.lt, hbk, hc⟩
theorem OwnBj.ownBv (h : OwnBj w base A c l) : OwnBv w base A c l := by
  obtain ⟨h1, ⟨hv, h0⟩ | ⟨g, cap, cur, hv, hb, hh, hn, _, hcs, ht⟩⟩ := h
  · injection hv with hA _ hc
    exact .inl ⟨hA, hc, List.eq_nil_of_length_eq_zero h0⟩
  · injection hv with hA _ hc
    subst hc
    refine .inr ⟨g, 0, cur.toList, hA, hb, by unfold Bk; simpa using hh, by simp; omega, hn, fun k x hx => ?_⟩
    have hk : k < l.length := (List.getElem?_eq_some_iff.1 hx).1
    have : (cur.toList.take (l.length * 1))[k]? = some (.bool x) := by rw [ht, bools_get, hx]; rfl
    rw [Nat.zero_add]
    rwa [List.getElem?_take_of_lt (by omega)] at this
theorem OwnBv.take (h : OwnBv w base A c l) (n : Nat) : OwnBv w base A c (l.take n) := by
  rcases h with ⟨hA, hc, rfl⟩ | ⟨g, o, cs, hA, hb, hbk, h1, h2, hc⟩
  · exact .inl ⟨hA, hc, by simp⟩
  · refine .inr ⟨g, o, cs, hA, hb, hbk, h1, Nat.le_trans (List.length_take_le' _ _) h2, fun k x hx => hc k x ?_⟩
    rw [List.getElem?_take] at hx
    split at hx
    · exact hx
    · cases hx
theorem OwnBv.drop {g o : Nat} (h : OwnBv w base (some ⟨g, o, none⟩) c l) (n : Nat) (hn : n ≤ l.length) : OwnBv w base (some ⟨g, o + n, none⟩) (c - n) (l.drop n) := by
  rcases h with ⟨hA, _, _⟩ | ⟨g', o', cs, hA, hb, hbk, h1, h2, hc⟩
  · cases hA
  · obtain ⟨rfl, rfl⟩ : g = g' ∧ o = o' := by injection hA with hA; injection hA with a b; exact ⟨a, b⟩
    refine .inr ⟨g, o + n, cs, rfl, hb, hbk, by omega, by rw [List.length_drop]; omega, fun k x hx => ?_⟩
    rw [List.getElem?_drop] at hx
    rw [Nat.add_assoc]
    exact hc (n + k) x hx
end

theorem run_append_bools (w : World) (base : Nat) (A : Option Addr) (c : Nat) (l : List Bool) (h : OwnBv w base A c l) (A2 : Option Addr) (c2 : Nat) (b : List Bool) (B : Nat) (hb : RdB w B A2 b) (hn : l.length + b.length ≤ 1048576) (hz : base ≤ w.heap.size) (ty : TypeId) :
    ∃ A' c' w', (Builtin.append_ #[23, 23] ty #[.slice A l.length c, .slice A2 b.length c2]).run Try.prog w = .ok (.slice A' (l.length + b.length) c') w' ∧ OwnBv w' base A' c' (l ++ b) ∧ w.grownBy w' (rowOf A) := by
  obtain ⟨i, hi, hz0, hz1, hz2⟩ := info_parts Try.infoBool
  by_cases hb0 : 0 < b.length
  · obtain ⟨ad, rfl, hadB, hc⟩ := hb hb0
    have hsrc : Src Try.prog i.size 23 (.slice (some ad) b.length c2) b.length (bools b) w := Src.ofSlice w Try.underlying23 ad b.length c2 (bools b) (by rw [hz1]; simp [bools]) (fun j u hj => by
      rw [bools_get] at hj
      cases hx : b[j]? with
      | none => rw [hx] at hj; cases hj
      | some x => rw [hx] at hj; obtain rfl := Option.some.inj hj; exact hc j x hx) (fun u hu => by
      obtain ⟨x, _, rfl⟩ := List.mem_map.1 hu
      rfl)
    have hnl : (bools b).length = b.length := by simp [bools]
    by_cases hroom : l.length + b.length ≤ c
    · rcases h with ⟨_, hc0, _⟩ | ⟨g, o, cs, rfl, hbg, hbk, h1, h2, hcs⟩
      · omega
      have hr := run_append_room_src (P := Try.prog) w 23 23 ty 4 i Try.underlying23 hi g o l.length c _ b.length (bools b) hsrc hroom
        (fun j hj => by rw [hbk.cell, hz1, Nat.mul_one, List.getElem?_eq_getElem (by omega)]; rfl) (fun j hj => hbk.free _)
      refine ⟨_, c, _, hr, .inr ⟨g, o, _, rfl, hbg, Bk.setCells (bools b) _ hbk, by rw [setMany_len]; exact h1, by simp; omega, fun k x hx => ?_⟩, setCells_grown _ _ (World.grownBy.refl w _)⟩
      rw [hz1, Nat.mul_one]
      by_cases hk : k < l.length
      · rw [setMany_low _ _ _ _ (by omega)]
        rw [List.getElem?_append_left hk] at hx
        exact hcs k x hx
      · rw [List.getElem?_append_right (by omega)] at hx
        have hkb : k - l.length < b.length := (List.getElem?_eq_some_iff.1 hx).1
        rw [show o + k = o + l.length + (k - l.length) by omega, setMany_in _ _ _ _ (by omega) (by omega), bools_get, hx]
        rfl
    · have hold : (Builtin.firstCells i.size l.length (.slice A l.length c)).run Try.prog w.drew = .ok (bools l).toArray w.drew := by
        rcases h with ⟨rfl, rfl, rfl⟩ | ⟨g, o, cs, rfl, hbg, hbk, h1, h2, hcs⟩
        · exact run_firstCells_none w.drew i.size 0 0 0
        · refine run_firstCells_some w.drew i.size l.length ⟨g, o, none⟩ l.length c (bools l) (by rw [hz1]; simp [bools]) (fun j u hj => ?_)
          rw [bools_get] at hj
          cases hx : l[j]? with
          | none => rw [hx] at hj; cases hj
          | some x =>
            rw [hx] at hj
            obtain rfl := Option.some.inj hj
            rw [Addr.add_lit]
            exact (hbk.cell _).trans (hcs j x hx)
      have hr := run_append_grow_src (P := Try.prog) w 23 23 ty 4 i _ Try.underlying23 hi hz0 A l.length c (bools l) hold _ b.length (bools b) hsrc (by omega) (by omega) (growslice_fits (by omega) (by rw [hz2]; omega))
      have hge := grownCap_ge w (l.length + b.length) c 4
      refine ⟨_, _, _, hr, .inr ⟨w.heap.size, 0, ((bools l ++ bools b).toArray ++ Builtin.zeroCells (Value.cells (.bool false)) (grownCap w (l.length + b.length) c 4 - (l.length + b.length))).toList, rfl, hz, ?_, ?_, by simpa using hge, fun k x hx => ?_⟩, ⟨rfl, rfl, rfl, by simp, fun k hk _ => Below.heap_alloc w.drew _ k hk⟩⟩
      · unfold Bk
        rw [Array.toArray_toList]
        exact heap_alloc_new w.drew _
      · simp [size_zeroCells, bools, Value.cells]
        omega
      · have hk : k < l.length + b.length := by have := (List.getElem?_eq_some_iff.1 hx).1; simpa using this
        rw [Nat.zero_add, Array.toList_append, List.getElem?_append_left (by simp [bools]; omega)]
        rw [show (bools l ++ bools b).toArray.toList = bools (l ++ b) from by simp [bools], bools_get, hx]
        rfl
  · have hb1 : b = [] := List.eq_nil_of_length_eq_zero (by omega)
    subst hb1
    have hsrc : Src Try.prog i.size 23 (.slice A2 0 c2) 0 [] w := by
      cases A2 with
      | none => exact Src.ofNil w Try.underlying23 c2
      | some ad => exact Src.ofSlice w Try.underlying23 ad 0 c2 [] (by simp) (fun j u hj => by simp at hj) (fun u hu => by cases hu)
    refine ⟨A, c, w, run_append_nothing w 23 23 ty 4 i Try.underlying23 hi A l.length c h.len_le _ hsrc, by rw [List.append_nil]; exact h, World.grownBy.refl w _⟩

theorem wpList_append_boolsA {ops : Array Oper} {rest : List Oper} {o : Oper} {a : Act} {Q : Exit → Act → World → Prop} {w : World} (hgd : o.guard = none) (s y : Operand)
    (ho : o.op = .call { callee := .builtin .append, args := #[s, y], argTypes := #[23, 23] }) (base : Nat) (A : Option Addr) (c : Nat) (l : List Bool) (n : Nat) (hnl : l.length = n) (hs : a.eval s = .slice A n c) (hown : OwnBv w base A c l)
    (A2 : Option Addr) (c2 : Nat) (b : List Bool) (nb B : Nat) (hnb : b.length = nb) (hx : a.eval y = .slice A2 nb c2) (hb : RdB w B A2 b) (hn : n + nb ≤ 1048576) (hz : base ≤ w.heap.size)
    (h : ∀ (A' : Option Addr) (c' : Nat) (w' : World), OwnBv w' base A' c' (l ++ b) → w.grownBy w' (rowOf A) → wpList Try.prog ops Q rest (a.put o.dst (.slice A' (n + nb) c')) w') :
    wpList Try.prog ops Q (o :: rest) a w := by
  subst hnl
  subst hnb
  refine wpList_plain hgd fun K hK => ?_
  obtain ⟨A', c', w', hr, h2, h3⟩ := run_append_bools w base A c l hown A2 c2 b B hb hn hz o.type
  unfold Oper.wp execOp
  simp only [ho, resolve, invoke, builtin, Sem.run_bind, Sem.run_pure, Result.andThen_ok, List.map_toArray, List.map_cons, List.map_nil, hs, hx, hr]
  exact hK _ _ (h A' c' w' h2 h3)


theorem nilI (ad : Addr) (n c : Nat) (w : World) : (binOp .eql 22 (.slice (some ad) n c) (.slice none 0 0)).run Try.prog w = .ok (.bool false) w := by kernel_rfl
theorem nilI0 (n c : Nat) (w : World) : (binOp .eql 22 (.slice none n c) (.slice none 0 0)).run Try.prog w = .ok (.bool true) w := by kernel_rfl

set_option maxRecDepth 100000 in
set_option maxHeartbeats 1600000 in
theorem cloneI_any (A : Option Addr) (c : Nat) (l : List Int) (w : World) (B : Nat) (h : RdI w B A l) (hB : B ≤ w.heap.size) (hn : l.length ≤ 1048576) :
    Calls Try.prog 81 #[.slice A l.length c] w fun e w' => ∃ R cR, e = .returned (.slice R l.length cR) ∧ OwnV w' w.heap.size R cR l ∧ Below w.heap.size w w' := by
  cases A with
  | none =>
    have hl : l = [] := by
      cases l with
      | nil => rfl
      | cons x y => obtain ⟨ad, e, _⟩ := h (by simp); cases e
    subst hl
    have hnil := nilI0 0 c
    clear h
    go_enter Try.func81, Try.ntmps81
    go_wp2_with fail
    go_ret
    exact ⟨none, 0, ret_slice (by simp), .inl ⟨rfl, rfl, rfl⟩, Below.refl _ _⟩
  | some ad =>
    have hbe : Below w.heap.size w (w.alloc (.cells #[] 3)) := (Below.refl _ _).alloc (Nat.le_refl _) _
    have H := Lib.hid (h.below hbe hB)
    have Hbe := Lib.hid hbe
    have He := Lib.hid (emptyJ w).ownV
    have hnil := nilI ad l.length c
    clear h hbe
    go_enter Try.func81, Try.ntmps81
    go_wp2_with (at_builtin; go_must (refine wpList_append_intsA rfl _ _ rfl w.heap.size _ _ [] 0 rfl rfl He.out (some ad) c l l.length B rfl rfl H.out (by omega) (by simp) ?_; intro R cR w2 ho2 hg2); have Ho2 := Lib.hid ho2; have Hg2 := Lib.hid hg2; clear ho2 hg2)
    go_ret
    refine ⟨R, cR, ret_slice (by simp), by simpa using Ho2.out, Hbe.out.grown Hg2.out (by simp) (fun g hg => ?_)⟩
    have : w.heap.size = g := Option.some.inj hg
    omega

theorem nilB (ad : Addr) (n c : Nat) (w : World) : (binOp .eql 23 (.slice (some ad) n c) (.slice none 0 0)).run Try.prog w = .ok (.bool false) w := by kernel_rfl
theorem nilB0 (n c : Nat) (w : World) : (binOp .eql 23 (.slice none n c) (.slice none 0 0)).run Try.prog w = .ok (.bool true) w := by kernel_rfl

set_option maxRecDepth 100000 in
set_option maxHeartbeats 1600000 in
theorem cloneB_any (A : Option Addr) (c : Nat) (l : List Bool) (w : World) (B : Nat) (h : RdB w B A l) (hB : B ≤ w.heap.size) (hn : l.length ≤ 1048576) :
    Calls Try.prog 94 #[.slice A l.length c] w fun e w' => ∃ R cR, e = .returned (.slice R l.length cR) ∧ OwnBv w' w.heap.size R cR l ∧ Below w.heap.size w w' := by
  cases A with
  | none =>
    have hl : l = [] := by
      cases l with
      | nil => rfl
      | cons x y => obtain ⟨ad, e, _⟩ := h (by simp); cases e
    subst hl
    have hnil := nilB0 0 c
    clear h
    go_enter Try.func94, Try.ntmps94
    go_wp2_with fail
    go_ret
    exact ⟨none, 0, ret_slice (by simp), .inl ⟨rfl, rfl, rfl⟩, Below.refl _ _⟩
  | some ad =>
    have hbe : Below w.heap.size w (w.alloc (.cells #[] 4)) := (Below.refl _ _).alloc (Nat.le_refl _) _
    have H := Lib.hid (h.below hbe hB)
    have Hbe := Lib.hid hbe
    have He := Lib.hid (emptyBj w).ownBv
    have hnil := nilB ad l.length c
    clear h hbe
    go_enter Try.func94, Try.ntmps94
    go_wp2_with (at_builtin; go_must (refine wpList_append_boolsA rfl _ _ rfl w.heap.size _ _ [] 0 rfl rfl He.out (some ad) c l l.length B rfl rfl H.out (by omega) (by simp) ?_; intro R cR w2 ho2 hg2); have Ho2 := Lib.hid ho2; have Hg2 := Lib.hid hg2; clear ho2 hg2)
    go_ret
    refine ⟨R, cR, ret_slice (by simp), by simpa using Ho2.out, Hbe.out.grown Hg2.out (by simp) (fun g hg => ?_)⟩
    have : w.heap.size = g := Option.some.inj hg
    omega

set_option maxHeartbeats 800000 in
theorem specCopyIntsA (A : Option Addr) (c : Nat) (l : List Int) (w : World) (B : Nat) (h : RdI w B A l) (hB : B ≤ w.heap.size) (hn : l.length ≤ 1048576) :
    Calls Try.prog 87 #[.slice A l.length c] w fun e w' => ∃ R cR, e = .returned (.slice R l.length cR) ∧ OwnV w' w.heap.size R cR l ∧ Below w.heap.size w w' := by
  have hbe : Below w.heap.size w (w.alloc (.cells #[] 3)) := (Below.refl _ _).alloc (Nat.le_refl _) _
  have H := Lib.hid (h.below hbe hB)
  have Hbe := Lib.hid hbe
  have He := Lib.hid (emptyJ w).ownV
  clear h hbe
  go_enter Try.func87, Try.ntmps87
  go_wp2_with (at_builtin; go_must (refine wpList_append_intsA rfl _ _ rfl w.heap.size _ _ [] 0 rfl rfl He.out A c l l.length B rfl rfl H.out (by omega) (by simp) ?_; intro R cR w2 ho2 hg2); have Ho2 := Lib.hid ho2; have Hg2 := Lib.hid hg2; clear ho2 hg2)
  go_ret
  refine ⟨R, cR, ret_slice (by simp), by simpa using Ho2.out, Hbe.out.grown Hg2.out (by simp) (fun g hg => ?_)⟩
  have : w.heap.size = g := Option.some.inj hg
  omega

end Go.Proofs.Ytjkieedomljelaa
