/- Texts on the program and its reference, put together (LsH, LiI, SortJ, LiJ, LiK, LiC). -/
import Derived.Test.YtkjhncohanfciaaMc5I
import Derived.Test.YtkjhncohanfciaaMc5B
import Derived.Test.YtkjhncohanfciaaMc5G
import Derived.Test.YtkjhncohanfciaaShelf
import Derived.Lib.RowBridge
import Derived.Sort.Grow
/- Contracts: the list of a node, by the reference (parts). -/
namespace Go.Proofs.Ytkjhncohanfciaa
open Go.RowKit

theorem OwnV.drop0 {w : World} {base c g o : Nat} {l : List Int} (h : OwnV w base (some ⟨g, o, none⟩) c l) (n : Nat) (_ : n ≤ l.length) (hc : c ≤ n) : OwnV w base (some ⟨g, o, none⟩) 0 (l.drop n) := by
  rcases h with ⟨hA, _, _⟩ | ⟨g', o', cs, hA, hb, hbk, h1, h2, hcs⟩
  · cases hA
  · have hnil : l.drop n = [] := List.eq_nil_of_length_eq_zero (by rw [List.length_drop]; omega)
    rw [hnil]
    exact .inr ⟨g', o', cs, hA, hb, hbk, by omega, Nat.le_refl _, fun k x hx => by simp at hx⟩

theorem wpList_append_ints {ops : Array Oper} {rest : List Oper} {o : Oper} {a : Act} {Q : Exit → Act → World → Prop} {w : World} (hgd : o.guard = none) (s y : Operand)
    (ho : o.op = .call { callee := .builtin .append, args := #[s, y], argTypes := #[28, 28] }) (base : Nat) (A : Option Addr) (c : Nat) (l : List Int) (n : Nat) (hnl : l.length = n) (hs : a.eval s = .slice A n c) (hown : OwnV w base A c l)
    (A2 : Option Addr) (c2 : Nat) (b : List Int) (nb B : Nat) (hnb : b.length = nb) (hx : a.eval y = .slice A2 nb c2) (hb : RdI w B A2 b) (hn : n + nb ≤ 1048576) (hz : base ≤ w.heap.size)
    (h : ∀ (A' : Option Addr) (c' : Nat) (w' : World), OwnV w' base A' c' (l ++ b) → w.grownBy w' (rowOf A) → wpList Try.prog ops Q rest (a.put o.dst (.slice A' (n + nb) c')) w') :
    wpList Try.prog ops Q (o :: rest) a w := by
  subst hnl
  subst hnb
  refine wpList_plain hgd fun K hK => ?_
  obtain ⟨A', c', w', hr, h2, h3⟩ := run_append_ints w base A c l hown A2 c2 b B hb hn hz o.type
  unfold Oper.wp execOp
  simp only [ho, resolve, invoke, builtin, Sem.run_bind, Sem.run_pure, Result.andThen_ok, List.map_toArray, List.map_cons, List.map_nil, hs, hx, hr]
  exact hK _ _ (h A' c' w' h2 h3)

set_option maxHeartbeats 800000 in
theorem specCopyInts_any (A : Option Addr) (c : Nat) (l : List Int) (w : World) (B : Nat) (h : RdI w B A l) (hB : B ≤ w.heap.size) (hn : l.length ≤ 65536) :
    Calls Try.prog 56 #[.slice A l.length c] w fun e w' => ∃ R cR, e = .returned (.slice R l.length cR) ∧ OwnV w' w.heap.size R cR l ∧ Below w.heap.size w w' := by
  have hbe : Below w.heap.size w (w.alloc (.cells #[] 3)) := (Below.refl _ _).alloc (Nat.le_refl _) _
  have H := Lib.hid (h.below hbe hB)
  have Hbe := Lib.hid hbe
  have He := Lib.hid (emptyJ w).ownV
  clear h hbe
  go_enter Try.func56, Try.ntmps56
  go_wp2_with (at_builtin; go_must (refine wpList_append_ints rfl _ _ rfl w.heap.size _ _ [] 0 rfl rfl He.out A c l l.length B rfl rfl H.out (by omega) (by simp) ?_; intro R cR w2 ho2 hg2); have Ho2 := Lib.hid ho2; have Hg2 := Lib.hid hg2; clear ho2 hg2)
  go_ret
  refine ⟨R, cR, ret_slice (by simp), by simpa using Ho2.out, Hbe.out.grown Hg2.out (by simp) (fun g hg => ?_)⟩
  have : w.heap.size = g := Option.some.inj hg
  omega

set_option maxRecDepth 100000 in
set_option maxHeartbeats 6400000 in
theorem lsTake {l : List Nd} {src : List (List Int)} {i j : Nat} {p : Nat} {m : Int} {q z : List Int} (A : Option Addr) (c : Nat) (As : Option Addr) (ca : Nat) (w : World) (B : Nat) (h : RdN w B A l) (hB : B ≤ w.heap.size) (hn : l.length ≤ 1048576)
    (hx : l[i]? = some ⟨3, (j : Int), -1, (p : Int), m⟩)
    (hi : ∀ W, Below w.heap.size w W → Calls Try.prog 57 #[.agg #[.slice A l.length c], .slice As src.length ca, .int .i64 (j : Int)] W fun e w' => ∃ R cR, e = .returned (.slice R q.length cR) ∧ OwnV w' W.heap.size R cR q ∧ Below W.heap.size W w')
    (iq : Items q) (lq : q.length ≤ 65536) (hF : Hid (z = q.take p)) :
    Calls Try.prog 57 #[.agg #[.slice A l.length c], .slice As src.length ca, .int .i64 i] w fun e w' => ∃ R cR, e = .returned (.slice R z.length cR) ∧ OwnV w' w.heap.size R cR z ∧ Below w.heap.size w w' := by
  have _u1 := hn
  have _u2 := lq
  have _u3 := iq
  clear _u1 _u2 _u3
  have hlt : i < l.length := (List.getElem?_eq_some_iff.1 hx).1
  have hb0 := (Below.refl w.heap.size w).alloc (Nat.le_refl _) (.cells #[.slice A l.length c] 32)
  obtain ⟨b, o, y, rfl, hbB, hy, hc⟩ := (h.below hb0 (by omega)).at_ hlt
  obtain rfl := Option.some.inj (hx.symm.trans hy)
  obtain ⟨c0, c1, c2, c3, c4⟩ := hc
  simp only at c0 c1 c2 c3 c4
  obtain ⟨W2, hW2⟩ : ∃ W2 : World, W2 = (w.alloc (.cells #[.slice (some ⟨b, o, none⟩) l.length c] 32)).alloc (.cells #[.int .i64 3, .int .i64 (j : Int), .int .i64 (-1), .int .i64 (p : Int), .int .i64 m] 69) := ⟨_, rfl⟩
  have hb2 : Below w.heap.size w W2 := by rw [hW2]; exact ((Below.refl _ _).alloc (Nat.le_refl _) _).alloc (by simp) _
  have hs2 : W2.heap.size = w.heap.size + 2 := by rw [hW2]; simp
  have hbox : Bk W2 w.heap.size 32 [.slice (some ⟨b, o, none⟩) l.length c] := by rw [hW2]; exact (Bk.new _ _ [_]).alloc _
  have hnode : Bk W2 (w.heap.size + 1) 69 [.int .i64 3, .int .i64 (j : Int), .int .i64 (-1), .int .i64 (p : Int), .int .i64 m] := by
    rw [hW2]
    have := Bk.new (w.alloc (.cells #[.slice (some ⟨b, o, none⟩) l.length c] 32)) 69 [.int .i64 3, .int .i64 (j : Int), .int .i64 (-1), .int .i64 (p : Int), .int .i64 m]
    simpa using this
  have HW2 := Lib.hid hW2
  have Hb2 := Lib.hid hb2
  have Hbox := Lib.hid hbox
  have Hnode := Lib.hid hnode
  have Hs2 := Lib.hid hs2
  have Hi := Lib.hid hi
  have Iq := Lib.hid iq
  clear hx hy h hb0 hi iq hW2 hb2 hbox hnode hs2
  go_enter Try.func57, Try.ntmps57
  go_wp2_with fail
  rw [← HW2.out]
  refine (Hi.out W2 Hb2.out).mono ?_
  rintro e w3 ⟨R, cR, rfl, ho3, hb3⟩
  have hbox3 := Hbox.out.below hb3 Hbox.out.lt
  have hnode3 := Hnode.out.below hb3 Hnode.out.lt
  have e0 : w3.cell? ⟨w.heap.size, 0, none⟩ = some (.slice (some ⟨b, o, none⟩) l.length c) := hbox3.cell 0
  have d0 : w3.cell? ⟨w.heap.size + 1, 0, none⟩ = some (.int .i64 3) := hnode3.cell 0
  have d1 : w3.cell? ⟨w.heap.size + 1, 1, none⟩ = some (.int .i64 (j : Int)) := hnode3.cell 1
  have d2 : w3.cell? ⟨w.heap.size + 1, 2, none⟩ = some (.int .i64 (-1)) := hnode3.cell 2
  have d3 : w3.cell? ⟨w.heap.size + 1, 3, none⟩ = some (.int .i64 (p : Int)) := hnode3.cell 3
  have d4 : w3.cell? ⟨w.heap.size + 1, 4, none⟩ = some (.int .i64 m) := hnode3.cell 4
  have hz2 : w.heap.size ≤ W2.heap.size := by rw [Hs2.out]; omega
  have hz3 := hb3.size
  have hcap := ho3.len_le
  have Hb3 := Lib.hid (Hb2.out.trans (hb3.mono hz2))
  have Hb23 := Lib.hid hb3
  have Ho3 := Lib.hid (ho3.base_ hz2)
  clear ho3 hb3 hbox3 hnode3
  by_cases hp : p ≤ q.length
  · have hmin : min (p : Int) (q.length : Int) = p := by omega
    go_wp2_with fail
    go_ret
    exact ⟨R, cR, ret_slice (by rw [hF.out, List.length_take]; omega), by rw [hF.out]; exact Ho3.out.take p, Hb3.out⟩
  · have hmin : min (p : Int) (q.length : Int) = q.length := by omega
    go_wp2_with fail
    go_ret
    exact ⟨R, cR, ret_slice (by rw [hF.out, List.length_take]; omega), by rw [hF.out]; exact Ho3.out.take p, Hb3.out⟩

set_option maxRecDepth 100000 in
set_option maxHeartbeats 6400000 in
theorem lsDrop {l : List Nd} {src : List (List Int)} {i j : Nat} {p : Nat} {m : Int} {q z : List Int} (A : Option Addr) (c : Nat) (As : Option Addr) (ca : Nat) (w : World) (B : Nat) (h : RdN w B A l) (hB : B ≤ w.heap.size) (hn : l.length ≤ 1048576)
    (hx : l[i]? = some ⟨4, (j : Int), -1, (p : Int), m⟩)
    (hi : ∀ W, Below w.heap.size w W → Calls Try.prog 57 #[.agg #[.slice A l.length c], .slice As src.length ca, .int .i64 (j : Int)] W fun e w' => ∃ R cR, e = .returned (.slice R q.length cR) ∧ OwnV w' W.heap.size R cR q ∧ Below W.heap.size W w')
    (iq : Items q) (lq : q.length ≤ 65536) (hF : Hid (z = q.drop (min p q.length))) :
    Calls Try.prog 57 #[.agg #[.slice A l.length c], .slice As src.length ca, .int .i64 i] w fun e w' => ∃ R cR, e = .returned (.slice R z.length cR) ∧ OwnV w' w.heap.size R cR z ∧ Below w.heap.size w w' := by
  have _u1 := hn
  have _u2 := lq
  have _u3 := iq
  clear _u1 _u2 _u3
  have hlt : i < l.length := (List.getElem?_eq_some_iff.1 hx).1
  have hb0 := (Below.refl w.heap.size w).alloc (Nat.le_refl _) (.cells #[.slice A l.length c] 32)
  obtain ⟨b, o, y, rfl, hbB, hy, hc⟩ := (h.below hb0 (by omega)).at_ hlt
  obtain rfl := Option.some.inj (hx.symm.trans hy)
  obtain ⟨c0, c1, c2, c3, c4⟩ := hc
  simp only at c0 c1 c2 c3 c4
  obtain ⟨W2, hW2⟩ : ∃ W2 : World, W2 = (w.alloc (.cells #[.slice (some ⟨b, o, none⟩) l.length c] 32)).alloc (.cells #[.int .i64 4, .int .i64 (j : Int), .int .i64 (-1), .int .i64 (p : Int), .int .i64 m] 69) := ⟨_, rfl⟩
  have hb2 : Below w.heap.size w W2 := by rw [hW2]; exact ((Below.refl _ _).alloc (Nat.le_refl _) _).alloc (by simp) _
  have hs2 : W2.heap.size = w.heap.size + 2 := by rw [hW2]; simp
  have hbox : Bk W2 w.heap.size 32 [.slice (some ⟨b, o, none⟩) l.length c] := by rw [hW2]; exact (Bk.new _ _ [_]).alloc _
  have hnode : Bk W2 (w.heap.size + 1) 69 [.int .i64 4, .int .i64 (j : Int), .int .i64 (-1), .int .i64 (p : Int), .int .i64 m] := by
    rw [hW2]
    have := Bk.new (w.alloc (.cells #[.slice (some ⟨b, o, none⟩) l.length c] 32)) 69 [.int .i64 4, .int .i64 (j : Int), .int .i64 (-1), .int .i64 (p : Int), .int .i64 m]
    simpa using this
  have HW2 := Lib.hid hW2
  have Hb2 := Lib.hid hb2
  have Hbox := Lib.hid hbox
  have Hnode := Lib.hid hnode
  have Hs2 := Lib.hid hs2
  have Hi := Lib.hid hi
  have Iq := Lib.hid iq
  clear hx hy h hb0 hi iq hW2 hb2 hbox hnode hs2
  go_enter Try.func57, Try.ntmps57
  go_wp2_with fail
  rw [← HW2.out]
  refine (Hi.out W2 Hb2.out).mono ?_
  rintro e w3 ⟨R, cR, rfl, ho3, hb3⟩
  have hbox3 := Hbox.out.below hb3 Hbox.out.lt
  have hnode3 := Hnode.out.below hb3 Hnode.out.lt
  have e0 : w3.cell? ⟨w.heap.size, 0, none⟩ = some (.slice (some ⟨b, o, none⟩) l.length c) := hbox3.cell 0
  have d0 : w3.cell? ⟨w.heap.size + 1, 0, none⟩ = some (.int .i64 4) := hnode3.cell 0
  have d1 : w3.cell? ⟨w.heap.size + 1, 1, none⟩ = some (.int .i64 (j : Int)) := hnode3.cell 1
  have d2 : w3.cell? ⟨w.heap.size + 1, 2, none⟩ = some (.int .i64 (-1)) := hnode3.cell 2
  have d3 : w3.cell? ⟨w.heap.size + 1, 3, none⟩ = some (.int .i64 (p : Int)) := hnode3.cell 3
  have d4 : w3.cell? ⟨w.heap.size + 1, 4, none⟩ = some (.int .i64 m) := hnode3.cell 4
  have hz2 : w.heap.size ≤ W2.heap.size := by rw [Hs2.out]; omega
  have hz3 := hb3.size
  have hcap := ho3.len_le
  have Hb3 := Lib.hid (Hb2.out.trans (hb3.mono hz2))
  have Hb23 := Lib.hid hb3
  have Ho3 := Lib.hid (ho3.base_ hz2)
  clear ho3 hb3 hbox3 hnode3
  by_cases hp : p ≤ q.length
  · have hmin : min (p : Int) (q.length : Int) = p := by omega
    have Ht : Hid (min p q.length = p) := Lib.hid (by omega)
    have htl := hp
    clear hp
    rcases Ho3.out with ⟨hA, hc0, hq0⟩ | ⟨g, o', cs, hA, _⟩
    · subst hA hc0
      have hq1 : q.length = 0 := by rw [hq0]; rfl
      have ht0 : p = 0 := by omega
      clear hq0
      subst ht0
      rw [hq1]
      go_wp2_with fail
      go_ret
      exact ⟨none, 0, ret_slice (by rw [hF.out, List.length_drop, Ht.out]; omega), .inl ⟨rfl, rfl, List.eq_nil_of_length_eq_zero (by rw [hF.out, List.length_drop]; omega)⟩, Hb3.out⟩
    · subst hA
      have hd := Ho3.out.drop p htl
      have hd0 : cR ≤ p → OwnV w3 w.heap.size (some ⟨g, o', none⟩) 0 (q.drop p) := Ho3.out.drop0 p htl
      have Hd := Lib.hid hd
      have Hd0 := Lib.hid hd0
      clear hd hd0
      by_cases hct : cR = p
      · have Hct := Lib.hid hct
        have hqt : q.length = p := by omega
        subst hct
        rw [hqt]
        clear hqt
        go_wp2_with fail
        go_ret
        exact ⟨some ⟨g, o', none⟩, 0, ret_slice (by rw [hF.out, List.length_drop, Ht.out]; omega), by rw [hF.out, Ht.out]; exact Hd0.out (by omega), Hb3.out⟩
      · go_wp2_with fail
        go_ret
        exact ⟨some ⟨g, o' + p, none⟩, cR - p, ret_slice (by rw [hF.out, List.length_drop, Ht.out] <;> omega), by rw [hF.out, Ht.out]; exact Hd.out, Hb3.out⟩
  · have hmin : min (p : Int) (q.length : Int) = q.length := by omega
    obtain ⟨t, ht⟩ : ∃ t, q.length = t := ⟨_, rfl⟩
    have Ht : Hid (min p q.length = t) := Lib.hid (by omega)
    have hmin2 : min (p : Int) (t : Int) = t := by omega
    have htl : t ≤ q.length := by omega
    have hpt : ¬ p ≤ t := by omega
    rw [ht]
    clear hp hmin
    rcases Ho3.out with ⟨hA, hc0, hq0⟩ | ⟨g, o', cs, hA, _⟩
    · subst hA hc0
      have hq1 : q.length = 0 := by rw [hq0]; rfl
      have ht0 : t = 0 := by omega
      clear hq0
      subst ht0
      go_wp2_with fail
      go_ret
      exact ⟨none, 0, ret_slice (by rw [hF.out, List.length_drop, Ht.out]; omega), .inl ⟨rfl, rfl, List.eq_nil_of_length_eq_zero (by rw [hF.out, List.length_drop]; omega)⟩, Hb3.out⟩
    · subst hA
      have hd := Ho3.out.drop t htl
      have hd0 : cR ≤ t → OwnV w3 w.heap.size (some ⟨g, o', none⟩) 0 (q.drop t) := Ho3.out.drop0 t htl
      have Hd := Lib.hid hd
      have Hd0 := Lib.hid hd0
      clear hd hd0
      by_cases hct : cR = t
      · have Hct := Lib.hid hct
        have hqt : q.length = t := by omega
        subst hct
        clear hqt
        go_wp2_with fail
        go_ret
        exact ⟨some ⟨g, o', none⟩, 0, ret_slice (by rw [hF.out, List.length_drop, Ht.out]; omega), by rw [hF.out, Ht.out]; exact Hd0.out (by omega), Hb3.out⟩
      · go_wp2_with fail
        go_ret
        exact ⟨some ⟨g, o' + t, none⟩, cR - t, ret_slice (by rw [hF.out, List.length_drop, Ht.out] <;> omega), by rw [hF.out, Ht.out]; exact Hd.out, Hb3.out⟩

set_option maxRecDepth 100000 in
set_option maxHeartbeats 6400000 in
theorem lsWhile {l : List Nd} {src : List (List Int)} {i j : Nat} {n m : Int} {q z : List Int} (A : Option Addr) (c : Nat) (As : Option Addr) (ca : Nat) (w : World) (B : Nat) (h : RdN w B A l) (hB : B ≤ w.heap.size) (hn : l.length ≤ 1048576)
    (hx : l[i]? = some ⟨5, (j : Int), -1, n, m⟩)
    (hi : ∀ W, Below w.heap.size w W → Calls Try.prog 57 #[.agg #[.slice A l.length c], .slice As src.length ca, .int .i64 (j : Int)] W fun e w' => ∃ R cR, e = .returned (.slice R q.length cR) ∧ OwnV w' W.heap.size R cR q ∧ Below W.heap.size W w')
    (iq : Items q) (lq : q.length ≤ 65536) (hF : Hid (z = q.take (frst q n))) :
    Calls Try.prog 57 #[.agg #[.slice A l.length c], .slice As src.length ca, .int .i64 i] w fun e w' => ∃ R cR, e = .returned (.slice R z.length cR) ∧ OwnV w' w.heap.size R cR z ∧ Below w.heap.size w w' := by
  have _u1 := hn
  have _u2 := lq
  have _u3 := iq
  clear _u1 _u2 _u3
  have hlt : i < l.length := (List.getElem?_eq_some_iff.1 hx).1
  have hb0 := (Below.refl w.heap.size w).alloc (Nat.le_refl _) (.cells #[.slice A l.length c] 32)
  obtain ⟨b, o, y, rfl, hbB, hy, hc⟩ := (h.below hb0 (by omega)).at_ hlt
  obtain rfl := Option.some.inj (hx.symm.trans hy)
  obtain ⟨c0, c1, c2, c3, c4⟩ := hc
  simp only at c0 c1 c2 c3 c4
  obtain ⟨W2, hW2⟩ : ∃ W2 : World, W2 = (w.alloc (.cells #[.slice (some ⟨b, o, none⟩) l.length c] 32)).alloc (.cells #[.int .i64 5, .int .i64 (j : Int), .int .i64 (-1), .int .i64 n, .int .i64 m] 69) := ⟨_, rfl⟩
  have hb2 : Below w.heap.size w W2 := by rw [hW2]; exact ((Below.refl _ _).alloc (Nat.le_refl _) _).alloc (by simp) _
  have hs2 : W2.heap.size = w.heap.size + 2 := by rw [hW2]; simp
  have hbox : Bk W2 w.heap.size 32 [.slice (some ⟨b, o, none⟩) l.length c] := by rw [hW2]; exact (Bk.new _ _ [_]).alloc _
  have hnode : Bk W2 (w.heap.size + 1) 69 [.int .i64 5, .int .i64 (j : Int), .int .i64 (-1), .int .i64 n, .int .i64 m] := by
    rw [hW2]
    have := Bk.new (w.alloc (.cells #[.slice (some ⟨b, o, none⟩) l.length c] 32)) 69 [.int .i64 5, .int .i64 (j : Int), .int .i64 (-1), .int .i64 n, .int .i64 m]
    simpa using this
  have HW2 := Lib.hid hW2
  have Hb2 := Lib.hid hb2
  have Hbox := Lib.hid hbox
  have Hnode := Lib.hid hnode
  have Hs2 := Lib.hid hs2
  have Hi := Lib.hid hi
  have Iq := Lib.hid iq
  clear hx hy h hb0 hi iq hW2 hb2 hbox hnode hs2
  go_enter Try.func57, Try.ntmps57
  go_wp2_with fail
  rw [← HW2.out]
  refine (Hi.out W2 Hb2.out).mono ?_
  rintro e w3 ⟨R, cR, rfl, ho3, hb3⟩
  have hbox3 := Hbox.out.below hb3 Hbox.out.lt
  have hnode3 := Hnode.out.below hb3 Hnode.out.lt
  have e0 : w3.cell? ⟨w.heap.size, 0, none⟩ = some (.slice (some ⟨b, o, none⟩) l.length c) := hbox3.cell 0
  have d0 : w3.cell? ⟨w.heap.size + 1, 0, none⟩ = some (.int .i64 5) := hnode3.cell 0
  have d1 : w3.cell? ⟨w.heap.size + 1, 1, none⟩ = some (.int .i64 (j : Int)) := hnode3.cell 1
  have d2 : w3.cell? ⟨w.heap.size + 1, 2, none⟩ = some (.int .i64 (-1)) := hnode3.cell 2
  have d3 : w3.cell? ⟨w.heap.size + 1, 3, none⟩ = some (.int .i64 n) := hnode3.cell 3
  have d4 : w3.cell? ⟨w.heap.size + 1, 4, none⟩ = some (.int .i64 m) := hnode3.cell 4
  have hz2 : w.heap.size ≤ W2.heap.size := by rw [Hs2.out]; omega
  have hz3 := hb3.size
  have hcap := ho3.len_le
  have Hb3 := Lib.hid (Hb2.out.trans (hb3.mono hz2))
  have Hb23 := Lib.hid hb3
  have Ho3 := Lib.hid (ho3.base_ hz2)
  clear ho3 hb3 hbox3 hnode3
  go_wp2_with fail
  refine (specFirstAt_any R cR q n w3 w3.heap.size Ho3.out.rd (by omega)).mono ?_
  rintro e w4 ⟨rfl, rfl⟩
  have hfl := frst_le q n
  obtain ⟨t, ht⟩ : ∃ t, frst q n = t := ⟨_, rfl⟩
  rw [ht] at hfl
  rw [ht]
  have htl := hfl
  have Ht := Lib.hid ht
  clear ht hfl
  go_wp2_with fail
  go_ret
  exact ⟨R, cR, ret_slice (by rw [hF.out, List.length_take, Ht.out]; omega), by rw [hF.out]; exact Ho3.out.take _, Hb3.out⟩

set_option maxRecDepth 100000 in
set_option maxHeartbeats 6400000 in
theorem lsSkip {l : List Nd} {src : List (List Int)} {i j : Nat} {n m : Int} {q z : List Int} (A : Option Addr) (c : Nat) (As : Option Addr) (ca : Nat) (w : World) (B : Nat) (h : RdN w B A l) (hB : B ≤ w.heap.size) (hn : l.length ≤ 1048576)
    (hx : l[i]? = some ⟨6, (j : Int), -1, n, m⟩)
    (hi : ∀ W, Below w.heap.size w W → Calls Try.prog 57 #[.agg #[.slice A l.length c], .slice As src.length ca, .int .i64 (j : Int)] W fun e w' => ∃ R cR, e = .returned (.slice R q.length cR) ∧ OwnV w' W.heap.size R cR q ∧ Below W.heap.size W w')
    (iq : Items q) (lq : q.length ≤ 65536) (hF : Hid (z = q.drop (frst q n))) :
    Calls Try.prog 57 #[.agg #[.slice A l.length c], .slice As src.length ca, .int .i64 i] w fun e w' => ∃ R cR, e = .returned (.slice R z.length cR) ∧ OwnV w' w.heap.size R cR z ∧ Below w.heap.size w w' := by
  have _u1 := hn
  have _u2 := lq
  have _u3 := iq
  clear _u1 _u2 _u3
  have hlt : i < l.length := (List.getElem?_eq_some_iff.1 hx).1
  have hb0 := (Below.refl w.heap.size w).alloc (Nat.le_refl _) (.cells #[.slice A l.length c] 32)
  obtain ⟨b, o, y, rfl, hbB, hy, hc⟩ := (h.below hb0 (by omega)).at_ hlt
  obtain rfl := Option.some.inj (hx.symm.trans hy)
  obtain ⟨c0, c1, c2, c3, c4⟩ := hc
  simp only at c0 c1 c2 c3 c4
  obtain ⟨W2, hW2⟩ : ∃ W2 : World, W2 = (w.alloc (.cells #[.slice (some ⟨b, o, none⟩) l.length c] 32)).alloc (.cells #[.int .i64 6, .int .i64 (j : Int), .int .i64 (-1), .int .i64 n, .int .i64 m] 69) := ⟨_, rfl⟩
  have hb2 : Below w.heap.size w W2 := by rw [hW2]; exact ((Below.refl _ _).alloc (Nat.le_refl _) _).alloc (by simp) _
  have hs2 : W2.heap.size = w.heap.size + 2 := by rw [hW2]; simp
  have hbox : Bk W2 w.heap.size 32 [.slice (some ⟨b, o, none⟩) l.length c] := by rw [hW2]; exact (Bk.new _ _ [_]).alloc _
  have hnode : Bk W2 (w.heap.size + 1) 69 [.int .i64 6, .int .i64 (j : Int), .int .i64 (-1), .int .i64 n, .int .i64 m] := by
    rw [hW2]
    have := Bk.new (w.alloc (.cells #[.slice (some ⟨b, o, none⟩) l.length c] 32)) 69 [.int .i64 6, .int .i64 (j : Int), .int .i64 (-1), .int .i64 n, .int .i64 m]
    simpa using this
  have HW2 := Lib.hid hW2
  have Hb2 := Lib.hid hb2
  have Hbox := Lib.hid hbox
  have Hnode := Lib.hid hnode
  have Hs2 := Lib.hid hs2
  have Hi := Lib.hid hi
  have Iq := Lib.hid iq
  clear hx hy h hb0 hi iq hW2 hb2 hbox hnode hs2
  go_enter Try.func57, Try.ntmps57
  go_wp2_with fail
  rw [← HW2.out]
  refine (Hi.out W2 Hb2.out).mono ?_
  rintro e w3 ⟨R, cR, rfl, ho3, hb3⟩
  have hbox3 := Hbox.out.below hb3 Hbox.out.lt
  have hnode3 := Hnode.out.below hb3 Hnode.out.lt
  have e0 : w3.cell? ⟨w.heap.size, 0, none⟩ = some (.slice (some ⟨b, o, none⟩) l.length c) := hbox3.cell 0
  have d0 : w3.cell? ⟨w.heap.size + 1, 0, none⟩ = some (.int .i64 6) := hnode3.cell 0
  have d1 : w3.cell? ⟨w.heap.size + 1, 1, none⟩ = some (.int .i64 (j : Int)) := hnode3.cell 1
  have d2 : w3.cell? ⟨w.heap.size + 1, 2, none⟩ = some (.int .i64 (-1)) := hnode3.cell 2
  have d3 : w3.cell? ⟨w.heap.size + 1, 3, none⟩ = some (.int .i64 n) := hnode3.cell 3
  have d4 : w3.cell? ⟨w.heap.size + 1, 4, none⟩ = some (.int .i64 m) := hnode3.cell 4
  have hz2 : w.heap.size ≤ W2.heap.size := by rw [Hs2.out]; omega
  have hz3 := hb3.size
  have hcap := ho3.len_le
  have Hb3 := Lib.hid (Hb2.out.trans (hb3.mono hz2))
  have Hb23 := Lib.hid hb3
  have Ho3 := Lib.hid (ho3.base_ hz2)
  clear ho3 hb3 hbox3 hnode3
  go_wp2_with fail
  refine (specFirstAt_any R cR q n w3 w3.heap.size Ho3.out.rd (by omega)).mono ?_
  rintro e w4 ⟨rfl, rfl⟩
  have hfl := frst_le q n
  obtain ⟨t, ht⟩ : ∃ t, frst q n = t := ⟨_, rfl⟩
  rw [ht] at hfl
  rw [ht]
  have htl := hfl
  have Ht := Lib.hid ht
  clear ht hfl
  rcases Ho3.out with ⟨hA, hc0, hq0⟩ | ⟨g, o', cs, hA, _⟩
  · subst hA hc0
    have hq1 : q.length = 0 := by rw [hq0]; rfl
    have ht0 : t = 0 := by omega
    clear hq0
    subst ht0
    rw [hq1]
    go_wp2_with fail
    go_ret
    exact ⟨none, 0, ret_slice (by rw [hF.out, List.length_drop, Ht.out]; omega), .inl ⟨rfl, rfl, List.eq_nil_of_length_eq_zero (by rw [hF.out, List.length_drop]; omega)⟩, Hb3.out⟩
  · subst hA
    have hd := Ho3.out.drop t htl
    have hd0 : cR ≤ t → OwnV w3 w.heap.size (some ⟨g, o', none⟩) 0 (q.drop t) := Ho3.out.drop0 t htl
    have Hd := Lib.hid hd
    have Hd0 := Lib.hid hd0
    clear hd hd0
    by_cases hct : cR = t
    · have Hct := Lib.hid hct
      have hqt : q.length = t := by omega
      subst hct
      rw [hqt]
      clear hqt
      go_wp2_with fail
      go_ret
      exact ⟨some ⟨g, o', none⟩, 0, ret_slice (by rw [hF.out, List.length_drop, Ht.out]; omega), by rw [hF.out, Ht.out]; exact Hd0.out (by omega), Hb3.out⟩
    · go_wp2_with fail
      go_ret
      exact ⟨some ⟨g, o' + t, none⟩, cR - t, ret_slice (by rw [hF.out, List.length_drop, Ht.out] <;> omega), by rw [hF.out, Ht.out]; exact Hd.out, Hb3.out⟩

end Go.Proofs.Ytkjhncohanfciaa

/- Contracts: the list of a node with one below, by the program. -/
namespace Go.Proofs.Ytkjhncohanfciaa
open Go.RowKit

set_option maxRecDepth 100000 in
set_option maxHeartbeats 6400000 in
theorem implStem_map (R : Option Addr) (cR : Nat) (q z : List Int) (xa xb : Int) (n m : Int) (w : World) (base : Nat) (ha : OwnV w base R cR q) (hbase : base ≤ w.heap.size) (lq : q.length ≤ 65536) (iq : Items q) (hnb : 0 ≤ n ∧ n ≤ 99) (hmb : 0 ≤ m ∧ m ≤ 99) (hF : Hid (z = mapL n m q)) :
    Calls Try.prog 65 #[.agg #[.int .i64 1, .int .i64 xa, .int .i64 xb, .int .i64 n, .int .i64 m], .slice R q.length cR] w fun e w' => ∃ R' c', e = .returned (.slice R' z.length c') ∧ OwnV w' base R' c' z ∧ w.grownBy w' (rowOf R) := by
  have _u1 := lq
  have _u2 := iq
  have _u3 := hbase
  clear _u1 _u2 _u3
  obtain ⟨w3, hW3⟩ : ∃ w3 : World, w3 = w.alloc (.cells #[.int .i64 1, .int .i64 xa, .int .i64 xb, .int .i64 n, .int .i64 m] 69) := ⟨_, rfl⟩
  have hb2 : Below w.heap.size w w3 := by rw [hW3]; exact (Below.refl _ _).alloc (Nat.le_refl _) _
  have Ho3 := Lib.hid (ha.below hb2 (Nat.le_refl _))
  have hcap := ha.len_le
  have Iq := Lib.hid iq
  have HW3 := Lib.hid hW3
  have hz3 := hb2.size
  have Hb2 := Lib.hid hb2
  have Hb3 := Lib.hid (grown_below hb2 (rowOf R))
  clear ha iq hW3 hb2
  go_enter Try.func65, Try.ntmps65
  go_wp2_with fail
  rw [← HW3.out]
  refine (implMapped_any R cR q n m w3 w3.heap.size Ho3.out.rd (Nat.le_refl _) lq Iq.out hnb hmb).mono ?_
  rintro e w4 ⟨R4, c4, rfl, ho4, hb4⟩
  have Ho4 := Lib.hid (ho4.ownV.base_ (Nat.le_trans hbase hz3))
  have Hb4 := Lib.hid (grown_below (Hb2.out.trans (hb4.mono hz3)) (rowOf R))
  clear ho4 hb4
  go_wp2_with fail
  go_ret
  exact ⟨R4, c4, ret_slice (by rw [hF.out]), by rw [hF.out]; exact Ho4.out, Hb4.out⟩

set_option maxRecDepth 100000 in
set_option maxHeartbeats 6400000 in
theorem implStem_filter (R : Option Addr) (cR : Nat) (q z : List Int) (xa xb : Int) (n m : Int) (w : World) (base : Nat) (ha : OwnV w base R cR q) (hbase : base ≤ w.heap.size) (lq : q.length ≤ 65536) (iq : Items q) (hnb : 1 ≤ n ∧ n ≤ 99) (hF : Hid (z = filL n m q)) :
    Calls Try.prog 65 #[.agg #[.int .i64 2, .int .i64 xa, .int .i64 xb, .int .i64 n, .int .i64 m], .slice R q.length cR] w fun e w' => ∃ R' c', e = .returned (.slice R' z.length c') ∧ OwnV w' base R' c' z ∧ w.grownBy w' (rowOf R) := by
  have _u1 := lq
  have _u2 := iq
  have _u3 := hbase
  clear _u1 _u2 _u3
  obtain ⟨w3, hW3⟩ : ∃ w3 : World, w3 = w.alloc (.cells #[.int .i64 2, .int .i64 xa, .int .i64 xb, .int .i64 n, .int .i64 m] 69) := ⟨_, rfl⟩
  have hb2 : Below w.heap.size w w3 := by rw [hW3]; exact (Below.refl _ _).alloc (Nat.le_refl _) _
  have Ho3 := Lib.hid (ha.below hb2 (Nat.le_refl _))
  have hcap := ha.len_le
  have Iq := Lib.hid iq
  have HW3 := Lib.hid hW3
  have hz3 := hb2.size
  have Hb2 := Lib.hid hb2
  have Hb3 := Lib.hid (grown_below hb2 (rowOf R))
  clear ha iq hW3 hb2
  go_enter Try.func65, Try.ntmps65
  go_wp2_with fail
  rw [← HW3.out]
  refine (implFiltered_any R cR q n m w3 w3.heap.size Ho3.out.rd (Nat.le_refl _) lq Iq.out hnb).mono ?_
  rintro e w4 ⟨R4, c4, rfl, ho4, hb4⟩
  have Ho4 := Lib.hid (ho4.ownV.base_ (Nat.le_trans hbase hz3))
  have Hb4 := Lib.hid (grown_below (Hb2.out.trans (hb4.mono hz3)) (rowOf R))
  clear ho4 hb4
  go_wp2_with fail
  go_ret
  exact ⟨R4, c4, ret_slice (by rw [hF.out]), by rw [hF.out]; exact Ho4.out, Hb4.out⟩

set_option maxRecDepth 100000 in
set_option maxHeartbeats 6400000 in
theorem implStem_scan (R : Option Addr) (cR : Nat) (q z : List Int) (xa xb : Int) (n m : Int) (w : World) (base : Nat) (ha : OwnV w base R cR q) (hbase : base ≤ w.heap.size) (lq : q.length ≤ 65536) (iq : Items q) (hF : Hid (z = scanL 0 q)) :
    Calls Try.prog 65 #[.agg #[.int .i64 11, .int .i64 xa, .int .i64 xb, .int .i64 n, .int .i64 m], .slice R q.length cR] w fun e w' => ∃ R' c', e = .returned (.slice R' z.length c') ∧ OwnV w' base R' c' z ∧ w.grownBy w' (rowOf R) := by
  have _u1 := lq
  have _u2 := iq
  have _u3 := hbase
  clear _u1 _u2 _u3
  obtain ⟨w3, hW3⟩ : ∃ w3 : World, w3 = w.alloc (.cells #[.int .i64 11, .int .i64 xa, .int .i64 xb, .int .i64 n, .int .i64 m] 69) := ⟨_, rfl⟩
  have hb2 : Below w.heap.size w w3 := by rw [hW3]; exact (Below.refl _ _).alloc (Nat.le_refl _) _
  have Ho3 := Lib.hid (ha.below hb2 (Nat.le_refl _))
  have hcap := ha.len_le
  have Iq := Lib.hid iq
  have HW3 := Lib.hid hW3
  have hz3 := hb2.size
  have Hb2 := Lib.hid hb2
  have Hb3 := Lib.hid (grown_below hb2 (rowOf R))
  clear ha iq hW3 hb2
  go_enter Try.func65, Try.ntmps65
  go_wp2_with fail
  rw [← HW3.out]
  refine (implScanned_any R cR q  w3 w3.heap.size Ho3.out.rd (Nat.le_refl _) lq Iq.out).mono ?_
  rintro e w4 ⟨R4, c4, rfl, ho4, hb4⟩
  have Ho4 := Lib.hid (ho4.ownV.base_ (Nat.le_trans hbase hz3))
  have Hb4 := Lib.hid (grown_below (Hb2.out.trans (hb4.mono hz3)) (rowOf R))
  clear ho4 hb4
  go_wp2_with fail
  go_ret
  exact ⟨R4, c4, ret_slice (by rw [hF.out]), by rw [hF.out]; exact Ho4.out, Hb4.out⟩

set_option maxRecDepth 100000 in
set_option maxHeartbeats 6400000 in
theorem implStem_while (R : Option Addr) (cR : Nat) (q z : List Int) (xa xb : Int) (n m : Int) (w : World) (base : Nat) (ha : OwnV w base R cR q) (hbase : base ≤ w.heap.size) (lq : q.length ≤ 65536) (iq : Items q) (hF : Hid (z = q.take (frst q n))) :
    Calls Try.prog 65 #[.agg #[.int .i64 5, .int .i64 xa, .int .i64 xb, .int .i64 n, .int .i64 m], .slice R q.length cR] w fun e w' => ∃ R' c', e = .returned (.slice R' z.length c') ∧ OwnV w' base R' c' z ∧ w.grownBy w' (rowOf R) := by
  have _u1 := lq
  have _u2 := iq
  have _u3 := hbase
  clear _u1 _u2 _u3
  obtain ⟨w3, hW3⟩ : ∃ w3 : World, w3 = w.alloc (.cells #[.int .i64 5, .int .i64 xa, .int .i64 xb, .int .i64 n, .int .i64 m] 69) := ⟨_, rfl⟩
  have hb2 : Below w.heap.size w w3 := by rw [hW3]; exact (Below.refl _ _).alloc (Nat.le_refl _) _
  have Ho3 := Lib.hid (ha.below hb2 (Nat.le_refl _))
  have hcap := ha.len_le
  have Iq := Lib.hid iq
  have HW3 := Lib.hid hW3
  have hz3 := hb2.size
  have Hb2 := Lib.hid hb2
  have Hb3 := Lib.hid (grown_below hb2 (rowOf R))
  clear ha iq hW3 hb2
  go_enter Try.func65, Try.ntmps65
  go_wp2_with fail
  rw [← HW3.out]
  refine (implFirstGreat_any R cR q n w3 w3.heap.size Ho3.out.rd (by omega)).mono ?_
  rintro e w4 ⟨rfl, rfl⟩
  have hfl := frst_le q n
  obtain ⟨t, ht⟩ : ∃ t, frst q n = t := ⟨_, rfl⟩
  rw [ht] at hfl
  rw [ht]
  have htl := hfl
  have Ht := Lib.hid ht
  clear ht hfl
  go_wp2_with fail
  go_ret
  exact ⟨R, cR, ret_slice (by rw [hF.out, List.length_take, Ht.out]; omega), by rw [hF.out]; exact Ho3.out.take _, Hb3.out⟩

set_option maxRecDepth 100000 in
set_option maxHeartbeats 6400000 in
theorem implStem_skip (R : Option Addr) (cR : Nat) (q z : List Int) (xa xb : Int) (n m : Int) (w : World) (base : Nat) (ha : OwnV w base R cR q) (hbase : base ≤ w.heap.size) (lq : q.length ≤ 65536) (iq : Items q) (hF : Hid (z = q.drop (frst q n))) :
    Calls Try.prog 65 #[.agg #[.int .i64 6, .int .i64 xa, .int .i64 xb, .int .i64 n, .int .i64 m], .slice R q.length cR] w fun e w' => ∃ R' c', e = .returned (.slice R' z.length c') ∧ OwnV w' base R' c' z ∧ w.grownBy w' (rowOf R) := by
  have _u1 := lq
  have _u2 := iq
  have _u3 := hbase
  clear _u1 _u2 _u3
  obtain ⟨w3, hW3⟩ : ∃ w3 : World, w3 = w.alloc (.cells #[.int .i64 6, .int .i64 xa, .int .i64 xb, .int .i64 n, .int .i64 m] 69) := ⟨_, rfl⟩
  have hb2 : Below w.heap.size w w3 := by rw [hW3]; exact (Below.refl _ _).alloc (Nat.le_refl _) _
  have Ho3 := Lib.hid (ha.below hb2 (Nat.le_refl _))
  have hcap := ha.len_le
  have Iq := Lib.hid iq
  have HW3 := Lib.hid hW3
  have hz3 := hb2.size
  have Hb2 := Lib.hid hb2
  have Hb3 := Lib.hid (grown_below hb2 (rowOf R))
  clear ha iq hW3 hb2
  go_enter Try.func65, Try.ntmps65
  go_wp2_with fail
  rw [← HW3.out]
  refine (implFirstGreat_any R cR q n w3 w3.heap.size Ho3.out.rd (by omega)).mono ?_
  rintro e w4 ⟨rfl, rfl⟩
  have hfl := frst_le q n
  obtain ⟨t, ht⟩ : ∃ t, frst q n = t := ⟨_, rfl⟩
  rw [ht] at hfl
  rw [ht]
  have htl := hfl
  have Ht := Lib.hid ht
  clear ht hfl
  rcases Ho3.out with ⟨hA, hc0, hq0⟩ | ⟨g, o', cs, hA, _⟩
  · subst hA hc0
    have hq1 : q.length = 0 := by rw [hq0]; rfl
    have ht0 : t = 0 := by omega
    clear hq0
    subst ht0
    rw [hq1]
    go_wp2_with fail
    go_ret
    exact ⟨none, 0, ret_slice (by rw [hF.out, List.length_drop, Ht.out]; omega), .inl ⟨rfl, rfl, List.eq_nil_of_length_eq_zero (by rw [hF.out, List.length_drop]; omega)⟩, Hb3.out⟩
  · subst hA
    have hd := Ho3.out.drop t htl
    have hd0 : cR ≤ t → OwnV w3 base (some ⟨g, o', none⟩) 0 (q.drop t) := Ho3.out.drop0 t htl
    have Hd := Lib.hid hd
    have Hd0 := Lib.hid hd0
    clear hd hd0
    by_cases hct : cR = t
    · have Hct := Lib.hid hct
      have hqt : q.length = t := by omega
      subst hct
      rw [hqt]
      clear hqt
      go_wp2_with fail
      go_ret
      exact ⟨some ⟨g, o', none⟩, 0, ret_slice (by rw [hF.out, List.length_drop, Ht.out]; omega), by rw [hF.out, Ht.out]; exact Hd0.out (by omega), Hb3.out⟩
    · go_wp2_with fail
      go_ret
      exact ⟨some ⟨g, o' + t, none⟩, cR - t, ret_slice (by rw [hF.out, List.length_drop, Ht.out] <;> omega), by rw [hF.out, Ht.out]; exact Hd.out, Hb3.out⟩

set_option maxRecDepth 100000 in
set_option maxHeartbeats 6400000 in
theorem implStem_take (R : Option Addr) (cR : Nat) (q z : List Int) (xa xb : Int) (p : Nat) (m : Int) (w : World) (base : Nat) (ha : OwnV w base R cR q) (hbase : base ≤ w.heap.size) (lq : q.length ≤ 65536) (iq : Items q) (hF : Hid (z = q.take p)) :
    Calls Try.prog 65 #[.agg #[.int .i64 3, .int .i64 xa, .int .i64 xb, .int .i64 (p : Int), .int .i64 m], .slice R q.length cR] w fun e w' => ∃ R' c', e = .returned (.slice R' z.length c') ∧ OwnV w' base R' c' z ∧ w.grownBy w' (rowOf R) := by
  have _u1 := lq
  have _u2 := iq
  have _u3 := hbase
  clear _u1 _u2 _u3
  obtain ⟨w3, hW3⟩ : ∃ w3 : World, w3 = w.alloc (.cells #[.int .i64 3, .int .i64 xa, .int .i64 xb, .int .i64 (p : Int), .int .i64 m] 69) := ⟨_, rfl⟩
  have hb2 : Below w.heap.size w w3 := by rw [hW3]; exact (Below.refl _ _).alloc (Nat.le_refl _) _
  have Ho3 := Lib.hid (ha.below hb2 (Nat.le_refl _))
  have hcap := ha.len_le
  have Iq := Lib.hid iq
  have HW3 := Lib.hid hW3
  have hz3 := hb2.size
  have Hb2 := Lib.hid hb2
  have Hb3 := Lib.hid (grown_below hb2 (rowOf R))
  clear ha iq hW3 hb2
  go_enter Try.func65, Try.ntmps65
  by_cases hp : p ≤ q.length
  · have hmin : min (p : Int) (q.length : Int) = p := by omega
    go_wp2_with fail
    rw [← HW3.out]
    go_ret
    exact ⟨R, cR, ret_slice (by rw [hF.out, List.length_take]; omega), by rw [hF.out]; exact Ho3.out.take p, Hb3.out⟩
  · have hmin : min (p : Int) (q.length : Int) = q.length := by omega
    go_wp2_with fail
    rw [← HW3.out]
    go_ret
    exact ⟨R, cR, ret_slice (by rw [hF.out, List.length_take]; omega), by rw [hF.out]; exact Ho3.out.take p, Hb3.out⟩

set_option maxRecDepth 100000 in
set_option maxHeartbeats 6400000 in
theorem implStem_drop (R : Option Addr) (cR : Nat) (q z : List Int) (xa xb : Int) (p : Nat) (m : Int) (w : World) (base : Nat) (ha : OwnV w base R cR q) (hbase : base ≤ w.heap.size) (lq : q.length ≤ 65536) (iq : Items q) (hF : Hid (z = q.drop (min p q.length))) :
    Calls Try.prog 65 #[.agg #[.int .i64 4, .int .i64 xa, .int .i64 xb, .int .i64 (p : Int), .int .i64 m], .slice R q.length cR] w fun e w' => ∃ R' c', e = .returned (.slice R' z.length c') ∧ OwnV w' base R' c' z ∧ w.grownBy w' (rowOf R) := by
  have _u1 := lq
  have _u2 := iq
  have _u3 := hbase
  clear _u1 _u2 _u3
  obtain ⟨w3, hW3⟩ : ∃ w3 : World, w3 = w.alloc (.cells #[.int .i64 4, .int .i64 xa, .int .i64 xb, .int .i64 (p : Int), .int .i64 m] 69) := ⟨_, rfl⟩
  have hb2 : Below w.heap.size w w3 := by rw [hW3]; exact (Below.refl _ _).alloc (Nat.le_refl _) _
  have Ho3 := Lib.hid (ha.below hb2 (Nat.le_refl _))
  have hcap := ha.len_le
  have Iq := Lib.hid iq
  have HW3 := Lib.hid hW3
  have hz3 := hb2.size
  have Hb2 := Lib.hid hb2
  have Hb3 := Lib.hid (grown_below hb2 (rowOf R))
  clear ha iq hW3 hb2
  go_enter Try.func65, Try.ntmps65
  by_cases hp : p ≤ q.length
  · have hmin : min (p : Int) (q.length : Int) = p := by omega
    have Ht : Hid (min p q.length = p) := Lib.hid (by omega)
    have htl := hp
    clear hp
    rcases Ho3.out with ⟨hA, hc0, hq0⟩ | ⟨g, o', cs, hA, _⟩
    · subst hA hc0
      have hq1 : q.length = 0 := by rw [hq0]; rfl
      have ht0 : p = 0 := by omega
      clear hq0
      subst ht0
      rw [hq1]
      go_wp2_with fail
      first | rw [← HW3.out] | (have h0 := HW3.out; rw [show ((0 : Nat) : Int) = 0 from rfl] at h0; rw [← h0])
      go_ret
      exact ⟨none, 0, ret_slice (by rw [hF.out, List.length_drop, Ht.out]; omega), .inl ⟨rfl, rfl, List.eq_nil_of_length_eq_zero (by rw [hF.out, List.length_drop]; omega)⟩, Hb3.out⟩
    · subst hA
      have hd := Ho3.out.drop p htl
      have hd0 : cR ≤ p → OwnV w3 base (some ⟨g, o', none⟩) 0 (q.drop p) := Ho3.out.drop0 p htl
      have Hd := Lib.hid hd
      have Hd0 := Lib.hid hd0
      clear hd hd0
      by_cases hct : cR = p
      · have Hct := Lib.hid hct
        have hqt : q.length = p := by omega
        subst hct
        rw [hqt]
        clear hqt
        go_wp2_with fail
        first | rw [← HW3.out] | (have h0 := HW3.out; rw [show ((0 : Nat) : Int) = 0 from rfl] at h0; rw [← h0])
        go_ret
        exact ⟨some ⟨g, o', none⟩, 0, ret_slice (by rw [hF.out, List.length_drop, Ht.out]; omega), by rw [hF.out, Ht.out]; exact Hd0.out (by omega), Hb3.out⟩
      · go_wp2_with fail
        first | rw [← HW3.out] | (have h0 := HW3.out; rw [show ((0 : Nat) : Int) = 0 from rfl] at h0; rw [← h0])
        go_ret
        exact ⟨some ⟨g, o' + p, none⟩, cR - p, ret_slice (by rw [hF.out, List.length_drop, Ht.out] <;> omega), by rw [hF.out, Ht.out]; exact Hd.out, Hb3.out⟩
  · have hmin : min (p : Int) (q.length : Int) = q.length := by omega
    obtain ⟨t, ht⟩ : ∃ t, q.length = t := ⟨_, rfl⟩
    have Ht : Hid (min p q.length = t) := Lib.hid (by omega)
    have hmin2 : min (p : Int) (t : Int) = t := by omega
    have htl : t ≤ q.length := by omega
    have hpt : ¬ p ≤ t := by omega
    rw [ht]
    clear hp hmin
    rcases Ho3.out with ⟨hA, hc0, hq0⟩ | ⟨g, o', cs, hA, _⟩
    · subst hA hc0
      have hq1 : q.length = 0 := by rw [hq0]; rfl
      have ht0 : t = 0 := by omega
      clear hq0
      subst ht0
      go_wp2_with fail
      first | rw [← HW3.out] | (have h0 := HW3.out; rw [show ((0 : Nat) : Int) = 0 from rfl] at h0; rw [← h0])
      go_ret
      exact ⟨none, 0, ret_slice (by rw [hF.out, List.length_drop, Ht.out]; omega), .inl ⟨rfl, rfl, List.eq_nil_of_length_eq_zero (by rw [hF.out, List.length_drop]; omega)⟩, Hb3.out⟩
    · subst hA
      have hd := Ho3.out.drop t htl
      have hd0 : cR ≤ t → OwnV w3 base (some ⟨g, o', none⟩) 0 (q.drop t) := Ho3.out.drop0 t htl
      have Hd := Lib.hid hd
      have Hd0 := Lib.hid hd0
      clear hd hd0
      by_cases hct : cR = t
      · have Hct := Lib.hid hct
        have hqt : q.length = t := by omega
        subst hct
        clear hqt
        go_wp2_with fail
        first | rw [← HW3.out] | (have h0 := HW3.out; rw [show ((0 : Nat) : Int) = 0 from rfl] at h0; rw [← h0])
        go_ret
        exact ⟨some ⟨g, o', none⟩, 0, ret_slice (by rw [hF.out, List.length_drop, Ht.out]; omega), by rw [hF.out, Ht.out]; exact Hd0.out (by omega), Hb3.out⟩
      · go_wp2_with fail
        first | rw [← HW3.out] | (have h0 := HW3.out; rw [show ((0 : Nat) : Int) = 0 from rfl] at h0; rw [← h0])
        go_ret
        exact ⟨some ⟨g, o' + t, none⟩, cR - t, ret_slice (by rw [hF.out, List.length_drop, Ht.out] <;> omega), by rw [hF.out, Ht.out]; exact Hd.out, Hb3.out⟩

end Go.Proofs.Ytkjhncohanfciaa

/- Contracts: numbers of the call's own are sorted, and equal neighbours left out. -/
namespace Go.Proofs.Ytkjhncohanfciaa
open Go.RowKit Go.Sort

/-- The slice at A holds the numbers l from the beginning of a block of the call's own, with room for c. -/
def RowJ (w : World) (base : Nat) (A : Option Addr) (c : Nat) (l : List Int) : Prop :=
  ∃ g cs, A = some ⟨g, 0, none⟩ ∧ base ≤ g ∧ Bk w g 3 cs ∧ l.length ≤ c ∧ ∀ (k : Nat) (x : Int), l[k]? = some x → cs[k]? = some (.int .i64 x)
theorem OwnJ.rowJ {w : World} {base c : Nat} {A : Option Addr} {l : List Int} (h : OwnJ w base A c l) (hl : 0 < l.length) : RowJ w base A c l := by
  obtain ⟨g, cs, e, h1, h2, h3, h4⟩ := h.bk hl
  exact ⟨g, cs, e, h1, h2, h3, h4⟩
theorem RowJ.ownI {w : World} {base c : Nat} {A : Option Addr} {l : List Int} (h : RowJ w base A c l) : OwnI w base w.heap.size A l := fun _ => by
  obtain ⟨g, cs, e, hb, hbk, _, hc⟩ := h
  exact ⟨g, 0, cs, e, hb, hbk.lt, hbk, fun k x hx => by rw [Nat.zero_add]; exact hc k x hx⟩
theorem RowJ.row {w : World} {base c : Nat} {A : Option Addr} {l : List Int} (h : RowJ w base A c l) : ∀ g, rowOf A = some g → base ≤ g := fun g hg => by
  obtain ⟨g', cs, e, hb, _⟩ := h
  subst e
  have : g' = g := Option.some.inj hg
  omega
theorem RowJ.holds {w : World} {g : Nat} {cs : List Value} {l : List Int} (hb : Bk w g 3 cs) (hc : ∀ (k : Nat) (x : Int), l[k]? = some x → cs[k]? = some (.int .i64 x)) : Holds (Value.int .i64) w g 0 l.toArray := fun j hj => by
  have hj' : j < l.length := by simpa using hj
  rw [Nat.zero_add]
  refine ⟨?_, hb.free j⟩
  rw [hb.cell, hc j l[j] (List.getElem?_eq_getElem hj')]
  simp [hj']

/-- The row after numbers were written over its first ones. -/
theorem put_row {w : World} {g : Nat} {cs : List Value} (hb : Bk w g 3 cs) (d : List Int) (hd : d.length ≤ cs.length) (n : Nat) (os : Array Obj) :
    (∃ cs', Bk (grow (putRow (Value.int .i64) (Go.Sort.ahead w n) g 0 d.toArray) os) g 3 cs' ∧ ∀ (k : Nat) (x : Int), d[k]? = some x → cs'[k]? = some (.int .i64 x)) ∧ w.grownBy (grow (putRow (Value.int .i64) (Go.Sort.ahead w n) g 0 d.toArray) os) (some g) := by
  have hlt := hb.lt
  have hh : w.heap[g]? = some (.cells cs.toArray 3 (0, 0)) := hb
  refine ⟨⟨(putCells (Value.int .i64) 0 d.toArray cs.toArray).toList, ?_, fun k x hx => ?_⟩, ⟨rfl, rfl, rfl, ?_, fun k hk hne => ?_⟩⟩
  · unfold Bk grow putRow mapBlock Go.Sort.ahead
    simp only
    rw [Array.getElem?_append_left (by simpa using hlt), Array.getElem?_modify, if_pos rfl, hh]
    simp [onCells]
  · have hk : k < d.length := (List.getElem?_eq_some_iff.1 hx).1
    simp only [putCells]
    rw [Array.getElem?_toList, Array.getElem?_mapIdx]
    have hk2 : k < cs.toArray.size := by simp; omega
    rw [Array.getElem?_eq_getElem hk2]
    simp only [Option.map_some]
    rw [if_pos (by simp; omega)]
    have : d[k] = x := (List.getElem?_eq_some_iff.1 hx).2
    simp [hk, this]
  · simp [grow, putRow, mapBlock, Go.Sort.ahead]
  · unfold grow putRow mapBlock Go.Sort.ahead
    simp only
    rw [Array.getElem?_append_left (by simpa using hk), Array.getElem?_modify, if_neg (fun e => hne (by rw [e]))]

theorem compact_any (A : Option Addr) (c : Nat) (l : List Int) (w : World) (base : Nat) (h : RowJ w base A c l) (hl : 0 < l.length) (hn : l.length ≤ 1048576) :
    Calls Try.prog 87 #[.slice A l.length c] w fun e w' => e = .returned (.slice A (Lib.compact l).length c) ∧ RowJ w' base A c (Lib.compact l) ∧ w.grownBy w' (rowOf A) := by
  obtain ⟨g, cs, rfl, hb, hbk, hcap, hc⟩ := h
  have hcl := Lib.compact_length_le l
  have hcs : l.length ≤ cs.length := by
    have := (List.getElem?_eq_some_iff.1 (hc (l.length - 1) _ (List.getElem?_eq_getElem (by omega)))).1
    omega
  refine (Try.slices_Compact_int g 0 c l w (RowJ.holds hbk hc) (by omega) hcap).mono ?_
  rintro e w' ⟨he, n, rfl⟩
  obtain ⟨⟨cs', hb', hc'⟩, hg⟩ := put_row hbk (Lib.compact l ++ List.replicate (l.length - (Lib.compact l).length) 0) (by simp; omega) n #[]
  rw [grow_empty] at hb' hg
  exact ⟨he, ⟨g, cs', rfl, hb, hb', by omega, fun k x hx => hc' k x (by rw [List.getElem?_append_left (List.getElem?_eq_some_iff.1 hx).1]; exact hx)⟩, hg⟩

end Go.Proofs.Ytkjhncohanfciaa

/- Contracts: equal neighbours once, by the program: the library's Compact at a slice of the call's own. -/
namespace Go.Proofs.Ytkjhncohanfciaa
open Go.RowKit Go.Sort

theorem put_rowV {w : World} {g o : Nat} {cs : List Value} (hb : Bk w g 3 cs) (d : List Int) (hd : o + d.length ≤ cs.length) (n : Nat) :
    (∃ cs', cs'.length = cs.length ∧ Bk (putRow (Value.int .i64) (Go.Sort.ahead w n) g o d.toArray) g 3 cs' ∧ ∀ (k : Nat) (x : Int), d[k]? = some x → cs'[o + k]? = some (.int .i64 x)) ∧ w.grownBy (putRow (Value.int .i64) (Go.Sort.ahead w n) g o d.toArray) (some g) := by
  have hlt := hb.lt
  have hh : w.heap[g]? = some (.cells cs.toArray 3 (0, 0)) := hb
  refine ⟨⟨(putCells (Value.int .i64) o d.toArray cs.toArray).toList, by simp [putCells], ?_, fun k x hx => ?_⟩, ⟨rfl, rfl, rfl, ?_, fun k hk hne => ?_⟩⟩
  · unfold Bk putRow mapBlock Go.Sort.ahead
    simp only
    rw [Array.getElem?_modify, if_pos rfl, hh]
    simp [onCells]
  · have hk : k < d.length := (List.getElem?_eq_some_iff.1 hx).1
    simp only [putCells]
    rw [Array.getElem?_toList, Array.getElem?_mapIdx]
    have hk2 : o + k < cs.toArray.size := by simp; omega
    rw [Array.getElem?_eq_getElem hk2]
    simp only [Option.map_some]
    rw [if_pos (by simp; omega)]
    have : d[k] = x := (List.getElem?_eq_some_iff.1 hx).2
    simp [hk, this]
  · simp [putRow, mapBlock, Go.Sort.ahead]
  · unfold putRow mapBlock Go.Sort.ahead
    simp only
    rw [Array.getElem?_modify, if_neg (fun e => hne (by rw [e]))]

theorem compactV_any (A : Option Addr) (c : Nat) (l : List Int) (w : World) (base : Nat) (h : OwnV w base A c l) (hn : l.length ≤ 1048576) :
    Calls Try.prog 87 #[.slice A l.length c] w fun e w' => ∃ A' c', e = .returned (.slice A' (Lib.compact l).length c') ∧ OwnV w' base A' c' (Lib.compact l) ∧ w.grownBy w' (rowOf A) := by
  by_cases hl : 0 < l.length
  · rcases h with ⟨_, _, rfl⟩ | ⟨g, o, cs, rfl, hb, hbk, h1, h2, hc⟩
    · simp at hl
    have hcl := Lib.compact_length_le l
    have hH : Holds (Value.int .i64) w g o l.toArray := fun j hj => by
      have hj' : j < l.length := by simpa using hj
      refine ⟨?_, hbk.free _⟩
      rw [hbk.cell, hc j l[j] (List.getElem?_eq_getElem hj')]
      simp [hj']
    refine (Try.slices_Compact_int g o c l w hH (by omega) h2).mono ?_
    rintro e w' ⟨he, n, rfl⟩
    obtain ⟨⟨cs', hcl', hb', hc'⟩, hg⟩ := put_rowV (o := o) hbk (Lib.compact l ++ List.replicate (l.length - (Lib.compact l).length) 0) (by simp; omega) n
    exact ⟨_, c, he, .inr ⟨g, o, cs', rfl, hb, hb', by omega, by omega, fun k x hx => hc' k x (by rw [List.getElem?_append_left (List.getElem?_eq_some_iff.1 hx).1]; exact hx)⟩, hg⟩
  · have hl0 : l = [] := List.eq_nil_of_length_eq_zero (by omega)
    subst hl0
    refine (Try.slices_Compact_int_empty A c w).mono ?_
    rintro e w' ⟨he, rfl⟩
    exact ⟨A, c, he, h, World.grownBy.refl _ _⟩

end Go.Proofs.Ytkjhncohanfciaa

/- Contracts: equal neighbours once, and copies, by the program. -/
namespace Go.Proofs.Ytkjhncohanfciaa
open Go.RowKit

set_option maxRecDepth 100000 in
set_option maxHeartbeats 6400000 in
theorem implStem_once (R : Option Addr) (cR : Nat) (q z : List Int) (xa xb : Int) (n m : Int) (w : World) (base : Nat) (ha : OwnV w base R cR q) (hbase : base ≤ w.heap.size) (lq : q.length ≤ 65536) (iq : Items q) (hF : Hid (z = Lib.compact q)) :
    Calls Try.prog 65 #[.agg #[.int .i64 13, .int .i64 xa, .int .i64 xb, .int .i64 n, .int .i64 m], .slice R q.length cR] w fun e w' => ∃ R' c', e = .returned (.slice R' z.length c') ∧ OwnV w' base R' c' z ∧ w.grownBy w' (rowOf R) := by
  have _u1 := lq
  have _u2 := iq
  have _u3 := hbase
  clear _u1 _u2 _u3
  obtain ⟨w3, hW3⟩ : ∃ w3 : World, w3 = w.alloc (.cells #[.int .i64 13, .int .i64 xa, .int .i64 xb, .int .i64 n, .int .i64 m] 69) := ⟨_, rfl⟩
  have hb2 : Below w.heap.size w w3 := by rw [hW3]; exact (Below.refl _ _).alloc (Nat.le_refl _) _
  have Ho3 := Lib.hid (ha.below hb2 (Nat.le_refl _))
  have hcap := ha.len_le
  have Iq := Lib.hid iq
  have HW3 := Lib.hid hW3
  have hz3 := hb2.size
  have Hb2 := Lib.hid hb2
  have Hb3 := Lib.hid (grown_below hb2 (rowOf R))
  clear ha iq hW3 hb2
  go_enter Try.func65, Try.ntmps65
  go_wp2_with fail
  rw [← HW3.out]
  refine (compactV_any R cR q w3 base Ho3.out (by omega)).mono ?_
  rintro e w4 ⟨R4, c4, rfl, ho4, hg4⟩
  have Ho4 := Lib.hid ho4
  have Hb4 := Lib.hid (grown_of Hb3.out hg4 (.inl rfl))
  clear ho4 hg4
  go_wp2_with fail
  go_ret
  exact ⟨R4, c4, ret_slice (by rw [hF.out]), by rw [hF.out]; exact Ho4.out, Hb4.out⟩

/-- The slice at A, in whatever memory, reads as l; its address is one of a row. -/
theorem cloneI_any (g o c : Nat) (l : List Int) (w : World) (hc : ∀ (k : Nat) (x : Int), l[k]? = some x → w.cell? ⟨g, o + k, none⟩ = some (.int .i64 x)) (hn : l.length ≤ 1048576) :
    Calls Try.prog 64 #[.slice (some ⟨g, o, none⟩) l.length c] w fun e w' => ∃ A' c', e = .returned (.slice A' l.length c') ∧ OwnV w' w.heap.size A' c' l ∧ Below w.heap.size w w' := by
  refine (Try.slices_Clone_int g o l.length c l w (Nat.le_refl _) (by omega) (fun j hj => ?_)).mono ?_
  · have := hc j l[j] (List.getElem?_eq_getElem hj)
    rw [this]
    simp [hj]
  · rintro e w' ⟨v, rfl, ho, _, hb⟩
    rw [List.take_of_length_le (Nat.le_refl _)] at ho
    have hv : ∃ A' c', v = .slice A' l.length c' := by
      obtain ⟨_, ⟨h1, h2⟩ | ⟨g', cap, cur, h1, _⟩⟩ := ho
      · exact ⟨none, 0, by rw [h1, h2]⟩
      · exact ⟨_, _, h1⟩
    obtain ⟨A', c', rfl⟩ := hv
    exact ⟨A', c', rfl, OwnJ.ownV ho, hb⟩

end Go.Proofs.Ytkjhncohanfciaa

/- Contracts: lists out of lists, by the program (by turns). -/
namespace Go.Proofs.Ytkjhncohanfciaa
open Go.RowKit
set_option maxRecDepth 100000 in
set_option maxHeartbeats 3200000 in
theorem implTurned_any (A : Option Addr) (c : Nat) (a : List Int) (A2 : Option Addr) (c2 : Nat) (b : List Int) (w : World) (B : Nat) (ha : RdI w B A a) (hb : RdI w B A2 b) (hB : B ≤ w.heap.size) (hn : a.length ≤ 65536) (hn2 : b.length ≤ 65536) :
    Calls Try.prog 91 #[.slice A a.length c, .slice A2 b.length c2] w fun e w' => ∃ R cR, e = .returned (.slice R (turnL a b).length cR) ∧ OwnJ w' w.heap.size R cR (turnL a b) ∧ Below w.heap.size w w' := by
  have Ha := Lib.hid ha
  have Hb := Lib.hid hb
  clear ha hb
  go_enter Try.func91, Try.ntmps91
  by_cases hab : a.length < b.length
  · have hmax : max (a.length : Int) (b.length : Int) = (b.length : Int) := by omega
    go_wp2_with fail
    go_loopw [5, 12] (fun sl i wr => ∃ j : Nat, j ≤ b.length ∧ i = .int .i64 j ∧ (∃ R cR, sl = .slice R (turnTo a b j).length cR ∧ OwnJ wr w.heap.size R cR (turnTo a b j)) ∧ Below w.heap.size w wr) (fun _ i _ => b.length - (intOf i).toNat)
    case atStart => exact ⟨0, Nat.zero_le _, rfl, ⟨none, 0, rfl, OwnJ.nil_ _ _⟩, Below.refl _ _⟩
    case round =>
      obtain ⟨j, hj, rfl, ⟨R, cR, rfl, ho⟩, hb⟩ := hrel
      have hz := hb.size
      have hlen := turnTo_len a b j
      have Ho := Lib.hid ho
      have Hbw := Lib.hid hb
      have Ha2 := Lib.hid (Ha.out.below hb hB)
      have Hb2 := Lib.hid (Hb.out.below hb hB)
      clear ho hb
      by_cases h1 : j < a.length
      · obtain ⟨ad, x, rfl, hx, hc⟩ := Ha2.out.at_ h1
        have Hx := Lib.hid hx
        clear hx
        by_cases h2 : j < b.length
        · obtain ⟨ad2, y, rfl, hy, hc2⟩ := Hb2.out.at_ h2
          have Hy := Lib.hid hy
          clear hy hc2
          go_wp2_with (at_builtin; (first
            | (
              refine wpList_append_int rfl _ _ rfl w.heap.size R cR (turnTo a b j) x (turnTo a b j).length rfl rfl Ho.out _ rfl rfl (by omega) (by omega) ?_
              intro R2 c2' w2 ho2 hg2
              have hbb := (Hbw.out.alloc hz _).grown hg2 (by simp; omega) (fun g hg => (Ho.out.row_lt g hg).1)
              have hcy := (Hb.out.below hbb hB).val Hy.out
              have hz2 := hbb.size
              have Hbb := Lib.hid hbb
              have Ho2 := Lib.hid ho2
              clear ho2 hg2 hbb)
            | (
              refine wpList_append_int rfl _ _ rfl w.heap.size R2 c2' (turnTo a b j ++ [x]) y ((turnTo a b j).length + 1) (by simp) rfl Ho2.out _ rfl rfl (by omega) (by omega) ?_
              intro R3 c3' w3 ho3 hg3
              have Ho3 := Lib.hid ho3
              have Hg3 := Lib.hid hg3
              clear ho3 hg3)))
          go_roundw
          case rel =>
            have ht : turnTo a b (j + 1) = turnTo a b j ++ [x] ++ [y] := by simp only [turnTo, Hx.out, Hy.out]; rfl
            refine ⟨j + 1, by omega, by go_num, ⟨R3, c3', by rw [ht]; simp, by rw [ht]; exact Ho3.out⟩, ?_⟩
            exact (Hbb.out.alloc hz2 _).grown Hg3.out (by simp; omega) (fun g hg => (Ho2.out.row_lt g hg).1)
          case measure => simp [intOf]; omega
        · exfalso
          omega
      · by_cases h2 : j < b.length
        · obtain ⟨ad2, y, rfl, hy, hc2⟩ := Hb2.out.at_ h2
          have Hy := Lib.hid hy
          clear hy
          go_wp2_with (at_builtin; go_must (refine wpList_append_int rfl _ _ rfl w.heap.size R cR (turnTo a b j) y (turnTo a b j).length rfl rfl Ho.out _ rfl rfl (by omega) (by omega) ?_; intro R2 c2' w2 ho2 hg2); have hbb := (Hbw.out.alloc hz _).grown hg2 (by simp; omega) (fun g hg => (Ho.out.row_lt g hg).1); have hz2 := hbb.size; have Hbb := Lib.hid hbb; have Ho2 := Lib.hid ho2; clear ho2 hg2 hbb)
          go_roundw
          case rel =>
            have ht : turnTo a b (j + 1) = turnTo a b j ++ [y] := by simp only [turnTo, Hy.out, List.getElem?_eq_none (show a.length ≤ j by omega)]; simp
            exact ⟨j + 1, by omega, by go_num, ⟨R2, c2', by rw [ht]; simp, by rw [ht]; exact Ho2.out⟩, Hbb.out⟩
          case measure => simp [intOf]; omega
        · have hjm : j = b.length := by omega
          go_wp2_with fail
          go_ret
          have ht : turnL a b = turnTo a b j := by rw [turnL, hjm]; congr 1; omega
          exact ⟨R, cR, ret_slice (by rw [ht]), by rw [ht]; exact Ho.out, Hbw.out⟩
  · have hmax : max (a.length : Int) (b.length : Int) = (a.length : Int) := by omega
    go_wp2_with fail
    go_loopw [5, 12] (fun sl i wr => ∃ j : Nat, j ≤ a.length ∧ i = .int .i64 j ∧ (∃ R cR, sl = .slice R (turnTo a b j).length cR ∧ OwnJ wr w.heap.size R cR (turnTo a b j)) ∧ Below w.heap.size w wr) (fun _ i _ => a.length - (intOf i).toNat)
    case atStart => exact ⟨0, Nat.zero_le _, rfl, ⟨none, 0, rfl, OwnJ.nil_ _ _⟩, Below.refl _ _⟩
    case round =>
      obtain ⟨j, hj, rfl, ⟨R, cR, rfl, ho⟩, hb⟩ := hrel
      have hz := hb.size
      have hlen := turnTo_len a b j
      have Ho := Lib.hid ho
      have Hbw := Lib.hid hb
      have Ha2 := Lib.hid (Ha.out.below hb hB)
      have Hb2 := Lib.hid (Hb.out.below hb hB)
      clear ho hb
      by_cases h1 : j < a.length
      · obtain ⟨ad, x, rfl, hx, hc⟩ := Ha2.out.at_ h1
        have Hx := Lib.hid hx
        clear hx
        by_cases h2 : j < b.length
        · obtain ⟨ad2, y, rfl, hy, hc2⟩ := Hb2.out.at_ h2
          have Hy := Lib.hid hy
          clear hy hc2
          go_wp2_with (at_builtin; (first
            | (
              refine wpList_append_int rfl _ _ rfl w.heap.size R cR (turnTo a b j) x (turnTo a b j).length rfl rfl Ho.out _ rfl rfl (by omega) (by omega) ?_
              intro R2 c2' w2 ho2 hg2
              have hbb := (Hbw.out.alloc hz _).grown hg2 (by simp; omega) (fun g hg => (Ho.out.row_lt g hg).1)
              have hcy := (Hb.out.below hbb hB).val Hy.out
              have hz2 := hbb.size
              have Hbb := Lib.hid hbb
              have Ho2 := Lib.hid ho2
              clear ho2 hg2 hbb)
            | (
              refine wpList_append_int rfl _ _ rfl w.heap.size R2 c2' (turnTo a b j ++ [x]) y ((turnTo a b j).length + 1) (by simp) rfl Ho2.out _ rfl rfl (by omega) (by omega) ?_
              intro R3 c3' w3 ho3 hg3
              have Ho3 := Lib.hid ho3
              have Hg3 := Lib.hid hg3
              clear ho3 hg3)))
          go_roundw
          case rel =>
            have ht : turnTo a b (j + 1) = turnTo a b j ++ [x] ++ [y] := by simp only [turnTo, Hx.out, Hy.out]; rfl
            refine ⟨j + 1, by omega, by go_num, ⟨R3, c3', by rw [ht]; simp, by rw [ht]; exact Ho3.out⟩, ?_⟩
            exact (Hbb.out.alloc hz2 _).grown Hg3.out (by simp; omega) (fun g hg => (Ho2.out.row_lt g hg).1)
          case measure => simp [intOf]; omega
        · go_wp2_with (at_builtin; go_must (refine wpList_append_int rfl _ _ rfl w.heap.size R cR (turnTo a b j) x (turnTo a b j).length rfl rfl Ho.out _ rfl rfl (by omega) (by omega) ?_; intro R2 c2' w2 ho2 hg2); have hbb := (Hbw.out.alloc hz _).grown hg2 (by simp; omega) (fun g hg => (Ho.out.row_lt g hg).1); have hz2 := hbb.size; have Hbb := Lib.hid hbb; have Ho2 := Lib.hid ho2; clear ho2 hg2 hbb)
          go_roundw
          case rel =>
            have ht : turnTo a b (j + 1) = turnTo a b j ++ [x] := by simp only [turnTo, Hx.out, List.getElem?_eq_none (show b.length ≤ j by omega)]; simp
            exact ⟨j + 1, by omega, by go_num, ⟨R2, c2', by rw [ht]; simp, by rw [ht]; exact Ho2.out⟩, Hbb.out⟩
          case measure => simp [intOf]; omega
      · by_cases h2 : j < b.length
        · exfalso
          omega
        · have hjm : j = a.length := by omega
          go_wp2_with fail
          go_ret
          have ht : turnL a b = turnTo a b j := by rw [turnL, hjm]; congr 1; omega
          exact ⟨R, cR, ret_slice (by rw [ht]), by rw [ht]; exact Ho.out, Hbw.out⟩

end Go.Proofs.Ytkjhncohanfciaa
