/- Texts on the program and its reference, put together (LsJ, LsK, LiL, TA, LiM, LiN, LiO, LiP). -/
import Derived.Test.YtkjhncohanfciaaMc5J
import Derived.Test.YtkjhncohanfciaaMc5I
import Derived.Test.YtkjhncohanfciaaMc5B
import Derived.Test.YtkjhncohanfciaaMc5K
import Derived.Test.YtkjhncohanfciaaMc5E
import Derived.Deep.RegionHeld3
/- Contracts: the list of a node, by the reference (two below). -/
namespace Go.Proofs.Ytkjhncohanfciaa
open Go.RowKit

set_option maxRecDepth 100000 in
set_option maxHeartbeats 6400000 in
theorem lsChain {l : List Nd} {src : List (List Int)} {i j j2 : Nat} {n m : Int} {q r z : List Int} (A : Option Addr) (c : Nat) (As : Option Addr) (ca : Nat) (w : World) (B : Nat) (h : RdN w B A l) (hB : B ≤ w.heap.size) (hn : l.length ≤ 1048576)
    (hx : l[i]? = some ⟨7, (j : Int), (j2 : Int), n, m⟩)
    (hi : ∀ W, Below w.heap.size w W → Calls Try.prog 57 #[.agg #[.slice A l.length c], .slice As src.length ca, .int .i64 (j : Int)] W fun e w' => ∃ R cR, e = .returned (.slice R q.length cR) ∧ OwnV w' W.heap.size R cR q ∧ Below W.heap.size W w')
    (iq : Items q) (lq : q.length ≤ 65536)
    (hi2 : ∀ W, Below w.heap.size w W → Calls Try.prog 57 #[.agg #[.slice A l.length c], .slice As src.length ca, .int .i64 (j2 : Int)] W fun e w' => ∃ R cR, e = .returned (.slice R r.length cR) ∧ OwnV w' W.heap.size R cR r ∧ Below W.heap.size W w')
    (ir : Items r) (lr : r.length ≤ 65536) (hF : Hid (z = q ++ r)) :
    Calls Try.prog 57 #[.agg #[.slice A l.length c], .slice As src.length ca, .int .i64 i] w fun e w' => ∃ R cR, e = .returned (.slice R z.length cR) ∧ OwnV w' w.heap.size R cR z ∧ Below w.heap.size w w' := by
  have _u1 := hn
  have _u2 := lq
  have _u3 := iq
  clear _u1 _u2 _u3
  have hlt : i < l.length := (List.getElem?_eq_some_iff.1 hx).1
  have hb0 := (Below.refl w.heap.size w).alloc (Nat.le_refl _) (.cells #[.slice A l.length c] 32)
  obtain ⟨b, o, y, rfl, hbB, hy, hc⟩ := (h.below hb0 (by omega)).at_ hlt
  obtain rfl := Option.some.inj (hx.symm.trans hy)
  obtain ⟨c0, c1, c2, c3, c4⟩ := hc
  simp only at c0 c1 c2 c3 c4
  obtain ⟨W2, hW2⟩ : ∃ W2 : World, W2 = (w.alloc (.cells #[.slice (some ⟨b, o, none⟩) l.length c] 32)).alloc (.cells #[.int .i64 7, .int .i64 (j : Int), .int .i64 (j2 : Int), .int .i64 n, .int .i64 m] 69) := ⟨_, rfl⟩
  have hb2 : Below w.heap.size w W2 := by rw [hW2]; exact ((Below.refl _ _).alloc (Nat.le_refl _) _).alloc (by simp) _
  have hs2 : W2.heap.size = w.heap.size + 2 := by rw [hW2]; simp
  have hbox : Bk W2 w.heap.size 32 [.slice (some ⟨b, o, none⟩) l.length c] := by rw [hW2]; exact (Bk.new _ _ [_]).alloc _
  have hnode : Bk W2 (w.heap.size + 1) 69 [.int .i64 7, .int .i64 (j : Int), .int .i64 (j2 : Int), .int .i64 n, .int .i64 m] := by
    rw [hW2]
    have := Bk.new (w.alloc (.cells #[.slice (some ⟨b, o, none⟩) l.length c] 32)) 69 [.int .i64 7, .int .i64 (j : Int), .int .i64 (j2 : Int), .int .i64 n, .int .i64 m]
    simpa using this
  have HW2 := Lib.hid hW2
  have Hb2 := Lib.hid hb2
  have Hbox := Lib.hid hbox
  have Hnode := Lib.hid hnode
  have Hs2 := Lib.hid hs2
  have Hi := Lib.hid hi
  have Iq := Lib.hid iq
  have _u4 := lr
  clear _u4
  have Hi2 := Lib.hid hi2
  have Ir := Lib.hid ir
  clear hx hy h hb0 hi iq hW2 hb2 hbox hnode hs2 hi2 ir
  go_enter Try.func57, Try.ntmps57
  go_wp2_with fail
  rw [← HW2.out]
  refine (Hi.out W2 Hb2.out).mono ?_
  rintro e w3 ⟨R, cR, rfl, ho3, hb3⟩
  have hbox3 := Hbox.out.below hb3 Hbox.out.lt
  have hnode3 := Hnode.out.below hb3 Hnode.out.lt
  have e0 : w3.cell? ⟨w.heap.size, 0, none⟩ = some (.slice (some ⟨b, o, none⟩) l.length c) := hbox3.cell 0
  have d0 : w3.cell? ⟨w.heap.size + 1, 0, none⟩ = some (.int .i64 7) := hnode3.cell 0
  have d1 : w3.cell? ⟨w.heap.size + 1, 1, none⟩ = some (.int .i64 (j : Int)) := hnode3.cell 1
  have d2 : w3.cell? ⟨w.heap.size + 1, 2, none⟩ = some (.int .i64 (j2 : Int)) := hnode3.cell 2
  have d3 : w3.cell? ⟨w.heap.size + 1, 3, none⟩ = some (.int .i64 n) := hnode3.cell 3
  have d4 : w3.cell? ⟨w.heap.size + 1, 4, none⟩ = some (.int .i64 m) := hnode3.cell 4
  have hz2 : w.heap.size ≤ W2.heap.size := by rw [Hs2.out]; omega
  have hz3 := hb3.size
  have hcap := ho3.len_le
  have Hb3 := Lib.hid (Hb2.out.trans (hb3.mono hz2))
  have Hb23 := Lib.hid hb3
  have Ho3 := Lib.hid (ho3.base_ hz2)
  clear ho3 hb3 hbox3 hnode3
  go_wp2_with fail
  refine (Hi2.out w3 Hb3.out).mono ?_
  rintro e w4 ⟨R4, c4, rfl, ho4, hb4⟩
  have hz4 := hb4.size
  have hz04 : w.heap.size ≤ w4.heap.size := by omega
  have hcap4 := ho4.len_le
  have Ho34 := Lib.hid (Ho3.out.below hb4 (Nat.le_refl _))
  have Ho4 := Lib.hid (ho4.base_ (Nat.le_trans hz2 hz3))
  have Hb4 := Lib.hid (Hb3.out.trans (hb4.mono (Nat.le_trans hz2 hz3)))
  clear ho4 hb4
  go_wp2_with (at_builtin; go_must (refine wpList_append_ints rfl _ _ rfl w.heap.size R cR q q.length rfl rfl Ho34.out R4 c4 r r.length w4.heap.size rfl rfl Ho4.out.rd (by omega) (by omega) ?_; intro R5 c5 w5 ho5 hg5); have Ho5 := Lib.hid ho5; have Hg5 := Lib.hid hg5; clear ho5 hg5)
  go_ret
  exact ⟨R5, c5, ret_slice (by rw [hF.out, List.length_append]), by rw [hF.out]; exact Ho5.out, Hb4.out.grown Hg5.out hz04 (fun g hg => (Ho34.out.row_lt g hg).1)⟩

set_option maxRecDepth 100000 in
set_option maxHeartbeats 6400000 in
theorem lsZip {l : List Nd} {src : List (List Int)} {i j j2 : Nat} {n m : Int} {q r z : List Int} (A : Option Addr) (c : Nat) (As : Option Addr) (ca : Nat) (w : World) (B : Nat) (h : RdN w B A l) (hB : B ≤ w.heap.size) (hn : l.length ≤ 1048576)
    (hx : l[i]? = some ⟨8, (j : Int), (j2 : Int), n, m⟩)
    (hi : ∀ W, Below w.heap.size w W → Calls Try.prog 57 #[.agg #[.slice A l.length c], .slice As src.length ca, .int .i64 (j : Int)] W fun e w' => ∃ R cR, e = .returned (.slice R q.length cR) ∧ OwnV w' W.heap.size R cR q ∧ Below W.heap.size W w')
    (iq : Items q) (lq : q.length ≤ 65536)
    (hi2 : ∀ W, Below w.heap.size w W → Calls Try.prog 57 #[.agg #[.slice A l.length c], .slice As src.length ca, .int .i64 (j2 : Int)] W fun e w' => ∃ R cR, e = .returned (.slice R r.length cR) ∧ OwnV w' W.heap.size R cR r ∧ Below W.heap.size W w')
    (ir : Items r) (lr : r.length ≤ 65536) (hF : Hid (z = zipL q r)) :
    Calls Try.prog 57 #[.agg #[.slice A l.length c], .slice As src.length ca, .int .i64 i] w fun e w' => ∃ R cR, e = .returned (.slice R z.length cR) ∧ OwnV w' w.heap.size R cR z ∧ Below w.heap.size w w' := by
  have _u1 := hn
  have _u2 := lq
  have _u3 := iq
  clear _u1 _u2 _u3
  have hlt : i < l.length := (List.getElem?_eq_some_iff.1 hx).1
  have hb0 := (Below.refl w.heap.size w).alloc (Nat.le_refl _) (.cells #[.slice A l.length c] 32)
  obtain ⟨b, o, y, rfl, hbB, hy, hc⟩ := (h.below hb0 (by omega)).at_ hlt
  obtain rfl := Option.some.inj (hx.symm.trans hy)
  obtain ⟨c0, c1, c2, c3, c4⟩ := hc
  simp only at c0 c1 c2 c3 c4
  obtain ⟨W2, hW2⟩ : ∃ W2 : World, W2 = (w.alloc (.cells #[.slice (some ⟨b, o, none⟩) l.length c] 32)).alloc (.cells #[.int .i64 8, .int .i64 (j : Int), .int .i64 (j2 : Int), .int .i64 n, .int .i64 m] 69) := ⟨_, rfl⟩
  have hb2 : Below w.heap.size w W2 := by rw [hW2]; exact ((Below.refl _ _).alloc (Nat.le_refl _) _).alloc (by simp) _
  have hs2 : W2.heap.size = w.heap.size + 2 := by rw [hW2]; simp
  have hbox : Bk W2 w.heap.size 32 [.slice (some ⟨b, o, none⟩) l.length c] := by rw [hW2]; exact (Bk.new _ _ [_]).alloc _
  have hnode : Bk W2 (w.heap.size + 1) 69 [.int .i64 8, .int .i64 (j : Int), .int .i64 (j2 : Int), .int .i64 n, .int .i64 m] := by
    rw [hW2]
    have := Bk.new (w.alloc (.cells #[.slice (some ⟨b, o, none⟩) l.length c] 32)) 69 [.int .i64 8, .int .i64 (j : Int), .int .i64 (j2 : Int), .int .i64 n, .int .i64 m]
    simpa using this
  have HW2 := Lib.hid hW2
  have Hb2 := Lib.hid hb2
  have Hbox := Lib.hid hbox
  have Hnode := Lib.hid hnode
  have Hs2 := Lib.hid hs2
  have Hi := Lib.hid hi
  have Iq := Lib.hid iq
  have _u4 := lr
  clear _u4
  have Hi2 := Lib.hid hi2
  have Ir := Lib.hid ir
  clear hx hy h hb0 hi iq hW2 hb2 hbox hnode hs2 hi2 ir
  go_enter Try.func57, Try.ntmps57
  go_wp2_with fail
  rw [← HW2.out]
  refine (Hi.out W2 Hb2.out).mono ?_
  rintro e w3 ⟨R, cR, rfl, ho3, hb3⟩
  have hbox3 := Hbox.out.below hb3 Hbox.out.lt
  have hnode3 := Hnode.out.below hb3 Hnode.out.lt
  have e0 : w3.cell? ⟨w.heap.size, 0, none⟩ = some (.slice (some ⟨b, o, none⟩) l.length c) := hbox3.cell 0
  have d0 : w3.cell? ⟨w.heap.size + 1, 0, none⟩ = some (.int .i64 8) := hnode3.cell 0
  have d1 : w3.cell? ⟨w.heap.size + 1, 1, none⟩ = some (.int .i64 (j : Int)) := hnode3.cell 1
  have d2 : w3.cell? ⟨w.heap.size + 1, 2, none⟩ = some (.int .i64 (j2 : Int)) := hnode3.cell 2
  have d3 : w3.cell? ⟨w.heap.size + 1, 3, none⟩ = some (.int .i64 n) := hnode3.cell 3
  have d4 : w3.cell? ⟨w.heap.size + 1, 4, none⟩ = some (.int .i64 m) := hnode3.cell 4
  have hz2 : w.heap.size ≤ W2.heap.size := by rw [Hs2.out]; omega
  have hz3 := hb3.size
  have hcap := ho3.len_le
  have Hb3 := Lib.hid (Hb2.out.trans (hb3.mono hz2))
  have Hb23 := Lib.hid hb3
  have Ho3 := Lib.hid (ho3.base_ hz2)
  clear ho3 hb3 hbox3 hnode3
  go_wp2_with fail
  refine (Hi2.out w3 Hb3.out).mono ?_
  rintro e w4 ⟨R4, c4, rfl, ho4, hb4⟩
  have hz4 := hb4.size
  have hz04 : w.heap.size ≤ w4.heap.size := by omega
  have hcap4 := ho4.len_le
  have Ho34 := Lib.hid (Ho3.out.below hb4 (Nat.le_refl _))
  have Ho4 := Lib.hid (ho4.base_ (Nat.le_trans hz2 hz3))
  have Hb4 := Lib.hid (Hb3.out.trans (hb4.mono (Nat.le_trans hz2 hz3)))
  clear ho4 hb4
  go_wp2_with fail
  refine (specZipped_any R cR q R4 c4 r w4 w4.heap.size Ho34.out.rd Ho4.out.rd (Nat.le_refl _) (by omega) Iq.out Ir.out).mono ?_
  rintro e w5 ⟨R5, c5, rfl, ho5, hb5⟩
  have Ho5 := Lib.hid (ho5.ownV.base_ hz04)
  have Hb5 := Lib.hid (Hb4.out.trans (hb5.mono hz04))
  clear ho5 hb5
  go_wp2_with fail
  go_ret
  exact ⟨R5, c5, ret_slice (by rw [hF.out]), by rw [hF.out]; exact Ho5.out, Hb5.out⟩

set_option maxRecDepth 100000 in
set_option maxHeartbeats 6400000 in
theorem lsMerge {l : List Nd} {src : List (List Int)} {i j j2 : Nat} {n m : Int} {q r z : List Int} (A : Option Addr) (c : Nat) (As : Option Addr) (ca : Nat) (w : World) (B : Nat) (h : RdN w B A l) (hB : B ≤ w.heap.size) (hn : l.length ≤ 1048576)
    (hx : l[i]? = some ⟨9, (j : Int), (j2 : Int), n, m⟩)
    (hi : ∀ W, Below w.heap.size w W → Calls Try.prog 57 #[.agg #[.slice A l.length c], .slice As src.length ca, .int .i64 (j : Int)] W fun e w' => ∃ R cR, e = .returned (.slice R q.length cR) ∧ OwnV w' W.heap.size R cR q ∧ Below W.heap.size W w')
    (iq : Items q) (lq : q.length ≤ 65536)
    (hi2 : ∀ W, Below w.heap.size w W → Calls Try.prog 57 #[.agg #[.slice A l.length c], .slice As src.length ca, .int .i64 (j2 : Int)] W fun e w' => ∃ R cR, e = .returned (.slice R r.length cR) ∧ OwnV w' W.heap.size R cR r ∧ Below W.heap.size W w')
    (ir : Items r) (lr : r.length ≤ 65536) (hF : Hid (z = mergeL q r)) :
    Calls Try.prog 57 #[.agg #[.slice A l.length c], .slice As src.length ca, .int .i64 i] w fun e w' => ∃ R cR, e = .returned (.slice R z.length cR) ∧ OwnV w' w.heap.size R cR z ∧ Below w.heap.size w w' := by
  have _u1 := hn
  have _u2 := lq
  have _u3 := iq
  clear _u1 _u2 _u3
  have hlt : i < l.length := (List.getElem?_eq_some_iff.1 hx).1
  have hb0 := (Below.refl w.heap.size w).alloc (Nat.le_refl _) (.cells #[.slice A l.length c] 32)
  obtain ⟨b, o, y, rfl, hbB, hy, hc⟩ := (h.below hb0 (by omega)).at_ hlt
  obtain rfl := Option.some.inj (hx.symm.trans hy)
  obtain ⟨c0, c1, c2, c3, c4⟩ := hc
  simp only at c0 c1 c2 c3 c4
  obtain ⟨W2, hW2⟩ : ∃ W2 : World, W2 = (w.alloc (.cells #[.slice (some ⟨b, o, none⟩) l.length c] 32)).alloc (.cells #[.int .i64 9, .int .i64 (j : Int), .int .i64 (j2 : Int), .int .i64 n, .int .i64 m] 69) := ⟨_, rfl⟩
  have hb2 : Below w.heap.size w W2 := by rw [hW2]; exact ((Below.refl _ _).alloc (Nat.le_refl _) _).alloc (by simp) _
  have hs2 : W2.heap.size = w.heap.size + 2 := by rw [hW2]; simp
  have hbox : Bk W2 w.heap.size 32 [.slice (some ⟨b, o, none⟩) l.length c] := by rw [hW2]; exact (Bk.new _ _ [_]).alloc _
  have hnode : Bk W2 (w.heap.size + 1) 69 [.int .i64 9, .int .i64 (j : Int), .int .i64 (j2 : Int), .int .i64 n, .int .i64 m] := by
    rw [hW2]
    have := Bk.new (w.alloc (.cells #[.slice (some ⟨b, o, none⟩) l.length c] 32)) 69 [.int .i64 9, .int .i64 (j : Int), .int .i64 (j2 : Int), .int .i64 n, .int .i64 m]
    simpa using this
  have HW2 := Lib.hid hW2
  have Hb2 := Lib.hid hb2
  have Hbox := Lib.hid hbox
  have Hnode := Lib.hid hnode
  have Hs2 := Lib.hid hs2
  have Hi := Lib.hid hi
  have Iq := Lib.hid iq
  have _u4 := lr
  clear _u4
  have Hi2 := Lib.hid hi2
  have Ir := Lib.hid ir
  clear hx hy h hb0 hi iq hW2 hb2 hbox hnode hs2 hi2 ir
  go_enter Try.func57, Try.ntmps57
  go_wp2_with fail
  rw [← HW2.out]
  refine (Hi.out W2 Hb2.out).mono ?_
  rintro e w3 ⟨R, cR, rfl, ho3, hb3⟩
  have hbox3 := Hbox.out.below hb3 Hbox.out.lt
  have hnode3 := Hnode.out.below hb3 Hnode.out.lt
  have e0 : w3.cell? ⟨w.heap.size, 0, none⟩ = some (.slice (some ⟨b, o, none⟩) l.length c) := hbox3.cell 0
  have d0 : w3.cell? ⟨w.heap.size + 1, 0, none⟩ = some (.int .i64 9) := hnode3.cell 0
  have d1 : w3.cell? ⟨w.heap.size + 1, 1, none⟩ = some (.int .i64 (j : Int)) := hnode3.cell 1
  have d2 : w3.cell? ⟨w.heap.size + 1, 2, none⟩ = some (.int .i64 (j2 : Int)) := hnode3.cell 2
  have d3 : w3.cell? ⟨w.heap.size + 1, 3, none⟩ = some (.int .i64 n) := hnode3.cell 3
  have d4 : w3.cell? ⟨w.heap.size + 1, 4, none⟩ = some (.int .i64 m) := hnode3.cell 4
  have hz2 : w.heap.size ≤ W2.heap.size := by rw [Hs2.out]; omega
  have hz3 := hb3.size
  have hcap := ho3.len_le
  have Hb3 := Lib.hid (Hb2.out.trans (hb3.mono hz2))
  have Hb23 := Lib.hid hb3
  have Ho3 := Lib.hid (ho3.base_ hz2)
  clear ho3 hb3 hbox3 hnode3
  go_wp2_with fail
  refine (Hi2.out w3 Hb3.out).mono ?_
  rintro e w4 ⟨R4, c4, rfl, ho4, hb4⟩
  have hz4 := hb4.size
  have hz04 : w.heap.size ≤ w4.heap.size := by omega
  have hcap4 := ho4.len_le
  have Ho34 := Lib.hid (Ho3.out.below hb4 (Nat.le_refl _))
  have Ho4 := Lib.hid (ho4.base_ (Nat.le_trans hz2 hz3))
  have Hb4 := Lib.hid (Hb3.out.trans (hb4.mono (Nat.le_trans hz2 hz3)))
  clear ho4 hb4
  go_wp2_with fail
  refine (specMerged_any R cR q R4 c4 r w4 w4.heap.size Ho34.out.rd Ho4.out.rd (Nat.le_refl _) (by omega) (by omega)).mono ?_
  rintro e w5 ⟨R5, c5, rfl, ho5, hb5⟩
  have Ho5 := Lib.hid (ho5.ownV.base_ hz04)
  have Hb5 := Lib.hid (Hb4.out.trans (hb5.mono hz04))
  clear ho5 hb5
  go_wp2_with fail
  go_ret
  exact ⟨R5, c5, ret_slice (by rw [hF.out]), by rw [hF.out]; exact Ho5.out, Hb5.out⟩

set_option maxRecDepth 100000 in
set_option maxHeartbeats 6400000 in
theorem lsTurn {l : List Nd} {src : List (List Int)} {i j j2 : Nat} {n m : Int} {q r z : List Int} (A : Option Addr) (c : Nat) (As : Option Addr) (ca : Nat) (w : World) (B : Nat) (h : RdN w B A l) (hB : B ≤ w.heap.size) (hn : l.length ≤ 1048576)
    (hx : l[i]? = some ⟨10, (j : Int), (j2 : Int), n, m⟩)
    (hi : ∀ W, Below w.heap.size w W → Calls Try.prog 57 #[.agg #[.slice A l.length c], .slice As src.length ca, .int .i64 (j : Int)] W fun e w' => ∃ R cR, e = .returned (.slice R q.length cR) ∧ OwnV w' W.heap.size R cR q ∧ Below W.heap.size W w')
    (iq : Items q) (lq : q.length ≤ 65536)
    (hi2 : ∀ W, Below w.heap.size w W → Calls Try.prog 57 #[.agg #[.slice A l.length c], .slice As src.length ca, .int .i64 (j2 : Int)] W fun e w' => ∃ R cR, e = .returned (.slice R r.length cR) ∧ OwnV w' W.heap.size R cR r ∧ Below W.heap.size W w')
    (ir : Items r) (lr : r.length ≤ 65536) (hF : Hid (z = turnL q r)) :
    Calls Try.prog 57 #[.agg #[.slice A l.length c], .slice As src.length ca, .int .i64 i] w fun e w' => ∃ R cR, e = .returned (.slice R z.length cR) ∧ OwnV w' w.heap.size R cR z ∧ Below w.heap.size w w' := by
  have _u1 := hn
  have _u2 := lq
  have _u3 := iq
  clear _u1 _u2 _u3
  have hlt : i < l.length := (List.getElem?_eq_some_iff.1 hx).1
  have hb0 := (Below.refl w.heap.size w).alloc (Nat.le_refl _) (.cells #[.slice A l.length c] 32)
  obtain ⟨b, o, y, rfl, hbB, hy, hc⟩ := (h.below hb0 (by omega)).at_ hlt
  obtain rfl := Option.some.inj (hx.symm.trans hy)
  obtain ⟨c0, c1, c2, c3, c4⟩ := hc
  simp only at c0 c1 c2 c3 c4
  obtain ⟨W2, hW2⟩ : ∃ W2 : World, W2 = (w.alloc (.cells #[.slice (some ⟨b, o, none⟩) l.length c] 32)).alloc (.cells #[.int .i64 10, .int .i64 (j : Int), .int .i64 (j2 : Int), .int .i64 n, .int .i64 m] 69) := ⟨_, rfl⟩
  have hb2 : Below w.heap.size w W2 := by rw [hW2]; exact ((Below.refl _ _).alloc (Nat.le_refl _) _).alloc (by simp) _
  have hs2 : W2.heap.size = w.heap.size + 2 := by rw [hW2]; simp
  have hbox : Bk W2 w.heap.size 32 [.slice (some ⟨b, o, none⟩) l.length c] := by rw [hW2]; exact (Bk.new _ _ [_]).alloc _
  have hnode : Bk W2 (w.heap.size + 1) 69 [.int .i64 10, .int .i64 (j : Int), .int .i64 (j2 : Int), .int .i64 n, .int .i64 m] := by
    rw [hW2]
    have := Bk.new (w.alloc (.cells #[.slice (some ⟨b, o, none⟩) l.length c] 32)) 69 [.int .i64 10, .int .i64 (j : Int), .int .i64 (j2 : Int), .int .i64 n, .int .i64 m]
    simpa using this
  have HW2 := Lib.hid hW2
  have Hb2 := Lib.hid hb2
  have Hbox := Lib.hid hbox
  have Hnode := Lib.hid hnode
  have Hs2 := Lib.hid hs2
  have Hi := Lib.hid hi
  have Iq := Lib.hid iq
  have _u4 := lr
  clear _u4
  have Hi2 := Lib.hid hi2
  have Ir := Lib.hid ir
  clear hx hy h hb0 hi iq hW2 hb2 hbox hnode hs2 hi2 ir
  go_enter Try.func57, Try.ntmps57
  go_wp2_with fail
  rw [← HW2.out]
  refine (Hi.out W2 Hb2.out).mono ?_
  rintro e w3 ⟨R, cR, rfl, ho3, hb3⟩
  have hbox3 := Hbox.out.below hb3 Hbox.out.lt
  have hnode3 := Hnode.out.below hb3 Hnode.out.lt
  have e0 : w3.cell? ⟨w.heap.size, 0, none⟩ = some (.slice (some ⟨b, o, none⟩) l.length c) := hbox3.cell 0
  have d0 : w3.cell? ⟨w.heap.size + 1, 0, none⟩ = some (.int .i64 10) := hnode3.cell 0
  have d1 : w3.cell? ⟨w.heap.size + 1, 1, none⟩ = some (.int .i64 (j : Int)) := hnode3.cell 1
  have d2 : w3.cell? ⟨w.heap.size + 1, 2, none⟩ = some (.int .i64 (j2 : Int)) := hnode3.cell 2
  have d3 : w3.cell? ⟨w.heap.size + 1, 3, none⟩ = some (.int .i64 n) := hnode3.cell 3
  have d4 : w3.cell? ⟨w.heap.size + 1, 4, none⟩ = some (.int .i64 m) := hnode3.cell 4
  have hz2 : w.heap.size ≤ W2.heap.size := by rw [Hs2.out]; omega
  have hz3 := hb3.size
  have hcap := ho3.len_le
  have Hb3 := Lib.hid (Hb2.out.trans (hb3.mono hz2))
  have Hb23 := Lib.hid hb3
  have Ho3 := Lib.hid (ho3.base_ hz2)
  clear ho3 hb3 hbox3 hnode3
  go_wp2_with fail
  refine (Hi2.out w3 Hb3.out).mono ?_
  rintro e w4 ⟨R4, c4, rfl, ho4, hb4⟩
  have hz4 := hb4.size
  have hz04 : w.heap.size ≤ w4.heap.size := by omega
  have hcap4 := ho4.len_le
  have Ho34 := Lib.hid (Ho3.out.below hb4 (Nat.le_refl _))
  have Ho4 := Lib.hid (ho4.base_ (Nat.le_trans hz2 hz3))
  have Hb4 := Lib.hid (Hb3.out.trans (hb4.mono (Nat.le_trans hz2 hz3)))
  clear ho4 hb4
  go_wp2_with fail
  refine (specTurned_any R cR q R4 c4 r w4 w4.heap.size Ho34.out.rd Ho4.out.rd (Nat.le_refl _) (by omega) (by omega)).mono ?_
  rintro e w5 ⟨R5, c5, rfl, ho5, hb5⟩
  have Ho5 := Lib.hid (ho5.ownV.base_ hz04)
  have Hb5 := Lib.hid (Hb4.out.trans (hb5.mono hz04))
  clear ho5 hb5
  go_wp2_with fail
  go_ret
  exact ⟨R5, c5, ret_slice (by rw [hF.out]), by rw [hF.out]; exact Ho5.out, Hb5.out⟩

end Go.Proofs.Ytkjhncohanfciaa

/- Contracts: the list of a node, by the reference (the tree). -/
namespace Go.Proofs.Ytkjhncohanfciaa
open Go.RowKit

set_option maxRecDepth 100000 in
set_option maxHeartbeats 3200000 in
theorem lsLeaf {l : List Nd} {src : List (List Int)} {i p : Nat} {m : Int} {z : List Int} (A : Option Addr) (c : Nat) (As : Option Addr) (ca : Nat) (w : World) (B : Nat) (h : RdN w B A l) (hs : RdR w B As src) (hB : B ≤ w.heap.size)
    (hx : l[i]? = some ⟨0, -1, -1, (p : Int), m⟩) (hp : p < src.length) (hr : src[p]? = some z) (hz : z.length ≤ 65536) :
    Calls Try.prog 57 #[.agg #[.slice A l.length c], .slice As src.length ca, .int .i64 i] w fun e w' => ∃ R cR, e = .returned (.slice R z.length cR) ∧ OwnV w' w.heap.size R cR z ∧ Below w.heap.size w w' := by
  have hlt : i < l.length := (List.getElem?_eq_some_iff.1 hx).1
  have hb0 := (Below.refl w.heap.size w).alloc (Nat.le_refl _) (.cells #[.slice A l.length c] 32)
  obtain ⟨ad, y2, Ar, cr, rfl, hy2, hcr, hri⟩ := hs.at_ hp
  obtain rfl := Option.some.inj (hr.symm.trans hy2)
  obtain ⟨_, e3, hadB, _⟩ := hs (by omega)
  obtain rfl := Option.some.inj e3
  obtain ⟨b, o, y, rfl, hbB, hy, hc⟩ := (h.below hb0 (by omega)).at_ hlt
  obtain rfl := Option.some.inj (hx.symm.trans hy)
  obtain ⟨c0, c1, c2, c3, c4⟩ := hc
  simp only at c0 c1 c2 c3 c4
  obtain ⟨W2, hW2⟩ : ∃ W2 : World, W2 = (w.alloc (.cells #[.slice (some ⟨b, o, none⟩) l.length c] 32)).alloc (.cells #[.int .i64 0, .int .i64 (-1), .int .i64 (-1), .int .i64 (p : Int), .int .i64 m] 69) := ⟨_, rfl⟩
  have hb2 : Below w.heap.size w W2 := by rw [hW2]; exact ((Below.refl _ _).alloc (Nat.le_refl _) _).alloc (by simp) _
  have hab : (ad.add p).block < w.heap.size := by rw [add_block]; omega
  have hcr2 : (w.alloc (.cells #[.slice (some ⟨b, o, none⟩) l.length c] 32)).cell? (ad.add p) = some (.slice Ar z.length cr) := (hb0.cell hab).trans hcr
  have hcr3 : ((w.alloc (.cells #[.slice (some ⟨b, o, none⟩) l.length c] 32)).alloc (.cells #[.int .i64 0, .int .i64 (-1), .int .i64 (-1), .int .i64 (p : Int), .int .i64 m] 69)).cell? (ad.add p) = some (.slice Ar z.length cr) := by rw [← hW2]; exact (hb2.cell hab).trans hcr
  have HW2 := Lib.hid hW2
  have Hb2 := Lib.hid hb2
  have Hri := Lib.hid (hri.below hb2 hB)
  have hz2 := hb2.size
  clear hx hy h hb0 hb2 hW2 hri hy2 hr hs
  go_enter Try.func57, Try.ntmps57
  go_wp2_with fail
  rw [← HW2.out]
  refine (specCopyInts_any Ar cr z W2 B Hri.out (by omega) hz).mono ?_
  rintro e w4 ⟨R4, c4, rfl, ho4, hb4⟩
  have Ho4 := Lib.hid (ho4.base_ hz2)
  have Hb4 := Lib.hid (Hb2.out.trans (hb4.mono hz2))
  clear ho4 hb4
  go_wp2_with fail
  go_ret
  exact ⟨R4, c4, rfl, Ho4.out, Hb4.out⟩

theorem arity_zero {k : Int} (h : arity k = 0) : k = 0 := by
  unfold arity at h
  split at h
  · rename_i e; simpa using e
  split at h
  · cases h
  split at h
  · cases h
  · cases h
theorem arity_two {k : Int} (h : arity k = 2) : k = 7 ∨ k = 8 ∨ k = 9 ∨ k = 10 := by
  unfold arity at h
  split at h
  · cases h
  split at h
  · rename_i e; simpa [or_assoc] using e
  split at h
  · cases h
  · cases h
theorem arity_one {k : Int} (h : arity k = 1) : k = 1 ∨ k = 2 ∨ k = 3 ∨ k = 4 ∨ k = 5 ∨ k = 6 ∨ k = 11 ∨ k = 12 ∨ k = 13 := by
  unfold arity at h
  split at h
  · cases h
  split at h
  · cases h
  split at h
  · rename_i e; simpa [or_assoc] using e
  · cases h

theorem specListOf_tree {l : List Nd} {src : List (List Int)} (hsrc : srcOk src = true) (h3 : src.length = 3) (A : Option Addr) (c : Nat) (As : Option Addr) (ca : Nat) (B : Nat) (hn : l.length ≤ 1048576) {i : Nat} {t : T} (ht : IsTree l i t) : t.nums → t.depth ≤ 12 → ∀ (w : World), RdN w B A l → RdR w B As src → B ≤ w.heap.size →
    Calls Try.prog 57 #[.agg #[.slice A l.length c], .slice As src.length ca, .int .i64 i] w fun e w' => ∃ R cR, e = .returned (.slice R (lst src t).length cR) ∧ OwnV w' w.heap.size R cR (lst src t) ∧ Below w.heap.size w w' := by
  induction ht with
  | @leaf i x hx ha h1 h2 =>
    intro hnum _ w h hs hB
    have hk := arity_zero ha
    obtain ⟨k, a, b, n, m⟩ := x
    simp only at hk h1 h2
    subst hk h1 h2
    simp [T.nums, numsOk, inR] at hnum
    obtain ⟨p, rfl⟩ : ∃ p : Nat, n = (p : Int) := ⟨n.toNat, by omega⟩
    obtain ⟨r, hr⟩ := get_of_lt src (k := p) (by omega)
    have hl : lst src (.leaf ⟨0, -1, -1, (p : Int), m⟩) = r := by
      simp only [lst, Int.toNat_natCast, List.getD_eq_getElem?_getD, hr]
      rfl
    rw [hl]
    exact lsLeaf A c As ca w B h hs hB hx (by omega) hr (by have := (src_items hsrc hr).2; omega)
  | @stem i j x t hx ha h1 hj h2 ht ih =>
    intro hnum hd w h hs hB
    have hdt : t.depth ≤ 12 := by simp only [T.depth] at hd; omega
    have hi : ∀ W, Below w.heap.size w W → _ := fun W hb => ih hnum.2 hdt W (h.below hb hB) (hs.below hb hB) (Nat.le_trans hB hb.size)
    have iq := lst_items hsrc hnum.2
    have lq : (lst src t).length ≤ 65536 := by have := lst_short hsrc hdt; omega
    have hnx := hnum.1
    have hk := arity_one ha
    obtain ⟨k, a, b, n, m⟩ := x
    simp only at hk h1 h2
    subst h1 h2
    rcases hk with rfl | rfl | rfl | rfl | rfl | rfl | rfl | rfl | rfl
    · simp [numsOk, inR] at hnx
      exact lsMap A c As ca w B h hB hn hx hi iq lq (by omega) (by omega) (Lib.hid (by simp [lst, stemL]))
    · simp [numsOk, inR] at hnx
      exact lsFilter A c As ca w B h hB hn hx hi iq lq (by omega) (Lib.hid (by simp [lst, stemL]))
    · simp [numsOk, inR] at hnx
      obtain ⟨p, rfl⟩ : ∃ p : Nat, n = (p : Int) := ⟨n.toNat, by omega⟩
      exact lsTake A c As ca w B h hB hn hx hi iq lq (Lib.hid (by simp [lst, stemL]))
    · simp [numsOk, inR] at hnx
      obtain ⟨p, rfl⟩ : ∃ p : Nat, n = (p : Int) := ⟨n.toNat, by omega⟩
      exact lsDrop A c As ca w B h hB hn hx hi iq lq (Lib.hid (by
        simp only [lst, stemL, Int.toNat_natCast]
        by_cases hp : p ≤ (lst src t).length
        · simp [Nat.min_eq_left hp]
        · simp [Nat.min_eq_right (show (lst src t).length ≤ p by omega), List.drop_eq_nil_of_le (show (lst src t).length ≤ p by omega)]))
    · exact lsWhile A c As ca w B h hB hn hx hi iq lq (Lib.hid (by simp [lst, stemL]))
    · exact lsSkip A c As ca w B h hB hn hx hi iq lq (Lib.hid (by simp [lst, stemL]))
    · exact lsScan A c As ca w B h hB hn hx hi iq lq (Lib.hid (by simp [lst, stemL]))
    · simp [numsOk, inR] at hnx
      obtain ⟨p, rfl⟩ : ∃ p : Nat, n = (p : Int) := ⟨n.toNat, by omega⟩
      exact lsBatch A c As ca w B h hB hn hx hi iq lq (by omega) (by omega) (Lib.hid (by simp [lst, stemL]))
    · exact lsOnce A c As ca w B h hB hn hx hi iq lq (Lib.hid (by simp [lst, stemL]))
  | @fork i j j2 x ta tb hx ha h1 hj h2 hj2 hta htb iha ihb =>
    intro hnum hd w h hs hB
    have hda : ta.depth ≤ 12 := by simp only [T.depth] at hd; omega
    have hdb : tb.depth ≤ 12 := by simp only [T.depth] at hd; omega
    have hi : ∀ W, Below w.heap.size w W → _ := fun W hb => iha hnum.2.1 hda W (h.below hb hB) (hs.below hb hB) (Nat.le_trans hB hb.size)
    have hi2 : ∀ W, Below w.heap.size w W → _ := fun W hb => ihb hnum.2.2 hdb W (h.below hb hB) (hs.below hb hB) (Nat.le_trans hB hb.size)
    have iq := lst_items hsrc hnum.2.1
    have lq : (lst src ta).length ≤ 65536 := by have := lst_short hsrc hda; omega
    have ir := lst_items hsrc hnum.2.2
    have lr : (lst src tb).length ≤ 65536 := by have := lst_short hsrc hdb; omega
    have hk := arity_two ha
    obtain ⟨k, a, b, n, m⟩ := x
    simp only at hk h1 h2
    subst h1 h2
    rcases hk with rfl | rfl | rfl | rfl
    · exact lsChain A c As ca w B h hB hn hx hi iq lq hi2 ir lr (Lib.hid (by simp [lst, forkL]))
    · exact lsZip A c As ca w B h hB hn hx hi iq lq hi2 ir lr (Lib.hid (by simp [lst, forkL]))
    · exact lsMerge A c As ca w B h hB hn hx hi iq lq hi2 ir lr (Lib.hid (by simp [lst, forkL]))
    · exact lsTurn A c As ca w B h hB hn hx hi iq lq hi2 ir lr (Lib.hid (by simp [lst, forkL]))

end Go.Proofs.Ytkjhncohanfciaa

/- Contracts: the list of a node with one below, and with two, by the program, all kinds. -/
namespace Go.Proofs.Ytkjhncohanfciaa
open Go.RowKit

/-- What is asked of the sums of groups. -/
def BatchOk : Prop := ∀ (A : Option Addr) (c : Nat) (a : List Int) (n : Nat) (w : World) (base : Nat), OwnV w base A c a → a.length ≤ 65536 → 0 < n → n ≤ 30 → Items a →
  Calls Try.prog 86 #[.slice A a.length c, .int .i64 n] w fun e w' => ∃ R cR, e = .returned (.slice R (batL n a).length cR) ∧ OwnV w' w.heap.size R cR (batL n a) ∧ Below w.heap.size w w'

set_option maxRecDepth 100000 in
set_option maxHeartbeats 6400000 in
theorem implStem_batch (R : Option Addr) (cR : Nat) (q z : List Int) (xa xb : Int) (p : Nat) (m : Int) (w : World) (base : Nat) (ha : OwnV w base R cR q) (hbase : base ≤ w.heap.size) (lq : q.length ≤ 65536) (iq : Items q) (hp0 : 0 < p) (hp1 : p ≤ 30) (hBat : BatchOk) (hF : Hid (z = batL p q)) :
    Calls Try.prog 65 #[.agg #[.int .i64 12, .int .i64 xa, .int .i64 xb, .int .i64 (p : Int), .int .i64 m], .slice R q.length cR] w fun e w' => ∃ R' c', e = .returned (.slice R' z.length c') ∧ OwnV w' base R' c' z ∧ w.grownBy w' (rowOf R) := by
  have _u1 := lq
  have _u2 := iq
  have _u3 := hbase
  clear _u1 _u2 _u3
  obtain ⟨w3, hW3⟩ : ∃ w3 : World, w3 = w.alloc (.cells #[.int .i64 12, .int .i64 xa, .int .i64 xb, .int .i64 (p : Int), .int .i64 m] 69) := ⟨_, rfl⟩
  have hb2 : Below w.heap.size w w3 := by rw [hW3]; exact (Below.refl _ _).alloc (Nat.le_refl _) _
  have Ho3 := Lib.hid (ha.below hb2 (Nat.le_refl _))
  have hcap := ha.len_le
  have Iq := Lib.hid iq
  have HW3 := Lib.hid hW3
  have hz3 := hb2.size
  have Hb2 := Lib.hid hb2
  have Hb3 := Lib.hid (grown_below hb2 (rowOf R))
  clear ha iq hW3 hb2
  go_enter Try.func65, Try.ntmps65
  go_wp2_with fail
  rw [← HW3.out]
  refine (hBat R cR q p w3 base Ho3.out lq hp0 hp1 Iq.out).mono ?_
  rintro e w4 ⟨R4, c4, rfl, ho4, hb4⟩
  have Ho4 := Lib.hid (ho4.base_ (Nat.le_trans hbase hz3))
  have Hb4 := Lib.hid (grown_below (Hb2.out.trans (hb4.mono hz3)) (rowOf R))
  clear ho4 hb4
  go_wp2_with fail
  go_ret
  exact ⟨R4, c4, ret_slice (by rw [hF.out]), by rw [hF.out]; exact Ho4.out, Hb4.out⟩

theorem implStem_any (hBat : BatchOk) (x : Nd) (hk : arity x.k = 1) (hx : numsOk x = true) (R : Option Addr) (cR : Nat) (q : List Int) (w : World) (base : Nat) (ha : OwnV w base R cR q) (hbase : base ≤ w.heap.size) (lq : q.length ≤ 65536) (iq : Items q) :
    Calls Try.prog 65 #[.agg #[.int .i64 x.k, .int .i64 x.a, .int .i64 x.b, .int .i64 x.n, .int .i64 x.m], .slice R q.length cR] w fun e w' => ∃ R' c', e = .returned (.slice R' (stemL x q).length c') ∧ OwnV w' base R' c' (stemL x q) ∧ w.grownBy w' (rowOf R) := by
  have hk := arity_one hk
  obtain ⟨k, xa, xb, n, m⟩ := x
  simp only at hk
  rcases hk with rfl | rfl | rfl | rfl | rfl | rfl | rfl | rfl | rfl
  · simp [numsOk, inR] at hx
    exact implStem_map R cR q _ xa xb n m w base ha hbase lq iq (by omega) (by omega) (Lib.hid (by simp [stemL]))
  · simp [numsOk, inR] at hx
    exact implStem_filter R cR q _ xa xb n m w base ha hbase lq iq (by omega) (Lib.hid (by simp [stemL]))
  · simp [numsOk, inR] at hx
    obtain ⟨p, rfl⟩ : ∃ p : Nat, n = (p : Int) := ⟨n.toNat, by omega⟩
    exact implStem_take R cR q _ xa xb p m w base ha hbase lq iq (Lib.hid (by simp [stemL]))
  · simp [numsOk, inR] at hx
    obtain ⟨p, rfl⟩ : ∃ p : Nat, n = (p : Int) := ⟨n.toNat, by omega⟩
    exact implStem_drop R cR q _ xa xb p m w base ha hbase lq iq (Lib.hid (by
      simp only [stemL, Int.toNat_natCast]
      by_cases hp : p ≤ q.length
      · simp [Nat.min_eq_left hp]
      · simp [Nat.min_eq_right (show q.length ≤ p by omega), List.drop_eq_nil_of_le (show q.length ≤ p by omega)]))
  · exact implStem_while R cR q _ xa xb n m w base ha hbase lq iq (Lib.hid (by simp [stemL]))
  · exact implStem_skip R cR q _ xa xb n m w base ha hbase lq iq (Lib.hid (by simp [stemL]))
  · exact implStem_scan R cR q _ xa xb n m w base ha hbase lq iq (Lib.hid (by simp [stemL]))
  · simp [numsOk, inR] at hx
    obtain ⟨p, rfl⟩ : ∃ p : Nat, n = (p : Int) := ⟨n.toNat, by omega⟩
    exact implStem_batch R cR q _ xa xb p m w base ha hbase lq iq (by omega) (by omega) hBat (Lib.hid (by simp [stemL]))
  · exact implStem_once R cR q _ xa xb n m w base ha hbase lq iq (Lib.hid (by simp [stemL]))

theorem implFork_any (x : Nd) (hk : arity x.k = 2) (A : Option Addr) (c : Nat) (a : List Int) (A2 : Option Addr) (c2 : Nat) (b : List Int) (w : World) (base : Nat) (ha : OwnV w base A c a) (hb : OwnV w base A2 c2 b) (hn : a.length ≤ 65536) (hn2 : b.length ≤ 65536) (ia : Items a) (ib : Items b) :
    Calls Try.prog 66 #[.int .i64 x.k, .slice A a.length c, .slice A2 b.length c2] w fun e w' => ∃ R cR, e = .returned (.slice R (forkL x a b).length cR) ∧ OwnV w' w.heap.size R cR (forkL x a b) ∧ Below w.heap.size w w' := by
  have hk := arity_two hk
  obtain ⟨k, xa, xb, n, m⟩ := x
  simp only at hk
  rcases hk with rfl | rfl | rfl | rfl
  · exact implFork_chain A c a A2 c2 b _ w base ha hb hn hn2 ia ib (Lib.hid (by simp [forkL]))
  · exact implFork_zip A c a A2 c2 b _ w base ha hb hn hn2 ia ib (Lib.hid (by simp [forkL]))
  · exact implFork_merge A c a A2 c2 b _ w base ha hb hn hn2 ia ib (Lib.hid (by simp [forkL]))
  · exact implFork_turn A c a A2 c2 b _ w base ha hb hn hn2 ia ib (Lib.hid (by simp [forkL]))

end Go.Proofs.Ytkjhncohanfciaa

/- What the type switch on a tree answers. -/
namespace Go.Proofs.Ytkjhncohanfciaa
theorem ta_leaf_leaf (v : Value) (w : World) : (Instr.typeAssert (.iface 81 v) 58 81 true).run Try.prog w = .ok (.tuple #[v, .bool true]) w := by kernel_rfl
theorem ta_stem_stem (v : Value) (w : World) : (Instr.typeAssert (.iface 83 v) 58 83 true).run Try.prog w = .ok (.tuple #[v, .bool true]) w := by kernel_rfl
theorem ta_fork_fork (v : Value) (w : World) : (Instr.typeAssert (.iface 71 v) 58 71 true).run Try.prog w = .ok (.tuple #[v, .bool true]) w := by kernel_rfl
theorem ta_stem_leaf (v : Value) (w : World) : (Instr.typeAssert (.iface 83 v) 58 81 true).run Try.prog w = .ok (.tuple #[.agg #[.int .i64 0, .int .i64 0, .int .i64 0, .int .i64 0, .int .i64 0], .bool false]) w := by kernel_rfl
theorem ta_fork_leaf (v : Value) (w : World) : (Instr.typeAssert (.iface 71 v) 58 81 true).run Try.prog w = .ok (.tuple #[.agg #[.int .i64 0, .int .i64 0, .int .i64 0, .int .i64 0, .int .i64 0], .bool false]) w := by kernel_rfl
theorem ta_fork_stem (v : Value) (w : World) : (Instr.typeAssert (.iface 71 v) 58 83 true).run Try.prog w = .ok (.tuple #[.agg #[.int .i64 0, .int .i64 0, .int .i64 0, .int .i64 0, .int .i64 0, .nilIface], .bool false]) w := by kernel_rfl
end Go.Proofs.Ytkjhncohanfciaa

/- Contracts: the list of a tree, by the program. -/
namespace Go.Proofs.Ytkjhncohanfciaa
open Go.RowKit Go.Sort

theorem cell_spot {w : World} {ad : Addr} {v : Value} (h : w.cell? ad = some v) : ad = ⟨ad.block, ad.off, none⟩ := by
  obtain ⟨b, o, s⟩ := ad
  cases s with
  | none => rfl
  | some s =>
    unfold World.cell? at h
    simp at h
    split at h <;> simp at h

theorem cloneR_any (A : Option Addr) (c : Nat) (l : List Int) (w : World) (B : Nat) (h : RdI w B A l) (hn : l.length ≤ 1048576) :
    Calls Try.prog 64 #[.slice A l.length c] w fun e w' => ∃ A' c', e = .returned (.slice A' l.length c') ∧ OwnV w' w.heap.size A' c' l ∧ Below w.heap.size w w' := by
  by_cases hl : 0 < l.length
  · obtain ⟨ad, rfl, _, hc⟩ := h hl
    obtain ⟨x, hx⟩ := get_of_lt l hl
    have h0 := hc 0 x hx
    rw [show ad.add 0 = ad from rfl] at h0
    have hs := cell_spot h0
    rw [hs] at hc ⊢
    refine cloneI_any _ _ c l w (fun k y hy => ?_) hn
    have := hc k y hy
    rwa [Addr.add_lit] at this
  · have hl0 : l = [] := List.eq_nil_of_length_eq_zero (by omega)
    subst hl0
    cases A with
    | none =>
      refine (Try.slices_Clone_int_nil 0 c w).mono ?_
      rintro e w' ⟨he, rfl⟩
      exact ⟨none, 0, he, .inl ⟨rfl, rfl, rfl⟩, Below.refl _ _⟩
    | some ad =>
      refine (Try.slices_Clone_int_zero ad c w).mono ?_
      rintro e w' ⟨v, rfl, ho, _, hb⟩
      have hv : ∃ A' c', v = .slice A' 0 c' := by
        obtain ⟨_, ⟨h1, h2⟩ | ⟨g', cap, cur, h1, _⟩⟩ := ho
        · exact ⟨none, 0, by rw [h1]⟩
        · exact ⟨_, _, h1⟩
      obtain ⟨A', c', rfl⟩ := hv
      exact ⟨A', c', rfl, OwnJ.ownV ho, hb⟩

set_option maxRecDepth 100000 in
set_option maxHeartbeats 3200000 in
theorem implLeaf_any {src : List (List Int)} {p : Nat} {m : Int} {z : List Int} (k xa xb : Int) (As : Option Addr) (ca : Nat) (w : World) (B : Nat) (hs : RdR w B As src) (hB : B ≤ w.heap.size) (hp : p < src.length) (hr : src[p]? = some z) (hz : z.length ≤ 65536) :
    Calls Try.prog 41 #[.iface 81 (.agg #[.int .i64 k, .int .i64 xa, .int .i64 xb, .int .i64 (p : Int), .int .i64 m]), .slice As src.length ca] w fun e w' => ∃ R cR, e = .returned (.slice R z.length cR) ∧ OwnV w' w.heap.size R cR z ∧ Below w.heap.size w w' := by
  obtain ⟨ad, y2, Ar, cr, rfl, hy2, hcr, hri⟩ := hs.at_ hp
  obtain rfl := Option.some.inj (hr.symm.trans hy2)
  obtain ⟨_, e3, hadB, _⟩ := hs (by omega)
  obtain rfl := Option.some.inj e3
  obtain ⟨W2, hW2⟩ : ∃ W2 : World, W2 = w.alloc (.cells #[.int .i64 k, .int .i64 xa, .int .i64 xb, .int .i64 (p : Int), .int .i64 m] 81) := ⟨_, rfl⟩
  have hb2 : Below w.heap.size w W2 := by rw [hW2]; exact (Below.refl _ _).alloc (Nat.le_refl _) _
  have hab : (ad.add p).block < w.heap.size := by rw [add_block]; omega
  have hcr3 : (w.alloc (.cells #[.int .i64 k, .int .i64 xa, .int .i64 xb, .int .i64 (p : Int), .int .i64 m] 81)).cell? (ad.add p) = some (.slice Ar z.length cr) := by rw [← hW2]; exact (hb2.cell hab).trans hcr
  have HW2 := Lib.hid hW2
  have Hb2 := Lib.hid hb2
  have Hri := Lib.hid (hri.below hb2 hB)
  have hz2 := hb2.size
  have hta : ∀ w, (Instr.typeAssert (.iface 81 (.agg #[.int .i64 k, .int .i64 xa, .int .i64 xb, .int .i64 (p : Int), .int .i64 m])) 58 81 true).run Try.prog w = .ok (.tuple #[.agg #[.int .i64 k, .int .i64 xa, .int .i64 xb, .int .i64 (p : Int), .int .i64 m], .bool true]) w := fun w => ta_leaf_leaf _ w
  clear hb2 hW2 hri hy2 hr hs
  go_enter Try.func41, Try.ntmps41
  go_wp2_with fail
  rw [← HW2.out]
  refine (cloneR_any Ar cr z W2 B Hri.out (by omega)).mono ?_
  rintro e w4 ⟨R4, c4, rfl, ho4, hb4⟩
  have Ho4 := Lib.hid (ho4.base_ hz2)
  have Hb4 := Lib.hid (Hb2.out.trans (hb4.mono hz2))
  clear ho4 hb4
  go_wp2_with fail
  go_ret
  exact ⟨R4, c4, rfl, Ho4.out, Hb4.out⟩

end Go.Proofs.Ytkjhncohanfciaa

/- Contracts: the list of a tree with one below its end, by the program. -/
namespace Go.Proofs.Ytkjhncohanfciaa
open Go.RowKit Go.Sort

set_option maxRecDepth 100000 in
set_option maxHeartbeats 6400000 in
theorem implStemTree (hBat : BatchOk) (x : Nd) (hk : arity x.k = 1) (hx : numsOk x = true) (ty : TypeId) (v : Value) (As : Option Addr) (ca n : Nat) (q : List Int) (w : World) (iq : Items q) (lq : q.length ≤ 65536)
    (hi : ∀ W, Below w.heap.size w W → Calls Try.prog 41 #[.iface ty v, .slice As n ca] W fun e w' => ∃ R cR, e = .returned (.slice R q.length cR) ∧ OwnV w' W.heap.size R cR q ∧ Below W.heap.size W w') :
    Calls Try.prog 41 #[.iface 83 (.agg #[.int .i64 x.k, .int .i64 x.a, .int .i64 x.b, .int .i64 x.n, .int .i64 x.m, .iface ty v]), .slice As n ca] w fun e w' => ∃ R cR, e = .returned (.slice R (stemL x q).length cR) ∧ OwnV w' w.heap.size R cR (stemL x q) ∧ Below w.heap.size w w' := by
  obtain ⟨W2, hW2⟩ : ∃ W2 : World, W2 = w.alloc (.cells #[.int .i64 x.k, .int .i64 x.a, .int .i64 x.b, .int .i64 x.n, .int .i64 x.m, .iface ty v] 83) := ⟨_, rfl⟩
  have hb2 : Below w.heap.size w W2 := by rw [hW2]; exact (Below.refl _ _).alloc (Nat.le_refl _) _
  have hx0 : Bk W2 w.heap.size 83 [.int .i64 x.k, .int .i64 x.a, .int .i64 x.b, .int .i64 x.n, .int .i64 x.m, .iface ty v] := by rw [hW2]; exact Bk.new _ _ [_, _, _, _, _, _]
  have hta : ∀ w, (Instr.typeAssert (.iface 83 (.agg #[.int .i64 x.k, .int .i64 x.a, .int .i64 x.b, .int .i64 x.n, .int .i64 x.m, .iface ty v])) 58 81 true).run Try.prog w = .ok (.tuple #[.agg #[.int .i64 0, .int .i64 0, .int .i64 0, .int .i64 0, .int .i64 0], .bool false]) w := fun w => ta_stem_leaf _ w
  have htb : ∀ w, (Instr.typeAssert (.iface 83 (.agg #[.int .i64 x.k, .int .i64 x.a, .int .i64 x.b, .int .i64 x.n, .int .i64 x.m, .iface ty v])) 58 83 true).run Try.prog w = .ok (.tuple #[.agg #[.int .i64 x.k, .int .i64 x.a, .int .i64 x.b, .int .i64 x.n, .int .i64 x.m, .iface ty v], .bool true]) w := fun w => ta_stem_stem _ w
  have Hi := Lib.hid hi
  have HW2 := Lib.hid hW2
  have Hb2 := Lib.hid hb2
  have Hx0 := Lib.hid hx0
  have Hk := Lib.hid hk
  have Hx := Lib.hid hx
  have Iq := Lib.hid iq
  have hz2 := hb2.size
  have hlt2 := hx0.lt
  have HBat := Lib.hid hBat
  have hs : ∀ i, W2.cell? ⟨w.heap.size, i, none⟩ = [Value.int .i64 x.k, .int .i64 x.a, .int .i64 x.b, .int .i64 x.n, .int .i64 x.m, .iface ty v][i]? := fun i => hx0.cell i
  have e0 := hs 0
  have e1 := hs 1
  have e2 := hs 2
  have e3 := hs 3
  have e4 := hs 4
  have e5 := hs 5
  simp only [List.getElem?_cons_zero, List.getElem?_cons_succ] at e0 e1 e2 e3 e4 e5
  clear hi hW2 hb2 hx0 hk hx iq hs hBat
  go_enter Try.func41, Try.ntmps41
  go_wp2_with fail
  rw [← HW2.out]
  go_region_held3 (fun w' => w'.cell? ⟨w.heap.size, 0, none⟩ = some (.int .i64 x.k) ∧ w'.cell? ⟨w.heap.size, 1, none⟩ = some (.int .i64 x.a) ∧ w'.cell? ⟨w.heap.size, 2, none⟩ = some (.int .i64 x.b) ∧ w'.cell? ⟨w.heap.size, 3, none⟩ = some (.int .i64 x.n) ∧ w'.cell? ⟨w.heap.size, 4, none⟩ = some (.int .i64 x.m) ∧ w'.cell? ⟨w.heap.size, 5, none⟩ = some (.iface ty v)) (go_keep)
    (first
      | (
        go_at_call 65
        go_loud (
          refine (implStem_any HBat.out x Hk.out Hx.out R cR q w3 w.heap.size Ho3.out (by omega) lq Iq.out).mono ?_
          rintro e w4 ⟨R4, c4, rfl, ho4, hg4⟩
          have hb40 : Below (w.heap.size + 1) W2 w4 := Below.grown (Hb23.out.mono (by omega)) hg4 (by omega) (fun g hg => by have := (Ho31.out.row_lt g hg).1; omega)
          have hx4 := Hx0.out.below hb40 (by omega)
          have ks := And.intro (hx4.cell 0) (And.intro (hx4.cell 1) (And.intro (hx4.cell 2) (And.intro (hx4.cell 3) (And.intro (hx4.cell 4) (hx4.cell 5)))))
          have Ho4 := Lib.hid ho4
          have Hb4 := Lib.hid (Hb3.out.grown hg4 (by omega) (fun g hg => (Ho3.out.row_lt g hg).1))
          clear ho4 hg4 hb40 hx4))
      | (
        go_at_call 41
        refine (Hi.out _ (by first | exact Hb2.out.drew | exact Hb2.out)).mono ?_
        rintro e w3 ⟨R, cR, rfl, ho3, hb3⟩
        have hb30 : Below W2.heap.size W2 w3 := ((Below.refl W2.heap.size W2).drew).trans (hb3.mono (by simp))
        have hx3 := Hx0.out.below hb30 Hx0.out.lt
        have ks := And.intro (hx3.cell 0) (And.intro (hx3.cell 1) (And.intro (hx3.cell 2) (And.intro (hx3.cell 3) (And.intro (hx3.cell 4) (hx3.cell 5)))))
        have hz3 := hb30.size
        have Ho31 : Hid (OwnV w3 W2.heap.size R cR q) := Lib.hid ho3
        have Ho3 := Lib.hid (ho3.base_ hz2)
        have Hb23 := Lib.hid hb30
        have Hb3 := Lib.hid (Hb2.out.trans (hb30.mono hz2))
        clear ho3 hb3 hb30 hx3))
  all_goals
    go_wp2_with fail
    go_ret
    exact ⟨R4, c4, rfl, Ho4.out, Hb4.out⟩

end Go.Proofs.Ytkjhncohanfciaa

/- Contracts: the list of a tree with two below its end, by the program. -/
namespace Go.Proofs.Ytkjhncohanfciaa
open Go.RowKit Go.Sort

set_option maxRecDepth 100000 in
set_option maxHeartbeats 6400000 in
theorem implForkTree (x : Nd) (hk : arity x.k = 2) (ty ty2 : TypeId) (v v2 : Value) (As : Option Addr) (ca n : Nat) (q r : List Int) (w : World) (iq : Items q) (lq : q.length ≤ 65536) (ir : Items r) (lr : r.length ≤ 65536)
    (hi : ∀ W, Below w.heap.size w W → Calls Try.prog 41 #[.iface ty v, .slice As n ca] W fun e w' => ∃ R cR, e = .returned (.slice R q.length cR) ∧ OwnV w' W.heap.size R cR q ∧ Below W.heap.size W w')
    (hi2 : ∀ W, Below w.heap.size w W → Calls Try.prog 41 #[.iface ty2 v2, .slice As n ca] W fun e w' => ∃ R cR, e = .returned (.slice R r.length cR) ∧ OwnV w' W.heap.size R cR r ∧ Below W.heap.size W w') :
    Calls Try.prog 41 #[(.iface 71 (.agg #[.int .i64 x.k, .int .i64 x.a, .int .i64 x.b, .int .i64 x.n, .int .i64 x.m, .iface ty v, .iface ty2 v2])), .slice As n ca] w fun e w' => ∃ R cR, e = .returned (.slice R (forkL x q r).length cR) ∧ OwnV w' w.heap.size R cR (forkL x q r) ∧ Below w.heap.size w w' := by
  obtain ⟨W2, hW2⟩ : ∃ W2 : World, W2 = w.alloc (.cells #[.int .i64 x.k, .int .i64 x.a, .int .i64 x.b, .int .i64 x.n, .int .i64 x.m, .iface ty v, .iface ty2 v2] 71) := ⟨_, rfl⟩
  have hb2 : Below w.heap.size w W2 := by rw [hW2]; exact (Below.refl _ _).alloc (Nat.le_refl _) _
  have hx0 : Bk W2 w.heap.size 71 [.int .i64 x.k, .int .i64 x.a, .int .i64 x.b, .int .i64 x.n, .int .i64 x.m, .iface ty v, .iface ty2 v2] := by rw [hW2]; exact Bk.new _ _ [_, _, _, _, _, _, _]
  have hta : ∀ w, (Instr.typeAssert (.iface 71 (.agg #[.int .i64 x.k, .int .i64 x.a, .int .i64 x.b, .int .i64 x.n, .int .i64 x.m, .iface ty v, .iface ty2 v2])) 58 81 true).run Try.prog w = .ok (.tuple #[.agg #[.int .i64 0, .int .i64 0, .int .i64 0, .int .i64 0, .int .i64 0], .bool false]) w := fun w => ta_fork_leaf _ w
  have htb : ∀ w, (Instr.typeAssert (.iface 71 (.agg #[.int .i64 x.k, .int .i64 x.a, .int .i64 x.b, .int .i64 x.n, .int .i64 x.m, .iface ty v, .iface ty2 v2])) 58 83 true).run Try.prog w = .ok (.tuple #[.agg #[.int .i64 0, .int .i64 0, .int .i64 0, .int .i64 0, .int .i64 0, .nilIface], .bool false]) w := fun w => ta_fork_stem _ w
  have htc : ∀ w, (Instr.typeAssert (.iface 71 (.agg #[.int .i64 x.k, .int .i64 x.a, .int .i64 x.b, .int .i64 x.n, .int .i64 x.m, .iface ty v, .iface ty2 v2])) 58 71 true).run Try.prog w = .ok (.tuple #[.agg #[.int .i64 x.k, .int .i64 x.a, .int .i64 x.b, .int .i64 x.n, .int .i64 x.m, .iface ty v, .iface ty2 v2], .bool true]) w := fun w => ta_fork_fork _ w
  have Hi := Lib.hid hi
  have Hi2 := Lib.hid hi2
  have HW2 := Lib.hid hW2
  have Hb2 := Lib.hid hb2
  have Hx0 := Lib.hid hx0
  have Hk := Lib.hid hk
  have Iq := Lib.hid iq
  have Ir := Lib.hid ir
  have hz2 := hb2.size
  have hlt2 := hx0.lt
  have hs : ∀ i, W2.cell? ⟨w.heap.size, i, none⟩ = [Value.int .i64 x.k, .int .i64 x.a, .int .i64 x.b, .int .i64 x.n, .int .i64 x.m, .iface ty v, .iface ty2 v2][i]? := fun i => hx0.cell i
  have e0 := hs 0
  have e1 := hs 1
  have e2 := hs 2
  have e3 := hs 3
  have e4 := hs 4
  have e5 := hs 5
  have e6 := hs 6
  simp only [List.getElem?_cons_zero, List.getElem?_cons_succ] at e0 e1 e2 e3 e4 e5 e6
  clear hi hi2 hW2 hb2 hx0 hk iq ir hs
  go_enter Try.func41, Try.ntmps41
  go_wp2_with fail
  rw [← HW2.out]
  go_region_held3 (fun w' => w'.cell? ⟨w.heap.size, 0, none⟩ = some (.int .i64 x.k) ∧ w'.cell? ⟨w.heap.size, 1, none⟩ = some (.int .i64 x.a) ∧ w'.cell? ⟨w.heap.size, 2, none⟩ = some (.int .i64 x.b) ∧ w'.cell? ⟨w.heap.size, 3, none⟩ = some (.int .i64 x.n) ∧ w'.cell? ⟨w.heap.size, 4, none⟩ = some (.int .i64 x.m) ∧ w'.cell? ⟨w.heap.size, 5, none⟩ = some (.iface ty v) ∧ w'.cell? ⟨w.heap.size, 6, none⟩ = some (.iface ty2 v2)) (go_keep)
    (first
      | (
        go_at_call 66
        refine (implFork_any x Hk.out R cR q R5 c5 r w5 w.heap.size Ho35.out Ho5.out lq lr Iq.out Ir.out).mono ?_
        rintro e w4 ⟨R4, c4, rfl, ho4, hb4⟩
        have hx4 := (Hx0.out.below Hb25.out Hx0.out.lt).below hb4 (by omega)
        have ks := And.intro (hx4.cell 0) (And.intro (hx4.cell 1) (And.intro (hx4.cell 2) (And.intro (hx4.cell 3) (And.intro (hx4.cell 4) (And.intro (hx4.cell 5) (hx4.cell 6))))))
        have Ho4 := Lib.hid (ho4.base_ (b2 := w.heap.size) (by omega))
        have Hb4 := Lib.hid (Hb5.out.trans (hb4.mono (by omega)))
        clear ho4 hb4 hx4)
      | (
        go_at_call 41
        refine (Hi2.out w3 Hb3.out).mono ?_
        rintro e w5 ⟨R5, c5, rfl, ho5, hb5⟩
        have Hb25 := Lib.hid (Hb23.out.trans (hb5.mono hz3))
        have hx5 := Hx0.out.below Hb25.out Hx0.out.lt
        have ks := And.intro (hx5.cell 0) (And.intro (hx5.cell 1) (And.intro (hx5.cell 2) (And.intro (hx5.cell 3) (And.intro (hx5.cell 4) (And.intro (hx5.cell 5) (hx5.cell 6))))))
        have hz5 := hb5.size
        have Ho5 := Lib.hid (ho5.base_ (b2 := w.heap.size) (by omega))
        have Ho35 := Lib.hid (Ho3.out.below hb5 (Nat.le_refl _))
        have Hb5 := Lib.hid (Hb3.out.trans (hb5.mono (by omega)))
        clear ho5 hb5 hx5)
      | (
        go_at_call 41
        refine (Hi.out _ (by first | exact Hb2.out.drew | exact Hb2.out)).mono ?_
        rintro e w3 ⟨R, cR, rfl, ho3, hb3⟩
        have hb30 : Below W2.heap.size W2 w3 := ((Below.refl W2.heap.size W2).drew).trans (hb3.mono (by simp))
        have hx3 := Hx0.out.below hb30 Hx0.out.lt
        have ks := And.intro (hx3.cell 0) (And.intro (hx3.cell 1) (And.intro (hx3.cell 2) (And.intro (hx3.cell 3) (And.intro (hx3.cell 4) (And.intro (hx3.cell 5) (hx3.cell 6))))))
        have hz3 := hb30.size
        have Ho3 := Lib.hid (ho3.base_ hz2)
        have Hb23 := Lib.hid hb30
        have Hb3 := Lib.hid (Hb2.out.trans (hb30.mono hz2))
        clear ho3 hb3 hb30 hx3))
  all_goals
    go_wp2_with fail
    go_ret
    exact ⟨R4, c4, rfl, Ho4.out, Hb4.out⟩

end Go.Proofs.Ytkjhncohanfciaa

/- Contracts: the list of a tree, by the program, whole. -/
namespace Go.Proofs.Ytkjhncohanfciaa
open Go.RowKit Go.Sort

theorem implListOf_tree (hBat : BatchOk) {l : List Nd} {src : List (List Int)} (hsrc : srcOk src = true) (h3 : src.length = 3) (As : Option Addr) (ca : Nat) (B : Nat) {i : Nat} {t : T} (ht : IsTree l i t) : t.nums → t.depth ≤ 12 → ∀ (w : World), RdR w B As src → B ≤ w.heap.size →
    Calls Try.prog 41 #[tv t, .slice As src.length ca] w fun e w' => ∃ R cR, e = .returned (.slice R (lst src t).length cR) ∧ OwnV w' w.heap.size R cR (lst src t) ∧ Below w.heap.size w w' := by
  induction ht with
  | @leaf i x hx ha h1 h2 =>
    intro hnum _ w hs hB
    have hk := arity_zero ha
    obtain ⟨k, a, b, n, m⟩ := x
    simp only at hk h1 h2
    subst hk h1 h2
    simp [T.nums, numsOk, inR] at hnum
    obtain ⟨p, rfl⟩ : ∃ p : Nat, n = (p : Int) := ⟨n.toNat, by omega⟩
    obtain ⟨r, hr⟩ := get_of_lt src (k := p) (by omega)
    have hl : lst src (.leaf ⟨0, -1, -1, (p : Int), m⟩) = r := by
      simp only [lst, Int.toNat_natCast, List.getD_eq_getElem?_getD, hr]
      rfl
    rw [hl]
    exact implLeaf_any 0 (-1) (-1) As ca w B hs hB (by omega) hr (by have := (src_items hsrc hr).2; omega)
  | @stem i j x t hx ha h1 hj h2 ht ih =>
    intro hnum hd w hs hB
    have hdt : t.depth ≤ 12 := by simp only [T.depth] at hd; omega
    obtain ⟨ty, v, hv⟩ := tv_iface t
    have hi : ∀ W, Below w.heap.size w W → _ := fun W hb => ih hnum.2 hdt W (hs.below hb hB) (Nat.le_trans hB hb.size)
    rw [hv] at hi
    have iq := lst_items hsrc hnum.2
    have lq : (lst src t).length ≤ 65536 := by have := lst_short hsrc hdt; omega
    simp only [tv, hv]
    exact implStemTree hBat x ha hnum.1 ty v As ca src.length (lst src t) w iq lq hi
  | @fork i j j2 x ta tb hx ha h1 hj h2 hj2 hta htb iha ihb =>
    intro hnum hd w hs hB
    have hda : ta.depth ≤ 12 := by simp only [T.depth] at hd; omega
    have hdb : tb.depth ≤ 12 := by simp only [T.depth] at hd; omega
    obtain ⟨ty, v, hv⟩ := tv_iface ta
    obtain ⟨ty2, v2, hv2⟩ := tv_iface tb
    have hi : ∀ W, Below w.heap.size w W → _ := fun W hb => iha hnum.2.1 hda W (hs.below hb hB) (Nat.le_trans hB hb.size)
    have hi2 : ∀ W, Below w.heap.size w W → _ := fun W hb => ihb hnum.2.2 hdb W (hs.below hb hB) (Nat.le_trans hB hb.size)
    rw [hv] at hi
    rw [hv2] at hi2
    have iq := lst_items hsrc hnum.2.1
    have lq : (lst src ta).length ≤ 65536 := by have := lst_short hsrc hda; omega
    have ir := lst_items hsrc hnum.2.2
    have lr : (lst src tb).length ≤ 65536 := by have := lst_short hsrc hdb; omega
    simp only [tv, hv, hv2]
    exact implForkTree x ha ty ty2 v v2 As ca src.length (lst src ta) (lst src tb) w iq lq ir lr hi hi2

end Go.Proofs.Ytkjhncohanfciaa
