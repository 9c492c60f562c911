/- CloseReader, by the program and by the reference. -/
import Derived.Test.YtjkieedomljelaaTeeE
namespace Go.Proofs.Ytjkieedomljelaa
open Go.RowKit Go.Deep

set_option maxRecDepth 100000 in
set_option maxHeartbeats 3200000 in
theorem implCloseReader_any (r : Tr) (t : Te) (c : Int) (w : World) (B : Nat) (h : RdT w B r t) (hB : B ≤ w.heap.size) (n1 : t.it.length ≤ 1048576) (n2 : t.pl.length ≤ 1048576) (n3 : t.op.length ≤ 1048576) (q : Te) (b : Bool) (hq : Hid (closeQ t c = q)) (hbq : Hid ((teeOk t && openB t c) = b)) :
    Calls Try.prog 49 #[.agg #[.slice r.a1 t.it.length r.c1, .int .i64 t.fd, .slice r.a2 t.pl.length r.c2, .slice r.a3 t.op.length r.c3], .int .i64 c] w fun e w' => ∃ r' : Tr, e = .returned (.tuple #[.agg #[.slice r'.a1 q.it.length r'.c1, .int .i64 q.fd, .slice r'.a2 q.pl.length r'.c2, .slice r'.a3 q.op.length r'.c3], .bool b]) ∧ OwnT w' w.heap.size w'.heap.size r' q ∧ Below w.heap.size w w' := by
  obtain ⟨W0, hW0⟩ : ∃ W : World, W = (w.alloc (.cells #[.slice r.a1 t.it.length r.c1, .int .i64 t.fd, .slice r.a2 t.pl.length r.c2, .slice r.a3 t.op.length r.c3] 27)).alloc (.cells #[.slice none 0 0, .int .i64 0, .slice none 0 0, .slice none 0 0] 27) := ⟨_, rfl⟩
  have hb0 : Below w.heap.size w W0 := by rw [hW0]; exact ((Below.refl _ _).alloc (Nat.le_refl _) _).alloc (by simp) _
  have ba : Bk W0 w.heap.size 27 [.slice r.a1 t.it.length r.c1, .int .i64 t.fd, .slice r.a2 t.pl.length r.c2, .slice r.a3 t.op.length r.c3] := by rw [hW0]; exact (Bk.new _ _ [.slice r.a1 t.it.length r.c1, .int .i64 t.fd, .slice r.a2 t.pl.length r.c2, .slice r.a3 t.op.length r.c3]).alloc _
  have hs0 : W0.heap.size = w.heap.size + 2 := by rw [hW0]; simp
  have H := Lib.hid (h.below hb0 hB)
  have Hb0 := Lib.hid hb0
  have HW0 := Lib.hid hW0
  have Ba := Lib.hid ba
  have Hs0 := Lib.hid hs0
  have br : Bk W0 (w.heap.size + 1) 27 [.slice none 0 0, .int .i64 0, .slice none 0 0, .slice none 0 0] := by
    rw [hW0]
    have := Bk.new (w.alloc (.cells #[.slice r.a1 t.it.length r.c1, .int .i64 t.fd, .slice r.a2 t.pl.length r.c2, .slice r.a3 t.op.length r.c3] 27)) 27 [.slice none 0 0, .int .i64 0, .slice none 0 0, .slice none 0 0]
    simpa using this
  have Br := Lib.hid br
  clear h hb0 hW0 ba hs0 br
  cases hv : (teeOk t && openB t c)
  · have hb2 : b = false := by rw [← hbq.out, hv]
    have hq2 : q = zeroTe := by rw [← hq.out]; simp [closeQ, hv]
    subst hb2 hq2
    have Hv := Lib.hid hv
    clear hv hq hbq
    go_enter Try.func49, Try.ntmps49
    go_wp2_with fail
    rw [← HW0.out]
    have hs0 := Hs0.out
    refine (implhasOpen_any r t c W0 B H.out (by omega) n1 n2 n3).mono ?_
    rintro e w1 ⟨rfl, hb1⟩
    rw [Hv.out]
    have Hb1 := Lib.hid (Hb0.out.trans (hb1.mono (by omega)))
    have Br1 := Lib.hid (Br.out.below hb1 (by omega))
    obtain ⟨cr0, cr1, cr2, cr3⟩ := Br1.out.cellsT
    obtain ⟨fr0, fr1, fr2, fr3⟩ := Br1.out.freeT
    clear hb1 hs0
    go_wp2_with fail
    have hbz := (((Hb1.out.setCell (p := ⟨w.heap.size + 1, 0, none⟩) (by show w.heap.size ≤ w.heap.size + 1; omega) (.slice none 0 0)).setCell (p := ⟨w.heap.size + 1, 1, none⟩) (by show w.heap.size ≤ w.heap.size + 1; omega) (.int .i64 0)).setCell (p := ⟨w.heap.size + 1, 2, none⟩) (by show w.heap.size ≤ w.heap.size + 1; omega) (.slice none 0 0)).setCell (p := ⟨w.heap.size + 1, 3, none⟩) (by show w.heap.size ≤ w.heap.size + 1; omega) (.slice none 0 0)
    refine bodyPost_ret (v := .tuple #[.agg #[.slice none 0 0, .int .i64 0, .slice none 0 0, .slice none 0 0], .bool false]) (by simp [results, Try.results49, go_sem, cr0, cr1, cr2, cr3]) rfl ⟨nilTr, rfl, OwnT.nil_ _ hbz.size _, hbz⟩
  · have hb2 : b = true := by rw [← hbq.out, hv]
    have hq2 : q = closeT t c := by rw [← hq.out]; simp [closeQ, hv]
    subst hb2 hq2
    have Hv := Lib.hid hv
    simp only [Bool.and_eq_true, openB] at hv
    obtain ⟨h0, h1⟩ := inR_iff.1 hv.2.1
    obtain ⟨ci, rfl⟩ : ∃ ci : Nat, c = ci := ⟨c.toNat, by omega⟩
    have hci : ci < t.op.length := by omega
    clear hv hq hbq
    go_enter Try.func49, Try.ntmps49
    go_wp2_with fail
    rw [← HW0.out]
    have hs0 := Hs0.out
    refine (implhasOpen_any r t (ci : Int) W0 B H.out (by omega) n1 n2 n3).mono ?_
    rintro e w1 ⟨rfl, hb1⟩
    rw [Hv.out]
    have hz1 := hb1.size
    have Hb1 := Lib.hid (Hb0.out.trans (hb1.mono (by omega)))
    have Br1 := Lib.hid (Br.out.below hb1 (by omega))
    have Ba1 := Lib.hid (Ba.out.below hb1 (by omega))
    have H1 := Lib.hid (H.out.below hb1 (by omega))
    obtain ⟨ca0, ca1, ca2, ca3⟩ := Ba1.out.cellsT
    clear hb1 hs0
    go_wp2_with fail
    clear ca0 ca1 ca2 ca3
    have hs0 := Hs0.out
    refine (implcopyTee_any r t w1 B H1.out (by omega) n1 n2 n3).mono ?_
    rintro e w2 ⟨rr, rfl, ho, hb2⟩
    have Hb2 := Lib.hid (Hb1.out.trans (hb2.mono (by omega)))
    have hz2 := hb2.size
    have Ba2 := Lib.hid (Ba1.out.below hb2 (by omega))
    have Br2 := Lib.hid (Br1.out.below hb2 (by omega))
    obtain ⟨x1, y1, x2, y2, x3, y3, a1, a2, a3, d1, d2, d3, o1, o2, o3⟩ := ho
    obtain ⟨g, o, cs, hA, hg1, hg2, hbk, hcs⟩ := o3 (by omega)
    obtain ⟨rr1, rk1, rr2, rk2, rr3, rk3⟩ := rr
    simp only at hA o1 o2
    subst hA
    obtain ⟨ov, hov⟩ := get_of_lt t.op hci
    have cg : w2.cell? ⟨g, o + ci, none⟩ = some (.bool ov) := (hbk.cell _).trans (hcs ci ov hov)
    have fg := hbk.free (o + ci)
    have hgn : g ≠ w.heap.size := by omega
    have hgn2 : g ≠ w.heap.size + 1 := by omega
    obtain ⟨ca0, ca1, ca2, ca3⟩ := Ba2.out.cellsT
    obtain ⟨fa0, fa1, fa2, fa3⟩ := Ba2.out.freeT
    obtain ⟨cr0, cr1, cr2, cr3⟩ := Br2.out.cellsT
    obtain ⟨fr0, fr1, fr2, fr3⟩ := Br2.out.freeT
    have Hk := Lib.hid hbk
    have Hcs := Lib.hid hcs
    have O1 := Lib.hid o1
    have O2 := Lib.hid o2
    have Hs := Lib.hid hs0
    clear hb2 hbk hcs hov o1 o2 o3 hs0
    go_wp2_with fail
    refine bodyPost_ret (v := .tuple #[.agg #[.slice rr1 t.it.length rk1, .int .i64 t.fd, .slice rr2 t.pl.length rk2, .slice (some ⟨g, o, none⟩) t.op.length rk3], .bool true]) (by simp [results, Try.results49, go_sem, cr0, cr1, cr2, cr3]) rfl ⟨⟨rr1, rk1, rr2, rk2, some ⟨g, o, none⟩, rk3⟩, by simp [closeT], ?_, ?_⟩
    · have hs0 := Hs.out
      have far : ∀ (v : World) (p : Addr) (u : Value) (b : Nat), b ≠ p.block → (v.setCell p u).heap[b]? = v.heap[b]? := fun v p u b h => Below.heap_setCell v p u b h
      have fars : ∀ b, b ≠ w.heap.size → b ≠ w.heap.size + 1 → b ≠ g → (((((((((w2.setCell ⟨w.heap.size, 0, none⟩ (.slice rr1 t.it.length rk1)).setCell ⟨w.heap.size, 1, none⟩ (.int .i64 t.fd)).setCell ⟨w.heap.size, 2, none⟩ (.slice rr2 t.pl.length rk2)).setCell ⟨w.heap.size, 3, none⟩ (.slice (some ⟨g, o, none⟩) t.op.length rk3)).setCell ⟨g, o + ci, none⟩ (.bool false)).setCell ⟨w.heap.size + 1, 0, none⟩ (.slice rr1 t.it.length rk1)).setCell ⟨w.heap.size + 1, 1, none⟩ (.int .i64 t.fd)).setCell ⟨w.heap.size + 1, 2, none⟩ (.slice rr2 t.pl.length rk2)).setCell ⟨w.heap.size + 1, 3, none⟩ (.slice (some ⟨g, o, none⟩) t.op.length rk3)).heap[b]? = w2.heap[b]? := fun b e1 e2 e3 => by
        rw [far _ _ _ _ (by exact e2), far _ _ _ _ (by exact e2), far _ _ _ _ (by exact e2), far _ _ _ _ (by exact e2), far _ _ _ _ (by exact e3), far _ _ _ _ (by exact e1), far _ _ _ _ (by exact e1), far _ _ _ _ (by exact e1), far _ _ _ _ (by exact e1)]
      have hz : (((((((((w2.setCell ⟨w.heap.size, 0, none⟩ (.slice rr1 t.it.length rk1)).setCell ⟨w.heap.size, 1, none⟩ (.int .i64 t.fd)).setCell ⟨w.heap.size, 2, none⟩ (.slice rr2 t.pl.length rk2)).setCell ⟨w.heap.size, 3, none⟩ (.slice (some ⟨g, o, none⟩) t.op.length rk3)).setCell ⟨g, o + ci, none⟩ (.bool false)).setCell ⟨w.heap.size + 1, 0, none⟩ (.slice rr1 t.it.length rk1)).setCell ⟨w.heap.size + 1, 1, none⟩ (.int .i64 t.fd)).setCell ⟨w.heap.size + 1, 2, none⟩ (.slice rr2 t.pl.length rk2)).setCell ⟨w.heap.size + 1, 3, none⟩ (.slice (some ⟨g, o, none⟩) t.op.length rk3)).heap.size = w2.heap.size := by simp [World.setCell]
      have hbf : Bk (((((((((w2.setCell ⟨w.heap.size, 0, none⟩ (.slice rr1 t.it.length rk1)).setCell ⟨w.heap.size, 1, none⟩ (.int .i64 t.fd)).setCell ⟨w.heap.size, 2, none⟩ (.slice rr2 t.pl.length rk2)).setCell ⟨w.heap.size, 3, none⟩ (.slice (some ⟨g, o, none⟩) t.op.length rk3)).setCell ⟨g, o + ci, none⟩ (.bool false)).setCell ⟨w.heap.size + 1, 0, none⟩ (.slice rr1 t.it.length rk1)).setCell ⟨w.heap.size + 1, 1, none⟩ (.int .i64 t.fd)).setCell ⟨w.heap.size + 1, 2, none⟩ (.slice rr2 t.pl.length rk2)).setCell ⟨w.heap.size + 1, 3, none⟩ (.slice (some ⟨g, o, none⟩) t.op.length rk3)) g 4 (cs.set (o + ci) (.bool false)) := by
        exact (((((((((Hk.out).far (p := ⟨w.heap.size, 0, none⟩) (by exact hgn) (.slice rr1 t.it.length rk1)).far (p := ⟨w.heap.size, 1, none⟩) (by exact hgn) (.int .i64 t.fd)).far (p := ⟨w.heap.size, 2, none⟩) (by exact hgn) (.slice rr2 t.pl.length rk2)).far (p := ⟨w.heap.size, 3, none⟩) (by exact hgn) (.slice (some ⟨g, o, none⟩) t.op.length rk3)).set_ (o + ci) (.bool false)).far (p := ⟨w.heap.size + 1, 0, none⟩) (by exact hgn2) (.slice rr1 t.it.length rk1)).far (p := ⟨w.heap.size + 1, 1, none⟩) (by exact hgn2) (.int .i64 t.fd)).far (p := ⟨w.heap.size + 1, 2, none⟩) (by exact hgn2) (.slice rr2 t.pl.length rk2)).far (p := ⟨w.heap.size + 1, 3, none⟩) (by exact hgn2) (.slice (some ⟨g, o, none⟩) t.op.length rk3)
      rw [hz]
      refine ⟨x1, y1, x2, y2, x3, y3, by omega, by omega, by omega, d1, d2, d3, ?_, ?_, ?_⟩
      · exact O1.out.agree fun b hb1 hb2 => fars b (by omega) (by omega) (by omega)
      · exact O2.out.agree fun b hb1 hb2 => fars b (by omega) (by omega) (by omega)
      · refine fun _ => ⟨g, o, _, rfl, hg1, hg2, hbf, fun k x hx => ?_⟩
        simp only [closeT, Int.toNat_natCast] at hx
        by_cases hk : k = ci
        · subst hk
          rw [List.getElem?_set_self hci] at hx
          obtain rfl := Option.some.inj hx
          have hlen : o + k < cs.length := by
            obtain ⟨z, hz9⟩ := get_of_lt t.op hci
            exact (List.getElem?_eq_some_iff.1 (Hcs.out k z hz9)).1
          rw [List.getElem?_set_self hlen]
        · rw [List.getElem?_set_ne (by omega)] at hx
          rw [List.getElem?_set_ne (by omega)]
          exact Hcs.out k x hx
    · have hs0 := Hs.out
      exact (((((((((Hb2.out).setCell (p := ⟨w.heap.size, 0, none⟩) (by show w.heap.size ≤ w.heap.size; omega) (.slice rr1 t.it.length rk1)).setCell (p := ⟨w.heap.size, 1, none⟩) (by show w.heap.size ≤ w.heap.size; omega) (.int .i64 t.fd)).setCell (p := ⟨w.heap.size, 2, none⟩) (by show w.heap.size ≤ w.heap.size; omega) (.slice rr2 t.pl.length rk2)).setCell (p := ⟨w.heap.size, 3, none⟩) (by show w.heap.size ≤ w.heap.size; omega) (.slice (some ⟨g, o, none⟩) t.op.length rk3)).setCell (p := ⟨g, o + ci, none⟩) (by show w.heap.size ≤ g; omega) (.bool false)).setCell (p := ⟨w.heap.size + 1, 0, none⟩) (by show w.heap.size ≤ w.heap.size + 1; omega) (.slice rr1 t.it.length rk1)).setCell (p := ⟨w.heap.size + 1, 1, none⟩) (by show w.heap.size ≤ w.heap.size + 1; omega) (.int .i64 t.fd)).setCell (p := ⟨w.heap.size + 1, 2, none⟩) (by show w.heap.size ≤ w.heap.size + 1; omega) (.slice rr2 t.pl.length rk2)).setCell (p := ⟨w.heap.size + 1, 3, none⟩) (by show w.heap.size ≤ w.heap.size + 1; omega) (.slice (some ⟨g, o, none⟩) t.op.length rk3)


set_option maxRecDepth 100000 in
set_option maxHeartbeats 3200000 in
theorem specCloseReader_any (r : Tr) (t : Te) (c : Int) (w : World) (B : Nat) (h : RdT w B r t) (hB : B ≤ w.heap.size) (n1 : t.it.length ≤ 1048576) (n2 : t.pl.length ≤ 1048576) (n3 : t.op.length ≤ 1048576) (q : Te) (b : Bool) (hq : Hid (closeQ t c = q)) (hbq : Hid ((teeOk t && openB t c) = b)) :
    Calls Try.prog 50 #[.agg #[.slice r.a1 t.it.length r.c1, .int .i64 t.fd, .slice r.a2 t.pl.length r.c2, .slice r.a3 t.op.length r.c3], .int .i64 c] w fun e w' => ∃ r' : Tr, e = .returned (.tuple #[.agg #[.slice r'.a1 q.it.length r'.c1, .int .i64 q.fd, .slice r'.a2 q.pl.length r'.c2, .slice r'.a3 q.op.length r'.c3], .bool b]) ∧ OwnT w' w.heap.size w'.heap.size r' q ∧ Below w.heap.size w w' := by
  obtain ⟨W0, hW0⟩ : ∃ W : World, W = (w.alloc (.cells #[.slice r.a1 t.it.length r.c1, .int .i64 t.fd, .slice r.a2 t.pl.length r.c2, .slice r.a3 t.op.length r.c3] 27)).alloc (.cells #[.slice none 0 0, .int .i64 0, .slice none 0 0, .slice none 0 0] 27) := ⟨_, rfl⟩
  have hb0 : Below w.heap.size w W0 := by rw [hW0]; exact ((Below.refl _ _).alloc (Nat.le_refl _) _).alloc (by simp) _
  have ba : Bk W0 w.heap.size 27 [.slice r.a1 t.it.length r.c1, .int .i64 t.fd, .slice r.a2 t.pl.length r.c2, .slice r.a3 t.op.length r.c3] := by rw [hW0]; exact (Bk.new _ _ [.slice r.a1 t.it.length r.c1, .int .i64 t.fd, .slice r.a2 t.pl.length r.c2, .slice r.a3 t.op.length r.c3]).alloc _
  have hs0 : W0.heap.size = w.heap.size + 2 := by rw [hW0]; simp
  have H := Lib.hid (h.below hb0 hB)
  have Hb0 := Lib.hid hb0
  have HW0 := Lib.hid hW0
  have Ba := Lib.hid ba
  have Hs0 := Lib.hid hs0
  have br : Bk W0 (w.heap.size + 1) 27 [.slice none 0 0, .int .i64 0, .slice none 0 0, .slice none 0 0] := by
    rw [hW0]
    have := Bk.new (w.alloc (.cells #[.slice r.a1 t.it.length r.c1, .int .i64 t.fd, .slice r.a2 t.pl.length r.c2, .slice r.a3 t.op.length r.c3] 27)) 27 [.slice none 0 0, .int .i64 0, .slice none 0 0, .slice none 0 0]
    simpa using this
  have Br := Lib.hid br
  clear h hb0 hW0 ba hs0 br
  cases hv1 : teeOk t
  · have hb2 : b = false := by rw [← hbq.out, hv1]; rfl
    have hq2 : q = zeroTe := by rw [← hq.out]; simp [closeQ, hv1]
    subst hb2 hq2
    have Hv := Lib.hid hv1
    clear hv1 hq hbq
    go_enter Try.func50, Try.ntmps50
    go_wp2_with fail
    rw [← HW0.out]
    have hs0 := Hs0.out
    refine (specvalidTee_any r t W0 B H.out (by omega) n1 n2 n3).mono ?_
    rintro e w1 ⟨rfl, hb1⟩
    rw [Hv.out]
    have Hb1 := Lib.hid (Hb0.out.trans (hb1.mono (by omega)))
    have Br1 := Lib.hid (Br.out.below hb1 (by omega))
    obtain ⟨cr0, cr1, cr2, cr3⟩ := Br1.out.cellsT
    obtain ⟨fr0, fr1, fr2, fr3⟩ := Br1.out.freeT
    clear hb1 hs0
    go_wp2_with fail
    have hbz := (((Hb1.out.setCell (p := ⟨w.heap.size + 1, 0, none⟩) (by show w.heap.size ≤ w.heap.size + 1; omega) (.slice none 0 0)).setCell (p := ⟨w.heap.size + 1, 1, none⟩) (by show w.heap.size ≤ w.heap.size + 1; omega) (.int .i64 0)).setCell (p := ⟨w.heap.size + 1, 2, none⟩) (by show w.heap.size ≤ w.heap.size + 1; omega) (.slice none 0 0)).setCell (p := ⟨w.heap.size + 1, 3, none⟩) (by show w.heap.size ≤ w.heap.size + 1; omega) (.slice none 0 0)
    refine bodyPost_ret (v := .tuple #[.agg #[.slice none 0 0, .int .i64 0, .slice none 0 0, .slice none 0 0], .bool false]) (by simp [results, Try.results50, go_sem, cr0, cr1, cr2, cr3]) rfl ⟨nilTr, rfl, OwnT.nil_ _ hbz.size _, hbz⟩
  have hok := teeOk_iff.1 hv1
  have Hok := Lib.hid hok
  clear hok
  cases hv2 : openB t c
  · have hb2 : b = false := by rw [← hbq.out, hv1, hv2]; rfl
    have hq2 : q = zeroTe := by rw [← hq.out]; simp [closeQ, hv1, hv2]
    subst hb2 hq2
    have Hv := Lib.hid hv1
    have Hv2 := Lib.hid hv2
    clear hv1 hv2 hq hbq
    go_enter Try.func50, Try.ntmps50
    go_wp2_with fail
    rw [← HW0.out]
    have hs0 := Hs0.out
    refine (specvalidTee_any r t W0 B H.out (by omega) n1 n2 n3).mono ?_
    rintro e w1 ⟨rfl, hb1⟩
    rw [Hv.out]
    have hz1 := hb1.size
    have Hb1 := Lib.hid (Hb0.out.trans (hb1.mono (by omega)))
    have Br1 := Lib.hid (Br.out.below hb1 (by omega))
    have Ba1 := Lib.hid (Ba.out.below hb1 (by omega))
    have H1 := Lib.hid (H.out.below hb1 (by omega))
    obtain ⟨ca0, ca1, ca2, ca3⟩ := Ba1.out.cellsT
    clear hb1 hs0
    go_wp2_with fail
    clear ca0 ca1 ca2 ca3
    have hs0 := Hs0.out
    refine (specisReader_any r t c w1 B H1.out (by omega) Hok.out).mono ?_
    rintro e w2 ⟨rfl, hb2⟩
    rw [Hv2.out]
    have Hb2 := Lib.hid (Hb1.out.trans (hb2.mono (by omega)))
    have Br2 := Lib.hid (Br1.out.below hb2 (by omega))
    obtain ⟨cr0, cr1, cr2, cr3⟩ := Br2.out.cellsT
    obtain ⟨fr0, fr1, fr2, fr3⟩ := Br2.out.freeT
    clear hb2 hs0
    go_wp2_with fail
    have hbz := (((Hb2.out.setCell (p := ⟨w.heap.size + 1, 0, none⟩) (by show w.heap.size ≤ w.heap.size + 1; omega) (.slice none 0 0)).setCell (p := ⟨w.heap.size + 1, 1, none⟩) (by show w.heap.size ≤ w.heap.size + 1; omega) (.int .i64 0)).setCell (p := ⟨w.heap.size + 1, 2, none⟩) (by show w.heap.size ≤ w.heap.size + 1; omega) (.slice none 0 0)).setCell (p := ⟨w.heap.size + 1, 3, none⟩) (by show w.heap.size ≤ w.heap.size + 1; omega) (.slice none 0 0)
    refine bodyPost_ret (v := .tuple #[.agg #[.slice none 0 0, .int .i64 0, .slice none 0 0, .slice none 0 0], .bool false]) (by simp [results, Try.results50, go_sem, cr0, cr1, cr2, cr3]) rfl ⟨nilTr, rfl, OwnT.nil_ _ hbz.size _, hbz⟩
  · have hb2 : b = true := by rw [← hbq.out, hv1, hv2]; rfl
    have hq2 : q = closeT t c := by rw [← hq.out]; simp [closeQ, hv1, hv2]
    subst hb2 hq2
    have Hv := Lib.hid hv1
    have Hv2 := Lib.hid hv2
    simp only [Bool.and_eq_true, openB] at hv2
    obtain ⟨h0, h1⟩ := inR_iff.1 hv2.1
    obtain ⟨ci, rfl⟩ : ∃ ci : Nat, c = ci := ⟨c.toNat, by omega⟩
    have hci : ci < t.op.length := by omega
    clear hv1 hv2 hq hbq
    go_enter Try.func50, Try.ntmps50
    go_wp2_with fail
    rw [← HW0.out]
    have hs0 := Hs0.out
    refine (specvalidTee_any r t W0 B H.out (by omega) n1 n2 n3).mono ?_
    rintro e w1 ⟨rfl, hb1⟩
    rw [Hv.out]
    have hz1 := hb1.size
    have Hb1 := Lib.hid (Hb0.out.trans (hb1.mono (by omega)))
    have Br1 := Lib.hid (Br.out.below hb1 (by omega))
    have Ba1 := Lib.hid (Ba.out.below hb1 (by omega))
    have H1 := Lib.hid (H.out.below hb1 (by omega))
    obtain ⟨ca0, ca1, ca2, ca3⟩ := Ba1.out.cellsT
    clear hb1 hs0
    go_wp2_with fail
    clear ca0 ca1 ca2 ca3
    have hs0 := Hs0.out
    refine (specisReader_any r t (ci : Int) w1 B H1.out (by omega) Hok.out).mono ?_
    rintro e w2 ⟨rfl, hb2⟩
    rw [Hv2.out]
    have hz2 := hb2.size
    have Hb2 := Lib.hid (Hb1.out.trans (hb2.mono (by omega)))
    have Br2 := Lib.hid (Br1.out.below hb2 (by omega))
    have Ba2 := Lib.hid (Ba1.out.below hb2 (by omega))
    have H2 := Lib.hid (H1.out.below hb2 (by omega))
    obtain ⟨ca0, ca1, ca2, ca3⟩ := Ba2.out.cellsT
    clear hb2 hs0
    go_wp2_with fail
    clear ca0 ca1 ca2 ca3
    have hs0 := Hs0.out
    refine (speccopyTee_any r t w2 B H2.out (by omega) n1 n2 n3).mono ?_
    rintro e w3 ⟨rr, rfl, ho, hb3⟩
    have Hb3 := Lib.hid (Hb2.out.trans (hb3.mono (by omega)))
    have hz3 := hb3.size
    have Br3 := Lib.hid (Br2.out.below hb3 (by omega))
    obtain ⟨x1, y1, x2, y2, x3, y3, a1, a2, a3, d1, d2, d3, o1, o2, o3⟩ := ho
    obtain ⟨g, o, cs, hA, hg1, hg2, hbk, hcs⟩ := o3 (by omega)
    obtain ⟨rr1, rk1, rr2, rk2, rr3, rk3⟩ := rr
    simp only at hA o1 o2
    subst hA
    obtain ⟨ov, hov⟩ := get_of_lt t.op hci
    have cg : w3.cell? ⟨g, o + ci, none⟩ = some (.bool ov) := (hbk.cell _).trans (hcs ci ov hov)
    have fg := hbk.free (o + ci)
    have hgl := hbk.lt
    have hgn : g ≠ w.heap.size := by omega
    have hgn2 : g ≠ w.heap.size + 1 := by omega
    have hgn3 : g ≠ w3.heap.size := by omega
    obtain ⟨cr0, cr1, cr2, cr3⟩ := Br3.out.cellsT
    obtain ⟨fr0, fr1, fr2, fr3⟩ := Br3.out.freeT
    have hrl := Br3.out.lt
    have Hk := Lib.hid hbk
    have Hcs := Lib.hid hcs
    have O1 := Lib.hid o1
    have O2 := Lib.hid o2
    have Hs := Lib.hid hs0
    clear hb3 hbk hcs hov o1 o2 o3 hs0
    go_wp2_with fail
    obtain ⟨VZ, hVZ⟩ : ∃ VZ : World, VZ = ((((w3.setCell ⟨g, o + ci, none⟩ (.bool false)).setCell ⟨w.heap.size + 1, 0, none⟩ (.slice rr1 t.it.length rk1)).setCell ⟨w.heap.size + 1, 1, none⟩ (.int .i64 t.fd)).setCell ⟨w.heap.size + 1, 2, none⟩ (.slice rr2 t.pl.length rk2)).setCell ⟨w.heap.size + 1, 3, none⟩ (.slice (some ⟨g, o, none⟩) t.op.length rk3) := ⟨_, rfl⟩
    have key : OwnT VZ w.heap.size VZ.heap.size ⟨rr1, rk1, rr2, rk2, some ⟨g, o, none⟩, rk3⟩ (closeT t (ci : Int)) ∧ Below w.heap.size w VZ := by
      rw [hVZ]
      refine ⟨?_, ?_⟩
      · have hs0 := Hs.out
        have far : ∀ (v : World) (p : Addr) (u : Value) (b : Nat), b ≠ p.block → (v.setCell p u).heap[b]? = v.heap[b]? := fun v p u b h => Below.heap_setCell v p u b h
        have fars : ∀ b, b ≠ w.heap.size → b ≠ w.heap.size + 1 → b ≠ g → (((((w3.setCell ⟨g, o + ci, none⟩ (.bool false)).setCell ⟨w.heap.size + 1, 0, none⟩ (.slice rr1 t.it.length rk1)).setCell ⟨w.heap.size + 1, 1, none⟩ (.int .i64 t.fd)).setCell ⟨w.heap.size + 1, 2, none⟩ (.slice rr2 t.pl.length rk2)).setCell ⟨w.heap.size + 1, 3, none⟩ (.slice (some ⟨g, o, none⟩) t.op.length rk3)).heap[b]? = w3.heap[b]? := fun b e1 e2 e3 => by
          rw [far _ _ _ _ (by exact e2), far _ _ _ _ (by exact e2), far _ _ _ _ (by exact e2), far _ _ _ _ (by exact e2), far _ _ _ _ (by exact e3)]
        have hz : (((((w3.setCell ⟨g, o + ci, none⟩ (.bool false)).setCell ⟨w.heap.size + 1, 0, none⟩ (.slice rr1 t.it.length rk1)).setCell ⟨w.heap.size + 1, 1, none⟩ (.int .i64 t.fd)).setCell ⟨w.heap.size + 1, 2, none⟩ (.slice rr2 t.pl.length rk2)).setCell ⟨w.heap.size + 1, 3, none⟩ (.slice (some ⟨g, o, none⟩) t.op.length rk3)).heap.size = w3.heap.size := by simp [World.setCell]
        have hbf : Bk (((((w3.setCell ⟨g, o + ci, none⟩ (.bool false)).setCell ⟨w.heap.size + 1, 0, none⟩ (.slice rr1 t.it.length rk1)).setCell ⟨w.heap.size + 1, 1, none⟩ (.int .i64 t.fd)).setCell ⟨w.heap.size + 1, 2, none⟩ (.slice rr2 t.pl.length rk2)).setCell ⟨w.heap.size + 1, 3, none⟩ (.slice (some ⟨g, o, none⟩) t.op.length rk3)) g 4 (cs.set (o + ci) (.bool false)) := by
          exact (((((Hk.out).set_ (o + ci) (.bool false)).far (p := ⟨w.heap.size + 1, 0, none⟩) (by exact hgn2) (.slice rr1 t.it.length rk1)).far (p := ⟨w.heap.size + 1, 1, none⟩) (by exact hgn2) (.int .i64 t.fd)).far (p := ⟨w.heap.size + 1, 2, none⟩) (by exact hgn2) (.slice rr2 t.pl.length rk2)).far (p := ⟨w.heap.size + 1, 3, none⟩) (by exact hgn2) (.slice (some ⟨g, o, none⟩) t.op.length rk3)
        rw [hz]
        refine ⟨x1, y1, x2, y2, x3, y3, by omega, by omega, by omega, d1, d2, d3, ?_, ?_, ?_⟩
        · exact O1.out.agree fun b hb1 hb2 => fars b (by omega) (by omega) (by omega)
        · exact O2.out.agree fun b hb1 hb2 => fars b (by omega) (by omega) (by omega)
        · refine fun _ => ⟨g, o, _, rfl, hg1, hg2, hbf, fun k x hx => ?_⟩
          simp only [closeT, Int.toNat_natCast] at hx
          by_cases hk : k = ci
          · subst hk
            rw [List.getElem?_set_self hci] at hx
            obtain rfl := Option.some.inj hx
            have hlen : o + k < cs.length := by
              obtain ⟨z, hz9⟩ := get_of_lt t.op hci
              exact (List.getElem?_eq_some_iff.1 (Hcs.out k z hz9)).1
            rw [List.getElem?_set_self hlen]
          · rw [List.getElem?_set_ne (by omega)] at hx
            rw [List.getElem?_set_ne (by omega)]
            exact Hcs.out k x hx
      · have hs0 := Hs.out
        exact (((((Hb3.out).setCell (p := ⟨g, o + ci, none⟩) (by show w.heap.size ≤ g; omega) (.bool false)).setCell (p := ⟨w.heap.size + 1, 0, none⟩) (by show w.heap.size ≤ w.heap.size + 1; omega) (.slice rr1 t.it.length rk1)).setCell (p := ⟨w.heap.size + 1, 1, none⟩) (by show w.heap.size ≤ w.heap.size + 1; omega) (.int .i64 t.fd)).setCell (p := ⟨w.heap.size + 1, 2, none⟩) (by show w.heap.size ≤ w.heap.size + 1; omega) (.slice rr2 t.pl.length rk2)).setCell (p := ⟨w.heap.size + 1, 3, none⟩) (by show w.heap.size ≤ w.heap.size + 1; omega) (.slice (some ⟨g, o, none⟩) t.op.length rk3)
    rw [← hVZ]
    have cz0 : VZ.cell? ⟨w.heap.size + 1, 0, none⟩ = some (.slice rr1 t.it.length rk1) := by rw [hVZ]; simp [go_sem, cr0]
    have cz1 : VZ.cell? ⟨w.heap.size + 1, 1, none⟩ = some (.int .i64 t.fd) := by rw [hVZ]; simp [go_sem, cr1]
    have cz2 : VZ.cell? ⟨w.heap.size + 1, 2, none⟩ = some (.slice rr2 t.pl.length rk2) := by rw [hVZ]; simp [go_sem, cr2]
    have cz3 : VZ.cell? ⟨w.heap.size + 1, 3, none⟩ = some (.slice (some ⟨g, o, none⟩) t.op.length rk3) := by rw [hVZ]; simp [go_sem, cr3]
    have hzl : w.heap.size + 1 < VZ.heap.size := by rw [hVZ]; simp [World.setCell]; omega
    refine bodyPost_ret (v := .tuple #[.agg #[.slice rr1 t.it.length rk1, .int .i64 t.fd, .slice rr2 t.pl.length rk2, .slice (some ⟨g, o, none⟩) t.op.length rk3], .bool true]) (by simp [results, Try.results50, go_sem, cz0, cz1, cz2, cz3, hzl]) rfl ⟨⟨rr1, rk1, rr2, rk2, some ⟨g, o, none⟩, rk3⟩, by simp [closeT], ?_, ?_⟩
    · exact (key.1.agree fun b _ h2 => Below.heap_alloc _ _ b h2).wide (Nat.le_refl _) (by simp)
    · exact key.2.alloc key.2.size _

end Go.Proofs.Ytjkieedomljelaa
