/- ReadTee, by the program and by the reference. -/
import Derived.Test.YtjkieedomljelaaRdT
namespace Go.Proofs.Ytjkieedomljelaa
open Go.RowKit Go.Conc Go.Deep

/-- What ReadTee leaves, hands over, and says. -/
def readQ (t : Te) (c : Int) : Te := if (teeOk t && openB t c) = true then readT t c.toNat else zeroTe
def readQx (t : Te) (c : Int) : Int := if (teeOk t && openB t c) = true then readX t c.toNat else 0
def readQb (t : Te) (c : Int) : Bool := if (teeOk t && openB t c) = true then readB t c.toNat else false
theorem readQ_no {t : Te} {c : Int} (h : (teeOk t && openB t c) = false) : readQ t c = zeroTe ∧ readQx t c = 0 ∧ readQb t c = false := by
  unfold readQ readQx readQb
  rw [if_neg (by rw [h]; decide), if_neg (by rw [h]; decide), if_neg (by rw [h]; decide)]
  exact ⟨rfl, rfl, rfl⟩
theorem readQ_yes {t : Te} {c : Nat} (h : (teeOk t && openB t (c : Int)) = true) : readQ t c = readT t c ∧ readQx t c = readX t c ∧ readQb t c = readB t c := by
  unfold readQ readQx readQb
  rw [if_pos h, if_pos h, if_pos h, Int.toNat_natCast]
  exact ⟨rfl, rfl, rfl⟩
theorem readQ_len (t : Te) (c : Int) : (readQ t c).it.length ≤ t.it.length ∧ (readQ t c).pl.length ≤ t.pl.length ∧ (readQ t c).op.length ≤ t.op.length := by
  unfold readQ
  split
  · rw [readT_it, readT_pl, readT_op]; omega
  · simp [zeroTe]

set_option maxRecDepth 100000 in
set_option maxHeartbeats 6400000 in
theorem implReadTee_any (r : Tr) (t : Te) (c : Int) (w : World) (B : Nat) (h : RdT w B r t) (hB : B ≤ w.heap.size) (n1 : t.it.length ≤ 1048576) (n2 : t.pl.length ≤ 1048576) (n3 : t.op.length ≤ 1048576) (hcap : t.it.length ≤ r.c1) (q : Te) (x : Int) (b : Bool) (hq : Hid (readQ t c = q)) (hqx : Hid (readQx t c = x)) (hqb : Hid (readQb t c = b)) :
    Calls Try.prog 20 #[.agg #[.slice r.a1 t.it.length r.c1, .int .i64 t.fd, .slice r.a2 t.pl.length r.c2, .slice r.a3 t.op.length r.c3], .int .i64 c] w fun e w' => ∃ r' : Tr, e = .returned (.tuple #[.agg #[.slice r'.a1 q.it.length r'.c1, .int .i64 q.fd, .slice r'.a2 q.pl.length r'.c2, .slice r'.a3 q.op.length r'.c3], .int .i64 x, .bool b]) ∧ OwnT w' w.heap.size w'.heap.size r' q ∧ Below w.heap.size w w' := by
  obtain ⟨W0, hW0⟩ : ∃ W : World, W = (w.alloc (.cells #[.slice r.a1 t.it.length r.c1, .int .i64 t.fd, .slice r.a2 t.pl.length r.c2, .slice r.a3 t.op.length r.c3] 27)).alloc (.cells #[.slice none 0 0, .int .i64 0, .slice none 0 0, .slice none 0 0] 27) := ⟨_, rfl⟩
  have hb0 : Below w.heap.size w W0 := by rw [hW0]; exact ((Below.refl _ _).alloc (Nat.le_refl _) _).alloc (by simp) _
  have ba : Bk W0 w.heap.size 27 [.slice r.a1 t.it.length r.c1, .int .i64 t.fd, .slice r.a2 t.pl.length r.c2, .slice r.a3 t.op.length r.c3] := by rw [hW0]; exact (Bk.new _ _ [.slice r.a1 t.it.length r.c1, .int .i64 t.fd, .slice r.a2 t.pl.length r.c2, .slice r.a3 t.op.length r.c3]).alloc _
  have hs0 : W0.heap.size = w.heap.size + 2 := by rw [hW0]; simp
  have br : Bk W0 (w.heap.size + 1) 27 [.slice none 0 0, .int .i64 0, .slice none 0 0, .slice none 0 0] := by
    rw [hW0]
    have := Bk.new (w.alloc (.cells #[.slice r.a1 t.it.length r.c1, .int .i64 t.fd, .slice r.a2 t.pl.length r.c2, .slice r.a3 t.op.length r.c3] 27)) 27 [.slice none 0 0, .int .i64 0, .slice none 0 0, .slice none 0 0]
    simpa using this
  have H := Lib.hid (h.below hb0 hB)
  have Hb0 := Lib.hid hb0
  have HW0 := Lib.hid hW0
  have Ba := Lib.hid ba
  have Br := Lib.hid br
  have Hs0 := Lib.hid hs0
  have Hcap := Lib.hid hcap
  clear hcap
  clear h hb0 hW0 ba hs0 br
  cases hv : (teeOk t && openB t c)
  · obtain ⟨q1, q2, q3⟩ := readQ_no hv
    have e1 : q = zeroTe := by rw [← hq.out, q1]
    have e2 : x = 0 := by rw [← hqx.out, q2]
    have e3 : b = false := by rw [← hqb.out, q3]
    subst e1 e2 e3
    clear q1 q2 q3
    have Hv := Lib.hid hv
    clear hv hq hqx hqb
    go_enter Try.func20, Try.ntmps20
    go_wp2_with fail
    rw [← HW0.out]
    have hs0 := Hs0.out
    refine (implhasOpen_any r t c W0 B H.out (by omega) n1 n2 n3).mono ?_
    rintro e w1 ⟨rfl, hb1⟩
    rw [Hv.out]
    have Hb1 := Lib.hid (Hb0.out.trans (hb1.mono (by omega)))
    have Br1 := Lib.hid (Br.out.below hb1 (by omega))
    clear hb1 hs0
    obtain ⟨cr0, cr1, cr2, cr3⟩ := Br1.out.cellsT
    obtain ⟨fr0, fr1, fr2, fr3⟩ := Br1.out.freeT
    go_wp2_with fail
    have hbz := (((Hb1.out.setCell (p := ⟨w.heap.size + 1, 0, none⟩) (by show w.heap.size ≤ w.heap.size + 1; omega) (.slice none 0 0)).setCell (p := ⟨w.heap.size + 1, 1, none⟩) (by show w.heap.size ≤ w.heap.size + 1; omega) (.int .i64 0)).setCell (p := ⟨w.heap.size + 1, 2, none⟩) (by show w.heap.size ≤ w.heap.size + 1; omega) (.slice none 0 0)).setCell (p := ⟨w.heap.size + 1, 3, none⟩) (by show w.heap.size ≤ w.heap.size + 1; omega) (.slice none 0 0)
    refine bodyPost_ret (v := .tuple #[.agg #[.slice none 0 0, .int .i64 0, .slice none 0 0, .slice none 0 0], .int .i64 0, .bool false]) (by simp [results, Try.results20, go_sem, cr0, cr1, cr2, cr3]) rfl ⟨nilTr, rfl, OwnT.nil_ _ hbz.size _, hbz⟩
  · have Hv := Lib.hid hv
    simp only [Bool.and_eq_true, openB] at hv
    obtain ⟨h0, h1⟩ := inR_iff.1 hv.2.1
    obtain ⟨ci, rfl⟩ : ∃ ci : Nat, c = ci := ⟨c.toNat, by omega⟩
    have hci : ci < t.op.length := by omega
    have hop : t.op[ci]? = some true := by
      have := hv.2.2
      rw [Int.toNat_natCast] at this
      rw [List.getD_eq_getElem?_getD] at this
      cases hq9 : t.op[ci]? with
      | none => rw [hq9] at this; simp at this
      | some v => rw [hq9] at this; simp at this; rw [this]
    have Hok := Lib.hid (teeOk_iff.1 hv.1)
    obtain ⟨q1, q2, q3⟩ := readQ_yes Hv.out
    have e1 : q = readT t ci := by rw [← hq.out, q1]
    have e2 : x = readX t ci := by rw [← hqx.out, q2]
    have e3 : b = readB t ci := by rw [← hqb.out, q3]
    subst e1 e2 e3
    have Hop := Lib.hid hop
    clear hv hq hqx hqb q1 q2 q3 hop
    go_enter Try.func20, Try.ntmps20
    go_wp2_with fail
    rw [← HW0.out]
    have hs0 := Hs0.out
    refine (implhasOpen_any r t (ci : Int) W0 B H.out (by omega) n1 n2 n3).mono ?_
    rintro e w1 ⟨rfl, hb1⟩
    rw [Hv.out]
    have hz1 := hb1.size
    have Hb1 := Lib.hid (Hb0.out.trans (hb1.mono (by omega)))
    have Br1 := Lib.hid (Br.out.below hb1 (by omega))
    have Ba1 := Lib.hid (Ba.out.below hb1 (by omega))
    have H1 := Lib.hid (H.out.below hb1 (by omega))
    obtain ⟨ca0, ca1, ca2, ca3⟩ := Ba1.out.cellsT
    clear hb1 hs0
    go_wp2_with fail
    clear ca0 ca1 ca2 ca3
    have hs0 := Hs0.out
    refine (newFeed_any r t w1 B H1.out (by omega) Hok.out Hcap.out).mono ?_
    rintro e w2 ⟨z, rfl, hz0, hz9, hfd, hfc, hb2⟩
    have hz2 := hb2.size
    have Hb2 := Lib.hid (Hb1.out.trans (hb2.mono (by omega)))
    have Br2 := Lib.hid (Br1.out.below hb2 (by omega))
    have Hfd := Lib.hid hfd
    have Hz0 := Lib.hid hz0
    have Hz9 := Lib.hid hz9
    clear hb2 hs0 hfd hz0 hz9 hfc
    go_wp2_with fail
    refine (read_any z t ci w2 Hfd.out Hok.out Hop.out).mono ?_
    rintro e w3 ⟨rfl, hc3, hf3⟩
    have hs0 := Hs0.out
    have hz0 := Hz0.out
    have hz3 := hc3.size
    have Hb3 := Lib.hid (hc3.below_ Hb2.out (by omega) (by omega))
    have Br3 := Lib.hid ((hc3.block (w.heap.size + 1) (by omega) (.inl (by omega))).trans Br2.out)
    have Hf3 := Lib.hid hf3
    obtain ⟨cf0, cf1, cf2, cf3, cf4⟩ := hf3.cells
    have hFl := hf3.box.lt
    obtain ⟨cr0, cr1, cr2, cr3⟩ := Bk.cellsT Br3.out
    obtain ⟨fr0, fr1, fr2, fr3⟩ := Bk.freeT Br3.out
    have hFne : z.F ≠ w.heap.size + 1 := by have := hf3.lay.F0; omega
    have hFne2 : w.heap.size + 1 ≠ z.F := Ne.symm hFne
    clear hc3 hf3 hs0 hz0
    go_wp2_with fail
    have hl0 := Hf3.out.lay.l0
    have hl1 := Hf3.out.lay.l1
    have hle := Hf3.out.lay.le
    have htp := Hf3.out.top
    have hz0 := Hz0.out
    have hs0 := Hs0.out
    have fn : w.heap.size + 1 < z.lo ∨ z.hi ≤ w.heap.size + 1 := by omega
    refine bodyPost_ret (v := .tuple #[.agg #[.slice z.r.a1 (readT t ci).it.length z.r.c1, .int .i64 (readT t ci).fd, .slice z.r.a2 (readT t ci).pl.length z.r.c2, .slice z.r.a3 (readT t ci).op.length z.r.c3], .int .i64 (readX t ci), .bool (readB t ci)]) (by simp [results, Try.results20, go_sem, cr0, cr1, cr2, cr3]) rfl ⟨z.r, rfl, ?_, ?_⟩
    · have hsz : ((((w3.setCell ⟨w.heap.size + 1, 0, none⟩ (.slice z.r.a1 (readT t ci).it.length z.r.c1)).setCell ⟨w.heap.size + 1, 1, none⟩ (.int .i64 (readT t ci).fd)).setCell ⟨w.heap.size + 1, 2, none⟩ (.slice z.r.a2 (readT t ci).pl.length z.r.c2)).setCell ⟨w.heap.size + 1, 3, none⟩ (.slice z.r.a3 (readT t ci).op.length z.r.c3)).heap.size = w3.heap.size := by simp [World.setCell]
      rw [hsz]
      exact ((((Hf3.out.own.far fn _).far fn _).far fn _).far fn _).wide (by omega) (by omega)
    · exact (((Hb3.out.setCell (by show w.heap.size ≤ w.heap.size + 1; omega) _).setCell (by show w.heap.size ≤ w.heap.size + 1; omega) _).setCell (by show w.heap.size ≤ w.heap.size + 1; omega) _).setCell (by show w.heap.size ≤ w.heap.size + 1; omega) _

theorem readR_facts {t : Te} (h : TeeOk t) (c : Nat) : (0 ≤ readR t c ∧ readX t c = readR t c ∧ readB t c = true) ∨ (readR t c = -1 ∧ readX t c = 0 ∧ readB t c = false) := by
  unfold readR readX readB
  by_cases hlt : (t.pl.getD c 0).toNat < t.it.length
  · rw [if_pos hlt, if_pos hlt, decide_eq_true hlt]
    refine .inl ⟨?_, rfl, rfl⟩
    obtain ⟨x, hx⟩ := get_of_lt t.it hlt
    rw [List.getD_eq_getElem?_getD, hx]
    have h1 := h.items
    rw [allB, List.all_eq_true] at h1
    exact (inR_iff.1 (h1 x (List.mem_of_getElem? hx))).1
  · rw [if_neg hlt, if_neg hlt, decide_eq_false hlt]
    exact .inr ⟨rfl, rfl, rfl⟩

set_option maxRecDepth 100000 in
set_option maxHeartbeats 6400000 in
theorem specReadTee_any (r : Tr) (t : Te) (c : Int) (w : World) (B : Nat) (h : RdT w B r t) (hB : B ≤ w.heap.size) (n1 : t.it.length ≤ 1048576) (n2 : t.pl.length ≤ 1048576) (n3 : t.op.length ≤ 1048576) (q : Te) (x : Int) (b : Bool) (hq : Hid (readQ t c = q)) (hqx : Hid (readQx t c = x)) (hqb : Hid (readQb t c = b)) :
    Calls Try.prog 18 #[.agg #[.slice r.a1 t.it.length r.c1, .int .i64 t.fd, .slice r.a2 t.pl.length r.c2, .slice r.a3 t.op.length r.c3], .int .i64 c] w fun e w' => ∃ r' : Tr, e = .returned (.tuple #[.agg #[.slice r'.a1 q.it.length r'.c1, .int .i64 q.fd, .slice r'.a2 q.pl.length r'.c2, .slice r'.a3 q.op.length r'.c3], .int .i64 x, .bool b]) ∧ OwnT w' w.heap.size w'.heap.size r' q ∧ Below w.heap.size w w' := by
  obtain ⟨W0, hW0⟩ : ∃ W : World, W = (w.alloc (.cells #[.slice r.a1 t.it.length r.c1, .int .i64 t.fd, .slice r.a2 t.pl.length r.c2, .slice r.a3 t.op.length r.c3] 27)).alloc (.cells #[.slice none 0 0, .int .i64 0, .slice none 0 0, .slice none 0 0] 27) := ⟨_, rfl⟩
  have hb0 : Below w.heap.size w W0 := by rw [hW0]; exact ((Below.refl _ _).alloc (Nat.le_refl _) _).alloc (by simp) _
  have ba : Bk W0 w.heap.size 27 [.slice r.a1 t.it.length r.c1, .int .i64 t.fd, .slice r.a2 t.pl.length r.c2, .slice r.a3 t.op.length r.c3] := by rw [hW0]; exact (Bk.new _ _ [.slice r.a1 t.it.length r.c1, .int .i64 t.fd, .slice r.a2 t.pl.length r.c2, .slice r.a3 t.op.length r.c3]).alloc _
  have hs0 : W0.heap.size = w.heap.size + 2 := by rw [hW0]; simp
  have br : Bk W0 (w.heap.size + 1) 27 [.slice none 0 0, .int .i64 0, .slice none 0 0, .slice none 0 0] := by
    rw [hW0]
    have := Bk.new (w.alloc (.cells #[.slice r.a1 t.it.length r.c1, .int .i64 t.fd, .slice r.a2 t.pl.length r.c2, .slice r.a3 t.op.length r.c3] 27)) 27 [.slice none 0 0, .int .i64 0, .slice none 0 0, .slice none 0 0]
    simpa using this
  have H := Lib.hid (h.below hb0 hB)
  have Hb0 := Lib.hid hb0
  have HW0 := Lib.hid hW0
  have Ba := Lib.hid ba
  have Br := Lib.hid br
  have Hs0 := Lib.hid hs0
  clear h hb0 hW0 ba hs0 br
  cases hv1 : teeOk t
  · obtain ⟨q1, q2, q3⟩ := readQ_no (t := t) (c := c) (by rw [hv1]; rfl)
    have e1 : q = zeroTe := by rw [← hq.out, q1]
    have e2 : x = 0 := by rw [← hqx.out, q2]
    have e3 : b = false := by rw [← hqb.out, q3]
    subst e1 e2 e3
    clear q1 q2 q3
    have Hv := Lib.hid hv1
    clear hv1 hq hqx hqb
    go_enter Try.func18, Try.ntmps18
    go_wp2_with fail
    rw [← HW0.out]
    have hs0 := Hs0.out
    refine (specvalidTee_any r t W0 B H.out (by omega) n1 n2 n3).mono ?_
    rintro e w1 ⟨rfl, hb1⟩
    rw [Hv.out]
    have Hb1 := Lib.hid (Hb0.out.trans (hb1.mono (by omega)))
    have Br1 := Lib.hid (Br.out.below hb1 (by omega))
    clear hb1 hs0
    obtain ⟨cr0, cr1, cr2, cr3⟩ := Br1.out.cellsT
    obtain ⟨fr0, fr1, fr2, fr3⟩ := Br1.out.freeT
    go_wp2_with fail
    have hbz := (((Hb1.out.setCell (p := ⟨w.heap.size + 1, 0, none⟩) (by show w.heap.size ≤ w.heap.size + 1; omega) (.slice none 0 0)).setCell (p := ⟨w.heap.size + 1, 1, none⟩) (by show w.heap.size ≤ w.heap.size + 1; omega) (.int .i64 0)).setCell (p := ⟨w.heap.size + 1, 2, none⟩) (by show w.heap.size ≤ w.heap.size + 1; omega) (.slice none 0 0)).setCell (p := ⟨w.heap.size + 1, 3, none⟩) (by show w.heap.size ≤ w.heap.size + 1; omega) (.slice none 0 0)
    refine bodyPost_ret (v := .tuple #[.agg #[.slice none 0 0, .int .i64 0, .slice none 0 0, .slice none 0 0], .int .i64 0, .bool false]) (by simp [results, Try.results18, go_sem, cr0, cr1, cr2, cr3]) rfl ⟨nilTr, rfl, OwnT.nil_ _ hbz.size _, hbz⟩
  have Hok := Lib.hid (teeOk_iff.1 hv1)
  cases hv2 : openB t c
  · obtain ⟨q1, q2, q3⟩ := readQ_no (t := t) (c := c) (by rw [hv1, hv2]; rfl)
    have e1 : q = zeroTe := by rw [← hq.out, q1]
    have e2 : x = 0 := by rw [← hqx.out, q2]
    have e3 : b = false := by rw [← hqb.out, q3]
    subst e1 e2 e3
    clear q1 q2 q3
    have Hv := Lib.hid hv1
    have Hv2 := Lib.hid hv2
    clear hv1 hv2 hq hqx hqb
    go_enter Try.func18, Try.ntmps18
    go_wp2_with fail
    rw [← HW0.out]
    have hs0 := Hs0.out
    refine (specvalidTee_any r t W0 B H.out (by omega) n1 n2 n3).mono ?_
    rintro e w1 ⟨rfl, hb1⟩
    rw [Hv.out]
    have hz1 := hb1.size
    have Hb1 := Lib.hid (Hb0.out.trans (hb1.mono (by omega)))
    have Br1 := Lib.hid (Br.out.below hb1 (by omega))
    have Ba1 := Lib.hid (Ba.out.below hb1 (by omega))
    have H1 := Lib.hid (H.out.below hb1 (by omega))
    obtain ⟨ca0, ca1, ca2, ca3⟩ := Ba1.out.cellsT
    clear hb1 hs0
    go_wp2_with fail
    clear ca0 ca1 ca2 ca3
    have hs0 := Hs0.out
    refine (specisReader_any r t c w1 B H1.out (by omega) Hok.out).mono ?_
    rintro e w2 ⟨rfl, hb2⟩
    rw [Hv2.out]
    have Hb2 := Lib.hid (Hb1.out.trans (hb2.mono (by omega)))
    have Br2 := Lib.hid (Br1.out.below hb2 (by omega))
    clear hb2 hs0
    obtain ⟨cr0, cr1, cr2, cr3⟩ := Br2.out.cellsT
    obtain ⟨fr0, fr1, fr2, fr3⟩ := Br2.out.freeT
    go_wp2_with fail
    have hbz := (((Hb2.out.setCell (p := ⟨w.heap.size + 1, 0, none⟩) (by show w.heap.size ≤ w.heap.size + 1; omega) (.slice none 0 0)).setCell (p := ⟨w.heap.size + 1, 1, none⟩) (by show w.heap.size ≤ w.heap.size + 1; omega) (.int .i64 0)).setCell (p := ⟨w.heap.size + 1, 2, none⟩) (by show w.heap.size ≤ w.heap.size + 1; omega) (.slice none 0 0)).setCell (p := ⟨w.heap.size + 1, 3, none⟩) (by show w.heap.size ≤ w.heap.size + 1; omega) (.slice none 0 0)
    refine bodyPost_ret (v := .tuple #[.agg #[.slice none 0 0, .int .i64 0, .slice none 0 0, .slice none 0 0], .int .i64 0, .bool false]) (by simp [results, Try.results18, go_sem, cr0, cr1, cr2, cr3]) rfl ⟨nilTr, rfl, OwnT.nil_ _ hbz.size _, hbz⟩
  · have Hv := Lib.hid hv1
    have Hv2 := Lib.hid hv2
    have hv : (teeOk t && openB t c) = true := by rw [hv1, hv2]; rfl
    simp only [openB, Bool.and_eq_true] at hv2
    obtain ⟨h0, h1⟩ := inR_iff.1 hv2.1
    obtain ⟨ci, rfl⟩ : ∃ ci : Nat, c = ci := ⟨c.toNat, by omega⟩
    have hci : ci < t.pl.length := by rw [← Hok.out.open_]; omega
    obtain ⟨q1, q2, q3⟩ := readQ_yes hv
    have e1 : q = readT t ci := by rw [← hq.out, q1]
    have e2 : x = readX t ci := by rw [← hqx.out, q2]
    have e3 : b = readB t ci := by rw [← hqb.out, q3]
    subst e1 e2 e3
    have Hrf := Lib.hid (readR_facts Hok.out ci)
    clear hv hv1 hv2 hq hqx hqb q1 q2 q3
    go_enter Try.func18, Try.ntmps18
    go_wp2_with fail
    rw [← HW0.out]
    have hs0 := Hs0.out
    refine (specvalidTee_any r t W0 B H.out (by omega) n1 n2 n3).mono ?_
    rintro e w1 ⟨rfl, hb1⟩
    rw [Hv.out]
    have hz1 := hb1.size
    have Hb1 := Lib.hid (Hb0.out.trans (hb1.mono (by omega)))
    have Br1 := Lib.hid (Br.out.below hb1 (by omega))
    have Ba1 := Lib.hid (Ba.out.below hb1 (by omega))
    have H1 := Lib.hid (H.out.below hb1 (by omega))
    obtain ⟨ca0, ca1, ca2, ca3⟩ := Ba1.out.cellsT
    clear hb1 hs0
    go_wp2_with fail
    clear ca0 ca1 ca2 ca3
    have hs0 := Hs0.out
    refine (specisReader_any r t (ci : Int) w1 B H1.out (by omega) Hok.out).mono ?_
    rintro e w2 ⟨rfl, hb2⟩
    rw [Hv2.out]
    have hz2 := hb2.size
    have Hb2 := Lib.hid (Hb1.out.trans (hb2.mono (by omega)))
    have Br2 := Lib.hid (Br1.out.below hb2 (by omega))
    have Ba2 := Lib.hid (Ba1.out.below hb2 (by omega))
    have H2 := Lib.hid (H1.out.below hb2 (by omega))
    obtain ⟨ca0, ca1, ca2, ca3⟩ := Ba2.out.cellsT
    clear hb2 hs0
    go_wp2_with fail
    clear ca0 ca1 ca2 ca3
    have hs0 := Hs0.out
    refine (speccopyTee_any r t w2 B H2.out (by omega) n1 n2 n3).mono ?_
    rintro e w3 ⟨rr, rfl, ho, hb3⟩
    have hz3 := hb3.size
    have Hb3 := Lib.hid (Hb2.out.trans (hb3.mono (by omega)))
    have Br3 := Lib.hid (Br2.out.below hb3 (by omega))
    have Ho := Lib.hid ho
    clear hb3 hs0 ho
    go_wp2_with fail
    have hs0 := Hs0.out
    refine (specreadTee_any rr t ci w3 w2.heap.size w3.heap.size Ho.out (Nat.le_refl _) Hok.out hci).mono ?_
    rintro e w4 ⟨rfl, ho4, hc4⟩
    have hz4 := hc4.size
    have Hb4 := Lib.hid (hc4.below_ Hb3.out (by omega) (by omega))
    have Br4 := Lib.hid ((hc4.block (w.heap.size + 1) (by omega) (.inl (by omega))).trans Br3.out)
    have Ho4 := Lib.hid ho4
    obtain ⟨cr0, cr1, cr2, cr3⟩ := Bk.cellsT Br4.out
    obtain ⟨fr0, fr1, fr2, fr3⟩ := Bk.freeT Br4.out
    have hrl := Bk.lt Br4.out
    clear hc4 ho4 hs0
    obtain ⟨X, hX⟩ : ∃ X, X = readR t ci := ⟨_, rfl⟩
    rw [← hX]
    have HX := Lib.hid hX
    clear hX
    go_wp2_with fail
    · generalize hVZ : World.setCell (World.setCell (World.setCell (World.setCell w4 _ _) _ _) _ _) _ _ = VZ
      have hs0 := Hs0.out
      have hVs : VZ.heap.size = w4.heap.size := by rw [← hVZ]; simp [World.setCell]
      have fn : w.heap.size + 1 < w2.heap.size ∨ w3.heap.size ≤ w.heap.size + 1 := by omega
      have ho9 : OwnT VZ w2.heap.size w3.heap.size rr (readT t ci) := by
        rw [← hVZ]
        exact (((Ho4.out.far fn _).far fn _).far fn _).far fn _
      have hb9 : Below w.heap.size w VZ := by
        rw [← hVZ]
        exact (((Hb4.out.setCell (by show w.heap.size ≤ w.heap.size + 1; omega) _).setCell (by show w.heap.size ≤ w.heap.size + 1; omega) _).setCell (by show w.heap.size ≤ w.heap.size + 1; omega) _).setCell (by show w.heap.size ≤ w.heap.size + 1; omega) _
      have hbk9 : Bk VZ (w.heap.size + 1) 27 [.slice rr.a1 (readT t ci).it.length rr.c1, .int .i64 (readT t ci).fd, .slice rr.a2 (readT t ci).pl.length rr.c2, .slice rr.a3 (readT t ci).op.length rr.c3] := by
        rw [← hVZ]
        have := (((Bk.set_ Br4.out 0 (.slice rr.a1 (readT t ci).it.length rr.c1)).set_ 1 (.int .i64 (readT t ci).fd)).set_ 2 (.slice rr.a2 (readT t ci).pl.length rr.c2)).set_ 3 (.slice rr.a3 (readT t ci).op.length rr.c3)
        simpa using this
      obtain ⟨cz0, cz1, cz2, cz3⟩ := hbk9.cellsT
      have hzl : w.heap.size + 1 < VZ.heap.size := hbk9.lt
      have hxb : readX t ci = 0 ∧ readB t ci = false := by
        rcases Hrf.out with ⟨r1, r2, r3⟩ | ⟨r1, r2, r3⟩
        · exact absurd r1 (by have := HX.out; omega)
        · exact ⟨r2, r3⟩
      refine bodyPost_ret (v := .tuple #[.agg #[.slice rr.a1 (readT t ci).it.length rr.c1, .int .i64 (readT t ci).fd, .slice rr.a2 (readT t ci).pl.length rr.c2, .slice rr.a3 (readT t ci).op.length rr.c3], .int .i64 0, .bool false]) (by simp [results, Try.results18, go_sem, cz0, cz1, cz2, cz3, hzl]; exact h) rfl ⟨rr, by rw [hxb.1, hxb.2], ?_, ?_⟩
      · exact (ho9.agree fun b9 _ h2 => Below.heap_alloc _ _ b9 (by omega)).wide (by omega) (by rw [World.size_alloc]; omega)
      · exact hb9.alloc hb9.size _
    · generalize hVZ : World.setCell (World.setCell (World.setCell (World.setCell w4 _ _) _ _) _ _) _ _ = VZ
      have hs0 := Hs0.out
      have hVs : VZ.heap.size = w4.heap.size := by rw [← hVZ]; simp [World.setCell]
      have fn : w.heap.size + 1 < w2.heap.size ∨ w3.heap.size ≤ w.heap.size + 1 := by omega
      have ho9 : OwnT VZ w2.heap.size w3.heap.size rr (readT t ci) := by
        rw [← hVZ]
        exact (((Ho4.out.far fn _).far fn _).far fn _).far fn _
      have hb9 : Below w.heap.size w VZ := by
        rw [← hVZ]
        exact (((Hb4.out.setCell (by show w.heap.size ≤ w.heap.size + 1; omega) _).setCell (by show w.heap.size ≤ w.heap.size + 1; omega) _).setCell (by show w.heap.size ≤ w.heap.size + 1; omega) _).setCell (by show w.heap.size ≤ w.heap.size + 1; omega) _
      have hbk9 : Bk VZ (w.heap.size + 1) 27 [.slice rr.a1 (readT t ci).it.length rr.c1, .int .i64 (readT t ci).fd, .slice rr.a2 (readT t ci).pl.length rr.c2, .slice rr.a3 (readT t ci).op.length rr.c3] := by
        rw [← hVZ]
        have := (((Bk.set_ Br4.out 0 (.slice rr.a1 (readT t ci).it.length rr.c1)).set_ 1 (.int .i64 (readT t ci).fd)).set_ 2 (.slice rr.a2 (readT t ci).pl.length rr.c2)).set_ 3 (.slice rr.a3 (readT t ci).op.length rr.c3)
        simpa using this
      obtain ⟨cz0, cz1, cz2, cz3⟩ := hbk9.cellsT
      have hzl : w.heap.size + 1 < VZ.heap.size := hbk9.lt
      have hxb : readX t ci = X ∧ readB t ci = true := by
        rcases Hrf.out with ⟨r1, r2, r3⟩ | ⟨r1, r2, r3⟩
        · exact ⟨by rw [r2, HX.out], r3⟩
        · exact absurd r1 (by have := HX.out; omega)
      refine bodyPost_ret (v := .tuple #[.agg #[.slice rr.a1 (readT t ci).it.length rr.c1, .int .i64 (readT t ci).fd, .slice rr.a2 (readT t ci).pl.length rr.c2, .slice rr.a3 (readT t ci).op.length rr.c3], .int .i64 X, .bool true]) (by simp [results, Try.results18, go_sem, cz0, cz1, cz2, cz3, hzl]) rfl ⟨rr, by rw [hxb.1, hxb.2], ?_, ?_⟩
      · exact (ho9.agree fun b9 _ h2 => Below.heap_alloc _ _ b9 (by omega)).wide (by omega) (by rw [World.size_alloc]; omega)
      · exact hb9.alloc hb9.size _


end Go.Proofs.Ytjkieedomljelaa
