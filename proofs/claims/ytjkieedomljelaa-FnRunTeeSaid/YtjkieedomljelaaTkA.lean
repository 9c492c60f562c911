/- Turns are taken from a new tee on, by the program. -/
import Derived.Test.YtjkieedomljelaaRdU
import Derived.Test.YtjkieedomljelaaNtC
import Derived.Test.YtjkieedomljelaaTeeH
import Derived.Deep.DeepMust
namespace Go.Proofs.Ytjkieedomljelaa
open Go.RowKit Go.Conc Go.Deep

/-- A tee after turns; what they read, -1 for nothing; the greatest number of items that was held. -/
def runT (t : Te) (ts : List Int) : Te := ts.foldl (fun t c => readT t c.toNat) t
def readsT : Te → List Int → List Int
  | _, [] => []
  | t, c :: ts => readR t c.toNat :: readsT (readT t c.toNat) ts
def mostT : Te → List Int → Int
  | _, [] => 0
  | t, c :: ts => max ((heldT (readT t c.toNat)).length : Int) (mostT (readT t c.toNat) ts)
theorem runT_snoc (t : Te) (l : List Int) (c : Int) : runT t (l ++ [c]) = readT (runT t l) c.toNat := by simp [runT]
theorem readsT_len : ∀ (t : Te) (l : List Int), (readsT t l).length = l.length
  | _, [] => rfl
  | t, c :: ts => by simp [readsT, readsT_len (readT t c.toNat) ts]
theorem readsT_snoc : ∀ (t : Te) (l : List Int) (c : Int), readsT t (l ++ [c]) = readsT t l ++ [readR (runT t l) c.toNat]
  | t, [], c => by simp [readsT, runT]
  | t, d :: ts, c => by
    have := readsT_snoc (readT t d.toNat) ts c
    simp [readsT, runT] at this ⊢
    exact this
theorem mostT_snoc : ∀ (t : Te) (l : List Int) (c : Int), mostT t (l ++ [c]) = max (mostT t l) ((heldT (readT (runT t l) c.toNat)).length : Int)
  | t, [], c => by simp [mostT, runT]
  | t, d :: ts, c => by
    have := mostT_snoc (readT t d.toNat) ts c
    simp only [runT] at this
    simp only [List.cons_append, mostT, runT, List.foldl_cons]
    rw [this]
    omega
theorem mostT_pos : ∀ (t : Te) (l : List Int), 0 ≤ mostT t l
  | _, [] => Int.le_refl _
  | t, c :: ts => by
    have := mostT_pos (readT t c.toNat) ts
    simp only [mostT]
    omega
theorem runT_ok : ∀ (l : List Int) {t : Te}, TeeOk t → TeeOk (runT t l)
  | [], _, h => h
  | c :: ts, _, h => runT_ok ts (readT_ok h c.toNat)
theorem runT_it : ∀ (l : List Int) (t : Te), (runT t l).it = t.it
  | [], _ => rfl
  | c :: ts, t => (runT_it ts (readT t c.toNat)).trans (readT_it t _)
theorem runT_op : ∀ (l : List Int) (t : Te), (runT t l).op = t.op
  | [], _ => rfl
  | c :: ts, t => (runT_op ts (readT t c.toNat)).trans (readT_op t _)
/-- Turns that are allowed. -/
def turnsOk (l : List Int) (i : Int) (ts : List Int) : Bool := rowOk l && inR i 1 4 && decide (ts.length ≤ 60) && allB ts 0 (i - 1)
def tkR (l : List Int) (i : Int) (ts : List Int) : List Int := if turnsOk l i ts = true then readsT (newT l i.toNat) ts else []
def tkT (l : List Int) (i : Int) (ts : List Int) : Te := if turnsOk l i ts = true then runT (newT l i.toNat) ts else zeroTe
def tkM (l : List Int) (i : Int) (ts : List Int) : Int := if turnsOk l i ts = true then mostT (newT l i.toNat) ts else -1
theorem newT_ok {l : List Int} {n : Nat} (h : rowOk l = true) (h1 : 1 ≤ n) (h4 : n ≤ 4) : TeeOk (newT l n) := by
  simp only [rowOk, Bool.and_eq_true, decide_eq_true_eq] at h
  refine ⟨h.1, h.2, Int.le_refl _, by show (0 : Int) ≤ l.length; omega, ?_, by simp [newT]; omega, by simp [newT]; omega, by simp [newT]⟩
  rw [allB, List.all_eq_true]
  intro x hx
  simp [newT, List.mem_replicate] at hx
  exact inR_iff.2 ⟨by omega, by show x ≤ 0; omega⟩
theorem cells6 {w : World} {g : Nat} {t : TypeId} {x0 x1 x2 x3 x4 x5 : Value} (h : Bk w g t [x0, x1, x2, x3, x4, x5]) : w.cell? ⟨g, 0, none⟩ = some x0 ∧ w.cell? ⟨g, 1, none⟩ = some x1 ∧ w.cell? ⟨g, 2, none⟩ = some x2 ∧ w.cell? ⟨g, 3, none⟩ = some x3 ∧ w.cell? ⟨g, 4, none⟩ = some x4 ∧ w.cell? ⟨g, 5, none⟩ = some x5 :=
  ⟨h.cell 0, h.cell 1, h.cell 2, h.cell 3, h.cell 4, h.cell 5⟩
theorem free6 {w : World} {g : Nat} {t : TypeId} {cs : List Value} (h : Bk w g t cs) : w.frozen? ⟨g, 0, none⟩ = false ∧ w.frozen? ⟨g, 1, none⟩ = false ∧ w.frozen? ⟨g, 2, none⟩ = false ∧ w.frozen? ⟨g, 3, none⟩ = false ∧ w.frozen? ⟨g, 4, none⟩ = false ∧ w.frozen? ⟨g, 5, none⟩ = false :=
  ⟨h.free 0, h.free 1, h.free 2, h.free 3, h.free 4, h.free 5⟩
theorem FeedAt.own_top {w : World} {z : Fl} {t : Te} {bs : Nat → List Int} (h : FeedAt w z t bs) : z.hi ≤ w.heap.size := Nat.le_trans h.lay.l1 h.top
theorem OwnJ.chg2 {w w' : World} {base lo hi c : Nat} {A : Option Addr} {l : List Int} (h : OwnJ w base A c l) (k : Chg lo hi w w') (hb : hi ≤ base) : OwnJ w' base A c l := by
  obtain ⟨h1, h2 | ⟨g, cap, cur, hv, hg, hh, hr⟩⟩ := h
  · exact ⟨h1, .inl h2⟩
  · exact ⟨h1, .inr ⟨g, cap, cur, hv, hg, (k.block g (lt_of_block hh) (.inr (by omega))).trans hh, hr⟩⟩
theorem OwnJ.cap2 {w : World} {base c : Nat} {A : Option Addr} {l : List Int} (h : OwnJ w base A c l) : l.length ≤ c := by
  rcases Nat.eq_zero_or_pos l.length with h0 | h0
  · omega
  · obtain ⟨_, _, _, _, _, hlc, _⟩ := h.bk h0
    exact hlc
theorem Chg.own2 {a w y : World} {lo hi : Nat} {row : Option Nat} (h : Chg lo hi a w) (hg : w.grownBy y row) (hr : ∀ g, row = some g → a.heap.size ≤ g) : Chg lo hi a y :=
  ⟨hg.os.trans h.os, hg.tape.trans h.tape, hg.output.trans h.output, Nat.le_trans h.size hg.size, fun j hj ho => (hg.block j (by have := h.size; omega) (fun e => by have := hr j e.symm; omega)).trans (h.block j hj ho)⟩
theorem Below.own2 {B : Nat} {a w y : World} {row : Option Nat} (h : Below B a w) (hg : w.grownBy y row) (hr : ∀ g, row = some g → B ≤ g) (hB : B ≤ w.heap.size) : Below B a y :=
  ⟨hg.os.trans h.os, hg.tape.trans h.tape, hg.output.trans h.output, Nat.le_trans h.size hg.size, fun j hj => (hg.block j (by omega) (fun e => by have := hr j e.symm; omega)).trans (h.block j hj)⟩

set_option maxRecDepth 100000 in
set_option maxHeartbeats 12800000 in
theorem takeTurns_any (A : Option Addr) (c : Nat) (l : List Int) (i : Int) (A2 : Option Addr) (c2 : Nat) (ts : List Int) (w : World) (B : Nat) (h : RdI w B A l) (h2 : RdI w B A2 ts) (hB : B ≤ w.heap.size) (hn : l.length ≤ 1048576) (hn2 : ts.length ≤ 1048576) (qr : List Int) (qt : Te) (qm : Int) (hqr : Hid (tkR l i ts = qr)) (hqt : Hid (tkT l i ts = qt)) (hqm : Hid (tkM l i ts = qm)) :
    Calls Try.prog 72 #[.slice A l.length c, .int .i64 i, .slice A2 ts.length c2] w fun e w' => ∃ (R : Option Addr) (cR : Nat) (r' : Tr), e = .returned (.agg #[.slice R qr.length cR, .slice r'.a1 qt.it.length r'.c1, .int .i64 qt.fd, .slice r'.a2 qt.pl.length r'.c2, .slice r'.a3 qt.op.length r'.c3, .int .i64 qm]) ∧ OwnI w' w.heap.size w'.heap.size R qr ∧ OwnT w' w.heap.size w'.heap.size r' qt ∧ Below w.heap.size w w' ∧ qr.length ≤ cR := by
  obtain ⟨W0, hW0⟩ : ∃ W : World, W = w.alloc (.cells #[.slice none 0 0, .slice none 0 0, .int .i64 0, .slice none 0 0, .slice none 0 0, .int .i64 0] 74) := ⟨_, rfl⟩
  have hb0 : Below w.heap.size w W0 := by rw [hW0]; exact (Below.refl _ _).alloc (Nat.le_refl _) _
  have hs0 : W0.heap.size = w.heap.size + 1 := by rw [hW0]; simp
  have br : Bk W0 w.heap.size 74 [.slice none 0 0, .slice none 0 0, .int .i64 0, .slice none 0 0, .slice none 0 0, .int .i64 0] := by rw [hW0]; exact Bk.new _ _ [.slice none 0 0, .slice none 0 0, .int .i64 0, .slice none 0 0, .slice none 0 0, .int .i64 0]
  have H := Lib.hid (h.below hb0 hB)
  have H2 := Lib.hid (h2.below hb0 hB)
  have Hb0 := Lib.hid hb0
  have HW0 := Lib.hid hW0
  have Br := Lib.hid br
  have Hs0 := Lib.hid hs0
  have Hts := Lib.hid h2
  clear h h2 hb0 hW0 hs0 br
  cases hv : (rowOk l && inR i 1 4)
  · have hno : turnsOk l i ts = false := by unfold turnsOk; rw [hv]; rfl
    have e1 : qr = [] := by rw [← hqr.out]; unfold tkR; rw [if_neg (by rw [hno]; decide)]
    have e2 : qt = zeroTe := by rw [← hqt.out]; unfold tkT; rw [if_neg (by rw [hno]; decide)]
    have e3 : qm = -1 := by rw [← hqm.out]; unfold tkM; rw [if_neg (by rw [hno]; decide)]
    subst e1 e2 e3
    have Hq := Lib.hid (newQ_no hv)
    clear hno hv hqr hqt hqm
    go_enter Try.func72, Try.ntmps72
    go_wp2_with fail
    rw [← HW0.out]
    have hs0 := Hs0.out
    refine (implNewTee_cap A c l i W0 B H.out (by omega) hn).mono ?_
    rintro e w1 ⟨rt, rfl, ho1, hb1, hcap1⟩
    have hz1 := hb1.size
    have Hb1 := Lib.hid (Hb0.out.trans (hb1.mono (by omega)))
    have Br1 := Lib.hid (Br.out.below hb1 (by omega))
    have H21 := Lib.hid (H2.out.below hb1 (by omega))
    have Ho1 := Lib.hid ho1
    have Hcap1 := Lib.hid hcap1
    clear hb1 ho1 hs0 hcap1
    go_wp2_with fail
    generalize hV : World.alloc w1 _ = V
    have hbV : Below w1.heap.size w1 V := by rw [← hV]; exact (Below.refl _ _).alloc (Nat.le_refl _) _
    have hzV : V.heap.size = w1.heap.size + 1 := by rw [← hV]; simp
    have hs0 := Hs0.out
    have hlenq := newQ_small l i
    have Hrt := Lib.hid ((Ho1.out.rd).below hbV (by exact Nat.le_refl _))
    have HbV := Lib.hid (Hb1.out.trans (hbV.mono (by omega)))
    have BrV := Lib.hid (Br1.out.below hbV (by omega))
    clear hV hbV
    refine (implValidTee_any rt (newQ l i) V w1.heap.size Hrt.out (by omega) (by omega) (by omega) (by omega)).mono ?_
    rintro e w2 ⟨rfl, hb2⟩
    have hvq : teeOk (newQ l i) = false := by rw [Hq.out]; rfl
    rw [hvq]
    have Br2 := Lib.hid (BrV.out.below hb2 (by omega))
    have Hb2 := Lib.hid (HbV.out.trans (hb2.mono (by omega)))
    clear hb2 hvq
    obtain ⟨cr0, cr1, cr2, cr3, cr4, cr5⟩ := cells6 Br2.out
    obtain ⟨fr0, fr1, fr2, fr3, fr4, fr5⟩ := free6 Br2.out
    go_wp2_with fail
    generalize hU : World.setCell (World.setCell (World.setCell (World.setCell (World.setCell (World.setCell w2 _ _) _ _) _ _) _ _) _ _) _ _ = U
    have hbU : Below w.heap.size w U := by
      rw [← hU]
      exact (((((Hb2.out.setCell (Nat.le_refl _) _).setCell (Nat.le_refl _) _).setCell (Nat.le_refl _) _).setCell (Nat.le_refl _) _).setCell (Nat.le_refl _) _).setCell (Nat.le_refl _) _
    have hbk : Bk U w.heap.size 74 [.slice none 0 0, .slice none 0 0, .int .i64 0, .slice none 0 0, .slice none 0 0, .int .i64 (-1)] := by
      rw [← hU]
      have := (((((Br2.out.set_ 0 (.slice none 0 0)).set_ 1 (.slice none 0 0)).set_ 2 (.int .i64 0)).set_ 3 (.slice none 0 0)).set_ 4 (.slice none 0 0)).set_ 5 (.int .i64 (-1))
      simpa using this
    obtain ⟨cu0, cu1, cu2, cu3, cu4, cu5⟩ := cells6 hbk
    refine bodyPost_ret (v := .agg #[.slice none 0 0, .slice none 0 0, .int .i64 0, .slice none 0 0, .slice none 0 0, .int .i64 (-1)]) (by simp [results, Try.results72, go_sem, cu0, cu1, cu2, cu3, cu4, cu5]) rfl ⟨none, 0, nilTr, rfl, fun h => absurd h (by simp), OwnT.nil_ _ hbU.size _, hbU, Nat.le_refl _⟩
  · have hri := hv
    rw [Bool.and_eq_true] at hri
    obtain ⟨hi0, hi1⟩ := inR_iff.1 hri.2
    obtain ⟨n, rfl⟩ : ∃ n : Nat, i = n := ⟨i.toNat, by omega⟩
    have hn1 : 1 ≤ n := by omega
    have hn4 : n ≤ 4 := by omega
    have Hq0 := Lib.hid (newQ_yes hv)
    have Hok0 := Lib.hid (newT_ok hri.1 hn1 hn4)
    have Hv := Lib.hid hv
    have Hri := Lib.hid hri
    clear hv hri hi0 hi1
    go_enter Try.func72, Try.ntmps72
    go_wp2_with fail
    rw [← HW0.out]
    have hs0 := Hs0.out
    refine (implNewTee_cap A c l (n : Int) W0 B H.out (by omega) hn).mono ?_
    rintro e w1 ⟨rt, rfl, ho1, hb1, hcap1⟩
    have hz1 := hb1.size
    have Hb1 := Lib.hid (Hb0.out.trans (hb1.mono (by omega)))
    have Br1 := Lib.hid (Br.out.below hb1 (by omega))
    have H21 := Lib.hid (H2.out.below hb1 (by omega))
    have Ho1 := Lib.hid ho1
    have Hcap1 := Lib.hid hcap1
    clear hb1 ho1 hs0 hcap1
    go_wp2_with fail
    have hq := Hq0.out
    rw [hq]
    generalize hV : World.alloc w1 _ = V
    have hbV : Below w1.heap.size w1 V := by rw [← hV]; exact (Below.refl _ _).alloc (Nat.le_refl _) _
    have hzV : V.heap.size = w1.heap.size + 1 := by rw [← hV]; simp
    obtain ⟨t0, ht0⟩ : ∃ t0, t0 = newT l n := ⟨_, rfl⟩
    rw [← ht0] at hV
    rw [hq, ← ht0] at Ho1 Hcap1
    rw [← ht0] at Hok0
    rw [← ht0]
    have hbx : Bk V w1.heap.size 27 [.slice rt.a1 t0.it.length rt.c1, .int .i64 t0.fd, .slice rt.a2 t0.pl.length rt.c2, .slice rt.a3 t0.op.length rt.c3] := by rw [← hV]; exact Bk.new _ _ [.slice rt.a1 t0.it.length rt.c1, .int .i64 t0.fd, .slice rt.a2 t0.pl.length rt.c2, .slice rt.a3 t0.op.length rt.c3]
    have hs0 := Hs0.out
    have hop0 : t0.op = List.replicate n true := by rw [ht0]; rfl
    have hpl0 : t0.pl.length = n := by rw [ht0]; simp [newT]
    have hol0 : t0.op.length = n := by rw [hop0]; simp
    have hil0 : t0.it.length ≤ 12 := Hok0.out.len
    have Hrt := Lib.hid ((Ho1.out.rd).below hbV (by exact Nat.le_refl _))
    have HbV := Lib.hid (Hb1.out.trans (hbV.mono (by omega)))
    have BrV := Lib.hid (Br1.out.below hbV (by omega))
    have BxV := Lib.hid hbx
    have Ht0 := Lib.hid ht0
    have Hop0 := Lib.hid hop0
    have Hpl0 := Lib.hid hpl0
    have Hol0 := Lib.hid hol0
    have hpl12 : t0.pl.length ≤ 4 := by omega
    have hol12 : t0.op.length ≤ 4 := by omega
    clear hV hbV hbx ht0 hop0 hq hpl0 hol0
    refine (implValidTee_any rt t0 V w1.heap.size Hrt.out (by omega) (by omega) (by omega) (by omega)).mono ?_
    rintro e w2 ⟨rfl, hb2⟩
    rw [teeOk_iff.2 Hok0.out]
    have hz2 := hb2.size
    have Hb2 := Lib.hid (HbV.out.trans (hb2.mono (by omega)))
    have Br2 := Lib.hid (BrV.out.below hb2 (by omega))
    have Bx2 := Lib.hid (BxV.out.below hb2 (by omega))
    have Hrt2 := Lib.hid (Hrt.out.below hb2 (by omega))
    clear hb2
    by_cases hlen : ts.length ≤ 60
    rotate_left
    · have hno : turnsOk l n ts = false := by unfold turnsOk; rw [Hv.out, decide_eq_false hlen]; rfl
      have e1 : qr = [] := by rw [← hqr.out]; unfold tkR; rw [if_neg (by rw [hno]; decide)]
      have e2 : qt = zeroTe := by rw [← hqt.out]; unfold tkT; rw [if_neg (by rw [hno]; decide)]
      have e3 : qm = -1 := by rw [← hqm.out]; unfold tkM; rw [if_neg (by rw [hno]; decide)]
      subst e1 e2 e3
      clear hno hqr hqt hqm
      have hgi : (60 : Int) < ts.length := by omega
      clear hlen
      obtain ⟨cr0, cr1, cr2, cr3, cr4, cr5⟩ := cells6 Br2.out
      obtain ⟨fr0, fr1, fr2, fr3, fr4, fr5⟩ := free6 Br2.out
      go_wp2_with fail
      generalize hU : World.setCell (World.setCell (World.setCell (World.setCell (World.setCell (World.setCell w2 _ _) _ _) _ _) _ _) _ _) _ _ = U
      have hbU : Below w.heap.size w U := by
        rw [← hU]
        exact (((((Hb2.out.setCell (Nat.le_refl _) _).setCell (Nat.le_refl _) _).setCell (Nat.le_refl _) _).setCell (Nat.le_refl _) _).setCell (Nat.le_refl _) _).setCell (Nat.le_refl _) _
      have hbk : Bk U w.heap.size 74 [.slice none 0 0, .slice none 0 0, .int .i64 0, .slice none 0 0, .slice none 0 0, .int .i64 (-1)] := by
        rw [← hU]
        have := (((((Br2.out.set_ 0 (.slice none 0 0)).set_ 1 (.slice none 0 0)).set_ 2 (.int .i64 0)).set_ 3 (.slice none 0 0)).set_ 4 (.slice none 0 0)).set_ 5 (.int .i64 (-1))
        simpa using this
      obtain ⟨cu0, cu1, cu2, cu3, cu4, cu5⟩ := cells6 hbk
      refine bodyPost_ret (v := .agg #[.slice none 0 0, .slice none 0 0, .int .i64 0, .slice none 0 0, .slice none 0 0, .int .i64 (-1)]) (by simp [results, Try.results72, go_sem, cu0, cu1, cu2, cu3, cu4, cu5]) rfl ⟨none, 0, nilTr, rfl, fun h => absurd h (by simp), OwnT.nil_ _ hbU.size _, hbU, Nat.le_refl _⟩
    cases hall : allB ts 0 ((n : Int) - 1)
    · have hno : turnsOk l n ts = false := by unfold turnsOk; rw [hall, Bool.and_false]
      have e1 : qr = [] := by rw [← hqr.out]; unfold tkR; rw [if_neg (by rw [hno]; decide)]
      have e2 : qt = zeroTe := by rw [← hqt.out]; unfold tkT; rw [if_neg (by rw [hno]; decide)]
      have e3 : qm = -1 := by rw [← hqm.out]; unfold tkM; rw [if_neg (by rw [hno]; decide)]
      subst e1 e2 e3
      clear hno hqr hqt hqm
      have Hall := Lib.hid hall
      clear hall
      go_wp2_with fail
      refine (allWithin_any A2 c2 ts 0 ((n : Int) - 1) w2 B (Hts.out.below Hb2.out hB) hn2).mono ?_
      rintro e w3 ⟨rfl, rfl⟩
      rw [Hall.out]
      obtain ⟨cr0, cr1, cr2, cr3, cr4, cr5⟩ := cells6 Br2.out
      obtain ⟨fr0, fr1, fr2, fr3, fr4, fr5⟩ := free6 Br2.out
      go_wp2_with fail
      generalize hU : World.setCell (World.setCell (World.setCell (World.setCell (World.setCell (World.setCell w2 _ _) _ _) _ _) _ _) _ _) _ _ = U
      have hbU : Below w.heap.size w U := by
        rw [← hU]
        exact (((((Hb2.out.setCell (Nat.le_refl _) _).setCell (Nat.le_refl _) _).setCell (Nat.le_refl _) _).setCell (Nat.le_refl _) _).setCell (Nat.le_refl _) _).setCell (Nat.le_refl _) _
      have hbk : Bk U w.heap.size 74 [.slice none 0 0, .slice none 0 0, .int .i64 0, .slice none 0 0, .slice none 0 0, .int .i64 (-1)] := by
        rw [← hU]
        have := (((((Br2.out.set_ 0 (.slice none 0 0)).set_ 1 (.slice none 0 0)).set_ 2 (.int .i64 0)).set_ 3 (.slice none 0 0)).set_ 4 (.slice none 0 0)).set_ 5 (.int .i64 (-1))
        simpa using this
      obtain ⟨cu0, cu1, cu2, cu3, cu4, cu5⟩ := cells6 hbk
      refine bodyPost_ret (v := .agg #[.slice none 0 0, .slice none 0 0, .int .i64 0, .slice none 0 0, .slice none 0 0, .int .i64 (-1)]) (by simp [results, Try.results72, go_sem, cu0, cu1, cu2, cu3, cu4, cu5]) rfl ⟨none, 0, nilTr, rfl, fun h => absurd h (by simp), OwnT.nil_ _ hbU.size _, hbU, Nat.le_refl _⟩
    have hyes : turnsOk l n ts = true := by unfold turnsOk; rw [Hv.out, decide_eq_true hlen, hall]; rfl
    have e1 : qr = readsT t0 ts := by rw [← hqr.out]; unfold tkR; rw [if_pos hyes, Ht0.out, Int.toNat_natCast]
    have e2 : qt = runT t0 ts := by rw [← hqt.out]; unfold tkT; rw [if_pos hyes, Ht0.out, Int.toNat_natCast]
    have e3 : qm = mostT t0 ts := by rw [← hqm.out]; unfold tkM; rw [if_pos hyes, Ht0.out, Int.toNat_natCast]
    subst e1 e2 e3
    have Hall := Lib.hid hall
    clear hyes hall hqr hqt hqm
    go_wp2_with fail
    refine (allWithin_any A2 c2 ts 0 ((n : Int) - 1) w2 B (Hts.out.below Hb2.out hB) hn2).mono ?_
    rintro e w3 ⟨rfl, rfl⟩
    rw [Hall.out]
    obtain ⟨cb0, cb1, cb2, cb3⟩ := Bk.cellsT Bx2.out
    go_wp2_with fail
    have hs0 := Hs0.out
    refine (newFeed_any rt t0 w2 w1.heap.size Hrt2.out (by omega) Hok0.out Hcap1.out).mono ?_
    rintro e w4 ⟨z, rfl, hz0, hz9, hfd, hfc, hb4⟩
    have hz4 := hb4.size
    have Hb4 := Lib.hid (Hb2.out.trans (hb4.mono (by omega)))
    have Br4 := Lib.hid (Br2.out.below hb4 (by omega))
    have Hfd := Lib.hid hfd
    have Hfc := Lib.hid hfc
    have Hz0 := Lib.hid hz0
    have Hz9 := Lib.hid hz9
    clear hb4 hfd hfc hz0 hz9 cb0 cb1 cb2 cb3 hs0
    go_wp2_with fail
    go_loopw [9, 10, 38] (fun sl mo iv wr => ∃ k : Nat, k ≤ ts.length ∧ iv = .int .i64 k ∧ ∃ (R : Option Addr) (cR : Nat) (m : Int), sl = .slice R k cR ∧ mo = .int .i64 m ∧ Hid (m = mostT t0 (ts.take k)) ∧ Hid (OwnJ wr w4.heap.size R cR (readsT t0 (ts.take k))) ∧ Hid (FeedAt wr z (runT t0 (ts.take k)) (bsOf (runT t0 (ts.take k)))) ∧ Hid (Below w.heap.size w wr) ∧ Hid (Bk wr w.heap.size 74 [.slice none 0 0, .slice none 0 0, .int .i64 0, .slice none 0 0, .slice none 0 0, .int .i64 0]) ∧ w4.heap.size ≤ wr.heap.size) (fun _ _ iv _ => ts.length - (intOf iv).toNat)
    case atStart => exact ⟨0, Nat.zero_le _, rfl, none, 0, 0, rfl, rfl, Lib.hid rfl, Lib.hid (OwnJ.nil_ _ _), Hfd, Hb4, Br4, Nat.le_refl _⟩
    case round =>
      obtain ⟨k, hk, rfl, R, cR, m, rfl, rfl, Hm, Ho, Hfk, Hbw, Hbr, hzw⟩ := hrel
      by_cases hlt : k < ts.length
      · obtain ⟨ad2, cc, hA2, hcc, hccell⟩ := (Hts.out.below Hbw.out hB).at_ (k := k) hlt
        have hcr : 0 ≤ cc ∧ cc ≤ (n : Int) - 1 := by
          have h9 := Hall.out
          rw [allB, List.all_eq_true] at h9
          exact inR_iff.1 (h9 cc (List.mem_of_getElem? hcc))
        obtain ⟨ci, rfl⟩ : ∃ ci : Nat, cc = ci := ⟨cc.toNat, by omega⟩
        have hcin : ci < n := by omega
        have htk9 : ts.take (k + 1) = ts.take k ++ [(ci : Int)] := take_succ_of hcc
        obtain ⟨tk, htk⟩ : ∃ tk, tk = runT t0 (ts.take k) := ⟨_, rfl⟩
        have Hokk : Hid (TeeOk tk) := Lib.hid (by rw [htk]; exact runT_ok _ Hok0.out)
        have Hopk : Hid (tk.op[ci]? = some true) := Lib.hid (by rw [htk, runT_op, Hop0.out]; simp [hcin])
        have Hcapk : Hid (tk.it.length ≤ z.r.c1) := Lib.hid (by rw [htk, runT_it]; exact Hfc.out)
        rw [← htk] at Hfk
        rw [hA2]
        have HA2 := Lib.hid hA2
        have Htk := Lib.hid htk
        have Htk9 := Lib.hid htk9
        clear hA2 hcc htk htk9 hcr
        go_wp2_with fail
        refine (read_any z tk ci wr Hfk.out Hokk.out Hopk.out).mono ?_
        rintro e w5 ⟨rfl, hc5, hf5⟩
        have hz5 := hc5.size
        have hz0 := Hz0.out
        have hz9 := Hz9.out
        have hs0 := Hs0.out
        have hwz : w.heap.size < z.s0 := by omega
        have Hb5 := Lib.hid (hc5.below_ Hbw.out (by omega) (by have := Hbw.out.size; omega))
        have Hbr5 := Lib.hid ((hc5.block w.heap.size (by have := Bk.lt Hbr.out; omega) (.inl (by omega))).trans Hbr.out)
        have Ho5 := Lib.hid (Ho.out.chg2 hc5 (by omega))
        have Hf5 := Lib.hid hf5
        have hz49 : z.s1 = w4.heap.size := hz9
        have hzw5 : w.heap.size ≤ w5.heap.size := Hb5.out.size
        clear hc5 hf5 hz0 hz9 hs0
        rcases readR_facts Hokk.out ci with ⟨r1, r2, r3⟩ | ⟨r1, r2, r3⟩
        · rw [r2, r3]
          obtain ⟨X, hX⟩ : ∃ X, X = readR tk ci := ⟨_, rfl⟩
          rw [← hX]
          have HX := Lib.hid hX
          clear r1 r2 r3 hX
          have Hok5 := Lib.hid (readT_ok Hokk.out ci)
          have hlk : (readsT t0 (ts.take k)).length = k := by rw [readsT_len, List.length_take]; omega
          have Hlk := Lib.hid hlk
          have hcur : (readT tk ci).it.length ≤ z.r.c1 := by rw [readT_it]; exact Hcapk.out
          have Hcur := Lib.hid hcur
          have hR9 : ∀ g, rowOf R = some g → w4.heap.size ≤ g ∧ g < w5.heap.size := fun g hg => (Ho5.out.row_lt g hg)
          have HR9 := Lib.hid hR9
          clear hlk hcur hR9
          go_wp2_with (at_builtin; go_must (refine wpList_append_int rfl _ _ rfl w4.heap.size R cR (readsT t0 (ts.take k)) (X) k Hlk.out rfl Ho5.out _ rfl rfl (by omega) (by omega) ?_; intro R2 c3 w6 ho6 hg6); have hg7 : ∀ b : Nat, b < w5.heap.size → (∀ g, rowOf R = some g → b ≠ g) → w6.heap[b]? = w5.heap[b]? := (fun b hb hne => (hg6.block b (by rw [World.size_alloc]; omega) (fun e => hne b e.symm rfl)).trans (Below.heap_alloc _ _ b hb)); have hz6 : w5.heap.size < w6.heap.size := (by have := hg6.size; rw [World.size_alloc] at this; omega); have hf6 := Hf5.out.agree (w' := w6) (by omega) (fun b _ hb => hg7 b (by omega) (fun g hg => by have := (HR9.out g hg).1; omega)); obtain ⟨cf0, cf1, cf2, cf3, cf4⟩ := hf6.cells; have hFl6 := hf6.box.lt; have Hf6 := Lib.hid hf6; have Ho6 := Lib.hid ho6; have Hbw6 := Lib.hid (Below.own2 (Below.alloc Hb5.out (by omega) _) hg6 (fun g hg => by have := (HR9.out g hg).1; omega) (by rw [World.size_alloc]; omega)); have Hbr6 := Lib.hid ((hg7 _ (by omega) (fun g hg => by have := (HR9.out g hg).1; omega)).trans Hbr5.out); clear ho6 hg6 hg7 hf6)
          refine (implheld_any z.r (readT tk ci) w6 w6.heap.size ((Hf6.out.own.rd).more Hf6.out.own_top) (Nat.le_refl _) Hok5.out Hcur.out).mono ?_
          rintro e w7 ⟨Ah, ch, rfl, hrdh, hb7⟩
          have hz7 := hb7.size
          have hz64 : w4.heap.size ≤ w6.heap.size := by omega
          have Hb7 := Lib.hid (Hbw6.out.trans (hb7.mono (by omega)))
          have Hbr7 := Lib.hid (Bk.below Hbr6.out hb7 (by omega))
          have Ho7 := Lib.hid (Ho6.out.below hb7 (Nat.le_refl _))
          have Hf7 := Lib.hid (Hf6.out.below hb7 (by omega))
          clear hb7 hrdh cf0 cf1 cf2 cf3 cf4
          go_wp2_with fail
          go_roundw
          case rel => exact ⟨k + 1, by omega, by go_num, R2, c3, _, rfl, rfl, Lib.hid (by rw [Htk9.out, mostT_snoc, ← Htk.out, ← Hm.out, Int.toNat_natCast]), Lib.hid (by rw [Htk9.out, readsT_snoc, ← Htk.out, Int.toNat_natCast, ← HX.out]; exact Ho7.out), Lib.hid (by rw [Htk9.out, runT_snoc, ← Htk.out, Int.toNat_natCast]; exact Hf7.out), Hb7, Hbr7, by omega⟩
          case measure => simp [intOf]; omega
        · rw [r2, r3]
          have HX : Hid ((-1 : Int) = readR tk ci) := Lib.hid r1.symm
          clear r1 r2 r3
          have Hok5 := Lib.hid (readT_ok Hokk.out ci)
          have hlk : (readsT t0 (ts.take k)).length = k := by rw [readsT_len, List.length_take]; omega
          have Hlk := Lib.hid hlk
          have hcur : (readT tk ci).it.length ≤ z.r.c1 := by rw [readT_it]; exact Hcapk.out
          have Hcur := Lib.hid hcur
          have hR9 : ∀ g, rowOf R = some g → w4.heap.size ≤ g ∧ g < w5.heap.size := fun g hg => (Ho5.out.row_lt g hg)
          have HR9 := Lib.hid hR9
          clear hlk hcur hR9
          go_wp2_with (at_builtin; go_must (refine wpList_append_int rfl _ _ rfl w4.heap.size R cR (readsT t0 (ts.take k)) (-1) k Hlk.out rfl Ho5.out _ rfl rfl (by omega) (by omega) ?_; intro R2 c3 w6 ho6 hg6); have hg7 : ∀ b : Nat, b < w5.heap.size → (∀ g, rowOf R = some g → b ≠ g) → w6.heap[b]? = w5.heap[b]? := (fun b hb hne => (hg6.block b (by rw [World.size_alloc]; omega) (fun e => hne b e.symm rfl)).trans (Below.heap_alloc _ _ b hb)); have hz6 : w5.heap.size < w6.heap.size := (by have := hg6.size; rw [World.size_alloc] at this; omega); have hf6 := Hf5.out.agree (w' := w6) (by omega) (fun b _ hb => hg7 b (by omega) (fun g hg => by have := (HR9.out g hg).1; omega)); obtain ⟨cf0, cf1, cf2, cf3, cf4⟩ := hf6.cells; have hFl6 := hf6.box.lt; have Hf6 := Lib.hid hf6; have Ho6 := Lib.hid ho6; have Hbw6 := Lib.hid (Below.own2 (Below.alloc Hb5.out (by omega) _) hg6 (fun g hg => by have := (HR9.out g hg).1; omega) (by rw [World.size_alloc]; omega)); have Hbr6 := Lib.hid ((hg7 _ (by omega) (fun g hg => by have := (HR9.out g hg).1; omega)).trans Hbr5.out); clear ho6 hg6 hg7 hf6)
          refine (implheld_any z.r (readT tk ci) w6 w6.heap.size ((Hf6.out.own.rd).more Hf6.out.own_top) (Nat.le_refl _) Hok5.out Hcur.out).mono ?_
          rintro e w7 ⟨Ah, ch, rfl, hrdh, hb7⟩
          have hz7 := hb7.size
          have hz64 : w4.heap.size ≤ w6.heap.size := by omega
          have Hb7 := Lib.hid (Hbw6.out.trans (hb7.mono (by omega)))
          have Hbr7 := Lib.hid (Bk.below Hbr6.out hb7 (by omega))
          have Ho7 := Lib.hid (Ho6.out.below hb7 (Nat.le_refl _))
          have Hf7 := Lib.hid (Hf6.out.below hb7 (by omega))
          clear hb7 hrdh cf0 cf1 cf2 cf3 cf4
          go_wp2_with fail
          go_roundw
          case rel => exact ⟨k + 1, by omega, by go_num, R2, c3, _, rfl, rfl, Lib.hid (by rw [Htk9.out, mostT_snoc, ← Htk.out, ← Hm.out, Int.toNat_natCast]), Lib.hid (by rw [Htk9.out, readsT_snoc, ← Htk.out, Int.toNat_natCast, ← HX.out]; exact Ho7.out), Lib.hid (by rw [Htk9.out, runT_snoc, ← Htk.out, Int.toNat_natCast]; exact Hf7.out), Hb7, Hbr7, by omega⟩
          case measure => simp [intOf]; omega
      · obtain rfl : k = ts.length := by omega
        have htake : ts.take ts.length = ts := List.take_length
        rw [htake] at Hm Ho Hfk
        obtain ⟨cf0, cf1, cf2, cf3, cf4⟩ := Hfk.out.cells
        have hFl := Hfk.out.box.lt
        obtain ⟨cr0, cr1, cr2, cr3, cr4, cr5⟩ := cells6 Hbr.out
        obtain ⟨fr0, fr1, fr2, fr3, fr4, fr5⟩ := free6 Hbr.out
        clear htake
        go_wp2_with fail
        generalize hU : World.setCell (World.setCell (World.setCell (World.setCell (World.setCell (World.setCell wr _ _) _ _) _ _) _ _) _ _) _ _ = U
        have hbU : Below w.heap.size w U := by
          rw [← hU]
          exact (((((Hbw.out.setCell (Nat.le_refl _) _).setCell (Nat.le_refl _) _).setCell (Nat.le_refl _) _).setCell (Nat.le_refl _) _).setCell (Nat.le_refl _) _).setCell (Nat.le_refl _) _
        have hUs : U.heap.size = wr.heap.size := by rw [← hU]; simp [World.setCell]
        have hUo : ∀ b : Nat, b ≠ w.heap.size → U.heap[b]? = wr.heap[b]? := fun b hb => by
          have far : ∀ (v : World) (j : Nat) (u : Value), (v.setCell ⟨w.heap.size, j, none⟩ u).heap[b]? = v.heap[b]? := fun v j u => Below.heap_setCell v _ u b (by exact hb)
          rw [← hU, far, far, far, far, far, far]
        have hbk : Bk U w.heap.size 74 [.slice R ts.length cR, .slice z.r.a1 (runT t0 ts).it.length z.r.c1, .int .i64 (runT t0 ts).fd, .slice z.r.a2 (runT t0 ts).pl.length z.r.c2, .slice z.r.a3 (runT t0 ts).op.length z.r.c3, .int .i64 m] := by
          rw [← hU]
          have := (((((Bk.set_ Hbr.out 0 (.slice R ts.length cR)).set_ 1 (.slice z.r.a1 (runT t0 ts).it.length z.r.c1)).set_ 2 (.int .i64 (runT t0 ts).fd)).set_ 3 (.slice z.r.a2 (runT t0 ts).pl.length z.r.c2)).set_ 4 (.slice z.r.a3 (runT t0 ts).op.length z.r.c3)).set_ 5 (.int .i64 m)
          simpa using this
        obtain ⟨cu0, cu1, cu2, cu3, cu4, cu5⟩ := cells6 hbk
        have hz0 := Hz0.out
        have hz9 := Hz9.out
        have hs0 := Hs0.out
        have hl0 := Hfk.out.lay.l0
        have hl1 := Hfk.out.lay.l1
        refine bodyPost_ret (v := .agg #[.slice R ts.length cR, .slice z.r.a1 (runT t0 ts).it.length z.r.c1, .int .i64 (runT t0 ts).fd, .slice z.r.a2 (runT t0 ts).pl.length z.r.c2, .slice z.r.a3 (runT t0 ts).op.length z.r.c3, .int .i64 m]) (by simp [results, Try.results72, go_sem, cu0, cu1, cu2, cu3, cu4, cu5]) rfl ⟨R, cR, z.r, by rw [readsT_len, Hm.out], ?_, ?_, hbU, Ho.out.cap2⟩
        · rw [hUs]
          exact (Ho.out.ownI.agree fun b h1 _ => hUo b (by omega)).wide (by omega) (Nat.le_refl _)
        · rw [hUs]
          exact (Hfk.out.own.agree fun b h1 _ => hUo b (by omega)).wide (by omega) (by omega)

end Go.Proofs.Ytjkieedomljelaa
