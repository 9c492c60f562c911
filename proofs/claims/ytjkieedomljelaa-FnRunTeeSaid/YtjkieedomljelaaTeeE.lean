/- A tee in which a reader is closed, by the program and by the reference. -/
import Derived.Test.YtjkieedomljelaaTeeD
namespace Go.Proofs.Ytjkieedomljelaa
open Go.RowKit Go.Deep

/-- There is a reader c, and it is open. -/
def openB (t : Te) (c : Int) : Bool := inR c 0 ((t.op.length : Int) - 1) && t.op.getD c.toNat false
def closeT (t : Te) (c : Int) : Te := ⟨t.it, t.fd, t.pl, t.op.set c.toNat false⟩
def closeQ (t : Te) (c : Int) : Te := if teeOk t && openB t c then closeT t c else zeroTe

set_option maxRecDepth 100000 in
set_option maxHeartbeats 3200000 in
theorem implhasOpen_any (r : Tr) (t : Te) (c : Int) (w : World) (B : Nat) (h : RdT w B r t) (hB : B ≤ w.heap.size) (n1 : t.it.length ≤ 1048576) (n2 : t.pl.length ≤ 1048576) (n3 : t.op.length ≤ 1048576) :
    Calls Try.prog 64 #[.agg #[.slice r.a1 t.it.length r.c1, .int .i64 t.fd, .slice r.a2 t.pl.length r.c2, .slice r.a3 t.op.length r.c3], .int .i64 c] w fun e w' => e = .returned (.bool (teeOk t && openB t c)) ∧ Below w.heap.size w w' := by
  obtain ⟨W0, hW0⟩ : ∃ W : World, W = w.alloc (.cells #[.slice r.a1 t.it.length r.c1, .int .i64 t.fd, .slice r.a2 t.pl.length r.c2, .slice r.a3 t.op.length r.c3] 27) := ⟨_, rfl⟩
  have hb0 : Below w.heap.size w W0 := by rw [hW0]; exact (Below.refl _ _).alloc (Nat.le_refl _) _
  have ba : Bk W0 w.heap.size 27 [.slice r.a1 t.it.length r.c1, .int .i64 t.fd, .slice r.a2 t.pl.length r.c2, .slice r.a3 t.op.length r.c3] := by rw [hW0]; exact Bk.new _ _ [.slice r.a1 t.it.length r.c1, .int .i64 t.fd, .slice r.a2 t.pl.length r.c2, .slice r.a3 t.op.length r.c3]
  have hs0 : W0.heap.size = w.heap.size + 1 := by rw [hW0]; simp
  have H := Lib.hid (h.below hb0 hB)
  have Hb0 := Lib.hid hb0
  have HW0 := Lib.hid hW0
  have Ba := Lib.hid ba
  have Hs0 := Lib.hid hs0
  clear h hb0 hW0 ba hs0
  cases hv : teeOk t
  · have Hv := Lib.hid hv
    clear hv
    go_enter Try.func64, Try.ntmps64
    go_wp2_with fail
    rw [← HW0.out]
    have hs0 := Hs0.out
    refine (implValidTee_any r t W0 B H.out (by omega) n1 n2 n3).mono ?_
    rintro e w1 ⟨rfl, hb1⟩
    rw [Hv.out]
    have Hb1 := Lib.hid (Hb0.out.trans (hb1.mono (by omega)))
    clear hb1 hs0
    go_wp2_with fail
    go_ret
    exact ⟨rfl, Hb1.out⟩
  have Hv := Lib.hid hv
  have hok := teeOk_iff.1 hv
  have hm1 : t.op.length ≤ 4 := by have := hok.open_; have := hok.many1; omega
  clear hv hok
  cases hi : inR c 0 ((t.op.length : Int) - 1)
  · have Hi := Lib.hid hi
    have hval : (true && openB t c) = false := by simp [openB, hi]
    have Hval := Lib.hid hval
    clear hi hval
    go_enter Try.func64, Try.ntmps64
    go_wp2_with fail
    rw [← HW0.out]
    have hs0 := Hs0.out
    refine (implValidTee_any r t W0 B H.out (by omega) n1 n2 n3).mono ?_
    rintro e w1 ⟨rfl, hb1⟩
    rw [Hv.out]
    have Ba1 := Lib.hid (Ba.out.below hb1 (by omega))
    have Hb1 := Lib.hid (Hb0.out.trans (hb1.mono (by omega)))
    obtain ⟨ca0, ca1, ca2, ca3⟩ := Ba1.out.cellsT
    clear hb1 hs0
    go_wp2_with fail
    refine (within_any _ _ _ _).mono ?_
    rintro e w2 ⟨rfl, rfl⟩
    rw [Hi.out]
    go_wp2_with fail
    go_ret
    exact ⟨ret_bool Hval.out.symm, Hb1.out⟩
  · obtain ⟨h0, h1⟩ := inR_iff.1 hi
    obtain ⟨ci, rfl⟩ : ∃ ci : Nat, c = ci := ⟨c.toNat, by omega⟩
    have hci : ci < t.op.length := by omega
    obtain ⟨o, ho⟩ := get_of_lt t.op hci
    have hval : (true && openB t (ci : Int)) = o := by simp [openB, hi, List.getD_eq_getElem?_getD, ho]
    have Hi := Lib.hid hi
    have Hval := Lib.hid hval
    have Ho := Lib.hid ho
    clear hi hval ho
    go_enter Try.func64, Try.ntmps64
    go_wp2_with fail
    rw [← HW0.out]
    have hs0 := Hs0.out
    refine (implValidTee_any r t W0 B H.out (by omega) n1 n2 n3).mono ?_
    rintro e w1 ⟨rfl, hb1⟩
    rw [Hv.out]
    have Ba1 := Lib.hid (Ba.out.below hb1 (by omega))
    have Hb1 := Lib.hid (Hb0.out.trans (hb1.mono (by omega)))
    obtain ⟨ca0, ca1, ca2, ca3⟩ := Ba1.out.cellsT
    obtain ⟨ad, o', hA, ho', hc⟩ := (H.out.op.below hb1 (by omega)).at_ hci
    obtain rfl := Option.some.inj (Ho.out.symm.trans ho')
    clear hb1 hs0 ho'
    go_wp2_with fail
    refine (within_any _ _ _ _).mono ?_
    rintro e w2 ⟨rfl, rfl⟩
    rw [Hi.out]
    go_wp2_with fail
    go_ret
    exact ⟨ret_bool Hval.out.symm, Hb1.out⟩

set_option maxRecDepth 100000 in
set_option maxHeartbeats 3200000 in
theorem specisReader_any (r : Tr) (t : Te) (c : Int) (w : World) (B : Nat) (h : RdT w B r t) (hB : B ≤ w.heap.size) (hv : TeeOk t) :
    Calls Try.prog 60 #[.agg #[.slice r.a1 t.it.length r.c1, .int .i64 t.fd, .slice r.a2 t.pl.length r.c2, .slice r.a3 t.op.length r.c3], .int .i64 c] w fun e w' => e = .returned (.bool (openB t c)) ∧ Below w.heap.size w w' := by
  obtain ⟨W0, hW0⟩ : ∃ W : World, W = w.alloc (.cells #[.slice r.a1 t.it.length r.c1, .int .i64 t.fd, .slice r.a2 t.pl.length r.c2, .slice r.a3 t.op.length r.c3] 27) := ⟨_, rfl⟩
  have hb0 : Below w.heap.size w W0 := by rw [hW0]; exact (Below.refl _ _).alloc (Nat.le_refl _) _
  have ba : Bk W0 w.heap.size 27 [.slice r.a1 t.it.length r.c1, .int .i64 t.fd, .slice r.a2 t.pl.length r.c2, .slice r.a3 t.op.length r.c3] := by rw [hW0]; exact Bk.new _ _ [.slice r.a1 t.it.length r.c1, .int .i64 t.fd, .slice r.a2 t.pl.length r.c2, .slice r.a3 t.op.length r.c3]
  have hs0 : W0.heap.size = w.heap.size + 1 := by rw [hW0]; simp
  have H := Lib.hid (h.below hb0 hB)
  have Hb0 := Lib.hid hb0
  have HW0 := Lib.hid hW0
  have Ba := Lib.hid ba
  have Hs0 := Lib.hid hs0
  have hop := hv.open_
  have hm1 := hv.many1
  obtain ⟨ca0, ca1, ca2, ca3⟩ := ba.cellsT
  clear h hb0 hW0 ba hs0 hv
  have hpo : (t.pl.length : Int) - 1 = (t.op.length : Int) - 1 := by omega
  clear hop
  cases hi : inR c 0 ((t.op.length : Int) - 1)
  · have hi2 : inR c 0 ((t.pl.length : Int) - 1) = false := by rw [hpo]; exact hi
    have Hi := Lib.hid hi2
    have hval : openB t c = false := by simp [openB, hi]
    have Hval := Lib.hid hval
    clear hi hval hi2 hpo
    go_enter Try.func60, Try.ntmps60
    go_wp2_with fail
    rw [← HW0.out]
    refine (specInR_any _ _ _ _).mono ?_
    rintro e w2 ⟨rfl, rfl⟩
    rw [Hi.out]
    go_wp2_with fail
    go_ret
    exact ⟨ret_bool Hval.out.symm, Hb0.out⟩
  · have hi2 : inR c 0 ((t.pl.length : Int) - 1) = true := by rw [hpo]; exact hi
    obtain ⟨h0, h1⟩ := inR_iff.1 hi
    obtain ⟨ci, rfl⟩ : ∃ ci : Nat, c = ci := ⟨c.toNat, by omega⟩
    have hci : ci < t.op.length := by omega
    obtain ⟨o, ho⟩ := get_of_lt t.op hci
    have hval : openB t (ci : Int) = o := by simp [openB, hi, List.getD_eq_getElem?_getD, ho]
    have Hi := Lib.hid hi2
    have Hval := Lib.hid hval
    have Ho := Lib.hid ho
    clear hi hval ho hi2 hpo
    go_enter Try.func60, Try.ntmps60
    go_wp2_with fail
    rw [← HW0.out]
    obtain ⟨ad, o', hA, ho', hc⟩ := H.out.op.at_ hci
    obtain rfl := Option.some.inj (Ho.out.symm.trans ho')
    clear ho'
    refine (specInR_any _ _ _ _).mono ?_
    rintro e w2 ⟨rfl, rfl⟩
    rw [Hi.out]
    go_wp2_with fail
    go_ret
    exact ⟨ret_bool Hval.out.symm, Hb0.out⟩

end Go.Proofs.Ytjkieedomljelaa
