/- Whether a tee is valid, by the program and by the reference. -/
import Derived.Test.YtjkieedomljelaaTeeA
import Derived.Test.YtjkieedomljelaaSrcB
namespace Go.Proofs.Ytjkieedomljelaa
open Go.RowKit Go.Deep

set_option maxHeartbeats 3200000 in
theorem implValidTee_any (r : Tr) (t : Te) (w : World) (B : Nat) (h : RdT w B r t) (hB : B ≤ w.heap.size) (n1 : t.it.length ≤ 1048576) (n2 : t.pl.length ≤ 1048576) (_n3 : t.op.length ≤ 1048576) :
    Calls Try.prog 37 #[.agg #[.slice r.a1 t.it.length r.c1, .int .i64 t.fd, .slice r.a2 t.pl.length r.c2, .slice r.a3 t.op.length r.c3]] w fun e w' => e = .returned (.bool (teeOk t)) ∧ Below w.heap.size w w' := by
  have hb0 : Below w.heap.size w (w.alloc (.cells #[.slice r.a1 t.it.length r.c1, .int .i64 t.fd, .slice r.a2 t.pl.length r.c2, .slice r.a3 t.op.length r.c3] 27)) := (Below.refl _ _).alloc (Nat.le_refl _) _
  have H := Lib.hid (h.below hb0 hB)
  have Hb0 := Lib.hid hb0
  clear h hb0
  cases v1 : rowOk t.it
  · have hv : teeOk t = false := by simp [teeOk, v1]
    have Hv := Lib.hid hv
    have V1 := Lib.hid v1
    clear hv v1
    go_enter Try.func37, Try.ntmps37
    go_wp2_with fail
    refine (validItems_any _ _ t.it _ B H.out.it n1).mono ?_
    rintro e w1 ⟨rfl, rfl⟩
    rw [V1.out]
    go_wp2_with fail
    go_ret
    exact ⟨ret_bool Hv.out.symm, Hb0.out⟩
  cases v2 : inR t.fd 0 t.it.length
  · have hv : teeOk t = false := by simp [teeOk, v1, v2]
    have Hv := Lib.hid hv
    have V1 := Lib.hid v1
    have V2 := Lib.hid v2
    clear hv v1 v2
    go_enter Try.func37, Try.ntmps37
    go_wp2_with fail
    refine (validItems_any _ _ t.it _ B H.out.it n1).mono ?_
    rintro e w1 ⟨rfl, rfl⟩
    rw [V1.out]
    go_wp2_with fail
    refine (within_any _ _ _ _).mono ?_
    rintro e w1 ⟨rfl, rfl⟩
    rw [V2.out]
    go_wp2_with fail
    go_ret
    exact ⟨ret_bool Hv.out.symm, Hb0.out⟩
  cases v3 : inR t.pl.length 1 4
  · have hv : teeOk t = false := by simp [teeOk, v1, v2, v3]
    have Hv := Lib.hid hv
    have V1 := Lib.hid v1
    have V2 := Lib.hid v2
    have V3 := Lib.hid v3
    clear hv v1 v2 v3
    go_enter Try.func37, Try.ntmps37
    go_wp2_with fail
    refine (validItems_any _ _ t.it _ B H.out.it n1).mono ?_
    rintro e w1 ⟨rfl, rfl⟩
    rw [V1.out]
    go_wp2_with fail
    refine (within_any _ _ _ _).mono ?_
    rintro e w1 ⟨rfl, rfl⟩
    rw [V2.out]
    go_wp2_with fail
    refine (within_any _ _ _ _).mono ?_
    rintro e w1 ⟨rfl, rfl⟩
    rw [V3.out]
    go_wp2_with fail
    go_ret
    exact ⟨ret_bool Hv.out.symm, Hb0.out⟩
  by_cases v4 : t.op.length = t.pl.length
  rotate_left
  · have hv : teeOk t = false := by simp [teeOk, v1, v2, v3, v4]
    have Hv := Lib.hid hv
    have V1 := Lib.hid v1
    have V2 := Lib.hid v2
    have V3 := Lib.hid v3
    have V4 := Lib.hid v4
    have hb4 : (t.op.length != t.pl.length) = true := by simp [v4]
    have V4b := Lib.hid hb4
    clear hv v1 v2 v3 v4
    go_enter Try.func37, Try.ntmps37
    go_wp2_with fail
    refine (validItems_any _ _ t.it _ B H.out.it n1).mono ?_
    rintro e w1 ⟨rfl, rfl⟩
    rw [V1.out]
    go_wp2_with fail
    refine (within_any _ _ _ _).mono ?_
    rintro e w1 ⟨rfl, rfl⟩
    rw [V2.out]
    go_wp2_with fail
    refine (within_any _ _ _ _).mono ?_
    rintro e w1 ⟨rfl, rfl⟩
    rw [V3.out]
    go_wp2_with fail
    go_ret
    exact ⟨ret_bool Hv.out.symm, Hb0.out⟩
  cases v5 : allB t.pl 0 t.fd
  · have hv : teeOk t = false := by simp [teeOk, v1, v2, v3, v4, v5]
    have Hv := Lib.hid hv
    have V1 := Lib.hid v1
    have V2 := Lib.hid v2
    have V3 := Lib.hid v3
    have V4 := Lib.hid v4
    have V5 := Lib.hid v5
    have hb4 : (t.op.length != t.pl.length) = false := by simp [v4]
    have V4b := Lib.hid hb4
    clear hv v1 v2 v3 v4 v5
    go_enter Try.func37, Try.ntmps37
    go_wp2_with fail
    refine (validItems_any _ _ t.it _ B H.out.it n1).mono ?_
    rintro e w1 ⟨rfl, rfl⟩
    rw [V1.out]
    go_wp2_with fail
    refine (within_any _ _ _ _).mono ?_
    rintro e w1 ⟨rfl, rfl⟩
    rw [V2.out]
    go_wp2_with fail
    refine (within_any _ _ _ _).mono ?_
    rintro e w1 ⟨rfl, rfl⟩
    rw [V3.out]
    go_wp2_with fail
    refine (allWithin_any _ _ t.pl _ _ _ B H.out.pl n2).mono ?_
    rintro e w1 ⟨rfl, rfl⟩
    rw [V5.out]
    go_wp2_with fail
    go_ret
    exact ⟨ret_bool Hv.out.symm, Hb0.out⟩
  · have hv : teeOk t = true := by simp [teeOk, v1, v2, v3, v4, v5]
    have Hv := Lib.hid hv
    have V1 := Lib.hid v1
    have V2 := Lib.hid v2
    have V3 := Lib.hid v3
    have V4 := Lib.hid v4
    have V5 := Lib.hid v5
    have hb4 : (t.op.length != t.pl.length) = false := by simp [v4]
    have V4b := Lib.hid hb4
    clear hv v1 v2 v3 v4 v5
    go_enter Try.func37, Try.ntmps37
    go_wp2_with fail
    refine (validItems_any _ _ t.it _ B H.out.it n1).mono ?_
    rintro e w1 ⟨rfl, rfl⟩
    rw [V1.out]
    go_wp2_with fail
    refine (within_any _ _ _ _).mono ?_
    rintro e w1 ⟨rfl, rfl⟩
    rw [V2.out]
    go_wp2_with fail
    refine (within_any _ _ _ _).mono ?_
    rintro e w1 ⟨rfl, rfl⟩
    rw [V3.out]
    go_wp2_with fail
    refine (allWithin_any _ _ t.pl _ _ _ B H.out.pl n2).mono ?_
    rintro e w1 ⟨rfl, rfl⟩
    rw [V5.out]
    go_wp2_with fail
    go_ret
    exact ⟨ret_bool Hv.out.symm, Hb0.out⟩

theorem specInR_q {n lo hi : Int} {b : Bool} {w : World} {k : Nat} (hb : Hid (inR n lo hi = b)) :
    Calls Try.prog 74 #[.int .i64 n, .int .i64 lo, .int .i64 hi] (w.drewN k) fun e w' => e = .returned (.bool b) ∧ ∃ m, w' = w.drewN m :=
  Calls.quiet_of ((specInR_any n lo hi (w.drewN k)).mono fun _ _ ⟨he, hs⟩ => ⟨by rw [he, hb.out], 0, by rw [← hs]; rfl⟩)

set_option maxHeartbeats 3200000 in
theorem specvalidTee_any (r : Tr) (t : Te) (w : World) (B : Nat) (h : RdT w B r t) (hB : B ≤ w.heap.size) (n1 : t.it.length ≤ 1048576) (n2 : t.pl.length ≤ 1048576) (_n3 : t.op.length ≤ 1048576) :
    Calls Try.prog 59 #[.agg #[.slice r.a1 t.it.length r.c1, .int .i64 t.fd, .slice r.a2 t.pl.length r.c2, .slice r.a3 t.op.length r.c3]] w fun e w' => e = .returned (.bool (teeOk t)) ∧ Below w.heap.size w w' := by
  obtain ⟨W0, hW0⟩ : ∃ W : World, W = w.alloc (.cells #[.slice r.a1 t.it.length r.c1, .int .i64 t.fd, .slice r.a2 t.pl.length r.c2, .slice r.a3 t.op.length r.c3] 27) := ⟨_, rfl⟩
  have hb0 : Below w.heap.size w W0 := by rw [hW0]; exact (Below.refl _ _).alloc (Nat.le_refl _) _
  have ba : Bk W0 w.heap.size 27 [.slice r.a1 t.it.length r.c1, .int .i64 t.fd, .slice r.a2 t.pl.length r.c2, .slice r.a3 t.op.length r.c3] := by rw [hW0]; exact Bk.new _ _ [.slice r.a1 t.it.length r.c1, .int .i64 t.fd, .slice r.a2 t.pl.length r.c2, .slice r.a3 t.op.length r.c3]
  have H := Lib.hid (h.below hb0 hB)
  have Hb0 := Lib.hid hb0
  have Ba := Lib.hid ba
  have HW0 := Lib.hid hW0
  clear h hb0 ba hW0
  go_enter Try.func59, Try.ntmps59
  go_wp2
  rw [← HW0.out]
  go_loopw [3] (fun i wr => ∃ k : Nat, k ≤ t.pl.length ∧ i = .int .i64 k ∧ (t.pl.take k).all (fun x => inR x 0 t.fd) = true ∧ Same W0 wr) (fun i _ => t.pl.length - (intOf i).toNat)
  case atStart => exact ⟨0, Nat.zero_le _, rfl, by simp, Same.refl _⟩
  case round =>
    obtain ⟨k, hk, rfl, hall, hs⟩ := hrel
    have Hall := Lib.hid hall
    have Hs := Lib.hid hs
    clear hall hs
    have Ba2 := Lib.hid (Ba.out.below (Hs.out.below _) (Nat.lt_succ_self _))
    obtain ⟨ca0, ca1, ca2, ca3⟩ := Ba2.out.cellsT
    by_cases hlt : k < t.pl.length
    · obtain ⟨ad, x, hA, hx, hc⟩ := (H.out.pl.same Hs.out).at_ hlt
      have Hx := Lib.hid hx
      clear hx
      cases hin : inR x 0 t.fd
      · have Hin := Lib.hid hin
        clear hin
        go_wp2
        go_quiet ((go_at_call 74; exact specInR_q Hin))
        all_goals go_wp2
        go_ret
        exact ⟨ret_bool (show teeOk t = false by simp [teeOk, show allB t.pl 0 t.fd = false from all_false_of Hx.out Hin.out]).symm, Hb0.out.trans (((Same.drewN Hs.out _).below _))⟩
      · have Hin := Lib.hid hin
        clear hin
        go_wp2
        go_quiet ((go_at_call 74; exact specInR_q Hin))
        all_goals go_wp2
        go_roundw
        case rel => exact ⟨k + 1, by omega, by go_num, all_take_succ Hx.out Hin.out Hall.out, Hs.out.drewN _⟩
        case measure => simp [intOf]; omega
    · have v5 : allB t.pl 0 t.fd = true := all_of_take (by omega) Hall.out
      clear hk
      by_cases h1 : t.it.length ≤ 12
      rotate_left
      · have hv : teeOk t = false := by simp [teeOk, rowOk, v5, h1]
        have Hv := Lib.hid hv
        clear hv v5 
        go_wp2_with fail
        go_ret
        exact ⟨ret_bool Hv.out.symm, Hb0.out.trans (Hs.out.below _)⟩
      cases v2 : allB t.it 0 99
      · have hv : teeOk t = false := by simp [teeOk, rowOk, v5, h1, v2]
        have Hv := Lib.hid hv
        have V2 := Lib.hid v2
        clear hv v5 v2
        go_wp2_with fail
        refine (allIn_any _ _ t.it _ _ _ B (H.out.it.same Hs.out) n1).mono ?_
        rintro e w1 ⟨rfl, rfl⟩
        rw [V2.out]
        go_wp2_with fail
        go_ret
        exact ⟨ret_bool Hv.out.symm, Hb0.out.trans (Hs.out.below _)⟩
      cases v3 : inR t.fd 0 t.it.length
      · have hv : teeOk t = false := by simp [teeOk, rowOk, v5, h1, v2, v3]
        have Hv := Lib.hid hv
        have V2 := Lib.hid v2
        have V3 := Lib.hid v3
        clear hv v5 v2 v3
        go_wp2_with fail
        refine (allIn_any _ _ t.it _ _ _ B (H.out.it.same Hs.out) n1).mono ?_
        rintro e w1 ⟨rfl, rfl⟩
        rw [V2.out]
        go_wp2_with fail
        refine (specInR_any _ _ _ _).mono ?_
        rintro e w1 ⟨rfl, rfl⟩
        rw [V3.out]
        go_wp2_with fail
        go_ret
        exact ⟨ret_bool Hv.out.symm, Hb0.out.trans (Hs.out.below _)⟩
      cases v4 : inR t.pl.length 1 4
      · have hv : teeOk t = false := by simp [teeOk, rowOk, v5, h1, v2, v3, v4]
        have Hv := Lib.hid hv
        have V2 := Lib.hid v2
        have V3 := Lib.hid v3
        have V4 := Lib.hid v4
        clear hv v5 v2 v3 v4
        go_wp2_with fail
        refine (allIn_any _ _ t.it _ _ _ B (H.out.it.same Hs.out) n1).mono ?_
        rintro e w1 ⟨rfl, rfl⟩
        rw [V2.out]
        go_wp2_with fail
        refine (specInR_any _ _ _ _).mono ?_
        rintro e w1 ⟨rfl, rfl⟩
        rw [V3.out]
        go_wp2_with fail
        refine (specInR_any _ _ _ _).mono ?_
        rintro e w1 ⟨rfl, rfl⟩
        rw [V4.out]
        go_wp2_with fail
        go_ret
        exact ⟨ret_bool Hv.out.symm, Hb0.out.trans (Hs.out.below _)⟩
      by_cases h5 : t.op.length = t.pl.length
      rotate_left
      · have hv : teeOk t = false := by simp [teeOk, rowOk, v5, h1, v2, v3, v4, h5]
        have Hv := Lib.hid hv
        have V2 := Lib.hid v2
        have V3 := Lib.hid v3
        have V4 := Lib.hid v4
        have hb5 : (t.op.length == t.pl.length) = false := by simp [h5]
        clear hv v5 v2 v3 v4
        go_wp2_with fail
        refine (allIn_any _ _ t.it _ _ _ B (H.out.it.same Hs.out) n1).mono ?_
        rintro e w1 ⟨rfl, rfl⟩
        rw [V2.out]
        go_wp2_with fail
        refine (specInR_any _ _ _ _).mono ?_
        rintro e w1 ⟨rfl, rfl⟩
        rw [V3.out]
        go_wp2_with fail
        refine (specInR_any _ _ _ _).mono ?_
        rintro e w1 ⟨rfl, rfl⟩
        rw [V4.out]
        go_wp2_with fail
        go_ret
        exact ⟨ret_bool (by rw [Hv.out]; first | rfl | (simp only [beq_eq_false_iff_ne, ne_eq]; omega)), Hb0.out.trans (Hs.out.below _)⟩
      · have hv : teeOk t = true := by simp [teeOk, rowOk, v5, h1, v2, v3, v4, h5]
        have Hv := Lib.hid hv
        have V2 := Lib.hid v2
        have V3 := Lib.hid v3
        have V4 := Lib.hid v4
        have hb5 : (t.op.length == t.pl.length) = true := by simp [h5]
        clear hv v5 v2 v3 v4
        go_wp2_with fail
        refine (allIn_any _ _ t.it _ _ _ B (H.out.it.same Hs.out) n1).mono ?_
        rintro e w1 ⟨rfl, rfl⟩
        rw [V2.out]
        go_wp2_with fail
        refine (specInR_any _ _ _ _).mono ?_
        rintro e w1 ⟨rfl, rfl⟩
        rw [V3.out]
        go_wp2_with fail
        refine (specInR_any _ _ _ _).mono ?_
        rintro e w1 ⟨rfl, rfl⟩
        rw [V4.out]
        go_wp2_with fail
        go_ret
        exact ⟨ret_bool Hv.out.symm, Hb0.out.trans (Hs.out.below _)⟩

set_option maxHeartbeats 3200000 in
theorem specValidTee_any (r : Tr) (t : Te) (w : World) (B : Nat) (h : RdT w B r t) (hB : B ≤ w.heap.size) (n1 : t.it.length ≤ 1048576) (n2 : t.pl.length ≤ 1048576) (n3 : t.op.length ≤ 1048576) :
    Calls Try.prog 38 #[.agg #[.slice r.a1 t.it.length r.c1, .int .i64 t.fd, .slice r.a2 t.pl.length r.c2, .slice r.a3 t.op.length r.c3]] w fun e w' => e = .returned (.bool (teeOk t)) ∧ Below w.heap.size w w' := by
  have hb0 : Below w.heap.size w (w.alloc (.cells #[.slice r.a1 t.it.length r.c1, .int .i64 t.fd, .slice r.a2 t.pl.length r.c2, .slice r.a3 t.op.length r.c3] 27)) := (Below.refl _ _).alloc (Nat.le_refl _) _
  have H := Lib.hid (h.below hb0 hB)
  have Hb0 := Lib.hid hb0
  clear h hb0
  go_enter Try.func38, Try.ntmps38
  go_wp2_with fail
  refine (specvalidTee_any r t _ B H.out (by simp; omega) n1 n2 n3).mono ?_
  rintro e w1 ⟨rfl, hb⟩
  have Hb := Lib.hid hb
  clear hb
  go_wp2_with fail
  go_ret
  exact ⟨rfl, Hb0.out.trans (Hb.out.mono (by simp))⟩

end Go.Proofs.Ytjkieedomljelaa
