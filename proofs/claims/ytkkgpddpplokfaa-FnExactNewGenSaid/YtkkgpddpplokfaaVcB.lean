/- NewGen and ValidGen, both sides. -/
import Derived.Test.YtkkgpddpplokfaaVcA
import Derived.Test.YtkkgpddpplokfaaGnM
namespace Go.Proofs.Ytkkgpddpplokfaa
open Go.RowKit Go.Deep

/-- A generator of a code of n orders. -/
def genIn (n : Nat) (x : Gn) : Bool := inR x.at_ 0 n && inR x.sum 0 99 && inR x.sent 0 99 && inR x.hd (-1) ((n : Int) - 1) && inR x.ph 0 2
def genOk (l : List Od) (x : Gn) : Bool := codeOk l && genIn l.length x
def newGn (l : List Od) : Gn := if codeOk l then ⟨0, 0, 0, -1, 0⟩ else zeroGn

set_option maxHeartbeats 1600000 in
theorem implNewGen_any (A : Option Addr) (c : Nat) (l : List Od) (w : World) (B : Nat) (h : RdOd w B A l) (hB : B ≤ w.heap.size) (hn : l.length ≤ 1048576) :
    Calls Try.prog 24 #[.slice A l.length c] w fun e w' => e = .returned (.agg #[.int .i64 (newGn l).at_, .int .i64 (newGn l).sum, .int .i64 (newGn l).sent, .int .i64 (newGn l).hd, .int .i64 (newGn l).ph]) ∧ Below w.heap.size w w' := by
  obtain ⟨W0, hW0⟩ : ∃ W : World, W = w.alloc (.cells #[.int .i64 0, .int .i64 0, .int .i64 0, .int .i64 0, .int .i64 0] 32) := ⟨_, rfl⟩
  have hb0 : Below w.heap.size w W0 := by rw [hW0]; exact (Below.refl _ _).alloc (Nat.le_refl _) _
  have br : Bk W0 w.heap.size 32 [.int .i64 0, .int .i64 0, .int .i64 0, .int .i64 0, .int .i64 0] := by rw [hW0]; exact Bk.new _ _ [.int .i64 0, .int .i64 0, .int .i64 0, .int .i64 0, .int .i64 0]
  have H := Lib.hid (h.below hb0 hB)
  have Hb0 := Lib.hid hb0
  have HW0 := Lib.hid hW0
  have Br := Lib.hid br
  have hz0 : w.heap.size < W0.heap.size := br.lt
  clear h hb0 hW0 br
  cases hv : codeOk l
  · have e1 : newGn l = zeroGn := by unfold newGn; rw [hv]; rfl
    rw [e1]
    have Hv := Lib.hid hv
    clear hv e1
    go_enter Try.func24, Try.ntmps24
    go_wp2_with fail
    rw [← HW0.out]
    refine (implValidCode_any A c l W0 B H.out (by omega) hn).mono ?_
    rintro e w1 ⟨rfl, hb1⟩
    rw [Hv.out]
    have Hb1 := Lib.hid (Hb0.out.trans (hb1.mono (by omega)))
    have Br1 := Lib.hid (Br.out.below hb1 hz0)
    clear hb1
    have c0 := Br1.out.cell 0
    have c1 := Br1.out.cell 1
    have c2 := Br1.out.cell 2
    have c3 := Br1.out.cell 3
    have c4 := Br1.out.cell 4
    have f0 := Br1.out.free 0
    have f1 := Br1.out.free 1
    have f2 := Br1.out.free 2
    have f3 := Br1.out.free 3
    have f4 := Br1.out.free 4
    go_wp2_with fail
    refine bodyPost_ret (v := .agg #[.int .i64 0, .int .i64 0, .int .i64 0, .int .i64 0, .int .i64 0]) (by simp [results, Try.results24, go_sem, c0, c1, c2, c3, c4]) rfl ⟨rfl, ?_⟩
    exact ((((Hb1.out.setCell (Nat.le_refl _) _).setCell (Nat.le_refl _) _).setCell (Nat.le_refl _) _).setCell (Nat.le_refl _) _).setCell (Nat.le_refl _) _
  · have e1 : newGn l = ⟨0, 0, 0, -1, 0⟩ := by unfold newGn; rw [hv]; rfl
    rw [e1]
    have Hv := Lib.hid hv
    clear hv e1
    go_enter Try.func24, Try.ntmps24
    go_wp2_with fail
    rw [← HW0.out]
    refine (implValidCode_any A c l W0 B H.out (by omega) hn).mono ?_
    rintro e w1 ⟨rfl, hb1⟩
    rw [Hv.out]
    have Hb1 := Lib.hid (Hb0.out.trans (hb1.mono (by omega)))
    have Br1 := Lib.hid (Br.out.below hb1 hz0)
    clear hb1
    have c0 := Br1.out.cell 0
    have c1 := Br1.out.cell 1
    have c2 := Br1.out.cell 2
    have c3 := Br1.out.cell 3
    have c4 := Br1.out.cell 4
    have f0 := Br1.out.free 0
    have f1 := Br1.out.free 1
    have f2 := Br1.out.free 2
    have f3 := Br1.out.free 3
    have f4 := Br1.out.free 4
    go_wp2_with fail
    refine bodyPost_ret (v := .agg #[.int .i64 0, .int .i64 0, .int .i64 0, .int .i64 (-1), .int .i64 0]) (by simp [results, Try.results24, go_sem, c0, c1, c2, c3, c4]) rfl ⟨rfl, ?_⟩
    exact ((((Hb1.out.setCell (Nat.le_refl _) _).setCell (Nat.le_refl _) _).setCell (Nat.le_refl _) _).setCell (Nat.le_refl _) _).setCell (Nat.le_refl _) _

set_option maxHeartbeats 1600000 in
theorem specNewGen_any (A : Option Addr) (c : Nat) (l : List Od) (w : World) (B : Nat) (h : RdOd w B A l) (hB : B ≤ w.heap.size) (hn : l.length ≤ 1048576) :
    Calls Try.prog 23 #[.slice A l.length c] w fun e w' => e = .returned (.agg #[.int .i64 (newGn l).at_, .int .i64 (newGn l).sum, .int .i64 (newGn l).sent, .int .i64 (newGn l).hd, .int .i64 (newGn l).ph]) ∧ Below w.heap.size w w' := by
  obtain ⟨W0, hW0⟩ : ∃ W : World, W = w.alloc (.cells #[.int .i64 0, .int .i64 0, .int .i64 0, .int .i64 0, .int .i64 0] 32) := ⟨_, rfl⟩
  have hb0 : Below w.heap.size w W0 := by rw [hW0]; exact (Below.refl _ _).alloc (Nat.le_refl _) _
  have br : Bk W0 w.heap.size 32 [.int .i64 0, .int .i64 0, .int .i64 0, .int .i64 0, .int .i64 0] := by rw [hW0]; exact Bk.new _ _ [.int .i64 0, .int .i64 0, .int .i64 0, .int .i64 0, .int .i64 0]
  have H := Lib.hid (h.below hb0 hB)
  have Hb0 := Lib.hid hb0
  have HW0 := Lib.hid hW0
  have Br := Lib.hid br
  have hz0 : w.heap.size < W0.heap.size := br.lt
  clear h hb0 hW0 br
  cases hv : codeOk l
  · have e1 : newGn l = zeroGn := by unfold newGn; rw [hv]; rfl
    rw [e1]
    have Hv := Lib.hid hv
    clear hv e1
    go_enter Try.func23, Try.ntmps23
    go_wp2_with fail
    rw [← HW0.out]
    refine (specvalidCode_any A c l W0 B H.out (by omega) hn).mono ?_
    rintro e w1 ⟨rfl, hb1⟩
    rw [Hv.out]
    have Hb1 := Lib.hid (Hb0.out.trans (hb1.mono (by omega)))
    have Br1 := Lib.hid (Br.out.below hb1 hz0)
    clear hb1
    have c0 := Br1.out.cell 0
    have c1 := Br1.out.cell 1
    have c2 := Br1.out.cell 2
    have c3 := Br1.out.cell 3
    have c4 := Br1.out.cell 4
    have f0 := Br1.out.free 0
    have f1 := Br1.out.free 1
    have f2 := Br1.out.free 2
    have f3 := Br1.out.free 3
    have f4 := Br1.out.free 4
    go_wp2_with fail
    refine bodyPost_ret (v := .agg #[.int .i64 0, .int .i64 0, .int .i64 0, .int .i64 0, .int .i64 0]) (by simp [results, Try.results23, go_sem, c0, c1, c2, c3, c4]) rfl ⟨rfl, ?_⟩
    exact ((((Hb1.out.setCell (Nat.le_refl _) _).setCell (Nat.le_refl _) _).setCell (Nat.le_refl _) _).setCell (Nat.le_refl _) _).setCell (Nat.le_refl _) _
  · have e1 : newGn l = ⟨0, 0, 0, -1, 0⟩ := by unfold newGn; rw [hv]; rfl
    rw [e1]
    have Hv := Lib.hid hv
    clear hv e1
    go_enter Try.func23, Try.ntmps23
    go_wp2_with fail
    rw [← HW0.out]
    refine (specvalidCode_any A c l W0 B H.out (by omega) hn).mono ?_
    rintro e w1 ⟨rfl, hb1⟩
    rw [Hv.out]
    have Hb1 := Lib.hid (Hb0.out.trans (hb1.mono (by omega)))
    have Br1 := Lib.hid (Br.out.below hb1 hz0)
    clear hb1
    have c0 := Br1.out.cell 0
    have c1 := Br1.out.cell 1
    have c2 := Br1.out.cell 2
    have c3 := Br1.out.cell 3
    have c4 := Br1.out.cell 4
    have f0 := Br1.out.free 0
    have f1 := Br1.out.free 1
    have f2 := Br1.out.free 2
    have f3 := Br1.out.free 3
    have f4 := Br1.out.free 4
    go_wp2_with fail
    refine bodyPost_ret (v := .agg #[.int .i64 0, .int .i64 0, .int .i64 0, .int .i64 (-1), .int .i64 0]) (by simp [results, Try.results23, go_sem, c0, c1, c2, c3, c4]) rfl ⟨rfl, ?_⟩
    exact ((((Hb1.out.setCell (Nat.le_refl _) _).setCell (Nat.le_refl _) _).setCell (Nat.le_refl _) _).setCell (Nat.le_refl _) _).setCell (Nat.le_refl _) _

set_option maxHeartbeats 3200000 in
theorem implValidGen_any (x : Gn) (A : Option Addr) (c : Nat) (l : List Od) (w : World) (B : Nat) (h : RdOd w B A l) (hB : B ≤ w.heap.size) (hn : l.length ≤ 1048576) :
    Calls Try.prog 22 #[.slice A l.length c, .agg #[.int .i64 x.at_, .int .i64 x.sum, .int .i64 x.sent, .int .i64 x.hd, .int .i64 x.ph]] w fun e w' => e = .returned (.bool (genOk l x)) ∧ Below w.heap.size w w' := by
  obtain ⟨W0, hW0⟩ : ∃ W : World, W = w.alloc (.cells #[.int .i64 x.at_, .int .i64 x.sum, .int .i64 x.sent, .int .i64 x.hd, .int .i64 x.ph] 32) := ⟨_, rfl⟩
  have hb0 : Below w.heap.size w W0 := by rw [hW0]; exact (Below.refl _ _).alloc (Nat.le_refl _) _
  have br : Bk W0 w.heap.size 32 [.int .i64 x.at_, .int .i64 x.sum, .int .i64 x.sent, .int .i64 x.hd, .int .i64 x.ph] := by rw [hW0]; exact Bk.new _ _ [.int .i64 x.at_, .int .i64 x.sum, .int .i64 x.sent, .int .i64 x.hd, .int .i64 x.ph]
  have H := Lib.hid (h.below hb0 hB)
  have Hb0 := Lib.hid hb0
  have HW0 := Lib.hid hW0
  have Br := Lib.hid br
  have hz0 : w.heap.size < W0.heap.size := br.lt
  clear h hb0 hW0 br
  go_enter Try.func22, Try.ntmps22
  go_wp2_with fail
  rw [← HW0.out]
  refine (implValidCode_any A c l W0 B H.out (by omega) hn).mono ?_
  rintro e w1 ⟨rfl, hb1⟩
  have Hb1 := Lib.hid (Hb0.out.trans (hb1.mono (by omega)))
  have Br1 := Lib.hid (Br.out.below hb1 hz0)
  have hz1 := hb1.size
  clear hb1
  have c0 := Br1.out.cell 0
  have c1 := Br1.out.cell 1
  have c2 := Br1.out.cell 2
  have c3 := Br1.out.cell 3
  have c4 := Br1.out.cell 4
  have hl0 : (0 : Int) ≤ l.length := by omega
  cases hv : codeOk l
  · have Hv := Lib.hid hv
    clear hv
    go_wp2_with fail
    go_ret
    exact ⟨ret_bool (by unfold genOk; rw [Hv.out]; rfl), Hb1.out⟩
  have Hv := Lib.hid hv
  clear hv
  go_wp2_with (go_at_call 62; refine (within_any _ _ _ _).mono ?_; rintro e w' ⟨rfl, rfl⟩)
  all_goals
    go_ret
    refine ⟨ret_bool ?_, Hb1.out⟩
    unfold genOk
    rw [Hv.out, Bool.true_and]
    clear Hv
    rw [Bool.eq_iff_iff]
    simp only [genIn, Bool.and_eq_true, inR_iff, Bool.false_eq_true, false_iff] at *
    omega

set_option maxHeartbeats 3200000 in
theorem specvalidGen_any (x : Gn) (A : Option Addr) (c n : Nat) (w : World) (hn : n ≤ 1048576) :
    Calls Try.prog 61 #[.slice A n c, .agg #[.int .i64 x.at_, .int .i64 x.sum, .int .i64 x.sent, .int .i64 x.hd, .int .i64 x.ph]] w fun e w' => e = .returned (.bool (genIn n x)) ∧ Below w.heap.size w w' := by
  have hl0 : (0 : Int) ≤ n := by omega
  go_enter Try.func61, Try.ntmps61
  go_wp2_with (go_at_call 72; refine (specInR_any _ _ _ _).mono ?_; rintro e w' ⟨rfl, rfl⟩)
  all_goals
    go_ret
    refine ⟨ret_bool ?_, (Below.refl _ _).alloc (Nat.le_refl _) _⟩
    rw [Bool.eq_iff_iff]
    simp only [genIn, Bool.and_eq_true, inR_iff, Bool.false_eq_true, false_iff] at *
    omega

set_option maxHeartbeats 3200000 in
theorem specValidGen_any (x : Gn) (A : Option Addr) (c : Nat) (l : List Od) (w : World) (B : Nat) (h : RdOd w B A l) (hB : B ≤ w.heap.size) (hn : l.length ≤ 1048576) :
    Calls Try.prog 20 #[.slice A l.length c, .agg #[.int .i64 x.at_, .int .i64 x.sum, .int .i64 x.sent, .int .i64 x.hd, .int .i64 x.ph]] w fun e w' => e = .returned (.bool (genOk l x)) ∧ Below w.heap.size w w' := by
  obtain ⟨W0, hW0⟩ : ∃ W : World, W = w.alloc (.cells #[.int .i64 x.at_, .int .i64 x.sum, .int .i64 x.sent, .int .i64 x.hd, .int .i64 x.ph] 32) := ⟨_, rfl⟩
  have hb0 : Below w.heap.size w W0 := by rw [hW0]; exact (Below.refl _ _).alloc (Nat.le_refl _) _
  have br : Bk W0 w.heap.size 32 [.int .i64 x.at_, .int .i64 x.sum, .int .i64 x.sent, .int .i64 x.hd, .int .i64 x.ph] := by rw [hW0]; exact Bk.new _ _ [.int .i64 x.at_, .int .i64 x.sum, .int .i64 x.sent, .int .i64 x.hd, .int .i64 x.ph]
  have H := Lib.hid (h.below hb0 hB)
  have Hb0 := Lib.hid hb0
  have HW0 := Lib.hid hW0
  have Br := Lib.hid br
  have hz0 : w.heap.size < W0.heap.size := br.lt
  clear h hb0 hW0 br
  go_enter Try.func20, Try.ntmps20
  go_wp2_with fail
  rw [← HW0.out]
  refine (specvalidCode_any A c l W0 B H.out (by omega) hn).mono ?_
  rintro e w1 ⟨rfl, hb1⟩
  have Hb1 := Lib.hid (Hb0.out.trans (hb1.mono (by omega)))
  have Br1 := Lib.hid (Br.out.below hb1 hz0)
  have hz1 := hb1.size
  clear hb1
  have c0 := Br1.out.cell 0
  have c1 := Br1.out.cell 1
  have c2 := Br1.out.cell 2
  have c3 := Br1.out.cell 3
  have c4 := Br1.out.cell 4
  cases hv : codeOk l
  · have Hv := Lib.hid hv
    clear hv
    go_wp2_with fail
    go_ret
    exact ⟨ret_bool (by unfold genOk; rw [Hv.out]; rfl), Hb1.out⟩
  have Hv := Lib.hid hv
  clear hv
  go_wp2_with fail
  refine (specvalidGen_any x A c l.length w1 hn).mono ?_
  rintro e w2 ⟨rfl, hb2⟩
  have Hb2 := Lib.hid (Hb1.out.trans (hb2.mono (by omega)))
  clear hb2
  go_wp2_with fail
  go_ret
  exact ⟨ret_bool (by unfold genOk; rw [Hv.out, Bool.true_and]), Hb2.out⟩

end Go.Proofs.Ytkkgpddpplokfaa
