/- The functions of the laws on tees: their size, a copy, equal ones, marks. -/
import Derived.Test.YtjkieedomljelaaTee
import Derived.Deep.RegionHeld3
import Derived.Deep.CutRange
import Derived.Deep.DeepMust
namespace Go.Proofs.Ytjkieedomljelaa
open Go.RowKit Go.Deep

theorem Bk.cellsT {w : World} {g : Nat} {ty : TypeId} {x0 x1 x2 x3 : Value} (h : Bk w g ty [x0, x1, x2, x3]) :
    w.cell? ⟨g, 0, none⟩ = some x0 ∧ w.cell? ⟨g, 1, none⟩ = some x1 ∧ w.cell? ⟨g, 2, none⟩ = some x2 ∧ w.cell? ⟨g, 3, none⟩ = some x3 := ⟨h.cell 0, h.cell 1, h.cell 2, h.cell 3⟩
theorem Bk.freeT {w : World} {g : Nat} {ty : TypeId} {cs : List Value} (h : Bk w g ty cs) :
    w.frozen? ⟨g, 0, none⟩ = false ∧ w.frozen? ⟨g, 1, none⟩ = false ∧ w.frozen? ⟨g, 2, none⟩ = false ∧ w.frozen? ⟨g, 3, none⟩ = false := ⟨h.free 0, h.free 1, h.free 2, h.free 3⟩

set_option maxHeartbeats 1600000 in
theorem szTee_any (r : Tr) (t : Te) (left : Int) (w : World) (h0 : 0 ≤ left) (h1 : left ≤ 1048576) (n1 : t.it.length ≤ maxLen) (n2 : t.pl.length ≤ maxLen) (n3 : t.op.length ≤ maxLen) :
    Calls Try.prog 17 #[.agg #[.slice r.a1 t.it.length r.c1, .int .i64 t.fd, .slice r.a2 t.pl.length r.c2, .slice r.a3 t.op.length r.c3], .int .i64 left] w fun e w' => e = .returned (.int .i64 (szLeft left (szT t : Nat))) ∧ Below w.heap.size w w' := by
  by_cases hc0 : left < (t.it.length : Int)
  · have z0 := szLeft_no hc0
    have Z0 := Lib.hid z0
    have hz : szLeft left (szT t : Nat) = -1 := szLeft_no (by unfold szT; omega)
    have Hz := Lib.hid hz
    clear hz z0 hc0
    go_enter Try.func17, Try.ntmps17
    go_wp2_with fail
    refine (szIntS_any _ _ _ left _ (by omega) (by omega) n1).mono ?_
    rintro e w1 ⟨rfl, rfl⟩
    rw [Z0.out]
    go_wp2_with fail
    go_ret
    exact ⟨ret_int Hz.out.symm, (Below.refl _ _).alloc (Nat.le_refl _) _⟩
  by_cases hc1 : left - t.it.length < (t.pl.length : Int)
  · have z0 := szLeft_yes hc0
    have Z0 := Lib.hid z0
    have z1 := szLeft_no hc1
    have Z1 := Lib.hid z1
    have hz : szLeft left (szT t : Nat) = -1 := szLeft_no (by unfold szT; omega)
    have Hz := Lib.hid hz
    have hp0 : (0 : Int) ≤ (left - t.it.length) := by omega
    clear hz z0 hc0 z1 hc1
    go_enter Try.func17, Try.ntmps17
    go_wp2_with fail
    refine (szIntS_any _ _ _ left _ (by omega) (by omega) n1).mono ?_
    rintro e w1 ⟨rfl, rfl⟩
    rw [Z0.out]
    go_wp2_with fail
    refine (szIntS_any _ _ _ (left - t.it.length) _ (by omega) (by omega) n2).mono ?_
    rintro e w1 ⟨rfl, rfl⟩
    rw [Z1.out]
    go_wp2_with fail
    go_ret
    exact ⟨ret_int Hz.out.symm, (Below.refl _ _).alloc (Nat.le_refl _) _⟩
  by_cases hc2 : left - t.it.length - t.pl.length < (t.op.length : Int)
  · have z0 := szLeft_yes hc0
    have Z0 := Lib.hid z0
    have z1 := szLeft_yes hc1
    have Z1 := Lib.hid z1
    have z2 := szLeft_no hc2
    have Z2 := Lib.hid z2
    have hz : szLeft left (szT t : Nat) = -1 := szLeft_no (by unfold szT; omega)
    have Hz := Lib.hid hz
    have hp0 : (0 : Int) ≤ (left - t.it.length) := by omega
    have hp1 : (0 : Int) ≤ (left - t.it.length - t.pl.length) := by omega
    clear hz z0 hc0 z1 hc1 z2 hc2
    go_enter Try.func17, Try.ntmps17
    go_wp2_with fail
    refine (szIntS_any _ _ _ left _ (by omega) (by omega) n1).mono ?_
    rintro e w1 ⟨rfl, rfl⟩
    rw [Z0.out]
    go_wp2_with fail
    refine (szIntS_any _ _ _ (left - t.it.length) _ (by omega) (by omega) n2).mono ?_
    rintro e w1 ⟨rfl, rfl⟩
    rw [Z1.out]
    go_wp2_with fail
    refine (szBoolS_any _ _ _ (left - t.it.length - t.pl.length) _ (by omega) (by omega) n3).mono ?_
    rintro e w1 ⟨rfl, rfl⟩
    rw [Z2.out]
    go_wp2_with fail
    go_ret
    exact ⟨ret_int Hz.out.symm, (Below.refl _ _).alloc (Nat.le_refl _) _⟩
  have z0 := szLeft_yes hc0
  have Z0 := Lib.hid z0
  have z1 := szLeft_yes hc1
  have Z1 := Lib.hid z1
  have z2 := szLeft_yes hc2
  have Z2 := Lib.hid z2
  have hz : szLeft left (szT t : Nat) = left - t.it.length - t.pl.length - t.op.length := by rw [szLeft_yes (by unfold szT; omega)]; unfold szT; omega
  have Hz := Lib.hid hz
  have hp0 : (0 : Int) ≤ (left - t.it.length) := by omega
  have hp1 : (0 : Int) ≤ (left - t.it.length - t.pl.length) := by omega
  have hp2 : (0 : Int) ≤ (left - t.it.length - t.pl.length - t.op.length) := by omega
  clear hz z0 hc0 z1 hc1 z2 hc2
  go_enter Try.func17, Try.ntmps17
  go_wp2_with fail
  refine (szIntS_any _ _ _ left _ (by omega) (by omega) n1).mono ?_
  rintro e w1 ⟨rfl, rfl⟩
  rw [Z0.out]
  go_wp2_with fail
  refine (szIntS_any _ _ _ (left - t.it.length) _ (by omega) (by omega) n2).mono ?_
  rintro e w1 ⟨rfl, rfl⟩
  rw [Z1.out]
  go_wp2_with fail
  refine (szBoolS_any _ _ _ (left - t.it.length - t.pl.length) _ (by omega) (by omega) n3).mono ?_
  rintro e w1 ⟨rfl, rfl⟩
  rw [Z2.out]
  go_wp2_with fail
  go_ret
  exact ⟨ret_int Hz.out.symm, (Below.refl _ _).alloc (Nat.le_refl _) _⟩

set_option maxHeartbeats 3200000 in
theorem toTee_any (r : Tr) (t : Te) (w : World) (B : Nat) (h : RdT w B r t) (hB : B ≤ w.heap.size) (n1 : t.it.length ≤ 1048576) (n2 : t.pl.length ≤ 1048576) (n3 : t.op.length ≤ 1048576) :
    Calls Try.prog 19 #[.agg #[.slice r.a1 t.it.length r.c1, .int .i64 t.fd, .slice r.a2 t.pl.length r.c2, .slice r.a3 t.op.length r.c3]] w fun e w' => ∃ g1 g2 g3 : Nat, e = .returned (.agg #[.slice (some ⟨g1, 0, none⟩) t.it.length t.it.length, .int .i64 t.fd, .slice (some ⟨g2, 0, none⟩) t.pl.length t.pl.length, .slice (some ⟨g3, 0, none⟩) t.op.length t.op.length]) ∧ (w.heap.size ≤ g1 ∧ g1 < g2 ∧ g2 < g3 ∧ g3 < w'.heap.size) ∧ Bk w' g1 3 (ints t.it) ∧ Bk w' g2 3 (ints t.pl) ∧ Bk w' g3 4 (bools t.op) ∧ Below w.heap.size w w' := by
  obtain ⟨W0, hW0⟩ : ∃ W : World, W = ((w.alloc (.cells #[.slice r.a1 t.it.length r.c1, .int .i64 t.fd, .slice r.a2 t.pl.length r.c2, .slice r.a3 t.op.length r.c3] 25)).alloc (.cells #[.slice none 0 0, .int .i64 0, .slice none 0 0, .slice none 0 0] 27)).alloc (.cells #[.slice none 0 0, .int .i64 0, .slice none 0 0, .slice none 0 0] 27) := ⟨_, rfl⟩
  have hb0 : Below w.heap.size w W0 := by rw [hW0]; exact (((Below.refl _ _).alloc (Nat.le_refl _) _).alloc (by simp) _).alloc (by simp; omega) _
  have hs0 : W0.heap.size = w.heap.size + 3 := by rw [hW0]; simp
  have ba : Bk W0 w.heap.size 25 [.slice r.a1 t.it.length r.c1, .int .i64 t.fd, .slice r.a2 t.pl.length r.c2, .slice r.a3 t.op.length r.c3] := by rw [hW0]; exact ((Bk.new _ _ [.slice r.a1 t.it.length r.c1, .int .i64 t.fd, .slice r.a2 t.pl.length r.c2, .slice r.a3 t.op.length r.c3]).alloc _).alloc _
  have br : Bk W0 (w.heap.size + 1) 27 [.slice none 0 0, .int .i64 0, .slice none 0 0, .slice none 0 0] := by
    rw [hW0]
    have := (Bk.new (w.alloc (.cells #[.slice r.a1 t.it.length r.c1, .int .i64 t.fd, .slice r.a2 t.pl.length r.c2, .slice r.a3 t.op.length r.c3] 25)) 27 [.slice none 0 0, .int .i64 0, .slice none 0 0, .slice none 0 0]).alloc (.cells #[.slice none 0 0, .int .i64 0, .slice none 0 0, .slice none 0 0] 27)
    simpa using this
  have bo : Bk W0 (w.heap.size + 2) 27 [.slice none 0 0, .int .i64 0, .slice none 0 0, .slice none 0 0] := by
    rw [hW0]
    have := Bk.new ((w.alloc (.cells #[.slice r.a1 t.it.length r.c1, .int .i64 t.fd, .slice r.a2 t.pl.length r.c2, .slice r.a3 t.op.length r.c3] 25)).alloc (.cells #[.slice none 0 0, .int .i64 0, .slice none 0 0, .slice none 0 0] 27)) 27 [.slice none 0 0, .int .i64 0, .slice none 0 0, .slice none 0 0]
    simpa using this
  have HW0 := Lib.hid hW0
  have Hb0 := Lib.hid hb0
  have Hs0 := Lib.hid hs0
  have H := Lib.hid h
  have Ba := Lib.hid ba
  have Br := Lib.hid br
  have Bo := Lib.hid bo
  clear h hW0 hb0 ba br bo hs0
  go_enter Try.func19, Try.ntmps19
  go_wp2_with fail
  rw [← HW0.out]
  have hs0 := Hs0.out
  refine (toIntS_any r.a1 r.c1 t.it _ B (H.out.it.below Hb0.out hB) (by rw [Hs0.out]; omega) n1).mono ?_
  rintro e w1 ⟨rfl, hk1, hb1⟩
  have Bo1 := Lib.hid (Bo.out.below hb1 (by omega))
  have Br1 := Lib.hid (Br.out.below hb1 (by omega))
  have Ba1 := Lib.hid (Ba.out.below hb1 (by omega))
  have Hk1 := Lib.hid hk1
  have Hbw1 := Lib.hid (Hb0.out.trans (hb1.mono (by omega)))
  have hsz1 := hb1.size
  have hlt1 := hk1.lt
  clear hk1 hb1
  obtain ⟨co0, co1, co2, co3⟩ := Bo1.out.cellsT
  obtain ⟨fo0, fo1, fo2, fo3⟩ := Bo1.out.freeT
  obtain ⟨ca0, ca1, ca2, ca3⟩ := Ba1.out.cellsT
  obtain ⟨V1, hV1⟩ : ∃ W : World, W = (w1.setCell ⟨w.heap.size + 1 + 1, 0, none⟩ (.slice (some ⟨W0.heap.size, 0, none⟩) t.it.length t.it.length)).setCell ⟨w.heap.size + 1 + 1, 1, none⟩ (.int .i64 t.fd) := ⟨_, rfl⟩
  have HV1 := Lib.hid hV1
  have bo2 := (Bo1.out.set_ 0 (.slice (some ⟨W0.heap.size, 0, none⟩) t.it.length t.it.length)).set_ 1 (.int .i64 t.fd)
  rw [← hV1] at bo2
  have br2 := (Br1.out.far (p := ⟨w.heap.size + 1 + 1, 0, none⟩) (by show w.heap.size + 1 ≠ w.heap.size + 2; omega) (.slice (some ⟨W0.heap.size, 0, none⟩) t.it.length t.it.length)).far (p := ⟨w.heap.size + 1 + 1, 1, none⟩) (by show w.heap.size + 1 ≠ w.heap.size + 2; omega) (.int .i64 t.fd)
  rw [← hV1] at br2
  have ba2 := (Ba1.out.far (p := ⟨w.heap.size + 1 + 1, 0, none⟩) (by show w.heap.size ≠ w.heap.size + 2; omega) (.slice (some ⟨W0.heap.size, 0, none⟩) t.it.length t.it.length)).far (p := ⟨w.heap.size + 1 + 1, 1, none⟩) (by show w.heap.size ≠ w.heap.size + 2; omega) (.int .i64 t.fd)
  rw [← hV1] at ba2
  have bk2 := (Hk1.out.far (p := ⟨w.heap.size + 1 + 1, 0, none⟩) (by show W0.heap.size ≠ w.heap.size + 2; omega) (.slice (some ⟨W0.heap.size, 0, none⟩) t.it.length t.it.length)).far (p := ⟨w.heap.size + 1 + 1, 1, none⟩) (by show W0.heap.size ≠ w.heap.size + 2; omega) (.int .i64 t.fd)
  rw [← hV1] at bk2
  have hbV1 : Below w.heap.size w V1 := by rw [hV1]; exact (Hbw1.out.setCell (by show w.heap.size ≤ w.heap.size + 2; omega) _).setCell (by show w.heap.size ≤ w.heap.size + 2; omega) _
  have hsV1 : V1.heap.size = w1.heap.size := by rw [hV1]; simp [World.setCell]
  have HbV1 := Lib.hid hbV1
  have Bo2 := Lib.hid bo2
  have Br2 := Lib.hid br2
  have Ba2 := Lib.hid ba2
  have Bk2 := Lib.hid bk2
  have HsV1 := Lib.hid hsV1
  clear hV1 bo2 br2 ba2 bk2 hbV1 hsV1 hs0
  go_wp2_with fail
  rw [← HV1.out]
  have hs0 := Hs0.out
  have hsV1 := HsV1.out
  clear co0 co1 co2 co3 fo0 fo1 fo2 fo3 ca0 ca1 ca2 ca3
  refine (toIntS_any r.a2 r.c2 t.pl _ B (H.out.pl.below HbV1.out hB) (by rw [HsV1.out]; omega) n2).mono ?_
  rintro e w2 ⟨rfl, hk2, hb2⟩
  have Bo3 := Lib.hid (Bo2.out.below hb2 (by rw [HsV1.out]; omega))
  have Br3 := Lib.hid (Br2.out.below hb2 (by rw [HsV1.out]; omega))
  have Ba3 := Lib.hid (Ba2.out.below hb2 (by rw [HsV1.out]; omega))
  have Bk3 := Lib.hid (Bk2.out.below hb2 (by rw [HsV1.out]; omega))
  have Hk2 := Lib.hid hk2
  have Hbw2 := Lib.hid (HbV1.out.trans (hb2.mono (by rw [HsV1.out]; omega)))
  have hsz2 := hb2.size
  have hlt2 := hk2.lt
  clear hk2 hb2
  obtain ⟨co0, co1, co2, co3⟩ := Bo3.out.cellsT
  obtain ⟨fo0, fo1, fo2, fo3⟩ := Bo3.out.freeT
  obtain ⟨ca0, ca1, ca2, ca3⟩ := Ba3.out.cellsT
  obtain ⟨V2, hV2⟩ : ∃ W : World, W = w2.setCell ⟨w.heap.size + 1 + 1, 2, none⟩ (.slice (some ⟨V1.heap.size, 0, none⟩) t.pl.length t.pl.length) := ⟨_, rfl⟩
  have HV2 := Lib.hid hV2
  have bo4 := Bo3.out.set_ 2 (.slice (some ⟨V1.heap.size, 0, none⟩) t.pl.length t.pl.length)
  rw [← hV2] at bo4
  have far2 : ∀ (b : Nat) (ty : TypeId) (cs : List Value), b ≠ w.heap.size + 2 → Bk w2 b ty cs → Bk V2 b ty cs := fun b ty cs hne hb => by rw [hV2]; exact hb.far (by exact hne) _
  have hbV2 : Below w.heap.size w V2 := by rw [hV2]; exact Hbw2.out.setCell (by show w.heap.size ≤ w.heap.size + 2; omega) _
  have hsV2 : V2.heap.size = w2.heap.size := by rw [hV2]; simp [World.setCell]
  have Bo4 := Lib.hid bo4
  have Br4 := Lib.hid (far2 _ _ _ (by omega) Br3.out)
  have Ba4 := Lib.hid (far2 _ _ _ (by omega) Ba3.out)
  have Bk4 := Lib.hid (far2 _ _ _ (by omega) Bk3.out)
  have Bl4 := Lib.hid (far2 _ _ _ (by rw [hsV1]; omega) Hk2.out)
  have HbV2 := Lib.hid hbV2
  have HsV2 := Lib.hid hsV2
  clear hV2 bo4 far2 hbV2 hsV2 hsV1 hs0
  go_wp2_with fail
  rw [← HV2.out]
  have hs0 := Hs0.out
  have hsV1 := HsV1.out
  have hsV2 := HsV2.out
  clear co0 co1 co2 co3 fo0 fo1 fo2 fo3 ca0 ca1 ca2 ca3
  refine (toBoolS_any r.a3 r.c3 t.op _ B (H.out.op.below HbV2.out hB) (by rw [HsV2.out]; omega) n3).mono ?_
  rintro e w3 ⟨rfl, hk3, hb3⟩
  have Bo5 := Lib.hid (Bo4.out.below hb3 (by rw [HsV2.out]; omega))
  have Br5 := Lib.hid (Br4.out.below hb3 (by rw [HsV2.out]; omega))
  have Bk5 := Lib.hid (Bk4.out.below hb3 (by rw [HsV2.out]; omega))
  have Bl5 := Lib.hid (Bl4.out.below hb3 (by rw [HsV2.out]; omega))
  have Hk3 := Lib.hid hk3
  have Hbw3 := Lib.hid (HbV2.out.trans (hb3.mono (by rw [HsV2.out]; omega)))
  have hsz3 := hb3.size
  have hlt3 := hk3.lt
  clear hk3 hb3
  obtain ⟨co0, co1, co2, co3⟩ := Bo5.out.cellsT
  obtain ⟨fo0, fo1, fo2, fo3⟩ := Bo5.out.freeT
  obtain ⟨cr0, cr1, cr2, cr3⟩ := Br5.out.cellsT
  obtain ⟨fr0, fr1, fr2, fr3⟩ := Br5.out.freeT
  clear hs0 hsV1 hsV2
  go_wp2
  refine bodyPost_ret (v := .agg #[.slice (some ⟨W0.heap.size, 0, none⟩) t.it.length t.it.length, .int .i64 t.fd, .slice (some ⟨V1.heap.size, 0, none⟩) t.pl.length t.pl.length, .slice (some ⟨V2.heap.size, 0, none⟩) t.op.length t.op.length])
    (by simp [results, Try.results19, go_sem, cr0, cr1, cr2, cr3]) rfl ⟨_, _, _, rfl, ?_⟩
  have hs0 := Hs0.out
  have hsV1 := HsV1.out
  have hsV2 := HsV2.out
  have far3 : ∀ (b : Nat) (ty : TypeId) (cs : List Value) (u0 u1 u2 u3 u4 : Value), b ≠ w.heap.size + 1 + 1 → b ≠ w.heap.size + 1 → Bk w3 b ty cs → Bk (((((w3.setCell ⟨w.heap.size + 1 + 1, 3, none⟩ u0).setCell ⟨w.heap.size + 1, 0, none⟩ u1).setCell ⟨w.heap.size + 1, 1, none⟩ u2).setCell ⟨w.heap.size + 1, 2, none⟩ u3).setCell ⟨w.heap.size + 1, 3, none⟩ u4) b ty cs :=
    fun b ty cs u0 u1 u2 u3 u4 h1 h2 hb => ((((hb.far (by exact h1) _).far (by exact h2) _).far (by exact h2) _).far (by exact h2) _).far (by exact h2) _
  refine ⟨⟨by omega, by omega, by omega, by simp [World.setCell]; omega⟩, far3 _ _ _ _ _ _ _ _ (by omega) (by omega) Bk5.out, far3 _ _ _ _ _ _ _ _ (by omega) (by omega) Bl5.out, far3 _ _ _ _ _ _ _ _ (by omega) (by omega) Hk3.out, ?_⟩
  exact ((((Hbw3.out.setCell (by show w.heap.size ≤ w.heap.size + 1 + 1; omega) _).setCell (by show w.heap.size ≤ w.heap.size + 1; omega) _).setCell (by show w.heap.size ≤ w.heap.size + 1; omega) _).setCell (by show w.heap.size ≤ w.heap.size + 1; omega) _).setCell (by show w.heap.size ≤ w.heap.size + 1; omega) _

set_option maxHeartbeats 3200000 in
theorem eqTee_any (r1 r2 : Tr) (t : Te) (w : World) (B : Nat) (h1 : RdT w B r1 t) (h2 : RdT w B r2 t) (hB : B ≤ w.heap.size) (n1 : t.it.length ≤ 1048576) (n2 : t.pl.length ≤ 1048576) (n3 : t.op.length ≤ 1048576) :
    Calls Try.prog 21 #[.agg #[.slice r1.a1 t.it.length r1.c1, .int .i64 t.fd, .slice r1.a2 t.pl.length r1.c2, .slice r1.a3 t.op.length r1.c3], .agg #[.slice r2.a1 t.it.length r2.c1, .int .i64 t.fd, .slice r2.a2 t.pl.length r2.c2, .slice r2.a3 t.op.length r2.c3]] w fun e w' => e = .returned (.bool true) ∧ Below w.heap.size w w' := by
  obtain ⟨W0, hW0⟩ : ∃ W : World, W = (w.alloc (.cells #[.slice r1.a1 t.it.length r1.c1, .int .i64 t.fd, .slice r1.a2 t.pl.length r1.c2, .slice r1.a3 t.op.length r1.c3] 27)).alloc (.cells #[.slice r2.a1 t.it.length r2.c1, .int .i64 t.fd, .slice r2.a2 t.pl.length r2.c2, .slice r2.a3 t.op.length r2.c3] 27) := ⟨_, rfl⟩
  have hb0 : Below w.heap.size w W0 := by rw [hW0]; exact ((Below.refl _ _).alloc (Nat.le_refl _) _).alloc (by simp) _
  have hs0 : W0.heap.size = w.heap.size + 2 := by rw [hW0]; simp
  have ba : Bk W0 w.heap.size 27 [.slice r1.a1 t.it.length r1.c1, .int .i64 t.fd, .slice r1.a2 t.pl.length r1.c2, .slice r1.a3 t.op.length r1.c3] := by rw [hW0]; exact (Bk.new _ _ [.slice r1.a1 t.it.length r1.c1, .int .i64 t.fd, .slice r1.a2 t.pl.length r1.c2, .slice r1.a3 t.op.length r1.c3]).alloc _
  have bb : Bk W0 (w.heap.size + 1) 27 [.slice r2.a1 t.it.length r2.c1, .int .i64 t.fd, .slice r2.a2 t.pl.length r2.c2, .slice r2.a3 t.op.length r2.c3] := by
    rw [hW0]
    have := Bk.new (w.alloc (.cells #[.slice r1.a1 t.it.length r1.c1, .int .i64 t.fd, .slice r1.a2 t.pl.length r1.c2, .slice r1.a3 t.op.length r1.c3] 27)) 27 [.slice r2.a1 t.it.length r2.c1, .int .i64 t.fd, .slice r2.a2 t.pl.length r2.c2, .slice r2.a3 t.op.length r2.c3]
    simpa using this
  have HW0 := Lib.hid hW0
  have Hb0 := Lib.hid hb0
  have Hs0 := Lib.hid hs0
  have H1 := Lib.hid (h1.below hb0 hB)
  have H2 := Lib.hid (h2.below hb0 hB)
  have Ba := Lib.hid ba
  have Bb := Lib.hid bb
  clear h1 h2 hW0 hb0 ba bb hs0
  go_enter Try.func21, Try.ntmps21
  go_wp2_with fail
  rw [← HW0.out]
  refine (eqIntS_any _ _ _ _ t.it t.it _ B H1.out.it H2.out.it n1).mono ?_
  rintro e w1 ⟨rfl, hs⟩
  rw [decide_eq_true rfl]
  replace Hb0 := Lib.hid (Hb0.out.trans (hs.below _))
  replace H1 := Lib.hid (H1.out.below (hs.below B) (Nat.le_refl _))
  replace H2 := Lib.hid (H2.out.below (hs.below B) (Nat.le_refl _))
  replace Ba := Lib.hid (Ba.out.below (hs.below _) (Nat.lt_succ_self _))
  replace Bb := Lib.hid (Bb.out.below (hs.below _) (Nat.lt_succ_self _))
  clear hs
  obtain ⟨ca0, ca1, ca2, ca3⟩ := Ba.out.cellsT
  obtain ⟨cb0, cb1, cb2, cb3⟩ := Bb.out.cellsT
  go_wp2_with fail
  clear ca0 ca1 ca2 ca3 cb0 cb1 cb2 cb3
  refine (eqIntS_any _ _ _ _ t.pl t.pl _ B H1.out.pl H2.out.pl n2).mono ?_
  rintro e w2 ⟨rfl, hs⟩
  rw [decide_eq_true rfl]
  replace Hb0 := Lib.hid (Hb0.out.trans (hs.below _))
  replace H1 := Lib.hid (H1.out.below (hs.below B) (Nat.le_refl _))
  replace H2 := Lib.hid (H2.out.below (hs.below B) (Nat.le_refl _))
  replace Ba := Lib.hid (Ba.out.below (hs.below _) (Nat.lt_succ_self _))
  replace Bb := Lib.hid (Bb.out.below (hs.below _) (Nat.lt_succ_self _))
  clear hs
  obtain ⟨ca0, ca1, ca2, ca3⟩ := Ba.out.cellsT
  obtain ⟨cb0, cb1, cb2, cb3⟩ := Bb.out.cellsT
  go_wp2_with fail
  clear ca0 ca1 ca2 ca3 cb0 cb1 cb2 cb3
  refine (eqBoolS_any _ _ _ _ t.op t.op _ B H1.out.op H2.out.op n3).mono ?_
  rintro e w3 ⟨rfl, hs⟩
  rw [decide_eq_true rfl]
  replace Hb0 := Lib.hid (Hb0.out.trans (hs.below _))
  go_wp2_with fail
  go_ret
  exact ⟨rfl, Hb0.out⟩

theorem mkT_it (t : Te) (k : Int) : (mkT t k).it.length = t.it.length := mkI_len _ _
theorem mkT_pl (t : Te) (k : Int) : (mkT t k).pl.length = t.pl.length := mkI_len _ _
theorem mkT_op (t : Te) (k : Int) : (mkT t k).op.length = t.op.length := mkB_len _ _

set_option maxHeartbeats 3200000 in
theorem markTee_h {lo hi : Nat} {r : Tr} {t : Te} {w : World} (k : Int) (h : OwnT w lo hi r t) (n1 : t.it.length ≤ 1048576) (n2 : t.pl.length ≤ 1048576) (n3 : t.op.length ≤ 1048576) (hk0 : 0 ≤ k) (hk1 : k ≤ 8388608) (hz : hi ≤ w.heap.size) :
    Calls Try.prog 22 #[.agg #[.slice r.a1 t.it.length r.c1, .int .i64 t.fd, .slice r.a2 t.pl.length r.c2, .slice r.a3 t.op.length r.c3], .int .i64 k] w fun e w' => e = .returned (.int .i64 (k + (szT t : Nat))) ∧ OwnT w' lo hi r (mkT t k) ∧ Chg lo hi w w' := by
  obtain ⟨x1, y1, x2, y2, x3, y3, ⟨l1, m1, u1⟩, ⟨l2, m2, u2⟩, ⟨l3, m3, u3⟩, d1, d2, d3, o1, o2, o3⟩ := h
  obtain ⟨W0, hW0⟩ : ∃ W : World, W = w.alloc (.cells #[.slice r.a1 t.it.length r.c1, .int .i64 t.fd, .slice r.a2 t.pl.length r.c2, .slice r.a3 t.op.length r.c3] 27) := ⟨_, rfl⟩
  have hb0 : Below w.heap.size w W0 := by rw [hW0]; exact (Below.refl _ _).alloc (Nat.le_refl _) _
  have hs0 : W0.heap.size = w.heap.size + 1 := by rw [hW0]; simp
  have ba : Bk W0 w.heap.size 27 [.slice r.a1 t.it.length r.c1, .int .i64 t.fd, .slice r.a2 t.pl.length r.c2, .slice r.a3 t.op.length r.c3] := by rw [hW0]; exact Bk.new _ _ [.slice r.a1 t.it.length r.c1, .int .i64 t.fd, .slice r.a2 t.pl.length r.c2, .slice r.a3 t.op.length r.c3]
  have Ba := Lib.hid ba.held
  have H1 := Lib.hid ((o1.held m1 (Nat.le_trans u1 hz)).below hb0 (Nat.le_trans u1 hz))
  have H2 := Lib.hid ((o2.held m2 (Nat.le_trans u2 hz)).below hb0 (Nat.le_trans u2 hz))
  have H3 := Lib.hid ((o3.held m3 (Nat.le_trans u3 hz)).below hb0 (Nat.le_trans u3 hz))
  have Hc := Lib.hid (Chg.of_below (lo := lo) (hi := hi) hb0)
  have HW0 := Lib.hid hW0
  clear hW0 hb0 ba o1 o2 o3 hs0
  go_enter Try.func22, Try.ntmps22
  go_wp2_with fail
  rw [← HW0.out]
  refine (markIntS_h k H1.out.out n1 hk0 (by omega)).mono ?_
  rintro e w1 ⟨rfl, ho, hc⟩
  replace H2 := Lib.hid (H2.out.chg hc d1.symm)
  replace H3 := Lib.hid (H3.out.chg hc d2.symm)
  replace Ba := Lib.hid (Ba.out.chg hc (.inr (Nat.le_trans u1 hz)))
  replace H1 := Lib.hid (ho.held m1 (Nat.le_trans H1.out.top hc.size))
  replace Hc := Lib.hid (Hc.out.trans (hc.wide l1 u1))
  clear ho hc
  obtain ⟨ca0, ca1, ca2, ca3⟩ := Ba.out.out.cellsT
  go_wp2_with fail
  clear ca0 ca1 ca2 ca3
  refine (markIntS_h (k + t.it.length) H2.out.out n2 (by omega) (by omega)).mono ?_
  rintro e w2 ⟨rfl, ho, hc⟩
  replace H1 := Lib.hid (H1.out.chg hc d1)
  replace H3 := Lib.hid (H3.out.chg hc d3.symm)
  replace Ba := Lib.hid (Ba.out.chg hc (.inr (Nat.le_trans u2 hz)))
  replace H2 := Lib.hid (ho.held m2 (Nat.le_trans H2.out.top hc.size))
  replace Hc := Lib.hid (Hc.out.trans (hc.wide l2 u2))
  clear ho hc
  obtain ⟨ca0, ca1, ca2, ca3⟩ := Ba.out.out.cellsT
  go_wp2_with fail
  clear ca0 ca1 ca2 ca3
  refine (markBoolS_h (k + t.it.length + t.pl.length) H3.out.out n3 (by omega) (by omega)).mono ?_
  rintro e w3 ⟨rfl, ho, hc⟩
  replace H1 := Lib.hid (H1.out.chg hc d2)
  replace H2 := Lib.hid (H2.out.chg hc d3)
  replace Ba := Lib.hid (Ba.out.chg hc (.inr (Nat.le_trans u3 hz)))
  replace H3 := Lib.hid (ho.held m3 (Nat.le_trans H3.out.top hc.size))
  replace Hc := Lib.hid (Hc.out.trans (hc.wide l3 u3))
  clear ho hc
  go_wp2_with fail
  go_ret
  exact ⟨ret_int (by unfold szT; omega), ⟨x1, y1, x2, y2, x3, y3, ⟨l1, m1, u1⟩, ⟨l2, m2, u2⟩, ⟨l3, m3, u3⟩, d1, d2, d3, H1.out.out, H2.out.out, H3.out.out⟩, Hc.out⟩

set_option maxHeartbeats 3200000 in
theorem heldTee_any (r : Tr) (t : Te) (k : Int) (w : World) (B : Nat) (h : RdT w B r (mkT t k)) (hB : B ≤ w.heap.size) (n1 : t.it.length ≤ 1048576) (n2 : t.pl.length ≤ 1048576) (n3 : t.op.length ≤ 1048576) (hk0 : 0 ≤ k) (hk1 : k ≤ 8388608) :
    Calls Try.prog 23 #[.agg #[.slice r.a1 t.it.length r.c1, .int .i64 t.fd, .slice r.a2 t.pl.length r.c2, .slice r.a3 t.op.length r.c3], .int .i64 k] w fun e w' => e = .returned (.int .i64 (k + (szT t : Nat))) ∧ Below w.heap.size w w' := by
  have hb0 : Below w.heap.size w (w.alloc (.cells #[.slice r.a1 t.it.length r.c1, .int .i64 t.fd, .slice r.a2 t.pl.length r.c2, .slice r.a3 t.op.length r.c3] 27)) := (Below.refl _ _).alloc (Nat.le_refl _) _
  have H := Lib.hid (h.below hb0 hB)
  have Hb0 := Lib.hid hb0
  have hp1 : (0 : Int) ≤ k + t.it.length := by omega
  have hp2 : (0 : Int) ≤ k + t.it.length + t.pl.length := by omega
  have hp3 : (0 : Int) ≤ k + t.it.length + t.pl.length + t.op.length := by omega
  clear h hb0
  go_enter Try.func23, Try.ntmps23
  go_wp2_with fail
  refine (heldIntS_any _ _ t.it.length k _ B H.out.it n1 hk0 (by omega)).mono ?_
  rintro e w1 ⟨rfl, rfl⟩
  go_wp2_with fail
  refine (heldIntS_any _ _ t.pl.length (k + t.it.length) _ B H.out.pl n2 (by omega) (by omega)).mono ?_
  rintro e w1 ⟨rfl, rfl⟩
  go_wp2_with fail
  refine (heldBoolS_any _ _ t.op.length (k + t.it.length + t.pl.length) _ B H.out.op n3 (by omega) (by omega)).mono ?_
  rintro e w1 ⟨rfl, rfl⟩
  go_wp2_with fail
  go_ret
  exact ⟨ret_int (by unfold szT; omega), Hb0.out⟩

theorem OwnT.of3 {w : World} {lo hi g1 g2 g3 : Nat} {t : Te} (h : lo ≤ g1 ∧ g1 < g2 ∧ g2 < g3 ∧ g3 < hi) (k1 : Bk w g1 3 (ints t.it)) (k2 : Bk w g2 3 (ints t.pl)) (k3 : Bk w g3 4 (bools t.op)) :
    OwnT w lo hi ⟨some ⟨g1, 0, none⟩, t.it.length, some ⟨g2, 0, none⟩, t.pl.length, some ⟨g3, 0, none⟩, t.op.length⟩ t :=
  ⟨g1, g1 + 1, g2, g2 + 1, g3, g3 + 1, by omega, by omega, by omega, by omega, by omega, by omega, k1.ownI (Nat.le_refl _) (by omega), k2.ownI (Nat.le_refl _) (by omega), k3.ownB (Nat.le_refl _) (by omega)⟩

theorem toTee_h (r : Tr) (t : Te) (w : World) (B : Nat) (h : RdT w B r t) (hB : B ≤ w.heap.size) (n1 : t.it.length ≤ 1048576) (n2 : t.pl.length ≤ 1048576) (n3 : t.op.length ≤ 1048576) :
    Calls Try.prog 19 #[.agg #[.slice r.a1 t.it.length r.c1, .int .i64 t.fd, .slice r.a2 t.pl.length r.c2, .slice r.a3 t.op.length r.c3]] w fun e w' => ∃ r' : Tr, e = .returned (.agg #[.slice r'.a1 t.it.length r'.c1, .int .i64 t.fd, .slice r'.a2 t.pl.length r'.c2, .slice r'.a3 t.op.length r'.c3]) ∧ OwnT w' w.heap.size w'.heap.size r' t ∧ Below w.heap.size w w' ∧ t.it.length ≤ r'.c1 :=
  (toTee_any r t w B h hB n1 n2 n3).mono fun _ _ ⟨_, _, _, he, hg, k1, k2, k3, hb⟩ => ⟨_, he, OwnT.of3 hg k1 k2 k3, hb, Nat.le_refl _⟩

end Go.Proofs.Ytjkieedomljelaa
