/- What is drawn for ValidResume. -/
import Derived.Test.YtkkgpddpplokfaaRdrB
import Derived.Test.YtkkgpddpplokfaaReM
import Derived.Test.YtkkgpddpplokfaaChg2
import Derived.Deep.DeepMust
namespace Go.Proofs.Ytkkgpddpplokfaa
open Go.RowKit Go.Deep

theorem bk2 {w : World} {g : Nat} {t : TypeId} {a b : Value} (h : Bk w g t [a, b]) : w.cell? ⟨g, 0, none⟩ = some a ∧ w.cell? ⟨g, 1, none⟩ = some b := ⟨h.cell 0, h.cell 1⟩
theorem bk2f {w : World} {g : Nat} {t : TypeId} {cs : List Value} (h : Bk w g t cs) : w.frozen? ⟨g, 0, none⟩ = false ∧ w.frozen? ⟨g, 1, none⟩ = false := ⟨h.free 0, h.free 1⟩

set_option maxRecDepth 100000 in
set_option maxHeartbeats 6400000 in
theorem someResume_any (rb : Nat) (A : Option Addr) (l : List Nat) (c p : Nat) (w : World) (h : RdrAt w rb A l c p) (hu : RdU w rb A l) (hl : l.length ≤ 2000) (hp : p ≤ 1048000) :
    Calls Try.prog 80 #[.pointer (some ⟨rb, 0, none⟩)] w fun e w' => ∃ (k v : Int) (q : Nat), e = .returned (.agg #[.int .i64 k, .int .i64 v]) ∧ q ≤ p + 2 ∧ RdrAt w' rb A l c q ∧ Chg rb (rb + 1) w w' := by
  obtain ⟨W0, hW0⟩ : ∃ W : World, W = w.alloc (.cells #[.int .i64 0, .int .i64 0] 40) := ⟨_, rfl⟩
  have hb0 : Below w.heap.size w W0 := by rw [hW0]; exact (Below.refl _ _).alloc (Nat.le_refl _) _
  have br : Bk W0 w.heap.size 40 [.int .i64 0, .int .i64 0] := by rw [hW0]; exact Bk.new _ _ [.int .i64 0, .int .i64 0]
  have hrl := Bk.lt h
  have hrl2 : rb + 1 ≤ w.heap.size := by omega
  have hne : rb ≠ w.heap.size := by omega
  have hr0 : RdrAt W0 rb A l c p := Bk.below h hb0 hrl
  have hu0 := hu.below hb0 (Nat.le_of_lt hrl)
  have HW0 := Lib.hid hW0
  have Hr0 := Lib.hid hr0
  have Hu0 := Lib.hid hu0
  have Hc0 := Lib.hid (Chg.of_below (lo := rb) (hi := rb + 1) hb0)
  have Br := Lib.hid br
  have hz0 : w.heap.size < W0.heap.size := br.lt
  clear h hu hb0 hW0 br hr0 hu0
  go_enter Try.func80, Try.ntmps80
  go_wp2_with fail
  rw [← HW0.out]
  refine (pick_any rb A l c p 10 W0 Hr0.out Hu0.out hl (by omega) (by decide)).mono ?_
  rintro e w1 ⟨x, rfl, hx, hr1, hc1⟩
  have hb1 : Bk w1 w.heap.size 40 [.int .i64 0, .int .i64 0] := (hc1.block w.heap.size hz0 (.inr hrl2)).trans Br.out
  have Hr1 := Lib.hid hr1
  have Hu1 := Lib.hid (Hu0.out.chg hc1 (Nat.le_refl _) (by omega))
  have Hc1 := Lib.hid (Hc0.out.trans hc1)
  have hz1 := hc1.size
  have Hb1 := Lib.hid hb1
  obtain ⟨c0, c1⟩ := bk2 hb1
  obtain ⟨f0, f1⟩ := bk2f hb1
  clear hx hr1 hc1 hb1
  by_cases hx0 : x = 0
  · subst hx0
    go_wp2_with fail
    refine (pick_any rb A l c (p + 1) 30 w1 Hr1.out Hu1.out hl (by omega) (by decide)).mono ?_
    rintro e w2 ⟨y, rfl, hy, hr2, hc2⟩
    have hb2 : Bk w2 w.heap.size 40 [.int .i64 0, .int .i64 0] := (hc2.block w.heap.size (by omega) (.inr hrl2)).trans Hb1.out
    have Hr2 := Lib.hid hr2
    have Hc2 := Lib.hid (Hc1.out.trans hc2)
    obtain ⟨d0, d1⟩ := bk2 hb2
    obtain ⟨g0, g1⟩ := bk2f hb2
    clear hy hr2 hc2 hb2
    go_wp2_with fail
    refine bodyPost_ret (v := .agg #[.int .i64 1, .int .i64 y]) (by simp [results, Try.results80, go_sem, d0, d1]) rfl ⟨1, y, p + 2, rfl, by omega, ?_, ?_⟩
    · exact (Bk.far (p := ⟨w.heap.size, 0, none⟩) Hr2.out hne _).far (p := ⟨w.heap.size, 1, none⟩) hne _
    · exact (Hc2.out.setNew2 (Nat.le_refl _) _ _).setNew2 (Nat.le_refl _) _ _
  have hb0 : (x == (0 : Int)) = false := by simpa using hx0
  by_cases hx1 : x = 1
  · subst hx1
    go_wp2_with fail
    refine (pick_any rb A l c (p + 1) 30 w1 Hr1.out Hu1.out hl (by omega) (by decide)).mono ?_
    rintro e w2 ⟨y, rfl, hy, hr2, hc2⟩
    have hb2 : Bk w2 w.heap.size 40 [.int .i64 0, .int .i64 0] := (hc2.block w.heap.size (by omega) (.inr hrl2)).trans Hb1.out
    have Hr2 := Lib.hid hr2
    have Hc2 := Lib.hid (Hc1.out.trans hc2)
    obtain ⟨d0, d1⟩ := bk2 hb2
    obtain ⟨g0, g1⟩ := bk2f hb2
    clear hy hr2 hc2 hb2
    go_wp2_with fail
    refine bodyPost_ret (v := .agg #[.int .i64 1, .int .i64 y]) (by simp [results, Try.results80, go_sem, d0, d1]) rfl ⟨1, y, p + 2, rfl, by omega, ?_, ?_⟩
    · exact (Bk.far (p := ⟨w.heap.size, 0, none⟩) Hr2.out hne _).far (p := ⟨w.heap.size, 1, none⟩) hne _
    · exact (Hc2.out.setNew2 (Nat.le_refl _) _ _).setNew2 (Nat.le_refl _) _ _
  have hb1 : (x == (1 : Int)) = false := by simpa using hx1
  by_cases hx2 : x = 2
  · subst hx2
    go_wp2_with fail
    refine bodyPost_ret (v := .agg #[.int .i64 2, .int .i64 0]) (by simp [results, Try.results80, go_sem, c0, c1]) rfl ⟨2, 0, p + 1, rfl, by omega, ?_, ?_⟩
    · exact (Bk.far (p := ⟨w.heap.size, 0, none⟩) Hr1.out hne _).far (p := ⟨w.heap.size, 1, none⟩) hne _
    · exact (Hc1.out.setNew2 (Nat.le_refl _) _ _).setNew2 (Nat.le_refl _) _ _
  have hb2 : (x == (2 : Int)) = false := by simpa using hx2
  by_cases hx3 : x = 3
  · subst hx3
    go_wp2_with fail
    refine (pick_any rb A l c (p + 1) 2 w1 Hr1.out Hu1.out hl (by omega) (by decide)).mono ?_
    rintro e w2 ⟨y, rfl, hy, hr2, hc2⟩
    have hb2 : Bk w2 w.heap.size 40 [.int .i64 0, .int .i64 0] := (hc2.block w.heap.size (by omega) (.inr hrl2)).trans Hb1.out
    have Hr2 := Lib.hid hr2
    have Hc2 := Lib.hid (Hc1.out.trans hc2)
    obtain ⟨d0, d1⟩ := bk2 hb2
    obtain ⟨g0, g1⟩ := bk2f hb2
    clear hy hr2 hc2 hb2
    by_cases hy0 : y = 0
    · subst hy0
      go_wp2_with fail
      refine bodyPost_ret (v := .agg #[.int .i64 3, .int .i64 0]) (by simp [results, Try.results80, go_sem, d0, d1]) rfl ⟨3, 0, p + 2, rfl, by omega, ?_, ?_⟩
      · exact (Bk.far (p := ⟨w.heap.size, 0, none⟩) Hr2.out hne _).far (p := ⟨w.heap.size, 1, none⟩) hne _
      · exact (Hc2.out.setNew2 (Nat.le_refl _) _ _).setNew2 (Nat.le_refl _) _ _
    · have hyb : (y == (0 : Int)) = false := by simpa using hy0
      go_wp2_with fail
      refine bodyPost_ret (v := .agg #[.int .i64 0, .int .i64 0]) (by simp [results, Try.results80, go_sem, d0, d1]) rfl ⟨0, 0, p + 2, rfl, by omega, ?_, ?_⟩
      · exact (Bk.far (p := ⟨w.heap.size, 0, none⟩) Hr2.out hne _).far (p := ⟨w.heap.size, 1, none⟩) hne _
      · exact (Hc2.out.setNew2 (Nat.le_refl _) _ _).setNew2 (Nat.le_refl _) _ _
  have hb3 : (x == (3 : Int)) = false := by simpa using hx3
  go_wp2_with fail
  refine bodyPost_ret (v := .agg #[.int .i64 0, .int .i64 0]) (by simp [results, Try.results80, go_sem, c0, c1]) rfl ⟨0, 0, p + 1, rfl, by omega, ?_, ?_⟩
  · exact (Bk.far (p := ⟨w.heap.size, 0, none⟩) Hr1.out hne _).far (p := ⟨w.heap.size, 1, none⟩) hne _
  · exact (Hc1.out.setNew2 (Nat.le_refl _) _ _).setNew2 (Nat.le_refl _) _ _

set_option maxRecDepth 100000 in
set_option maxHeartbeats 6400000 in
theorem drawResume_any (A : Option Addr) (c : Nat) (l : List Nat) (w : World) (B : Nat) (h : RdU w B A l) (hB : B ≤ w.heap.size) (hl : l.length ≤ maxLen) (hc : l.length ≤ c) :
    Calls Try.prog 52 #[.slice A l.length c] w fun e w' => ∃ x : Re, e = .returned (.agg #[.int .i64 x.k, .int .i64 x.v]) ∧ Below w.heap.size w w' := by
  obtain ⟨W0, hW0⟩ : ∃ W : World, W = w.alloc (.cells #[.int .i64 0, .int .i64 0] 40) := ⟨_, rfl⟩
  have hb0 : Below w.heap.size w W0 := by rw [hW0]; exact (Below.refl _ _).alloc (Nat.le_refl _) _
  have br : Bk W0 w.heap.size 40 [.int .i64 0, .int .i64 0] := by rw [hW0]; exact Bk.new _ _ [.int .i64 0, .int .i64 0]
  have hz0 : W0.heap.size = w.heap.size + 1 := by rw [hW0]; simp
  have H := Lib.hid (h.below hb0 hB)
  have HW0 := Lib.hid hW0
  have HB := Lib.hid hb0
  have Br := Lib.hid br
  have Hz0 := Lib.hid hz0
  clear h hb0 hW0 br hz0
  go_enter Try.func52, Try.ntmps52
  go_wp2_with fail
  rw [← HW0.out]
  have hz0 := Hz0.out
  refine (newReader_any A c l W0 B H.out (by omega) hl hc).mono ?_
  rintro e w1 ⟨l', c', rfl, hl2, hu, hr, hb⟩
  obtain ⟨A', hA'⟩ : ∃ A', A' = A := ⟨_, rfl⟩
  rw [← hA'] at hu hr
  obtain ⟨rb, hrb⟩ : ∃ rb, rb = W0.heap.size := ⟨_, rfl⟩
  rw [← hrb] at hu hr
  rw [← hrb]
  have hrl := Bk.lt hr
  have hrw : w.heap.size < rb := by omega
  have Hu := Lib.hid hu
  have Hr := Lib.hid hr
  have HbR := Lib.hid (Br.out.below hb (by omega))
  replace HB := Lib.hid (HB.out.trans (hb.mono (by omega)))
  clear hu hr hb hA' hrb hz0
  go_wp2_with fail
  refine (someResume_any rb A' l' c' 0 w1 Hr.out Hu.out hl2 (by decide)).mono ?_
  rintro e w2 ⟨k, v, q, rfl, hq, hr2, hc2⟩
  have hz2 := hc2.size
  replace HbR := Lib.hid ((hc2.block w.heap.size (by omega) (.inl (by omega))).trans HbR.out)
  replace HB := Lib.hid (hc2.below_ HB.out (by omega) (by omega))
  replace Hu := Lib.hid (Hu.out.chg hc2 (Nat.le_refl _) (by omega))
  replace Hr := Lib.hid hr2
  clear hr2 hc2
  go_wp2_with fail
  obtain ⟨V2, hV2⟩ : ∃ W : World, W = w2.alloc (.cells #[.int .i64 k, .int .i64 v] 40) := ⟨_, rfl⟩
  have hbV2 : Below w2.heap.size w2 V2 := by rw [hV2]; exact (Below.refl _ _).alloc (Nat.le_refl _) _
  have bx : Bk V2 w2.heap.size 40 [.int .i64 k, .int .i64 v] := by rw [hV2]; exact Bk.new _ _ [.int .i64 k, .int .i64 v]
  have hzV2 : V2.heap.size = w2.heap.size + 1 := by rw [hV2]; simp
  rw [← hV2]
  have HbX := Lib.hid bx
  replace HbR := Lib.hid (Bk.below HbR.out hbV2 (by omega))
  replace HB := Lib.hid (HB.out.trans (hbV2.mono (by omega)))
  replace Hu := Lib.hid (Hu.out.below hbV2 (by omega))
  replace Hr := Lib.hid (Bk.below Hr.out hbV2 (by omega))
  clear hV2 hbV2 bx
  refine (pick_any rb A' l' c' q 6 V2 Hr.out Hu.out hl2 (by omega) (by decide)).mono ?_
  rintro e w3 ⟨x, rfl, -, hr3, hc3⟩
  have hz3 := hc3.size
  replace HbR := Lib.hid ((hc3.block w.heap.size (by omega) (.inl (by omega))).trans HbR.out)
  replace HbX := Lib.hid ((hc3.block w2.heap.size (by omega) (.inr (by omega))).trans HbX.out)
  replace HB := Lib.hid (hc3.below_ HB.out (by omega) (by omega))
  replace Hu := Lib.hid (Hu.out.chg hc3 (Nat.le_refl _) (by omega))
  replace Hr := Lib.hid hr3
  obtain ⟨r0, r1⟩ := bk2 HbR.out
  obtain ⟨r2, r3⟩ := bk2f HbR.out
  obtain ⟨y0, y1⟩ := bk2 HbX.out
  obtain ⟨y2, y3⟩ := bk2f HbX.out
  clear hr3 hc3
  have hle2 : w.heap.size ≤ w2.heap.size := by omega
  have hn1 : w.heap.size ≠ w2.heap.size := by omega
  have hn2 : w2.heap.size ≠ w.heap.size := by omega
  by_cases hx0 : x = 0
  · subst hx0
    go_wp2_with fail
    obtain ⟨V4, hV4⟩ : ∃ W : World, W = w3.alloc (.cells #[.int .i64 (-1), .int .i64 4] 3) := ⟨_, rfl⟩
    have hbV4 : Below w3.heap.size w3 V4 := by rw [hV4]; exact (Below.refl _ _).alloc (Nat.le_refl _) _
    have hgV4 : Bk V4 w3.heap.size 3 (ints [-1, 4]) := by rw [hV4]; exact Bk.new w3 _ (ints [-1, 4])
    rw [← hV4]
    refine (one_any rb A' l' c' _ w3.heap.size 2 [-1, 4] V4 (Bk.below Hr.out hbV4 (by omega)) (Hu.out.below hbV4 (by omega)) hl2 (by omega) hgV4 (by omega) (by decide) (by decide)).mono ?_
    rintro e w5 ⟨y, rfl, -, hrw5, hcw5⟩
    have hcc : Chg rb (rb + 1) w3 w5 := (Chg.of_below hbV4).trans hcw5
    have hb5 := (hcc.block w.heap.size (by omega) (.inl (by omega))).trans HbR.out
    have hb6 := (hcc.block w2.heap.size (by omega) (.inr (by omega))).trans HbX.out
    have HB2 := Lib.hid (hcc.below_ HB.out (by omega) (by omega))
    obtain ⟨u0, u1⟩ := bk2 hb5
    obtain ⟨u2, u3⟩ := bk2f hb5
    obtain ⟨x0, x1⟩ := bk2 hb6
    obtain ⟨x2, x3⟩ := bk2f hb6
    clear hV4 hbV4 hgV4 hrw5 hcw5 hb5 hb6 hcc r0 r1 r2 r3 y0 y1 y2 y3
    go_wp2_with fail
    refine bodyPost_ret (v := .agg #[.int .i64 y, .int .i64 v]) (by simp [results, Try.results52, go_sem, u0, u1]) rfl ⟨⟨y, v⟩, rfl, ?_⟩
    exact ((HB2.out.setCell (p := ⟨w2.heap.size, 0, none⟩) hle2 _).setCell (p := ⟨w.heap.size, 0, none⟩) (Nat.le_refl _) _).setCell (p := ⟨w.heap.size, 1, none⟩) (Nat.le_refl _) _
  have hb0 : (x == (0 : Int)) = false := by simpa using hx0
  by_cases hx1 : x = 1
  · subst hx1
    go_wp2_with fail
    obtain ⟨V4, hV4⟩ : ∃ W : World, W = w3.alloc (.cells #[.int .i64 (-1), .int .i64 100, .int .i64 1] 3) := ⟨_, rfl⟩
    have hbV4 : Below w3.heap.size w3 V4 := by rw [hV4]; exact (Below.refl _ _).alloc (Nat.le_refl _) _
    have hgV4 : Bk V4 w3.heap.size 3 (ints [-1, 100, 1]) := by rw [hV4]; exact Bk.new w3 _ (ints [-1, 100, 1])
    rw [← hV4]
    refine (one_any rb A' l' c' _ w3.heap.size 3 [-1, 100, 1] V4 (Bk.below Hr.out hbV4 (by omega)) (Hu.out.below hbV4 (by omega)) hl2 (by omega) hgV4 (by omega) (by decide) (by decide)).mono ?_
    rintro e w5 ⟨y, rfl, -, hrw5, hcw5⟩
    have hcc : Chg rb (rb + 1) w3 w5 := (Chg.of_below hbV4).trans hcw5
    have hb5 := (hcc.block w.heap.size (by omega) (.inl (by omega))).trans HbR.out
    have hb6 := (hcc.block w2.heap.size (by omega) (.inr (by omega))).trans HbX.out
    have HB2 := Lib.hid (hcc.below_ HB.out (by omega) (by omega))
    obtain ⟨u0, u1⟩ := bk2 hb5
    obtain ⟨u2, u3⟩ := bk2f hb5
    obtain ⟨x0, x1⟩ := bk2 hb6
    obtain ⟨x2, x3⟩ := bk2f hb6
    clear hV4 hbV4 hgV4 hrw5 hcw5 hb5 hb6 hcc r0 r1 r2 r3 y0 y1 y2 y3
    go_wp2_with fail
    refine bodyPost_ret (v := .agg #[.int .i64 k, .int .i64 y]) (by simp [results, Try.results52, go_sem, u0, u1]) rfl ⟨⟨k, y⟩, rfl, ?_⟩
    exact ((HB2.out.setCell (p := ⟨w2.heap.size, 1, none⟩) hle2 _).setCell (p := ⟨w.heap.size, 0, none⟩) (Nat.le_refl _) _).setCell (p := ⟨w.heap.size, 1, none⟩) (Nat.le_refl _) _
  have hb1 : (x == (1 : Int)) = false := by simpa using hx1
  go_wp2_with fail
  refine bodyPost_ret (v := .agg #[.int .i64 k, .int .i64 v]) (by simp [results, Try.results52, go_sem, r0, r1]) rfl ⟨⟨k, v⟩, rfl, ?_⟩
  exact (HB.out.setCell (p := ⟨w.heap.size, 0, none⟩) (Nat.le_refl _) _).setCell (p := ⟨w.heap.size, 1, none⟩) (Nat.le_refl _) _

end Go.Proofs.Ytkkgpddpplokfaa
