/- Contracts: a node put on a pipe, told by the reference and by the program. -/
import Derived.Test.YtggaahblhdphaaaOrd
import Derived.Test.YtggaahblhdphaaaClone
import Derived.Deep.RegionHeld3
import Derived.Deep.AppendLies
namespace Go.Proofs.Ytggaahblhdphaaa
open Go.RowKit

/-- Whether the node can be put on the pipe. -/
def putOk (l : List Nd) (x : Nd) : Bool := pipeOk l && ((arity x.k == 1) && (numsOk x && !(l.length == 12)))

/-- A node put on a pipe. -/
structure PutOf (l : List Nd) (x : Nd) (q : List Nd) (ok : Bool) : Prop where
  no : putOk l x = false → q = [] ∧ ok = false
  yes : putOk l x = true → q = l ++ [⟨x.k, (l.length : Int) - 1, -1, x.n, x.m⟩] ∧ ok = true

theorem known_of {k : Int} (h : (arity k == 1) = true) : known k = true := by
  rcases kinds k with (rfl | rfl | rfl | rfl | rfl | rfl | rfl | rfl | rfl | rfl | rfl | rfl | rfl | rfl) | ⟨e0, e1, e2, e3, e4, e5, e6, e7, e8, e9, e10, e11, e12, e13⟩
  all_goals first | rfl | exact absurd h (by decide) | (simp only [arity, e0, e1, e2, e3, e4, e5, e6, e7, e8, e9, e10, e11, e12, e13] at h; exact absurd h (by decide))

theorem Bk.drew_ {w : World} {g : Nat} {t : TypeId} {cs : List Value} (h : Bk w g t cs) : Bk w.drew g t cs := h

theorem arity_vals (k : Int) : arity k = 1 ∨ arity k = 0 ∨ arity k = 2 ∨ arity k = -1 := by
  unfold arity
  split
  · simp
  · split
    · simp
    · split <;> simp

set_option maxRecDepth 100000 in
set_option maxHeartbeats 3200000 in
theorem specPutOn_any (A : Option Addr) (c : Nat) (l : List Nd) (x : Nd) (w : World) (B : Nat) (q : List Nd) (ok : Bool) (hq : Hid (PutOf l x q ok)) (h : RdN w B A l) (hB : B ≤ w.heap.size) (hn : l.length ≤ 1048576) :
    Calls Try.prog 50 #[.agg #[.slice A l.length c], .agg #[.int .i64 x.k, .int .i64 x.a, .int .i64 x.b, .int .i64 x.n, .int .i64 x.m]] w fun e w' => ∃ A' c', e = .returned (.tuple #[.agg #[.slice A' q.length c'], .bool ok]) ∧ OwnN w' w.heap.size A' c' q ∧ Below w.heap.size w w' := by
  obtain ⟨W0, hW0⟩ : ∃ W0 : World, W0 = ((w.alloc (.cells #[.slice A l.length c] 34)).alloc (.cells #[.int .i64 x.k, .int .i64 x.a, .int .i64 x.b, .int .i64 x.n, .int .i64 x.m] 59)).alloc (.cells #[.slice none 0 0] 34) := ⟨_, rfl⟩
  have hb0 : Below w.heap.size w W0 := by rw [hW0]; exact (((Below.refl w.heap.size w).alloc (Nat.le_refl _) _).alloc (by simp) _).alloc (by simp; omega) _
  have hx0 : Bk W0 w.heap.size 34 [.slice A l.length c] := by rw [hW0]; exact ((Bk.new _ _ [_]).alloc _).alloc _
  have hn0 : Bk W0 (w.heap.size + 1) 59 [.int .i64 x.k, .int .i64 x.a, .int .i64 x.b, .int .i64 x.n, .int .i64 x.m] := by
    rw [hW0]
    have := (Bk.new (w.alloc (.cells #[.slice A l.length c] 34)) 59 [.int .i64 x.k, .int .i64 x.a, .int .i64 x.b, .int .i64 x.n, .int .i64 x.m]).alloc (.cells #[.slice none 0 0] 34)
    simpa using this
  have hr0 : Bk W0 (w.heap.size + 2) 34 [.slice none 0 0] := by
    rw [hW0]
    have := Bk.new ((w.alloc (.cells #[.slice A l.length c] 34)).alloc (.cells #[.int .i64 x.k, .int .i64 x.a, .int .i64 x.b, .int .i64 x.n, .int .i64 x.m] 59)) 34 [.slice none 0 0]
    have hs : ((w.alloc (.cells #[.slice A l.length c] 34)).alloc (.cells #[.int .i64 x.k, .int .i64 x.a, .int .i64 x.b, .int .i64 x.n, .int .i64 x.m] 59)).heap.size = w.heap.size + 2 := by simp
    rw [hs] at this
    exact this
  have H0 := Lib.hid (h.below hb0 hB)
  have Hb0 := Lib.hid hb0
  have Hx0 := Lib.hid hx0
  have Hn0 := Lib.hid hn0
  have Hr0 := Lib.hid hr0
  have HW0 := Lib.hid hW0
  have hz0 := hb0.size
  clear h hb0 hx0 hr0 hW0 hn0
  go_enter Try.func50, Try.ntmps50
  go_wp2_with fail
  rw [← HW0.out]
  refine (specvalidPipe_any A c l W0 B H0.out (by omega) hn).mono ?_
  rintro e w1 ⟨rfl, hb1⟩
  have Hb1 := Lib.hid (Hb0.out.trans (hb1.mono hz0))
  have Hx1 := Lib.hid (Hx0.out.below hb1 Hx0.out.lt)
  have Hn1 := Lib.hid (Hn0.out.below hb1 Hn0.out.lt)
  have Hr1 := Lib.hid (Hr0.out.below hb1 Hr0.out.lt)
  have H1 := Lib.hid (H0.out.below hb1 (by omega))
  have hc1 : w1.cell? ⟨w.heap.size, 0, none⟩ = some (.slice A l.length c) := Hx1.out.cell 0
  have n0 : w1.cell? ⟨w.heap.size + 1, 0, none⟩ = some (.int .i64 x.k) := Hn1.out.cell 0
  have n1 : w1.cell? ⟨w.heap.size + 1, 1, none⟩ = some (.int .i64 x.a) := Hn1.out.cell 1
  have n2 : w1.cell? ⟨w.heap.size + 1, 2, none⟩ = some (.int .i64 x.b) := Hn1.out.cell 2
  have n3 : w1.cell? ⟨w.heap.size + 1, 3, none⟩ = some (.int .i64 x.n) := Hn1.out.cell 3
  have n4 : w1.cell? ⟨w.heap.size + 1, 4, none⟩ = some (.int .i64 x.m) := Hn1.out.cell 4
  have d1 : w1.cell? ⟨w.heap.size + 2, 0, none⟩ = some (.slice none 0 0) := Hr1.out.cell 0
  have f1 := Hr1.out.free 0
  have hz1 := Hb1.out.size
  clear hb1 HW0
  cases hv : pipeOk l
  · obtain ⟨rfl, rfl⟩ := hq.out.no (by rw [putOk, hv]; rfl)
    have Hv := Lib.hid hv
    clear hv
    go_wp2_with fail
    refine bodyPost_ret (v := .tuple #[.agg #[.slice none 0 0], .bool false]) (by simp [results, Try.results50, go_sem, d1]) rfl ⟨none, 0, rfl, own_nil _ _, ?_⟩
    exact Hb1.out.setCell (p := ⟨w.heap.size + 2, 0, none⟩) (by simp) _
  have hlo := low_of hv
  have hhi := high_of hv
  have Hv := Lib.hid hv
  clear hv
  rcases arity_vals x.k with ha | ha | ha | ha
  rotate_left
  iterate 3
    · obtain ⟨rfl, rfl⟩ := hq.out.no (by simp [putOk, ha])
      have Ha := Lib.hid ha
      clear ha
      go_wp2_with (go_at_call 71; refine (arity_any _ _).mono ?_; rintro e w2 ⟨rfl, rfl⟩; rw [Ha.out])
      refine bodyPost_ret (v := .tuple #[.agg #[.slice none 0 0], .bool false]) (by simp [results, Try.results50, go_sem, d1]) rfl ⟨none, 0, rfl, own_nil _ _, ?_⟩
      exact Hb1.out.setCell (p := ⟨w.heap.size + 2, 0, none⟩) (by simp) _
  cases hk : numsOk x
  · obtain ⟨rfl, rfl⟩ := hq.out.no (by simp [putOk, hk])
    have Hk := Lib.hid hk
    have Ha := Lib.hid ha
    clear hk ha
    go_wp2_with (go_at_call 71; refine (arity_any _ _).mono ?_; rintro e w2 ⟨rfl, rfl⟩; rw [Ha.out])
    refine (specNums_any x _).mono ?_
    rintro e w2 ⟨rfl, hb2⟩
    rw [Hk.out]
    have d2 : w2.cell? ⟨w.heap.size + 2, 0, none⟩ = some (.slice none 0 0) := (Hr1.out.below hb2 Hr1.out.lt).cell 0
    have f2 := (Hr1.out.below hb2 Hr1.out.lt).free 0
    have Hb2 := Lib.hid (Hb1.out.trans (hb2.mono hz1))
    clear hb2 d1 f1 hc1
    go_wp2_with fail
    refine bodyPost_ret (v := .tuple #[.agg #[.slice none 0 0], .bool false]) (by simp [results, Try.results50, go_sem, d2]) rfl ⟨none, 0, rfl, own_nil _ _, ?_⟩
    exact Hb2.out.setCell (p := ⟨w.heap.size + 2, 0, none⟩) (by simp) _
  by_cases h12 : l.length = 12
  · obtain ⟨rfl, rfl⟩ := hq.out.no (by simp [putOk, h12])
    have Hk := Lib.hid hk
    have Ha := Lib.hid ha
    clear hk ha
    have i12 : (l.length : Int) = 12 := by omega
    go_wp2_with (go_at_call 71; refine (arity_any _ _).mono ?_; rintro e w2 ⟨rfl, rfl⟩; rw [Ha.out])
    refine (specNums_any x _).mono ?_
    rintro e w2 ⟨rfl, hb2⟩
    rw [Hk.out]
    have d2 : w2.cell? ⟨w.heap.size + 2, 0, none⟩ = some (.slice none 0 0) := (Hr1.out.below hb2 Hr1.out.lt).cell 0
    have f2 := (Hr1.out.below hb2 Hr1.out.lt).free 0
    have hc2 : w2.cell? ⟨w.heap.size, 0, none⟩ = some (.slice A l.length c) := (Hx1.out.below hb2 Hx1.out.lt).cell 0
    have Hb2 := Lib.hid (Hb1.out.trans (hb2.mono hz1))
    clear hb2 d1 f1 hc1
    go_wp2_with fail
    refine bodyPost_ret (v := .tuple #[.agg #[.slice none 0 0], .bool false]) (by simp [results, Try.results50, go_sem, d2]) rfl ⟨none, 0, rfl, own_nil _ _, ?_⟩
    exact Hb2.out.setCell (p := ⟨w.heap.size + 2, 0, none⟩) (by simp) _
  obtain ⟨hqq, rfl⟩ := hq.out.yes (by simp [putOk, Hv.out, ha, hk, h12])
  have hql : q.length = l.length + 1 := by rw [hqq]; simp
  have Hqq := Lib.hid hqq
  have Hql := Lib.hid hql
  have Hk := Lib.hid hk
  have Ha := Lib.hid ha
  clear hk ha hqq hql hq
  have i12 : (l.length : Int) ≠ 12 := by omega
  go_wp2_with (go_at_call 71; refine (arity_any _ _).mono ?_; rintro e w2 ⟨rfl, rfl⟩; rw [Ha.out])
  refine (specNums_any x _).mono ?_
  rintro e w2 ⟨rfl, hb2⟩
  rw [Hk.out]
  have hn2 := Hn1.out.below hb2 Hn1.out.lt
  have hc2 : w2.cell? ⟨w.heap.size, 0, none⟩ = some (.slice A l.length c) := (Hx1.out.below hb2 Hx1.out.lt).cell 0
  have n0 : w2.cell? ⟨w.heap.size + 1, 0, none⟩ = some (.int .i64 x.k) := hn2.cell 0
  have n1 : w2.cell? ⟨w.heap.size + 1, 1, none⟩ = some (.int .i64 x.a) := hn2.cell 1
  have n2 : w2.cell? ⟨w.heap.size + 1, 2, none⟩ = some (.int .i64 x.b) := hn2.cell 2
  have n3 : w2.cell? ⟨w.heap.size + 1, 3, none⟩ = some (.int .i64 x.n) := hn2.cell 3
  have n4 : w2.cell? ⟨w.heap.size + 1, 4, none⟩ = some (.int .i64 x.m) := hn2.cell 4
  have g1 := hn2.free 1
  have g2 := hn2.free 2
  obtain ⟨W3, hW3⟩ : ∃ W3 : World, W3 = (w2.setCell ⟨w.heap.size + 1, 1, none⟩ (.int .i64 ((l.length : Int) - 1))).setCell ⟨w.heap.size + 1, 2, none⟩ (.int .i64 (-1)) := ⟨_, rfl⟩
  have hn3 : Bk W3 (w.heap.size + 1) 59 [.int .i64 x.k, .int .i64 ((l.length : Int) - 1), .int .i64 (-1), .int .i64 x.n, .int .i64 x.m] := by rw [hW3]; exact (hn2.set_ 1 _).set_ 2 _
  have hb02 := Hb1.out.trans (hb2.mono hz1)
  have hb3 : Below w.heap.size w W3 := by rw [hW3]; exact (hb02.setCell (p := ⟨w.heap.size + 1, 1, none⟩) (by simp) _).setCell (p := ⟨w.heap.size + 1, 2, none⟩) (by simp) _
  have hr3 : Bk W3 (w.heap.size + 2) 34 [.slice none 0 0] := by rw [hW3]; exact ((Hr1.out.below hb2 Hr1.out.lt).far (by simp) _).far (by simp) _
  have hrd3 : RdN W3 B A l := by rw [hW3]; exact (H1.out.below hb2 (by omega)).below (((Below.refl w.heap.size w2).setCell (p := ⟨w.heap.size + 1, 1, none⟩) (by simp) _).setCell (p := ⟨w.heap.size + 1, 2, none⟩) (by simp) _) hB
  have hz3 := hb3.size
  have Hn3 := Lib.hid hn3
  have Hb3 := Lib.hid hb3
  have hx30 : Bk W3 w.heap.size 34 [.slice A l.length c] := by rw [hW3]; exact ((Hx1.out.below hb2 Hx1.out.lt).far (by simp) _).far (by simp) _
  have Hx3 := Lib.hid hx30
  have Hr3 := Lib.hid hr3
  have Hd3 := Lib.hid hrd3
  have HW3 := Lib.hid hW3
  clear hb2 hn2 hb02 hn3 hb3 hr3 hrd3 hW3 hc1 d1 f1 hx30
  go_wp2_with fail
  rw [← HW3.out]
  obtain ⟨b, o, rfl, hbB, hcc⟩ := Hd3.out (by omega)
  have hll : 0 < l.length := by omega
  have HR : Hid (∀ W' : World, Below W3.heap.size W3 W' → ∀ (j : Nat) (u : Value), (nds l)[j]? = some u → W'.cell? ((⟨b, o, none⟩ : Addr).add j) = some u) := Lib.hid (fun W' hb j u hj => by rw [hb.cell (by rw [add_block]; show b < _; omega)]; exact rd_flat hcc j u hj)
  have hx3 := Hx3.out
  have hcA : W3.cell? ⟨w.heap.size, 0, none⟩ = some (.slice (some ⟨b, o, none⟩) l.length c) := hx3.cell 0
  have m0 : W3.cell? ⟨w.heap.size + 1, 0, none⟩ = some (.int .i64 x.k) := Hn3.out.cell 0
  have m1 : W3.cell? ⟨w.heap.size + 1, 1, none⟩ = some (.int .i64 ((l.length : Int) - 1)) := Hn3.out.cell 1
  have m2 : W3.cell? ⟨w.heap.size + 1, 2, none⟩ = some (.int .i64 (-1)) := Hn3.out.cell 2
  have m3 : W3.cell? ⟨w.heap.size + 1, 3, none⟩ = some (.int .i64 x.n) := Hn3.out.cell 3
  have m4 : W3.cell? ⟨w.heap.size + 1, 4, none⟩ = some (.int .i64 x.m) := Hn3.out.cell 4
  have hs3 : w.heap.size + 2 < W3.heap.size := Hr3.out.lt
  have d3 : W3.cell? ⟨w.heap.size + 2, 0, none⟩ = some (.slice none 0 0) := Hr3.out.cell 0
  have f3 := Hr3.out.free 0
  obtain ⟨i0, hi0, hz0, hz1, hz2⟩ := info_parts Try.infoNode
  have Hi0 := Lib.hid hi0
  have Hz0 := Lib.hid hz0
  have Hz1 := Lib.hid hz1
  have Hz2 := Lib.hid hz2
  have Hcc := Lib.hid hcc
  clear hi0 hz0 hz1 hz2 hcc hx3 hc2 n0 n1 n2 n3 n4 g1 g2 HW3
  have HS : Hid (∀ W' : World, Below W3.heap.size W3 W' → W'.cell? ⟨w.heap.size, 0, none⟩ = some (.slice (some ⟨b, o, none⟩) l.length c) ∧ W'.cell? ⟨w.heap.size + 1, 0, none⟩ = some (.int .i64 x.k) ∧ W'.cell? ⟨w.heap.size + 1, 1, none⟩ = some (.int .i64 ((l.length : Int) - 1)) ∧ W'.cell? ⟨w.heap.size + 1, 2, none⟩ = some (.int .i64 (-1)) ∧ W'.cell? ⟨w.heap.size + 1, 3, none⟩ = some (.int .i64 x.n) ∧ W'.cell? ⟨w.heap.size + 1, 4, none⟩ = some (.int .i64 x.m)) := Lib.hid (fun W' hb => ⟨(Hx3.out.below hb Hx3.out.lt).cell 0, (Hn3.out.below hb Hn3.out.lt).cell 0, (Hn3.out.below hb Hn3.out.lt).cell 1, (Hn3.out.below hb Hn3.out.lt).cell 2, (Hn3.out.below hb Hn3.out.lt).cell 3, (Hn3.out.below hb Hn3.out.lt).cell 4⟩)
  have HD : Hid (∀ W' : World, Below W3.heap.size W3 W' → W'.cell? ⟨w.heap.size + 2, 0, none⟩ = some (.slice none 0 0) ∧ W'.frozen? ⟨w.heap.size + 2, 0, none⟩ = false) := Lib.hid (fun W' hb => ⟨(Hr3.out.below hb Hr3.out.lt).cell 0, (Hr3.out.below hb Hr3.out.lt).free 0⟩)
  have hne2 : w.heap.size + 1 + 1 ≠ w.heap.size := by omega
  have hne3 : w.heap.size + 2 ≠ w.heap.size := by omega
  go_region_held3 (fun w' => w'.cell? ⟨w.heap.size, 0, none⟩ = some (.slice (some ⟨b, o, none⟩) l.length c) ∧ w'.cell? ⟨w.heap.size + 1, 0, none⟩ = some (.int .i64 x.k) ∧ w'.cell? ⟨w.heap.size + 1, 1, none⟩ = some (.int .i64 ((l.length : Int) - 1)) ∧ w'.cell? ⟨w.heap.size + 1, 2, none⟩ = some (.int .i64 (-1)) ∧ w'.cell? ⟨w.heap.size + 1, 3, none⟩ = some (.int .i64 x.n) ∧ w'.cell? ⟨w.heap.size + 1, 4, none⟩ = some (.int .i64 x.m))
    (go_keep)
    (first
      | (
        refine step_append_lies _ (by rfl) _ _ _ (by rfl) w.heap.size 59 i0 _ 5 40 Try.underlying32 Hi0.out Hz0.out Hz1.out Hz2.out rfl (by decide) (.slice (some ⟨g, 0, none⟩) _ cap) l.length (nds l) (by rfl) (by first | simpa using Hown1.out | simpa using Hown1.out.alloc _) ⟨_, 0, none⟩ 1 1 (nds [⟨x.k, (l.length : Int) - 1, -1, x.n, x.m⟩]) (by rfl) (by rfl) (by first | exact (fun j u hj => by rw [add_zero_row, q5.cell]; exact hj) | exact five_at w5 ⟨x.k, (l.length : Int) - 1, -1, x.n, x.m⟩ _) (nds_one _) (by decide) (by unfold maxLen; omega) (by omega) (by first | omega | (simp; omega)) _ rfl ?_
        intro g' cap' w6 hown2 hgrow2 hat2 hlt2
        have hb6 : Below W3.heap.size W3 w6 := by first | exact Below.grown Hb5.out hgrow2 hz5 (fun k hk => by cases hk; exact hgW) | exact Below.grown (Hb5.out.alloc hz5 _) hgrow2 (by simp; omega) (fun k hk => by cases hk; exact hgW)
        have hgW2 : W3.heap.size ≤ g' := hat2.elim (fun e => by cases e; exact hgW) (fun e => by rw [e]; first | exact hz5 | (simp; omega))
        have ks6 := HS.out _ hb6
        obtain ⟨d6, f6⟩ := HD.out _ hb6
        have Hb6 := Lib.hid hb6
        have Hown2 := Lib.hid hown2
        clear hb6 hown2 hgrow2 hat2 hlt2)
      | (
        refine step_append_lies _ (by rfl) _ _ _ (by rfl) w.heap.size 59 i0 _ 5 40 Try.underlying32 Hi0.out Hz0.out Hz1.out Hz2.out rfl (by decide) (.slice (some ⟨_, 0, none⟩) 0 0) 0 [] (by rfl) (by first | exact (own_empty W3).base_ hz3 | exact ((own_empty W3).below ((Below.refl _ _).alloc (Nat.le_refl _) _) (Nat.le_refl _)).base_ hz3 | (have hh := (own_empty (W3.alloc (.cells #[.int .i64 x.k, .int .i64 ((l.length : Int) - 1), .int .i64 (-1), .int .i64 x.n, .int .i64 x.m] 59))).base_ (b2 := w.heap.size) (by simp; omega); have he : (W3.alloc (.cells #[.int .i64 x.k, .int .i64 ((l.length : Int) - 1), .int .i64 (-1), .int .i64 x.n, .int .i64 x.m] 59)).heap.size = W3.heap.size + 1 := (by simp); rw [he] at hh; exact hh)) ⟨b, o, none⟩ l.length c (nds l) (by rfl) (nds_len l) (by first | exact HR.out _ (((Below.refl _ _).alloc (Nat.le_refl _) _).drew) | exact HR.out _ ((((Below.refl _ _).alloc (Nat.le_refl _) _).alloc (by simp) _).drew)) (nds_one l) hll (by unfold maxLen; omega) (by omega) (by simp; omega) _ rfl ?_
        intro g cap w5 hown1 hgrow hat hlt
        have hb5 : Below W3.heap.size W3 w5 := by first | exact Below.grown (((Below.refl _ _).alloc (Nat.le_refl _) _).drew) hgrow (by simp) (fun k hk => by cases hk; first | exact Nat.le_refl _ | (simp; done) | (simp; omega)) | exact Below.grown ((((Below.refl _ _).alloc (Nat.le_refl _) _).alloc (by simp) _).drew) hgrow (by simp; omega) (fun k hk => by cases hk; first | exact Nat.le_refl _ | (simp; done) | (simp; omega))
        have hgW : W3.heap.size ≤ g := hat.elim (fun e => by cases e; first | exact Nat.le_refl _ | (simp; done) | (simp; omega)) (fun e => by rw [e]; first | (simp; done) | (simp; omega))
        have hz5 := hb5.size
        have ks := HS.out _ hb5
        first | have q5 : Bk w5 (W3.heap.size + 1) 59 [.int .i64 x.k, .int .i64 ((l.length : Int) - 1), .int .i64 (-1), .int .i64 x.n, .int .i64 x.m] := (by have hh := (Bk.drew_ (Bk.new (W3.alloc (.cells #[] 59)) 59 [.int .i64 x.k, .int .i64 ((l.length : Int) - 1), .int .i64 (-1), .int .i64 x.n, .int .i64 x.m])).grown hgrow (by intro e; cases e; done); simpa using hh) | have q5 : Bk w5 (W3.heap.size + 1) 59 [.int .i64 x.k, .int .i64 ((l.length : Int) - 1), .int .i64 (-1), .int .i64 x.n, .int .i64 x.m] := (by have hh := (Bk.drew_ (Bk.new (W3.alloc (.cells #[] 59)) 59 [.int .i64 x.k, .int .i64 ((l.length : Int) - 1), .int .i64 (-1), .int .i64 x.n, .int .i64 x.m])).grown hgrow (by intro e; have e2 := Option.some.inj e; simp at e2); simpa using hh) | have q5 : Bk w5 W3.heap.size 59 [.int .i64 x.k, .int .i64 ((l.length : Int) - 1), .int .i64 (-1), .int .i64 x.n, .int .i64 x.m] := (Bk.drew_ ((Bk.new W3 59 [.int .i64 x.k, .int .i64 ((l.length : Int) - 1), .int .i64 (-1), .int .i64 x.n, .int .i64 x.m]).alloc (.cells #[] 59))).grown hgrow (by intro e; have e2 := Option.some.inj e; simp at e2) | skip
        have Hb5 := Lib.hid hb5
        have Hown1 := Lib.hid hown1
        clear hb5 hown1 hgrow hat hlt))
  all_goals
    go_wp2_with fail
    have ho : OwnN w6 w.heap.size (some ⟨g', 0, none⟩) cap' q := by unfold OwnN; rw [Hql.out, Hqq.out, nds_append]; exact Hown2.out
    refine bodyPost_ret (v := .tuple #[.agg #[.slice (some ⟨g', 0, none⟩) (l.length + 1) cap'], .bool true]) (by simp [results, Try.results50, go_sem, d6]) rfl ⟨some ⟨g', 0, none⟩, cap', by rw [Hql.out], ?_, ?_⟩
    · exact ho.grown (grown_one (World.grownBy.refl w6 (some (w.heap.size + 1 + 1))) 0 _) (.inr (by simp [rowOf]; omega))
    · exact (Hb3.out.trans (Hb6.out.mono hz3)).setCell (p := ⟨w.heap.size + 1 + 1, 0, none⟩) (by simp; omega) _

set_option maxRecDepth 100000 in
set_option maxHeartbeats 3200000 in
theorem implPutOn_any (A : Option Addr) (c : Nat) (l : List Nd) (x : Nd) (w : World) (B : Nat) (q : List Nd) (ok : Bool) (hq : Hid (PutOf l x q ok)) (h : RdN w B A l) (hB : B ≤ w.heap.size) (hn : l.length ≤ 1048576) :
    Calls Try.prog 52 #[.agg #[.slice A l.length c], .agg #[.int .i64 x.k, .int .i64 x.a, .int .i64 x.b, .int .i64 x.n, .int .i64 x.m]] w fun e w' => ∃ A' c', e = .returned (.tuple #[.agg #[.slice A' q.length c'], .bool ok]) ∧ OwnN w' w.heap.size A' c' q ∧ Below w.heap.size w w' := by
  obtain ⟨W0, hW0⟩ : ∃ W0 : World, W0 = ((w.alloc (.cells #[.slice A l.length c] 34)).alloc (.cells #[.int .i64 x.k, .int .i64 x.a, .int .i64 x.b, .int .i64 x.n, .int .i64 x.m] 59)).alloc (.cells #[.slice none 0 0] 34) := ⟨_, rfl⟩
  have hb0 : Below w.heap.size w W0 := by rw [hW0]; exact (((Below.refl w.heap.size w).alloc (Nat.le_refl _) _).alloc (by simp) _).alloc (by simp; omega) _
  have hx0 : Bk W0 w.heap.size 34 [.slice A l.length c] := by rw [hW0]; exact ((Bk.new _ _ [_]).alloc _).alloc _
  have hn0 : Bk W0 (w.heap.size + 1) 59 [.int .i64 x.k, .int .i64 x.a, .int .i64 x.b, .int .i64 x.n, .int .i64 x.m] := by
    rw [hW0]
    have := (Bk.new (w.alloc (.cells #[.slice A l.length c] 34)) 59 [.int .i64 x.k, .int .i64 x.a, .int .i64 x.b, .int .i64 x.n, .int .i64 x.m]).alloc (.cells #[.slice none 0 0] 34)
    simpa using this
  have hr0 : Bk W0 (w.heap.size + 2) 34 [.slice none 0 0] := by
    rw [hW0]
    have := Bk.new ((w.alloc (.cells #[.slice A l.length c] 34)).alloc (.cells #[.int .i64 x.k, .int .i64 x.a, .int .i64 x.b, .int .i64 x.n, .int .i64 x.m] 59)) 34 [.slice none 0 0]
    have hs : ((w.alloc (.cells #[.slice A l.length c] 34)).alloc (.cells #[.int .i64 x.k, .int .i64 x.a, .int .i64 x.b, .int .i64 x.n, .int .i64 x.m] 59)).heap.size = w.heap.size + 2 := by simp
    rw [hs] at this
    exact this
  have H0 := Lib.hid (h.below hb0 hB)
  have Hb0 := Lib.hid hb0
  have Hx0 := Lib.hid hx0
  have Hn0 := Lib.hid hn0
  have Hr0 := Lib.hid hr0
  have HW0 := Lib.hid hW0
  have hz0 := hb0.size
  clear h hb0 hx0 hr0 hW0 hn0
  go_enter Try.func52, Try.ntmps52
  go_wp2_with fail
  rw [← HW0.out]
  refine (implValidPipe_any A c l W0 B H0.out (by omega) hn).mono ?_
  rintro e w1 ⟨rfl, hb1⟩
  have Hb1 := Lib.hid (Hb0.out.trans (hb1.mono hz0))
  have Hx1 := Lib.hid (Hx0.out.below hb1 Hx0.out.lt)
  have Hn1 := Lib.hid (Hn0.out.below hb1 Hn0.out.lt)
  have Hr1 := Lib.hid (Hr0.out.below hb1 Hr0.out.lt)
  have H1 := Lib.hid (H0.out.below hb1 (by omega))
  have hc1 : w1.cell? ⟨w.heap.size, 0, none⟩ = some (.slice A l.length c) := Hx1.out.cell 0
  have n0 : w1.cell? ⟨w.heap.size + 1, 0, none⟩ = some (.int .i64 x.k) := Hn1.out.cell 0
  have n1 : w1.cell? ⟨w.heap.size + 1, 1, none⟩ = some (.int .i64 x.a) := Hn1.out.cell 1
  have n2 : w1.cell? ⟨w.heap.size + 1, 2, none⟩ = some (.int .i64 x.b) := Hn1.out.cell 2
  have n3 : w1.cell? ⟨w.heap.size + 1, 3, none⟩ = some (.int .i64 x.n) := Hn1.out.cell 3
  have n4 : w1.cell? ⟨w.heap.size + 1, 4, none⟩ = some (.int .i64 x.m) := Hn1.out.cell 4
  have d1 : w1.cell? ⟨w.heap.size + 2, 0, none⟩ = some (.slice none 0 0) := Hr1.out.cell 0
  have f1 := Hr1.out.free 0
  have hz1 := Hb1.out.size
  clear hb1 HW0
  cases hv : pipeOk l
  · obtain ⟨rfl, rfl⟩ := hq.out.no (by rw [putOk, hv]; rfl)
    have Hv := Lib.hid hv
    clear hv
    go_wp2_with fail
    refine bodyPost_ret (v := .tuple #[.agg #[.slice none 0 0], .bool false]) (by simp [results, Try.results52, go_sem, d1]) rfl ⟨none, 0, rfl, own_nil _ _, ?_⟩
    exact Hb1.out.setCell (p := ⟨w.heap.size + 2, 0, none⟩) (by simp) _
  have hlo := low_of hv
  have hhi := high_of hv
  have Hv := Lib.hid hv
  clear hv
  rcases arity_vals x.k with ha | ha | ha | ha
  rotate_left
  iterate 3
    · obtain ⟨rfl, rfl⟩ := hq.out.no (by simp [putOk, ha])
      have Ha := Lib.hid ha
      clear ha
      go_wp2_with (go_at_call 72; refine (nodesBelow_any _ _).mono ?_; rintro e w2 ⟨rfl, rfl⟩; rw [Ha.out])
      refine bodyPost_ret (v := .tuple #[.agg #[.slice none 0 0], .bool false]) (by simp [results, Try.results52, go_sem, d1]) rfl ⟨none, 0, rfl, own_nil _ _, ?_⟩
      exact Hb1.out.setCell (p := ⟨w.heap.size + 2, 0, none⟩) (by simp) _
  cases hk : numsOk x
  · obtain ⟨rfl, rfl⟩ := hq.out.no (by simp [putOk, hk])
    have hk' : (numsOk x && known x.k) = false := by rw [hk]; rfl
    have Hk := Lib.hid hk'
    have Ha := Lib.hid ha
    clear hk hk' ha
    go_wp2_with (go_at_call 72; refine (nodesBelow_any _ _).mono ?_; rintro e w2 ⟨rfl, rfl⟩; rw [Ha.out])
    refine (implNums_any x _).mono ?_
    rintro e w2 ⟨rfl, hb2⟩
    rw [Hk.out]
    have d2 : w2.cell? ⟨w.heap.size + 2, 0, none⟩ = some (.slice none 0 0) := (Hr1.out.below hb2 Hr1.out.lt).cell 0
    have f2 := (Hr1.out.below hb2 Hr1.out.lt).free 0
    have Hb2 := Lib.hid (Hb1.out.trans (hb2.mono hz1))
    clear hb2 d1 f1 hc1
    go_wp2_with fail
    refine bodyPost_ret (v := .tuple #[.agg #[.slice none 0 0], .bool false]) (by simp [results, Try.results52, go_sem, d2]) rfl ⟨none, 0, rfl, own_nil _ _, ?_⟩
    exact Hb2.out.setCell (p := ⟨w.heap.size + 2, 0, none⟩) (by simp) _
  by_cases h12 : l.length = 12
  · obtain ⟨rfl, rfl⟩ := hq.out.no (by simp [putOk, h12])
    have hk' : (numsOk x && known x.k) = true := by rw [hk, known_of (by rw [ha]; rfl)]; rfl
    have Hk := Lib.hid hk'
    have Ha := Lib.hid ha
    clear hk hk' ha
    have i12 : (12 : Int) < (l.length : Int) + 1 := by omega
    go_wp2_with (go_at_call 72; refine (nodesBelow_any _ _).mono ?_; rintro e w2 ⟨rfl, rfl⟩; rw [Ha.out])
    refine (implNums_any x _).mono ?_
    rintro e w2 ⟨rfl, hb2⟩
    rw [Hk.out]
    have d2 : w2.cell? ⟨w.heap.size + 2, 0, none⟩ = some (.slice none 0 0) := (Hr1.out.below hb2 Hr1.out.lt).cell 0
    have f2 := (Hr1.out.below hb2 Hr1.out.lt).free 0
    have hc2 : w2.cell? ⟨w.heap.size, 0, none⟩ = some (.slice A l.length c) := (Hx1.out.below hb2 Hx1.out.lt).cell 0
    have Hb2 := Lib.hid (Hb1.out.trans (hb2.mono hz1))
    clear hb2 d1 f1 hc1
    go_wp2_with fail
    refine bodyPost_ret (v := .tuple #[.agg #[.slice none 0 0], .bool false]) (by simp [results, Try.results52, go_sem, d2]) rfl ⟨none, 0, rfl, own_nil _ _, ?_⟩
    exact Hb2.out.setCell (p := ⟨w.heap.size + 2, 0, none⟩) (by simp) _
  obtain ⟨hqq, rfl⟩ := hq.out.yes (by simp [putOk, Hv.out, ha, hk, h12])
  have hql : q.length = l.length + 1 := by rw [hqq]; simp
  have Hqq := Lib.hid hqq
  have Hql := Lib.hid hql
  have hk' : (numsOk x && known x.k) = true := by rw [hk, known_of (by rw [ha]; rfl)]; rfl
  have Hk := Lib.hid hk'
  have Ha := Lib.hid ha
  clear hk hk' ha hqq hql hq
  have i12 : ¬ (12 : Int) < (l.length : Int) + 1 := by omega
  have i13 : (l.length : Int) + 1 ≤ 12 := by omega
  go_wp2_with (go_at_call 72; refine (nodesBelow_any _ _).mono ?_; rintro e w2 ⟨rfl, rfl⟩; rw [Ha.out])
  refine (implNums_any x _).mono ?_
  rintro e w2 ⟨rfl, hb2⟩
  rw [Hk.out]
  have hn2 := Hn1.out.below hb2 Hn1.out.lt
  have hc2 : w2.cell? ⟨w.heap.size, 0, none⟩ = some (.slice A l.length c) := (Hx1.out.below hb2 Hx1.out.lt).cell 0
  have n0 : w2.cell? ⟨w.heap.size + 1, 0, none⟩ = some (.int .i64 x.k) := hn2.cell 0
  have n1 : w2.cell? ⟨w.heap.size + 1, 1, none⟩ = some (.int .i64 x.a) := hn2.cell 1
  have n2 : w2.cell? ⟨w.heap.size + 1, 2, none⟩ = some (.int .i64 x.b) := hn2.cell 2
  have n3 : w2.cell? ⟨w.heap.size + 1, 3, none⟩ = some (.int .i64 x.n) := hn2.cell 3
  have n4 : w2.cell? ⟨w.heap.size + 1, 4, none⟩ = some (.int .i64 x.m) := hn2.cell 4
  have g1 := hn2.free 1
  have g2 := hn2.free 2
  obtain ⟨W3, hW3⟩ : ∃ W3 : World, W3 = (w2.setCell ⟨w.heap.size + 1, 1, none⟩ (.int .i64 ((l.length : Int) - 1))).setCell ⟨w.heap.size + 1, 2, none⟩ (.int .i64 (-1)) := ⟨_, rfl⟩
  have hn3 : Bk W3 (w.heap.size + 1) 59 [.int .i64 x.k, .int .i64 ((l.length : Int) - 1), .int .i64 (-1), .int .i64 x.n, .int .i64 x.m] := by rw [hW3]; exact (hn2.set_ 1 _).set_ 2 _
  have hb02 := Hb1.out.trans (hb2.mono hz1)
  have hb3 : Below w.heap.size w W3 := by rw [hW3]; exact (hb02.setCell (p := ⟨w.heap.size + 1, 1, none⟩) (by simp) _).setCell (p := ⟨w.heap.size + 1, 2, none⟩) (by simp) _
  have hr3 : Bk W3 (w.heap.size + 2) 34 [.slice none 0 0] := by rw [hW3]; exact ((Hr1.out.below hb2 Hr1.out.lt).far (by simp) _).far (by simp) _
  have hrd3 : RdN W3 B A l := by rw [hW3]; exact (H1.out.below hb2 (by omega)).below (((Below.refl w.heap.size w2).setCell (p := ⟨w.heap.size + 1, 1, none⟩) (by simp) _).setCell (p := ⟨w.heap.size + 1, 2, none⟩) (by simp) _) hB
  have hz3 := hb3.size
  have Hn3 := Lib.hid hn3
  have Hb3 := Lib.hid hb3
  have hx30 : Bk W3 w.heap.size 34 [.slice A l.length c] := by rw [hW3]; exact ((Hx1.out.below hb2 Hx1.out.lt).far (by simp) _).far (by simp) _
  have Hx3 := Lib.hid hx30
  have Hr3 := Lib.hid hr3
  have Hd3 := Lib.hid hrd3
  have HW3 := Lib.hid hW3
  clear hb2 hn2 hb02 hn3 hb3 hr3 hrd3 hW3 hc1 d1 f1 hx30
  go_wp2_with fail
  rw [← HW3.out]
  obtain ⟨b, o, rfl, hbB, hcc⟩ := Hd3.out (by omega)
  have hll : 0 < l.length := by omega
  have HR : Hid (∀ W' : World, Below W3.heap.size W3 W' → ∀ (j : Nat) (u : Value), (nds l)[j]? = some u → W'.cell? ((⟨b, o, none⟩ : Addr).add j) = some u) := Lib.hid (fun W' hb j u hj => by rw [hb.cell (by rw [add_block]; show b < _; omega)]; exact rd_flat hcc j u hj)
  have hx3 := Hx3.out
  have hcA : W3.cell? ⟨w.heap.size, 0, none⟩ = some (.slice (some ⟨b, o, none⟩) l.length c) := hx3.cell 0
  have m0 : W3.cell? ⟨w.heap.size + 1, 0, none⟩ = some (.int .i64 x.k) := Hn3.out.cell 0
  have m1 : W3.cell? ⟨w.heap.size + 1, 1, none⟩ = some (.int .i64 ((l.length : Int) - 1)) := Hn3.out.cell 1
  have m2 : W3.cell? ⟨w.heap.size + 1, 2, none⟩ = some (.int .i64 (-1)) := Hn3.out.cell 2
  have m3 : W3.cell? ⟨w.heap.size + 1, 3, none⟩ = some (.int .i64 x.n) := Hn3.out.cell 3
  have m4 : W3.cell? ⟨w.heap.size + 1, 4, none⟩ = some (.int .i64 x.m) := Hn3.out.cell 4
  have hs3 : w.heap.size + 2 < W3.heap.size := Hr3.out.lt
  have d3 : W3.cell? ⟨w.heap.size + 2, 0, none⟩ = some (.slice none 0 0) := Hr3.out.cell 0
  have f3 := Hr3.out.free 0
  obtain ⟨i0, hi0, hz0, hz1, hz2⟩ := info_parts Try.infoNode
  have HRd : Hid (∀ W' : World, Below W3.heap.size W3 W' → RdN W' B (some ⟨b, o, none⟩) l) := Lib.hid (fun W' hb => Hd3.out.below hb (by omega))
  have Hi0 := Lib.hid hi0
  have Hz0 := Lib.hid hz0
  have Hz1 := Lib.hid hz1
  have Hz2 := Lib.hid hz2
  have Hcc := Lib.hid hcc
  clear hi0 hz0 hz1 hz2 hcc hx3 hc2 n0 n1 n2 n3 n4 g1 g2 HW3
  have HS : Hid (∀ W' : World, Below W3.heap.size W3 W' → W'.cell? ⟨w.heap.size, 0, none⟩ = some (.slice (some ⟨b, o, none⟩) l.length c) ∧ W'.cell? ⟨w.heap.size + 1, 0, none⟩ = some (.int .i64 x.k) ∧ W'.cell? ⟨w.heap.size + 1, 1, none⟩ = some (.int .i64 ((l.length : Int) - 1)) ∧ W'.cell? ⟨w.heap.size + 1, 2, none⟩ = some (.int .i64 (-1)) ∧ W'.cell? ⟨w.heap.size + 1, 3, none⟩ = some (.int .i64 x.n) ∧ W'.cell? ⟨w.heap.size + 1, 4, none⟩ = some (.int .i64 x.m)) := Lib.hid (fun W' hb => ⟨(Hx3.out.below hb Hx3.out.lt).cell 0, (Hn3.out.below hb Hn3.out.lt).cell 0, (Hn3.out.below hb Hn3.out.lt).cell 1, (Hn3.out.below hb Hn3.out.lt).cell 2, (Hn3.out.below hb Hn3.out.lt).cell 3, (Hn3.out.below hb Hn3.out.lt).cell 4⟩)
  have HD : Hid (∀ W' : World, Below W3.heap.size W3 W' → W'.cell? ⟨w.heap.size + 2, 0, none⟩ = some (.slice none 0 0) ∧ W'.frozen? ⟨w.heap.size + 2, 0, none⟩ = false) := Lib.hid (fun W' hb => ⟨(Hr3.out.below hb Hr3.out.lt).cell 0, (Hr3.out.below hb Hr3.out.lt).free 0⟩)
  have hne2 : w.heap.size + 1 + 1 ≠ w.heap.size := by omega
  have hne3 : w.heap.size + 2 ≠ w.heap.size := by omega
  go_region_held3 (fun w' => w'.cell? ⟨w.heap.size, 0, none⟩ = some (.slice (some ⟨b, o, none⟩) l.length c) ∧ w'.cell? ⟨w.heap.size + 1, 0, none⟩ = some (.int .i64 x.k) ∧ w'.cell? ⟨w.heap.size + 1, 1, none⟩ = some (.int .i64 ((l.length : Int) - 1)) ∧ w'.cell? ⟨w.heap.size + 1, 2, none⟩ = some (.int .i64 (-1)) ∧ w'.cell? ⟨w.heap.size + 1, 3, none⟩ = some (.int .i64 x.n) ∧ w'.cell? ⟨w.heap.size + 1, 4, none⟩ = some (.int .i64 x.m))
    (go_keep)
    (first
      | (
        refine step_append_lies _ (by rfl) _ _ _ (by rfl) w.heap.size 59 i0 _ 5 40 Try.underlying32 Hi0.out Hz0.out Hz1.out Hz2.out rfl (by decide) (.slice (some ⟨g, 0, none⟩) _ cap) l.length (nds l) (by rfl) (by first | simpa using Hown1.out | simpa using Hown1.out.alloc _) ⟨_, 0, none⟩ 1 1 (nds [⟨x.k, (l.length : Int) - 1, -1, x.n, x.m⟩]) (by rfl) (by rfl) (by first | exact (fun j u hj => by rw [add_zero_row, q5.cell]; exact hj) | exact five_at w5 ⟨x.k, (l.length : Int) - 1, -1, x.n, x.m⟩ _) (nds_one _) (by decide) (by unfold maxLen; omega) (by omega) (by first | omega | (simp; omega)) _ rfl ?_
        intro g' cap' w6 hown2 hgrow2 hat2 hlt2
        have hb6 : Below W3.heap.size W3 w6 := by first | exact Below.grown Hb5.out hgrow2 hz5 (fun k hk => by cases hk; exact hgW) | exact Below.grown (Hb5.out.alloc hz5 _) hgrow2 (by simp; omega) (fun k hk => by cases hk; exact hgW)
        have hgW2 : W3.heap.size ≤ g' := hat2.elim (fun e => by cases e; exact hgW) (fun e => by rw [e]; first | exact hz5 | (simp; omega))
        have ks6 := HS.out _ hb6
        obtain ⟨d6, f6⟩ := HD.out _ hb6
        have Hb6 := Lib.hid hb6
        have Hown2 := Lib.hid hown2
        clear hb6 hown2 hgrow2 hat2 hlt2)
      | (
        go_at_call 81
        refine (cloneN_any _ c l _ B (by first | exact HRd.out _ ((Below.refl _ _).drew) | exact HRd.out _ (((Below.refl _ _).alloc (Nat.le_refl _) _).drew)) (by first | omega | (simp; omega)) hll (by omega)).mono ?_
        rintro e w5 ⟨A5, cap, rfl, ho5, hb50⟩
        obtain ⟨g, rfl, hgW0, hgl⟩ := ho5.form hll
        have hgW : W3.heap.size ≤ g := by first | exact hgW0 | (simp at hgW0; omega)
        have hb5 : Below W3.heap.size W3 w5 := by first | exact ((Below.refl W3.heap.size W3).drew).trans (hb50.mono (by simp)) | exact (((Below.refl _ _).alloc (Nat.le_refl _) _).drew).trans (hb50.mono (by simp))
        have hown1 : w5.ownsRow w.heap.size 59 5 (.slice (some ⟨g, 0, none⟩) l.length cap) l.length (nds l) := ho5.base_ (by first | exact hz3 | (simp; omega))
        have hz5 := hb5.size
        have ks := HS.out _ hb5
        first | have q5 : Bk w5 W3.heap.size 59 [.int .i64 x.k, .int .i64 ((l.length : Int) - 1), .int .i64 (-1), .int .i64 x.n, .int .i64 x.m] := ((Bk.drew_ (Bk.new W3 59 [.int .i64 x.k, .int .i64 ((l.length : Int) - 1), .int .i64 (-1), .int .i64 x.n, .int .i64 x.m])).below hb50 (by simp)) | skip
        have Hb5 := Lib.hid hb5
        have Hown1 := Lib.hid hown1
        clear hb5 hown1 hb50 ho5))
  all_goals
    go_wp2_with fail
    have ho : OwnN w6 w.heap.size (some ⟨g', 0, none⟩) cap' q := by unfold OwnN; rw [Hql.out, Hqq.out, nds_append]; exact Hown2.out
    refine bodyPost_ret (v := .tuple #[.agg #[.slice (some ⟨g', 0, none⟩) (l.length + 1) cap'], .bool true]) (by simp [results, Try.results52, go_sem, d6]) rfl ⟨some ⟨g', 0, none⟩, cap', by rw [Hql.out], ?_, ?_⟩
    · exact ho.grown (grown_one (World.grownBy.refl w6 (some (w.heap.size + 1 + 1))) 0 _) (.inr (by simp [rowOf]; omega))
    · exact (Hb3.out.trans (Hb6.out.mono hz3)).setCell (p := ⟨w.heap.size + 1 + 1, 0, none⟩) (by simp; omega) _

end Go.Proofs.Ytggaahblhdphaaa
