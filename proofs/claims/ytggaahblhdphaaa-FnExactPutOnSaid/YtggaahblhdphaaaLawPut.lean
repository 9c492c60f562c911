/- The law FnExactPutOn returns true for every input, and its argument reads afterwards as before. Conditions: none. -/
import Derived.Test.YtggaahblhdphaaaRows
import Derived.Test.YtggaahblhdphaaaPipeS
import Derived.Test.YtggaahblhdphaaaPut
import Derived.Test.YtggaahblhdphaaaPX
import Derived.Test.YtggaahblhdphaaaOpen1
import Derived.Deep.RegionHeld3
import Derived.Test.YtggaahblhdphaaaNodeE
import Derived.Test.YtggaahblhdphaaaOpenN
import Derived.Deep.RegionWith
import Derived.Deep.DeepMust
namespace Go.Proofs.Ytggaahblhdphaaa.LawPut
open Go.ChangeShapes Go.WideShapes Go.ChangeAt Go.RowKit Go.Deep

theorem own : ownKnob Try.prog.godebug = none := by kernel_rfl
theorem laidOut : laidOutB Try.prog = true := by kernel_rfl

set_option maxHeartbeats 1600000 in
theorem walk0 (A : Option Addr) (c : Nat) (l : List Nd) (w : World) (x : Nd) (q : List Nd) (ok : Bool) (hq : Hid (PutOf l x q ok)) (hqn : q.length ≤ 1048576) (h : RdN w w.heap.size A l) (hn : l.length ≤ maxLen) :
    Calls Try.prog 14 #[.agg #[.slice A l.length c], .agg #[.int .i64 x.k, .int .i64 x.a, .int .i64 x.b, .int .i64 x.n, .int .i64 x.m]] w fun e w' => e = .returned (.bool true) ∧ Below w.heap.size w w' := by
  obtain ⟨W0, hW0⟩ : ∃ W0 : World, W0 = (w.alloc (.cells #[.slice A l.length c] 29)).alloc (.cells #[.int .i64 x.k, .int .i64 x.a, .int .i64 x.b, .int .i64 x.n, .int .i64 x.m] 57) := ⟨_, rfl⟩
  have hb0 : Below w.heap.size w W0 := by rw [hW0]; exact ((Below.refl w.heap.size w).alloc (Nat.le_refl _) _).alloc (by simp) _
  have hx0 : Bk W0 w.heap.size 29 [.slice A l.length c] := by rw [hW0]; exact (Bk.new _ _ [_]).alloc _
  have hn0 : Bk W0 (w.heap.size + 1) 57 [.int .i64 x.k, .int .i64 x.a, .int .i64 x.b, .int .i64 x.n, .int .i64 x.m] := by
    rw [hW0]
    have := Bk.new (w.alloc (.cells #[.slice A l.length c] 29)) 57 [.int .i64 x.k, .int .i64 x.a, .int .i64 x.b, .int .i64 x.n, .int .i64 x.m]
    simpa using this
  have h0 := h.below hb0 (Nat.le_refl _)
  have hs0 : w.heap.size + 1 ≤ W0.heap.size := by rw [hW0]; simp
  by_cases hb : (1048576 : Int) < l.length
  · have Hsz := Lib.hid (szLeft_no hb)
    have Hb0 := Lib.hid hb0
    have HW0 := Lib.hid hW0
    clear h hb hb0 hx0 h0 hW0 hn0
    go_enter Try.func14, Try.ntmps14
    go_wp2_with fail
    rw [← HW0.out]
    refine (szPipe_any _ _ _ _ _ (by omega) (by omega) hn).mono ?_
    rintro e w1 ⟨rfl, hb1⟩
    rw [Hsz.out]
    have Hb1 := Lib.hid hb1
    clear hb1
    go_wp2_with fail
    go_ret
    exact ⟨rfl, Hb0.out.trans (Hb1.out.mono Hb0.out.size)⟩
  · have hn2 : l.length ≤ 1048576 := by omega
    have hleft : (0 : Int) ≤ 1048576 - l.length := by omega
    have Hsz := Lib.hid (szLeft_yes hb)
    have Hb0 := Lib.hid hb0
    have HW0 := Lib.hid hW0
    have Hx0 := Lib.hid hx0
    have Hn0 := Lib.hid hn0
    have H0 := Lib.hid h0
    clear h hb hb0 hx0 h0 hW0 hn0
    go_enter Try.func14, Try.ntmps14
    go_wp2_with fail
    rw [← HW0.out]
    refine (szPipe_any _ _ _ _ _ (by omega) (by omega) hn).mono ?_
    rintro e w1 ⟨rfl, hb1⟩
    rw [Hsz.out]
    have Hb1 := Lib.hid (Hb0.out.trans (hb1.mono Hb0.out.size))
    have Hx1 := Lib.hid (Hx0.out.below hb1 Hx0.out.lt)
    have Hn1 := Lib.hid (Hn0.out.below hb1 Hn0.out.lt)
    have H1 := Lib.hid (H0.out.below hb1 Hb0.out.size)
    have hc1 : w1.cell? ⟨w.heap.size, 0, none⟩ = some (.slice A l.length c) := Hx1.out.cell 0
    clear hb1 Hsz HW0
    have hlt1 : w.heap.size + 1 < w1.heap.size := Hn1.out.lt
    have HS : Hid (∀ W' : World, Below w1.heap.size w1 W' → W'.cell? ⟨w.heap.size, 0, none⟩ = some (.slice A l.length c) ∧ W'.cell? ⟨w.heap.size + 1, 0, none⟩ = some (.int .i64 x.k) ∧ W'.cell? ⟨w.heap.size + 1, 1, none⟩ = some (.int .i64 x.a) ∧ W'.cell? ⟨w.heap.size + 1, 2, none⟩ = some (.int .i64 x.b) ∧ W'.cell? ⟨w.heap.size + 1, 3, none⟩ = some (.int .i64 x.n) ∧ W'.cell? ⟨w.heap.size + 1, 4, none⟩ = some (.int .i64 x.m)) := Lib.hid (fun W' hb => ⟨(Hx1.out.below hb Hx1.out.lt).cell 0, (Hn1.out.below hb Hn1.out.lt).cell 0, (Hn1.out.below hb Hn1.out.lt).cell 1, (Hn1.out.below hb Hn1.out.lt).cell 2, (Hn1.out.below hb Hn1.out.lt).cell 3, (Hn1.out.below hb Hn1.out.lt).cell 4⟩)
    have HRd : Hid (∀ W' : World, Below w1.heap.size w1 W' → RdN W' w.heap.size A l) := Lib.hid (fun W' hb => H1.out.below hb (by omega))
    obtain ⟨k0, k1, k2, k3, k4, k5⟩ := HS.out w1 (Below.refl _ _)
    go_wp2_with fail
    rename_i K hK
    have hrest : ∀ (g2 : Nat) (Aw : Option Addr) (cw bw hi : Nat) (w5 : World), PX w5 bw w1.heap.size hi Aw cw q → Below w1.heap.size w1 w5 → K { tmps := #[Value.agg #[Value.slice A l.length c], Value.agg #[Value.int IntKind.i64 x.k, Value.int IntKind.i64 x.a, Value.int IntKind.i64 x.b, Value.int IntKind.i64 x.n, Value.int IntKind.i64 x.m], Value.pointer (some { block := w.heap.size, off := 0 }), Value.pointer (some { block := w.heap.size + 1, off := 0 }), Value.bool false, Value.int IntKind.i64 (1048576 - (l.length : Int)), Value.pointer (some { block := bw, off := 0 }), Value.bool ok, undef, undef, undef, undef, undef, undef, undef, undef, Value.agg #[Value.slice A l.length c], Value.int IntKind.i64 1048576, Value.int IntKind.i64 (1048576 - (l.length : Int)), Value.int IntKind.i64 (1048576 - (l.length : Int)), Value.bool (decide (1048576 - (l.length : Int) < 0)), Value.tuple #[Value.agg #[Value.slice Aw q.length cw], Value.bool ok], Value.agg #[Value.slice A l.length c], Value.agg #[Value.slice (some { block := g2, off := 0 }) l.length l.length], Value.agg #[Value.int IntKind.i64 x.k, Value.int IntKind.i64 x.a, Value.int IntKind.i64 x.b, Value.int IntKind.i64 x.n, Value.int IntKind.i64 x.m], Value.agg #[Value.int IntKind.i64 x.k, Value.int IntKind.i64 x.a, Value.int IntKind.i64 x.b, Value.int IntKind.i64 x.n, Value.int IntKind.i64 x.m], Value.tuple #[Value.agg #[Value.slice Aw q.length cw], Value.bool ok], Value.agg #[Value.slice Aw q.length cw], Value.bool ok, undef, undef, undef, undef, undef, undef, undef, undef, undef, undef, undef, undef, undef, undef, undef, undef, undef, undef, undef, undef, undef, undef, undef, undef, undef, undef, undef, undef, undef, undef, undef, undef, undef, undef, undef, undef, undef, undef, undef, undef, undef, undef, undef, undef, undef, undef, undef, undef, undef, undef, undef, undef, undef, undef, undef, undef, undef, undef, undef, undef, undef, undef, undef, undef, undef, undef, undef, undef, undef, undef, undef, undef, undef, undef, undef], defers := [] } w5 := by
      intro g2 Aw cw bw hi w5 hpx hb5
      have hz1 := Hb1.out.size
      have hz15 := hb5.size
      have ha5 : AB w5 w.heap.size A c l := ⟨Hx1.out.below hb5 Hx1.out.lt, H1.out.below hb5 (by omega)⟩
      have Hn5 := Lib.hid (Hn1.out.below hb5 Hn1.out.lt)
      have Hb5 := Lib.hid (Hb1.out.trans (hb5.mono hz1))
      have Ha5 := Lib.hid ha5
      have Hw5 := Lib.hid hpx
      have ca5 : w5.cell? ⟨w.heap.size, 0, none⟩ = some (.slice A l.length c) := ha5.cell
      clear hpx hb5 ha5 k0 k1 k2 k3 k4 k5
      refine hK _ _ ?_
      go_wp2_with fail
      refine (toPipe_any A c l w5 w.heap.size Ha5.out.rd Hb5.out.size hn2).mono ?_
      rintro e w6 ⟨g6, rfl, hg6, hk6, hb6⟩
      have hx6 : OwnN w6 w5.heap.size (some ⟨g6, 0, none⟩) l.length l := hk6.own (by omega) hn2
      obtain ⟨W7, hW7⟩ : ∃ W7 : World, W7 = w6.alloc (.cells #[.slice (some ⟨g6, 0, none⟩) l.length l.length] 34) := ⟨_, rfl⟩
      have hb7 : Below w6.heap.size w6 W7 := by rw [hW7]; exact (Below.refl _ _).alloc (Nat.le_refl _) _
      have hx7 : PX W7 w6.heap.size w5.heap.size (w6.heap.size + 1) (some ⟨g6, 0, none⟩) l.length l := by rw [hW7]; exact PX.new hx6 (Nat.le_refl _) hb6.size
      have hb67 := hb6.trans (hb7.mono hb6.size)
      have Hb7 := Lib.hid (Hb5.out.trans (hb67.mono Hb5.out.size))
      have Ha7 := Lib.hid (Ha5.out.below hb67 Ha5.out.box.lt)
      have Hn7 := Lib.hid (Hn5.out.below hb67 Hn5.out.lt)
      have Hw7 := Lib.hid (Hw5.out.below hb67 (Nat.le_refl _))
      have Hx7 := Lib.hid hx7
      have HW7 := Lib.hid hW7
      have hs7 : Hid (W7.heap.size = w6.heap.size + 1) := Lib.hid (by rw [hW7]; simp)
      have hz6 : w5.heap.size ≤ w6.heap.size := hb6.size
      have hz67 : w6.heap.size < W7.heap.size := hx7.box.lt
      have HS7 : Hid (∀ W' : World, Below W7.heap.size W7 W' → W'.cell? ⟨w6.heap.size, 0, none⟩ = some (.slice (some ⟨g6, 0, none⟩) l.length l.length) ∧ W'.cell? ⟨w.heap.size + 1, 0, none⟩ = some (.int .i64 x.k) ∧ W'.cell? ⟨w.heap.size + 1, 1, none⟩ = some (.int .i64 x.a) ∧ W'.cell? ⟨w.heap.size + 1, 2, none⟩ = some (.int .i64 x.b) ∧ W'.cell? ⟨w.heap.size + 1, 3, none⟩ = some (.int .i64 x.n) ∧ W'.cell? ⟨w.heap.size + 1, 4, none⟩ = some (.int .i64 x.m)) := Lib.hid (fun W' hb => ⟨(Hx7.out.below hb (Nat.le_refl _)).cell, (Hn7.out.below hb Hn7.out.lt).cell 0, (Hn7.out.below hb Hn7.out.lt).cell 1, (Hn7.out.below hb Hn7.out.lt).cell 2, (Hn7.out.below hb Hn7.out.lt).cell 3, (Hn7.out.below hb Hn7.out.lt).cell 4⟩)
      obtain ⟨k0, k1, k2, k3, k4, k5⟩ := HS7.out W7 (Below.refl _ _)
      clear hb6 hk6 hx6 hW7 hb7 hx7 hb67 ca5
      go_wp2_with fail
      rw [← HW7.out]
      rename_i K2 hK2
      have hrest2 : ∀ (Ag : Option Addr) (cg bg hig : Nat) (w10 : World), PX w10 bg W7.heap.size hig Ag cg q → Below W7.heap.size W7 w10 → K2 { tmps := #[Value.agg #[Value.slice A l.length c], Value.agg #[Value.int IntKind.i64 x.k, Value.int IntKind.i64 x.a, Value.int IntKind.i64 x.b, Value.int IntKind.i64 x.n, Value.int IntKind.i64 x.m], Value.pointer (some { block := w.heap.size, off := 0 }), Value.pointer (some { block := w.heap.size + 1, off := 0 }), Value.bool false, Value.int IntKind.i64 (1048576 - (l.length : Int)), Value.pointer (some { block := bw, off := 0 }), Value.bool ok, Value.pointer (some { block := w6.heap.size, off := 0 }), Value.pointer (some { block := bg, off := 0 }), Value.bool ok, undef, undef, undef, undef, undef, Value.agg #[Value.slice A l.length c], Value.int IntKind.i64 1048576, Value.int IntKind.i64 (1048576 - (l.length : Int)), Value.int IntKind.i64 (1048576 - (l.length : Int)), Value.bool (decide (1048576 - (l.length : Int) < 0)), Value.tuple #[Value.agg #[Value.slice Aw q.length cw], Value.bool ok], Value.agg #[Value.slice A l.length c], Value.agg #[Value.slice (some { block := g2, off := 0 }) l.length l.length], Value.agg #[Value.int IntKind.i64 x.k, Value.int IntKind.i64 x.a, Value.int IntKind.i64 x.b, Value.int IntKind.i64 x.n, Value.int IntKind.i64 x.m], Value.agg #[Value.int IntKind.i64 x.k, Value.int IntKind.i64 x.a, Value.int IntKind.i64 x.b, Value.int IntKind.i64 x.n, Value.int IntKind.i64 x.m], Value.tuple #[Value.agg #[Value.slice Aw q.length cw], Value.bool ok], Value.agg #[Value.slice Aw q.length cw], Value.bool ok, Value.agg #[Value.slice A l.length c], Value.agg #[Value.slice (some { block := g6, off := 0 }) l.length l.length], Value.tuple #[Value.agg #[Value.slice Ag q.length cg], Value.bool ok], Value.agg #[Value.slice (some { block := g6, off := 0 }) l.length l.length], Value.agg #[Value.int IntKind.i64 x.k, Value.int IntKind.i64 x.a, Value.int IntKind.i64 x.b, Value.int IntKind.i64 x.n, Value.int IntKind.i64 x.m], Value.agg #[Value.int IntKind.i64 x.k, Value.int IntKind.i64 x.a, Value.int IntKind.i64 x.b, Value.int IntKind.i64 x.n, Value.int IntKind.i64 x.m], Value.tuple #[Value.agg #[Value.slice Ag q.length cg], Value.bool ok], Value.agg #[Value.slice Ag q.length cg], Value.bool ok, undef, undef, undef, undef, undef, undef, undef, undef, undef, undef, undef, undef, undef, undef, undef, undef, undef, undef, undef, undef, undef, undef, undef, undef, undef, undef, undef, undef, undef, undef, undef, undef, undef, undef, undef, undef, undef, undef, undef, undef, undef, undef, undef, undef, undef, undef, undef, undef, undef, undef, undef, undef, undef, undef, undef, undef, undef, undef, undef, undef, undef, undef, undef, undef, undef, undef], defers := [] } w10 := by
        intro Ag cg bg hig w10 hpg hb10
        have Hs7o := hs7.out
        have Hb10 := Lib.hid (Hb7.out.trans (hb10.mono Hb7.out.size))
        have Ha10 := Lib.hid (Ha7.out.below hb10 (by omega))
        have Hn10 := Lib.hid (Hn7.out.below hb10 (by omega))
        have Hw10 := Lib.hid (Hw7.out.below hb10 (Nat.le_refl _))
        have Hx10 := Lib.hid (Hx7.out.below hb10 (Nat.le_refl _))
        have Hg10 := Lib.hid hpg
        have cg10 : w10.cell? ⟨bg, 0, none⟩ = some (.slice Ag q.length cg) := hpg.cell
        have cw10 : w10.cell? ⟨bw, 0, none⟩ = some (.slice Aw q.length cw) := Hw10.out.cell
        have hz10 := hb10.size
        have hhi : hi ≤ w5.heap.size := Hw5.out.top
        clear hpg hb10 k0 k1 k2 k3 k4 k5 Hs7o
        refine hK2 _ _ ?_
        go_wp2_with fail
        refine (eqPipe_any _ _ _ _ q q w10 w10.heap.size Hg10.out.own.rd Hw10.out.own.rd (Nat.le_refl _) hqn).mono ?_
        rintro e w11 ⟨rfl, hb11⟩
        rw [decide_eq_true rfl]
        have Hb11 := Lib.hid (Hb10.out.trans (hb11.mono Hb10.out.size))
        have Ha11 := Lib.hid (Ha10.out.below hb11 Ha10.out.box.lt)
        have Hn11 := Lib.hid (Hn10.out.below hb11 Hn10.out.lt)
        have Hw11 := Lib.hid (Hw10.out.below hb11 (Nat.le_refl _))
        have Hx11 := Lib.hid (Hx10.out.below hb11 (Nat.le_refl _))
        have Hg11 := Lib.hid (Hg10.out.below hb11 (Nat.le_refl _))
        have ca11 : w11.cell? ⟨w.heap.size, 0, none⟩ = some (.slice A l.length c) := Ha11.out.cell
        have cx11 : w11.cell? ⟨w6.heap.size, 0, none⟩ = some (.slice (some ⟨g6, 0, none⟩) l.length l.length) := Hx11.out.cell
        have hz11 := hb11.size
        have hzz11 : w.heap.size ≤ w11.heap.size := Hb11.out.size
        have HS11 : Hid (∀ W' : World, Below w11.heap.size w11 W' → W'.cell? ⟨w6.heap.size, 0, none⟩ = some (.slice (some ⟨g6, 0, none⟩) l.length l.length) ∧ W'.cell? ⟨w.heap.size, 0, none⟩ = some (.slice A l.length c)) := Lib.hid (fun W' hb => ⟨(Hx11.out.below hb (Nat.le_refl _)).cell, (Ha11.out.below hb Ha11.out.box.lt).cell⟩)
        clear hb11 cw10 cg10
        go_wp2_with fail
        go_region_held3 (fun w' => w'.cell? ⟨w6.heap.size, 0, none⟩ = some (.slice (some ⟨g6, 0, none⟩) l.length l.length) ∧ w'.cell? ⟨w.heap.size, 0, none⟩ = some (.slice A l.length c))
          (go_keep)
          (first
            | (
              go_at_call 22
              refine (toPipe_any A c l _ w.heap.size (Ha11.out.rd.drewN 1) (by first | omega | (simp; omega)) hn2).mono ?_
              rintro e w12 ⟨g12, rfl, hg12, hk12, hb120⟩
              have hb12 : Below w11.heap.size w11 w12 := ((Below.refl w11.heap.size w11).drew).trans (hb120.mono (by simp))
              have ks12 := HS11.out _ hb12
              have hl12 := hk12.lt
              have hz12 := hb12.size
              have Hk12 := Lib.hid hk12
              have Hb12 := Lib.hid hb12
              clear hb12 hb120 hk12 hg12)
            | (
              go_at_call 24
              refine (eqPipe_any _ _ _ _ l l _ w12.heap.size (Hx11.out.below Hb12.out (Nat.le_refl _)).own.rd (Hk12.out.rdN hl12) (Nat.le_refl _) hn2).mono ?_
              rintro e w13 ⟨rfl, hb130⟩
              rw [decide_eq_true rfl]
              have hb13 := Hb12.out.trans (hb130.mono hz12)
              have ks13 := HS11.out _ hb13
              have Hb113 := Lib.hid hb13
              clear hb13 hb130))
        have Ha13 := Lib.hid (Ha11.out.below Hb113.out Ha11.out.box.lt)
        have Hn13 := Lib.hid (Hn11.out.below Hb113.out Hn11.out.lt)
        have Hw13 := Lib.hid (Hw11.out.below Hb113.out (Nat.le_refl _))
        have Hx13 := Lib.hid (Hx11.out.below Hb113.out (Nat.le_refl _))
        have Hg13 := Lib.hid (Hg11.out.below Hb113.out (Nat.le_refl _))
        have Hb13 := Lib.hid (Hb11.out.trans (Hb113.out.mono Hb11.out.size))
        have hzz13 : w.heap.size ≤ w13.heap.size := Hb13.out.size
        have cx13 : w13.cell? ⟨w6.heap.size, 0, none⟩ = some (.slice (some ⟨g6, 0, none⟩) l.length l.length) := Hx13.out.cell
        clear ca11 cx11
        go_wp2_with fail
        refine (markPipe_any _ _ l 1 w13 w5.heap.size Hx13.out.own hn2 (by decide) (by decide)).mono ?_
        rintro e w14 ⟨rfl, -, hg14⟩
        have Ha14 := Lib.hid (Ha13.out.mark_px Hx13.out (by omega) hg14)
        have Hn14 := Lib.hid (Hn13.out.mark_px Hx13.out (by omega) hg14)
        have Hw14 := Lib.hid (Hw13.out.mark_other Hx13.out (.inl hhi) hg14)
        have Hg14 := Lib.hid (Hg13.out.mark_other Hx13.out (.inr (by have := hs7.out; omega)) hg14)
        have Hb14 := Lib.hid (Hx13.out.below_mark Hb13.out (by omega) hzz13 hg14)
        have hpos : (0 : Int) ≤ 1 + 5 * l.length := by omega
        have cw14 : w14.cell? ⟨bw, 0, none⟩ = some (.slice Aw q.length cw) := Hw14.out.cell
        have cg14 : w14.cell? ⟨bg, 0, none⟩ = some (.slice Ag q.length cg) := Hg14.out.cell
        clear hg14 cx13
        go_wp2_with fail
        refine (eqPipe_any _ _ _ _ q q w14 w14.heap.size Hg14.out.own.rd Hw14.out.own.rd (Nat.le_refl _) hqn).mono ?_
        rintro e w15 ⟨rfl, hb15⟩
        rw [decide_eq_true rfl]
        have Ha15 := Lib.hid (Ha14.out.below hb15 Ha14.out.box.lt)
        have Hn15 := Lib.hid (Hn14.out.below hb15 Hn14.out.lt)
        have Hw15 := Lib.hid (Hw14.out.below hb15 (Nat.le_refl _))
        have Hg15 := Lib.hid (Hg14.out.below hb15 (Nat.le_refl _))
        have Hb15 := Lib.hid (Hb14.out.trans (hb15.mono Hb14.out.size))
        have cg15 : w15.cell? ⟨bg, 0, none⟩ = some (.slice Ag q.length cg) := Hg15.out.cell
        have hzz15 : w.heap.size ≤ w15.heap.size := Hb15.out.size
        clear hb15 cw14 cg14
        go_wp2_with fail
        refine (markPipe_any _ _ q 1 w15 W7.heap.size Hg15.out.own hqn (by decide) (by decide)).mono ?_
        rintro e w16 ⟨rfl, ho16, hg16⟩
        have Ha16 := Lib.hid (Ha15.out.mark_px Hg15.out (by omega) hg16)
        have Hn16 := Lib.hid (Hn15.out.mark_px Hg15.out (by omega) hg16)
        have Hw16 := Lib.hid (Hw15.out.mark_other Hg15.out (.inl (by omega)) hg16)
        have Hg16 := Lib.hid (Hg15.out.mark_self ho16 (mkN_len _ _) hg16)
        have Hb16 := Lib.hid (Hg15.out.below_mark Hb15.out (by omega) hzz15 hg16)
        have hposq : (0 : Int) ≤ 1 + 5 * q.length := by omega
        have cg16 : w16.cell? ⟨bg, 0, none⟩ = some (.slice Ag q.length cg) := by rw [← mkN_len q.length 1]; exact Hg16.out.cell
        clear hg16 ho16 cg15
        go_wp2_with fail
        refine (heldPipe_any _ _ q.length 1 w16 w16.heap.size Hg16.out.own.rd (Nat.le_refl _) hqn (by decide) (by decide)).mono ?_
        rintro e w17 ⟨rfl, hb17⟩
        have Hb17 := Lib.hid (Hb16.out.trans (hb17.mono Hb16.out.size))
        have Ha17 := Lib.hid (Ha16.out.below hb17 Ha16.out.box.lt)
        have Hn17 := Lib.hid (Hn16.out.below hb17 Hn16.out.lt)
        have Hw17 := Lib.hid (Hw16.out.below hb17 (Nat.le_refl _))
        have Hg17 := Lib.hid (Hg16.out.below hb17 (Nat.le_refl _))
        have hlt17 : w.heap.size + 1 < w17.heap.size := Hn17.out.lt
        have HS17 : Hid (∀ W' : World, Below w17.heap.size w17 W' → W'.cell? ⟨w.heap.size, 0, none⟩ = some (.slice A l.length c) ∧ W'.cell? ⟨w.heap.size + 1, 0, none⟩ = some (.int .i64 x.k) ∧ W'.cell? ⟨w.heap.size + 1, 1, none⟩ = some (.int .i64 x.a) ∧ W'.cell? ⟨w.heap.size + 1, 2, none⟩ = some (.int .i64 x.b) ∧ W'.cell? ⟨w.heap.size + 1, 3, none⟩ = some (.int .i64 x.n) ∧ W'.cell? ⟨w.heap.size + 1, 4, none⟩ = some (.int .i64 x.m)) := Lib.hid (fun W' hb => ⟨(Ha17.out.below hb Ha17.out.box.lt).cell, (Hn17.out.below hb Hn17.out.lt).cell 0, (Hn17.out.below hb Hn17.out.lt).cell 1, (Hn17.out.below hb Hn17.out.lt).cell 2, (Hn17.out.below hb Hn17.out.lt).cell 3, (Hn17.out.below hb Hn17.out.lt).cell 4⟩)
        have HRd17 : Hid (∀ W' : World, Below w17.heap.size w17 W' → RdN W' w.heap.size A l) := Lib.hid (fun W' hb => (Ha17.out.below hb Ha17.out.box.lt).rd)
        obtain ⟨k0, k1, k2, k3, k4, k5⟩ := HS17.out w17 (Below.refl _ _)
        clear hb17 cg16
        go_wp2_with fail
        skip
        go_region_held3 (fun w' => w'.cell? ⟨w.heap.size, 0, none⟩ = some (.slice A l.length c) ∧ w'.cell? ⟨w.heap.size + 1, 0, none⟩ = some (.int .i64 x.k) ∧ w'.cell? ⟨w.heap.size + 1, 1, none⟩ = some (.int .i64 x.a) ∧ w'.cell? ⟨w.heap.size + 1, 2, none⟩ = some (.int .i64 x.b) ∧ w'.cell? ⟨w.heap.size + 1, 3, none⟩ = some (.int .i64 x.n) ∧ w'.cell? ⟨w.heap.size + 1, 4, none⟩ = some (.int .i64 x.m))
          (go_keep)
          (first
            | (
              go_at_call 22
              refine (toPipe_any A c l _ w.heap.size (by first | exact HRd17.out _ (Below.refl _ _).drew | exact HRd17.out _ ((Below.refl _ _).alloc (Nat.le_refl _) _).drew) (by first | omega | (simp; omega)) hn2).mono ?_
              rintro e w18 ⟨g18, rfl, hg18, hk18, hb180⟩
              have hb18 : Below w17.heap.size w17 w18 := by first | exact ((Below.refl w17.heap.size w17).drew).trans (hb180.mono (by simp)) | exact (((Below.refl _ _).alloc (Nat.le_refl _) _).drew).trans (hb180.mono (by simp))
              have ks18 := HS17.out _ hb18
              have hz18 := hb18.size
              have hl18 := hk18.lt
              first | have Qh := Lib.hid ((Bk.drew_ (Bk.new w17 34 [.slice none 0 0])).below hb180 (by simp)) | skip
              have Hk18 := Lib.hid hk18
              have Hb18 := Lib.hid hb18
              clear hb18 hb180 hg18 hk18)
            | (
              go_at_call 51
              refine (toNode_any x _).mono ?_
              rintro e w19 ⟨rfl, hb190⟩
              have hb89 : Below w18.heap.size w18 w19 := by first | exact hb190 | exact ((Below.refl _ _).alloc (Nat.le_refl _) _).trans (hb190.mono (by simp))
              have hb19 := Hb18.out.trans (hb89.mono hz18)
              have ks19 := HS17.out _ hb19
              have hz19 := hb19.size
              have hz189 := hb89.size
              first | have Qh := Lib.hid (Qh.out.below hb190 Qh.out.lt) | have Qh := Lib.hid ((Bk.new w18 34 [.slice none 0 0]).below hb190 (by simp)) | skip
              have Hk19 := Lib.hid (Hk18.out.below hb89 hl18)
              have Hb19 := Lib.hid hb19
              clear hb89 hb19 hb190)
            | (
              go_at_call 52
              refine (implPutOn_any _ _ l x _ w19.heap.size q ok hq (by first | exact Hk19.out.rdN (by omega) | exact (Hk19.out.alloc _).rdN (by omega)) (by first | omega | simp) hn2).mono ?_
              rintro e w20 ⟨Ah, ch, rfl, hho0, hb200⟩
              have hb190 : Below w19.heap.size w19 w20 := by first | exact hb200 | exact ((Below.refl _ _).alloc (Nat.le_refl _) _).trans (hb200.mono (by simp))
              have hb20 := Hb19.out.trans (hb190.mono hz19)
              have hho : OwnN w20 w19.heap.size Ah ch q := hho0.base_ (by first | omega | simp)
              have ks20 := HS17.out _ hb20
              have hz20 := hb20.size
              have hz190 := hb190.size
              first | have hq19 := Qh.out.lt | skip
              first | have hrowh : ∀ g, rowOf Ah = some g → w19.heap.size < g := (fun g hg => by (have h9 := (hho0.row_lt g hg).1; simp at h9; omega)) | have hrowh : ∀ g, rowOf Ah = some g → w19.heap.size ≤ g := (fun g hg => (hho0.row_lt g hg).1)
              first | have Qh := Lib.hid (Qh.out.below hb200 Qh.out.lt) | have Qh := Lib.hid ((Bk.new w19 34 [.slice none 0 0]).below hb200 (by simp)) | skip
              first | have qc : w20.cell? ⟨_, 0, none⟩ = some (.slice none 0 0) := Qh.out.cell 0 | skip
              first | have qf := Qh.out.free 0 | skip
              have e1 : w17.heap.size ≠ w.heap.size := by omega
              have e2 : w17.heap.size ≠ w.heap.size + 1 := by omega
              have e3 : w18.heap.size ≠ w.heap.size := by omega
              have e4 : w18.heap.size ≠ w.heap.size + 1 := by omega
              have e5 : w19.heap.size ≠ w.heap.size := by omega
              have e6 : w19.heap.size ≠ w.heap.size + 1 := by omega
              have Hho := Lib.hid hho
              have Hb20 := Lib.hid hb20
              clear hb20 hb190 hb200 hho0 hho))
        all_goals
          first
          | (have hQ := PX.end_set Hb20.out Hho.out Qh.out (by omega) (by omega) (fun g hg => by have := hrowh g hg; omega); obtain ⟨W22, hW22, hph, hb22⟩ := hQ)
          | obtain ⟨W22, hW22, hph, hb22⟩ := PX.end_new Hb20.out Hho.out (by omega)
          rw [← hW22]
          have Hb22 := Lib.hid (Hb17.out.trans (hb22.mono Hb17.out.size))
          have Hw22 := Lib.hid (Hw17.out.below hb22 (Nat.le_refl _))
          have Hg22 := Lib.hid (Hg17.out.below hb22 (Nat.le_refl _))
          have Hh22 := Lib.hid hph
          have cw22 : W22.cell? ⟨bw, 0, none⟩ = some (.slice Aw q.length cw) := Hw22.out.cell
          have ch22 : W22.cell? ⟨_, 0, none⟩ = some (.slice Ah q.length ch) := Hh22.out.cell
          have HW22 := Lib.hid hW22
          clear hb22 hph hW22 k0 k1 k2 k3 k4 k5 ks18 ks19 ks20
          go_wp2_with fail
          refine (eqPipe_any _ _ _ _ q q W22 W22.heap.size Hh22.out.own.rd Hw22.out.own.rd (Nat.le_refl _) hqn).mono ?_
          rintro e w23 ⟨rfl, hb23⟩
          rw [decide_eq_true rfl]
          have Hb23 := Lib.hid (Hb22.out.trans (hb23.mono Hb22.out.size))
          have Hg23 := Lib.hid (Hg22.out.below hb23 (Nat.le_refl _))
          have cg23 : w23.cell? ⟨bg, 0, none⟩ = some (.slice Ag q.length cg) := by rw [← mkN_len q.length 1]; exact Hg23.out.cell
          clear hb23 cw22 ch22
          go_wp2_with fail
          refine (heldPipe_any _ _ q.length 1 w23 w23.heap.size Hg23.out.own.rd (Nat.le_refl _) hqn (by decide) (by decide)).mono ?_
          rintro e w24 ⟨rfl, hb24⟩
          have Hb24 := Lib.hid (Hb23.out.trans (hb24.mono Hb23.out.size))
          clear hb24 cg23
          go_wp2_with fail
          go_ret
          exact ⟨rfl, Hb24.out⟩
      have HREST2 := Lib.hid hrest2
      clear hrest2
      go_region_held3 (fun w' => w'.cell? ⟨w6.heap.size, 0, none⟩ = some (.slice (some ⟨g6, 0, none⟩) l.length l.length) ∧ w'.cell? ⟨w.heap.size + 1, 0, none⟩ = some (.int .i64 x.k) ∧ w'.cell? ⟨w.heap.size + 1, 1, none⟩ = some (.int .i64 x.a) ∧ w'.cell? ⟨w.heap.size + 1, 2, none⟩ = some (.int .i64 x.b) ∧ w'.cell? ⟨w.heap.size + 1, 3, none⟩ = some (.int .i64 x.n) ∧ w'.cell? ⟨w.heap.size + 1, 4, none⟩ = some (.int .i64 x.m))
        (go_keep)
        (first
          | (
            go_at_call 51
            refine (toNode_any x _).mono ?_
            rintro e w8 ⟨rfl, hb80⟩
            have hb8 : Below W7.heap.size W7 w8 := by first | exact ((Below.refl W7.heap.size W7).drew).trans (hb80.mono (by simp)) | exact (((Below.refl _ _).alloc (Nat.le_refl _) _).drew).trans (hb80.mono (by simp))
            have ks8 := HS7.out _ hb8
            have hz8 := hb8.size
            first | have Qg := Lib.hid ((Bk.drew_ (Bk.new W7 34 [.slice none 0 0])).below hb80 (by simp)) | skip
            have Hx8 := Lib.hid (Hx7.out.below hb8 (Nat.le_refl _))
            have Hb8 := Lib.hid hb8
            clear hb8 hb80)
          | (
            go_at_call 52
            refine (implPutOn_any _ _ l x _ w8.heap.size q ok hq (by first | exact Hx8.out.own.rd | exact (Hx8.out.own.rd).below ((Below.refl _ _).alloc (Nat.le_refl _) _) (Nat.le_refl _)) (by first | omega | simp) hn2).mono ?_
            rintro e w9 ⟨Ag, cg, rfl, hgo0, hb90⟩
            have hb89 : Below w8.heap.size w8 w9 := by first | exact hb90 | exact ((Below.refl _ _).alloc (Nat.le_refl _) _).trans (hb90.mono (by simp))
            have hb9 := Hb8.out.trans (hb89.mono hz8)
            have hgo : OwnN w9 w8.heap.size Ag cg q := hgo0.base_ (by first | omega | simp)
            have ks9 := HS7.out _ hb9
            have hz9 := hb9.size
            have hz89 := hb89.size
            first | have hq9 := Qg.out.lt | skip
            first | have hrow : ∀ g, rowOf Ag = some g → w8.heap.size < g := (fun g hg => by (have h9 := (hgo0.row_lt g hg).1; simp at h9; omega)) | have hrow : ∀ g, rowOf Ag = some g → w8.heap.size ≤ g := (fun g hg => (hgo0.row_lt g hg).1)
            first | have Qg := Lib.hid (Qg.out.below hb90 Qg.out.lt) | have Qg := Lib.hid ((Bk.new w8 34 [.slice none 0 0]).below hb90 (by simp)) | skip
            first | have qc : w9.cell? ⟨_, 0, none⟩ = some (.slice none 0 0) := Qg.out.cell 0 | skip
            first | have qf := Qg.out.free 0 | skip
            have e1 : W7.heap.size ≠ w.heap.size := by omega
            have e2 : W7.heap.size ≠ w.heap.size + 1 := by omega
            have e3 : w8.heap.size ≠ w.heap.size := by omega
            have e4 : w8.heap.size ≠ w.heap.size + 1 := by omega
            have e5 : W7.heap.size ≠ w6.heap.size := by omega
            have e6 : w8.heap.size ≠ w6.heap.size := by omega
            have Hgo := Lib.hid hgo
            have Hb9 := Lib.hid hb9
            clear hb9 hb89 hb90 hgo0 hgo))
      all_goals
        first
        | exact HREST2.out Ag cg _ _ _ (PX.new Hgo.out (by omega) (by omega)) (Hb9.out.alloc (by omega) _)
        | exact HREST2.out Ag cg _ _ _ (PX.set Hgo.out Qg.out (by omega) (by omega) (fun g hg => by have := hrow g hg; omega)) (Hb9.out.setCell (by first | (simp; done) | (simp; omega)) _)
    have HREST := Lib.hid hrest
    clear hrest
    go_region_held3 (fun w' => w'.cell? ⟨w.heap.size, 0, none⟩ = some (.slice A l.length c) ∧ w'.cell? ⟨w.heap.size + 1, 0, none⟩ = some (.int .i64 x.k) ∧ w'.cell? ⟨w.heap.size + 1, 1, none⟩ = some (.int .i64 x.a) ∧ w'.cell? ⟨w.heap.size + 1, 2, none⟩ = some (.int .i64 x.b) ∧ w'.cell? ⟨w.heap.size + 1, 3, none⟩ = some (.int .i64 x.n) ∧ w'.cell? ⟨w.heap.size + 1, 4, none⟩ = some (.int .i64 x.m))
      (go_keep)
      (first
        | (
          go_at_call 22
          refine (toPipe_any A c l _ w.heap.size (by first | exact HRd.out _ (Below.refl _ _).drew | exact HRd.out _ ((Below.refl _ _).alloc (Nat.le_refl _) _).drew) (by first | omega | (simp; omega)) hn2).mono ?_
          rintro e w2 ⟨g2, rfl, hg2, hk2, hb20⟩
          have hb2 : Below w1.heap.size w1 w2 := by first | exact ((Below.refl w1.heap.size w1).drew).trans (hb20.mono (by simp)) | exact (((Below.refl _ _).alloc (Nat.le_refl _) _).drew).trans (hb20.mono (by simp))
          have ks2 := HS.out _ hb2
          have hz2 := hb2.size
          have hl2 := hk2.lt
          first | have Qb := Lib.hid ((Bk.drew_ (Bk.new w1 34 [.slice none 0 0])).below hb20 (by simp)) | skip
          have Hk2 := Lib.hid hk2
          have Hb2 := Lib.hid hb2
          clear hb2 hb20 hg2 hk2)
        | (
          go_at_call 51
          refine (toNode_any x _).mono ?_
          rintro e w3 ⟨rfl, hb30⟩
          have hb23 : Below w2.heap.size w2 w3 := by first | exact hb30 | exact ((Below.refl _ _).alloc (Nat.le_refl _) _).trans (hb30.mono (by simp))
          have hb3 := Hb2.out.trans (hb23.mono hz2)
          have ks3 := HS.out _ hb3
          have hz3 := hb3.size
          have hz23 := hb23.size
          first | have Qb := Lib.hid (Qb.out.below hb30 Qb.out.lt) | have Qb := Lib.hid ((Bk.new w2 34 [.slice none 0 0]).below hb30 (by simp)) | skip
          have Hk3 := Lib.hid (Hk2.out.below hb23 hl2)
          have Hb3 := Lib.hid hb3
          clear hb23 hb3 hb30)
        | (
          go_at_call 50
          refine (specPutOn_any _ _ l x _ w3.heap.size q ok hq (by first | exact Hk3.out.rdN (by omega) | exact (Hk3.out.alloc _).rdN (by omega)) (by first | omega | simp) hn2).mono ?_
          rintro e w4 ⟨Aw, cw, rfl, hwo0, hb40⟩
          have hb34 : Below w3.heap.size w3 w4 := by first | exact hb40 | exact ((Below.refl _ _).alloc (Nat.le_refl _) _).trans (hb40.mono (by simp))
          have hb4 := Hb3.out.trans (hb34.mono hz3)
          have hwo : OwnN w4 w3.heap.size Aw cw q := hwo0.base_ (by first | omega | simp)
          have ks4 := HS.out _ hb4
          have hz4 := hb4.size
          have hz34 := hb34.size
          first | have hq3 := Qb.out.lt | skip
          first | have hrow : ∀ g, rowOf Aw = some g → w3.heap.size < g := (fun g hg => by (have h9 := (hwo0.row_lt g hg).1; simp at h9; omega)) | have hrow : ∀ g, rowOf Aw = some g → w3.heap.size ≤ g := (fun g hg => (hwo0.row_lt g hg).1)
          first | have Qb := Lib.hid (Qb.out.below hb40 Qb.out.lt) | have Qb := Lib.hid ((Bk.new w3 34 [.slice none 0 0]).below hb40 (by simp)) | skip
          first | have qc : w4.cell? ⟨_, 0, none⟩ = some (.slice none 0 0) := Qb.out.cell 0 | skip
          first | have qf := Qb.out.free 0 | skip
          have e1 : w1.heap.size ≠ w.heap.size := by omega
          have e2 : w1.heap.size ≠ w.heap.size + 1 := by omega
          have e3 : w2.heap.size ≠ w.heap.size := by omega
          have e4 : w2.heap.size ≠ w.heap.size + 1 := by omega
          have e5 : w3.heap.size ≠ w.heap.size := by omega
          have e6 : w3.heap.size ≠ w.heap.size + 1 := by omega
          have Hwo := Lib.hid hwo
          have Hb4 := Lib.hid hb4
          clear hb4 hb34 hb40 hwo0 hwo))
    all_goals
      first
      | exact HREST.out g2 Aw cw _ _ _ (PX.new Hwo.out (by omega) (by omega)) (Hb4.out.alloc (by omega) _)
      | exact HREST.out g2 Aw cw _ _ _ (PX.set Hwo.out Qb.out (by omega) (by omega) (fun g hg => by have := hrow g hg; omega)) (Hb4.out.setCell (by first | (simp; done) | (simp; omega)) _)

theorem walk (A : Option Addr) (c : Nat) (l : List Nd) (w : World) (x : Nd) (h : RdN w w.heap.size A l) (hn : l.length ≤ maxLen) :
    Calls Try.prog 14 #[.agg #[.slice A l.length c], .agg #[.int .i64 x.k, .int .i64 x.a, .int .i64 x.b, .int .i64 x.n, .int .i64 x.m]] w fun e w' => e = .returned (.bool true) ∧ Below w.heap.size w w' := by
  cases hv : putOk l x
  · exact walk0 A c l w x [] false ⟨fun _ => ⟨rfl, rfl⟩, fun h2 => absurd (hv.symm.trans h2) (by decide)⟩ (by simp) h hn
  · refine walk0 A c l w x (l ++ [⟨x.k, (l.length : Int) - 1, -1, x.n, x.m⟩]) true ⟨fun h2 => absurd (hv.symm.trans h2) (by decide), fun _ => ⟨rfl, rfl⟩⟩ ?_ h hn
    have hp : pipeOk l = true := (Bool.and_eq_true_iff.1 hv).1
    have := high_of hp
    simp
    omega

set_option maxRecDepth 100000 in
theorem lifted (os : Os) (started : os.Started) (H : Type) (enc : TypeId × Value → H) :
    ReturnsInHanded {} Try.checked os 14 .any (Rows.fnExactPutOnSpec.pre6 enc Try.prog Try.f14 Rows.fnExactPutOnRow.domain false) (Rows.fnExactPutOnSpec.post enc Try.prog Try.f14 false true false false) := by
  refine returnsInHanded_of_change (C := Try.checked) own started (by kernel_rfl) Try.func14
    (ChangeSpec.witness6 (enc := enc) (C := Try.checked) false ⟨#[], #[.agg #[.slice none 0 0], .agg #[.int .i64 0, .int .i64 0, .int .i64 0, .int .i64 0, .int .i64 0]], []⟩ 8 (by kernel_rfl) (by kernel_rfl) (by kernel_rfl) (by kernel_rfl)) ?_
  intro W base args ds gs before hval0 hW _ _
  have hval : ∀ (j : Nat) t v, Try.f14.params[j]? = some t → args[j]? = some v → Value.okWide Try.prog W .any base t v := hval0
  have hW' := hW
  obtain ⟨p, q, hA0, hV, rfl, hfz, hnd⟩ := hW
  have hA : DataW.TrodAll enc Try.prog W 0 (fun _ => true) true Try.f14.params.toList args.toList ds p := hA0
  rw [Try.params14] at hA hval
  obtain ⟨v0, vs0, d0, ds0, p0, q0, hargs, rfl, rfl, h0, r0⟩ := trodAll_cons hA
  obtain ⟨v1, vs1, d1, ds1, p1, q1, rfl, rfl, rfl, h1, r1⟩ := trodAll_cons r0
  obtain ⟨rfl, rfl, rfl⟩ := trodAll_nil r1
  obtain rfl : args = #[v0, v1] := by cases args; simp_all
  obtain ⟨rfl, rfl⟩ := trodVars_none hV
  have k0 := h0
  have lt0 : ∀ x ∈ p0, x.block < W.heap.size := by obtain ⟨m, hm⟩ := k0; exact DataW.trod_lt m _ _ _ hm
  obtain ⟨A0, len0, cap0, l0, rfl, rfl, hl0, hrd0⟩ := open_pipe Try.underlying29 (by kernel_rfl) rfl (by kernel_rfl) Try.underlying27 Try.underlying57 rfl (by kernel_rfl) (by kernel_rfl) Try.underlying3 (by kernel_rfl) (hval 0 29 v0 rfl rfl) h0
  have k1 := h1
  have lt1 : ∀ x ∈ p1, x.block < W.heap.size := by obtain ⟨m, hm⟩ := k1; exact DataW.trod_lt m _ _ _ hm
  obtain ⟨x1, rfl⟩ := open_node Try.underlying57 rfl (by kernel_rfl) (by kernel_rfl) Try.underlying3 (by kernel_rfl) (hval 1 57 v1 rfl rfl) h1
  clear hA0 hval0
  refine (walk A0 cap0 l0 W x1 hrd0 hl0).mono fun e W' ⟨he, bel⟩ => ?_
  subst he
  exact ⟨_, rfl, _, _, _, [], _, [], hW', trodAll_mk1 (shut_bool Try.underlying4 _), (trodAll_cons_mk (Below.trod laidOut (by kernel_rfl) (of_decide_eq_true (by kernel_rfl)) k0 bel lt0) (trodAll_cons_mk (Below.trod laidOut (by kernel_rfl) (of_decide_eq_true (by kernel_rfl)) k1 bel lt1) trodAll_mk0)), rfl, bel.frame _, fun h => by cases h⟩

theorem fnExactPutOn_holds : Rows.FnExactPutOnSaid :=
  OpenClaim.holds_of_wide 14 Try.f14 rfl rfl rfl rfl rfl rfl rfl ⟨rfl, rfl, rfl, rfl, rfl⟩ rfl rfl rfl rfl rfl (by kernel_rfl) Try.func14 (by kernel_rfl)
    (of_decide_eq_true (by kernel_rfl)) (by unfold Func.isWrapper; rw [if_neg (of_decide_eq_false (by kernel_rfl))]; exact ⟨rfl, rfl⟩)
    (fun os started H enc _ => lifted os started H enc)

end Go.Proofs.Ytggaahblhdphaaa.LawPut
