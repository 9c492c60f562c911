/- Contracts: two pipes joined, told by the program. -/
import Derived.Test.YtkjhncohanfciaaJoin
namespace Go.Proofs.Ytkjhncohanfciaa
open Go.RowKit

set_option maxRecDepth 100000 in
set_option maxHeartbeats 6400000 in
theorem implJoinPipes_any (A1 : Option Addr) (c1 : Nat) (l : List Nd) (A2 : Option Addr) (c2 : Nat) (r : List Nd) (k : Int) (w : World) (B : Nat) (q : List Nd) (ok : Bool) (hq : Hid (JoinOf l r k q ok)) (h1 : RdN w B A1 l) (h2 : RdN w B A2 r) (hB : B ≤ w.heap.size) (hn1 : l.length ≤ 1048576) (hn2 : r.length ≤ 1048576) :
    Calls Try.prog 32 #[.agg #[.slice A1 l.length c1], .agg #[.slice A2 r.length c2], .int .i64 k] w fun e w' => ∃ A' c', e = .returned (.tuple #[.agg #[.slice A' q.length c'], .bool ok]) ∧ OwnN w' w.heap.size A' c' q ∧ Below w.heap.size w w' := by
  obtain ⟨W0, hW0⟩ : ∃ W0 : World, W0 = ((w.alloc (.cells #[.slice A1 l.length c1] 32)).alloc (.cells #[.slice A2 r.length c2] 32)).alloc (.cells #[.slice none 0 0] 32) := ⟨_, rfl⟩
  have hb0 : Below w.heap.size w W0 := by rw [hW0]; exact (((Below.refl w.heap.size w).alloc (Nat.le_refl _) _).alloc (by simp) _).alloc (by simp; omega) _
  have hx0 : Bk W0 w.heap.size 32 [.slice A1 l.length c1] := by rw [hW0]; exact ((Bk.new _ _ [_]).alloc _).alloc _
  have hy0 : Bk W0 (w.heap.size + 1) 32 [.slice A2 r.length c2] := by
    rw [hW0]
    have := (Bk.new (w.alloc (.cells #[.slice A1 l.length c1] 32)) 32 [.slice A2 r.length c2]).alloc (.cells #[.slice none 0 0] 32)
    simpa using this
  have hr0 : Bk W0 (w.heap.size + 2) 32 [.slice none 0 0] := by
    rw [hW0]
    have := Bk.new ((w.alloc (.cells #[.slice A1 l.length c1] 32)).alloc (.cells #[.slice A2 r.length c2] 32)) 32 [.slice none 0 0]
    have hs : ((w.alloc (.cells #[.slice A1 l.length c1] 32)).alloc (.cells #[.slice A2 r.length c2] 32)).heap.size = w.heap.size + 2 := by simp
    rw [hs] at this
    exact this
  have H0 := Lib.hid (h1.below hb0 hB)
  have G0 := Lib.hid (h2.below hb0 hB)
  have Hb0 := Lib.hid hb0
  have Hx0 := Lib.hid hx0
  have Hy0 := Lib.hid hy0
  have Hr0 := Lib.hid hr0
  have HW0 := Lib.hid hW0
  have hz0 := hb0.size
  clear h1 h2 hb0 hx0 hy0 hr0 hW0
  go_enter Try.func32, Try.ntmps32
  rcases arity_vals k with ha | ha | ha | ha
  rotate_left 2
  rotate_left
  iterate 3
    · obtain ⟨rfl, rfl⟩ := hq.out.no (by simp [joinOk, ha])
      have d0 : W0.cell? ⟨w.heap.size + 2, 0, none⟩ = some (.slice none 0 0) := Hr0.out.cell 0
      have f0 := Hr0.out.free 0
      have Ha := Lib.hid ha
      clear ha
      go_wp2_with (go_at_call 54; rw [← HW0.out]; refine (nodesBelow_any _ _).mono ?_; rintro e w9 ⟨rfl, rfl⟩; rw [Ha.out])
      refine bodyPost_ret (v := .tuple #[.agg #[.slice none 0 0], .bool false]) (by simp [results, Try.results32, go_sem, d0]) rfl ⟨none, 0, rfl, own_nil _ _, ?_⟩
      exact Hb0.out.setCell (p := ⟨w.heap.size + 2, 0, none⟩) (by simp) _
  have ca0 : W0.cell? ⟨w.heap.size, 0, none⟩ = some (.slice A1 l.length c1) := Hx0.out.cell 0
  have Ha := Lib.hid ha
  clear ha
  go_wp2_with (go_at_call 54; rw [← HW0.out]; refine (nodesBelow_any _ _).mono ?_; rintro e w9 ⟨rfl, rfl⟩; rw [Ha.out])
  refine (implValidPipe_any A1 c1 l W0 B H0.out (by omega) hn1).mono ?_
  rintro e w1 ⟨rfl, hb1⟩
  have Hb1 := Lib.hid (Hb0.out.trans (hb1.mono hz0))
  have Hx1 := Lib.hid (Hx0.out.below hb1 Hx0.out.lt)
  have Hy1 := Lib.hid (Hy0.out.below hb1 Hy0.out.lt)
  have Hr1 := Lib.hid (Hr0.out.below hb1 Hr0.out.lt)
  have H1 := Lib.hid (H0.out.below hb1 (by omega))
  have G1 := Lib.hid (G0.out.below hb1 (by omega))
  have hz1 := Hb1.out.size
  have ca1 : w1.cell? ⟨w.heap.size, 0, none⟩ = some (.slice A1 l.length c1) := Hx1.out.cell 0
  have cb1 : w1.cell? ⟨w.heap.size + 1, 0, none⟩ = some (.slice A2 r.length c2) := Hy1.out.cell 0
  have d1 : w1.cell? ⟨w.heap.size + 2, 0, none⟩ = some (.slice none 0 0) := Hr1.out.cell 0
  have f1 := Hr1.out.free 0
  clear hb1 HW0 ca0
  cases hv : pipeOk l
  · obtain ⟨rfl, rfl⟩ := hq.out.no (by simp [joinOk, hv])
    have Hv := Lib.hid hv
    clear hv
    go_wp2_with fail
    refine bodyPost_ret (v := .tuple #[.agg #[.slice none 0 0], .bool false]) (by simp [results, Try.results32, go_sem, d1]) rfl ⟨none, 0, rfl, own_nil _ _, ?_⟩
    exact Hb1.out.setCell (p := ⟨w.heap.size + 2, 0, none⟩) (by simp) _
  have hlo := low_of hv
  have hhi := high_of hv
  have Hv := Lib.hid hv
  clear hv
  go_wp2_with fail
  refine (implValidPipe_any A2 c2 r w1 B G1.out (by omega) hn2).mono ?_
  rintro e w2 ⟨rfl, hb2⟩
  clear ca1 cb1 d1 f1
  have Hb2 := Lib.hid (Hb1.out.trans (hb2.mono hz1))
  have Hx2 := Lib.hid (Hx1.out.below hb2 Hx1.out.lt)
  have Hy2 := Lib.hid (Hy1.out.below hb2 Hy1.out.lt)
  have Hr2 := Lib.hid (Hr1.out.below hb2 Hr1.out.lt)
  have H2 := Lib.hid (H1.out.below hb2 (by omega))
  have G2 := Lib.hid (G1.out.below hb2 (by omega))
  have hz2 := Hb2.out.size
  have ca2 : w2.cell? ⟨w.heap.size, 0, none⟩ = some (.slice A1 l.length c1) := Hx2.out.cell 0
  have cb2 : w2.cell? ⟨w.heap.size + 1, 0, none⟩ = some (.slice A2 r.length c2) := Hy2.out.cell 0
  have d2 : w2.cell? ⟨w.heap.size + 2, 0, none⟩ = some (.slice none 0 0) := Hr2.out.cell 0
  have f2 := Hr2.out.free 0
  clear hb2
  cases hv : pipeOk r
  · obtain ⟨rfl, rfl⟩ := hq.out.no (by simp [joinOk, hv])
    have Hv2 := Lib.hid hv
    clear hv
    go_wp2_with fail
    refine bodyPost_ret (v := .tuple #[.agg #[.slice none 0 0], .bool false]) (by simp [results, Try.results32, go_sem, d2]) rfl ⟨none, 0, rfl, own_nil _ _, ?_⟩
    exact Hb2.out.setCell (p := ⟨w.heap.size + 2, 0, none⟩) (by simp) _
  have hlo2 := low_of hv
  have hhi2 := high_of hv
  have Hv2 := Lib.hid hv
  clear hv
  by_cases h12 : 12 ≤ l.length + r.length
  · obtain ⟨rfl, rfl⟩ := hq.out.no (by simp [joinOk]; omega)
    have i12 : (12 : Int) < (l.length : Int) + (r.length : Int) + 1 := by omega
    clear h12
    go_wp2_with fail
    refine bodyPost_ret (v := .tuple #[.agg #[.slice none 0 0], .bool false]) (by simp [results, Try.results32, go_sem, d2]) rfl ⟨none, 0, rfl, own_nil _ _, ?_⟩
    exact Hb2.out.setCell (p := ⟨w.heap.size + 2, 0, none⟩) (by simp) _
  have i12 : ¬ (12 : Int) < (l.length : Int) + (r.length : Int) + 1 := by omega
  obtain ⟨ta, hta⟩ := tree_of_pipe Hv.out
  obtain ⟨tb, htb⟩ := tree_of_pipe Hv2.out
  obtain ⟨hqq, rfl⟩ := hq.out.yes (by simp [joinOk, Hv.out, Hv2.out, Ha.out]; omega) hta htb
  have hsa := hta.size_12 (by omega)
  have hsb := htb.size_12 (by omega)
  have hql : q.length = ta.size + tb.size + 1 := by rw [hqq, T.put_len]; rfl
  have HP := Lib.hid (fun W => pipeOfT_any (.fork ⟨k, 0, 0, 0, 0⟩ ta tb) ⟨hta.fit, htb.fit⟩ (by simp only [T.size]; omega) W)
  obtain ⟨ty1, v1, hv1⟩ := tv_iface ta
  obtain ⟨ty2, v2, hv2⟩ := tv_iface tb
  simp only [tv, hv1, hv2] at HP
  have Hv1 := Lib.hid hv1
  have Hv2' := Lib.hid hv2
  have Hqq := Lib.hid hqq
  have Hql := Lib.hid hql
  have Hta := Lib.hid hta
  have Htb := Lib.hid htb
  have hlw2 : w.heap.size + 2 < w2.heap.size := Hr2.out.lt
  clear hqq hql hta htb hq h12 hv1 hv2
  go_wp2_with fail
  have HS : Hid (∀ W' : World, Below w2.heap.size w2 W' → W'.cell? ⟨w.heap.size, 0, none⟩ = some (.slice A1 l.length c1) ∧ W'.cell? ⟨w.heap.size + 1, 0, none⟩ = some (.slice A2 r.length c2)) := Lib.hid (fun W' hb => ⟨(Hx2.out.below hb Hx2.out.lt).cell 0, (Hy2.out.below hb Hy2.out.lt).cell 0⟩)
  have HD : Hid (∀ W' : World, Below w2.heap.size w2 W' → W'.cell? ⟨w.heap.size + 2, 0, none⟩ = some (.slice none 0 0) ∧ W'.frozen? ⟨w.heap.size + 2, 0, none⟩ = false) := Lib.hid (fun W' hb => ⟨(Hr2.out.below hb Hr2.out.lt).cell 0, (Hr2.out.below hb Hr2.out.lt).free 0⟩)
  have hne2 : w.heap.size + 1 + 1 ≠ w.heap.size := by omega
  have hne3 : w.heap.size + 2 ≠ w.heap.size := by omega
  have hne4 : w.heap.size + 1 + 1 ≠ w.heap.size + 1 := by omega
  go_region_held3 (fun w' => w'.cell? ⟨w.heap.size, 0, none⟩ = some (.slice A1 l.length c1) ∧ w'.cell? ⟨w.heap.size + 1, 0, none⟩ = some (.slice A2 r.length c2))
    (go_keep)
    (first
      | (
        go_at_call 48
        refine (HP.out _).mono ?_
        rintro e w5 ⟨A', c', rfl, ho5, hb50⟩
        have hb5 := Hb4.out.trans (hb50.mono hz4)
        have ks5 := HS.out _ hb5
        obtain ⟨d5, f5⟩ := HD.out _ hb5
        have Ho5 := Lib.hid ho5
        have Hb5 := Lib.hid hb5
        clear hb5 hb50 ho5)
      | (
        go_at_call 42
        refine (treeOf_any Htb A2 c2 _ B (G3.out.drewN 0) (by first | omega | (simp; omega)) hlo2 hn2).mono ?_
        rintro e w4 ⟨rfl, hb40⟩
        rw [Hv2'.out]
        have hb4 : Below w2.heap.size w2 w4 := Hb3.out.trans (hb40.mono hz3)
        have ks4 := HS.out _ hb4
        have hz4 := hb4.size
        have Hb4 := Lib.hid hb4
        clear hb4 hb40)
      | (
        go_at_call 42
        refine (treeOf_any Hta A1 c1 _ B (H2.out.drewN 1) (by first | omega | (simp; omega)) hlo hn1).mono ?_
        rintro e w3 ⟨rfl, hb30⟩
        rw [Hv1.out]
        have hb3 : Below w2.heap.size w2 w3 := ((Below.refl w2.heap.size w2).drew).trans (hb30.mono (by simp))
        have ks3 := HS.out _ hb3
        have hz3 := hb3.size
        have G3 := Lib.hid (G2.out.below hb3 (by omega))
        have Hb3 := Lib.hid hb3
        clear hb3 hb30))
  go_wp2_with fail
  have hne5 : rowOf A' ≠ some (w.heap.size + 2) := fun e => by have := (Ho5.out.row_lt _ e).1; omega
  refine bodyPost_ret (v := .tuple #[.agg #[.slice A' (T.fork ⟨k, 0, 0, 0, 0⟩ ta tb).size c'], .bool true]) (by simp [results, Try.results32, go_sem, d5]) rfl ⟨A', c', by rw [Hql.out]; rfl, ?_, ?_⟩
  · rw [Hqq.out]
    exact (Ho5.out.grown (grown_one (World.grownBy.refl w5 (some (w.heap.size + 2))) 0 _) (.inr hne5)).base_ (by omega)
  · exact (Hb2.out.trans (Hb5.out.mono hz2)).setCell (p := ⟨w.heap.size + 2, 0, none⟩) (by simp) _

end Go.Proofs.Ytkjhncohanfciaa
