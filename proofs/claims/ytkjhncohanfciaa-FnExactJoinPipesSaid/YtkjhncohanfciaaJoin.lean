/- Contracts: two pipes joined, told by the reference and by the program. -/
import Derived.Test.YtkjhncohanfciaaJoinM
import Derived.Test.YtkjhncohanfciaaHld
import Derived.Deep.RegionHeld3
import Derived.RegionTactic
import Derived.ChangeAlike
namespace Go.Proofs.Ytkjhncohanfciaa
open Go.RowKit

theorem fork_fit {ta tb : T} {x : Nd} (ha : ta.Fit) (hb : tb.Fit) : (T.fork x ta tb).Fit := ⟨ha, hb⟩

set_option maxRecDepth 100000 in
set_option maxHeartbeats 1600000 in
theorem pipeOfT_any (t : T) (hfit : t.Fit) (hsz : t.size ≤ 1048576) (w : World) :
    Calls Try.prog 48 #[tv t] w fun e w' => ∃ A' c', e = .returned (.agg #[.slice A' t.size c']) ∧ OwnN w' w.heap.size A' c' (t.put 0) ∧ Below w.heap.size w w' := by
  obtain ⟨W2, hW2⟩ : ∃ W2 : World, W2 = w.alloc (.cells #[.slice none 0 0] 32) := ⟨_, rfl⟩
  have hb2 : Below w.heap.size w W2 := by rw [hW2]; exact (Below.refl _ _).alloc (Nat.le_refl _) _
  have hs2 : W2.heap.size = w.heap.size + 1 := by rw [hW2]; simp
  have hres : Bk W2 w.heap.size 32 [.slice none 0 0] := by rw [hW2]; exact Bk.new w _ [_]
  have hm := method_add t
  have he := enter_add t
  have Hadd := Lib.hid (add_any t hfit W2 w.heap.size none 0 [] 0 hb2.size (own_nil _ _) rfl (by omega))
  have HW2 := Lib.hid hW2
  have Hb2 := Lib.hid hb2
  have Hres := Lib.hid hres
  have Hs2 := Lib.hid hs2
  clear hW2 hb2 hres hs2 hfit
  rw [tv_rv]
  obtain ⟨ty, hty⟩ : ∃ ty, ty = tyOf t := ⟨_, rfl⟩
  obtain ⟨v, hv⟩ : ∃ v, v = rv t := ⟨_, rfl⟩
  obtain ⟨f, hf⟩ : ∃ f, f = addFn t := ⟨_, rfl⟩
  rw [← hv, ← hty, ← hf] at hm
  rw [← hv, ← hf] at he Hadd
  rw [← hv, ← hty]
  clear hv hty hf
  go_enter Try.func48, Try.ntmps48
  go_wp2_with fail
  rw [← HW2.out]
  refine Hadd.out.mono ?_
  rintro e w3 ⟨A', c', rfl, hwr⟩
  have hs := Hs2.out
  have hres3 := Hres.out.grown hwr.grown (by simp [rowOf])
  have hne : rowOf A' ≠ some w.heap.size := by
    rcases hwr.at_ with e | ⟨g, e, hg⟩
    · rw [e]; simp [rowOf]
    · rw [e]; intro e2; have := Option.some.inj e2; omega
  have Hwr := Lib.hid hwr
  have Hne : Hid (rowOf A' ≠ some w.heap.size) := hne
  have d1 : w3.cell? ⟨w.heap.size, 0, none⟩ = some (.slice none 0 0) := hres3.cell 0
  have f1 := hres3.free 0
  clear hwr hres3 hne
  rw [Nat.zero_add]
  go_wp2_with fail
  have hst := grown_one (World.grownBy.refl w3 (some w.heap.size)) 0 (.slice A' t.size c')
  refine bodyPost_ret (v := .agg #[.slice A' t.size c']) (by simp [results, Try.results48, go_sem, d1]) rfl ⟨A', c', rfl, ?_, ?_⟩
  · exact Hwr.out.own.grown hst (.inr Hne.out)
  · exact (Hwr.out.below Hb2.out (fun g hg => by simp [rowOf] at hg)).setCell (p := ⟨w.heap.size, 0, none⟩) (Nat.le_refl _) _

/-- The numbers of the nodes of a tree put behind n others. -/
theorem T.put_bd (t : T) : t.Fit2 → ∀ (n : Nat) (x : Nd), x ∈ t.put n → -1 ≤ x.a ∧ x.a < n + t.size ∧ -1 ≤ x.b ∧ x.b < n + t.size := by
  induction t with
  | leaf x =>
    intro h n y hy
    simp [T.put] at hy
    subst hy
    have := h.1
    have := h.2
    simp only [T.size]
    omega
  | stem x t ih =>
    intro h n y hy
    have hp := t.size_pos
    simp only [T.put, List.mem_append, List.mem_singleton] at hy
    simp only [T.size]
    rcases hy with hy | rfl
    · have := ih h.2 n y hy
      omega
    · have := h.1
      simp only
      omega
  | fork x a b iha ihb =>
    intro h n y hy
    have hp := a.size_pos
    have hp2 := b.size_pos
    simp only [T.put, List.mem_append, List.mem_singleton] at hy
    simp only [T.size]
    rcases hy with (hy | hy) | rfl
    · have := iha h.1 n y hy
      omega
    · have := ihb h.2 (n + a.size) y hy
      omega
    · simp only
      omega

/-- The row of a pipe that is being joined: the nodes of the first tree, and j of the second one behind them. -/
structure OutRow (w W : World) (base bx : Nat) (A3 : Option Addr) (ta tb : T) (j : Nat) : Prop where
  ex : ∃ A c, Bk w bx 32 [.slice A (ta.size + j) c] ∧ OwnN w base A c (ta.put 0 ++ ((tb.put 0).take j).map (shNd ta.size)) ∧ (rowOf A = rowOf A3 ∨ ∃ g, rowOf A = some g ∧ W.heap.size ≤ g)
  size : W.heap.size ≤ w.heap.size

theorem Held.grown {w w' : World} {lo hi : Nat} {P : World → Prop} {row : Option Nat} (h : Held w lo hi P) (hg : w.grownBy w' row) (hr : ∀ g, row = some g → g < lo ∨ hi ≤ g) : Held w' lo hi P :=
  ⟨h.le, Nat.le_trans h.top hg.size, fun v hv hag => h.at_ v hv fun b h1 h2 => (hag b h1 h2).trans (hg.block b (by have := h.top; omega) (fun e => by have := hr b e.symm; omega))⟩

/-- What stays while a pipe is being joined. -/
structure JS (V w : World) (a4 a5 : Nat) (A5 : Option Addr) (c5 n5 : Nat) (q5 : List Nd) : Prop where
  more : Held V a4 a5 (fun v => OwnP v a4 a5 A5 c5 q5)
  box : Bk V a5 32 [.slice A5 n5 c5]
  res : Bk V (w.heap.size + 2) 32 [.slice none 0 0]
  bel : Below w.heap.size w V
theorem JS.grown {V V2 w : World} {a4 a5 c5 n5 : Nat} {A5 : Option Addr} {q5 : List Nd} {row : Option Nat} (h : JS V w a4 a5 A5 c5 n5 q5) (hg : V.grownBy V2 row) (hr : ∀ g, row = some g → w.heap.size + 2 < g ∧ (g < a4 ∨ a5 < g)) (h4 : a4 ≤ a5) : JS V2 w a4 a5 A5 c5 n5 q5 :=
  ⟨h.more.grown hg (fun g e => by have := hr g e; omega), h.box.grown hg (fun e => by have := hr _ e.symm; omega), h.res.grown hg (fun e => by have := hr _ e.symm; omega), h.bel.grown hg h.bel.size (fun g e => by have := hr g e; omega)⟩
theorem JS.below {V V2 w : World} {a4 a5 c5 n5 : Nat} {A5 : Option Addr} {q5 : List Nd} (h : JS V w a4 a5 A5 c5 n5 q5) (hb : Below V.heap.size V V2) : JS V2 w a4 a5 A5 c5 n5 q5 :=
  ⟨h.more.below hb h.more.top, h.box.below hb h.box.lt, h.res.below hb h.res.lt, h.bel.trans (hb.mono h.bel.size)⟩

set_option maxRecDepth 100000 in
set_option maxHeartbeats 6400000 in
theorem specJoinPipes_any (A1 : Option Addr) (c1 : Nat) (l : List Nd) (A2 : Option Addr) (c2 : Nat) (r : List Nd) (k : Int) (w : World) (B : Nat) (q : List Nd) (ok : Bool) (hq : Hid (JoinOf l r k q ok)) (h1 : RdN w B A1 l) (h2 : RdN w B A2 r) (hB : B ≤ w.heap.size) (hn1 : l.length ≤ 1048576) (hn2 : r.length ≤ 1048576) :
    Calls Try.prog 31 #[.agg #[.slice A1 l.length c1], .agg #[.slice A2 r.length c2], .int .i64 k] w fun e w' => ∃ A' c', e = .returned (.tuple #[.agg #[.slice A' q.length c'], .bool ok]) ∧ OwnN w' w.heap.size A' c' q ∧ Below w.heap.size w w' := by
  obtain ⟨W0, hW0⟩ : ∃ W0 : World, W0 = ((w.alloc (.cells #[.slice A1 l.length c1] 32)).alloc (.cells #[.slice A2 r.length c2] 32)).alloc (.cells #[.slice none 0 0] 32) := ⟨_, rfl⟩
  have hb0 : Below w.heap.size w W0 := by rw [hW0]; exact (((Below.refl w.heap.size w).alloc (Nat.le_refl _) _).alloc (by simp) _).alloc (by simp; omega) _
  have hx0 : Bk W0 w.heap.size 32 [.slice A1 l.length c1] := by rw [hW0]; exact ((Bk.new _ _ [_]).alloc _).alloc _
  have hy0 : Bk W0 (w.heap.size + 1) 32 [.slice A2 r.length c2] := by
    rw [hW0]
    have := (Bk.new (w.alloc (.cells #[.slice A1 l.length c1] 32)) 32 [.slice A2 r.length c2]).alloc (.cells #[.slice none 0 0] 32)
    simpa using this
  have hr0 : Bk W0 (w.heap.size + 2) 32 [.slice none 0 0] := by
    rw [hW0]
    have := Bk.new ((w.alloc (.cells #[.slice A1 l.length c1] 32)).alloc (.cells #[.slice A2 r.length c2] 32)) 32 [.slice none 0 0]
    have hs : ((w.alloc (.cells #[.slice A1 l.length c1] 32)).alloc (.cells #[.slice A2 r.length c2] 32)).heap.size = w.heap.size + 2 := by simp
    rw [hs] at this
    exact this
  have H0 := Lib.hid (h1.below hb0 hB)
  have G0 := Lib.hid (h2.below hb0 hB)
  have Hb0 := Lib.hid hb0
  have Hx0 := Lib.hid hx0
  have Hy0 := Lib.hid hy0
  have Hr0 := Lib.hid hr0
  have HW0 := Lib.hid hW0
  have hz0 := hb0.size
  clear h1 h2 hb0 hx0 hy0 hr0 hW0
  go_enter Try.func31, Try.ntmps31
  go_wp2_with fail
  rw [← HW0.out]
  refine (specvalidPipe_any A1 c1 l W0 B H0.out (by omega) hn1).mono ?_
  rintro e w1 ⟨rfl, hb1⟩
  have Hb1 := Lib.hid (Hb0.out.trans (hb1.mono hz0))
  have Hx1 := Lib.hid (Hx0.out.below hb1 Hx0.out.lt)
  have Hy1 := Lib.hid (Hy0.out.below hb1 Hy0.out.lt)
  have Hr1 := Lib.hid (Hr0.out.below hb1 Hr0.out.lt)
  have H1 := Lib.hid (H0.out.below hb1 (by omega))
  have G1 := Lib.hid (G0.out.below hb1 (by omega))
  have hz1 := Hb1.out.size
  have ca1 : w1.cell? ⟨w.heap.size, 0, none⟩ = some (.slice A1 l.length c1) := Hx1.out.cell 0
  have cb1 : w1.cell? ⟨w.heap.size + 1, 0, none⟩ = some (.slice A2 r.length c2) := Hy1.out.cell 0
  have d1 : w1.cell? ⟨w.heap.size + 2, 0, none⟩ = some (.slice none 0 0) := Hr1.out.cell 0
  have f1 := Hr1.out.free 0
  clear hb1 HW0
  cases hv : pipeOk l
  · obtain ⟨rfl, rfl⟩ := hq.out.no (by simp [joinOk, hv])
    have Hv := Lib.hid hv
    clear hv
    go_wp2_with fail
    refine bodyPost_ret (v := .tuple #[.agg #[.slice none 0 0], .bool false]) (by simp [results, Try.results31, go_sem, d1]) rfl ⟨none, 0, rfl, own_nil _ _, ?_⟩
    exact Hb1.out.setCell (p := ⟨w.heap.size + 2, 0, none⟩) (by simp) _
  have hlo := low_of hv
  have hhi := high_of hv
  have Hv := Lib.hid hv
  clear hv
  go_wp2_with fail
  refine (specvalidPipe_any A2 c2 r w1 B G1.out (by omega) hn2).mono ?_
  rintro e w2 ⟨rfl, hb2⟩
  clear ca1 cb1 d1 f1
  have Hb2 := Lib.hid (Hb1.out.trans (hb2.mono hz1))
  have Hx2 := Lib.hid (Hx1.out.below hb2 Hx1.out.lt)
  have Hy2 := Lib.hid (Hy1.out.below hb2 Hy1.out.lt)
  have Hr2 := Lib.hid (Hr1.out.below hb2 Hr1.out.lt)
  have H2 := Lib.hid (H1.out.below hb2 (by omega))
  have G2 := Lib.hid (G1.out.below hb2 (by omega))
  have hz2 := Hb2.out.size
  have ca2 : w2.cell? ⟨w.heap.size, 0, none⟩ = some (.slice A1 l.length c1) := Hx2.out.cell 0
  have cb2 : w2.cell? ⟨w.heap.size + 1, 0, none⟩ = some (.slice A2 r.length c2) := Hy2.out.cell 0
  have d2 : w2.cell? ⟨w.heap.size + 2, 0, none⟩ = some (.slice none 0 0) := Hr2.out.cell 0
  have f2 := Hr2.out.free 0
  clear hb2
  cases hv : pipeOk r
  · obtain ⟨rfl, rfl⟩ := hq.out.no (by simp [joinOk, hv])
    have Hv2 := Lib.hid hv
    clear hv
    go_wp2_with fail
    refine bodyPost_ret (v := .tuple #[.agg #[.slice none 0 0], .bool false]) (by simp [results, Try.results31, go_sem, d2]) rfl ⟨none, 0, rfl, own_nil _ _, ?_⟩
    exact Hb2.out.setCell (p := ⟨w.heap.size + 2, 0, none⟩) (by simp) _
  have hlo2 := low_of hv
  have hhi2 := high_of hv
  have Hv2 := Lib.hid hv
  clear hv
  rcases arity_vals k with ha | ha | ha | ha
  rotate_left 2
  rotate_left
  iterate 3
    · obtain ⟨rfl, rfl⟩ := hq.out.no (by simp [joinOk, ha])
      have Ha := Lib.hid ha
      clear ha
      go_wp2_with (go_at_call 53; refine (arity_any _ _).mono ?_; rintro e w9 ⟨rfl, rfl⟩; rw [Ha.out])
      refine bodyPost_ret (v := .tuple #[.agg #[.slice none 0 0], .bool false]) (by simp [results, Try.results31, go_sem, d2]) rfl ⟨none, 0, rfl, own_nil _ _, ?_⟩
      exact Hb2.out.setCell (p := ⟨w.heap.size + 2, 0, none⟩) (by simp) _
  by_cases h12 : 12 ≤ l.length + r.length
  · obtain ⟨rfl, rfl⟩ := hq.out.no (by simp [joinOk, ha]; omega)
    have Ha := Lib.hid ha
    clear ha
    have i12 : (12 : Int) ≤ (l.length : Int) + (r.length : Int) := by omega
    go_wp2_with (go_at_call 53; refine (arity_any _ _).mono ?_; rintro e w9 ⟨rfl, rfl⟩; rw [Ha.out])
    refine bodyPost_ret (v := .tuple #[.agg #[.slice none 0 0], .bool false]) (by simp [results, Try.results31, go_sem, d2]) rfl ⟨none, 0, rfl, own_nil _ _, ?_⟩
    exact Hb2.out.setCell (p := ⟨w.heap.size + 2, 0, none⟩) (by simp) _
  have i12 : ¬ (12 : Int) ≤ (l.length : Int) + (r.length : Int) := by omega
  obtain ⟨ta, hta⟩ := tree_of_pipe Hv.out
  obtain ⟨tb, htb⟩ := tree_of_pipe Hv2.out
  obtain ⟨hqq, rfl⟩ := hq.out.yes (by simp [joinOk, Hv.out, Hv2.out, ha]; omega) hta htb
  rw [join_parts k ta tb htb.fit2] at hqq
  have hfit := htb.fit2
  have hsa := hta.size_12 (by omega)
  have hsb := htb.size_12 (by omega)
  have hpa := ta.size_pos
  have hpb := tb.size_pos
  have Hqq := Lib.hid hqq
  have Hta := Lib.hid hta
  have Htb := Lib.hid htb
  have Hfit := Lib.hid hfit
  have Ha := Lib.hid ha
  clear hqq hta htb hfit ha hq h12
  go_wp2_with (go_at_call 53; refine (arity_any _ _).mono ?_; rintro e w9 ⟨rfl, rfl⟩; rw [Ha.out])
  rw [show ((l.length : Nat) : Int) - 1 = ((l.length - 1 : Nat) : Int) from by omega]
  refine (ordered_any Hta (by omega) A1 c1 w2 B H2.out (by omega) hn1).mono ?_
  rintro e w3 ⟨A3, c3, rfl, ho3, hb3⟩
  have Hb3 := Lib.hid (Hb2.out.trans (hb3.mono hz2))
  have Hx3 := Lib.hid (Hx2.out.below hb3 Hx2.out.lt)
  have Hy3 := Lib.hid (Hy2.out.below hb3 Hy2.out.lt)
  have Hr3 := Lib.hid (Hr2.out.below hb3 Hr2.out.lt)
  have H3 := Lib.hid (H2.out.below hb3 (by omega))
  have G3 := Lib.hid (G2.out.below hb3 (by omega))
  have hz3 := Hb3.out.size
  have cb3 : w3.cell? ⟨w.heap.size + 1, 0, none⟩ = some (.slice A2 r.length c2) := Hy3.out.cell 0
  have lt3 : w.heap.size + 1 < w3.heap.size := Hy3.out.lt
  obtain ⟨W4, hW4⟩ : ∃ W4 : World, W4 = w3.alloc (.cells #[.slice A3 ta.size c3] 32) := ⟨_, rfl⟩
  have hb4 : Below w3.heap.size w3 W4 := by rw [hW4]; exact (Below.refl _ _).alloc (Nat.le_refl _) _
  have hk4 : Bk W4 w3.heap.size 32 [.slice A3 ta.size c3] := by rw [hW4]; exact Bk.new _ _ [_]
  have ho4 := ho3.below hb4 (Nat.le_refl _)
  have hl3 : ∀ g, rowOf A3 = some g → g < w3.heap.size := fun g hg => (ho3.row_lt g hg).2
  have hz23 := hb3.size
  have Hb4 := Lib.hid (Hb3.out.trans (hb4.mono hz3))
  have Hx4 := Lib.hid (Hx3.out.below hb4 Hx3.out.lt)
  have Hy4 := Lib.hid (Hy3.out.below hb4 Hy3.out.lt)
  have Hr4 := Lib.hid (Hr3.out.below hb4 Hr3.out.lt)
  have H4 := Lib.hid (H3.out.below hb4 (by omega))
  have G4 := Lib.hid (G3.out.below hb4 (by omega))
  have hz4 := Hb4.out.size
  have Ho4 := Lib.hid ho4
  have Hl3 := Lib.hid hl3
  have Hk4 := Lib.hid hk4
  have HW4 := Lib.hid hW4
  have ht4 : w3.heap.size < W4.heap.size := hk4.lt
  clear hb3 ho3 hb4 ho4 hk4 hW4 ca2 cb2 d2 f2 hl3
  go_wp2_with fail
  rw [← HW4.out]
  rw [show ((r.length : Nat) : Int) - 1 = ((r.length - 1 : Nat) : Int) from by omega]
  refine (ordered_any Htb (by omega) A2 c2 W4 B G4.out (by omega) hn2).mono ?_
  rintro e w5 ⟨A5, c5, rfl, ho5, hb5⟩
  have hz45 := hb5.size
  have Ho5 := Lib.hid (Ho4.out.below hb5 (Nat.le_refl _))
  have Hk5 := Lib.hid (Hk4.out.below hb5 Hk4.out.lt)
  have Hb5 := Lib.hid (Hb4.out.trans (hb5.mono hz4))
  have Hx5 := Lib.hid (Hx4.out.below hb5 Hx4.out.lt)
  have Hy5 := Lib.hid (Hy4.out.below hb5 Hy4.out.lt)
  have Hr5 := Lib.hid (Hr4.out.below hb5 Hr4.out.lt)
  have H5 := Lib.hid (H4.out.below hb5 (by omega))
  have G5 := Lib.hid (G4.out.below hb5 (by omega))
  have hz5 := Hb5.out.size
  have hm5 : OwnP w5 W4.heap.size w5.heap.size A5 c5 (tb.put 0) := OwnP.of ho5 (Nat.le_refl _)
  have Hm5 := Lib.hid (hm5.held hz45 (Nat.le_refl _))
  obtain ⟨W6, hW6⟩ : ∃ W6 : World, W6 = w5.alloc (.cells #[.slice A5 tb.size c5] 32) := ⟨_, rfl⟩
  have hb6 : Below w5.heap.size w5 W6 := by rw [hW6]; exact (Below.refl _ _).alloc (Nat.le_refl _) _
  have hk6 : Bk W6 w5.heap.size 32 [.slice A5 tb.size c5] := by rw [hW6]; exact Bk.new _ _ [_]
  have Ho6 := Lib.hid (Ho5.out.below hb6 (Nat.le_refl _))
  have Hk6 := Lib.hid (Hk5.out.below hb6 Hk5.out.lt)
  have Hm6 := Lib.hid (Hm5.out.below hb6 Hm5.out.top)
  have ht6 : w5.heap.size < W6.heap.size := hk6.lt
  have Hb6 := Lib.hid (Hb5.out.trans (hb6.mono hz5))
  have Hx6 := Lib.hid (Hx5.out.below hb6 Hx5.out.lt)
  have Hy6 := Lib.hid (Hy5.out.below hb6 Hy5.out.lt)
  have Hr6 := Lib.hid (Hr5.out.below hb6 Hr5.out.lt)
  have H6 := Lib.hid (H5.out.below hb6 (by omega))
  have G6 := Lib.hid (G5.out.below hb6 (by omega))
  have hz6 := Hb6.out.size
  have Hj6 := Lib.hid hk6
  have HW6 := Lib.hid hW6
  clear hb5 ho5 hm5 hb6 hk6 hW6 cb3 HW4
  go_wp2_with fail
  rw [← HW6.out]
  have lr2 : w.heap.size + 2 < w2.heap.size := Hr2.out.lt
  go_loopw [11] (fun i wr => ∃ j : Nat, j ≤ tb.size ∧ i = .int .i64 j ∧ OutRow wr W6 w2.heap.size w3.heap.size A3 ta tb j ∧ JS wr w W4.heap.size w5.heap.size A5 c5 tb.size (tb.put 0)) (fun i _ => tb.size - (intOf i).toNat)
  case atStart => exact ⟨0, Nat.zero_le _, rfl, ⟨⟨A3, c3, Hk6.out, by simpa using Ho6.out, .inl rfl⟩, Nat.le_refl _⟩, ⟨Hm6.out, Hj6.out, Hr6.out, Hb6.out⟩⟩
  case round =>
    obtain ⟨j, hj, rfl, ⟨⟨Aj, cj, hbx, hoj, hat⟩, hsz⟩, hjs⟩ := hrel
    have cx : wr.cell? ⟨w3.heap.size, 0, none⟩ = some (.slice Aj (ta.size + j) cj) := hbx.cell 0
    have hlL : (ta.put 0 ++ ((tb.put 0).take j).map (shNd ta.size)).length = ta.size + j := by
      rw [List.length_append, List.length_map, List.length_take, T.put_len, T.put_len]; omega
    have hrow : ∀ g, rowOf Aj = some g → w2.heap.size ≤ g ∧ (g < w3.heap.size ∨ W6.heap.size ≤ g) := fun g hg => by
      have h1 := (hoj.row_lt g hg).1
      rcases hat with e | ⟨g2, e, h2⟩
      · have := Hl3.out g (e.symm.trans hg); omega
      · have : g2 = g := Option.some.inj (e.symm.trans hg); omega
    have HoA : Hid (∀ V, Below wr.heap.size wr V → OwnN V w2.heap.size Aj cj (ta.put 0 ++ ((tb.put 0).take j).map (shNd ta.size))) := Lib.hid (fun V hV => hoj.below hV (Nat.le_refl _))
    have HbA : Hid (∀ V V2, Below wr.heap.size wr V → V.grownBy V2 (rowOf Aj) → Bk V2 w3.heap.size 32 [.slice Aj (ta.size + j) cj] ∧ JS V2 w W4.heap.size w5.heap.size A5 c5 tb.size (tb.put 0) ∧ wr.heap.size ≤ V2.heap.size) := Lib.hid (fun V V2 hV hg =>
      ⟨(hbx.below hV hbx.lt).grown hg (fun e => by have := hrow _ e.symm; omega), (hjs.below hV).grown hg (fun g e => by have := hrow g e; omega) (by omega), Nat.le_trans hV.size hg.size⟩)
    have HlL := Lib.hid hlL
    have Hrow := Lib.hid hrow
    have Hat := Lib.hid hat
    by_cases hlt : j < tb.size
    · have hc10 : wr.cell? ⟨w5.heap.size, 0, none⟩ = some (.slice A5 tb.size c5) := hjs.box.cell 0
      obtain ⟨b, o, x, rfl, hbB, hx, c0, c1, c2, c3, c4⟩ := (hjs.more.out.own.rd).at_ (k := j) (by rw [T.put_len]; exact hlt)
      obtain ⟨ba0, ba1, bb0, bb1⟩ := T.put_bd tb Hfit.out 0 x (List.mem_of_getElem? hx)
      have lw3 : w3.heap.size < wr.heap.size := by omega
      have Hx := Lib.hid hx
      clear hx hbx hoj hat hjs hlL hrow
      by_cases ha0 : 0 ≤ x.a
      · by_cases hb0 : 0 ≤ x.b
        · have Hsh : Hid (shNd ta.size x = ⟨x.k, x.a + (ta.size : Int), x.b + (ta.size : Int), x.n, x.m⟩) := Lib.hid (by simp [shNd, ha0, hb0])
          go_wp2_with (at_builtin; refine wpList_append_node rfl _ _ rfl w2.heap.size Aj cj (ta.put 0 ++ ((tb.put 0).take j).map (shNd ta.size)) ⟨x.k, x.a + (ta.size : Int), x.b + (ta.size : Int), x.n, x.m⟩ (ta.size + j) HlL.out rfl (HoA.out _ (by repeat (first | exact Below.refl _ _ | refine Below.setCell ?_ (by first | exact Nat.le_refl _ | (simp; done)) _ | refine Below.alloc ?_ (by first | exact Nat.le_refl _ | (simp; done) | (simp [World.setCell]; done) | (simp [World.setCell]; omega)) _))) _ rfl (by first | (simp; done) | (simp [World.setCell]; done)) (by omega) (by first | (simp; omega) | (simp [World.setCell]; omega)) ?_; intro A' c' w7 happ; obtain ⟨hb7, hj7, hs7⟩ := HbA.out _ _ (by repeat (first | exact Below.refl _ _ | refine Below.setCell ?_ (by first | exact Nat.le_refl _ | (simp; done)) _ | refine Below.alloc ?_ (by first | exact Nat.le_refl _ | (simp; done) | (simp [World.setCell]; done) | (simp [World.setCell]; omega)) _)) happ.grown; have cx7 : w7.cell? ⟨w3.heap.size, 0, none⟩ = some (.slice Aj (ta.size + j) cj) := hb7.cell 0; have fx7 := hb7.free 0; have hown7 := happ.own; have hat7 : rowOf A' = rowOf Aj ∨ ∃ g, rowOf A' = some g ∧ W6.heap.size ≤ g := happ.at_.elim .inl (fun e => .inr ⟨_, e, by first | (simp; omega) | (simp [World.setCell]; omega)⟩); have Hb7 := Lib.hid hb7; have Hj7 := Lib.hid hj7; have Hown7 := Lib.hid hown7; have Hat7 := Lib.hid hat7; clear happ hb7 hj7 hown7 hat7)
          go_roundw
          case rel =>
            have hne7 : rowOf A' ≠ some w3.heap.size := fun e => by
              rcases Hat7.out with e7 | ⟨g, e7, hg⟩
              · have := Hrow.out _ (e7.symm.trans e); omega
              · have := Option.some.inj (e7.symm.trans e); omega
            refine ⟨j + 1, by omega, by go_num, ⟨⟨A', c', Hb7.out.set_ 0 _, ?_, ?_⟩, by first | (simp [World.setCell]; omega) | omega⟩, Hj7.out.grown (grown_one (World.grownBy.refl w7 (some w3.heap.size)) 0 _) (fun g e => by have := Option.some.inj e; omega) (by omega)⟩
            · have h9 := Hown7.out.grown (grown_one (World.grownBy.refl w7 (some w3.heap.size)) 0 (.slice A' (ta.size + j + 1) c')) (.inr hne7)
              rw [take_succ_of Hx.out, List.map_append, ← List.append_assoc, List.map_cons, List.map_nil, Hsh.out]
              exact h9
            · rcases Hat7.out with e7 | e7
              · rw [e7]; exact Hat.out
              · exact .inr e7
          case measure => simp [intOf]; omega
        · have Hsh : Hid (shNd ta.size x = ⟨x.k, x.a + (ta.size : Int), x.b, x.n, x.m⟩) := Lib.hid (by simp [shNd, ha0, hb0])
          go_wp2_with (at_builtin; refine wpList_append_node rfl _ _ rfl w2.heap.size Aj cj (ta.put 0 ++ ((tb.put 0).take j).map (shNd ta.size)) ⟨x.k, x.a + (ta.size : Int), x.b, x.n, x.m⟩ (ta.size + j) HlL.out rfl (HoA.out _ (by repeat (first | exact Below.refl _ _ | refine Below.setCell ?_ (by first | exact Nat.le_refl _ | (simp; done)) _ | refine Below.alloc ?_ (by first | exact Nat.le_refl _ | (simp; done) | (simp [World.setCell]; done) | (simp [World.setCell]; omega)) _))) _ rfl (by first | (simp; done) | (simp [World.setCell]; done)) (by omega) (by first | (simp; omega) | (simp [World.setCell]; omega)) ?_; intro A' c' w7 happ; obtain ⟨hb7, hj7, hs7⟩ := HbA.out _ _ (by repeat (first | exact Below.refl _ _ | refine Below.setCell ?_ (by first | exact Nat.le_refl _ | (simp; done)) _ | refine Below.alloc ?_ (by first | exact Nat.le_refl _ | (simp; done) | (simp [World.setCell]; done) | (simp [World.setCell]; omega)) _)) happ.grown; have cx7 : w7.cell? ⟨w3.heap.size, 0, none⟩ = some (.slice Aj (ta.size + j) cj) := hb7.cell 0; have fx7 := hb7.free 0; have hown7 := happ.own; have hat7 : rowOf A' = rowOf Aj ∨ ∃ g, rowOf A' = some g ∧ W6.heap.size ≤ g := happ.at_.elim .inl (fun e => .inr ⟨_, e, by first | (simp; omega) | (simp [World.setCell]; omega)⟩); have Hb7 := Lib.hid hb7; have Hj7 := Lib.hid hj7; have Hown7 := Lib.hid hown7; have Hat7 := Lib.hid hat7; clear happ hb7 hj7 hown7 hat7)
          go_roundw
          case rel =>
            have hne7 : rowOf A' ≠ some w3.heap.size := fun e => by
              rcases Hat7.out with e7 | ⟨g, e7, hg⟩
              · have := Hrow.out _ (e7.symm.trans e); omega
              · have := Option.some.inj (e7.symm.trans e); omega
            refine ⟨j + 1, by omega, by go_num, ⟨⟨A', c', Hb7.out.set_ 0 _, ?_, ?_⟩, by first | (simp [World.setCell]; omega) | omega⟩, Hj7.out.grown (grown_one (World.grownBy.refl w7 (some w3.heap.size)) 0 _) (fun g e => by have := Option.some.inj e; omega) (by omega)⟩
            · have h9 := Hown7.out.grown (grown_one (World.grownBy.refl w7 (some w3.heap.size)) 0 (.slice A' (ta.size + j + 1) c')) (.inr hne7)
              rw [take_succ_of Hx.out, List.map_append, ← List.append_assoc, List.map_cons, List.map_nil, Hsh.out]
              exact h9
            · rcases Hat7.out with e7 | e7
              · rw [e7]; exact Hat.out
              · exact .inr e7
          case measure => simp [intOf]; omega
      · by_cases hb0 : 0 ≤ x.b
        · have Hsh : Hid (shNd ta.size x = ⟨x.k, x.a, x.b + (ta.size : Int), x.n, x.m⟩) := Lib.hid (by simp [shNd, ha0, hb0])
          go_wp2_with (at_builtin; refine wpList_append_node rfl _ _ rfl w2.heap.size Aj cj (ta.put 0 ++ ((tb.put 0).take j).map (shNd ta.size)) ⟨x.k, x.a, x.b + (ta.size : Int), x.n, x.m⟩ (ta.size + j) HlL.out rfl (HoA.out _ (by repeat (first | exact Below.refl _ _ | refine Below.setCell ?_ (by first | exact Nat.le_refl _ | (simp; done)) _ | refine Below.alloc ?_ (by first | exact Nat.le_refl _ | (simp; done) | (simp [World.setCell]; done) | (simp [World.setCell]; omega)) _))) _ rfl (by first | (simp; done) | (simp [World.setCell]; done)) (by omega) (by first | (simp; omega) | (simp [World.setCell]; omega)) ?_; intro A' c' w7 happ; obtain ⟨hb7, hj7, hs7⟩ := HbA.out _ _ (by repeat (first | exact Below.refl _ _ | refine Below.setCell ?_ (by first | exact Nat.le_refl _ | (simp; done)) _ | refine Below.alloc ?_ (by first | exact Nat.le_refl _ | (simp; done) | (simp [World.setCell]; done) | (simp [World.setCell]; omega)) _)) happ.grown; have cx7 : w7.cell? ⟨w3.heap.size, 0, none⟩ = some (.slice Aj (ta.size + j) cj) := hb7.cell 0; have fx7 := hb7.free 0; have hown7 := happ.own; have hat7 : rowOf A' = rowOf Aj ∨ ∃ g, rowOf A' = some g ∧ W6.heap.size ≤ g := happ.at_.elim .inl (fun e => .inr ⟨_, e, by first | (simp; omega) | (simp [World.setCell]; omega)⟩); have Hb7 := Lib.hid hb7; have Hj7 := Lib.hid hj7; have Hown7 := Lib.hid hown7; have Hat7 := Lib.hid hat7; clear happ hb7 hj7 hown7 hat7)
          go_roundw
          case rel =>
            have hne7 : rowOf A' ≠ some w3.heap.size := fun e => by
              rcases Hat7.out with e7 | ⟨g, e7, hg⟩
              · have := Hrow.out _ (e7.symm.trans e); omega
              · have := Option.some.inj (e7.symm.trans e); omega
            refine ⟨j + 1, by omega, by go_num, ⟨⟨A', c', Hb7.out.set_ 0 _, ?_, ?_⟩, by first | (simp [World.setCell]; omega) | omega⟩, Hj7.out.grown (grown_one (World.grownBy.refl w7 (some w3.heap.size)) 0 _) (fun g e => by have := Option.some.inj e; omega) (by omega)⟩
            · have h9 := Hown7.out.grown (grown_one (World.grownBy.refl w7 (some w3.heap.size)) 0 (.slice A' (ta.size + j + 1) c')) (.inr hne7)
              rw [take_succ_of Hx.out, List.map_append, ← List.append_assoc, List.map_cons, List.map_nil, Hsh.out]
              exact h9
            · rcases Hat7.out with e7 | e7
              · rw [e7]; exact Hat.out
              · exact .inr e7
          case measure => simp [intOf]; omega
        · have Hsh : Hid (shNd ta.size x = ⟨x.k, x.a, x.b, x.n, x.m⟩) := Lib.hid (by simp [shNd, ha0, hb0])
          go_wp2_with (at_builtin; refine wpList_append_node rfl _ _ rfl w2.heap.size Aj cj (ta.put 0 ++ ((tb.put 0).take j).map (shNd ta.size)) ⟨x.k, x.a, x.b, x.n, x.m⟩ (ta.size + j) HlL.out rfl (HoA.out _ (by repeat (first | exact Below.refl _ _ | refine Below.setCell ?_ (by first | exact Nat.le_refl _ | (simp; done)) _ | refine Below.alloc ?_ (by first | exact Nat.le_refl _ | (simp; done) | (simp [World.setCell]; done) | (simp [World.setCell]; omega)) _))) _ rfl (by first | (simp; done) | (simp [World.setCell]; done)) (by omega) (by first | (simp; omega) | (simp [World.setCell]; omega)) ?_; intro A' c' w7 happ; obtain ⟨hb7, hj7, hs7⟩ := HbA.out _ _ (by repeat (first | exact Below.refl _ _ | refine Below.setCell ?_ (by first | exact Nat.le_refl _ | (simp; done)) _ | refine Below.alloc ?_ (by first | exact Nat.le_refl _ | (simp; done) | (simp [World.setCell]; done) | (simp [World.setCell]; omega)) _)) happ.grown; have cx7 : w7.cell? ⟨w3.heap.size, 0, none⟩ = some (.slice Aj (ta.size + j) cj) := hb7.cell 0; have fx7 := hb7.free 0; have hown7 := happ.own; have hat7 : rowOf A' = rowOf Aj ∨ ∃ g, rowOf A' = some g ∧ W6.heap.size ≤ g := happ.at_.elim .inl (fun e => .inr ⟨_, e, by first | (simp; omega) | (simp [World.setCell]; omega)⟩); have Hb7 := Lib.hid hb7; have Hj7 := Lib.hid hj7; have Hown7 := Lib.hid hown7; have Hat7 := Lib.hid hat7; clear happ hb7 hj7 hown7 hat7)
          go_roundw
          case rel =>
            have hne7 : rowOf A' ≠ some w3.heap.size := fun e => by
              rcases Hat7.out with e7 | ⟨g, e7, hg⟩
              · have := Hrow.out _ (e7.symm.trans e); omega
              · have := Option.some.inj (e7.symm.trans e); omega
            refine ⟨j + 1, by omega, by go_num, ⟨⟨A', c', Hb7.out.set_ 0 _, ?_, ?_⟩, by first | (simp [World.setCell]; omega) | omega⟩, Hj7.out.grown (grown_one (World.grownBy.refl w7 (some w3.heap.size)) 0 _) (fun g e => by have := Option.some.inj e; omega) (by omega)⟩
            · have h9 := Hown7.out.grown (grown_one (World.grownBy.refl w7 (some w3.heap.size)) 0 (.slice A' (ta.size + j + 1) c')) (.inr hne7)
              rw [take_succ_of Hx.out, List.map_append, ← List.append_assoc, List.map_cons, List.map_nil, Hsh.out]
              exact h9
            · rcases Hat7.out with e7 | e7
              · rw [e7]; exact Hat.out
              · exact .inr e7
          case measure => simp [intOf]; omega
    · obtain rfl : j = tb.size := by omega
      have hc10 : wr.cell? ⟨w5.heap.size, 0, none⟩ = some (.slice A5 tb.size c5) := hjs.box.cell 0
      have lw3 : w3.heap.size < wr.heap.size := by omega
      have nr3 : w.heap.size + 2 ≠ w3.heap.size := by omega
      clear hbx hoj hat hjs hlL hrow
      go_wp2_with (at_builtin; refine wpList_append_node rfl _ _ rfl w2.heap.size Aj cj (ta.put 0 ++ ((tb.put 0).take tb.size).map (shNd ta.size)) ⟨k, (ta.size : Int) - 1, (ta.size : Int) + (tb.size : Int) - 1, 0, 0⟩ (ta.size + tb.size) HlL.out rfl (HoA.out _ (by repeat (first | exact Below.refl _ _ | refine Below.setCell ?_ (by first | exact Nat.le_refl _ | (simp; done)) _ | refine Below.alloc ?_ (by first | exact Nat.le_refl _ | (simp; done) | (simp [World.setCell]; done) | (simp [World.setCell]; omega)) _))) _ rfl (by first | rfl | (simp; done)) (by omega) (by omega) ?_; intro A' c' w7 happ; obtain ⟨hb7, hj7, hs7⟩ := HbA.out _ _ (by repeat (first | exact Below.refl _ _ | refine Below.setCell ?_ (by first | exact Nat.le_refl _ | (simp; done)) _ | refine Below.alloc ?_ (by first | exact Nat.le_refl _ | (simp; done) | (simp [World.setCell]; done) | (simp [World.setCell]; omega)) _)) happ.grown; have cx7 : w7.cell? ⟨w3.heap.size, 0, none⟩ = some (.slice Aj (ta.size + tb.size) cj) := hb7.cell 0; have fx7 := hb7.free 0; have d7 : w7.cell? ⟨w.heap.size + 2, 0, none⟩ = some (.slice none 0 0) := hj7.res.cell 0; have f7 := hj7.res.free 0; have hown7 := happ.own; have hat7 : rowOf A' = rowOf Aj ∨ ∃ g, rowOf A' = some g ∧ W6.heap.size ≤ g := happ.at_.elim .inl (fun e => .inr ⟨_, e, by first | exact hsz | (simp; omega)⟩); have Hj7 := Lib.hid hj7; have Hown7 := Lib.hid hown7; have Hat7 := Lib.hid hat7; clear happ hb7 hj7 hown7 hat7)
      have hne7 : rowOf A' ≠ some w3.heap.size := fun e => by
        rcases Hat7.out with e7 | ⟨g, e7, hg⟩
        · have := Hrow.out _ (e7.symm.trans e); omega
        · have := Option.some.inj (e7.symm.trans e); omega
      have hq7 : OwnN w7 w2.heap.size A' c' q := by
        rw [Hqq.out]
        have h9 := Hown7.out
        rw [List.take_of_length_le (by rw [T.put_len]; exact Nat.le_refl _)] at h9
        exact h9
      have hql : q.length = ta.size + tb.size + 1 := by rw [Hqq.out]; simp [T.put_len]; omega
      have Hql := Lib.hid hql
      have Hq7 := Lib.hid hq7
      have Hne7 : Hid (rowOf A' ≠ some w3.heap.size) := Lib.hid hne7
      have Hne8 : Hid (rowOf A' ≠ some (w.heap.size + 2)) := Lib.hid (fun e => by have := (hq7.row_lt _ e).1; omega)
      clear hne7 hq7 hql
      refine bodyPost_ret (v := .tuple #[.agg #[.slice A' (ta.size + tb.size + 1) c'], .bool true]) (by simp [results, Try.results31, go_sem, d7]) rfl ⟨A', c', by rw [Hql.out], ?_, ?_⟩
      · exact ((Hq7.out.grown (grown_one (World.grownBy.refl w7 (some w3.heap.size)) 0 _) (.inr Hne7.out)).grown (grown_one (World.grownBy.refl _ (some (w.heap.size + 2))) 0 _) (.inr Hne8.out)).base_ (by omega)
      · exact (Hj7.out.bel.setCell (p := ⟨w3.heap.size, 0, none⟩) (by simp; omega) _).setCell (p := ⟨w.heap.size + 2, 0, none⟩) (by simp) _

end Go.Proofs.Ytkjhncohanfciaa
