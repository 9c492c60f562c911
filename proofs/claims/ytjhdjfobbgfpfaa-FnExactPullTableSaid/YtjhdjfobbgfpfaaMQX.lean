/- Texts on the program and its reference, put together (PiI, PiJ, PjA). -/
import Derived.Test.YtjhdjfobbgfpfaaMQW
import Derived.Deep.RegionHeld3
import Derived.Test.YtjhdjfobbgfpfaaMQP
/- Contracts: pulls by the program: how a node is pulled. -/
namespace Go.Proofs.Ytjhdjfobbgfpfaa
open Go.RowKit

set_option maxRecDepth 100000 in
set_option maxHeartbeats 6400000 in
theorem at_leaf {n0 rb cb N cc : Nat} {l : List Nd} {src : List (List Int)} {A : Option Addr} {c : Nat} {As : Option Addr} {ca : Nat} {i : Nat} {w : World} (hr : rb < w.heap.size) (hc : cb < w.heap.size) (hz : n0 ≤ w.heap.size) (hn : RdN w n0 A l) (hs : RdR w n0 As src) (hb : w.cell? ⟨rb, 0, none⟩ = some (.slice (some ⟨cb, 0, none⟩) N cc)) (hN : i < N)
    {xa xb m : Int} {q : Nat} {row : List Int} (hx : l[i]? = some ⟨0, xa, xb, (q : Int), m⟩) (hq : q < 3) (hs3 : src.length = 3) (hrow : src[q]? = some row) (hrl : row.length ≤ 12) :
    Calls Try.prog 103 #[.pointer (some ⟨rb, 0, none⟩), .agg #[.slice A l.length c], .slice As 3 ca, .int .i64 i] w (Gives n0 rb cb N cc l src (doneP i (srcP src i ⟨0, xa, xb, (q : Int), m⟩)) w) := by
  have Hrow := Lib.hid hrow
  have Hs := Lib.hid hs
  clear hs hrow
  have hi : i < l.length := (List.getElem?_eq_some_iff.1 hx).1
  obtain ⟨nb, no, x2, rfl, hnb, hx2, y0, y1, y2, y3, y4⟩ := hn.at_ hi
  obtain rfl : x2 = _ := Option.some.inj (hx2.symm.trans hx)
  simp only at y0 y1 y2 y3 y4
  obtain ⟨W1, hW1⟩ : ∃ W1 : World, W1 = w.alloc (.cells #[.slice (some ⟨nb, no, none⟩) l.length c] 32) := ⟨_, rfl⟩
  have hb1 : Below w.heap.size w W1 := by rw [hW1]; exact (Below.refl _ _).alloc (Nat.le_refl _) _
  have kE : Bk W1 w.heap.size 32 [.slice (some ⟨nb, no, none⟩) l.length c] := by rw [hW1]; exact Bk.new _ _ [_]
  have hz1 : W1.heap.size = w.heap.size + 1 := by rw [hW1]; simp
  have eE := kE.cell 0
  simp only [List.getElem?_cons_zero] at eE
  have z0 := (hb1.cell (p := ⟨nb, no + i * 5, none⟩) (by simp only; omega)).trans y0
  have z1 := (hb1.cell (p := ⟨nb, no + i * 5 + 1, none⟩) (by simp only; omega)).trans y1
  have z2 := (hb1.cell (p := ⟨nb, no + i * 5 + 2, none⟩) (by simp only; omega)).trans y2
  have z3 := (hb1.cell (p := ⟨nb, no + i * 5 + 3, none⟩) (by simp only; omega)).trans y3
  have z4 := (hb1.cell (p := ⟨nb, no + i * 5 + 4, none⟩) (by simp only; omega)).trans y4
  have zb := (hb1.cell (p := ⟨rb, 0, none⟩) hr).trans hb
  have HW1 := Lib.hid hW1
  have Hb1 := Lib.hid hb1
  have HkE := Lib.hid kE
  have Hn := Lib.hid hn
  have Hx := Lib.hid hx
  have Hb := Lib.hid hb
  have Hz := Lib.hid hz
  clear hn hx hx2 hW1 hb1 kE y0 y1 y2 y3 y4 hb hz
  go_enter Try.func103, Try.ntmps103
  go_wp2_with fail
  rw [← HW1.out]
  go_region_held3 (fun w' => w'.cell? ⟨w.heap.size, 0, none⟩ = some (.slice (some ⟨nb, no, none⟩) l.length c) ∧ w'.cell? ⟨nb, no + i * 5, none⟩ = some (.int .i64 0) ∧ w'.cell? ⟨nb, no + i * 5 + 1, none⟩ = some (.int .i64 xa) ∧ w'.cell? ⟨nb, no + i * 5 + 2, none⟩ = some (.int .i64 xb) ∧ w'.cell? ⟨nb, no + i * 5 + 3, none⟩ = some (.int .i64 (q : Int)) ∧ w'.cell? ⟨nb, no + i * 5 + 4, none⟩ = some (.int .i64 m) ∧ w'.cell? ⟨rb, 0, none⟩ = some (.slice (some ⟨cb, 0, none⟩) N cc)) (first | exact ⟨eE, z0, z1, z2, z3, z4, zb⟩ | go_keep) (fail)
  have kN0 := Bk.new W1 104 [.int .i64 0, .int .i64 xa, .int .i64 xb, .int .i64 (q : Int), .int .i64 m]
  rw [hz1] at kN0
  obtain ⟨W2, hW2⟩ : ∃ X, (W1.alloc (.cells #[.int .i64 0, .int .i64 xa, .int .i64 xb, .int .i64 (q : Int), .int .i64 m] 104)).drew = X := ⟨_, rfl⟩
  rw [hW2]
  have kN : Bk W2 (w.heap.size + 1) 104 [.int .i64 0, .int .i64 xa, .int .i64 xb, .int .i64 (q : Int), .int .i64 m] := by rw [← hW2]; exact kN0.drew_
  have kE2 : Bk W2 w.heap.size 32 [.slice (some ⟨nb, no, none⟩) l.length c] := by rw [← hW2]; exact (HkE.out.alloc _).drew_
  have hb12 : Below W1.heap.size W1 W2 := by rw [← hW2]; exact ((Below.refl _ _).alloc (Nat.le_refl _) _).drew
  have hb2 : Below w.heap.size w W2 := Hb1.out.trans (hb12.mono (by omega))
  have hz2 : W2.heap.size = w.heap.size + 2 := by rw [← hW2]; simp; omega
  have n0c := kN.cell 0
  have n1c := kN.cell 1
  have n2c := kN.cell 2
  have n3c := kN.cell 3
  have n4c := kN.cell 4
  have e2c := kE2.cell 0
  simp only [List.getElem?_cons_zero, List.getElem?_cons_succ] at n0c n1c n2c n3c n4c e2c
  have HkN := Lib.hid kN
  have HkE2 := Lib.hid kE2
  have Hb2 := Lib.hid hb2
  clear kN0 hW2 kN kE2 hb12 hb2 z0 z1 z2 z3 z4 zb eE hz1
  go_wp2_with fail
  refine (nodesBelow_any _ _).mono ?_
  rintro e wn ⟨rfl, rfl⟩
  simp only [show arity 0 = 0 from rfl]
  go_wp2_with fail
  obtain ⟨ad, row2, Ar, cr, rfl, hrow2, hcr, hri⟩ := (Hs.out.below Hb2.out Hz.out).at_ (k := q) (by omega)
  obtain rfl : row2 = row := Option.some.inj (hrow2.symm.trans Hrow.out)
  obtain ⟨_, e3, hadB, _⟩ := (Hs.out.below Hb2.out Hz.out) (by omega)
  obtain rfl := Option.some.inj e3
  have hz0 := Hz.out
  have hab : (ad.add q).block < W2.heap.size := by rw [add_block]; omega
  have hq0 : (0 : Int) ≤ (q : Int) := by omega
  have hq1 : (q : Int) < 3 := by omega
  have hq2 : (q : Int) ≤ 3 := by omega
  have hr2 : rb < W2.heap.size := by omega
  have hc2 : cb < W2.heap.size := by omega
  have Hri := Lib.hid hri
  clear hri hrow2 e3 hadB
  go_region_held3 (fun w' => w'.cell? ⟨w.heap.size + 1, 3, none⟩ = some (.int .i64 (q : Int)) ∧ w'.cell? (ad.add q) = some (.slice Ar row2.length cr)) (first | exact ⟨n3c, hcr⟩ | exact ks | go_keep)
    (first
      | (
        go_at_call 116
        refine (c_source (n0 := n0) (rb := rb) (cb := cb) (N := N) (cc := cc) (l := l) (src := src) (i := i) (x := ⟨0, xa, xb, (q : Int), m⟩) (w := W2.drew) hr2 hc2 Hx.out rfl rfl Hrow.out hrl Hri.out (Nat.le_trans hz0 Hb2.out.size)).mono ?_
        rintro e w3 ⟨fv, rfl, hb3, hp3⟩
        obtain ⟨k3, lb3, rfl, eg3, hp4⟩ := hp3
        have P3 := Lib.hid (show Puller n0 rb cb N cc l src _ (.func (.func k3) #[] lb3) w3 from ⟨k3, lb3, rfl, eg3, hp4⟩)
        have hb23 : Below W2.heap.size W2 w3 := ((Below.refl W2.heap.size W2).drew).trans hb3
        have hz3 := hb23.size
        have ks := And.intro ((hb23.cell (p := ⟨w.heap.size + 1, 3, none⟩) (by simp only; omega)).trans n3c) ((hb23.cell (p := ad.add q) hab).trans hcr)
        have Hb23 := Lib.hid hb23
        clear eg3 hp4 hb3 hb23)
      | (
        go_at_call 115
        refine (c_done (n0 := n0) (rb := rb) (cb := cb) (N := N) (cc := cc) (l := l) (src := src) (i := i) (show rb < w3.heap.size by omega) (show cb < w3.heap.size by omega) (srcP_keep Hx.out) P3.out hi).mono ?_
        rintro e w4 ⟨fv4, rfl, hb4, hp4⟩
        obtain ⟨k4, lb4, rfl, eg4, hp5⟩ := hp4
        have P4 := Lib.hid (show Puller n0 rb cb N cc l src _ (.func (.func k4) #[] lb4) w4 from ⟨k4, lb4, rfl, eg4, hp5⟩)
        have hb24 : Below W2.heap.size W2 w4 := Hb23.out.trans (hb4.mono Hb23.out.size)
        have ks := And.intro ((hb24.cell (p := ⟨w.heap.size + 1, 3, none⟩) (by simp only; omega)).trans n3c) ((hb24.cell (p := ad.add q) hab).trans hcr)
        have Hb24 := Lib.hid hb24
        clear eg4 hp5 hb4 hb24)
    )
  all_goals
    go_wp2_with fail
    refine bodyPost_ret (v := .func (.func k4) #[] lb4) (by simp [results, Try.results103, go_sem]) rfl ?_
    exact ⟨_, rfl, Hb2.out.trans (Hb24.out.mono (by omega)), P4.out⟩

theorem stem_any {n0 rb cb N cc : Nat} {l : List Nd} {src : List (List Int)} {i : Nat} {w : World} (hr : rb < w.heap.size) (hc : cb < w.heap.size) {va : Value} {fa : PF} {ja : Nat} (hja : ja < i) (hFa : Fine l src ja fa) (hPa : Puller n0 rb cb N cc l src fa va w) {x : Nd} (hx : l[i]? = some x) (ha : arity x.k = 1) (hn : numsOk x = true) :
    Calls Try.prog 117 #[.agg #[.int .i64 x.k, .int .i64 x.a, .int .i64 x.b, .int .i64 x.n, .int .i64 x.m], .pointer (some ⟨cb, i * 6, none⟩), va] w (Gives n0 rb cb N cc l src (stemP (fun s => s.M l src + 1) i x fa) w) := by
  have hk := arity_one ha
  obtain ⟨k, xa, xb, n, m⟩ := x
  simp only at hk
  rcases hk with rfl | rfl | rfl | rfl | rfl | rfl | rfl | rfl | rfl
  · simp [numsOk, inR] at hn
    exact stem_map hr hc hja hFa hPa hx (by omega) rfl
  · simp [numsOk, inR] at hn
    exact stem_filter hr hc hja hFa hPa hx (by omega) rfl
  · simp [numsOk, inR] at hn
    exact stem_take hr hc hja hFa hPa hx (by omega) rfl
  · simp [numsOk, inR] at hn
    exact stem_drop hr hc hja hFa hPa hx (by omega) rfl
  · exact stem_while hr hc hja hFa hPa hx rfl
  · exact stem_skip hr hc hja hFa hPa hx rfl
  · exact stem_scan hr hc hja hFa hPa hx rfl
  · simp [numsOk, inR] at hn
    exact stem_batch hr hc hja hFa hPa hx (by omega) rfl
  · exact stem_once hr hc hja hFa hPa hx rfl
theorem fork_any {n0 rb cb N cc : Nat} {l : List Nd} {src : List (List Int)} {i : Nat} {w : World} (hr : rb < w.heap.size) (hc : cb < w.heap.size) {va : Value} {fa : PF} {ja : Nat} (hja : ja < i) (hFa : Fine l src ja fa) (hPa : Puller n0 rb cb N cc l src fa va w) {vb : Value} {fb : PF} {jb : Nat} (hjb : jb < i) (hFb : Fine l src jb fb) (hPb : Puller n0 rb cb N cc l src fb vb w) {x : Nd} (hx : l[i]? = some x) (ha : arity x.k = 2) :
    Calls Try.prog 118 #[.int .i64 x.k, .pointer (some ⟨cb, i * 6, none⟩), va, vb] w (Gives n0 rb cb N cc l src (forkP i x fa fb) w) := by
  have hk := arity_two ha
  obtain ⟨k, xa, xb, n, m⟩ := x
  simp only at hk
  rcases hk with rfl | rfl | rfl | rfl
  · exact fork_chain hr hc hja hFa hPa hjb hFb hPb rfl
  · exact fork_zip hr hc hja hFa hPa hjb hFb hPb rfl
  · exact fork_merge hr hc hja hFa hPa hjb hFb hPb hx rfl
  · exact fork_turn hr hc hja hFa hPa hjb hFb hPb hx rfl

set_option maxRecDepth 100000 in
set_option maxHeartbeats 6400000 in
theorem at_stem {n0 rb cb N cc : Nat} {l : List Nd} {src : List (List Int)} {A : Option Addr} {c : Nat} {As : Option Addr} {ca : Nat} {i : Nat} {w : World} (hr : rb < w.heap.size) (hc : cb < w.heap.size) (hz : n0 ≤ w.heap.size) (hn : RdN w n0 A l) (hb : w.cell? ⟨rb, 0, none⟩ = some (.slice (some ⟨cb, 0, none⟩) N cc)) (hN : i < N)
    {k xb n m : Int} {j : Nat} {fa : PF} (hj : j < i) (hF : Fine l src j fa) (hx : l[i]? = some ⟨k, (j : Int), xb, n, m⟩) (ha : arity k = 1) (hnx : numsOk ⟨k, (j : Int), xb, n, m⟩ = true) (hia : ∀ W, Below w.heap.size w W → Calls Try.prog 103 #[.pointer (some ⟨rb, 0, none⟩), .agg #[.slice A l.length c], .slice As 3 ca, .int .i64 (j : Int)] W (Gives n0 rb cb N cc l src fa W)) :
    Calls Try.prog 103 #[.pointer (some ⟨rb, 0, none⟩), .agg #[.slice A l.length c], .slice As 3 ca, .int .i64 i] w (Gives n0 rb cb N cc l src (doneP i (stemP (fun s => s.M l src + 1) i ⟨k, (j : Int), xb, n, m⟩ fa)) w) := by
  have Hnx := Lib.hid hnx
  have HF := Lib.hid hF
  have Ha := Lib.hid ha
  clear hnx hF ha
  have hi : i < l.length := (List.getElem?_eq_some_iff.1 hx).1
  obtain ⟨nb, no, x2, rfl, hnb, hx2, y0, y1, y2, y3, y4⟩ := hn.at_ hi
  obtain rfl : x2 = _ := Option.some.inj (hx2.symm.trans hx)
  simp only at y0 y1 y2 y3 y4
  obtain ⟨W1, hW1⟩ : ∃ W1 : World, W1 = w.alloc (.cells #[.slice (some ⟨nb, no, none⟩) l.length c] 32) := ⟨_, rfl⟩
  have hb1 : Below w.heap.size w W1 := by rw [hW1]; exact (Below.refl _ _).alloc (Nat.le_refl _) _
  have kE : Bk W1 w.heap.size 32 [.slice (some ⟨nb, no, none⟩) l.length c] := by rw [hW1]; exact Bk.new _ _ [_]
  have hz1 : W1.heap.size = w.heap.size + 1 := by rw [hW1]; simp
  have eE := kE.cell 0
  simp only [List.getElem?_cons_zero] at eE
  have z0 := (hb1.cell (p := ⟨nb, no + i * 5, none⟩) (by simp only; omega)).trans y0
  have z1 := (hb1.cell (p := ⟨nb, no + i * 5 + 1, none⟩) (by simp only; omega)).trans y1
  have z2 := (hb1.cell (p := ⟨nb, no + i * 5 + 2, none⟩) (by simp only; omega)).trans y2
  have z3 := (hb1.cell (p := ⟨nb, no + i * 5 + 3, none⟩) (by simp only; omega)).trans y3
  have z4 := (hb1.cell (p := ⟨nb, no + i * 5 + 4, none⟩) (by simp only; omega)).trans y4
  have zb := (hb1.cell (p := ⟨rb, 0, none⟩) hr).trans hb
  have HW1 := Lib.hid hW1
  have Hb1 := Lib.hid hb1
  have HkE := Lib.hid kE
  have Hia := Lib.hid hia
  clear hia
  have Hx := Lib.hid hx
  have Hb := Lib.hid hb
  have Hz := Lib.hid hz
  clear hn hx hx2 hW1 hb1 kE y0 y1 y2 y3 y4 hb hz
  go_enter Try.func103, Try.ntmps103
  go_wp2_with fail
  rw [← HW1.out]
  go_region_held3 (fun w' => w'.cell? ⟨w.heap.size, 0, none⟩ = some (.slice (some ⟨nb, no, none⟩) l.length c) ∧ w'.cell? ⟨nb, no + i * 5, none⟩ = some (.int .i64 k) ∧ w'.cell? ⟨nb, no + i * 5 + 1, none⟩ = some (.int .i64 (j : Int)) ∧ w'.cell? ⟨nb, no + i * 5 + 2, none⟩ = some (.int .i64 xb) ∧ w'.cell? ⟨nb, no + i * 5 + 3, none⟩ = some (.int .i64 n) ∧ w'.cell? ⟨nb, no + i * 5 + 4, none⟩ = some (.int .i64 m) ∧ w'.cell? ⟨rb, 0, none⟩ = some (.slice (some ⟨cb, 0, none⟩) N cc)) (first | exact ⟨eE, z0, z1, z2, z3, z4, zb⟩ | go_keep) (fail)
  have kN0 := Bk.new W1 104 [.int .i64 k, .int .i64 (j : Int), .int .i64 xb, .int .i64 n, .int .i64 m]
  rw [hz1] at kN0
  obtain ⟨W2, hW2⟩ : ∃ X, (W1.alloc (.cells #[.int .i64 k, .int .i64 (j : Int), .int .i64 xb, .int .i64 n, .int .i64 m] 104)).drew = X := ⟨_, rfl⟩
  rw [hW2]
  have kN : Bk W2 (w.heap.size + 1) 104 [.int .i64 k, .int .i64 (j : Int), .int .i64 xb, .int .i64 n, .int .i64 m] := by rw [← hW2]; exact kN0.drew_
  have kE2 : Bk W2 w.heap.size 32 [.slice (some ⟨nb, no, none⟩) l.length c] := by rw [← hW2]; exact (HkE.out.alloc _).drew_
  have hb12 : Below W1.heap.size W1 W2 := by rw [← hW2]; exact ((Below.refl _ _).alloc (Nat.le_refl _) _).drew
  have hb2 : Below w.heap.size w W2 := Hb1.out.trans (hb12.mono (by omega))
  have hz2 : W2.heap.size = w.heap.size + 2 := by rw [← hW2]; simp; omega
  have n0c := kN.cell 0
  have n1c := kN.cell 1
  have n2c := kN.cell 2
  have n3c := kN.cell 3
  have n4c := kN.cell 4
  have e2c := kE2.cell 0
  simp only [List.getElem?_cons_zero, List.getElem?_cons_succ] at n0c n1c n2c n3c n4c e2c
  have HkN := Lib.hid kN
  have HkE2 := Lib.hid kE2
  have Hb2 := Lib.hid hb2
  clear kN0 hW2 kN kE2 hb12 hb2 z0 z1 z2 z3 z4 zb eE hz1
  go_wp2_with fail
  refine (nodesBelow_any _ _).mono ?_
  rintro e wn ⟨rfl, rfl⟩
  simp only [show arity k = 1 from Ha.out]
  go_wp2_with fail
  have hr2 : rb < W2.heap.size := by omega
  have hc2 : cb < W2.heap.size := by omega
  go_region_held3 (fun w' => w'.cell? ⟨w.heap.size, 0, none⟩ = some (.slice (some ⟨nb, no, none⟩) l.length c) ∧ w'.cell? ⟨w.heap.size + 1, 0, none⟩ = some (.int .i64 k) ∧ w'.cell? ⟨w.heap.size + 1, 1, none⟩ = some (.int .i64 (j : Int)) ∧ w'.cell? ⟨w.heap.size + 1, 2, none⟩ = some (.int .i64 xb) ∧ w'.cell? ⟨w.heap.size + 1, 3, none⟩ = some (.int .i64 n) ∧ w'.cell? ⟨w.heap.size + 1, 4, none⟩ = some (.int .i64 m)) (first | exact ⟨e2c, n0c, n1c, n2c, n3c, n4c⟩ | exact ks | go_keep)
    (first
      | (
        go_at_call 103
        refine (Hia.out W2.drew Hb2.out.drew).mono ?_
        rintro e w3 ⟨fv3, rfl, hb3, hp3⟩
        obtain ⟨k3, lb3, rfl, eg3, hq3⟩ := hp3
        have P3 := Lib.hid (show Puller n0 rb cb N cc l src _ (.func (.func k3) #[] lb3) w3 from ⟨k3, lb3, rfl, eg3, hq3⟩)
        have hc3 : Below W2.heap.size W2 w3 := ((Below.refl W2.heap.size W2).drew).trans hb3
        have hz3 := hc3.size
        have ks := And.intro ((hc3.cell (p := ⟨w.heap.size, 0, none⟩) (by simp only; omega)).trans e2c) (And.intro ((hc3.cell (p := ⟨w.heap.size + 1, 0, none⟩) (by simp only; omega)).trans n0c) (And.intro ((hc3.cell (p := ⟨w.heap.size + 1, 1, none⟩) (by simp only; omega)).trans n1c) (And.intro ((hc3.cell (p := ⟨w.heap.size + 1, 2, none⟩) (by simp only; omega)).trans n2c) (And.intro ((hc3.cell (p := ⟨w.heap.size + 1, 3, none⟩) (by simp only; omega)).trans n3c) ((hc3.cell (p := ⟨w.heap.size + 1, 4, none⟩) (by simp only; omega)).trans n4c)))))
        have HB3 := Lib.hid hc3
        clear eg3 hq3 hb3 hc3)
      | (
        go_at_call 117
        refine (stem_any (n0 := n0) (rb := rb) (cb := cb) (N := N) (cc := cc) (l := l) (src := src) (i := i) (x := ⟨k, (j : Int), xb, n, m⟩) (show rb < w3.heap.size by omega) (show cb < w3.heap.size by omega) hj HF.out P3.out Hx.out Ha.out Hnx.out).mono ?_
        rintro e w5 ⟨fv5, rfl, hb5, hp5⟩
        obtain ⟨k5, lb5, rfl, eg5, hq5⟩ := hp5
        have P5 := Lib.hid (show Puller n0 rb cb N cc l src _ (.func (.func k5) #[] lb5) w5 from ⟨k5, lb5, rfl, eg5, hq5⟩)
        have hc5 : Below W2.heap.size W2 w5 := HB3.out.trans (hb5.mono HB3.out.size)
        have hz5 := hc5.size
        have ks := And.intro ((hc5.cell (p := ⟨w.heap.size, 0, none⟩) (by simp only; omega)).trans e2c) (And.intro ((hc5.cell (p := ⟨w.heap.size + 1, 0, none⟩) (by simp only; omega)).trans n0c) (And.intro ((hc5.cell (p := ⟨w.heap.size + 1, 1, none⟩) (by simp only; omega)).trans n1c) (And.intro ((hc5.cell (p := ⟨w.heap.size + 1, 2, none⟩) (by simp only; omega)).trans n2c) (And.intro ((hc5.cell (p := ⟨w.heap.size + 1, 3, none⟩) (by simp only; omega)).trans n3c) ((hc5.cell (p := ⟨w.heap.size + 1, 4, none⟩) (by simp only; omega)).trans n4c)))))
        have HB5 := Lib.hid hc5
        clear eg5 hq5 hb5 hc5)
      | (
        go_at_call 115
        refine (c_done (n0 := n0) (rb := rb) (cb := cb) (N := N) (cc := cc) (l := l) (src := src) (i := i) (show rb < w5.heap.size by omega) (show cb < w5.heap.size by omega) (stemP_keep Hx.out Ha.out Hnx.out hj HF.out) P5.out hi).mono ?_
        rintro e w6 ⟨fv6, rfl, hb6, hp6⟩
        obtain ⟨k6, lb6, rfl, eg6, hq6⟩ := hp6
        have P6 := Lib.hid (show Puller n0 rb cb N cc l src _ (.func (.func k6) #[] lb6) w6 from ⟨k6, lb6, rfl, eg6, hq6⟩)
        have hc6 : Below W2.heap.size W2 w6 := HB5.out.trans (hb6.mono HB5.out.size)
        have hz6 := hc6.size
        have ks := And.intro ((hc6.cell (p := ⟨w.heap.size, 0, none⟩) (by simp only; omega)).trans e2c) (And.intro ((hc6.cell (p := ⟨w.heap.size + 1, 0, none⟩) (by simp only; omega)).trans n0c) (And.intro ((hc6.cell (p := ⟨w.heap.size + 1, 1, none⟩) (by simp only; omega)).trans n1c) (And.intro ((hc6.cell (p := ⟨w.heap.size + 1, 2, none⟩) (by simp only; omega)).trans n2c) (And.intro ((hc6.cell (p := ⟨w.heap.size + 1, 3, none⟩) (by simp only; omega)).trans n3c) ((hc6.cell (p := ⟨w.heap.size + 1, 4, none⟩) (by simp only; omega)).trans n4c)))))
        have HB6 := Lib.hid hc6
        clear eg6 hq6 hb6 hc6)
    )
  all_goals
    go_wp2_with fail
    refine bodyPost_ret (v := .func (.func k6) #[] lb6) (by simp [results, Try.results103, go_sem]) rfl ?_
    exact ⟨_, rfl, Hb2.out.trans (HB6.out.mono (by omega)), P6.out⟩

set_option maxRecDepth 100000 in
set_option maxHeartbeats 12800000 in
theorem at_fork {n0 rb cb N cc : Nat} {l : List Nd} {src : List (List Int)} {A : Option Addr} {c : Nat} {As : Option Addr} {ca : Nat} {i : Nat} {w : World} (hr : rb < w.heap.size) (hc : cb < w.heap.size) (hz : n0 ≤ w.heap.size) (hn : RdN w n0 A l) (hb : w.cell? ⟨rb, 0, none⟩ = some (.slice (some ⟨cb, 0, none⟩) N cc)) (hN : i < N)
    {k n m : Int} {j j2 : Nat} {fa fb : PF} (hj : j < i) (hj2 : j2 < i) (hF : Fine l src j fa) (hF2 : Fine l src j2 fb) (hx : l[i]? = some ⟨k, (j : Int), (j2 : Int), n, m⟩) (ha : arity k = 2) (hia : ∀ W, Below w.heap.size w W → Calls Try.prog 103 #[.pointer (some ⟨rb, 0, none⟩), .agg #[.slice A l.length c], .slice As 3 ca, .int .i64 (j : Int)] W (Gives n0 rb cb N cc l src fa W)) (hib : ∀ W, Below w.heap.size w W → Calls Try.prog 103 #[.pointer (some ⟨rb, 0, none⟩), .agg #[.slice A l.length c], .slice As 3 ca, .int .i64 (j2 : Int)] W (Gives n0 rb cb N cc l src fb W)) :
    Calls Try.prog 103 #[.pointer (some ⟨rb, 0, none⟩), .agg #[.slice A l.length c], .slice As 3 ca, .int .i64 i] w (Gives n0 rb cb N cc l src (doneP i (forkP i ⟨k, (j : Int), (j2 : Int), n, m⟩ fa fb)) w) := by
  have HF := Lib.hid hF
  have HF2 := Lib.hid hF2
  have Ha := Lib.hid ha
  clear hF hF2 ha
  have hi : i < l.length := (List.getElem?_eq_some_iff.1 hx).1
  obtain ⟨nb, no, x2, rfl, hnb, hx2, y0, y1, y2, y3, y4⟩ := hn.at_ hi
  obtain rfl : x2 = _ := Option.some.inj (hx2.symm.trans hx)
  simp only at y0 y1 y2 y3 y4
  obtain ⟨W1, hW1⟩ : ∃ W1 : World, W1 = w.alloc (.cells #[.slice (some ⟨nb, no, none⟩) l.length c] 32) := ⟨_, rfl⟩
  have hb1 : Below w.heap.size w W1 := by rw [hW1]; exact (Below.refl _ _).alloc (Nat.le_refl _) _
  have kE : Bk W1 w.heap.size 32 [.slice (some ⟨nb, no, none⟩) l.length c] := by rw [hW1]; exact Bk.new _ _ [_]
  have hz1 : W1.heap.size = w.heap.size + 1 := by rw [hW1]; simp
  have eE := kE.cell 0
  simp only [List.getElem?_cons_zero] at eE
  have z0 := (hb1.cell (p := ⟨nb, no + i * 5, none⟩) (by simp only; omega)).trans y0
  have z1 := (hb1.cell (p := ⟨nb, no + i * 5 + 1, none⟩) (by simp only; omega)).trans y1
  have z2 := (hb1.cell (p := ⟨nb, no + i * 5 + 2, none⟩) (by simp only; omega)).trans y2
  have z3 := (hb1.cell (p := ⟨nb, no + i * 5 + 3, none⟩) (by simp only; omega)).trans y3
  have z4 := (hb1.cell (p := ⟨nb, no + i * 5 + 4, none⟩) (by simp only; omega)).trans y4
  have zb := (hb1.cell (p := ⟨rb, 0, none⟩) hr).trans hb
  have HW1 := Lib.hid hW1
  have Hb1 := Lib.hid hb1
  have HkE := Lib.hid kE
  have Hia := Lib.hid hia
  have Hib := Lib.hid hib
  clear hia hib
  have Hx := Lib.hid hx
  have Hb := Lib.hid hb
  have Hz := Lib.hid hz
  clear hn hx hx2 hW1 hb1 kE y0 y1 y2 y3 y4 hb hz
  go_enter Try.func103, Try.ntmps103
  go_wp2_with fail
  rw [← HW1.out]
  go_region_held3 (fun w' => w'.cell? ⟨w.heap.size, 0, none⟩ = some (.slice (some ⟨nb, no, none⟩) l.length c) ∧ w'.cell? ⟨nb, no + i * 5, none⟩ = some (.int .i64 k) ∧ w'.cell? ⟨nb, no + i * 5 + 1, none⟩ = some (.int .i64 (j : Int)) ∧ w'.cell? ⟨nb, no + i * 5 + 2, none⟩ = some (.int .i64 (j2 : Int)) ∧ w'.cell? ⟨nb, no + i * 5 + 3, none⟩ = some (.int .i64 n) ∧ w'.cell? ⟨nb, no + i * 5 + 4, none⟩ = some (.int .i64 m) ∧ w'.cell? ⟨rb, 0, none⟩ = some (.slice (some ⟨cb, 0, none⟩) N cc)) (first | exact ⟨eE, z0, z1, z2, z3, z4, zb⟩ | go_keep) (fail)
  have kN0 := Bk.new W1 104 [.int .i64 k, .int .i64 (j : Int), .int .i64 (j2 : Int), .int .i64 n, .int .i64 m]
  rw [hz1] at kN0
  obtain ⟨W2, hW2⟩ : ∃ X, (W1.alloc (.cells #[.int .i64 k, .int .i64 (j : Int), .int .i64 (j2 : Int), .int .i64 n, .int .i64 m] 104)).drew = X := ⟨_, rfl⟩
  rw [hW2]
  have kN : Bk W2 (w.heap.size + 1) 104 [.int .i64 k, .int .i64 (j : Int), .int .i64 (j2 : Int), .int .i64 n, .int .i64 m] := by rw [← hW2]; exact kN0.drew_
  have kE2 : Bk W2 w.heap.size 32 [.slice (some ⟨nb, no, none⟩) l.length c] := by rw [← hW2]; exact (HkE.out.alloc _).drew_
  have hb12 : Below W1.heap.size W1 W2 := by rw [← hW2]; exact ((Below.refl _ _).alloc (Nat.le_refl _) _).drew
  have hb2 : Below w.heap.size w W2 := Hb1.out.trans (hb12.mono (by omega))
  have hz2 : W2.heap.size = w.heap.size + 2 := by rw [← hW2]; simp; omega
  have n0c := kN.cell 0
  have n1c := kN.cell 1
  have n2c := kN.cell 2
  have n3c := kN.cell 3
  have n4c := kN.cell 4
  have e2c := kE2.cell 0
  simp only [List.getElem?_cons_zero, List.getElem?_cons_succ] at n0c n1c n2c n3c n4c e2c
  have HkN := Lib.hid kN
  have HkE2 := Lib.hid kE2
  have Hb2 := Lib.hid hb2
  clear kN0 hW2 kN kE2 hb12 hb2 z0 z1 z2 z3 z4 zb eE hz1
  go_wp2_with fail
  refine (nodesBelow_any _ _).mono ?_
  rintro e wn ⟨rfl, rfl⟩
  simp only [show arity k = 2 from Ha.out]
  go_wp2_with fail
  have hr2 : rb < W2.heap.size := by omega
  have hc2 : cb < W2.heap.size := by omega
  go_region_held3 (fun w' => w'.cell? ⟨w.heap.size, 0, none⟩ = some (.slice (some ⟨nb, no, none⟩) l.length c) ∧ w'.cell? ⟨w.heap.size + 1, 0, none⟩ = some (.int .i64 k) ∧ w'.cell? ⟨w.heap.size + 1, 1, none⟩ = some (.int .i64 (j : Int)) ∧ w'.cell? ⟨w.heap.size + 1, 2, none⟩ = some (.int .i64 (j2 : Int)) ∧ w'.cell? ⟨w.heap.size + 1, 3, none⟩ = some (.int .i64 n) ∧ w'.cell? ⟨w.heap.size + 1, 4, none⟩ = some (.int .i64 m)) (first | exact ⟨e2c, n0c, n1c, n2c, n3c, n4c⟩ | exact ks | go_keep)
    (first
      | (
        go_at_call 103
        refine (Hib.out w3 (Hb2.out.trans (HB3.out.mono (by omega)))).mono ?_
        rintro e w4 ⟨fv4, rfl, hb4, hp4⟩
        obtain ⟨k4, lb4, rfl, eg4, hq4⟩ := hp4
        have P3b := Lib.hid (P3.out.fr (Fr.of_below hb4))
        have P4 := Lib.hid (show Puller n0 rb cb N cc l src _ (.func (.func k4) #[] lb4) w4 from ⟨k4, lb4, rfl, eg4, hq4⟩)
        have hc4 : Below W2.heap.size W2 w4 := HB3.out.trans (hb4.mono HB3.out.size)
        have hz4 := hc4.size
        have ks := And.intro ((hc4.cell (p := ⟨w.heap.size, 0, none⟩) (by simp only; omega)).trans e2c) (And.intro ((hc4.cell (p := ⟨w.heap.size + 1, 0, none⟩) (by simp only; omega)).trans n0c) (And.intro ((hc4.cell (p := ⟨w.heap.size + 1, 1, none⟩) (by simp only; omega)).trans n1c) (And.intro ((hc4.cell (p := ⟨w.heap.size + 1, 2, none⟩) (by simp only; omega)).trans n2c) (And.intro ((hc4.cell (p := ⟨w.heap.size + 1, 3, none⟩) (by simp only; omega)).trans n3c) ((hc4.cell (p := ⟨w.heap.size + 1, 4, none⟩) (by simp only; omega)).trans n4c)))))
        have HB4 := Lib.hid hc4
        clear eg4 hq4 hb4 hc4)
      | (
        go_at_call 103
        refine (Hia.out W2.drew Hb2.out.drew).mono ?_
        rintro e w3 ⟨fv3, rfl, hb3, hp3⟩
        obtain ⟨k3, lb3, rfl, eg3, hq3⟩ := hp3
        have P3 := Lib.hid (show Puller n0 rb cb N cc l src _ (.func (.func k3) #[] lb3) w3 from ⟨k3, lb3, rfl, eg3, hq3⟩)
        have hc3 : Below W2.heap.size W2 w3 := ((Below.refl W2.heap.size W2).drew).trans hb3
        have hz3 := hc3.size
        have ks := And.intro ((hc3.cell (p := ⟨w.heap.size, 0, none⟩) (by simp only; omega)).trans e2c) (And.intro ((hc3.cell (p := ⟨w.heap.size + 1, 0, none⟩) (by simp only; omega)).trans n0c) (And.intro ((hc3.cell (p := ⟨w.heap.size + 1, 1, none⟩) (by simp only; omega)).trans n1c) (And.intro ((hc3.cell (p := ⟨w.heap.size + 1, 2, none⟩) (by simp only; omega)).trans n2c) (And.intro ((hc3.cell (p := ⟨w.heap.size + 1, 3, none⟩) (by simp only; omega)).trans n3c) ((hc3.cell (p := ⟨w.heap.size + 1, 4, none⟩) (by simp only; omega)).trans n4c)))))
        have HB3 := Lib.hid hc3
        clear eg3 hq3 hb3 hc3)
      | (
        go_at_call 118
        refine (fork_any (n0 := n0) (rb := rb) (cb := cb) (N := N) (cc := cc) (l := l) (src := src) (i := i) (x := ⟨k, (j : Int), (j2 : Int), n, m⟩) (show rb < w4.heap.size by omega) (show cb < w4.heap.size by omega) hj HF.out P3b.out hj2 HF2.out P4.out Hx.out Ha.out).mono ?_
        rintro e w5 ⟨fv5, rfl, hb5, hp5⟩
        obtain ⟨k5, lb5, rfl, eg5, hq5⟩ := hp5
        have P5 := Lib.hid (show Puller n0 rb cb N cc l src _ (.func (.func k5) #[] lb5) w5 from ⟨k5, lb5, rfl, eg5, hq5⟩)
        have hc5 : Below W2.heap.size W2 w5 := HB4.out.trans (hb5.mono HB4.out.size)
        have hz5 := hc5.size
        have ks := And.intro ((hc5.cell (p := ⟨w.heap.size, 0, none⟩) (by simp only; omega)).trans e2c) (And.intro ((hc5.cell (p := ⟨w.heap.size + 1, 0, none⟩) (by simp only; omega)).trans n0c) (And.intro ((hc5.cell (p := ⟨w.heap.size + 1, 1, none⟩) (by simp only; omega)).trans n1c) (And.intro ((hc5.cell (p := ⟨w.heap.size + 1, 2, none⟩) (by simp only; omega)).trans n2c) (And.intro ((hc5.cell (p := ⟨w.heap.size + 1, 3, none⟩) (by simp only; omega)).trans n3c) ((hc5.cell (p := ⟨w.heap.size + 1, 4, none⟩) (by simp only; omega)).trans n4c)))))
        have HB5 := Lib.hid hc5
        clear eg5 hq5 hb5 hc5)
      | (
        go_at_call 115
        refine (c_done (n0 := n0) (rb := rb) (cb := cb) (N := N) (cc := cc) (l := l) (src := src) (i := i) (show rb < w5.heap.size by omega) (show cb < w5.heap.size by omega) (forkP_keep Hx.out Ha.out hj hj2 HF.out HF2.out) P5.out hi).mono ?_
        rintro e w6 ⟨fv6, rfl, hb6, hp6⟩
        obtain ⟨k6, lb6, rfl, eg6, hq6⟩ := hp6
        have P6 := Lib.hid (show Puller n0 rb cb N cc l src _ (.func (.func k6) #[] lb6) w6 from ⟨k6, lb6, rfl, eg6, hq6⟩)
        have hc6 : Below W2.heap.size W2 w6 := HB5.out.trans (hb6.mono HB5.out.size)
        have hz6 := hc6.size
        have ks := And.intro ((hc6.cell (p := ⟨w.heap.size, 0, none⟩) (by simp only; omega)).trans e2c) (And.intro ((hc6.cell (p := ⟨w.heap.size + 1, 0, none⟩) (by simp only; omega)).trans n0c) (And.intro ((hc6.cell (p := ⟨w.heap.size + 1, 1, none⟩) (by simp only; omega)).trans n1c) (And.intro ((hc6.cell (p := ⟨w.heap.size + 1, 2, none⟩) (by simp only; omega)).trans n2c) (And.intro ((hc6.cell (p := ⟨w.heap.size + 1, 3, none⟩) (by simp only; omega)).trans n3c) ((hc6.cell (p := ⟨w.heap.size + 1, 4, none⟩) (by simp only; omega)).trans n4c)))))
        have HB6 := Lib.hid hc6
        clear eg6 hq6 hb6 hc6)
    )
  all_goals
    go_wp2_with fail
    refine bodyPost_ret (v := .func (.func k6) #[] lb6) (by simp [results, Try.results103, go_sem]) rfl ?_
    exact ⟨_, rfl, Hb2.out.trans (HB6.out.mono (by omega)), P6.out⟩


end Go.Proofs.Ytjhdjfobbgfpfaa

/- Contracts: pulls by the program: every node is pulled, and runs. -/
namespace Go.Proofs.Ytjhdjfobbgfpfaa
open Go.RowKit

/-- What the program reads to pull a node. -/
structure Rd0 (n0 rb cb N cc : Nat) (l : List Nd) (src : List (List Int)) (A As : Option Addr) (w : World) : Prop where
  r : rb < w.heap.size
  c : cb < w.heap.size
  z : n0 ≤ w.heap.size
  n : RdN w n0 A l
  s : RdR w n0 As src
  b : w.cell? ⟨rb, 0, none⟩ = some (.slice (some ⟨cb, 0, none⟩) N cc)
theorem Rd0.below {n0 rb cb N cc : Nat} {l : List Nd} {src : List (List Int)} {A As : Option Addr} {w w' : World} (h : Rd0 n0 rb cb N cc l src A As w) (hb : Below w.heap.size w w') : Rd0 n0 rb cb N cc l src A As w' :=
  ⟨Nat.lt_of_lt_of_le h.r hb.size, Nat.lt_of_lt_of_le h.c hb.size, Nat.le_trans h.z hb.size, h.n.below hb h.z, h.s.below hb h.z, (hb.cell (p := ⟨rb, 0, none⟩) h.r).trans h.b⟩

theorem at_any {n0 rb cb N cc : Nat} {l : List Nd} {src : List (List Int)} {A : Option Addr} {c : Nat} {As : Option Addr} {ca : Nat} (hp : PipeOk l) (hs : srcOk src = true) (hN : l.length = N) {t : TI} (ht : IsTI l t) : ∀ w, Rd0 n0 rb cb N cc l src A As w →
    Calls Try.prog 103 #[.pointer (some ⟨rb, 0, none⟩), .agg #[.slice A l.length c], .slice As 3 ca, .int .i64 (t.ix : Int)] w (Gives n0 rb cb N cc l src (pull src (fun s => s.M l src + 1) t) w) := by
  have ok : ∀ (i : Nat) (x : Nd), l[i]? = some x → numsOk x = true := fun i x hx => by
    have h1 := hp.node i x hx
    simp only [nodeOk, Bool.and_eq_true] at h1
    exact h1.1
  have hs3 : src.length = 3 := (src_rows hs).1
  induction ht with
  | @leaf i x hx ha h1 h2 =>
    intro w h
    have hk := arity_zero ha
    have hn := ok _ _ hx
    obtain ⟨k, xa, xb, n, m⟩ := x
    simp only at hk h1 h2
    subst hk
    simp [numsOk, inR] at hn
    obtain ⟨q, hq⟩ : ∃ q : Nat, n = (q : Int) := ⟨n.toNat, by omega⟩
    subst hq
    obtain ⟨row, hrow⟩ := get_of_lt src (k := q) (by omega)
    have hrl := (src_rows hs).2 row (List.mem_of_getElem? hrow)
    have hi : i < N := hN ▸ (List.getElem?_eq_some_iff.1 hx).1
    exact at_leaf h.r h.c h.z h.n h.s h.b hi hx (by omega) hs3 hrow hrl
  | @stem i x t hx ha h1 hj h2 ht ih =>
    intro w h
    have hn := ok _ _ hx
    have hF := pull_fine hp hs (fu := fun s => s.M l src + 1) ht
    obtain ⟨k, xa, xb, n, m⟩ := x
    simp only at ha h1 h2
    subst h1
    have hi : i < N := hN ▸ (List.getElem?_eq_some_iff.1 hx).1
    exact at_stem h.r h.c h.z h.n h.b hi hj hF hx ha hn (fun W hb => (ih W (h.below hb)).mono fun e w' hg => hg)
  | @fork i x a b hx ha h1 hj h2 hj2 hta htb iha ihb =>
    intro w h
    have hFa := pull_fine hp hs (fu := fun s => s.M l src + 1) hta
    have hFb := pull_fine hp hs (fu := fun s => s.M l src + 1) htb
    obtain ⟨k, xa, xb, n, m⟩ := x
    simp only at ha h1 h2
    subst h1
    subst h2
    have hi : i < N := hN ▸ (List.getElem?_eq_some_iff.1 hx).1
    exact at_fork h.r h.c h.z h.n h.b hi hj hj2 hFa hFb hx ha (fun W hb => iha W (h.below hb)) (fun W hb => ihb W (h.below hb))


end Go.Proofs.Ytjhdjfobbgfpfaa

/- Contracts: pulls by the program: runs. -/
namespace Go.Proofs.Ytjhdjfobbgfpfaa
open Go.RowKit

/-- Cells in memory, in a block of their own. -/
def CsAt (w : World) (n0 cb : Nat) (cs : List Cl) : Prop := n0 ≤ cb ∧ ∃ vs, Bk w cb 79 vs ∧ ∀ (k : Nat) (x : Cl), cs[k]? = some x → ClIn vs (k * 6) x
structure NRun (n0 cb N cc : Nat) (l : List Nd) (src : List (List Int)) (G : PF) (cs : List Cl) (w : World) (e : Ending) (w' : World) : Prop where
  ex : ∃ rb k lb, e = .returned (.pointer (some ⟨rb, 0, none⟩)) ∧ w.heap.size ≤ rb ∧ IW n0 rb cb N cc (.func (.func k) #[] lb) ⟨cs, []⟩ w' ∧ (∀ (args : Array Value) (w : World), (callFunc k args).run Try.prog w = .ok (.enter k args) w) ∧ Pulls n0 rb cb N cc l src G k lb w'
  bl : Below w.heap.size w w'

set_option maxRecDepth 100000 in
set_option maxHeartbeats 6400000 in
theorem newRun_any {n0 cb cc : Nat} {l : List Nd} {src : List (List Int)} {A : Option Addr} {c : Nat} {As : Option Addr} {ca : Nat} (hp : PipeOk l) (hs : srcOk src = true) (hl12 : l.length ≤ 12) {t : TI} (ht : IsTI l t) (hix : t.ix + 1 = l.length) {cs : List Cl} (w : World) (hz : n0 ≤ w.heap.size) (hn : RdN w n0 A l) (hsr : RdR w n0 As src) (hcs : CsAt w n0 cb cs) :
    Calls Try.prog 84 #[.agg #[.slice A l.length c], .slice As 3 ca, .slice (some ⟨cb, 0, none⟩) l.length cc] w (NRun n0 cb l.length cc l src (pull src (fun s => s.M l src + 1) t) cs w) := by
  have hln : ((l.length : Int) - 1) = (t.ix : Int) := by omega
  have hlw : IntKind.i64.wrap (t.ix : Int) = (t.ix : Int) := IntWalk.i64_in _ (by omega)
  obtain ⟨hnc, vs, hbk, hvs⟩ := hcs
  have hclt := hbk.lt
  obtain ⟨W2, hW2⟩ : ∃ X : World, X = (w.alloc (.cells #[.slice A l.length c] 32)).alloc (.cells #[.slice (some ⟨cb, 0, none⟩) l.length cc, .slice none 0 0, .nilFunc] 113) := ⟨_, rfl⟩
  have hb2 : Below w.heap.size w W2 := by rw [hW2]; exact below2 w _ _
  have kR : Bk W2 (w.heap.size + 1) 113 [.slice (some ⟨cb, 0, none⟩) l.length cc, .slice none 0 0, .nilFunc] := by
    rw [hW2]
    have h := Bk.new (w.alloc (.cells #[.slice A l.length c] 32)) 113 [.slice (some ⟨cb, 0, none⟩) l.length cc, .slice none 0 0, .nilFunc]
    simpa using h
  have hrd : Rd0 n0 (w.heap.size + 1) cb l.length cc l src A As W2 := ⟨kR.lt, Nat.lt_of_lt_of_le hclt hb2.size, Nat.le_trans hz hb2.size, hn.below hb2 hz, hsr.below hb2 hz, kR.cell 0⟩
  have hcall := at_any (c := c) (ca := ca) hp hs rfl ht W2 hrd
  have hvs2 := hbk.below hb2 hclt
  have Hcall := Lib.hid hcall
  have HW2 := Lib.hid hW2
  have Hb2 := Lib.hid hb2
  have HkR := Lib.hid kR
  have Hbk := Lib.hid hvs2
  have Hvs := Lib.hid hvs
  clear hcall hW2 hb2 kR hvs2 hvs hbk hrd hn hsr ht hp hs hix
  go_enter Try.func84, Try.ntmps84
  go_wp2_with fail
  rw [← HW2.out]
  refine Hcall.out.mono ?_
  rintro e w3 ⟨fv, rfl, hb3, k, lb, rfl, eg, hp3⟩
  have kR3 := HkR.out.below hb3 HkR.out.lt
  have kC3 := Hbk.out.below hb3 Hbk.out.lt
  have r2 := kR3.cell 2
  have g2 := kR3.free 2
  simp only [List.getElem?_cons_succ, List.getElem?_cons_zero] at r2
  have hst : (store ⟨w.heap.size + 1, 2, none⟩ (.func (.func k) #[] lb)).run Try.prog w3 = .ok () (w3.setCell ⟨w.heap.size + 1, 2, none⟩ (.func (.func k) #[] lb)) := by rw [run_store _ _ _ _ _ rfl, r2]; simp only [g2]; rfl
  have HkR3 := Lib.hid kR3
  have HkC3 := Lib.hid kC3
  have Hb3 := Lib.hid (Hb2.out.trans (hb3.mono Hb2.out.size))
  have Hp3 := Lib.hid hp3
  have Heg := Lib.hid eg
  clear kR3 kC3 hb3 hp3 eg
  go_wp2_with fail
  refine bodyPost_ret (v := .pointer (some ⟨w.heap.size + 1, 0, none⟩)) (by simp [results, Try.results84, go_sem]) rfl ?_
  refine ⟨⟨w.heap.size + 1, k, lb, rfl, Nat.le_succ _, ?_, Heg.out, ?_⟩, Hb3.out.setCell (by simp only; omega) _⟩
  · refine ⟨by decide, by decide, Nat.le_trans hz (Nat.le_succ _), hnc, ⟨vs, HkC3.out.far (by simp only; omega) _, Hvs.out⟩, none, 0, HkR3.out.set_ 2 _, OwnG.nil_ _ _⟩
  · intro fe s W hf
    exact Hp3.out fe s W (((Fr.refl _ _ _ _).setp 2 _).tfi hf)


end Go.Proofs.Ytjhdjfobbgfpfaa
