/- Texts on the program and its reference, put together (PiI, PiJ, PjA, PjB, PjD, PjC, PjF, PjG, PjE, VSb, VSc, PjH). -/
import Derived.Test.YthfniffecceldaaMq5P
import Derived.Deep.RegionHeld3
import Derived.Test.YthfniffecceldaaMq5K
import Derived.Test.YthfniffecceldaaMq5M
import Derived.Test.YthfniffecceldaaMq5E
import Derived.Test.YthfniffecceldaaMq5F
import Derived.Lib.QuietBelow
import Derived.BigQuiet
/- Contracts: pulls by the program: how a node is pulled. -/
namespace Go.Proofs.Ythfniffecceldaa
open Go.RowKit

set_option maxRecDepth 100000 in
set_option maxHeartbeats 6400000 in
theorem at_leaf {n0 rb cb N cc : Nat} {l : List Nd} {src : List (List Int)} {A : Option Addr} {c : Nat} {As : Option Addr} {ca : Nat} {i : Nat} {w : World} (hr : rb < w.heap.size) (hc : cb < w.heap.size) (hz : n0 ≤ w.heap.size) (hn : RdN w n0 A l) (hs : RdR w n0 As src) (hb : w.cell? ⟨rb, 0, none⟩ = some (.slice (some ⟨cb, 0, none⟩) N cc)) (hN : i < N)
    {xa xb m : Int} {q : Nat} {row : List Int} (hx : l[i]? = some ⟨0, xa, xb, (q : Int), m⟩) (hq : q < 3) (hs3 : src.length = 3) (hrow : src[q]? = some row) (hrl : row.length ≤ 12) :
    Calls Try.prog 87 #[.pointer (some ⟨rb, 0, none⟩), .agg #[.slice A l.length c], .slice As 3 ca, .int .i64 i] w (Gives n0 rb cb N cc l src (doneP i (srcP src i ⟨0, xa, xb, (q : Int), m⟩)) w) := by
  have Hrow := Lib.hid hrow
  have Hs := Lib.hid hs
  clear hs hrow
  have hi : i < l.length := (List.getElem?_eq_some_iff.1 hx).1
  obtain ⟨nb, no, x2, rfl, hnb, hx2, y0, y1, y2, y3, y4⟩ := hn.at_ hi
  obtain rfl : x2 = _ := Option.some.inj (hx2.symm.trans hx)
  simp only at y0 y1 y2 y3 y4
  obtain ⟨W1, hW1⟩ : ∃ W1 : World, W1 = w.alloc (.cells #[.slice (some ⟨nb, no, none⟩) l.length c] 39) := ⟨_, rfl⟩
  have hb1 : Below w.heap.size w W1 := by rw [hW1]; exact (Below.refl _ _).alloc (Nat.le_refl _) _
  have kE : Bk W1 w.heap.size 39 [.slice (some ⟨nb, no, none⟩) l.length c] := by rw [hW1]; exact Bk.new _ _ [_]
  have hz1 : W1.heap.size = w.heap.size + 1 := by rw [hW1]; simp
  have eE := kE.cell 0
  simp only [List.getElem?_cons_zero] at eE
  have z0 := (hb1.cell (p := ⟨nb, no + i * 5, none⟩) (by simp only; omega)).trans y0
  have z1 := (hb1.cell (p := ⟨nb, no + i * 5 + 1, none⟩) (by simp only; omega)).trans y1
  have z2 := (hb1.cell (p := ⟨nb, no + i * 5 + 2, none⟩) (by simp only; omega)).trans y2
  have z3 := (hb1.cell (p := ⟨nb, no + i * 5 + 3, none⟩) (by simp only; omega)).trans y3
  have z4 := (hb1.cell (p := ⟨nb, no + i * 5 + 4, none⟩) (by simp only; omega)).trans y4
  have zb := (hb1.cell (p := ⟨rb, 0, none⟩) hr).trans hb
  have HW1 := Lib.hid hW1
  have Hb1 := Lib.hid hb1
  have HkE := Lib.hid kE
  have Hn := Lib.hid hn
  have Hx := Lib.hid hx
  have Hb := Lib.hid hb
  have Hz := Lib.hid hz
  clear hn hx hx2 hW1 hb1 kE y0 y1 y2 y3 y4 hb hz
  go_enter Try.func87, Try.ntmps87
  go_wp2_with fail
  rw [← HW1.out]
  go_region_held3 (fun w' => w'.cell? ⟨w.heap.size, 0, none⟩ = some (.slice (some ⟨nb, no, none⟩) l.length c) ∧ w'.cell? ⟨nb, no + i * 5, none⟩ = some (.int .i64 0) ∧ w'.cell? ⟨nb, no + i * 5 + 1, none⟩ = some (.int .i64 xa) ∧ w'.cell? ⟨nb, no + i * 5 + 2, none⟩ = some (.int .i64 xb) ∧ w'.cell? ⟨nb, no + i * 5 + 3, none⟩ = some (.int .i64 (q : Int)) ∧ w'.cell? ⟨nb, no + i * 5 + 4, none⟩ = some (.int .i64 m) ∧ w'.cell? ⟨rb, 0, none⟩ = some (.slice (some ⟨cb, 0, none⟩) N cc)) (first | exact ⟨eE, z0, z1, z2, z3, z4, zb⟩ | go_keep) (fail)
  have kN0 := Bk.new W1 97 [.int .i64 0, .int .i64 xa, .int .i64 xb, .int .i64 (q : Int), .int .i64 m]
  rw [hz1] at kN0
  obtain ⟨W2, hW2⟩ : ∃ X, (W1.alloc (.cells #[.int .i64 0, .int .i64 xa, .int .i64 xb, .int .i64 (q : Int), .int .i64 m] 97)).drew = X := ⟨_, rfl⟩
  rw [hW2]
  have kN : Bk W2 (w.heap.size + 1) 97 [.int .i64 0, .int .i64 xa, .int .i64 xb, .int .i64 (q : Int), .int .i64 m] := by rw [← hW2]; exact kN0.drew_
  have kE2 : Bk W2 w.heap.size 39 [.slice (some ⟨nb, no, none⟩) l.length c] := by rw [← hW2]; exact (HkE.out.alloc _).drew_
  have hb12 : Below W1.heap.size W1 W2 := by rw [← hW2]; exact ((Below.refl _ _).alloc (Nat.le_refl _) _).drew
  have hb2 : Below w.heap.size w W2 := Hb1.out.trans (hb12.mono (by omega))
  have hz2 : W2.heap.size = w.heap.size + 2 := by rw [← hW2]; simp; omega
  have n0c := kN.cell 0
  have n1c := kN.cell 1
  have n2c := kN.cell 2
  have n3c := kN.cell 3
  have n4c := kN.cell 4
  have e2c := kE2.cell 0
  simp only [List.getElem?_cons_zero, List.getElem?_cons_succ] at n0c n1c n2c n3c n4c e2c
  have HkN := Lib.hid kN
  have HkE2 := Lib.hid kE2
  have Hb2 := Lib.hid hb2
  clear kN0 hW2 kN kE2 hb12 hb2 z0 z1 z2 z3 z4 zb eE hz1
  go_wp2_with fail
  refine (nodesBelow_any _ _).mono ?_
  rintro e wn ⟨rfl, rfl⟩
  simp only [show arity 0 = 0 from rfl]
  go_wp2_with fail
  obtain ⟨ad, row2, Ar, cr, rfl, hrow2, hcr, hri⟩ := (Hs.out.below Hb2.out Hz.out).at_ (k := q) (by omega)
  obtain rfl : row2 = row := Option.some.inj (hrow2.symm.trans Hrow.out)
  obtain ⟨_, e3, hadB, _⟩ := (Hs.out.below Hb2.out Hz.out) (by omega)
  obtain rfl := Option.some.inj e3
  have hz0 := Hz.out
  have hab : (ad.add q).block < W2.heap.size := by rw [add_block]; omega
  have hq0 : (0 : Int) ≤ (q : Int) := by omega
  have hq1 : (q : Int) < 3 := by omega
  have hq2 : (q : Int) ≤ 3 := by omega
  have hr2 : rb < W2.heap.size := by omega
  have hc2 : cb < W2.heap.size := by omega
  have Hri := Lib.hid hri
  clear hri hrow2 e3 hadB
  go_region_held3 (fun w' => w'.cell? ⟨w.heap.size + 1, 3, none⟩ = some (.int .i64 (q : Int)) ∧ w'.cell? (ad.add q) = some (.slice Ar row2.length cr)) (first | exact ⟨n3c, hcr⟩ | exact ks | go_keep)
    (first
      | (
        go_at_call 95
        refine (c_source (n0 := n0) (rb := rb) (cb := cb) (N := N) (cc := cc) (l := l) (src := src) (i := i) (x := ⟨0, xa, xb, (q : Int), m⟩) (w := W2.drew) hr2 hc2 Hx.out rfl rfl Hrow.out hrl Hri.out (Nat.le_trans hz0 Hb2.out.size)).mono ?_
        rintro e w3 ⟨fv, rfl, hb3, hp3⟩
        obtain ⟨k3, lb3, rfl, eg3, hp4⟩ := hp3
        have P3 := Lib.hid (show Puller n0 rb cb N cc l src _ (.func (.func k3) #[] lb3) w3 from ⟨k3, lb3, rfl, eg3, hp4⟩)
        have hb23 : Below W2.heap.size W2 w3 := ((Below.refl W2.heap.size W2).drew).trans hb3
        have hz3 := hb23.size
        have ks := And.intro ((hb23.cell (p := ⟨w.heap.size + 1, 3, none⟩) (by simp only; omega)).trans n3c) ((hb23.cell (p := ad.add q) hab).trans hcr)
        have Hb23 := Lib.hid hb23
        clear eg3 hp4 hb3 hb23)
      | (
        go_at_call 94
        refine (c_done (n0 := n0) (rb := rb) (cb := cb) (N := N) (cc := cc) (l := l) (src := src) (i := i) (show rb < w3.heap.size by omega) (show cb < w3.heap.size by omega) (srcP_keep Hx.out) P3.out hi).mono ?_
        rintro e w4 ⟨fv4, rfl, hb4, hp4⟩
        obtain ⟨k4, lb4, rfl, eg4, hp5⟩ := hp4
        have P4 := Lib.hid (show Puller n0 rb cb N cc l src _ (.func (.func k4) #[] lb4) w4 from ⟨k4, lb4, rfl, eg4, hp5⟩)
        have hb24 : Below W2.heap.size W2 w4 := Hb23.out.trans (hb4.mono Hb23.out.size)
        have ks := And.intro ((hb24.cell (p := ⟨w.heap.size + 1, 3, none⟩) (by simp only; omega)).trans n3c) ((hb24.cell (p := ad.add q) hab).trans hcr)
        have Hb24 := Lib.hid hb24
        clear eg4 hp5 hb4 hb24)
    )
  all_goals
    go_wp2_with fail
    refine bodyPost_ret (v := .func (.func k4) #[] lb4) (by simp [results, Try.results87, go_sem]) rfl ?_
    exact ⟨_, rfl, Hb2.out.trans (Hb24.out.mono (by omega)), P4.out⟩

theorem stem_any {n0 rb cb N cc : Nat} {l : List Nd} {src : List (List Int)} {i : Nat} {w : World} (hr : rb < w.heap.size) (hc : cb < w.heap.size) {va : Value} {fa : PF} {ja : Nat} (hja : ja < i) (hFa : Fine l src ja fa) (hPa : Puller n0 rb cb N cc l src fa va w) {x : Nd} (hx : l[i]? = some x) (ha : arity x.k = 1) (hn : numsOk x = true) :
    Calls Try.prog 96 #[.agg #[.int .i64 x.k, .int .i64 x.a, .int .i64 x.b, .int .i64 x.n, .int .i64 x.m], .pointer (some ⟨cb, i * 6, none⟩), va] w (Gives n0 rb cb N cc l src (stemP (fun s => s.M l src + 1) i x fa) w) := by
  have hk := arity_one ha
  obtain ⟨k, xa, xb, n, m⟩ := x
  simp only at hk
  rcases hk with rfl | rfl | rfl | rfl | rfl | rfl | rfl | rfl | rfl
  · simp [numsOk, inR] at hn
    exact stem_map hr hc hja hFa hPa hx (by omega) rfl
  · simp [numsOk, inR] at hn
    exact stem_filter hr hc hja hFa hPa hx (by omega) rfl
  · simp [numsOk, inR] at hn
    exact stem_take hr hc hja hFa hPa hx (by omega) rfl
  · simp [numsOk, inR] at hn
    exact stem_drop hr hc hja hFa hPa hx (by omega) rfl
  · exact stem_while hr hc hja hFa hPa hx rfl
  · exact stem_skip hr hc hja hFa hPa hx rfl
  · exact stem_scan hr hc hja hFa hPa hx rfl
  · simp [numsOk, inR] at hn
    exact stem_batch hr hc hja hFa hPa hx (by omega) rfl
  · exact stem_once hr hc hja hFa hPa hx rfl
theorem fork_any {n0 rb cb N cc : Nat} {l : List Nd} {src : List (List Int)} {i : Nat} {w : World} (hr : rb < w.heap.size) (hc : cb < w.heap.size) {va : Value} {fa : PF} {ja : Nat} (hja : ja < i) (hFa : Fine l src ja fa) (hPa : Puller n0 rb cb N cc l src fa va w) {vb : Value} {fb : PF} {jb : Nat} (hjb : jb < i) (hFb : Fine l src jb fb) (hPb : Puller n0 rb cb N cc l src fb vb w) {x : Nd} (hx : l[i]? = some x) (ha : arity x.k = 2) :
    Calls Try.prog 97 #[.int .i64 x.k, .pointer (some ⟨cb, i * 6, none⟩), va, vb] w (Gives n0 rb cb N cc l src (forkP i x fa fb) w) := by
  have hk := arity_two ha
  obtain ⟨k, xa, xb, n, m⟩ := x
  simp only at hk
  rcases hk with rfl | rfl | rfl | rfl
  · exact fork_chain hr hc hja hFa hPa hjb hFb hPb rfl
  · exact fork_zip hr hc hja hFa hPa hjb hFb hPb rfl
  · exact fork_merge hr hc hja hFa hPa hjb hFb hPb hx rfl
  · exact fork_turn hr hc hja hFa hPa hjb hFb hPb hx rfl

set_option maxRecDepth 100000 in
set_option maxHeartbeats 6400000 in
theorem at_stem {n0 rb cb N cc : Nat} {l : List Nd} {src : List (List Int)} {A : Option Addr} {c : Nat} {As : Option Addr} {ca : Nat} {i : Nat} {w : World} (hr : rb < w.heap.size) (hc : cb < w.heap.size) (hz : n0 ≤ w.heap.size) (hn : RdN w n0 A l) (hb : w.cell? ⟨rb, 0, none⟩ = some (.slice (some ⟨cb, 0, none⟩) N cc)) (hN : i < N)
    {k xb n m : Int} {j : Nat} {fa : PF} (hj : j < i) (hF : Fine l src j fa) (hx : l[i]? = some ⟨k, (j : Int), xb, n, m⟩) (ha : arity k = 1) (hnx : numsOk ⟨k, (j : Int), xb, n, m⟩ = true) (hia : ∀ W, Below w.heap.size w W → Calls Try.prog 87 #[.pointer (some ⟨rb, 0, none⟩), .agg #[.slice A l.length c], .slice As 3 ca, .int .i64 (j : Int)] W (Gives n0 rb cb N cc l src fa W)) :
    Calls Try.prog 87 #[.pointer (some ⟨rb, 0, none⟩), .agg #[.slice A l.length c], .slice As 3 ca, .int .i64 i] w (Gives n0 rb cb N cc l src (doneP i (stemP (fun s => s.M l src + 1) i ⟨k, (j : Int), xb, n, m⟩ fa)) w) := by
  have Hnx := Lib.hid hnx
  have HF := Lib.hid hF
  have Ha := Lib.hid ha
  clear hnx hF ha
  have hi : i < l.length := (List.getElem?_eq_some_iff.1 hx).1
  obtain ⟨nb, no, x2, rfl, hnb, hx2, y0, y1, y2, y3, y4⟩ := hn.at_ hi
  obtain rfl : x2 = _ := Option.some.inj (hx2.symm.trans hx)
  simp only at y0 y1 y2 y3 y4
  obtain ⟨W1, hW1⟩ : ∃ W1 : World, W1 = w.alloc (.cells #[.slice (some ⟨nb, no, none⟩) l.length c] 39) := ⟨_, rfl⟩
  have hb1 : Below w.heap.size w W1 := by rw [hW1]; exact (Below.refl _ _).alloc (Nat.le_refl _) _
  have kE : Bk W1 w.heap.size 39 [.slice (some ⟨nb, no, none⟩) l.length c] := by rw [hW1]; exact Bk.new _ _ [_]
  have hz1 : W1.heap.size = w.heap.size + 1 := by rw [hW1]; simp
  have eE := kE.cell 0
  simp only [List.getElem?_cons_zero] at eE
  have z0 := (hb1.cell (p := ⟨nb, no + i * 5, none⟩) (by simp only; omega)).trans y0
  have z1 := (hb1.cell (p := ⟨nb, no + i * 5 + 1, none⟩) (by simp only; omega)).trans y1
  have z2 := (hb1.cell (p := ⟨nb, no + i * 5 + 2, none⟩) (by simp only; omega)).trans y2
  have z3 := (hb1.cell (p := ⟨nb, no + i * 5 + 3, none⟩) (by simp only; omega)).trans y3
  have z4 := (hb1.cell (p := ⟨nb, no + i * 5 + 4, none⟩) (by simp only; omega)).trans y4
  have zb := (hb1.cell (p := ⟨rb, 0, none⟩) hr).trans hb
  have HW1 := Lib.hid hW1
  have Hb1 := Lib.hid hb1
  have HkE := Lib.hid kE
  have Hia := Lib.hid hia
  clear hia
  have Hx := Lib.hid hx
  have Hb := Lib.hid hb
  have Hz := Lib.hid hz
  clear hn hx hx2 hW1 hb1 kE y0 y1 y2 y3 y4 hb hz
  go_enter Try.func87, Try.ntmps87
  go_wp2_with fail
  rw [← HW1.out]
  go_region_held3 (fun w' => w'.cell? ⟨w.heap.size, 0, none⟩ = some (.slice (some ⟨nb, no, none⟩) l.length c) ∧ w'.cell? ⟨nb, no + i * 5, none⟩ = some (.int .i64 k) ∧ w'.cell? ⟨nb, no + i * 5 + 1, none⟩ = some (.int .i64 (j : Int)) ∧ w'.cell? ⟨nb, no + i * 5 + 2, none⟩ = some (.int .i64 xb) ∧ w'.cell? ⟨nb, no + i * 5 + 3, none⟩ = some (.int .i64 n) ∧ w'.cell? ⟨nb, no + i * 5 + 4, none⟩ = some (.int .i64 m) ∧ w'.cell? ⟨rb, 0, none⟩ = some (.slice (some ⟨cb, 0, none⟩) N cc)) (first | exact ⟨eE, z0, z1, z2, z3, z4, zb⟩ | go_keep) (fail)
  have kN0 := Bk.new W1 97 [.int .i64 k, .int .i64 (j : Int), .int .i64 xb, .int .i64 n, .int .i64 m]
  rw [hz1] at kN0
  obtain ⟨W2, hW2⟩ : ∃ X, (W1.alloc (.cells #[.int .i64 k, .int .i64 (j : Int), .int .i64 xb, .int .i64 n, .int .i64 m] 97)).drew = X := ⟨_, rfl⟩
  rw [hW2]
  have kN : Bk W2 (w.heap.size + 1) 97 [.int .i64 k, .int .i64 (j : Int), .int .i64 xb, .int .i64 n, .int .i64 m] := by rw [← hW2]; exact kN0.drew_
  have kE2 : Bk W2 w.heap.size 39 [.slice (some ⟨nb, no, none⟩) l.length c] := by rw [← hW2]; exact (HkE.out.alloc _).drew_
  have hb12 : Below W1.heap.size W1 W2 := by rw [← hW2]; exact ((Below.refl _ _).alloc (Nat.le_refl _) _).drew
  have hb2 : Below w.heap.size w W2 := Hb1.out.trans (hb12.mono (by omega))
  have hz2 : W2.heap.size = w.heap.size + 2 := by rw [← hW2]; simp; omega
  have n0c := kN.cell 0
  have n1c := kN.cell 1
  have n2c := kN.cell 2
  have n3c := kN.cell 3
  have n4c := kN.cell 4
  have e2c := kE2.cell 0
  simp only [List.getElem?_cons_zero, List.getElem?_cons_succ] at n0c n1c n2c n3c n4c e2c
  have HkN := Lib.hid kN
  have HkE2 := Lib.hid kE2
  have Hb2 := Lib.hid hb2
  clear kN0 hW2 kN kE2 hb12 hb2 z0 z1 z2 z3 z4 zb eE hz1
  go_wp2_with fail
  refine (nodesBelow_any _ _).mono ?_
  rintro e wn ⟨rfl, rfl⟩
  simp only [show arity k = 1 from Ha.out]
  go_wp2_with fail
  have hr2 : rb < W2.heap.size := by omega
  have hc2 : cb < W2.heap.size := by omega
  go_region_held3 (fun w' => w'.cell? ⟨w.heap.size, 0, none⟩ = some (.slice (some ⟨nb, no, none⟩) l.length c) ∧ w'.cell? ⟨w.heap.size + 1, 0, none⟩ = some (.int .i64 k) ∧ w'.cell? ⟨w.heap.size + 1, 1, none⟩ = some (.int .i64 (j : Int)) ∧ w'.cell? ⟨w.heap.size + 1, 2, none⟩ = some (.int .i64 xb) ∧ w'.cell? ⟨w.heap.size + 1, 3, none⟩ = some (.int .i64 n) ∧ w'.cell? ⟨w.heap.size + 1, 4, none⟩ = some (.int .i64 m)) (first | exact ⟨e2c, n0c, n1c, n2c, n3c, n4c⟩ | exact ks | go_keep)
    (first
      | (
        go_at_call 87
        refine (Hia.out W2.drew Hb2.out.drew).mono ?_
        rintro e w3 ⟨fv3, rfl, hb3, hp3⟩
        obtain ⟨k3, lb3, rfl, eg3, hq3⟩ := hp3
        have P3 := Lib.hid (show Puller n0 rb cb N cc l src _ (.func (.func k3) #[] lb3) w3 from ⟨k3, lb3, rfl, eg3, hq3⟩)
        have hc3 : Below W2.heap.size W2 w3 := ((Below.refl W2.heap.size W2).drew).trans hb3
        have hz3 := hc3.size
        have ks := And.intro ((hc3.cell (p := ⟨w.heap.size, 0, none⟩) (by simp only; omega)).trans e2c) (And.intro ((hc3.cell (p := ⟨w.heap.size + 1, 0, none⟩) (by simp only; omega)).trans n0c) (And.intro ((hc3.cell (p := ⟨w.heap.size + 1, 1, none⟩) (by simp only; omega)).trans n1c) (And.intro ((hc3.cell (p := ⟨w.heap.size + 1, 2, none⟩) (by simp only; omega)).trans n2c) (And.intro ((hc3.cell (p := ⟨w.heap.size + 1, 3, none⟩) (by simp only; omega)).trans n3c) ((hc3.cell (p := ⟨w.heap.size + 1, 4, none⟩) (by simp only; omega)).trans n4c)))))
        have HB3 := Lib.hid hc3
        clear eg3 hq3 hb3 hc3)
      | (
        go_at_call 96
        refine (stem_any (n0 := n0) (rb := rb) (cb := cb) (N := N) (cc := cc) (l := l) (src := src) (i := i) (x := ⟨k, (j : Int), xb, n, m⟩) (show rb < w3.heap.size by omega) (show cb < w3.heap.size by omega) hj HF.out P3.out Hx.out Ha.out Hnx.out).mono ?_
        rintro e w5 ⟨fv5, rfl, hb5, hp5⟩
        obtain ⟨k5, lb5, rfl, eg5, hq5⟩ := hp5
        have P5 := Lib.hid (show Puller n0 rb cb N cc l src _ (.func (.func k5) #[] lb5) w5 from ⟨k5, lb5, rfl, eg5, hq5⟩)
        have hc5 : Below W2.heap.size W2 w5 := HB3.out.trans (hb5.mono HB3.out.size)
        have hz5 := hc5.size
        have ks := And.intro ((hc5.cell (p := ⟨w.heap.size, 0, none⟩) (by simp only; omega)).trans e2c) (And.intro ((hc5.cell (p := ⟨w.heap.size + 1, 0, none⟩) (by simp only; omega)).trans n0c) (And.intro ((hc5.cell (p := ⟨w.heap.size + 1, 1, none⟩) (by simp only; omega)).trans n1c) (And.intro ((hc5.cell (p := ⟨w.heap.size + 1, 2, none⟩) (by simp only; omega)).trans n2c) (And.intro ((hc5.cell (p := ⟨w.heap.size + 1, 3, none⟩) (by simp only; omega)).trans n3c) ((hc5.cell (p := ⟨w.heap.size + 1, 4, none⟩) (by simp only; omega)).trans n4c)))))
        have HB5 := Lib.hid hc5
        clear eg5 hq5 hb5 hc5)
      | (
        go_at_call 94
        refine (c_done (n0 := n0) (rb := rb) (cb := cb) (N := N) (cc := cc) (l := l) (src := src) (i := i) (show rb < w5.heap.size by omega) (show cb < w5.heap.size by omega) (stemP_keep Hx.out Ha.out Hnx.out hj HF.out) P5.out hi).mono ?_
        rintro e w6 ⟨fv6, rfl, hb6, hp6⟩
        obtain ⟨k6, lb6, rfl, eg6, hq6⟩ := hp6
        have P6 := Lib.hid (show Puller n0 rb cb N cc l src _ (.func (.func k6) #[] lb6) w6 from ⟨k6, lb6, rfl, eg6, hq6⟩)
        have hc6 : Below W2.heap.size W2 w6 := HB5.out.trans (hb6.mono HB5.out.size)
        have hz6 := hc6.size
        have ks := And.intro ((hc6.cell (p := ⟨w.heap.size, 0, none⟩) (by simp only; omega)).trans e2c) (And.intro ((hc6.cell (p := ⟨w.heap.size + 1, 0, none⟩) (by simp only; omega)).trans n0c) (And.intro ((hc6.cell (p := ⟨w.heap.size + 1, 1, none⟩) (by simp only; omega)).trans n1c) (And.intro ((hc6.cell (p := ⟨w.heap.size + 1, 2, none⟩) (by simp only; omega)).trans n2c) (And.intro ((hc6.cell (p := ⟨w.heap.size + 1, 3, none⟩) (by simp only; omega)).trans n3c) ((hc6.cell (p := ⟨w.heap.size + 1, 4, none⟩) (by simp only; omega)).trans n4c)))))
        have HB6 := Lib.hid hc6
        clear eg6 hq6 hb6 hc6)
    )
  all_goals
    go_wp2_with fail
    refine bodyPost_ret (v := .func (.func k6) #[] lb6) (by simp [results, Try.results87, go_sem]) rfl ?_
    exact ⟨_, rfl, Hb2.out.trans (HB6.out.mono (by omega)), P6.out⟩

set_option maxRecDepth 100000 in
set_option maxHeartbeats 12800000 in
theorem at_fork {n0 rb cb N cc : Nat} {l : List Nd} {src : List (List Int)} {A : Option Addr} {c : Nat} {As : Option Addr} {ca : Nat} {i : Nat} {w : World} (hr : rb < w.heap.size) (hc : cb < w.heap.size) (hz : n0 ≤ w.heap.size) (hn : RdN w n0 A l) (hb : w.cell? ⟨rb, 0, none⟩ = some (.slice (some ⟨cb, 0, none⟩) N cc)) (hN : i < N)
    {k n m : Int} {j j2 : Nat} {fa fb : PF} (hj : j < i) (hj2 : j2 < i) (hF : Fine l src j fa) (hF2 : Fine l src j2 fb) (hx : l[i]? = some ⟨k, (j : Int), (j2 : Int), n, m⟩) (ha : arity k = 2) (hia : ∀ W, Below w.heap.size w W → Calls Try.prog 87 #[.pointer (some ⟨rb, 0, none⟩), .agg #[.slice A l.length c], .slice As 3 ca, .int .i64 (j : Int)] W (Gives n0 rb cb N cc l src fa W)) (hib : ∀ W, Below w.heap.size w W → Calls Try.prog 87 #[.pointer (some ⟨rb, 0, none⟩), .agg #[.slice A l.length c], .slice As 3 ca, .int .i64 (j2 : Int)] W (Gives n0 rb cb N cc l src fb W)) :
    Calls Try.prog 87 #[.pointer (some ⟨rb, 0, none⟩), .agg #[.slice A l.length c], .slice As 3 ca, .int .i64 i] w (Gives n0 rb cb N cc l src (doneP i (forkP i ⟨k, (j : Int), (j2 : Int), n, m⟩ fa fb)) w) := by
  have HF := Lib.hid hF
  have HF2 := Lib.hid hF2
  have Ha := Lib.hid ha
  clear hF hF2 ha
  have hi : i < l.length := (List.getElem?_eq_some_iff.1 hx).1
  obtain ⟨nb, no, x2, rfl, hnb, hx2, y0, y1, y2, y3, y4⟩ := hn.at_ hi
  obtain rfl : x2 = _ := Option.some.inj (hx2.symm.trans hx)
  simp only at y0 y1 y2 y3 y4
  obtain ⟨W1, hW1⟩ : ∃ W1 : World, W1 = w.alloc (.cells #[.slice (some ⟨nb, no, none⟩) l.length c] 39) := ⟨_, rfl⟩
  have hb1 : Below w.heap.size w W1 := by rw [hW1]; exact (Below.refl _ _).alloc (Nat.le_refl _) _
  have kE : Bk W1 w.heap.size 39 [.slice (some ⟨nb, no, none⟩) l.length c] := by rw [hW1]; exact Bk.new _ _ [_]
  have hz1 : W1.heap.size = w.heap.size + 1 := by rw [hW1]; simp
  have eE := kE.cell 0
  simp only [List.getElem?_cons_zero] at eE
  have z0 := (hb1.cell (p := ⟨nb, no + i * 5, none⟩) (by simp only; omega)).trans y0
  have z1 := (hb1.cell (p := ⟨nb, no + i * 5 + 1, none⟩) (by simp only; omega)).trans y1
  have z2 := (hb1.cell (p := ⟨nb, no + i * 5 + 2, none⟩) (by simp only; omega)).trans y2
  have z3 := (hb1.cell (p := ⟨nb, no + i * 5 + 3, none⟩) (by simp only; omega)).trans y3
  have z4 := (hb1.cell (p := ⟨nb, no + i * 5 + 4, none⟩) (by simp only; omega)).trans y4
  have zb := (hb1.cell (p := ⟨rb, 0, none⟩) hr).trans hb
  have HW1 := Lib.hid hW1
  have Hb1 := Lib.hid hb1
  have HkE := Lib.hid kE
  have Hia := Lib.hid hia
  have Hib := Lib.hid hib
  clear hia hib
  have Hx := Lib.hid hx
  have Hb := Lib.hid hb
  have Hz := Lib.hid hz
  clear hn hx hx2 hW1 hb1 kE y0 y1 y2 y3 y4 hb hz
  go_enter Try.func87, Try.ntmps87
  go_wp2_with fail
  rw [← HW1.out]
  go_region_held3 (fun w' => w'.cell? ⟨w.heap.size, 0, none⟩ = some (.slice (some ⟨nb, no, none⟩) l.length c) ∧ w'.cell? ⟨nb, no + i * 5, none⟩ = some (.int .i64 k) ∧ w'.cell? ⟨nb, no + i * 5 + 1, none⟩ = some (.int .i64 (j : Int)) ∧ w'.cell? ⟨nb, no + i * 5 + 2, none⟩ = some (.int .i64 (j2 : Int)) ∧ w'.cell? ⟨nb, no + i * 5 + 3, none⟩ = some (.int .i64 n) ∧ w'.cell? ⟨nb, no + i * 5 + 4, none⟩ = some (.int .i64 m) ∧ w'.cell? ⟨rb, 0, none⟩ = some (.slice (some ⟨cb, 0, none⟩) N cc)) (first | exact ⟨eE, z0, z1, z2, z3, z4, zb⟩ | go_keep) (fail)
  have kN0 := Bk.new W1 97 [.int .i64 k, .int .i64 (j : Int), .int .i64 (j2 : Int), .int .i64 n, .int .i64 m]
  rw [hz1] at kN0
  obtain ⟨W2, hW2⟩ : ∃ X, (W1.alloc (.cells #[.int .i64 k, .int .i64 (j : Int), .int .i64 (j2 : Int), .int .i64 n, .int .i64 m] 97)).drew = X := ⟨_, rfl⟩
  rw [hW2]
  have kN : Bk W2 (w.heap.size + 1) 97 [.int .i64 k, .int .i64 (j : Int), .int .i64 (j2 : Int), .int .i64 n, .int .i64 m] := by rw [← hW2]; exact kN0.drew_
  have kE2 : Bk W2 w.heap.size 39 [.slice (some ⟨nb, no, none⟩) l.length c] := by rw [← hW2]; exact (HkE.out.alloc _).drew_
  have hb12 : Below W1.heap.size W1 W2 := by rw [← hW2]; exact ((Below.refl _ _).alloc (Nat.le_refl _) _).drew
  have hb2 : Below w.heap.size w W2 := Hb1.out.trans (hb12.mono (by omega))
  have hz2 : W2.heap.size = w.heap.size + 2 := by rw [← hW2]; simp; omega
  have n0c := kN.cell 0
  have n1c := kN.cell 1
  have n2c := kN.cell 2
  have n3c := kN.cell 3
  have n4c := kN.cell 4
  have e2c := kE2.cell 0
  simp only [List.getElem?_cons_zero, List.getElem?_cons_succ] at n0c n1c n2c n3c n4c e2c
  have HkN := Lib.hid kN
  have HkE2 := Lib.hid kE2
  have Hb2 := Lib.hid hb2
  clear kN0 hW2 kN kE2 hb12 hb2 z0 z1 z2 z3 z4 zb eE hz1
  go_wp2_with fail
  refine (nodesBelow_any _ _).mono ?_
  rintro e wn ⟨rfl, rfl⟩
  simp only [show arity k = 2 from Ha.out]
  go_wp2_with fail
  have hr2 : rb < W2.heap.size := by omega
  have hc2 : cb < W2.heap.size := by omega
  go_region_held3 (fun w' => w'.cell? ⟨w.heap.size, 0, none⟩ = some (.slice (some ⟨nb, no, none⟩) l.length c) ∧ w'.cell? ⟨w.heap.size + 1, 0, none⟩ = some (.int .i64 k) ∧ w'.cell? ⟨w.heap.size + 1, 1, none⟩ = some (.int .i64 (j : Int)) ∧ w'.cell? ⟨w.heap.size + 1, 2, none⟩ = some (.int .i64 (j2 : Int)) ∧ w'.cell? ⟨w.heap.size + 1, 3, none⟩ = some (.int .i64 n) ∧ w'.cell? ⟨w.heap.size + 1, 4, none⟩ = some (.int .i64 m)) (first | exact ⟨e2c, n0c, n1c, n2c, n3c, n4c⟩ | exact ks | go_keep)
    (first
      | (
        go_at_call 87
        refine (Hib.out w3 (Hb2.out.trans (HB3.out.mono (by omega)))).mono ?_
        rintro e w4 ⟨fv4, rfl, hb4, hp4⟩
        obtain ⟨k4, lb4, rfl, eg4, hq4⟩ := hp4
        have P3b := Lib.hid (P3.out.fr (Fr.of_below hb4))
        have P4 := Lib.hid (show Puller n0 rb cb N cc l src _ (.func (.func k4) #[] lb4) w4 from ⟨k4, lb4, rfl, eg4, hq4⟩)
        have hc4 : Below W2.heap.size W2 w4 := HB3.out.trans (hb4.mono HB3.out.size)
        have hz4 := hc4.size
        have ks := And.intro ((hc4.cell (p := ⟨w.heap.size, 0, none⟩) (by simp only; omega)).trans e2c) (And.intro ((hc4.cell (p := ⟨w.heap.size + 1, 0, none⟩) (by simp only; omega)).trans n0c) (And.intro ((hc4.cell (p := ⟨w.heap.size + 1, 1, none⟩) (by simp only; omega)).trans n1c) (And.intro ((hc4.cell (p := ⟨w.heap.size + 1, 2, none⟩) (by simp only; omega)).trans n2c) (And.intro ((hc4.cell (p := ⟨w.heap.size + 1, 3, none⟩) (by simp only; omega)).trans n3c) ((hc4.cell (p := ⟨w.heap.size + 1, 4, none⟩) (by simp only; omega)).trans n4c)))))
        have HB4 := Lib.hid hc4
        clear eg4 hq4 hb4 hc4)
      | (
        go_at_call 87
        refine (Hia.out W2.drew Hb2.out.drew).mono ?_
        rintro e w3 ⟨fv3, rfl, hb3, hp3⟩
        obtain ⟨k3, lb3, rfl, eg3, hq3⟩ := hp3
        have P3 := Lib.hid (show Puller n0 rb cb N cc l src _ (.func (.func k3) #[] lb3) w3 from ⟨k3, lb3, rfl, eg3, hq3⟩)
        have hc3 : Below W2.heap.size W2 w3 := ((Below.refl W2.heap.size W2).drew).trans hb3
        have hz3 := hc3.size
        have ks := And.intro ((hc3.cell (p := ⟨w.heap.size, 0, none⟩) (by simp only; omega)).trans e2c) (And.intro ((hc3.cell (p := ⟨w.heap.size + 1, 0, none⟩) (by simp only; omega)).trans n0c) (And.intro ((hc3.cell (p := ⟨w.heap.size + 1, 1, none⟩) (by simp only; omega)).trans n1c) (And.intro ((hc3.cell (p := ⟨w.heap.size + 1, 2, none⟩) (by simp only; omega)).trans n2c) (And.intro ((hc3.cell (p := ⟨w.heap.size + 1, 3, none⟩) (by simp only; omega)).trans n3c) ((hc3.cell (p := ⟨w.heap.size + 1, 4, none⟩) (by simp only; omega)).trans n4c)))))
        have HB3 := Lib.hid hc3
        clear eg3 hq3 hb3 hc3)
      | (
        go_at_call 97
        refine (fork_any (n0 := n0) (rb := rb) (cb := cb) (N := N) (cc := cc) (l := l) (src := src) (i := i) (x := ⟨k, (j : Int), (j2 : Int), n, m⟩) (show rb < w4.heap.size by omega) (show cb < w4.heap.size by omega) hj HF.out P3b.out hj2 HF2.out P4.out Hx.out Ha.out).mono ?_
        rintro e w5 ⟨fv5, rfl, hb5, hp5⟩
        obtain ⟨k5, lb5, rfl, eg5, hq5⟩ := hp5
        have P5 := Lib.hid (show Puller n0 rb cb N cc l src _ (.func (.func k5) #[] lb5) w5 from ⟨k5, lb5, rfl, eg5, hq5⟩)
        have hc5 : Below W2.heap.size W2 w5 := HB4.out.trans (hb5.mono HB4.out.size)
        have hz5 := hc5.size
        have ks := And.intro ((hc5.cell (p := ⟨w.heap.size, 0, none⟩) (by simp only; omega)).trans e2c) (And.intro ((hc5.cell (p := ⟨w.heap.size + 1, 0, none⟩) (by simp only; omega)).trans n0c) (And.intro ((hc5.cell (p := ⟨w.heap.size + 1, 1, none⟩) (by simp only; omega)).trans n1c) (And.intro ((hc5.cell (p := ⟨w.heap.size + 1, 2, none⟩) (by simp only; omega)).trans n2c) (And.intro ((hc5.cell (p := ⟨w.heap.size + 1, 3, none⟩) (by simp only; omega)).trans n3c) ((hc5.cell (p := ⟨w.heap.size + 1, 4, none⟩) (by simp only; omega)).trans n4c)))))
        have HB5 := Lib.hid hc5
        clear eg5 hq5 hb5 hc5)
      | (
        go_at_call 94
        refine (c_done (n0 := n0) (rb := rb) (cb := cb) (N := N) (cc := cc) (l := l) (src := src) (i := i) (show rb < w5.heap.size by omega) (show cb < w5.heap.size by omega) (forkP_keep Hx.out Ha.out hj hj2 HF.out HF2.out) P5.out hi).mono ?_
        rintro e w6 ⟨fv6, rfl, hb6, hp6⟩
        obtain ⟨k6, lb6, rfl, eg6, hq6⟩ := hp6
        have P6 := Lib.hid (show Puller n0 rb cb N cc l src _ (.func (.func k6) #[] lb6) w6 from ⟨k6, lb6, rfl, eg6, hq6⟩)
        have hc6 : Below W2.heap.size W2 w6 := HB5.out.trans (hb6.mono HB5.out.size)
        have hz6 := hc6.size
        have ks := And.intro ((hc6.cell (p := ⟨w.heap.size, 0, none⟩) (by simp only; omega)).trans e2c) (And.intro ((hc6.cell (p := ⟨w.heap.size + 1, 0, none⟩) (by simp only; omega)).trans n0c) (And.intro ((hc6.cell (p := ⟨w.heap.size + 1, 1, none⟩) (by simp only; omega)).trans n1c) (And.intro ((hc6.cell (p := ⟨w.heap.size + 1, 2, none⟩) (by simp only; omega)).trans n2c) (And.intro ((hc6.cell (p := ⟨w.heap.size + 1, 3, none⟩) (by simp only; omega)).trans n3c) ((hc6.cell (p := ⟨w.heap.size + 1, 4, none⟩) (by simp only; omega)).trans n4c)))))
        have HB6 := Lib.hid hc6
        clear eg6 hq6 hb6 hc6)
    )
  all_goals
    go_wp2_with fail
    refine bodyPost_ret (v := .func (.func k6) #[] lb6) (by simp [results, Try.results87, go_sem]) rfl ?_
    exact ⟨_, rfl, Hb2.out.trans (HB6.out.mono (by omega)), P6.out⟩


end Go.Proofs.Ythfniffecceldaa

/- Contracts: pulls by the program: every node is pulled, and runs. -/
namespace Go.Proofs.Ythfniffecceldaa
open Go.RowKit

/-- What the program reads to pull a node. -/
structure Rd0 (n0 rb cb N cc : Nat) (l : List Nd) (src : List (List Int)) (A As : Option Addr) (w : World) : Prop where
  r : rb < w.heap.size
  c : cb < w.heap.size
  z : n0 ≤ w.heap.size
  n : RdN w n0 A l
  s : RdR w n0 As src
  b : w.cell? ⟨rb, 0, none⟩ = some (.slice (some ⟨cb, 0, none⟩) N cc)
theorem Rd0.below {n0 rb cb N cc : Nat} {l : List Nd} {src : List (List Int)} {A As : Option Addr} {w w' : World} (h : Rd0 n0 rb cb N cc l src A As w) (hb : Below w.heap.size w w') : Rd0 n0 rb cb N cc l src A As w' :=
  ⟨Nat.lt_of_lt_of_le h.r hb.size, Nat.lt_of_lt_of_le h.c hb.size, Nat.le_trans h.z hb.size, h.n.below hb h.z, h.s.below hb h.z, (hb.cell (p := ⟨rb, 0, none⟩) h.r).trans h.b⟩

theorem at_any {n0 rb cb N cc : Nat} {l : List Nd} {src : List (List Int)} {A : Option Addr} {c : Nat} {As : Option Addr} {ca : Nat} (hp : PipeOk l) (hs : srcOk src = true) (hN : l.length = N) {t : TI} (ht : IsTI l t) : ∀ w, Rd0 n0 rb cb N cc l src A As w →
    Calls Try.prog 87 #[.pointer (some ⟨rb, 0, none⟩), .agg #[.slice A l.length c], .slice As 3 ca, .int .i64 (t.ix : Int)] w (Gives n0 rb cb N cc l src (pull src (fun s => s.M l src + 1) t) w) := by
  have ok : ∀ (i : Nat) (x : Nd), l[i]? = some x → numsOk x = true := fun i x hx => by
    have h1 := hp.node i x hx
    simp only [nodeOk, Bool.and_eq_true] at h1
    exact h1.1
  have hs3 : src.length = 3 := (src_rows hs).1
  induction ht with
  | @leaf i x hx ha h1 h2 =>
    intro w h
    have hk := arity_zero ha
    have hn := ok _ _ hx
    obtain ⟨k, xa, xb, n, m⟩ := x
    simp only at hk h1 h2
    subst hk
    simp [numsOk, inR] at hn
    obtain ⟨q, hq⟩ : ∃ q : Nat, n = (q : Int) := ⟨n.toNat, by omega⟩
    subst hq
    obtain ⟨row, hrow⟩ := get_of_lt src (k := q) (by omega)
    have hrl := (src_rows hs).2 row (List.mem_of_getElem? hrow)
    have hi : i < N := hN ▸ (List.getElem?_eq_some_iff.1 hx).1
    exact at_leaf h.r h.c h.z h.n h.s h.b hi hx (by omega) hs3 hrow hrl
  | @stem i x t hx ha h1 hj h2 ht ih =>
    intro w h
    have hn := ok _ _ hx
    have hF := pull_fine hp hs (fu := fun s => s.M l src + 1) ht
    obtain ⟨k, xa, xb, n, m⟩ := x
    simp only at ha h1 h2
    subst h1
    have hi : i < N := hN ▸ (List.getElem?_eq_some_iff.1 hx).1
    exact at_stem h.r h.c h.z h.n h.b hi hj hF hx ha hn (fun W hb => (ih W (h.below hb)).mono fun e w' hg => hg)
  | @fork i x a b hx ha h1 hj h2 hj2 hta htb iha ihb =>
    intro w h
    have hFa := pull_fine hp hs (fu := fun s => s.M l src + 1) hta
    have hFb := pull_fine hp hs (fu := fun s => s.M l src + 1) htb
    obtain ⟨k, xa, xb, n, m⟩ := x
    simp only at ha h1 h2
    subst h1
    subst h2
    have hi : i < N := hN ▸ (List.getElem?_eq_some_iff.1 hx).1
    exact at_fork h.r h.c h.z h.n h.b hi hj hj2 hFa hFb hx ha (fun W hb => iha W (h.below hb)) (fun W hb => ihb W (h.below hb))


end Go.Proofs.Ythfniffecceldaa

/- Contracts: pulls by the program: runs. -/
namespace Go.Proofs.Ythfniffecceldaa
open Go.RowKit

/-- Cells in memory, in a block of their own. -/
def CsAt (w : World) (n0 cb : Nat) (cs : List Cl) : Prop := n0 ≤ cb ∧ ∃ vs, Bk w cb 66 vs ∧ ∀ (k : Nat) (x : Cl), cs[k]? = some x → ClIn vs (k * 6) x
structure NRun (n0 cb N cc : Nat) (l : List Nd) (src : List (List Int)) (G : PF) (cs : List Cl) (w : World) (e : Ending) (w' : World) : Prop where
  ex : ∃ rb k lb, e = .returned (.pointer (some ⟨rb, 0, none⟩)) ∧ w.heap.size ≤ rb ∧ IW n0 rb cb N cc (.func (.func k) #[] lb) ⟨cs, []⟩ w' ∧ (∀ (args : Array Value) (w : World), (callFunc k args).run Try.prog w = .ok (.enter k args) w) ∧ Pulls n0 rb cb N cc l src G k lb w'
  bl : Below w.heap.size w w'

set_option maxRecDepth 100000 in
set_option maxHeartbeats 6400000 in
theorem newRun_any {n0 cb cc : Nat} {l : List Nd} {src : List (List Int)} {A : Option Addr} {c : Nat} {As : Option Addr} {ca : Nat} (hp : PipeOk l) (hs : srcOk src = true) (hl12 : l.length ≤ 12) {t : TI} (ht : IsTI l t) (hix : t.ix + 1 = l.length) {cs : List Cl} (w : World) (hz : n0 ≤ w.heap.size) (hn : RdN w n0 A l) (hsr : RdR w n0 As src) (hcs : CsAt w n0 cb cs) :
    Calls Try.prog 71 #[.agg #[.slice A l.length c], .slice As 3 ca, .slice (some ⟨cb, 0, none⟩) l.length cc] w (NRun n0 cb l.length cc l src (pull src (fun s => s.M l src + 1) t) cs w) := by
  have hln : ((l.length : Int) - 1) = (t.ix : Int) := by omega
  have hlw : IntKind.i64.wrap (t.ix : Int) = (t.ix : Int) := IntWalk.i64_in _ (by omega)
  obtain ⟨hnc, vs, hbk, hvs⟩ := hcs
  have hclt := hbk.lt
  obtain ⟨W2, hW2⟩ : ∃ X : World, X = (w.alloc (.cells #[.slice A l.length c] 39)).alloc (.cells #[.slice (some ⟨cb, 0, none⟩) l.length cc, .slice none 0 0, .nilFunc] 116) := ⟨_, rfl⟩
  have hb2 : Below w.heap.size w W2 := by rw [hW2]; exact below2 w _ _
  have kR : Bk W2 (w.heap.size + 1) 116 [.slice (some ⟨cb, 0, none⟩) l.length cc, .slice none 0 0, .nilFunc] := by
    rw [hW2]
    have h := Bk.new (w.alloc (.cells #[.slice A l.length c] 39)) 116 [.slice (some ⟨cb, 0, none⟩) l.length cc, .slice none 0 0, .nilFunc]
    simpa using h
  have hrd : Rd0 n0 (w.heap.size + 1) cb l.length cc l src A As W2 := ⟨kR.lt, Nat.lt_of_lt_of_le hclt hb2.size, Nat.le_trans hz hb2.size, hn.below hb2 hz, hsr.below hb2 hz, kR.cell 0⟩
  have hcall := at_any (c := c) (ca := ca) hp hs rfl ht W2 hrd
  have hvs2 := hbk.below hb2 hclt
  have Hcall := Lib.hid hcall
  have HW2 := Lib.hid hW2
  have Hb2 := Lib.hid hb2
  have HkR := Lib.hid kR
  have Hbk := Lib.hid hvs2
  have Hvs := Lib.hid hvs
  clear hcall hW2 hb2 kR hvs2 hvs hbk hrd hn hsr ht hp hs hix
  go_enter Try.func71, Try.ntmps71
  go_wp2_with fail
  rw [← HW2.out]
  refine Hcall.out.mono ?_
  rintro e w3 ⟨fv, rfl, hb3, k, lb, rfl, eg, hp3⟩
  have kR3 := HkR.out.below hb3 HkR.out.lt
  have kC3 := Hbk.out.below hb3 Hbk.out.lt
  have r2 := kR3.cell 2
  have g2 := kR3.free 2
  simp only [List.getElem?_cons_succ, List.getElem?_cons_zero] at r2
  have hst : (store ⟨w.heap.size + 1, 2, none⟩ (.func (.func k) #[] lb)).run Try.prog w3 = .ok () (w3.setCell ⟨w.heap.size + 1, 2, none⟩ (.func (.func k) #[] lb)) := by rw [run_store _ _ _ _ _ rfl, r2]; simp only [g2]; rfl
  have HkR3 := Lib.hid kR3
  have HkC3 := Lib.hid kC3
  have Hb3 := Lib.hid (Hb2.out.trans (hb3.mono Hb2.out.size))
  have Hp3 := Lib.hid hp3
  have Heg := Lib.hid eg
  clear kR3 kC3 hb3 hp3 eg
  go_wp2_with fail
  refine bodyPost_ret (v := .pointer (some ⟨w.heap.size + 1, 0, none⟩)) (by simp [results, Try.results71, go_sem]) rfl ?_
  refine ⟨⟨w.heap.size + 1, k, lb, rfl, Nat.le_succ _, ?_, Heg.out, ?_⟩, Hb3.out.setCell (by simp only; omega) _⟩
  · refine ⟨by decide, by decide, Nat.le_trans hz (Nat.le_succ _), hnc, ⟨vs, HkC3.out.far (by simp only; omega) _, Hvs.out⟩, none, 0, HkR3.out.set_ 2 _, OwnG.nil_ _ _⟩
  · intro fe s W hf
    exact Hp3.out fe s W (((Fr.refl _ _ _ _).setp 2 _).tfi hf)


end Go.Proofs.Ythfniffecceldaa

/- Contracts: pulls by the program: k pulls by the reference. -/
namespace Go.Proofs.Ythfniffecceldaa
open Go.RowKit

/-- k pulls, one after the other; the items. -/
def manyP (f : PF) (s : PS) : Nat → List Int × PS
  | 0 => ([], s)
  | k + 1 => match f (manyP f s k).2 with
    | (s', none) => ((manyP f s k).1, s')
    | (s', some v) => ((manyP f s k).1 ++ [v], s')
def newPS (n : Nat) : PS := ⟨List.replicate n zeroCl, []⟩

theorem OwnJ.isi {w : World} {base c : Nat} {A : Option Addr} {l : List Int} (h : OwnJ w base A c l) : ∀ g, rowOf A = some g → base ≤ g ∧ ∃ cs, Bk w g 3 cs := fun g hg => by
  obtain ⟨_, ⟨hv, _⟩ | ⟨g', cap, cur, hv, hb, hh, _⟩⟩ := h
  · injection hv with hA; subst hA; cases hg
  · injection hv with hA
    subst hA
    have : g' = g := Option.some.inj hg
    subst this
    exact ⟨hb, cur.toList, by unfold Bk; simpa using hh⟩
theorem OwnJ.fr {n0 pb cb : Nat} {w w' : World} {base c : Nat} {A : Option Addr} {l : List Int} {T : TypeId} {hd tl : List Value} {s : PS} (h : OwnJ w base A c l) (hr : RS n0 pb cb T hd tl s w) (hT : T ≠ 3) (hf : Fr n0 pb cb w w') : OwnJ w' base A c l := by
  obtain ⟨cs, hc, _⟩ := hr.cells
  obtain ⟨R, cR, hb, _⟩ := hr.box
  have hrow := h.isi
  obtain ⟨h1, h2 | ⟨g, cap, cur, hv, hbg, hh, r⟩⟩ := h
  · exact ⟨h1, .inl h2⟩
  · have hv2 := hv
    injection hv with hA
    obtain ⟨_, ds, hg⟩ := hrow g (by rw [hA]; rfl)
    exact ⟨h1, .inr ⟨g, cap, cur, hv2, hbg, (hf.block g hg.lt (fun e => Bk.ne hb hg hT e.symm) (fun e => Bk.ne hc hg (by decide) e.symm) (.inr (IsPl.not hg (by decide)))).trans hh, r⟩⟩
/-- An append to a row of ints does not touch a run. -/
theorem RS.ints {n0 pb cb : Nat} {w w' : World} {base c : Nat} {A : Option Addr} {l : List Int} {T : TypeId} {hd tl : List Value} {s : PS} (hr : RS n0 pb cb T hd tl s w) (h : OwnJ w base A c l) (hT : T ≠ 3) {o : Obj} (hg : (w.alloc o).grownBy w' (rowOf A)) : RS n0 pb cb T hd tl s w' := by
  obtain ⟨cs, hc, hcs⟩ := hr.cells
  obtain ⟨R, cR, hb, ho⟩ := hr.box
  have hgr := hg.block
  have hz : (w.alloc o).heap.size = w.heap.size + 1 := by simp
  have hk : ∀ b, b < w.heap.size → some b ≠ rowOf A → w'.heap[b]? = w.heap[b]? := fun b hb hn => (hgr b (by omega) hn).trans (Below.heap_alloc _ _ _ hb)
  have hrow := h.isi
  refine ⟨hr.tp, hr.tc, hr.lop, hr.loc, ⟨cs, (hk _ hc.lt fun e => ?_).trans hc, hcs⟩, ⟨R, cR, (hk _ hb.lt fun e => ?_).trans hb, ho.keep fun g hlt hp => hk g hlt fun e => ?_⟩⟩
  · obtain ⟨_, ds, hi⟩ := hrow _ e.symm
    exact Bk.ne hc hi (by decide) rfl
  · obtain ⟨_, ds, hi⟩ := hrow _ e.symm
    exact Bk.ne hb hi hT rfl
  · obtain ⟨_, ds, hi⟩ := hrow _ e.symm
    exact IsPl.not hi (by decide) hp
theorem SW.ints {n0 pb cb : Nat} {A : Option Addr} {c : Nat} {l : List Nd} {As : Option Addr} {ca : Nat} {src : List (List Int)} {cc : Nat} {s : PS} {w w' : World} {base cR : Nat} {R : Option Addr} {q : List Int} (h : SW n0 pb cb A c l As ca src cc s w) (ho : OwnJ w base R cR q) (hbase : n0 ≤ base) {o : Obj} (hg : (w.alloc o).grownBy w' (rowOf R)) : SW n0 pb cb A c l As ca src cc s w' := by
  have hz : n0 ≤ w.heap.size := Nat.le_trans h.rs.lop (Nat.le_of_lt h.rs.ltp)
  have hb : Below n0 w w' := Below.grown (((Below.refl n0 w).alloc hz o)) hg (by simp; omega) (fun g e => Nat.le_trans hbase (ho.isi g e).1)
  exact ⟨h.rs.ints ho (by decide) hg, h.nodes.below hb (Nat.le_refl _), h.rows.below hb (Nat.le_refl _)⟩

/-- Between two pulls of the reference. -/
structure PJ (w : World) (pb cb : Nat) (A : Option Addr) (c : Nat) (l : List Nd) (As : Option Addr) (ca : Nat) (src : List (List Int)) (f : PF) (j : Nat) (pre : List Int) (s : PS) (R : Option Addr) (cR : Nat) (wr : World) : Prop where
  sw : SW w.heap.size pb cb A c l As ca src l.length s wr
  ok : StOk l src s.cs
  lg : s.lg.length + s.W l src ≤ 65536
  ow : OwnJ wr w.heap.size R cR pre
  bl : Below w.heap.size w wr
  e : manyP f (newPS l.length) j = (pre, s)
  ke : Bk wr w.heap.size 39 [.slice A l.length c]
  le : pre.length ≤ j
/-- What the reference's pulls leave. -/
def SpPost (A : Option Addr) (c : Nat) (l : List Nd) (As : Option Addr) (ca : Nat) (src : List (List Int)) (f : PF) (k : Nat) (w : World) (e : Ending) (w' : World) : Prop :=
  ∃ pb cb R cR pre s, e = .returned (.tuple #[.pointer (some ⟨pb, 0, none⟩), .slice R pre.length cR]) ∧ PJ w pb cb A c l As ca src f k pre s R cR w'

set_option maxRecDepth 100000 in
set_option maxHeartbeats 6400000 in
theorem specPulled_any {l : List Nd} {src : List (List Int)} {A : Option Addr} {c : Nat} {As : Option Addr} {ca : Nat} (hl12 : l.length ≤ 12) {t : Nat} {f : PF} (hF : Fine l src t f) (hN : ∀ pb cb n0, NextOk n0 pb cb A c l As ca src l.length f t) (hix : t + 1 = l.length) (h0 : StOk l src (newPS l.length).cs) (hw0 : (newPS l.length).W l src ≤ 65536) (k : Nat) (hk : k ≤ 200) (w : World) (hn : RdN w w.heap.size A l) (hsr : RdR w w.heap.size As src) :
    Calls Try.prog 52 #[.agg #[.slice A l.length c], .slice As 3 ca, .int .i64 k] w (SpPost A c l As ca src f k w) := by
  have hln : ((l.length : Int) - 1) = (t : Int) := by omega
  have hlw : IntKind.i64.wrap (t : Int) = (t : Int) := IntWalk.i64_in _ (by omega)
  obtain ⟨W1, hW1⟩ : ∃ X : World, X = w.alloc (.cells #[.slice A l.length c] 39) := ⟨_, rfl⟩
  have hb1 : Below w.heap.size w W1 := by rw [hW1]; exact (Below.refl _ _).alloc (Nat.le_refl _) _
  have kE : Bk W1 w.heap.size 39 [.slice A l.length c] := by rw [hW1]; exact Bk.new _ _ [_]
  have e1 := kE.cell 0
  simp only [List.getElem?_cons_zero] at e1
  have HW1 := Lib.hid hW1
  have Hb1 := Lib.hid hb1
  have HkE := Lib.hid kE
  have HF := Lib.hid hF
  have HN := Lib.hid hN
  have Hn := Lib.hid hn
  have Hsr := Lib.hid hsr
  have H0 := Lib.hid h0
  have Hw0 := Lib.hid hw0
  clear hW1 hb1 kE hF hN hn hsr h0 hw0
  go_enter Try.func52, Try.ntmps52
  go_wp2_with fail
  rw [← HW1.out]
  go_region_held3 (fun w' => w'.cell? ⟨w.heap.size, 0, none⟩ = some (.slice A l.length c)) (first | exact e1 | exact ks | go_keep)
    (first
      | (
        refine (specnewState_any A c l.length W1.drew (by omega)).mono ?_
        rintro e w2 ⟨rfl, kC, hb2⟩
        obtain ⟨cb, hcb⟩ : ∃ cb, W1.drew.heap.size + 2 = cb := ⟨_, rfl⟩
        rw [hcb] at kC ⊢
        have hb12 : Below W1.heap.size W1 w2 := ((Below.refl W1.heap.size W1).drew).trans hb2
        have ks := (HkE.out.below hb12 HkE.out.lt).cell 0
        simp only [List.getElem?_cons_zero] at ks
        have hcb2 : W1.heap.size ≤ cb := by rw [← hcb]; simp
        have HkC := Lib.hid kC
        have Hb12 := Lib.hid hb12
        have HkE2 := Lib.hid (HkE.out.below hb12 HkE.out.lt)
        clear kC hb12 hb2 hcb)
    )
  obtain ⟨W3, hW3⟩ : ∃ X : World, w2.alloc (.cells #[.slice A l.length c, .slice As 3 ca, .slice (some ⟨cb, 0, none⟩) l.length l.length, .slice none 0 0] 64) = X := ⟨_, rfl⟩
  rw [hW3]
  obtain ⟨pb, hpb⟩ : ∃ pb, w2.heap.size = pb := ⟨_, rfl⟩
  rw [hpb]
  have hz12 := Hb12.out.size
  have hz1 := Hb1.out.size
  have kP : Bk W3 pb 64 [.slice A l.length c, .slice As 3 ca, .slice (some ⟨cb, 0, none⟩) l.length l.length, .slice none 0 0] := by rw [← hW3, ← hpb]; exact Bk.new w2 _ [_, _, _, _]
  have hb3 : Below w.heap.size w W3 := by rw [← hW3]; exact (Hb1.out.trans (Hb12.out.mono hz1)).alloc (by omega) _
  have kC3 : Bk W3 cb 66 (madeCl l.length) := by rw [← hW3]; exact HkC.out.alloc _
  have kE3 : Bk W3 w.heap.size 39 [.slice A l.length c] := by rw [← hW3]; exact HkE2.out.alloc _
  have sw3 : SW w.heap.size pb cb A c l As ca src l.length (newPS l.length) W3 := by
    refine ⟨⟨by decide, by decide, by omega, by omega, ⟨madeCl l.length, kC3, fun k x hx => ?_⟩, none, 0, kP, OwnG.nil_ _ _⟩, Hn.out.below hb3 (Nat.le_refl _), Hsr.out.below hb3 (Nat.le_refl _)⟩
    have hk : k < l.length := by have := (List.getElem?_eq_some_iff.1 hx).1; simpa [newPS] using this
    simp only [newPS] at hx
    rw [List.getElem?_replicate, if_pos hk] at hx
    rw [← Option.some.inj hx]
    exact madeCl_in _ k hk
  have HkE3 := Lib.hid kE3
  have Hsw3 := Lib.hid sw3
  have Hb3 := Lib.hid hb3
  clear hW3 hpb kP hb3 kC3 kE3 sw3 ks e1 hcb2
  go_wp2_with fail
  go_loopw [2, 9] (fun kv ov wr => ∃ (j : Nat) (pre : List Int) (s : PS) (R : Option Addr) (cR : Nat), j ≤ k ∧ kv = .int .i64 ((k : Int) - j) ∧ ov = .slice R pre.length cR ∧ PJ w pb cb A c l As ca src f j pre s R cR wr) (fun kv _ _ => (intOf kv).toNat)
  case atStart =>
    have hl0 : W3.heap.size < (W3.alloc (.cells #[] 3)).heap.size := by simp
    exact ⟨0, [], newPS l.length, some ⟨W3.heap.size, 0, none⟩, 0, Nat.zero_le _, by simp, rfl, Hsw3.out.below ((Below.refl _ _).alloc (Nat.le_refl _) _), H0.out, by have := Hw0.out; simpa [newPS] using this, ⟨rfl, .inr ⟨W3.heap.size, 0, #[], rfl, Hb3.out.size, heap_alloc_new W3 _, Nat.le_refl _, Nat.zero_le _, rfl, rfl⟩⟩, Hb3.out.alloc Hb3.out.size _, rfl, HkE3.out.alloc _, Nat.le_refl _⟩
  case round =>
    obtain ⟨j, pre, s, R, cR, hj, rfl, rfl, h⟩ := hrel
    obtain ⟨m0, hm0⟩ : ∃ q0, pre.length = q0 := ⟨_, rfl⟩
    have hmj : m0 ≤ j := by rw [← hm0]; exact h.le
    have hcE := h.ke.cell 0
    simp only [List.getElem?_cons_zero] at hcE
    rw [hm0]
    have Hm0 := Lib.hid hm0
    have H := Lib.hid h
    clear h hm0
    by_cases h1 : j < k
    · have hg0 : (0 : Int) < (k : Int) - j := by omega
      have hw0 : IntKind.i64.wrap ((k : Int) - j - 1) = (k : Int) - j - 1 := IntWalk.i64_in _ (by omega)
      rcases hfs : f s with ⟨s2, o⟩
      have hcall := HN.out pb cb w.heap.size s wr H.out.sw H.out.ok H.out.lg
      have hfine := HF.out s H.out.ok
      rw [hfs] at hcall hfine
      have Hcall := Lib.hid hcall
      have Hfine := Lib.hid hfine
      have Hfs := Lib.hid hfs
      clear hcall hfine hfs
      go_wp2_with fail
      refine Hcall.out.mono ?_
      rintro e w4 ⟨rfl, sw4, fr4⟩
      have hlo := H.out.sw.rs.lop
      have hlc := H.out.sw.rs.loc
      have hb4 : Below w.heap.size w w4 := H.out.bl.trans (fr4.below hlo hlc H.out.bl.size)
      have ow4 := H.out.ow.fr H.out.sw.rs (by decide) fr4
      obtain ⟨R0, cR0, bk0, _⟩ := H.out.sw.rs.box
      obtain ⟨cs0, bc0, _⟩ := H.out.sw.rs.cells
      have ke4 := fr4.bk H.out.ke (by decide) (fun e => Bk.ne bk0 H.out.ke (by decide) e.symm) (fun e => Bk.ne bc0 H.out.ke (by decide) e.symm)
      have Hsw4 := Lib.hid sw4
      have Hb4 := Lib.hid hb4
      have How4 := Lib.hid ow4
      have Hke4 := Lib.hid ke4
      have hz4 := hb4.size
      clear sw4 fr4 hb4 ow4 ke4 bk0 bc0 hlo hlc hcE
      cases o with
      | none =>
        have ht : tup none = .tuple #[.int .i64 0, .bool false] := rfl
        go_wp2_with fail
        go_roundw
        case rel =>
          exact ⟨j + 1, pre, s2, R, cR, by omega, by go_num, by rw [Hm0.out], Hsw4.out, Hfine.out.ok, Nat.le_trans Hfine.out.wle H.out.lg, How4.out, Hb4.out, by simp only [manyP]; rw [H.out.e]; simp only; rw [Hfs.out], Hke4.out, Nat.le_succ_of_le H.out.le⟩
        case measure => simp [intOf]; omega
      | some v =>
        have hv := Hfine.out.item v rfl
        have ht : tup (some v) = .tuple #[.int .i64 v, .bool true] := rfl
        go_wp2_with (at_builtin; go_must (refine wpList_append_int rfl _ _ rfl w.heap.size R cR _ v m0 Hm0.out rfl How4.out _ rfl rfl (by omega) (by omega) ?_; intro R2 c2' w5 ho2 hg2); have hbb := (Hb4.out.alloc hz4 _).grown hg2 (by simp; omega) (fun g hg => (How4.out.row_lt g hg).1); have Hbb := Lib.hid hbb; have Ho2 := Lib.hid ho2; have Hsw5 := Lib.hid (Hsw4.out.ints How4.out (Nat.le_refl _) hg2); have Hke5 := Lib.hid ((Hke4.out.alloc _).grown hg2 (fun e => by obtain ⟨_, ds, hi⟩ := How4.out.isi _ e.symm; exact Bk.ne Hke4.out hi (by decide) rfl)); clear ho2 hg2 hbb)
        go_roundw
        case rel =>
          exact ⟨j + 1, pre ++ [v], s2, R2, c2', by omega, by go_num, by rw [List.length_append, Hm0.out]; rfl, Hsw5.out, Hfine.out.ok, Nat.le_trans Hfine.out.wle H.out.lg, Ho2.out, Hbb.out, by simp only [manyP]; rw [H.out.e]; simp only; rw [Hfs.out], Hke5.out, by rw [List.length_append]; have := H.out.le; simp; omega⟩
        case measure => simp [intOf]; omega
    · have hjk : j = k := by omega
      subst hjk
      have hg0 : ¬ (0 : Int) < (j : Int) - j := by omega
      go_wp2_with fail
      refine bodyPost_ret (v := .tuple #[.pointer (some ⟨pb, 0, none⟩), .slice R m0 cR]) (by simp [results, Try.results52, go_sem]) rfl ?_
      exact ⟨pb, cb, R, cR, pre, s, by rw [Hm0.out], H.out⟩


end Go.Proofs.Ythfniffecceldaa

/- Contracts: the state of a pipe that has not been pulled, by its block. -/
namespace Go.Proofs.Ythfniffecceldaa
open Go.RowKit

set_option maxRecDepth 100000 in
set_option maxHeartbeats 1600000 in
theorem implNewState_bk (A : Option Addr) (c : Nat) (l : List Nd) (w : World) (B : Nat) (hv : pipeOk l = true) (h : RdN w B A l) (hB : B ≤ w.heap.size) (hn : l.length ≤ 1048576) :
    Calls Try.prog 72 #[.agg #[.slice A l.length c]] w fun e w' => ∃ g, e = .returned (.agg #[.slice (some ⟨g, 0, none⟩) l.length l.length]) ∧ w.heap.size ≤ g ∧ Bk w' g 66 (madeCl l.length) ∧ Below w.heap.size w w' := by
  obtain ⟨W0, hW0⟩ : ∃ W0 : World, W0 = (w.alloc (.cells #[.slice A l.length c] 39)).alloc (.cells #[.slice none 0 0] 60) := ⟨_, rfl⟩
  have hb0 : Below w.heap.size w W0 := by rw [hW0]; exact ((Below.refl w.heap.size w).alloc (Nat.le_refl _) _).alloc (by simp) _
  have hx0 : Bk W0 w.heap.size 39 [.slice A l.length c] := by rw [hW0]; exact (Bk.new _ _ [_]).alloc _
  have hr0 : Bk W0 (w.heap.size + 1) 60 [.slice none 0 0] := by
    rw [hW0]
    have := Bk.new (w.alloc (.cells #[.slice A l.length c] 39)) 60 [.slice none 0 0]
    simpa using this
  have H0 := Lib.hid (h.below hb0 hB)
  have Hb0 := Lib.hid hb0
  have Hx0 := Lib.hid hx0
  have Hr0 := Lib.hid hr0
  have HW0 := Lib.hid hW0
  have hz0 := hb0.size
  clear h hb0 hx0 hr0 hW0
  go_enter Try.func72, Try.ntmps72
  go_wp2_with fail
  rw [← HW0.out]
  refine (implValidPipe_any A c l W0 B H0.out (by omega) hn).mono ?_
  rintro e w1 ⟨rfl, hb1⟩
  rw [hv]
  have Hb1 := Lib.hid (Hb0.out.trans (hb1.mono hz0))
  have Hx1 := Lib.hid (Hx0.out.below hb1 Hx0.out.lt)
  have Hr1 := Lib.hid (Hr0.out.below hb1 Hr0.out.lt)
  have hc1 : w1.cell? ⟨w.heap.size, 0, none⟩ = some (.slice A l.length c) := Hx1.out.cell 0
  have d1 : w1.cell? ⟨w.heap.size + 1, 0, none⟩ = some (.slice none 0 0) := Hr1.out.cell 0
  have f1 := Hr1.out.free 0
  have hz1 := Hb1.out.size
  have hr1 := Hr1.out.lt
  clear hb1 HW0
  clear hv
  have hmk := run_makeCl (P := Try.prog) 58 66 Try.underlying58 Try.infoCl l.length hn
  go_wp2_with fail
  have d2 : ((w1.setCell ⟨w.heap.size + 1, 0, none⟩ (.slice (some ⟨w1.heap.size, 0, none⟩) l.length l.length)).alloc (.cells (madeCl l.length).toArray 66)).cell? ⟨w.heap.size + 1, 0, none⟩ = some (.slice (some ⟨w1.heap.size, 0, none⟩) l.length l.length) := ((Hr1.out.set_ 0 _).alloc _).cell 0
  refine bodyPost_ret (v := .agg #[.slice (some ⟨w1.heap.size, 0, none⟩) l.length l.length]) (by simp [results, Try.results72, go_sem, d2]) rfl ⟨_, rfl, hz1, ?_, ?_⟩
  · have hbn := Bk.new (w1.setCell ⟨w.heap.size + 1, 0, none⟩ (.slice (some ⟨w1.heap.size, 0, none⟩) l.length l.length)) 66 (madeCl l.length)
    have hsz : (w1.setCell ⟨w.heap.size + 1, 0, none⟩ (.slice (some ⟨w1.heap.size, 0, none⟩) l.length l.length)).heap.size = w1.heap.size := by simp [World.setCell]
    rw [hsz] at hbn
    exact hbn
  · exact (Hb1.out.setCell (p := ⟨w.heap.size + 1, 0, none⟩) (by simp) _).alloc (by simp [World.setCell]; omega) _

end Go.Proofs.Ythfniffecceldaa

/- Contracts: pulls by the program: k pulls by the program. -/
namespace Go.Proofs.Ythfniffecceldaa
open Go.RowKit

attribute [local go_sem] Oper.semAt_some

theorem wpListIn_append_int {F : Fence} {nn : Nat} {ops : Array Oper} {rest : List Oper} {o : Oper} {a : Act} {Q : Exit → Act → World → Prop} {w : World} (hgd : o.guard = none) (s y : Operand)
    (ho : o.op = .call { callee := .builtin .append, args := #[s, y], argTypes := #[23, 23] }) (base : Nat) (A : Option Addr) (c : Nat) (l : List Int) (x : Int) (n : Nat) (hnl : l.length = n) (hs : a.eval s = .slice A n c) (hown : OwnJ w base A c l)
    (g : Nat) (hx : a.eval y = .slice (some ⟨g, 0, none⟩) 1 1) (hg : g = w.heap.size) (hn : n ≤ 1048576) (hb : base ≤ w.heap.size)
    (h : ∀ (A' : Option Addr) (c' : Nat) (w' : World), OwnJ w' base A' c' (l ++ [x]) → (w.alloc (.cells #[.int .i64 x] 3)).grownBy w' (rowOf A) → wpListIn F nn Try.prog ops Q rest (a.put o.dst (.slice A' (n + 1) c')) w') :
    wpListIn F nn Try.prog ops Q (o :: rest) a (w.alloc (.cells #[.int .i64 x] 3)) := by
  refine wpListIn_plain hgd fun K hK => ?_
  exact stepIn_append_int s y ho base A c l x n hnl hs hown g hx hg hn hb fun A' c' w' h1 h2 => hK _ _ (h A' c' w' h1 h2)
theorem OwnJ.keepB {w w' : World} {base c : Nat} {A : Option Addr} {l : List Int} (h : OwnJ w base A c l) (hk : ∀ (g : Nat) (cs : List Value), base ≤ g → Bk w g 3 cs → w'.heap[g]? = w.heap[g]?) : OwnJ w' base A c l := by
  have hrow := h.isi
  obtain ⟨h1, h2 | ⟨g, cap, cur, hv, hbg, hh, r⟩⟩ := h
  · exact ⟨h1, .inl h2⟩
  · have hv2 := hv
    injection hv with hA
    obtain ⟨_, ds, hg⟩ := hrow g (by rw [hA]; rfl)
    exact ⟨h1, .inr ⟨g, cap, cur, hv2, hbg, (hk g ds hbg hg).trans hh, r⟩⟩
theorem Fr.intsG {n0 pb cb : Nat} {w w' v : World} {row : Option Nat} {o : Obj} (h : Fr n0 pb cb w w') (hg : (w'.alloc o).grownBy v row) (hr : ∀ g, row = some g → w.heap.size ≤ g) : Fr n0 pb cb w v :=
  have h1 := h.alloc o
  ⟨hg.os.trans h1.os, hg.tape.trans h1.tape, hg.output.trans h1.output, Nat.le_trans h1.size hg.size, fun b hb h2 h3 h4 => (hg.block b (Nat.lt_of_lt_of_le hb h1.size) (fun e => by have := hr b e.symm; omega)).trans (h1.block b hb h2 h3 h4)⟩
/-- Between two items of the program's pulls: the items lie in the box ib, its row behind it. -/
structure PtJ (n0 rb cb N : Nat) (l : List Nd) (src : List (List Int)) (fe : Value) (W0 : World) (k : Nat) (pre : List Int) (s : PS) (W : World) : Prop where
  fr : Fr n0 rb cb W0 W
  iw : IW n0 rb cb N N fe s W
  ok : StOk l src s.cs
  lg : s.lg.length + s.W l src ≤ 65536
  big : W0.heap.size + 5 ≤ W.heap.size
  own : ∃ R cR, Bk W W0.heap.size 23 [.slice R pre.length cR] ∧ OwnJ W (W0.heap.size + 3) R cR pre
  pl : Bk W (W0.heap.size + 1) 114 [fe]
  num : Bk W (W0.heap.size + 2) 3 [.int .i64 k]
  le : pre.length ≤ k
/-- What the program's pulls leave. -/
def ImPost (l : List Nd) (src : List (List Int)) (f : PF) (k : Nat) (w : World) (e : Ending) (w' : World) : Prop :=
  ∃ rb cb fe pre s R cR Rp cp, e = .returned (.agg #[.slice R pre.length cR, .slice (some ⟨cb, 0, none⟩) l.length l.length, .slice Rp s.lg.length cp]) ∧ runP f k (newPS l.length) = (pre, s) ∧ IW w.heap.size rb cb l.length l.length fe s w' ∧
    Bk w' rb 116 [.slice (some ⟨cb, 0, none⟩) l.length l.length, .slice Rp s.lg.length cp, fe] ∧ OwnG w' w.heap.size Rp cp s.lg ∧ OwnJ w' w.heap.size R cR pre ∧ StOk l src s.cs ∧ Below w.heap.size w w'

theorem fd_state (a : Option Addr) (n m : Nat) (w : World) : (Instr.field 60 (.agg #[.slice a n m]) 0).run Try.prog w = .ok (.slice a n m) w := by kernel_rfl

end Go.Proofs.Ythfniffecceldaa

/- The state before the first pull is one of the pipe. -/
namespace Go.Proofs.Ythfniffecceldaa
open Go.RowKit

theorem mostOf_nonneg {x : Nd} {src : List (List Int)} (hn : numsOk x = true) : 0 ≤ mostOf x src := by
  unfold mostOf
  repeat' split
  all_goals first
    | omega
    | exact Int.natCast_nonneg _
    | (simp only [numsOk] at hn; simp_all [inR] <;> omega)
theorem newPS_ok {l : List Nd} {src : List (List Int)} (hp : PipeOk l) : StOk l src (newPS l.length).cs := by
  refine ⟨by simp [newPS], fun i x c hx hc => ?_⟩
  have hn : numsOk x = true := by
    have h1 := hp.node i x hx
    simp only [nodeOk, Bool.and_eq_true] at h1
    exact h1.1
  have hi : i < l.length := (List.getElem?_eq_some_iff.1 hx).1
  simp only [newPS] at hc
  rw [List.getElem?_replicate, if_pos hi] at hc
  obtain rfl := Option.some.inj hc
  exact ⟨⟨by decide, mostOf_nonneg hn⟩, by decide, by decide⟩
theorem wsum_le {f : Nd → Cl → Nat} {b : Nat} (h : ∀ x c, f x c ≤ b) : ∀ (l : List Nd) (cs : List Cl), wsum f l cs ≤ b * l.length
  | [], _ => Nat.zero_le _
  | _ :: _, [] => Nat.zero_le _
  | x :: l, c :: cs => by
    have h1 := h x c
    have h2 := wsum_le h l cs
    simp only [wsum, List.length_cons, Nat.mul_succ]
    omega
theorem wSrc_le {src : List (List Int)} (hs : srcOk src = true) (x : Nd) (c : Cl) : wSrc src x c ≤ 13 := by
  unfold wSrc
  split
  · have : (src.getD x.n.toNat []).length ≤ 12 := by
      rw [List.getD_eq_getElem?_getD]
      cases h : src[x.n.toNat]? with
      | none => simp
      | some r => exact (src_rows hs).2 r (List.mem_of_getElem? h)
    split <;> omega
  · omega
theorem newPS_W {l : List Nd} {src : List (List Int)} (hs : srcOk src = true) (hl : l.length ≤ 12) : (newPS l.length).W l src ≤ 65536 := by
  have h := wsum_le (wSrc_le hs) l (newPS l.length).cs
  unfold PS.W
  omega

end Go.Proofs.Ythfniffecceldaa

/- Contracts: pulls by the program: pulls at arguments that are not valid. -/
namespace Go.Proofs.Ythfniffecceldaa
open Go.RowKit

end Go.Proofs.Ythfniffecceldaa

/- Pulls one after the other are the items up to the first pull that gives none. -/
namespace Go.Proofs.Ythfniffecceldaa
open Go.RowKit

theorem doneP_again {i : Nat} {f : PF} {s s' : PS} (hi : i < s'.cs.length) (h : doneP i f s = (s', none)) : doneP i f s' = (s', none) := by
  cases hd : (s.at_ i).d with
  | true =>
    have e := doneP_done (f := f) hd
    rw [e] at h
    obtain rfl : s = s' := (Prod.mk.inj h).1
    exact e
  | false =>
    rcases hf : f s with ⟨s2, o⟩
    cases o with
    | some v => rw [doneP_some hd hf] at h; cases (Prod.mk.inj h).2
    | none =>
      rw [doneP_none hd hf] at h
      obtain rfl := (Prod.mk.inj h).1
      have hl : i < s2.cs.length := by simpa [PS.put] using hi
      exact doneP_done (by rw [PS.at_put hl])
theorem pull_again {l : List Nd} {src : List (List Int)} (hp : PipeOk l) (hs : srcOk src = true) {fu : PS → Nat} {t : TI} (ht : IsTI l t) {s s' : PS} (ok : StOk l src s.cs) (h : pull src fu t s = (s', none)) : pull src fu t s' = (s', none) := by
  have hf := pull_fine hp hs (fu := fu) ht s ok
  rw [h] at hf
  have hlen := hf.ok.len
  cases ht with
  | leaf hx ha h1 h2 => exact doneP_again (by rw [hlen]; exact (List.getElem?_eq_some_iff.1 hx).1) h
  | stem hx ha h1 hj h2 ht => exact doneP_again (by rw [hlen]; exact (List.getElem?_eq_some_iff.1 hx).1) h
  | fork hx ha h1 hj h2 hj2 hta htb => exact doneP_again (by rw [hlen]; exact (List.getElem?_eq_some_iff.1 hx).1) h
theorem runP_snoc {l : List Nd} {src : List (List Int)} {j : Nat} {f : PF} (hF : Fine l src j f) (hA : ∀ s s', StOk l src s.cs → f s = (s', none) → f s' = (s', none)) : ∀ (k : Nat) (s : PS), StOk l src s.cs →
    runP f (k + 1) s = (match f (runP f k s).2 with
      | (s', none) => ((runP f k s).1, s')
      | (s', some v) => ((runP f k s).1 ++ [v], s'))
  | 0, s, ok => by
    rcases hf : f s with ⟨s1, o⟩
    cases o with
    | none => rw [runP_none hf]; simp only [runP]; rw [hf]
    | some v => rw [runP_some hf]; simp only [runP]; rw [hf]; rfl
  | k + 1, s, ok => by
    rcases hf : f s with ⟨s1, o⟩
    have h1 := hF s ok
    rw [hf] at h1
    cases o with
    | none =>
      rw [runP_none hf, runP_none hf]
      simp only
      rw [hA s s1 ok hf]
    | some v =>
      rw [runP_some hf, runP_some hf, runP_snoc hF hA k s1 h1.ok]
      simp only
      rcases f (runP f k s1).2 with ⟨s2, o2⟩
      cases o2 <;> rfl
theorem manyP_runP {l : List Nd} {src : List (List Int)} {j : Nat} {f : PF} (hF : Fine l src j f) (hA : ∀ s s', StOk l src s.cs → f s = (s', none) → f s' = (s', none)) {s : PS} (ok : StOk l src s.cs) : ∀ k, manyP f s k = runP f k s
  | 0 => rfl
  | k + 1 => by rw [runP_snoc hF hA k s ok, ← manyP_runP hF hA ok k]; rfl

end Go.Proofs.Ythfniffecceldaa

/- Contracts: whether a state is one of a pipe and sources (the reference). -/
namespace Go.Proofs.Ythfniffecceldaa
open Go.RowKit Go.Sort

end Go.Proofs.Ythfniffecceldaa

/- Contracts: whether a state is one of a pipe and sources (the reference's and the program's doors). -/
namespace Go.Proofs.Ythfniffecceldaa
open Go.RowKit Go.Sort

set_option maxHeartbeats 1600000 in
theorem specvalidInput_any (A0 : Option Addr) (c0 : Nat) (l : List Nd) (As : Option Addr) (ca : Nat) (src : List (List Int)) (w : World) (B : Nat) (h0 : RdN w B A0 l) (hs : RdR w B As src) (hB : B ≤ w.heap.size) (hn0 : l.length ≤ 1048576) (hns : src.length ≤ 1048576) (hm : Hid (∀ r ∈ src, r.length ≤ 1048576)) :
    Calls Try.prog 40 #[.agg #[.slice A0 l.length c0], .slice As src.length ca] w fun e w' => e = .returned (.bool (pipeOk l && srcOk src)) ∧ Below w.heap.size w w' := by
  obtain ⟨W0, hW0⟩ : ∃ W0 : World, W0 = w.alloc (.cells #[.slice A0 l.length c0] 39) := ⟨_, rfl⟩
  have hb0 : Below w.heap.size w W0 := by rw [hW0]; exact (Below.refl w.heap.size w).alloc (Nat.le_refl _) _
  have H0 := Lib.hid (h0.below hb0 hB)
  have S0 := Lib.hid (hs.below hb0 hB)
  have Hb0 := Lib.hid hb0
  have HW0 := Lib.hid hW0
  have hz0 := hb0.size
  clear h0 hs hb0 hW0
  cases hv : pipeOk l
  · have Hv := Lib.hid hv
    clear hv
    go_enter Try.func40, Try.ntmps40
    go_wp2_with fail
    rw [← HW0.out]
    refine (specvalidPipe_any A0 c0 l W0 B H0.out (by omega) hn0).mono ?_
    rintro e w1 ⟨rfl, hb1⟩
    rw [Hv.out]
    have Hb1 := Lib.hid hb1
    clear hb1
    go_wp2_with fail
    go_ret
    exact ⟨rfl, Hb0.out.trans (Hb1.out.mono hz0)⟩
  · have Hv := Lib.hid hv
    clear hv
    go_enter Try.func40, Try.ntmps40
    go_wp2_with fail
    rw [← HW0.out]
    refine (specvalidPipe_any A0 c0 l W0 B H0.out (by omega) hn0).mono ?_
    rintro e w1 ⟨rfl, hb1⟩
    rw [Hv.out]
    have S1 := Lib.hid (S0.out.below hb1 (by omega))
    have Hb1 := Lib.hid (Hb0.out.trans (hb1.mono hz0))
    clear hb1
    go_wp2_with fail
    refine (specvalidSources_any As ca src w1 B S1.out hns hm.out).mono ?_
    rintro e w2 ⟨rfl, rfl⟩
    go_wp2_with fail
    go_ret
    exact ⟨by simp, Hb1.out⟩

end Go.Proofs.Ythfniffecceldaa

/- Contracts: pulls by the program: whether a pipe has ended. -/
namespace Go.Proofs.Ythfniffecceldaa
open Go.RowKit

/-- Whether the pipe has ended after k pulls. -/
structure EndQ (l : List Nd) (src : List (List Int)) (k : Int) (q : Bool) : Prop where
  no : (pipeOk l && srcOk src && inR k 0 200) = false → q = false
  yes : (pipeOk l && srcOk src && inR k 0 200) = true → ∃ t, IsTI l t ∧ t.ix + 1 = l.length ∧ q = ((runP (pull src (fun s => s.M l src + 1) t) k.toNat (newPS l.length)).2.at_ t.ix).d
theorem EndQ.ex (l : List Nd) (src : List (List Int)) (k : Int) : ∃ q, EndQ l src k q := by
  cases hv : (pipeOk l && srcOk src && inR k 0 200) with
  | false => exact ⟨false, fun _ => rfl, fun h => absurd (hv.symm.trans h) (by decide)⟩
  | true =>
    have hv2 := hv
    simp only [Bool.and_eq_true] at hv2
    have hlow := low_of hv2.1.1
    obtain ⟨T, hT⟩ := IsTree.ex (pipeOk_iff.1 hv2.1.1) l.length (l.length - 1) (by omega) (by omega)
    obtain ⟨t, ht, hti, _⟩ := hT.ti
    exact ⟨_, fun h => absurd (hv.symm.trans h) (by decide), fun _ => ⟨t, ht, by omega, rfl⟩⟩


set_option maxRecDepth 100000 in
set_option maxHeartbeats 6400000 in
theorem specvalidPulls_any {l : List Nd} {src : List (List Int)} {A : Option Addr} {c : Nat} {As : Option Addr} {ca : Nat} (k : Int) (w : World) (hn : RdN w w.heap.size A l) (hsr : RdR w w.heap.size As src) (hnl : l.length ≤ 1048576) (hns : src.length ≤ 1048576) (hm : Hid (∀ r ∈ src, r.length ≤ 1048576)) :
    Calls Try.prog 55 #[.agg #[.slice A l.length c], .slice As src.length ca, .int .i64 k] w fun e w' => e = .returned (.bool (pipeOk l && srcOk src && inR k 0 200)) ∧ Below w.heap.size w w' := by
  obtain ⟨W1, hW1⟩ : ∃ X : World, X = w.alloc (.cells #[.slice A l.length c] 39) := ⟨_, rfl⟩
  have hb1 : Below w.heap.size w W1 := by rw [hW1]; exact below1 w _
  have z1 := hb1.size
  have hcall := specvalidInput_any A c l As ca src W1 W1.heap.size ((hn.below hb1 (Nat.le_refl _)).more z1) ((hsr.below hb1 (Nat.le_refl _)).more z1) (Nat.le_refl _) hnl hns hm
  have HW1 := Lib.hid hW1
  have Hb1 := Lib.hid hb1
  have Hcall := Lib.hid hcall
  clear hn hsr hW1 hb1 hcall
  go_enter Try.func55, Try.ntmps55
  go_wp2_with fail
  rw [← HW1.out]
  refine Hcall.out.mono ?_
  rintro e w2 ⟨rfl, hb2⟩
  have Hb2 := Lib.hid (Hb1.out.trans (hb2.mono z1))
  clear hb2
  cases hv : (pipeOk l && srcOk src) with
  | false =>
    have Hv := Lib.hid hv
    clear hv
    go_wp2_with fail
    refine bodyPost_ret (v := .bool false) (by simp [results, Try.results55, go_sem]) rfl ⟨by simp [Hv.out], Hb2.out⟩
  | true =>
    have Hv := Lib.hid hv
    clear hv
    go_wp2_with fail
    refine (specInR_any k 0 200 w2).mono ?_
    rintro e w3 ⟨rfl, rfl⟩
    go_wp2_with fail
    refine bodyPost_ret (v := .bool (inR k 0 200)) (by simp [results, Try.results55, go_sem]) rfl ⟨by simp [Hv.out], Hb2.out⟩

end Go.Proofs.Ythfniffecceldaa
