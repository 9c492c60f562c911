/- Texts on the program and its reference, put together (PsG, LiA, PiA, PmC). -/
import Derived.Test.YthfniffecceldaaMq5I
import Derived.Test.YthfniffecceldaaMq5J
import Derived.Test.YthfniffecceldaaMq5F
import Derived.Test.YthfniffecceldaaMq5G
/- Contracts: pulls by the reference: a node of a tree is pulled. -/
namespace Go.Proofs.Ythfniffecceldaa
open Go.RowKit

theorem doneP_done {i : Nat} {f : PF} {s : PS} (hd : (s.at_ i).d = true) : doneP i f s = (s, none) := by
  unfold doneP
  rw [if_pos hd]

set_option maxRecDepth 100000 in
set_option maxHeartbeats 3200000 in
theorem next_k0 {n0 pb cb : Nat} {A : Option Addr} {c : Nat} {l : List Nd} {As : Option Addr} {ca : Nat} {src : List (List Int)} {cc : Nat} {i : Nat} {xa xb n m : Int} (hx : l[i]? = some ⟨0, xa, xb, n, m⟩) (G : PF)
    (hB : ∀ (s : PS) (w : World), SW n0 pb cb A c l As ca src cc s w → StOk l src s.cs → s.lg.length + s.W l src ≤ 65536 → (s.at_ i).d = false →
      Calls Try.prog 65 #[.pointer (some ⟨pb, 0, none⟩), .int .i64 i] w fun e w' => NPost n0 pb cb A c l As ca src cc w (doneP i G s) e w') : NextOk n0 pb cb A c l As ca src cc (doneP i G) i := by
  intro s w h ok hlg
  have hi : i < l.length := (List.getElem?_eq_some_iff.1 hx).1
  have hil : i < s.cs.length := by rw [ok.len]; exact hi
  obtain ⟨b0, b1, b2⟩ := h.bx
  obtain ⟨nb, no, rfl, hnb, y0, y1, y2, y3, y4⟩ := h.nodes.at2 hx
  simp only at y0 y1 y2 y3 y4
  obtain ⟨W1, hW1⟩ : ∃ W1 : World, W1 = w.alloc (.cells #[.int .i64 0, .int .i64 xa, .int .i64 xb, .int .i64 n, .int .i64 m] 97) := ⟨_, rfl⟩
  have hb1 : Below w.heap.size w W1 := by rw [hW1]; exact (Below.refl _ _).alloc (Nat.le_refl _) _
  have hpw := h.rs.ltp
  have hcw := h.rs.ltc
  have cw := (h.rs.cl (i := i) hil).c5
  have H := Lib.hid h
  have H1 := Lib.hid (h.below hb1)
  have Hb1 := Lib.hid hb1
  have HW1 := Lib.hid hW1
  have Hok := Lib.hid ok
  have HB := Lib.hid hB
  clear h hb1 hW1 ok hx hB
  cases hd : (s.at_ i).d with
  | true =>
    rw [hd] at cw
    have Hd := Lib.hid hd
    clear hd
    go_enter Try.func47, Try.ntmps47
    go_wp2_with fail
    refine bodyPost_ret (v := .tuple #[.int .i64 0, .bool false]) (by simp [results, Try.results47, go_sem]) rfl ?_
    rw [doneP_done Hd.out]
    exact ⟨rfl, H.out.below ((Below.refl _ _).alloc (Nat.le_refl _) _), (Fr.refl _ _ _ _).alloc _⟩
  | false =>
    rw [hd] at cw
    have Hd := Lib.hid hd
    clear hd
    go_enter Try.func47, Try.ntmps47
    go_wp2_with fail
    rw [← HW1.out]
    refine (HB.out s W1 H1.out Hok.out hlg Hd.out).mono ?_
    rintro e w2 ⟨rfl, sw2, fr2⟩
    have Hsw2 := Lib.hid sw2
    have Hfr2 := Lib.hid ((Fr.of_below Hb1.out).trans fr2)
    obtain ⟨o, ho⟩ : ∃ o, (doneP i G s).2 = o := ⟨_, rfl⟩
    have Ho := Lib.hid ho
    rw [ho]
    have ht : tup o = .tuple #[.int .i64 (o.getD 0), .bool o.isSome] := rfl
    clear sw2 fr2 ho
    go_wp2_with fail
    refine bodyPost_ret (v := .tuple #[.int .i64 (o.getD 0), .bool o.isSome]) (by simp [results, Try.results47, go_sem]) rfl ?_
    exact ⟨by rw [Ho.out]; rfl, Hsw2.out, Hfr2.out⟩

set_option maxRecDepth 100000 in
set_option maxHeartbeats 3200000 in
theorem next_k1 {n0 pb cb : Nat} {A : Option Addr} {c : Nat} {l : List Nd} {As : Option Addr} {ca : Nat} {src : List (List Int)} {cc : Nat} {i : Nat} {xa xb n m : Int} (hx : l[i]? = some ⟨1, xa, xb, n, m⟩) (G : PF)
    (hB : ∀ (s : PS) (w : World), SW n0 pb cb A c l As ca src cc s w → StOk l src s.cs → s.lg.length + s.W l src ≤ 65536 → (s.at_ i).d = false →
      Calls Try.prog 69 #[.pointer (some ⟨pb, 0, none⟩), .int .i64 i] w fun e w' => NPost n0 pb cb A c l As ca src cc w (doneP i G s) e w') : NextOk n0 pb cb A c l As ca src cc (doneP i G) i := by
  intro s w h ok hlg
  have hi : i < l.length := (List.getElem?_eq_some_iff.1 hx).1
  have hil : i < s.cs.length := by rw [ok.len]; exact hi
  obtain ⟨b0, b1, b2⟩ := h.bx
  obtain ⟨nb, no, rfl, hnb, y0, y1, y2, y3, y4⟩ := h.nodes.at2 hx
  simp only at y0 y1 y2 y3 y4
  obtain ⟨W1, hW1⟩ : ∃ W1 : World, W1 = w.alloc (.cells #[.int .i64 1, .int .i64 xa, .int .i64 xb, .int .i64 n, .int .i64 m] 97) := ⟨_, rfl⟩
  have hb1 : Below w.heap.size w W1 := by rw [hW1]; exact (Below.refl _ _).alloc (Nat.le_refl _) _
  have hpw := h.rs.ltp
  have hcw := h.rs.ltc
  have cw := (h.rs.cl (i := i) hil).c5
  have H := Lib.hid h
  have H1 := Lib.hid (h.below hb1)
  have Hb1 := Lib.hid hb1
  have HW1 := Lib.hid hW1
  have Hok := Lib.hid ok
  have HB := Lib.hid hB
  clear h hb1 hW1 ok hx hB
  cases hd : (s.at_ i).d with
  | true =>
    rw [hd] at cw
    have Hd := Lib.hid hd
    clear hd
    go_enter Try.func47, Try.ntmps47
    go_wp2_with fail
    refine bodyPost_ret (v := .tuple #[.int .i64 0, .bool false]) (by simp [results, Try.results47, go_sem]) rfl ?_
    rw [doneP_done Hd.out]
    exact ⟨rfl, H.out.below ((Below.refl _ _).alloc (Nat.le_refl _) _), (Fr.refl _ _ _ _).alloc _⟩
  | false =>
    rw [hd] at cw
    have Hd := Lib.hid hd
    clear hd
    go_enter Try.func47, Try.ntmps47
    go_wp2_with fail
    rw [← HW1.out]
    refine (HB.out s W1 H1.out Hok.out hlg Hd.out).mono ?_
    rintro e w2 ⟨rfl, sw2, fr2⟩
    have Hsw2 := Lib.hid sw2
    have Hfr2 := Lib.hid ((Fr.of_below Hb1.out).trans fr2)
    obtain ⟨o, ho⟩ : ∃ o, (doneP i G s).2 = o := ⟨_, rfl⟩
    have Ho := Lib.hid ho
    rw [ho]
    have ht : tup o = .tuple #[.int .i64 (o.getD 0), .bool o.isSome] := rfl
    clear sw2 fr2 ho
    go_wp2_with fail
    refine bodyPost_ret (v := .tuple #[.int .i64 (o.getD 0), .bool o.isSome]) (by simp [results, Try.results47, go_sem]) rfl ?_
    exact ⟨by rw [Ho.out]; rfl, Hsw2.out, Hfr2.out⟩

set_option maxRecDepth 100000 in
set_option maxHeartbeats 3200000 in
theorem next_k2 {n0 pb cb : Nat} {A : Option Addr} {c : Nat} {l : List Nd} {As : Option Addr} {ca : Nat} {src : List (List Int)} {cc : Nat} {i : Nat} {xa xb n m : Int} (hx : l[i]? = some ⟨2, xa, xb, n, m⟩) (G : PF)
    (hB : ∀ (s : PS) (w : World), SW n0 pb cb A c l As ca src cc s w → StOk l src s.cs → s.lg.length + s.W l src ≤ 65536 → (s.at_ i).d = false →
      Calls Try.prog 69 #[.pointer (some ⟨pb, 0, none⟩), .int .i64 i] w fun e w' => NPost n0 pb cb A c l As ca src cc w (doneP i G s) e w') : NextOk n0 pb cb A c l As ca src cc (doneP i G) i := by
  intro s w h ok hlg
  have hi : i < l.length := (List.getElem?_eq_some_iff.1 hx).1
  have hil : i < s.cs.length := by rw [ok.len]; exact hi
  obtain ⟨b0, b1, b2⟩ := h.bx
  obtain ⟨nb, no, rfl, hnb, y0, y1, y2, y3, y4⟩ := h.nodes.at2 hx
  simp only at y0 y1 y2 y3 y4
  obtain ⟨W1, hW1⟩ : ∃ W1 : World, W1 = w.alloc (.cells #[.int .i64 2, .int .i64 xa, .int .i64 xb, .int .i64 n, .int .i64 m] 97) := ⟨_, rfl⟩
  have hb1 : Below w.heap.size w W1 := by rw [hW1]; exact (Below.refl _ _).alloc (Nat.le_refl _) _
  have hpw := h.rs.ltp
  have hcw := h.rs.ltc
  have cw := (h.rs.cl (i := i) hil).c5
  have H := Lib.hid h
  have H1 := Lib.hid (h.below hb1)
  have Hb1 := Lib.hid hb1
  have HW1 := Lib.hid hW1
  have Hok := Lib.hid ok
  have HB := Lib.hid hB
  clear h hb1 hW1 ok hx hB
  cases hd : (s.at_ i).d with
  | true =>
    rw [hd] at cw
    have Hd := Lib.hid hd
    clear hd
    go_enter Try.func47, Try.ntmps47
    go_wp2_with fail
    refine bodyPost_ret (v := .tuple #[.int .i64 0, .bool false]) (by simp [results, Try.results47, go_sem]) rfl ?_
    rw [doneP_done Hd.out]
    exact ⟨rfl, H.out.below ((Below.refl _ _).alloc (Nat.le_refl _) _), (Fr.refl _ _ _ _).alloc _⟩
  | false =>
    rw [hd] at cw
    have Hd := Lib.hid hd
    clear hd
    go_enter Try.func47, Try.ntmps47
    go_wp2_with fail
    rw [← HW1.out]
    refine (HB.out s W1 H1.out Hok.out hlg Hd.out).mono ?_
    rintro e w2 ⟨rfl, sw2, fr2⟩
    have Hsw2 := Lib.hid sw2
    have Hfr2 := Lib.hid ((Fr.of_below Hb1.out).trans fr2)
    obtain ⟨o, ho⟩ : ∃ o, (doneP i G s).2 = o := ⟨_, rfl⟩
    have Ho := Lib.hid ho
    rw [ho]
    have ht : tup o = .tuple #[.int .i64 (o.getD 0), .bool o.isSome] := rfl
    clear sw2 fr2 ho
    go_wp2_with fail
    refine bodyPost_ret (v := .tuple #[.int .i64 (o.getD 0), .bool o.isSome]) (by simp [results, Try.results47, go_sem]) rfl ?_
    exact ⟨by rw [Ho.out]; rfl, Hsw2.out, Hfr2.out⟩

set_option maxRecDepth 100000 in
set_option maxHeartbeats 3200000 in
theorem next_k3 {n0 pb cb : Nat} {A : Option Addr} {c : Nat} {l : List Nd} {As : Option Addr} {ca : Nat} {src : List (List Int)} {cc : Nat} {i : Nat} {xa xb n m : Int} (hx : l[i]? = some ⟨3, xa, xb, n, m⟩) (G : PF)
    (hB : ∀ (s : PS) (w : World), SW n0 pb cb A c l As ca src cc s w → StOk l src s.cs → s.lg.length + s.W l src ≤ 65536 → (s.at_ i).d = false →
      Calls Try.prog 66 #[.pointer (some ⟨pb, 0, none⟩), .int .i64 i] w fun e w' => NPost n0 pb cb A c l As ca src cc w (doneP i G s) e w') : NextOk n0 pb cb A c l As ca src cc (doneP i G) i := by
  intro s w h ok hlg
  have hi : i < l.length := (List.getElem?_eq_some_iff.1 hx).1
  have hil : i < s.cs.length := by rw [ok.len]; exact hi
  obtain ⟨b0, b1, b2⟩ := h.bx
  obtain ⟨nb, no, rfl, hnb, y0, y1, y2, y3, y4⟩ := h.nodes.at2 hx
  simp only at y0 y1 y2 y3 y4
  obtain ⟨W1, hW1⟩ : ∃ W1 : World, W1 = w.alloc (.cells #[.int .i64 3, .int .i64 xa, .int .i64 xb, .int .i64 n, .int .i64 m] 97) := ⟨_, rfl⟩
  have hb1 : Below w.heap.size w W1 := by rw [hW1]; exact (Below.refl _ _).alloc (Nat.le_refl _) _
  have hpw := h.rs.ltp
  have hcw := h.rs.ltc
  have cw := (h.rs.cl (i := i) hil).c5
  have H := Lib.hid h
  have H1 := Lib.hid (h.below hb1)
  have Hb1 := Lib.hid hb1
  have HW1 := Lib.hid hW1
  have Hok := Lib.hid ok
  have HB := Lib.hid hB
  clear h hb1 hW1 ok hx hB
  cases hd : (s.at_ i).d with
  | true =>
    rw [hd] at cw
    have Hd := Lib.hid hd
    clear hd
    go_enter Try.func47, Try.ntmps47
    go_wp2_with fail
    refine bodyPost_ret (v := .tuple #[.int .i64 0, .bool false]) (by simp [results, Try.results47, go_sem]) rfl ?_
    rw [doneP_done Hd.out]
    exact ⟨rfl, H.out.below ((Below.refl _ _).alloc (Nat.le_refl _) _), (Fr.refl _ _ _ _).alloc _⟩
  | false =>
    rw [hd] at cw
    have Hd := Lib.hid hd
    clear hd
    go_enter Try.func47, Try.ntmps47
    go_wp2_with fail
    rw [← HW1.out]
    refine (HB.out s W1 H1.out Hok.out hlg Hd.out).mono ?_
    rintro e w2 ⟨rfl, sw2, fr2⟩
    have Hsw2 := Lib.hid sw2
    have Hfr2 := Lib.hid ((Fr.of_below Hb1.out).trans fr2)
    obtain ⟨o, ho⟩ : ∃ o, (doneP i G s).2 = o := ⟨_, rfl⟩
    have Ho := Lib.hid ho
    rw [ho]
    have ht : tup o = .tuple #[.int .i64 (o.getD 0), .bool o.isSome] := rfl
    clear sw2 fr2 ho
    go_wp2_with fail
    refine bodyPost_ret (v := .tuple #[.int .i64 (o.getD 0), .bool o.isSome]) (by simp [results, Try.results47, go_sem]) rfl ?_
    exact ⟨by rw [Ho.out]; rfl, Hsw2.out, Hfr2.out⟩

set_option maxRecDepth 100000 in
set_option maxHeartbeats 3200000 in
theorem next_k4 {n0 pb cb : Nat} {A : Option Addr} {c : Nat} {l : List Nd} {As : Option Addr} {ca : Nat} {src : List (List Int)} {cc : Nat} {i : Nat} {xa xb n m : Int} (hx : l[i]? = some ⟨4, xa, xb, n, m⟩) (G : PF)
    (hB : ∀ (s : PS) (w : World), SW n0 pb cb A c l As ca src cc s w → StOk l src s.cs → s.lg.length + s.W l src ≤ 65536 → (s.at_ i).d = false →
      Calls Try.prog 66 #[.pointer (some ⟨pb, 0, none⟩), .int .i64 i] w fun e w' => NPost n0 pb cb A c l As ca src cc w (doneP i G s) e w') : NextOk n0 pb cb A c l As ca src cc (doneP i G) i := by
  intro s w h ok hlg
  have hi : i < l.length := (List.getElem?_eq_some_iff.1 hx).1
  have hil : i < s.cs.length := by rw [ok.len]; exact hi
  obtain ⟨b0, b1, b2⟩ := h.bx
  obtain ⟨nb, no, rfl, hnb, y0, y1, y2, y3, y4⟩ := h.nodes.at2 hx
  simp only at y0 y1 y2 y3 y4
  obtain ⟨W1, hW1⟩ : ∃ W1 : World, W1 = w.alloc (.cells #[.int .i64 4, .int .i64 xa, .int .i64 xb, .int .i64 n, .int .i64 m] 97) := ⟨_, rfl⟩
  have hb1 : Below w.heap.size w W1 := by rw [hW1]; exact (Below.refl _ _).alloc (Nat.le_refl _) _
  have hpw := h.rs.ltp
  have hcw := h.rs.ltc
  have cw := (h.rs.cl (i := i) hil).c5
  have H := Lib.hid h
  have H1 := Lib.hid (h.below hb1)
  have Hb1 := Lib.hid hb1
  have HW1 := Lib.hid hW1
  have Hok := Lib.hid ok
  have HB := Lib.hid hB
  clear h hb1 hW1 ok hx hB
  cases hd : (s.at_ i).d with
  | true =>
    rw [hd] at cw
    have Hd := Lib.hid hd
    clear hd
    go_enter Try.func47, Try.ntmps47
    go_wp2_with fail
    refine bodyPost_ret (v := .tuple #[.int .i64 0, .bool false]) (by simp [results, Try.results47, go_sem]) rfl ?_
    rw [doneP_done Hd.out]
    exact ⟨rfl, H.out.below ((Below.refl _ _).alloc (Nat.le_refl _) _), (Fr.refl _ _ _ _).alloc _⟩
  | false =>
    rw [hd] at cw
    have Hd := Lib.hid hd
    clear hd
    go_enter Try.func47, Try.ntmps47
    go_wp2_with fail
    rw [← HW1.out]
    refine (HB.out s W1 H1.out Hok.out hlg Hd.out).mono ?_
    rintro e w2 ⟨rfl, sw2, fr2⟩
    have Hsw2 := Lib.hid sw2
    have Hfr2 := Lib.hid ((Fr.of_below Hb1.out).trans fr2)
    obtain ⟨o, ho⟩ : ∃ o, (doneP i G s).2 = o := ⟨_, rfl⟩
    have Ho := Lib.hid ho
    rw [ho]
    have ht : tup o = .tuple #[.int .i64 (o.getD 0), .bool o.isSome] := rfl
    clear sw2 fr2 ho
    go_wp2_with fail
    refine bodyPost_ret (v := .tuple #[.int .i64 (o.getD 0), .bool o.isSome]) (by simp [results, Try.results47, go_sem]) rfl ?_
    exact ⟨by rw [Ho.out]; rfl, Hsw2.out, Hfr2.out⟩

set_option maxRecDepth 100000 in
set_option maxHeartbeats 3200000 in
theorem next_k5 {n0 pb cb : Nat} {A : Option Addr} {c : Nat} {l : List Nd} {As : Option Addr} {ca : Nat} {src : List (List Int)} {cc : Nat} {i : Nat} {xa xb n m : Int} (hx : l[i]? = some ⟨5, xa, xb, n, m⟩) (G : PF)
    (hB : ∀ (s : PS) (w : World), SW n0 pb cb A c l As ca src cc s w → StOk l src s.cs → s.lg.length + s.W l src ≤ 65536 → (s.at_ i).d = false →
      Calls Try.prog 69 #[.pointer (some ⟨pb, 0, none⟩), .int .i64 i] w fun e w' => NPost n0 pb cb A c l As ca src cc w (doneP i G s) e w') : NextOk n0 pb cb A c l As ca src cc (doneP i G) i := by
  intro s w h ok hlg
  have hi : i < l.length := (List.getElem?_eq_some_iff.1 hx).1
  have hil : i < s.cs.length := by rw [ok.len]; exact hi
  obtain ⟨b0, b1, b2⟩ := h.bx
  obtain ⟨nb, no, rfl, hnb, y0, y1, y2, y3, y4⟩ := h.nodes.at2 hx
  simp only at y0 y1 y2 y3 y4
  obtain ⟨W1, hW1⟩ : ∃ W1 : World, W1 = w.alloc (.cells #[.int .i64 5, .int .i64 xa, .int .i64 xb, .int .i64 n, .int .i64 m] 97) := ⟨_, rfl⟩
  have hb1 : Below w.heap.size w W1 := by rw [hW1]; exact (Below.refl _ _).alloc (Nat.le_refl _) _
  have hpw := h.rs.ltp
  have hcw := h.rs.ltc
  have cw := (h.rs.cl (i := i) hil).c5
  have H := Lib.hid h
  have H1 := Lib.hid (h.below hb1)
  have Hb1 := Lib.hid hb1
  have HW1 := Lib.hid hW1
  have Hok := Lib.hid ok
  have HB := Lib.hid hB
  clear h hb1 hW1 ok hx hB
  cases hd : (s.at_ i).d with
  | true =>
    rw [hd] at cw
    have Hd := Lib.hid hd
    clear hd
    go_enter Try.func47, Try.ntmps47
    go_wp2_with fail
    refine bodyPost_ret (v := .tuple #[.int .i64 0, .bool false]) (by simp [results, Try.results47, go_sem]) rfl ?_
    rw [doneP_done Hd.out]
    exact ⟨rfl, H.out.below ((Below.refl _ _).alloc (Nat.le_refl _) _), (Fr.refl _ _ _ _).alloc _⟩
  | false =>
    rw [hd] at cw
    have Hd := Lib.hid hd
    clear hd
    go_enter Try.func47, Try.ntmps47
    go_wp2_with fail
    rw [← HW1.out]
    refine (HB.out s W1 H1.out Hok.out hlg Hd.out).mono ?_
    rintro e w2 ⟨rfl, sw2, fr2⟩
    have Hsw2 := Lib.hid sw2
    have Hfr2 := Lib.hid ((Fr.of_below Hb1.out).trans fr2)
    obtain ⟨o, ho⟩ : ∃ o, (doneP i G s).2 = o := ⟨_, rfl⟩
    have Ho := Lib.hid ho
    rw [ho]
    have ht : tup o = .tuple #[.int .i64 (o.getD 0), .bool o.isSome] := rfl
    clear sw2 fr2 ho
    go_wp2_with fail
    refine bodyPost_ret (v := .tuple #[.int .i64 (o.getD 0), .bool o.isSome]) (by simp [results, Try.results47, go_sem]) rfl ?_
    exact ⟨by rw [Ho.out]; rfl, Hsw2.out, Hfr2.out⟩

set_option maxRecDepth 100000 in
set_option maxHeartbeats 3200000 in
theorem next_k6 {n0 pb cb : Nat} {A : Option Addr} {c : Nat} {l : List Nd} {As : Option Addr} {ca : Nat} {src : List (List Int)} {cc : Nat} {i : Nat} {xa xb n m : Int} (hx : l[i]? = some ⟨6, xa, xb, n, m⟩) (G : PF)
    (hB : ∀ (s : PS) (w : World), SW n0 pb cb A c l As ca src cc s w → StOk l src s.cs → s.lg.length + s.W l src ≤ 65536 → (s.at_ i).d = false →
      Calls Try.prog 69 #[.pointer (some ⟨pb, 0, none⟩), .int .i64 i] w fun e w' => NPost n0 pb cb A c l As ca src cc w (doneP i G s) e w') : NextOk n0 pb cb A c l As ca src cc (doneP i G) i := by
  intro s w h ok hlg
  have hi : i < l.length := (List.getElem?_eq_some_iff.1 hx).1
  have hil : i < s.cs.length := by rw [ok.len]; exact hi
  obtain ⟨b0, b1, b2⟩ := h.bx
  obtain ⟨nb, no, rfl, hnb, y0, y1, y2, y3, y4⟩ := h.nodes.at2 hx
  simp only at y0 y1 y2 y3 y4
  obtain ⟨W1, hW1⟩ : ∃ W1 : World, W1 = w.alloc (.cells #[.int .i64 6, .int .i64 xa, .int .i64 xb, .int .i64 n, .int .i64 m] 97) := ⟨_, rfl⟩
  have hb1 : Below w.heap.size w W1 := by rw [hW1]; exact (Below.refl _ _).alloc (Nat.le_refl _) _
  have hpw := h.rs.ltp
  have hcw := h.rs.ltc
  have cw := (h.rs.cl (i := i) hil).c5
  have H := Lib.hid h
  have H1 := Lib.hid (h.below hb1)
  have Hb1 := Lib.hid hb1
  have HW1 := Lib.hid hW1
  have Hok := Lib.hid ok
  have HB := Lib.hid hB
  clear h hb1 hW1 ok hx hB
  cases hd : (s.at_ i).d with
  | true =>
    rw [hd] at cw
    have Hd := Lib.hid hd
    clear hd
    go_enter Try.func47, Try.ntmps47
    go_wp2_with fail
    refine bodyPost_ret (v := .tuple #[.int .i64 0, .bool false]) (by simp [results, Try.results47, go_sem]) rfl ?_
    rw [doneP_done Hd.out]
    exact ⟨rfl, H.out.below ((Below.refl _ _).alloc (Nat.le_refl _) _), (Fr.refl _ _ _ _).alloc _⟩
  | false =>
    rw [hd] at cw
    have Hd := Lib.hid hd
    clear hd
    go_enter Try.func47, Try.ntmps47
    go_wp2_with fail
    rw [← HW1.out]
    refine (HB.out s W1 H1.out Hok.out hlg Hd.out).mono ?_
    rintro e w2 ⟨rfl, sw2, fr2⟩
    have Hsw2 := Lib.hid sw2
    have Hfr2 := Lib.hid ((Fr.of_below Hb1.out).trans fr2)
    obtain ⟨o, ho⟩ : ∃ o, (doneP i G s).2 = o := ⟨_, rfl⟩
    have Ho := Lib.hid ho
    rw [ho]
    have ht : tup o = .tuple #[.int .i64 (o.getD 0), .bool o.isSome] := rfl
    clear sw2 fr2 ho
    go_wp2_with fail
    refine bodyPost_ret (v := .tuple #[.int .i64 (o.getD 0), .bool o.isSome]) (by simp [results, Try.results47, go_sem]) rfl ?_
    exact ⟨by rw [Ho.out]; rfl, Hsw2.out, Hfr2.out⟩

set_option maxRecDepth 100000 in
set_option maxHeartbeats 3200000 in
theorem next_k7 {n0 pb cb : Nat} {A : Option Addr} {c : Nat} {l : List Nd} {As : Option Addr} {ca : Nat} {src : List (List Int)} {cc : Nat} {i : Nat} {xa xb n m : Int} (hx : l[i]? = some ⟨7, xa, xb, n, m⟩) (G : PF)
    (hB : ∀ (s : PS) (w : World), SW n0 pb cb A c l As ca src cc s w → StOk l src s.cs → s.lg.length + s.W l src ≤ 65536 → (s.at_ i).d = false →
      Calls Try.prog 67 #[.pointer (some ⟨pb, 0, none⟩), .int .i64 i] w fun e w' => NPost n0 pb cb A c l As ca src cc w (doneP i G s) e w') : NextOk n0 pb cb A c l As ca src cc (doneP i G) i := by
  intro s w h ok hlg
  have hi : i < l.length := (List.getElem?_eq_some_iff.1 hx).1
  have hil : i < s.cs.length := by rw [ok.len]; exact hi
  obtain ⟨b0, b1, b2⟩ := h.bx
  obtain ⟨nb, no, rfl, hnb, y0, y1, y2, y3, y4⟩ := h.nodes.at2 hx
  simp only at y0 y1 y2 y3 y4
  obtain ⟨W1, hW1⟩ : ∃ W1 : World, W1 = w.alloc (.cells #[.int .i64 7, .int .i64 xa, .int .i64 xb, .int .i64 n, .int .i64 m] 97) := ⟨_, rfl⟩
  have hb1 : Below w.heap.size w W1 := by rw [hW1]; exact (Below.refl _ _).alloc (Nat.le_refl _) _
  have hpw := h.rs.ltp
  have hcw := h.rs.ltc
  have cw := (h.rs.cl (i := i) hil).c5
  have H := Lib.hid h
  have H1 := Lib.hid (h.below hb1)
  have Hb1 := Lib.hid hb1
  have HW1 := Lib.hid hW1
  have Hok := Lib.hid ok
  have HB := Lib.hid hB
  clear h hb1 hW1 ok hx hB
  cases hd : (s.at_ i).d with
  | true =>
    rw [hd] at cw
    have Hd := Lib.hid hd
    clear hd
    go_enter Try.func47, Try.ntmps47
    go_wp2_with fail
    refine bodyPost_ret (v := .tuple #[.int .i64 0, .bool false]) (by simp [results, Try.results47, go_sem]) rfl ?_
    rw [doneP_done Hd.out]
    exact ⟨rfl, H.out.below ((Below.refl _ _).alloc (Nat.le_refl _) _), (Fr.refl _ _ _ _).alloc _⟩
  | false =>
    rw [hd] at cw
    have Hd := Lib.hid hd
    clear hd
    go_enter Try.func47, Try.ntmps47
    go_wp2_with fail
    rw [← HW1.out]
    refine (HB.out s W1 H1.out Hok.out hlg Hd.out).mono ?_
    rintro e w2 ⟨rfl, sw2, fr2⟩
    have Hsw2 := Lib.hid sw2
    have Hfr2 := Lib.hid ((Fr.of_below Hb1.out).trans fr2)
    obtain ⟨o, ho⟩ : ∃ o, (doneP i G s).2 = o := ⟨_, rfl⟩
    have Ho := Lib.hid ho
    rw [ho]
    have ht : tup o = .tuple #[.int .i64 (o.getD 0), .bool o.isSome] := rfl
    clear sw2 fr2 ho
    go_wp2_with fail
    refine bodyPost_ret (v := .tuple #[.int .i64 (o.getD 0), .bool o.isSome]) (by simp [results, Try.results47, go_sem]) rfl ?_
    exact ⟨by rw [Ho.out]; rfl, Hsw2.out, Hfr2.out⟩

set_option maxRecDepth 100000 in
set_option maxHeartbeats 3200000 in
theorem next_k8 {n0 pb cb : Nat} {A : Option Addr} {c : Nat} {l : List Nd} {As : Option Addr} {ca : Nat} {src : List (List Int)} {cc : Nat} {i : Nat} {xa xb n m : Int} (hx : l[i]? = some ⟨8, xa, xb, n, m⟩) (G : PF)
    (hB : ∀ (s : PS) (w : World), SW n0 pb cb A c l As ca src cc s w → StOk l src s.cs → s.lg.length + s.W l src ≤ 65536 → (s.at_ i).d = false →
      Calls Try.prog 67 #[.pointer (some ⟨pb, 0, none⟩), .int .i64 i] w fun e w' => NPost n0 pb cb A c l As ca src cc w (doneP i G s) e w') : NextOk n0 pb cb A c l As ca src cc (doneP i G) i := by
  intro s w h ok hlg
  have hi : i < l.length := (List.getElem?_eq_some_iff.1 hx).1
  have hil : i < s.cs.length := by rw [ok.len]; exact hi
  obtain ⟨b0, b1, b2⟩ := h.bx
  obtain ⟨nb, no, rfl, hnb, y0, y1, y2, y3, y4⟩ := h.nodes.at2 hx
  simp only at y0 y1 y2 y3 y4
  obtain ⟨W1, hW1⟩ : ∃ W1 : World, W1 = w.alloc (.cells #[.int .i64 8, .int .i64 xa, .int .i64 xb, .int .i64 n, .int .i64 m] 97) := ⟨_, rfl⟩
  have hb1 : Below w.heap.size w W1 := by rw [hW1]; exact (Below.refl _ _).alloc (Nat.le_refl _) _
  have hpw := h.rs.ltp
  have hcw := h.rs.ltc
  have cw := (h.rs.cl (i := i) hil).c5
  have H := Lib.hid h
  have H1 := Lib.hid (h.below hb1)
  have Hb1 := Lib.hid hb1
  have HW1 := Lib.hid hW1
  have Hok := Lib.hid ok
  have HB := Lib.hid hB
  clear h hb1 hW1 ok hx hB
  cases hd : (s.at_ i).d with
  | true =>
    rw [hd] at cw
    have Hd := Lib.hid hd
    clear hd
    go_enter Try.func47, Try.ntmps47
    go_wp2_with fail
    refine bodyPost_ret (v := .tuple #[.int .i64 0, .bool false]) (by simp [results, Try.results47, go_sem]) rfl ?_
    rw [doneP_done Hd.out]
    exact ⟨rfl, H.out.below ((Below.refl _ _).alloc (Nat.le_refl _) _), (Fr.refl _ _ _ _).alloc _⟩
  | false =>
    rw [hd] at cw
    have Hd := Lib.hid hd
    clear hd
    go_enter Try.func47, Try.ntmps47
    go_wp2_with fail
    rw [← HW1.out]
    refine (HB.out s W1 H1.out Hok.out hlg Hd.out).mono ?_
    rintro e w2 ⟨rfl, sw2, fr2⟩
    have Hsw2 := Lib.hid sw2
    have Hfr2 := Lib.hid ((Fr.of_below Hb1.out).trans fr2)
    obtain ⟨o, ho⟩ : ∃ o, (doneP i G s).2 = o := ⟨_, rfl⟩
    have Ho := Lib.hid ho
    rw [ho]
    have ht : tup o = .tuple #[.int .i64 (o.getD 0), .bool o.isSome] := rfl
    clear sw2 fr2 ho
    go_wp2_with fail
    refine bodyPost_ret (v := .tuple #[.int .i64 (o.getD 0), .bool o.isSome]) (by simp [results, Try.results47, go_sem]) rfl ?_
    exact ⟨by rw [Ho.out]; rfl, Hsw2.out, Hfr2.out⟩

set_option maxRecDepth 100000 in
set_option maxHeartbeats 3200000 in
theorem next_k9 {n0 pb cb : Nat} {A : Option Addr} {c : Nat} {l : List Nd} {As : Option Addr} {ca : Nat} {src : List (List Int)} {cc : Nat} {i : Nat} {xa xb n m : Int} (hx : l[i]? = some ⟨9, xa, xb, n, m⟩) (G : PF)
    (hB : ∀ (s : PS) (w : World), SW n0 pb cb A c l As ca src cc s w → StOk l src s.cs → s.lg.length + s.W l src ≤ 65536 → (s.at_ i).d = false →
      Calls Try.prog 68 #[.pointer (some ⟨pb, 0, none⟩), .int .i64 i] w fun e w' => NPost n0 pb cb A c l As ca src cc w (doneP i G s) e w') : NextOk n0 pb cb A c l As ca src cc (doneP i G) i := by
  intro s w h ok hlg
  have hi : i < l.length := (List.getElem?_eq_some_iff.1 hx).1
  have hil : i < s.cs.length := by rw [ok.len]; exact hi
  obtain ⟨b0, b1, b2⟩ := h.bx
  obtain ⟨nb, no, rfl, hnb, y0, y1, y2, y3, y4⟩ := h.nodes.at2 hx
  simp only at y0 y1 y2 y3 y4
  obtain ⟨W1, hW1⟩ : ∃ W1 : World, W1 = w.alloc (.cells #[.int .i64 9, .int .i64 xa, .int .i64 xb, .int .i64 n, .int .i64 m] 97) := ⟨_, rfl⟩
  have hb1 : Below w.heap.size w W1 := by rw [hW1]; exact (Below.refl _ _).alloc (Nat.le_refl _) _
  have hpw := h.rs.ltp
  have hcw := h.rs.ltc
  have cw := (h.rs.cl (i := i) hil).c5
  have H := Lib.hid h
  have H1 := Lib.hid (h.below hb1)
  have Hb1 := Lib.hid hb1
  have HW1 := Lib.hid hW1
  have Hok := Lib.hid ok
  have HB := Lib.hid hB
  clear h hb1 hW1 ok hx hB
  cases hd : (s.at_ i).d with
  | true =>
    rw [hd] at cw
    have Hd := Lib.hid hd
    clear hd
    go_enter Try.func47, Try.ntmps47
    go_wp2_with fail
    refine bodyPost_ret (v := .tuple #[.int .i64 0, .bool false]) (by simp [results, Try.results47, go_sem]) rfl ?_
    rw [doneP_done Hd.out]
    exact ⟨rfl, H.out.below ((Below.refl _ _).alloc (Nat.le_refl _) _), (Fr.refl _ _ _ _).alloc _⟩
  | false =>
    rw [hd] at cw
    have Hd := Lib.hid hd
    clear hd
    go_enter Try.func47, Try.ntmps47
    go_wp2_with fail
    rw [← HW1.out]
    refine (HB.out s W1 H1.out Hok.out hlg Hd.out).mono ?_
    rintro e w2 ⟨rfl, sw2, fr2⟩
    have Hsw2 := Lib.hid sw2
    have Hfr2 := Lib.hid ((Fr.of_below Hb1.out).trans fr2)
    obtain ⟨o, ho⟩ : ∃ o, (doneP i G s).2 = o := ⟨_, rfl⟩
    have Ho := Lib.hid ho
    rw [ho]
    have ht : tup o = .tuple #[.int .i64 (o.getD 0), .bool o.isSome] := rfl
    clear sw2 fr2 ho
    go_wp2_with fail
    refine bodyPost_ret (v := .tuple #[.int .i64 (o.getD 0), .bool o.isSome]) (by simp [results, Try.results47, go_sem]) rfl ?_
    exact ⟨by rw [Ho.out]; rfl, Hsw2.out, Hfr2.out⟩

set_option maxRecDepth 100000 in
set_option maxHeartbeats 3200000 in
theorem next_k10 {n0 pb cb : Nat} {A : Option Addr} {c : Nat} {l : List Nd} {As : Option Addr} {ca : Nat} {src : List (List Int)} {cc : Nat} {i : Nat} {xa xb n m : Int} (hx : l[i]? = some ⟨10, xa, xb, n, m⟩) (G : PF)
    (hB : ∀ (s : PS) (w : World), SW n0 pb cb A c l As ca src cc s w → StOk l src s.cs → s.lg.length + s.W l src ≤ 65536 → (s.at_ i).d = false →
      Calls Try.prog 67 #[.pointer (some ⟨pb, 0, none⟩), .int .i64 i] w fun e w' => NPost n0 pb cb A c l As ca src cc w (doneP i G s) e w') : NextOk n0 pb cb A c l As ca src cc (doneP i G) i := by
  intro s w h ok hlg
  have hi : i < l.length := (List.getElem?_eq_some_iff.1 hx).1
  have hil : i < s.cs.length := by rw [ok.len]; exact hi
  obtain ⟨b0, b1, b2⟩ := h.bx
  obtain ⟨nb, no, rfl, hnb, y0, y1, y2, y3, y4⟩ := h.nodes.at2 hx
  simp only at y0 y1 y2 y3 y4
  obtain ⟨W1, hW1⟩ : ∃ W1 : World, W1 = w.alloc (.cells #[.int .i64 10, .int .i64 xa, .int .i64 xb, .int .i64 n, .int .i64 m] 97) := ⟨_, rfl⟩
  have hb1 : Below w.heap.size w W1 := by rw [hW1]; exact (Below.refl _ _).alloc (Nat.le_refl _) _
  have hpw := h.rs.ltp
  have hcw := h.rs.ltc
  have cw := (h.rs.cl (i := i) hil).c5
  have H := Lib.hid h
  have H1 := Lib.hid (h.below hb1)
  have Hb1 := Lib.hid hb1
  have HW1 := Lib.hid hW1
  have Hok := Lib.hid ok
  have HB := Lib.hid hB
  clear h hb1 hW1 ok hx hB
  cases hd : (s.at_ i).d with
  | true =>
    rw [hd] at cw
    have Hd := Lib.hid hd
    clear hd
    go_enter Try.func47, Try.ntmps47
    go_wp2_with fail
    refine bodyPost_ret (v := .tuple #[.int .i64 0, .bool false]) (by simp [results, Try.results47, go_sem]) rfl ?_
    rw [doneP_done Hd.out]
    exact ⟨rfl, H.out.below ((Below.refl _ _).alloc (Nat.le_refl _) _), (Fr.refl _ _ _ _).alloc _⟩
  | false =>
    rw [hd] at cw
    have Hd := Lib.hid hd
    clear hd
    go_enter Try.func47, Try.ntmps47
    go_wp2_with fail
    rw [← HW1.out]
    refine (HB.out s W1 H1.out Hok.out hlg Hd.out).mono ?_
    rintro e w2 ⟨rfl, sw2, fr2⟩
    have Hsw2 := Lib.hid sw2
    have Hfr2 := Lib.hid ((Fr.of_below Hb1.out).trans fr2)
    obtain ⟨o, ho⟩ : ∃ o, (doneP i G s).2 = o := ⟨_, rfl⟩
    have Ho := Lib.hid ho
    rw [ho]
    have ht : tup o = .tuple #[.int .i64 (o.getD 0), .bool o.isSome] := rfl
    clear sw2 fr2 ho
    go_wp2_with fail
    refine bodyPost_ret (v := .tuple #[.int .i64 (o.getD 0), .bool o.isSome]) (by simp [results, Try.results47, go_sem]) rfl ?_
    exact ⟨by rw [Ho.out]; rfl, Hsw2.out, Hfr2.out⟩

set_option maxRecDepth 100000 in
set_option maxHeartbeats 3200000 in
theorem next_k11 {n0 pb cb : Nat} {A : Option Addr} {c : Nat} {l : List Nd} {As : Option Addr} {ca : Nat} {src : List (List Int)} {cc : Nat} {i : Nat} {xa xb n m : Int} (hx : l[i]? = some ⟨11, xa, xb, n, m⟩) (G : PF)
    (hB : ∀ (s : PS) (w : World), SW n0 pb cb A c l As ca src cc s w → StOk l src s.cs → s.lg.length + s.W l src ≤ 65536 → (s.at_ i).d = false →
      Calls Try.prog 69 #[.pointer (some ⟨pb, 0, none⟩), .int .i64 i] w fun e w' => NPost n0 pb cb A c l As ca src cc w (doneP i G s) e w') : NextOk n0 pb cb A c l As ca src cc (doneP i G) i := by
  intro s w h ok hlg
  have hi : i < l.length := (List.getElem?_eq_some_iff.1 hx).1
  have hil : i < s.cs.length := by rw [ok.len]; exact hi
  obtain ⟨b0, b1, b2⟩ := h.bx
  obtain ⟨nb, no, rfl, hnb, y0, y1, y2, y3, y4⟩ := h.nodes.at2 hx
  simp only at y0 y1 y2 y3 y4
  obtain ⟨W1, hW1⟩ : ∃ W1 : World, W1 = w.alloc (.cells #[.int .i64 11, .int .i64 xa, .int .i64 xb, .int .i64 n, .int .i64 m] 97) := ⟨_, rfl⟩
  have hb1 : Below w.heap.size w W1 := by rw [hW1]; exact (Below.refl _ _).alloc (Nat.le_refl _) _
  have hpw := h.rs.ltp
  have hcw := h.rs.ltc
  have cw := (h.rs.cl (i := i) hil).c5
  have H := Lib.hid h
  have H1 := Lib.hid (h.below hb1)
  have Hb1 := Lib.hid hb1
  have HW1 := Lib.hid hW1
  have Hok := Lib.hid ok
  have HB := Lib.hid hB
  clear h hb1 hW1 ok hx hB
  cases hd : (s.at_ i).d with
  | true =>
    rw [hd] at cw
    have Hd := Lib.hid hd
    clear hd
    go_enter Try.func47, Try.ntmps47
    go_wp2_with fail
    refine bodyPost_ret (v := .tuple #[.int .i64 0, .bool false]) (by simp [results, Try.results47, go_sem]) rfl ?_
    rw [doneP_done Hd.out]
    exact ⟨rfl, H.out.below ((Below.refl _ _).alloc (Nat.le_refl _) _), (Fr.refl _ _ _ _).alloc _⟩
  | false =>
    rw [hd] at cw
    have Hd := Lib.hid hd
    clear hd
    go_enter Try.func47, Try.ntmps47
    go_wp2_with fail
    rw [← HW1.out]
    refine (HB.out s W1 H1.out Hok.out hlg Hd.out).mono ?_
    rintro e w2 ⟨rfl, sw2, fr2⟩
    have Hsw2 := Lib.hid sw2
    have Hfr2 := Lib.hid ((Fr.of_below Hb1.out).trans fr2)
    obtain ⟨o, ho⟩ : ∃ o, (doneP i G s).2 = o := ⟨_, rfl⟩
    have Ho := Lib.hid ho
    rw [ho]
    have ht : tup o = .tuple #[.int .i64 (o.getD 0), .bool o.isSome] := rfl
    clear sw2 fr2 ho
    go_wp2_with fail
    refine bodyPost_ret (v := .tuple #[.int .i64 (o.getD 0), .bool o.isSome]) (by simp [results, Try.results47, go_sem]) rfl ?_
    exact ⟨by rw [Ho.out]; rfl, Hsw2.out, Hfr2.out⟩

set_option maxRecDepth 100000 in
set_option maxHeartbeats 3200000 in
theorem next_k12 {n0 pb cb : Nat} {A : Option Addr} {c : Nat} {l : List Nd} {As : Option Addr} {ca : Nat} {src : List (List Int)} {cc : Nat} {i : Nat} {xa xb n m : Int} (hx : l[i]? = some ⟨12, xa, xb, n, m⟩) (G : PF)
    (hB : ∀ (s : PS) (w : World), SW n0 pb cb A c l As ca src cc s w → StOk l src s.cs → s.lg.length + s.W l src ≤ 65536 → (s.at_ i).d = false →
      Calls Try.prog 66 #[.pointer (some ⟨pb, 0, none⟩), .int .i64 i] w fun e w' => NPost n0 pb cb A c l As ca src cc w (doneP i G s) e w') : NextOk n0 pb cb A c l As ca src cc (doneP i G) i := by
  intro s w h ok hlg
  have hi : i < l.length := (List.getElem?_eq_some_iff.1 hx).1
  have hil : i < s.cs.length := by rw [ok.len]; exact hi
  obtain ⟨b0, b1, b2⟩ := h.bx
  obtain ⟨nb, no, rfl, hnb, y0, y1, y2, y3, y4⟩ := h.nodes.at2 hx
  simp only at y0 y1 y2 y3 y4
  obtain ⟨W1, hW1⟩ : ∃ W1 : World, W1 = w.alloc (.cells #[.int .i64 12, .int .i64 xa, .int .i64 xb, .int .i64 n, .int .i64 m] 97) := ⟨_, rfl⟩
  have hb1 : Below w.heap.size w W1 := by rw [hW1]; exact (Below.refl _ _).alloc (Nat.le_refl _) _
  have hpw := h.rs.ltp
  have hcw := h.rs.ltc
  have cw := (h.rs.cl (i := i) hil).c5
  have H := Lib.hid h
  have H1 := Lib.hid (h.below hb1)
  have Hb1 := Lib.hid hb1
  have HW1 := Lib.hid hW1
  have Hok := Lib.hid ok
  have HB := Lib.hid hB
  clear h hb1 hW1 ok hx hB
  cases hd : (s.at_ i).d with
  | true =>
    rw [hd] at cw
    have Hd := Lib.hid hd
    clear hd
    go_enter Try.func47, Try.ntmps47
    go_wp2_with fail
    refine bodyPost_ret (v := .tuple #[.int .i64 0, .bool false]) (by simp [results, Try.results47, go_sem]) rfl ?_
    rw [doneP_done Hd.out]
    exact ⟨rfl, H.out.below ((Below.refl _ _).alloc (Nat.le_refl _) _), (Fr.refl _ _ _ _).alloc _⟩
  | false =>
    rw [hd] at cw
    have Hd := Lib.hid hd
    clear hd
    go_enter Try.func47, Try.ntmps47
    go_wp2_with fail
    rw [← HW1.out]
    refine (HB.out s W1 H1.out Hok.out hlg Hd.out).mono ?_
    rintro e w2 ⟨rfl, sw2, fr2⟩
    have Hsw2 := Lib.hid sw2
    have Hfr2 := Lib.hid ((Fr.of_below Hb1.out).trans fr2)
    obtain ⟨o, ho⟩ : ∃ o, (doneP i G s).2 = o := ⟨_, rfl⟩
    have Ho := Lib.hid ho
    rw [ho]
    have ht : tup o = .tuple #[.int .i64 (o.getD 0), .bool o.isSome] := rfl
    clear sw2 fr2 ho
    go_wp2_with fail
    refine bodyPost_ret (v := .tuple #[.int .i64 (o.getD 0), .bool o.isSome]) (by simp [results, Try.results47, go_sem]) rfl ?_
    exact ⟨by rw [Ho.out]; rfl, Hsw2.out, Hfr2.out⟩

set_option maxRecDepth 100000 in
set_option maxHeartbeats 3200000 in
theorem next_k13 {n0 pb cb : Nat} {A : Option Addr} {c : Nat} {l : List Nd} {As : Option Addr} {ca : Nat} {src : List (List Int)} {cc : Nat} {i : Nat} {xa xb n m : Int} (hx : l[i]? = some ⟨13, xa, xb, n, m⟩) (G : PF)
    (hB : ∀ (s : PS) (w : World), SW n0 pb cb A c l As ca src cc s w → StOk l src s.cs → s.lg.length + s.W l src ≤ 65536 → (s.at_ i).d = false →
      Calls Try.prog 69 #[.pointer (some ⟨pb, 0, none⟩), .int .i64 i] w fun e w' => NPost n0 pb cb A c l As ca src cc w (doneP i G s) e w') : NextOk n0 pb cb A c l As ca src cc (doneP i G) i := by
  intro s w h ok hlg
  have hi : i < l.length := (List.getElem?_eq_some_iff.1 hx).1
  have hil : i < s.cs.length := by rw [ok.len]; exact hi
  obtain ⟨b0, b1, b2⟩ := h.bx
  obtain ⟨nb, no, rfl, hnb, y0, y1, y2, y3, y4⟩ := h.nodes.at2 hx
  simp only at y0 y1 y2 y3 y4
  obtain ⟨W1, hW1⟩ : ∃ W1 : World, W1 = w.alloc (.cells #[.int .i64 13, .int .i64 xa, .int .i64 xb, .int .i64 n, .int .i64 m] 97) := ⟨_, rfl⟩
  have hb1 : Below w.heap.size w W1 := by rw [hW1]; exact (Below.refl _ _).alloc (Nat.le_refl _) _
  have hpw := h.rs.ltp
  have hcw := h.rs.ltc
  have cw := (h.rs.cl (i := i) hil).c5
  have H := Lib.hid h
  have H1 := Lib.hid (h.below hb1)
  have Hb1 := Lib.hid hb1
  have HW1 := Lib.hid hW1
  have Hok := Lib.hid ok
  have HB := Lib.hid hB
  clear h hb1 hW1 ok hx hB
  cases hd : (s.at_ i).d with
  | true =>
    rw [hd] at cw
    have Hd := Lib.hid hd
    clear hd
    go_enter Try.func47, Try.ntmps47
    go_wp2_with fail
    refine bodyPost_ret (v := .tuple #[.int .i64 0, .bool false]) (by simp [results, Try.results47, go_sem]) rfl ?_
    rw [doneP_done Hd.out]
    exact ⟨rfl, H.out.below ((Below.refl _ _).alloc (Nat.le_refl _) _), (Fr.refl _ _ _ _).alloc _⟩
  | false =>
    rw [hd] at cw
    have Hd := Lib.hid hd
    clear hd
    go_enter Try.func47, Try.ntmps47
    go_wp2_with fail
    rw [← HW1.out]
    refine (HB.out s W1 H1.out Hok.out hlg Hd.out).mono ?_
    rintro e w2 ⟨rfl, sw2, fr2⟩
    have Hsw2 := Lib.hid sw2
    have Hfr2 := Lib.hid ((Fr.of_below Hb1.out).trans fr2)
    obtain ⟨o, ho⟩ : ∃ o, (doneP i G s).2 = o := ⟨_, rfl⟩
    have Ho := Lib.hid ho
    rw [ho]
    have ht : tup o = .tuple #[.int .i64 (o.getD 0), .bool o.isSome] := rfl
    clear sw2 fr2 ho
    go_wp2_with fail
    refine bodyPost_ret (v := .tuple #[.int .i64 (o.getD 0), .bool o.isSome]) (by simp [results, Try.results47, go_sem]) rfl ?_
    exact ⟨by rw [Ho.out]; rfl, Hsw2.out, Hfr2.out⟩

theorem NextOk.of {n0 pb cb : Nat} {A : Option Addr} {c : Nat} {l : List Nd} {As : Option Addr} {ca : Nat} {src : List (List Int)} {cc : Nat} (hp : PipeOk l) (hs : srcOk src = true) (hl12 : l.length ≤ 12) {t : TI} (ht : IsTI l t) :
    NextOk n0 pb cb A c l As ca src cc (pull src (fun s => s.M l src + 1) t) t.ix := by
  have ok : ∀ (i : Nat) (x : Nd), l[i]? = some x → numsOk x = true := fun i x hx => by
    have h1 := hp.node i x hx
    simp only [nodeOk, Bool.and_eq_true] at h1
    exact h1.1
  have _u := hl12
  have hs3 : src.length = 3 := (src_rows hs).1
  induction ht with
  | @leaf i x hx ha h1 h2 =>
    have hk := arity_zero ha
    have hn := ok _ _ hx
    obtain ⟨k, xa, xb, n, m⟩ := x
    simp only at hk h1 h2
    subst hk
    simp [numsOk, inR] at hn
    obtain ⟨q, hq⟩ : ∃ q : Nat, n = (q : Int) := ⟨n.toNat, by omega⟩
    subst hq
    obtain ⟨row, hrow⟩ := get_of_lt src (k := q) (by omega)
    have hrl := (src_rows hs).2 row (List.mem_of_getElem? hrow)
    refine next_k0 hx _ fun s w h okS hlg hd => ?_
    have hat := (StOk.at_ okS hx).1
    have hmo : mostOf ⟨0, xa, xb, (q : Int), m⟩ src = (row.length : Int) := by simp [mostOf, List.getD_eq_getElem?_getD, hrow]
    rw [hmo] at hat
    exact (nextSource_any h okS.len hx q rfl hs3 row hrow hrl hat.1 hat.2 (by omega) hd).mono fun e w' ⟨a, b, c⟩ => ⟨a, b, c⟩
  | @stem i x t hx ha h1 hj h2 ht ih =>
    have hk := arity_one ha
    have hn := ok _ _ hx
    have hF := pull_fine hp hs (fu := fun s => s.M l src + 1) ht
    obtain ⟨k, xa, xb, n, m⟩ := x
    simp only at hk h1 h2
    subst h1
    rcases hk with rfl | rfl | rfl | rfl | rfl | rfl | rfl | rfl | rfl
    · simp [numsOk, inR] at hn
      exact next_k1 hx _ fun s w h okS hlg hd => next_map hs hx hj hF ih s w h okS hlg hd (Lib.hid (by omega))
    · simp [numsOk, inR] at hn
      exact next_k2 hx _ fun s w h okS hlg hd => next_filter hs hx hj hF ih s w h okS hlg hd (Lib.hid (by omega))
    · simp [numsOk, inR] at hn
      exact next_k3 hx _ fun s w h okS hlg hd => next_take hs hx hj hF ih s w h okS hlg hd (Lib.hid (by omega))
    · simp [numsOk, inR] at hn
      exact next_k4 hx _ fun s w h okS hlg hd => next_drop hs hx hj hF ih s w h okS hlg hd (Lib.hid (by omega))
    · exact next_k5 hx _ fun s w h okS hlg hd => next_while hs hx hj hF ih s w h okS hlg hd
    · exact next_k6 hx _ fun s w h okS hlg hd => next_skip hs hx hj hF ih s w h okS hlg hd
    · exact next_k11 hx _ fun s w h okS hlg hd => next_scan hs hx hj hF ih s w h okS hlg hd
    · simp [numsOk, inR] at hn
      exact next_k12 hx _ fun s w h okS hlg hd => next_batch hs hx hj hF ih s w h okS hlg hd (Lib.hid (by omega))
    · exact next_k13 hx _ fun s w h okS hlg hd => next_once hs hx hj hF ih s w h okS hlg hd
  | @fork i x a b hx ha h1 hj h2 hj2 hta htb iha ihb =>
    have hk := arity_two ha
    have hFa := pull_fine hp hs (fu := fun s => s.M l src + 1) hta
    have hFb := pull_fine hp hs (fu := fun s => s.M l src + 1) htb
    obtain ⟨k, xa, xb, n, m⟩ := x
    simp only at hk h1 h2
    subst h1
    subst h2
    rcases hk with rfl | rfl | rfl | rfl
    · exact next_k7 hx _ fun s w h okS hlg hd => next_chain hs hx hj hj2 hFa iha hFb ihb s w h okS hlg hd
    · exact next_k8 hx _ fun s w h okS hlg hd => next_zip hs hx hj hj2 hFa iha hFb ihb s w h okS hlg hd
    · exact next_k9 hx _ fun s w h okS hlg hd => next_merge hs hx hj hj2 hFa iha hFb ihb s w h okS hlg hd
    · exact next_k10 hx _ fun s w h okS hlg hd => next_turn hs hx hj hj2 hFa iha hFb ihb s w h okS hlg hd

end Go.Proofs.Ythfniffecceldaa

/- Contracts: lists out of lists, by the program (one number out of a list). -/
namespace Go.Proofs.Ythfniffecceldaa
open Go.RowKit

theorem implRest_any (n : Int) (w : World) (h : 0 ≤ n) :
    Calls Try.prog 103 #[.int .i64 n] w fun e w' => e = .returned (.int .i64 (rst n)) ∧ w = w' := by
  have h5 : n.tmod 100 = rst n := rfl
  have h6 := rst_in h
  go_enter Try.func103, Try.ntmps103
  go_wp2
  go_ret
  exact ⟨rfl, rfl⟩

end Go.Proofs.Ythfniffecceldaa

/- Contracts: pulls by the program: what a puller is; one list behind the other, and sums. -/
namespace Go.Proofs.Ythfniffecceldaa
open Go.RowKit

/-- What may have been written since the run was made: as Fr, but of the blocks from n0 up to the run's own box nothing is said. -/
structure Fi (n0 rb cb : Nat) (w w' : World) : Prop where
  os : w'.os = w.os
  tape : w'.tape = w.tape
  output : w'.output = w.output
  size : w.heap.size ≤ w'.heap.size
  block : ∀ b, b < w.heap.size → b ≠ rb → b ≠ cb → (b < n0 ∨ (rb ≤ b ∧ ¬ IsPl w b)) → w'.heap[b]? = w.heap[b]?
section
variable {n0 rb cb : Nat} {w w' v : World}
theorem Fr.fi (h : Fr n0 rb cb w w') : Fi n0 rb cb w w' := ⟨h.os, h.tape, h.output, h.size, fun b hb h1 h2 h3 => h.block b hb h1 h2 (h3.imp id And.right)⟩
theorem Fi.refl (n0 rb cb : Nat) (w : World) : Fi n0 rb cb w w := (Fr.refl n0 rb cb w).fi
theorem Fi.trans (h : Fi n0 rb cb w w') (k : Fr n0 rb cb w' v) : Fi n0 rb cb w v :=
  ⟨k.os.trans h.os, k.tape.trans h.tape, k.output.trans h.output, Nat.le_trans h.size k.size, fun b hb h1 h2 h3 => by
    have e := h.block b hb h1 h2 h3
    exact (k.block b (Nat.lt_of_lt_of_le hb h.size) h1 h2 (h3.imp id fun hn ⟨cs, fr, hc⟩ => hn.2 ⟨cs, fr, e.symm.trans hc⟩)).trans e⟩
theorem Fr.tfi (h : Fr n0 rb cb w w') (k : Fi n0 rb cb w' v) : Fi n0 rb cb w v :=
  ⟨k.os.trans h.os, k.tape.trans h.tape, k.output.trans h.output, Nat.le_trans h.size k.size, fun b hb h1 h2 h3 => by
    have e := h.block b hb h1 h2 (h3.imp id And.right)
    exact (k.block b (Nat.lt_of_lt_of_le hb h.size) h1 h2 (h3.imp id fun hn => ⟨hn.1, fun ⟨cs, fr, hc⟩ => hn.2 ⟨cs, fr, e.symm.trans hc⟩⟩)).trans e⟩
theorem Fi.bk (h : Fi n0 rb cb w w') {g : Nat} {t : TypeId} {cs : List Value} (hb : Bk w g t cs) (ht : t ≠ 90) (h1 : rb < g) (h2 : g ≠ cb) : Bk w' g t cs :=
  (h.block g hb.lt (Nat.ne_of_gt h1) h2 (.inr ⟨Nat.le_of_lt h1, IsPl.not hb ht⟩)).trans hb
theorem Fi.alloc (h : Fi n0 rb cb w w') (o : Obj) : Fi n0 rb cb w (w'.alloc o) := h.trans ((Fr.refl _ _ _ _).alloc o)
theorem Fi.drew (h : Fi n0 rb cb w w') : Fi n0 rb cb w w'.drew := h.trans ((Fr.refl _ _ _ _).drew)
theorem Fi.below (h : Fi n0 rb cb w w') (h1 : n0 ≤ rb) (h2 : n0 ≤ cb) (hz : n0 ≤ w.heap.size) : Below n0 w w' :=
  ⟨h.os, h.tape, h.output, h.size, fun b hb => h.block b (by omega) (by omega) (by omega) (.inl hb)⟩
end

/-- The program's run in memory; fe is how its end is pulled. -/
def IW (n0 rb cb N cc : Nat) (fe : Value) (s : PS) (W : World) : Prop := RS n0 rb cb 116 [.slice (some ⟨cb, 0, none⟩) N cc] [fe] s W
/-- What a pull by the program leaves. -/
structure IPost (n0 rb cb N cc : Nat) (fe : Value) (w : World) (r : PS × Option Int) (e : Ending) (w' : World) : Prop where
  res : e = .returned (tup r.2)
  iw : IW n0 rb cb N cc fe r.1 w'
  fr : Fr n0 rb cb w w'
/-- A call of function k with the captured lb pulls as G says, in every world that comes after w1. -/
def Pulls (n0 rb cb N cc : Nat) (l : List Nd) (src : List (List Int)) (G : PF) (k : FuncId) (lb : Array Value) (w1 : World) : Prop :=
  ∀ (fe : Value) (s : PS) (W : World), Fi n0 rb cb w1 W → IW n0 rb cb N cc fe s W → StOk l src s.cs → s.lg.length + s.W l src ≤ 65536 →
    Calls Try.prog k lb W fun e w' => IPost n0 rb cb N cc fe W (G s) e w'
/-- A function value that pulls as G says. -/
def Puller (n0 rb cb N cc : Nat) (l : List Nd) (src : List (List Int)) (G : PF) (fv : Value) (w1 : World) : Prop :=
  ∃ (k : FuncId) (lb : Array Value), fv = .func (.func k) #[] lb ∧ (∀ (args : Array Value) (w : World), (callFunc k args).run Try.prog w = .ok (.enter k args) w) ∧ Pulls n0 rb cb N cc l src G k lb w1
/-- A box that no pull writes. -/
structure Bx (rb cb : Nat) (w : World) (b : Nat) (t : TypeId) (v : Value) : Prop where
  bk : Bk w b t [v]
  nr : rb < b
  nc : b ≠ cb
theorem Bx.fr {n0 rb cb : Nat} {w w' : World} {b : Nat} {t : TypeId} {v : Value} (h : Bx rb cb w b t v) (hf : Fi n0 rb cb w w') (ht : t ≠ 90) : Bx rb cb w' b t v := ⟨hf.bk h.bk ht h.nr h.nc, h.nr, h.nc⟩
theorem Bx.cell {rb cb : Nat} {w : World} {b : Nat} {t : TypeId} {v : Value} (h : Bx rb cb w b t v) : w.cell? ⟨b, 0, none⟩ = some v := h.bk.cell 0
theorem Puller.fr {n0 rb cb N cc : Nat} {l : List Nd} {src : List (List Int)} {G : PF} {fv : Value} {w w' : World} (h : Puller n0 rb cb N cc l src G fv w) (hf : Fr n0 rb cb w w') : Puller n0 rb cb N cc l src G fv w' := by
  obtain ⟨k, lb, e, hg, hp⟩ := h
  exact ⟨k, lb, e, hg, fun fe s W h1 => hp fe s W (hf.tfi h1)⟩
theorem IW.next {n0 rb cb N cc : Nat} {fe : Value} {s : PS} {w w' : World} (h : IW n0 rb cb N cc fe s w) (hb : Below w.heap.size w w') : IW n0 rb cb N cc fe s w' := RS.below h hb
theorem IW.b0 {n0 rb cb N cc : Nat} {fe : Value} {s : PS} {w : World} (h : IW n0 rb cb N cc fe s w) : w.cell? ⟨rb, 0, none⟩ = some (.slice (some ⟨cb, 0, none⟩) N cc) := by
  obtain ⟨R, cR, hb, _⟩ := RS.box h
  exact hb.cell 0

set_option maxRecDepth 100000 in
set_option maxHeartbeats 6400000 in
theorem i_chain {n0 rb cb N cc : Nat} {l : List Nd} {src : List (List Int)} {i : Nat} {w1 : World} {ba : Nat} {bb : Nat} {va : Value} {fa : PF} {ja : Nat} (hja : ja < i) (hFa : Fine l src ja fa) (hPa : Puller n0 rb cb N cc l src fa va w1) {vb : Value} {fb : PF} {jb : Nat} (hjb : jb < i) (hFb : Fine l src jb fb) (hPb : Puller n0 rb cb N cc l src fb vb w1) (kxa : Bx rb cb w1 ba 114 (va)) (kxb : Bx rb cb w1 bb 114 (vb)) :
    Pulls n0 rb cb N cc l src (chainP fa fb) 124 #[.pointer (some ⟨ba, 0, none⟩), .pointer (some ⟨bb, 0, none⟩)] w1 := by
  intro fe s W hfr hiw ok hlg
  have _ua := hja
  clear _ua
  have _ub := hjb
  clear _ub
  obtain ⟨ka, lba, rfl, ega, hpa⟩ := hPa
  obtain ⟨kb, lbb, rfl, egb, hpb⟩ := hPb
  have cea := (kxa.fr hfr (by decide)).cell
  have ceb := (kxb.fr hfr (by decide)).cell
  have Hfr := Lib.hid hfr
  have Hiw := Lib.hid hiw
  have Hok := Lib.hid ok
  have HPa := Lib.hid hpa
  have HFa := Lib.hid hFa
  have HPb := Lib.hid hpb
  have HFb := Lib.hid hFb
  have Kxa := Lib.hid kxa
  have Kxb := Lib.hid kxb
  clear hfr hiw ok hpa hpb hFa hFb kxa kxb
  rcases hfsa : fa s with ⟨sa, oa⟩
  have hfinea := HFa.out s Hok.out
  rw [hfsa] at hfinea
  have Hfinea := Lib.hid hfinea
  have hcalla := HPa.out fe s W Hfr.out Hiw.out Hok.out hlg
  rw [hfsa] at hcalla
  have Hcalla := Lib.hid hcalla
  have Hfsa := Lib.hid hfsa
  clear hfinea hfsa hcalla
  go_enter Try.func124, Try.ntmps124
  go_wp2_with fail
  refine Hcalla.out.mono ?_
  rintro e wa ⟨rfl, iwa, fra⟩
  have Hf1a := Lib.hid ((Hfr.out).trans fra)
  have Hfs_a := Lib.hid ((Fr.refl _ _ _ _).trans fra)
  have ceaa := (Kxa.out.fr Hf1a.out (by decide)).cell
  have ceba := (Kxb.out.fr Hf1a.out (by decide)).cell
  have Hiwa := Lib.hid iwa
  clear iwa fra
  cases oa with
  | some v =>
    have ht : tup (some v) = .tuple #[.int .i64 v, .bool true] := rfl
    go_wp2_with fail
    refine bodyPost_ret (v := .tuple #[.int .i64 v, .bool true]) (by simp [results, Try.results124, go_sem]) rfl ?_
    have hm : chainP fa fb s = (sa, some v) := by simp [chainP, Hfsa.out]
    rw [hm]
    exact ⟨rfl, Hiwa.out, Hfs_a.out⟩
  | none =>
    have ht : tup none = .tuple #[.int .i64 0, .bool false] := rfl
    rcases hfsb : fb sa with ⟨sb, ob⟩
    have hfineb := HFb.out sa Hfinea.out.ok
    rw [hfsb] at hfineb
    have Hfineb := Lib.hid hfineb
    have hcallb := HPb.out fe sa wa Hf1a.out Hiwa.out Hfinea.out.ok (Nat.le_trans Hfinea.out.wle hlg)
    rw [hfsb] at hcallb
    have Hcallb := Lib.hid hcallb
    have Hfsb := Lib.hid hfsb
    clear hfineb hfsb hcallb
    go_wp2_with fail
    refine Hcallb.out.mono ?_
    rintro e wb ⟨rfl, iwb, frb⟩
    have Hf1b := Lib.hid ((Hf1a.out).trans frb)
    have Hfs_b := Lib.hid ((Hfs_a.out).trans frb)
    have ceab := (Kxa.out.fr Hf1b.out (by decide)).cell
    have cebb := (Kxb.out.fr Hf1b.out (by decide)).cell
    have Hiwb := Lib.hid iwb
    clear iwb frb
    have hto : tup ob = .tuple #[.int .i64 (ob.getD 0), .bool ob.isSome] := rfl
    go_wp2_with fail
    refine bodyPost_ret (v := .tuple #[.int .i64 (ob.getD 0), .bool ob.isSome]) (by simp [results, Try.results124, go_sem]) rfl ?_
    have hm : chainP fa fb s = (sb, ob) := by simp [chainP, Hfsa.out, Hfsb.out]
    rw [hm]
    exact ⟨rfl, Hiwb.out, Hfs_b.out⟩

set_option maxRecDepth 100000 in
set_option maxHeartbeats 6400000 in
theorem i_zip {n0 rb cb N cc : Nat} {l : List Nd} {src : List (List Int)} {i : Nat} {w1 : World} {ba : Nat} {bb : Nat} {va : Value} {fa : PF} {ja : Nat} (hja : ja < i) (hFa : Fine l src ja fa) (hPa : Puller n0 rb cb N cc l src fa va w1) {vb : Value} {fb : PF} {jb : Nat} (hjb : jb < i) (hFb : Fine l src jb fb) (hPb : Puller n0 rb cb N cc l src fb vb w1) (kxa : Bx rb cb w1 ba 114 (va)) (kxb : Bx rb cb w1 bb 114 (vb)) :
    Pulls n0 rb cb N cc l src (zipP fa fb) 125 #[.pointer (some ⟨ba, 0, none⟩), .pointer (some ⟨bb, 0, none⟩)] w1 := by
  intro fe s W hfr hiw ok hlg
  have _ua := hja
  clear _ua
  have _ub := hjb
  clear _ub
  obtain ⟨ka, lba, rfl, ega, hpa⟩ := hPa
  obtain ⟨kb, lbb, rfl, egb, hpb⟩ := hPb
  have cea := (kxa.fr hfr (by decide)).cell
  have ceb := (kxb.fr hfr (by decide)).cell
  have Hfr := Lib.hid hfr
  have Hiw := Lib.hid hiw
  have Hok := Lib.hid ok
  have HPa := Lib.hid hpa
  have HFa := Lib.hid hFa
  have HPb := Lib.hid hpb
  have HFb := Lib.hid hFb
  have Kxa := Lib.hid kxa
  have Kxb := Lib.hid kxb
  clear hfr hiw ok hpa hpb hFa hFb kxa kxb
  rcases hfsa : fa s with ⟨sa, oa⟩
  have hfinea := HFa.out s Hok.out
  rw [hfsa] at hfinea
  have Hfinea := Lib.hid hfinea
  have hcalla := HPa.out fe s W Hfr.out Hiw.out Hok.out hlg
  rw [hfsa] at hcalla
  have Hcalla := Lib.hid hcalla
  have Hfsa := Lib.hid hfsa
  clear hfinea hfsa hcalla
  go_enter Try.func125, Try.ntmps125
  go_wp2_with fail
  refine Hcalla.out.mono ?_
  rintro e wa ⟨rfl, iwa, fra⟩
  have Hf1a := Lib.hid ((Hfr.out).trans fra)
  have Hfs_a := Lib.hid ((Fr.refl _ _ _ _).trans fra)
  have ceaa := (Kxa.out.fr Hf1a.out (by decide)).cell
  have ceba := (Kxb.out.fr Hf1a.out (by decide)).cell
  have Hiwa := Lib.hid iwa
  clear iwa fra
  cases oa with
  | none =>
    have ht : tup none = .tuple #[.int .i64 0, .bool false] := rfl
    go_wp2_with fail
    refine bodyPost_ret (v := .tuple #[.int .i64 0, .bool false]) (by simp [results, Try.results125, go_sem]) rfl ?_
    have hm : zipP fa fb s = (sa, none) := by simp [zipP, Hfsa.out]
    rw [hm]
    exact ⟨rfl, Hiwa.out, Hfs_a.out⟩
  | some v =>
    have hv := Hfinea.out.item v rfl
    have ht : tup (some v) = .tuple #[.int .i64 v, .bool true] := rfl
    rcases hfsb : fb sa with ⟨sb, ob⟩
    have hfineb := HFb.out sa Hfinea.out.ok
    rw [hfsb] at hfineb
    have Hfineb := Lib.hid hfineb
    have hcallb := HPb.out fe sa wa Hf1a.out Hiwa.out Hfinea.out.ok (Nat.le_trans Hfinea.out.wle hlg)
    rw [hfsb] at hcallb
    have Hcallb := Lib.hid hcallb
    have Hfsb := Lib.hid hfsb
    clear hfineb hfsb hcallb
    go_wp2_with fail
    refine Hcallb.out.mono ?_
    rintro e wb ⟨rfl, iwb, frb⟩
    have Hf1b := Lib.hid ((Hf1a.out).trans frb)
    have Hfs_b := Lib.hid ((Hfs_a.out).trans frb)
    have ceab := (Kxa.out.fr Hf1b.out (by decide)).cell
    have cebb := (Kxb.out.fr Hf1b.out (by decide)).cell
    have Hiwb := Lib.hid iwb
    clear iwb frb
    cases ob with
    | none =>
      have ht2 : tup none = .tuple #[.int .i64 0, .bool false] := rfl
      go_wp2_with fail
      refine bodyPost_ret (v := .tuple #[.int .i64 0, .bool false]) (by simp [results, Try.results125, go_sem]) rfl ?_
      have hm : zipP fa fb s = (sb, none) := by simp [zipP, Hfsa.out, Hfsb.out]
      rw [hm]
      exact ⟨rfl, Hiwb.out, Hfs_b.out⟩
    | some y =>
      have hy := Hfineb.out.item y rfl
      have hw1 : IntKind.i64.wrap (v + y) = v + y := IntWalk.i64_in _ (by omega)
      have ht2 : tup (some y) = .tuple #[.int .i64 y, .bool true] := rfl
      go_wp2_with fail
      refine (implRest_any (v + y) wb (by omega)).mono ?_
      rintro e wc ⟨rfl, rfl⟩
      go_wp2_with fail
      refine bodyPost_ret (v := .tuple #[.int .i64 (rst (v + y)), .bool true]) (by simp [results, Try.results125, go_sem]) rfl ?_
      have hm : zipP fa fb s = (sb, some (rst (v + y))) := by simp [zipP, Hfsa.out, Hfsb.out]
      rw [hm]
      exact ⟨rfl, Hiwb.out, Hfs_b.out⟩

end Go.Proofs.Ythfniffecceldaa

/- Plain mathematics: a pull at a node leaves alone whether the node is done, until its answer is known. -/
namespace Go.Proofs.Ythfniffecceldaa

/-- What the body of a node keeps. -/
def KeepB (l : List Nd) (src : List (List Int)) (i : Nat) (f : PF) : Prop := ∀ s, StOk l src s.cs → (f s).1.cs.length = l.length ∧ ((f s).1.at_ i).d = (s.at_ i).d

section
variable {l : List Nd} {src : List (List Int)} {i j : Nat} {x : Nd} {f fa fb : PF} {s : PS}
theorem keep_f (hj : j < i) (hf : Fine l src j f) : KeepB l src i f := fun s hs => by
  have h := hf s hs
  exact ⟨h.ok.len, by rw [h.at_ hj]⟩
theorem put_d {c : Cl} (hi : i < s.cs.length) (hc : c.d = (s.at_ i).d) : ((s.put i c).at_ i).d = (s.at_ i).d := by rw [PS.at_put hi]; exact hc
theorem put_len {c : Cl} : (s.put i c).cs.length = s.cs.length := by simp [PS.put]

theorem srcP_keep (hx : l[i]? = some x) : KeepB l src i (srcP src i x) := fun s hs => by
  unfold srcP
  split
  · exact ⟨hs.len, rfl⟩
  · exact ⟨by rw [put_len]; exact hs.len, put_d (s := s.say ⟨x.n, (s.at_ i).n⟩) (hs.lt hx) rfl⟩
theorem chgP_keep {g : Int → Cl → Cl × Int} (hx : l[i]? = some x) (hj : j < i) (hf : Fine l src j f) (hg : ∀ v c, (g v c).1.d = c.d) : KeepB l src i (chgP i g f) := fun s hs => by
  have h := hf s hs
  have ha := h.at_ hj
  unfold chgP
  rcases hfs : f s with ⟨s2, o⟩
  rw [hfs] at h ha
  cases o with
  | none => exact ⟨h.ok.len, by rw [ha]⟩
  | some v => exact ⟨by rw [put_len]; exact h.ok.len, by rw [put_d (h.ok.lt hx) (hg v _), ha]⟩
theorem someL_keep {may : Int → Cl → Cl × Bool} (hx : l[i]? = some x) (hk : x.k ≠ 0 ∧ x.k ≠ 9) (hj : j < i) (hf : Fine l src j f) (hg : ∀ v c, (0 ≤ v ∧ v ≤ 99) → CellIn src x c → CellIn src x (may v c).1) (hd : ∀ v c, (may v c).1.d = c.d) : ∀ n, KeepB l src i (someL i may f n)
  | 0 => fun s hs => ⟨hs.len, rfl⟩
  | n + 1 => fun s hs => by
    have h := hf s hs
    have ha := h.at_ hj
    have h2 := h.wide (Nat.le_of_lt hj)
    unfold someL
    rcases hfs : f s with ⟨s2, o⟩
    rw [hfs] at h ha h2
    cases o with
    | none => exact ⟨h.ok.len, by rw [ha]⟩
    | some v =>
      have hv := h.item v rfl
      have hp := h2.put_ hx hk (hg v (s2.at_ i) hv (StOk.at_ h.ok hx))
      have e : ((s2.put i (may v (s2.at_ i)).1).at_ i).d = (s.at_ i).d := by rw [put_d (h.ok.lt hx) (hd v _), ha]
      dsimp only
      split
      · exact ⟨hp.ok.len, e⟩
      · obtain ⟨q1, q2⟩ := someL_keep hx hk hj hf hg hd n _ hp.ok
        exact ⟨q1, q2.trans e⟩
theorem takeP_keep {n : Int} (hx : l[i]? = some x) (hk : x.k = 3) (hn : n = x.n) (hj : j < i) (hf : Fine l src j f) : KeepB l src i (takeP i n f) := fun s hs => by
  have hat := StOk.at_ hs hx
  have hm : mostOf x src = x.n := by simp [mostOf, hk]
  subst hn
  unfold takeP
  split
  · exact ⟨hs.len, rfl⟩
  · rename_i hn
    have hp := FineAt.start (c := { s.at_ i with n := (s.at_ i).n + 1 }) hs hx ⟨by omega, by omega⟩ ⟨⟨by simp; omega, by simp only [hm]; have := hat.1.2; omega⟩, hat.2⟩
    have h := hf _ hp.ok
    exact ⟨h.ok.len, by rw [h.at_ hj]; exact put_d (hs.lt hx) rfl⟩
theorem dropL_keep {n : Int} (hx : l[i]? = some x) (hk : x.k = 4) (hn : n = x.n) (hj : j < i) (hf : Fine l src j f) : ∀ k, KeepB l src i (dropL i n f k)
  | 0 => keep_f hj hf
  | k + 1 => fun s hs => by
    have hat := StOk.at_ hs hx
    have hm : mostOf x src = x.n := by simp [mostOf, hk]
    subst hn
    unfold dropL
    split
    · rename_i hn
      have hp := FineAt.start (c := { s.at_ i with n := (s.at_ i).n + 1 }) hs hx ⟨by omega, by omega⟩ ⟨⟨by simp; omega, by simp only [hm]; omega⟩, hat.2⟩
      have h := hf _ hp.ok
      have ha := h.at_ hj
      rcases hfs : f (s.put i { s.at_ i with n := (s.at_ i).n + 1 }) with ⟨s2, o⟩
      rw [hfs] at h ha
      have e : (s2.at_ i).d = (s.at_ i).d := by
        have : s2.at_ i = (s.put i { s.at_ i with n := (s.at_ i).n + 1 }).at_ i := ha
        rw [this]
        exact put_d (hs.lt hx) rfl
      cases o with
      | none => exact ⟨h.ok.len, e⟩
      | some v =>
        obtain ⟨q1, q2⟩ := dropL_keep hx hk rfl hj hf k _ h.ok
        exact ⟨q1, q2.trans e⟩
    · exact keep_f hj hf s hs
theorem whileP_keep {n : Int} (hj : j < i) (hf : Fine l src j f) : KeepB l src i (whileP n f) := fun s hs => by
  have h := keep_f hj hf s hs
  unfold whileP
  rcases hfs : f s with ⟨s2, o⟩
  rw [hfs] at h
  cases o with
  | none => exact h
  | some v =>
    dsimp only
    split
    · exact h
    · exact h
theorem batchL_keep (hj : j < i) (hf : Fine l src j f) : ∀ (k : Nat) (sum : Int) (b : Bool), KeepB l src i (batchL f k sum b)
  | 0, _, _ => fun s hs => ⟨hs.len, rfl⟩
  | k + 1, sum, b => fun s hs => by
    have h := keep_f hj hf s hs
    have hok := (hf s hs).ok
    unfold batchL
    rcases hfs : f s with ⟨s2, o⟩
    rw [hfs] at h hok
    cases o with
    | none => exact h
    | some v =>
      obtain ⟨q1, q2⟩ := batchL_keep hj hf k (rst (sum + v)) true s2 hok
      exact ⟨q1, q2.trans h.2⟩
theorem chainP_keep {j2 : Nat} (hj : j < i) (hj2 : j2 < i) (ha : Fine l src j fa) (hb : Fine l src j2 fb) : KeepB l src i (chainP fa fb) := fun s hs => by
  have h := keep_f hj ha s hs
  have hok := (ha s hs).ok
  unfold chainP
  rcases hfs : fa s with ⟨s2, o⟩
  rw [hfs] at h hok
  cases o with
  | some v => exact h
  | none =>
    obtain ⟨q1, q2⟩ := keep_f hj2 hb s2 hok
    exact ⟨q1, q2.trans h.2⟩
theorem zipP_keep {j2 : Nat} (hj : j < i) (hj2 : j2 < i) (ha : Fine l src j fa) (hb : Fine l src j2 fb) : KeepB l src i (zipP fa fb) := fun s hs => by
  have h := keep_f hj ha s hs
  have hok := (ha s hs).ok
  unfold zipP
  rcases hfs : fa s with ⟨s2, o⟩
  rw [hfs] at h hok
  cases o with
  | none => exact h
  | some v =>
    obtain ⟨q1, q2⟩ := keep_f hj2 hb s2 hok
    dsimp only
    rcases hfs2 : fb s2 with ⟨s3, o3⟩
    rw [hfs2] at q1 q2
    cases o3 with
    | none => exact ⟨q1, q2.trans h.2⟩
    | some y => exact ⟨q1, q2.trans h.2⟩
theorem turnP_keep {j2 : Nat} (hx : l[i]? = some x) (hk : x.k = 10) (hj : j < i) (hj2 : j2 < i) (ha : Fine l src j fa) (hb : Fine l src j2 fb) : KeepB l src i (turnP i fa fb) := fun s hs => by
  have hat := StOk.at_ hs hx
  have hm : mostOf x src = 1 := by simp [mostOf, hk]
  have hp := FineAt.start (c := { s.at_ i with n := 1 - (s.at_ i).n }) hs hx ⟨by omega, by omega⟩ ⟨⟨by simp only; have := hat.1.2; omega, by simp only [hm]; omega⟩, hat.2⟩
  have e : ((s.put i { s.at_ i with n := 1 - (s.at_ i).n }).at_ i).d = (s.at_ i).d := put_d (hs.lt hx) rfl
  unfold turnP
  split
  · obtain ⟨q1, q2⟩ := chainP_keep hj2 hj hb ha _ hp.ok
    exact ⟨q1, q2.trans e⟩
  · obtain ⟨q1, q2⟩ := chainP_keep hj hj2 ha hb _ hp.ok
    exact ⟨q1, q2.trans e⟩
theorem mergeP_keep {j2 : Nat} (hx : l[i]? = some x) (hk : x.k = 9) (hj : j < i) (hj2 : j2 < i) (ha : Fine l src j fa) (hb : Fine l src j2 fb) : KeepB l src i (mergeP i fa fb) := fun s hs => by
  have f1 := fetchL_fine hx hk hj ha s hs
  have f2 := fetchR_fine hx hk hj2 hb _ f1.ok
  have e1 : ((fetchL i fa s).at_ i).d = (s.at_ i).d := by
    unfold fetchL
    split
    · rfl
    · have h := ha s hs
      refine Eq.trans (put_d (h.ok.lt hx) rfl) ?_
      rw [h.at_ hj]
  have e2 : ((fetchR i fb (fetchL i fa s)).at_ i).d = ((fetchL i fa s).at_ i).d := by
    unfold fetchR
    split
    · rfl
    · have h := hb _ f1.ok
      refine Eq.trans (put_d (h.ok.lt hx) rfl) ?_
      rw [h.at_ hj2]
  have e3 : ((pickP i (fetchR i fb (fetchL i fa s))).1.at_ i).d = ((fetchR i fb (fetchL i fa s)).at_ i).d := by
    unfold pickP
    split
    · exact put_d (f2.ok.lt hx) rfl
    · exact put_d (f2.ok.lt hx) rfl
  exact ⟨(pickP_fine hx hk _ f2.ok).ok.len, e3.trans (e2.trans e1)⟩

theorem stemP_keep {fu : PS → Nat} (hx : l[i]? = some x) (ha : arity x.k = 1) (hn : numsOk x = true) (hj : j < i) (hf : Fine l src j f) : KeepB l src i (stemP fu i x f) := by
  have hk := arity_one ha
  have _u := hn
  unfold stemP
  split
  · exact chgP_keep hx hj hf fun v c => rfl
  split
  · exact fun s hs => someL_keep hx ⟨by omega, by omega⟩ hj hf (fun v c _ hc => hc) (fun v c => rfl) _ s hs
  split
  · rename_i e; exact takeP_keep hx e rfl hj hf
  split
  · rename_i e; exact fun s hs => dropL_keep hx e rfl hj hf _ s hs
  split
  · exact whileP_keep hj hf
  split
  · rename_i e
    refine fun s hs => someL_keep hx ⟨by omega, by omega⟩ hj hf (fun v c _ hc => ?_) (fun v c => ?_) _ s hs
    · unfold mayS
      split
      · exact ⟨⟨by simp, by simp [mostOf, e]⟩, hc.2⟩
      · exact hc
    · unfold mayS
      split <;> rfl
  split
  · exact chgP_keep hx hj hf fun v c => rfl
  split
  · exact batchL_keep hj hf _ _ _
  · exact fun s hs => someL_keep hx ⟨by omega, by omega⟩ hj hf (fun v c hv hc => ⟨hc.1, hv, hc.2.2⟩) (fun v c => rfl) _ s hs
theorem forkP_keep (hx : l[i]? = some x) (ha : arity x.k = 2) {j2 : Nat} (hj : j < i) (hj2 : j2 < i) (hfa : Fine l src j fa) (hfb : Fine l src j2 fb) : KeepB l src i (forkP i x fa fb) := by
  have hk := arity_two ha
  unfold forkP
  split
  · exact chainP_keep hj hj2 hfa hfb
  split
  · exact zipP_keep hj hj2 hfa hfb
  split
  · rename_i e; exact mergeP_keep hx e hj hj2 hfa hfb
  · exact turnP_keep hx (by omega) hj hj2 hfa hfb
end

end Go.Proofs.Ythfniffecceldaa
