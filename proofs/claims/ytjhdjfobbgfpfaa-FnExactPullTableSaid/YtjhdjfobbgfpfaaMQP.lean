/- Texts on the program and its reference, put together (PsG, LiA). -/
import Derived.Test.YtjhdjfobbgfpfaaMQN
import Derived.Test.YtjhdjfobbgfpfaaMQO
import Derived.Test.YtjhdjfobbgfpfaaMQI
/- Contracts: pulls by the reference: a node of a tree is pulled. -/
namespace Go.Proofs.Ytjhdjfobbgfpfaa
open Go.RowKit

theorem doneP_done {i : Nat} {f : PF} {s : PS} (hd : (s.at_ i).d = true) : doneP i f s = (s, none) := by
  unfold doneP
  rw [if_pos hd]

set_option maxRecDepth 100000 in
set_option maxHeartbeats 3200000 in
theorem next_k0 {n0 pb cb : Nat} {A : Option Addr} {c : Nat} {l : List Nd} {As : Option Addr} {ca : Nat} {src : List (List Int)} {cc : Nat} {i : Nat} {xa xb n m : Int} (hx : l[i]? = some ⟨0, xa, xb, n, m⟩) (G : PF)
    (hB : ∀ (s : PS) (w : World), SW n0 pb cb A c l As ca src cc s w → StOk l src s.cs → s.lg.length + s.W l src ≤ 65536 → (s.at_ i).d = false →
      Calls Try.prog 95 #[.pointer (some ⟨pb, 0, none⟩), .int .i64 i] w fun e w' => NPost n0 pb cb A c l As ca src cc w (doneP i G s) e w') : NextOk n0 pb cb A c l As ca src cc (doneP i G) i := by
  intro s w h ok hlg
  have hi : i < l.length := (List.getElem?_eq_some_iff.1 hx).1
  have hil : i < s.cs.length := by rw [ok.len]; exact hi
  obtain ⟨b0, b1, b2⟩ := h.bx
  obtain ⟨nb, no, rfl, hnb, y0, y1, y2, y3, y4⟩ := h.nodes.at2 hx
  simp only at y0 y1 y2 y3 y4
  obtain ⟨W1, hW1⟩ : ∃ W1 : World, W1 = w.alloc (.cells #[.int .i64 0, .int .i64 xa, .int .i64 xb, .int .i64 n, .int .i64 m] 104) := ⟨_, rfl⟩
  have hb1 : Below w.heap.size w W1 := by rw [hW1]; exact (Below.refl _ _).alloc (Nat.le_refl _) _
  have hpw := h.rs.ltp
  have hcw := h.rs.ltc
  have cw := (h.rs.cl (i := i) hil).c5
  have H := Lib.hid h
  have H1 := Lib.hid (h.below hb1)
  have Hb1 := Lib.hid hb1
  have HW1 := Lib.hid hW1
  have Hok := Lib.hid ok
  have HB := Lib.hid hB
  clear h hb1 hW1 ok hx hB
  cases hd : (s.at_ i).d with
  | true =>
    rw [hd] at cw
    have Hd := Lib.hid hd
    clear hd
    go_enter Try.func80, Try.ntmps80
    go_wp2_with fail
    refine bodyPost_ret (v := .tuple #[.int .i64 0, .bool false]) (by simp [results, Try.results80, go_sem]) rfl ?_
    rw [doneP_done Hd.out]
    exact ⟨rfl, H.out.below ((Below.refl _ _).alloc (Nat.le_refl _) _), (Fr.refl _ _ _ _).alloc _⟩
  | false =>
    rw [hd] at cw
    have Hd := Lib.hid hd
    clear hd
    go_enter Try.func80, Try.ntmps80
    go_wp2_with fail
    rw [← HW1.out]
    refine (HB.out s W1 H1.out Hok.out hlg Hd.out).mono ?_
    rintro e w2 ⟨rfl, sw2, fr2⟩
    have Hsw2 := Lib.hid sw2
    have Hfr2 := Lib.hid ((Fr.of_below Hb1.out).trans fr2)
    obtain ⟨o, ho⟩ : ∃ o, (doneP i G s).2 = o := ⟨_, rfl⟩
    have Ho := Lib.hid ho
    rw [ho]
    have ht : tup o = .tuple #[.int .i64 (o.getD 0), .bool o.isSome] := rfl
    clear sw2 fr2 ho
    go_wp2_with fail
    refine bodyPost_ret (v := .tuple #[.int .i64 (o.getD 0), .bool o.isSome]) (by simp [results, Try.results80, go_sem]) rfl ?_
    exact ⟨by rw [Ho.out]; rfl, Hsw2.out, Hfr2.out⟩

set_option maxRecDepth 100000 in
set_option maxHeartbeats 3200000 in
theorem next_k1 {n0 pb cb : Nat} {A : Option Addr} {c : Nat} {l : List Nd} {As : Option Addr} {ca : Nat} {src : List (List Int)} {cc : Nat} {i : Nat} {xa xb n m : Int} (hx : l[i]? = some ⟨1, xa, xb, n, m⟩) (G : PF)
    (hB : ∀ (s : PS) (w : World), SW n0 pb cb A c l As ca src cc s w → StOk l src s.cs → s.lg.length + s.W l src ≤ 65536 → (s.at_ i).d = false →
      Calls Try.prog 99 #[.pointer (some ⟨pb, 0, none⟩), .int .i64 i] w fun e w' => NPost n0 pb cb A c l As ca src cc w (doneP i G s) e w') : NextOk n0 pb cb A c l As ca src cc (doneP i G) i := by
  intro s w h ok hlg
  have hi : i < l.length := (List.getElem?_eq_some_iff.1 hx).1
  have hil : i < s.cs.length := by rw [ok.len]; exact hi
  obtain ⟨b0, b1, b2⟩ := h.bx
  obtain ⟨nb, no, rfl, hnb, y0, y1, y2, y3, y4⟩ := h.nodes.at2 hx
  simp only at y0 y1 y2 y3 y4
  obtain ⟨W1, hW1⟩ : ∃ W1 : World, W1 = w.alloc (.cells #[.int .i64 1, .int .i64 xa, .int .i64 xb, .int .i64 n, .int .i64 m] 104) := ⟨_, rfl⟩
  have hb1 : Below w.heap.size w W1 := by rw [hW1]; exact (Below.refl _ _).alloc (Nat.le_refl _) _
  have hpw := h.rs.ltp
  have hcw := h.rs.ltc
  have cw := (h.rs.cl (i := i) hil).c5
  have H := Lib.hid h
  have H1 := Lib.hid (h.below hb1)
  have Hb1 := Lib.hid hb1
  have HW1 := Lib.hid hW1
  have Hok := Lib.hid ok
  have HB := Lib.hid hB
  clear h hb1 hW1 ok hx hB
  cases hd : (s.at_ i).d with
  | true =>
    rw [hd] at cw
    have Hd := Lib.hid hd
    clear hd
    go_enter Try.func80, Try.ntmps80
    go_wp2_with fail
    refine bodyPost_ret (v := .tuple #[.int .i64 0, .bool false]) (by simp [results, Try.results80, go_sem]) rfl ?_
    rw [doneP_done Hd.out]
    exact ⟨rfl, H.out.below ((Below.refl _ _).alloc (Nat.le_refl _) _), (Fr.refl _ _ _ _).alloc _⟩
  | false =>
    rw [hd] at cw
    have Hd := Lib.hid hd
    clear hd
    go_enter Try.func80, Try.ntmps80
    go_wp2_with fail
    rw [← HW1.out]
    refine (HB.out s W1 H1.out Hok.out hlg Hd.out).mono ?_
    rintro e w2 ⟨rfl, sw2, fr2⟩
    have Hsw2 := Lib.hid sw2
    have Hfr2 := Lib.hid ((Fr.of_below Hb1.out).trans fr2)
    obtain ⟨o, ho⟩ : ∃ o, (doneP i G s).2 = o := ⟨_, rfl⟩
    have Ho := Lib.hid ho
    rw [ho]
    have ht : tup o = .tuple #[.int .i64 (o.getD 0), .bool o.isSome] := rfl
    clear sw2 fr2 ho
    go_wp2_with fail
    refine bodyPost_ret (v := .tuple #[.int .i64 (o.getD 0), .bool o.isSome]) (by simp [results, Try.results80, go_sem]) rfl ?_
    exact ⟨by rw [Ho.out]; rfl, Hsw2.out, Hfr2.out⟩

set_option maxRecDepth 100000 in
set_option maxHeartbeats 3200000 in
theorem next_k2 {n0 pb cb : Nat} {A : Option Addr} {c : Nat} {l : List Nd} {As : Option Addr} {ca : Nat} {src : List (List Int)} {cc : Nat} {i : Nat} {xa xb n m : Int} (hx : l[i]? = some ⟨2, xa, xb, n, m⟩) (G : PF)
    (hB : ∀ (s : PS) (w : World), SW n0 pb cb A c l As ca src cc s w → StOk l src s.cs → s.lg.length + s.W l src ≤ 65536 → (s.at_ i).d = false →
      Calls Try.prog 99 #[.pointer (some ⟨pb, 0, none⟩), .int .i64 i] w fun e w' => NPost n0 pb cb A c l As ca src cc w (doneP i G s) e w') : NextOk n0 pb cb A c l As ca src cc (doneP i G) i := by
  intro s w h ok hlg
  have hi : i < l.length := (List.getElem?_eq_some_iff.1 hx).1
  have hil : i < s.cs.length := by rw [ok.len]; exact hi
  obtain ⟨b0, b1, b2⟩ := h.bx
  obtain ⟨nb, no, rfl, hnb, y0, y1, y2, y3, y4⟩ := h.nodes.at2 hx
  simp only at y0 y1 y2 y3 y4
  obtain ⟨W1, hW1⟩ : ∃ W1 : World, W1 = w.alloc (.cells #[.int .i64 2, .int .i64 xa, .int .i64 xb, .int .i64 n, .int .i64 m] 104) := ⟨_, rfl⟩
  have hb1 : Below w.heap.size w W1 := by rw [hW1]; exact (Below.refl _ _).alloc (Nat.le_refl _) _
  have hpw := h.rs.ltp
  have hcw := h.rs.ltc
  have cw := (h.rs.cl (i := i) hil).c5
  have H := Lib.hid h
  have H1 := Lib.hid (h.below hb1)
  have Hb1 := Lib.hid hb1
  have HW1 := Lib.hid hW1
  have Hok := Lib.hid ok
  have HB := Lib.hid hB
  clear h hb1 hW1 ok hx hB
  cases hd : (s.at_ i).d with
  | true =>
    rw [hd] at cw
    have Hd := Lib.hid hd
    clear hd
    go_enter Try.func80, Try.ntmps80
    go_wp2_with fail
    refine bodyPost_ret (v := .tuple #[.int .i64 0, .bool false]) (by simp [results, Try.results80, go_sem]) rfl ?_
    rw [doneP_done Hd.out]
    exact ⟨rfl, H.out.below ((Below.refl _ _).alloc (Nat.le_refl _) _), (Fr.refl _ _ _ _).alloc _⟩
  | false =>
    rw [hd] at cw
    have Hd := Lib.hid hd
    clear hd
    go_enter Try.func80, Try.ntmps80
    go_wp2_with fail
    rw [← HW1.out]
    refine (HB.out s W1 H1.out Hok.out hlg Hd.out).mono ?_
    rintro e w2 ⟨rfl, sw2, fr2⟩
    have Hsw2 := Lib.hid sw2
    have Hfr2 := Lib.hid ((Fr.of_below Hb1.out).trans fr2)
    obtain ⟨o, ho⟩ : ∃ o, (doneP i G s).2 = o := ⟨_, rfl⟩
    have Ho := Lib.hid ho
    rw [ho]
    have ht : tup o = .tuple #[.int .i64 (o.getD 0), .bool o.isSome] := rfl
    clear sw2 fr2 ho
    go_wp2_with fail
    refine bodyPost_ret (v := .tuple #[.int .i64 (o.getD 0), .bool o.isSome]) (by simp [results, Try.results80, go_sem]) rfl ?_
    exact ⟨by rw [Ho.out]; rfl, Hsw2.out, Hfr2.out⟩

set_option maxRecDepth 100000 in
set_option maxHeartbeats 3200000 in
theorem next_k3 {n0 pb cb : Nat} {A : Option Addr} {c : Nat} {l : List Nd} {As : Option Addr} {ca : Nat} {src : List (List Int)} {cc : Nat} {i : Nat} {xa xb n m : Int} (hx : l[i]? = some ⟨3, xa, xb, n, m⟩) (G : PF)
    (hB : ∀ (s : PS) (w : World), SW n0 pb cb A c l As ca src cc s w → StOk l src s.cs → s.lg.length + s.W l src ≤ 65536 → (s.at_ i).d = false →
      Calls Try.prog 96 #[.pointer (some ⟨pb, 0, none⟩), .int .i64 i] w fun e w' => NPost n0 pb cb A c l As ca src cc w (doneP i G s) e w') : NextOk n0 pb cb A c l As ca src cc (doneP i G) i := by
  intro s w h ok hlg
  have hi : i < l.length := (List.getElem?_eq_some_iff.1 hx).1
  have hil : i < s.cs.length := by rw [ok.len]; exact hi
  obtain ⟨b0, b1, b2⟩ := h.bx
  obtain ⟨nb, no, rfl, hnb, y0, y1, y2, y3, y4⟩ := h.nodes.at2 hx
  simp only at y0 y1 y2 y3 y4
  obtain ⟨W1, hW1⟩ : ∃ W1 : World, W1 = w.alloc (.cells #[.int .i64 3, .int .i64 xa, .int .i64 xb, .int .i64 n, .int .i64 m] 104) := ⟨_, rfl⟩
  have hb1 : Below w.heap.size w W1 := by rw [hW1]; exact (Below.refl _ _).alloc (Nat.le_refl _) _
  have hpw := h.rs.ltp
  have hcw := h.rs.ltc
  have cw := (h.rs.cl (i := i) hil).c5
  have H := Lib.hid h
  have H1 := Lib.hid (h.below hb1)
  have Hb1 := Lib.hid hb1
  have HW1 := Lib.hid hW1
  have Hok := Lib.hid ok
  have HB := Lib.hid hB
  clear h hb1 hW1 ok hx hB
  cases hd : (s.at_ i).d with
  | true =>
    rw [hd] at cw
    have Hd := Lib.hid hd
    clear hd
    go_enter Try.func80, Try.ntmps80
    go_wp2_with fail
    refine bodyPost_ret (v := .tuple #[.int .i64 0, .bool false]) (by simp [results, Try.results80, go_sem]) rfl ?_
    rw [doneP_done Hd.out]
    exact ⟨rfl, H.out.below ((Below.refl _ _).alloc (Nat.le_refl _) _), (Fr.refl _ _ _ _).alloc _⟩
  | false =>
    rw [hd] at cw
    have Hd := Lib.hid hd
    clear hd
    go_enter Try.func80, Try.ntmps80
    go_wp2_with fail
    rw [← HW1.out]
    refine (HB.out s W1 H1.out Hok.out hlg Hd.out).mono ?_
    rintro e w2 ⟨rfl, sw2, fr2⟩
    have Hsw2 := Lib.hid sw2
    have Hfr2 := Lib.hid ((Fr.of_below Hb1.out).trans fr2)
    obtain ⟨o, ho⟩ : ∃ o, (doneP i G s).2 = o := ⟨_, rfl⟩
    have Ho := Lib.hid ho
    rw [ho]
    have ht : tup o = .tuple #[.int .i64 (o.getD 0), .bool o.isSome] := rfl
    clear sw2 fr2 ho
    go_wp2_with fail
    refine bodyPost_ret (v := .tuple #[.int .i64 (o.getD 0), .bool o.isSome]) (by simp [results, Try.results80, go_sem]) rfl ?_
    exact ⟨by rw [Ho.out]; rfl, Hsw2.out, Hfr2.out⟩

set_option maxRecDepth 100000 in
set_option maxHeartbeats 3200000 in
theorem next_k4 {n0 pb cb : Nat} {A : Option Addr} {c : Nat} {l : List Nd} {As : Option Addr} {ca : Nat} {src : List (List Int)} {cc : Nat} {i : Nat} {xa xb n m : Int} (hx : l[i]? = some ⟨4, xa, xb, n, m⟩) (G : PF)
    (hB : ∀ (s : PS) (w : World), SW n0 pb cb A c l As ca src cc s w → StOk l src s.cs → s.lg.length + s.W l src ≤ 65536 → (s.at_ i).d = false →
      Calls Try.prog 96 #[.pointer (some ⟨pb, 0, none⟩), .int .i64 i] w fun e w' => NPost n0 pb cb A c l As ca src cc w (doneP i G s) e w') : NextOk n0 pb cb A c l As ca src cc (doneP i G) i := by
  intro s w h ok hlg
  have hi : i < l.length := (List.getElem?_eq_some_iff.1 hx).1
  have hil : i < s.cs.length := by rw [ok.len]; exact hi
  obtain ⟨b0, b1, b2⟩ := h.bx
  obtain ⟨nb, no, rfl, hnb, y0, y1, y2, y3, y4⟩ := h.nodes.at2 hx
  simp only at y0 y1 y2 y3 y4
  obtain ⟨W1, hW1⟩ : ∃ W1 : World, W1 = w.alloc (.cells #[.int .i64 4, .int .i64 xa, .int .i64 xb, .int .i64 n, .int .i64 m] 104) := ⟨_, rfl⟩
  have hb1 : Below w.heap.size w W1 := by rw [hW1]; exact (Below.refl _ _).alloc (Nat.le_refl _) _
  have hpw := h.rs.ltp
  have hcw := h.rs.ltc
  have cw := (h.rs.cl (i := i) hil).c5
  have H := Lib.hid h
  have H1 := Lib.hid (h.below hb1)
  have Hb1 := Lib.hid hb1
  have HW1 := Lib.hid hW1
  have Hok := Lib.hid ok
  have HB := Lib.hid hB
  clear h hb1 hW1 ok hx hB
  cases hd : (s.at_ i).d with
  | true =>
    rw [hd] at cw
    have Hd := Lib.hid hd
    clear hd
    go_enter Try.func80, Try.ntmps80
    go_wp2_with fail
    refine bodyPost_ret (v := .tuple #[.int .i64 0, .bool false]) (by simp [results, Try.results80, go_sem]) rfl ?_
    rw [doneP_done Hd.out]
    exact ⟨rfl, H.out.below ((Below.refl _ _).alloc (Nat.le_refl _) _), (Fr.refl _ _ _ _).alloc _⟩
  | false =>
    rw [hd] at cw
    have Hd := Lib.hid hd
    clear hd
    go_enter Try.func80, Try.ntmps80
    go_wp2_with fail
    rw [← HW1.out]
    refine (HB.out s W1 H1.out Hok.out hlg Hd.out).mono ?_
    rintro e w2 ⟨rfl, sw2, fr2⟩
    have Hsw2 := Lib.hid sw2
    have Hfr2 := Lib.hid ((Fr.of_below Hb1.out).trans fr2)
    obtain ⟨o, ho⟩ : ∃ o, (doneP i G s).2 = o := ⟨_, rfl⟩
    have Ho := Lib.hid ho
    rw [ho]
    have ht : tup o = .tuple #[.int .i64 (o.getD 0), .bool o.isSome] := rfl
    clear sw2 fr2 ho
    go_wp2_with fail
    refine bodyPost_ret (v := .tuple #[.int .i64 (o.getD 0), .bool o.isSome]) (by simp [results, Try.results80, go_sem]) rfl ?_
    exact ⟨by rw [Ho.out]; rfl, Hsw2.out, Hfr2.out⟩

set_option maxRecDepth 100000 in
set_option maxHeartbeats 3200000 in
theorem next_k5 {n0 pb cb : Nat} {A : Option Addr} {c : Nat} {l : List Nd} {As : Option Addr} {ca : Nat} {src : List (List Int)} {cc : Nat} {i : Nat} {xa xb n m : Int} (hx : l[i]? = some ⟨5, xa, xb, n, m⟩) (G : PF)
    (hB : ∀ (s : PS) (w : World), SW n0 pb cb A c l As ca src cc s w → StOk l src s.cs → s.lg.length + s.W l src ≤ 65536 → (s.at_ i).d = false →
      Calls Try.prog 99 #[.pointer (some ⟨pb, 0, none⟩), .int .i64 i] w fun e w' => NPost n0 pb cb A c l As ca src cc w (doneP i G s) e w') : NextOk n0 pb cb A c l As ca src cc (doneP i G) i := by
  intro s w h ok hlg
  have hi : i < l.length := (List.getElem?_eq_some_iff.1 hx).1
  have hil : i < s.cs.length := by rw [ok.len]; exact hi
  obtain ⟨b0, b1, b2⟩ := h.bx
  obtain ⟨nb, no, rfl, hnb, y0, y1, y2, y3, y4⟩ := h.nodes.at2 hx
  simp only at y0 y1 y2 y3 y4
  obtain ⟨W1, hW1⟩ : ∃ W1 : World, W1 = w.alloc (.cells #[.int .i64 5, .int .i64 xa, .int .i64 xb, .int .i64 n, .int .i64 m] 104) := ⟨_, rfl⟩
  have hb1 : Below w.heap.size w W1 := by rw [hW1]; exact (Below.refl _ _).alloc (Nat.le_refl _) _
  have hpw := h.rs.ltp
  have hcw := h.rs.ltc
  have cw := (h.rs.cl (i := i) hil).c5
  have H := Lib.hid h
  have H1 := Lib.hid (h.below hb1)
  have Hb1 := Lib.hid hb1
  have HW1 := Lib.hid hW1
  have Hok := Lib.hid ok
  have HB := Lib.hid hB
  clear h hb1 hW1 ok hx hB
  cases hd : (s.at_ i).d with
  | true =>
    rw [hd] at cw
    have Hd := Lib.hid hd
    clear hd
    go_enter Try.func80, Try.ntmps80
    go_wp2_with fail
    refine bodyPost_ret (v := .tuple #[.int .i64 0, .bool false]) (by simp [results, Try.results80, go_sem]) rfl ?_
    rw [doneP_done Hd.out]
    exact ⟨rfl, H.out.below ((Below.refl _ _).alloc (Nat.le_refl _) _), (Fr.refl _ _ _ _).alloc _⟩
  | false =>
    rw [hd] at cw
    have Hd := Lib.hid hd
    clear hd
    go_enter Try.func80, Try.ntmps80
    go_wp2_with fail
    rw [← HW1.out]
    refine (HB.out s W1 H1.out Hok.out hlg Hd.out).mono ?_
    rintro e w2 ⟨rfl, sw2, fr2⟩
    have Hsw2 := Lib.hid sw2
    have Hfr2 := Lib.hid ((Fr.of_below Hb1.out).trans fr2)
    obtain ⟨o, ho⟩ : ∃ o, (doneP i G s).2 = o := ⟨_, rfl⟩
    have Ho := Lib.hid ho
    rw [ho]
    have ht : tup o = .tuple #[.int .i64 (o.getD 0), .bool o.isSome] := rfl
    clear sw2 fr2 ho
    go_wp2_with fail
    refine bodyPost_ret (v := .tuple #[.int .i64 (o.getD 0), .bool o.isSome]) (by simp [results, Try.results80, go_sem]) rfl ?_
    exact ⟨by rw [Ho.out]; rfl, Hsw2.out, Hfr2.out⟩

set_option maxRecDepth 100000 in
set_option maxHeartbeats 3200000 in
theorem next_k6 {n0 pb cb : Nat} {A : Option Addr} {c : Nat} {l : List Nd} {As : Option Addr} {ca : Nat} {src : List (List Int)} {cc : Nat} {i : Nat} {xa xb n m : Int} (hx : l[i]? = some ⟨6, xa, xb, n, m⟩) (G : PF)
    (hB : ∀ (s : PS) (w : World), SW n0 pb cb A c l As ca src cc s w → StOk l src s.cs → s.lg.length + s.W l src ≤ 65536 → (s.at_ i).d = false →
      Calls Try.prog 99 #[.pointer (some ⟨pb, 0, none⟩), .int .i64 i] w fun e w' => NPost n0 pb cb A c l As ca src cc w (doneP i G s) e w') : NextOk n0 pb cb A c l As ca src cc (doneP i G) i := by
  intro s w h ok hlg
  have hi : i < l.length := (List.getElem?_eq_some_iff.1 hx).1
  have hil : i < s.cs.length := by rw [ok.len]; exact hi
  obtain ⟨b0, b1, b2⟩ := h.bx
  obtain ⟨nb, no, rfl, hnb, y0, y1, y2, y3, y4⟩ := h.nodes.at2 hx
  simp only at y0 y1 y2 y3 y4
  obtain ⟨W1, hW1⟩ : ∃ W1 : World, W1 = w.alloc (.cells #[.int .i64 6, .int .i64 xa, .int .i64 xb, .int .i64 n, .int .i64 m] 104) := ⟨_, rfl⟩
  have hb1 : Below w.heap.size w W1 := by rw [hW1]; exact (Below.refl _ _).alloc (Nat.le_refl _) _
  have hpw := h.rs.ltp
  have hcw := h.rs.ltc
  have cw := (h.rs.cl (i := i) hil).c5
  have H := Lib.hid h
  have H1 := Lib.hid (h.below hb1)
  have Hb1 := Lib.hid hb1
  have HW1 := Lib.hid hW1
  have Hok := Lib.hid ok
  have HB := Lib.hid hB
  clear h hb1 hW1 ok hx hB
  cases hd : (s.at_ i).d with
  | true =>
    rw [hd] at cw
    have Hd := Lib.hid hd
    clear hd
    go_enter Try.func80, Try.ntmps80
    go_wp2_with fail
    refine bodyPost_ret (v := .tuple #[.int .i64 0, .bool false]) (by simp [results, Try.results80, go_sem]) rfl ?_
    rw [doneP_done Hd.out]
    exact ⟨rfl, H.out.below ((Below.refl _ _).alloc (Nat.le_refl _) _), (Fr.refl _ _ _ _).alloc _⟩
  | false =>
    rw [hd] at cw
    have Hd := Lib.hid hd
    clear hd
    go_enter Try.func80, Try.ntmps80
    go_wp2_with fail
    rw [← HW1.out]
    refine (HB.out s W1 H1.out Hok.out hlg Hd.out).mono ?_
    rintro e w2 ⟨rfl, sw2, fr2⟩
    have Hsw2 := Lib.hid sw2
    have Hfr2 := Lib.hid ((Fr.of_below Hb1.out).trans fr2)
    obtain ⟨o, ho⟩ : ∃ o, (doneP i G s).2 = o := ⟨_, rfl⟩
    have Ho := Lib.hid ho
    rw [ho]
    have ht : tup o = .tuple #[.int .i64 (o.getD 0), .bool o.isSome] := rfl
    clear sw2 fr2 ho
    go_wp2_with fail
    refine bodyPost_ret (v := .tuple #[.int .i64 (o.getD 0), .bool o.isSome]) (by simp [results, Try.results80, go_sem]) rfl ?_
    exact ⟨by rw [Ho.out]; rfl, Hsw2.out, Hfr2.out⟩

set_option maxRecDepth 100000 in
set_option maxHeartbeats 3200000 in
theorem next_k7 {n0 pb cb : Nat} {A : Option Addr} {c : Nat} {l : List Nd} {As : Option Addr} {ca : Nat} {src : List (List Int)} {cc : Nat} {i : Nat} {xa xb n m : Int} (hx : l[i]? = some ⟨7, xa, xb, n, m⟩) (G : PF)
    (hB : ∀ (s : PS) (w : World), SW n0 pb cb A c l As ca src cc s w → StOk l src s.cs → s.lg.length + s.W l src ≤ 65536 → (s.at_ i).d = false →
      Calls Try.prog 97 #[.pointer (some ⟨pb, 0, none⟩), .int .i64 i] w fun e w' => NPost n0 pb cb A c l As ca src cc w (doneP i G s) e w') : NextOk n0 pb cb A c l As ca src cc (doneP i G) i := by
  intro s w h ok hlg
  have hi : i < l.length := (List.getElem?_eq_some_iff.1 hx).1
  have hil : i < s.cs.length := by rw [ok.len]; exact hi
  obtain ⟨b0, b1, b2⟩ := h.bx
  obtain ⟨nb, no, rfl, hnb, y0, y1, y2, y3, y4⟩ := h.nodes.at2 hx
  simp only at y0 y1 y2 y3 y4
  obtain ⟨W1, hW1⟩ : ∃ W1 : World, W1 = w.alloc (.cells #[.int .i64 7, .int .i64 xa, .int .i64 xb, .int .i64 n, .int .i64 m] 104) := ⟨_, rfl⟩
  have hb1 : Below w.heap.size w W1 := by rw [hW1]; exact (Below.refl _ _).alloc (Nat.le_refl _) _
  have hpw := h.rs.ltp
  have hcw := h.rs.ltc
  have cw := (h.rs.cl (i := i) hil).c5
  have H := Lib.hid h
  have H1 := Lib.hid (h.below hb1)
  have Hb1 := Lib.hid hb1
  have HW1 := Lib.hid hW1
  have Hok := Lib.hid ok
  have HB := Lib.hid hB
  clear h hb1 hW1 ok hx hB
  cases hd : (s.at_ i).d with
  | true =>
    rw [hd] at cw
    have Hd := Lib.hid hd
    clear hd
    go_enter Try.func80, Try.ntmps80
    go_wp2_with fail
    refine bodyPost_ret (v := .tuple #[.int .i64 0, .bool false]) (by simp [results, Try.results80, go_sem]) rfl ?_
    rw [doneP_done Hd.out]
    exact ⟨rfl, H.out.below ((Below.refl _ _).alloc (Nat.le_refl _) _), (Fr.refl _ _ _ _).alloc _⟩
  | false =>
    rw [hd] at cw
    have Hd := Lib.hid hd
    clear hd
    go_enter Try.func80, Try.ntmps80
    go_wp2_with fail
    rw [← HW1.out]
    refine (HB.out s W1 H1.out Hok.out hlg Hd.out).mono ?_
    rintro e w2 ⟨rfl, sw2, fr2⟩
    have Hsw2 := Lib.hid sw2
    have Hfr2 := Lib.hid ((Fr.of_below Hb1.out).trans fr2)
    obtain ⟨o, ho⟩ : ∃ o, (doneP i G s).2 = o := ⟨_, rfl⟩
    have Ho := Lib.hid ho
    rw [ho]
    have ht : tup o = .tuple #[.int .i64 (o.getD 0), .bool o.isSome] := rfl
    clear sw2 fr2 ho
    go_wp2_with fail
    refine bodyPost_ret (v := .tuple #[.int .i64 (o.getD 0), .bool o.isSome]) (by simp [results, Try.results80, go_sem]) rfl ?_
    exact ⟨by rw [Ho.out]; rfl, Hsw2.out, Hfr2.out⟩

set_option maxRecDepth 100000 in
set_option maxHeartbeats 3200000 in
theorem next_k8 {n0 pb cb : Nat} {A : Option Addr} {c : Nat} {l : List Nd} {As : Option Addr} {ca : Nat} {src : List (List Int)} {cc : Nat} {i : Nat} {xa xb n m : Int} (hx : l[i]? = some ⟨8, xa, xb, n, m⟩) (G : PF)
    (hB : ∀ (s : PS) (w : World), SW n0 pb cb A c l As ca src cc s w → StOk l src s.cs → s.lg.length + s.W l src ≤ 65536 → (s.at_ i).d = false →
      Calls Try.prog 97 #[.pointer (some ⟨pb, 0, none⟩), .int .i64 i] w fun e w' => NPost n0 pb cb A c l As ca src cc w (doneP i G s) e w') : NextOk n0 pb cb A c l As ca src cc (doneP i G) i := by
  intro s w h ok hlg
  have hi : i < l.length := (List.getElem?_eq_some_iff.1 hx).1
  have hil : i < s.cs.length := by rw [ok.len]; exact hi
  obtain ⟨b0, b1, b2⟩ := h.bx
  obtain ⟨nb, no, rfl, hnb, y0, y1, y2, y3, y4⟩ := h.nodes.at2 hx
  simp only at y0 y1 y2 y3 y4
  obtain ⟨W1, hW1⟩ : ∃ W1 : World, W1 = w.alloc (.cells #[.int .i64 8, .int .i64 xa, .int .i64 xb, .int .i64 n, .int .i64 m] 104) := ⟨_, rfl⟩
  have hb1 : Below w.heap.size w W1 := by rw [hW1]; exact (Below.refl _ _).alloc (Nat.le_refl _) _
  have hpw := h.rs.ltp
  have hcw := h.rs.ltc
  have cw := (h.rs.cl (i := i) hil).c5
  have H := Lib.hid h
  have H1 := Lib.hid (h.below hb1)
  have Hb1 := Lib.hid hb1
  have HW1 := Lib.hid hW1
  have Hok := Lib.hid ok
  have HB := Lib.hid hB
  clear h hb1 hW1 ok hx hB
  cases hd : (s.at_ i).d with
  | true =>
    rw [hd] at cw
    have Hd := Lib.hid hd
    clear hd
    go_enter Try.func80, Try.ntmps80
    go_wp2_with fail
    refine bodyPost_ret (v := .tuple #[.int .i64 0, .bool false]) (by simp [results, Try.results80, go_sem]) rfl ?_
    rw [doneP_done Hd.out]
    exact ⟨rfl, H.out.below ((Below.refl _ _).alloc (Nat.le_refl _) _), (Fr.refl _ _ _ _).alloc _⟩
  | false =>
    rw [hd] at cw
    have Hd := Lib.hid hd
    clear hd
    go_enter Try.func80, Try.ntmps80
    go_wp2_with fail
    rw [← HW1.out]
    refine (HB.out s W1 H1.out Hok.out hlg Hd.out).mono ?_
    rintro e w2 ⟨rfl, sw2, fr2⟩
    have Hsw2 := Lib.hid sw2
    have Hfr2 := Lib.hid ((Fr.of_below Hb1.out).trans fr2)
    obtain ⟨o, ho⟩ : ∃ o, (doneP i G s).2 = o := ⟨_, rfl⟩
    have Ho := Lib.hid ho
    rw [ho]
    have ht : tup o = .tuple #[.int .i64 (o.getD 0), .bool o.isSome] := rfl
    clear sw2 fr2 ho
    go_wp2_with fail
    refine bodyPost_ret (v := .tuple #[.int .i64 (o.getD 0), .bool o.isSome]) (by simp [results, Try.results80, go_sem]) rfl ?_
    exact ⟨by rw [Ho.out]; rfl, Hsw2.out, Hfr2.out⟩

set_option maxRecDepth 100000 in
set_option maxHeartbeats 3200000 in
theorem next_k9 {n0 pb cb : Nat} {A : Option Addr} {c : Nat} {l : List Nd} {As : Option Addr} {ca : Nat} {src : List (List Int)} {cc : Nat} {i : Nat} {xa xb n m : Int} (hx : l[i]? = some ⟨9, xa, xb, n, m⟩) (G : PF)
    (hB : ∀ (s : PS) (w : World), SW n0 pb cb A c l As ca src cc s w → StOk l src s.cs → s.lg.length + s.W l src ≤ 65536 → (s.at_ i).d = false →
      Calls Try.prog 98 #[.pointer (some ⟨pb, 0, none⟩), .int .i64 i] w fun e w' => NPost n0 pb cb A c l As ca src cc w (doneP i G s) e w') : NextOk n0 pb cb A c l As ca src cc (doneP i G) i := by
  intro s w h ok hlg
  have hi : i < l.length := (List.getElem?_eq_some_iff.1 hx).1
  have hil : i < s.cs.length := by rw [ok.len]; exact hi
  obtain ⟨b0, b1, b2⟩ := h.bx
  obtain ⟨nb, no, rfl, hnb, y0, y1, y2, y3, y4⟩ := h.nodes.at2 hx
  simp only at y0 y1 y2 y3 y4
  obtain ⟨W1, hW1⟩ : ∃ W1 : World, W1 = w.alloc (.cells #[.int .i64 9, .int .i64 xa, .int .i64 xb, .int .i64 n, .int .i64 m] 104) := ⟨_, rfl⟩
  have hb1 : Below w.heap.size w W1 := by rw [hW1]; exact (Below.refl _ _).alloc (Nat.le_refl _) _
  have hpw := h.rs.ltp
  have hcw := h.rs.ltc
  have cw := (h.rs.cl (i := i) hil).c5
  have H := Lib.hid h
  have H1 := Lib.hid (h.below hb1)
  have Hb1 := Lib.hid hb1
  have HW1 := Lib.hid hW1
  have Hok := Lib.hid ok
  have HB := Lib.hid hB
  clear h hb1 hW1 ok hx hB
  cases hd : (s.at_ i).d with
  | true =>
    rw [hd] at cw
    have Hd := Lib.hid hd
    clear hd
    go_enter Try.func80, Try.ntmps80
    go_wp2_with fail
    refine bodyPost_ret (v := .tuple #[.int .i64 0, .bool false]) (by simp [results, Try.results80, go_sem]) rfl ?_
    rw [doneP_done Hd.out]
    exact ⟨rfl, H.out.below ((Below.refl _ _).alloc (Nat.le_refl _) _), (Fr.refl _ _ _ _).alloc _⟩
  | false =>
    rw [hd] at cw
    have Hd := Lib.hid hd
    clear hd
    go_enter Try.func80, Try.ntmps80
    go_wp2_with fail
    rw [← HW1.out]
    refine (HB.out s W1 H1.out Hok.out hlg Hd.out).mono ?_
    rintro e w2 ⟨rfl, sw2, fr2⟩
    have Hsw2 := Lib.hid sw2
    have Hfr2 := Lib.hid ((Fr.of_below Hb1.out).trans fr2)
    obtain ⟨o, ho⟩ : ∃ o, (doneP i G s).2 = o := ⟨_, rfl⟩
    have Ho := Lib.hid ho
    rw [ho]
    have ht : tup o = .tuple #[.int .i64 (o.getD 0), .bool o.isSome] := rfl
    clear sw2 fr2 ho
    go_wp2_with fail
    refine bodyPost_ret (v := .tuple #[.int .i64 (o.getD 0), .bool o.isSome]) (by simp [results, Try.results80, go_sem]) rfl ?_
    exact ⟨by rw [Ho.out]; rfl, Hsw2.out, Hfr2.out⟩

set_option maxRecDepth 100000 in
set_option maxHeartbeats 3200000 in
theorem next_k10 {n0 pb cb : Nat} {A : Option Addr} {c : Nat} {l : List Nd} {As : Option Addr} {ca : Nat} {src : List (List Int)} {cc : Nat} {i : Nat} {xa xb n m : Int} (hx : l[i]? = some ⟨10, xa, xb, n, m⟩) (G : PF)
    (hB : ∀ (s : PS) (w : World), SW n0 pb cb A c l As ca src cc s w → StOk l src s.cs → s.lg.length + s.W l src ≤ 65536 → (s.at_ i).d = false →
      Calls Try.prog 97 #[.pointer (some ⟨pb, 0, none⟩), .int .i64 i] w fun e w' => NPost n0 pb cb A c l As ca src cc w (doneP i G s) e w') : NextOk n0 pb cb A c l As ca src cc (doneP i G) i := by
  intro s w h ok hlg
  have hi : i < l.length := (List.getElem?_eq_some_iff.1 hx).1
  have hil : i < s.cs.length := by rw [ok.len]; exact hi
  obtain ⟨b0, b1, b2⟩ := h.bx
  obtain ⟨nb, no, rfl, hnb, y0, y1, y2, y3, y4⟩ := h.nodes.at2 hx
  simp only at y0 y1 y2 y3 y4
  obtain ⟨W1, hW1⟩ : ∃ W1 : World, W1 = w.alloc (.cells #[.int .i64 10, .int .i64 xa, .int .i64 xb, .int .i64 n, .int .i64 m] 104) := ⟨_, rfl⟩
  have hb1 : Below w.heap.size w W1 := by rw [hW1]; exact (Below.refl _ _).alloc (Nat.le_refl _) _
  have hpw := h.rs.ltp
  have hcw := h.rs.ltc
  have cw := (h.rs.cl (i := i) hil).c5
  have H := Lib.hid h
  have H1 := Lib.hid (h.below hb1)
  have Hb1 := Lib.hid hb1
  have HW1 := Lib.hid hW1
  have Hok := Lib.hid ok
  have HB := Lib.hid hB
  clear h hb1 hW1 ok hx hB
  cases hd : (s.at_ i).d with
  | true =>
    rw [hd] at cw
    have Hd := Lib.hid hd
    clear hd
    go_enter Try.func80, Try.ntmps80
    go_wp2_with fail
    refine bodyPost_ret (v := .tuple #[.int .i64 0, .bool false]) (by simp [results, Try.results80, go_sem]) rfl ?_
    rw [doneP_done Hd.out]
    exact ⟨rfl, H.out.below ((Below.refl _ _).alloc (Nat.le_refl _) _), (Fr.refl _ _ _ _).alloc _⟩
  | false =>
    rw [hd] at cw
    have Hd := Lib.hid hd
    clear hd
    go_enter Try.func80, Try.ntmps80
    go_wp2_with fail
    rw [← HW1.out]
    refine (HB.out s W1 H1.out Hok.out hlg Hd.out).mono ?_
    rintro e w2 ⟨rfl, sw2, fr2⟩
    have Hsw2 := Lib.hid sw2
    have Hfr2 := Lib.hid ((Fr.of_below Hb1.out).trans fr2)
    obtain ⟨o, ho⟩ : ∃ o, (doneP i G s).2 = o := ⟨_, rfl⟩
    have Ho := Lib.hid ho
    rw [ho]
    have ht : tup o = .tuple #[.int .i64 (o.getD 0), .bool o.isSome] := rfl
    clear sw2 fr2 ho
    go_wp2_with fail
    refine bodyPost_ret (v := .tuple #[.int .i64 (o.getD 0), .bool o.isSome]) (by simp [results, Try.results80, go_sem]) rfl ?_
    exact ⟨by rw [Ho.out]; rfl, Hsw2.out, Hfr2.out⟩

set_option maxRecDepth 100000 in
set_option maxHeartbeats 3200000 in
theorem next_k11 {n0 pb cb : Nat} {A : Option Addr} {c : Nat} {l : List Nd} {As : Option Addr} {ca : Nat} {src : List (List Int)} {cc : Nat} {i : Nat} {xa xb n m : Int} (hx : l[i]? = some ⟨11, xa, xb, n, m⟩) (G : PF)
    (hB : ∀ (s : PS) (w : World), SW n0 pb cb A c l As ca src cc s w → StOk l src s.cs → s.lg.length + s.W l src ≤ 65536 → (s.at_ i).d = false →
      Calls Try.prog 99 #[.pointer (some ⟨pb, 0, none⟩), .int .i64 i] w fun e w' => NPost n0 pb cb A c l As ca src cc w (doneP i G s) e w') : NextOk n0 pb cb A c l As ca src cc (doneP i G) i := by
  intro s w h ok hlg
  have hi : i < l.length := (List.getElem?_eq_some_iff.1 hx).1
  have hil : i < s.cs.length := by rw [ok.len]; exact hi
  obtain ⟨b0, b1, b2⟩ := h.bx
  obtain ⟨nb, no, rfl, hnb, y0, y1, y2, y3, y4⟩ := h.nodes.at2 hx
  simp only at y0 y1 y2 y3 y4
  obtain ⟨W1, hW1⟩ : ∃ W1 : World, W1 = w.alloc (.cells #[.int .i64 11, .int .i64 xa, .int .i64 xb, .int .i64 n, .int .i64 m] 104) := ⟨_, rfl⟩
  have hb1 : Below w.heap.size w W1 := by rw [hW1]; exact (Below.refl _ _).alloc (Nat.le_refl _) _
  have hpw := h.rs.ltp
  have hcw := h.rs.ltc
  have cw := (h.rs.cl (i := i) hil).c5
  have H := Lib.hid h
  have H1 := Lib.hid (h.below hb1)
  have Hb1 := Lib.hid hb1
  have HW1 := Lib.hid hW1
  have Hok := Lib.hid ok
  have HB := Lib.hid hB
  clear h hb1 hW1 ok hx hB
  cases hd : (s.at_ i).d with
  | true =>
    rw [hd] at cw
    have Hd := Lib.hid hd
    clear hd
    go_enter Try.func80, Try.ntmps80
    go_wp2_with fail
    refine bodyPost_ret (v := .tuple #[.int .i64 0, .bool false]) (by simp [results, Try.results80, go_sem]) rfl ?_
    rw [doneP_done Hd.out]
    exact ⟨rfl, H.out.below ((Below.refl _ _).alloc (Nat.le_refl _) _), (Fr.refl _ _ _ _).alloc _⟩
  | false =>
    rw [hd] at cw
    have Hd := Lib.hid hd
    clear hd
    go_enter Try.func80, Try.ntmps80
    go_wp2_with fail
    rw [← HW1.out]
    refine (HB.out s W1 H1.out Hok.out hlg Hd.out).mono ?_
    rintro e w2 ⟨rfl, sw2, fr2⟩
    have Hsw2 := Lib.hid sw2
    have Hfr2 := Lib.hid ((Fr.of_below Hb1.out).trans fr2)
    obtain ⟨o, ho⟩ : ∃ o, (doneP i G s).2 = o := ⟨_, rfl⟩
    have Ho := Lib.hid ho
    rw [ho]
    have ht : tup o = .tuple #[.int .i64 (o.getD 0), .bool o.isSome] := rfl
    clear sw2 fr2 ho
    go_wp2_with fail
    refine bodyPost_ret (v := .tuple #[.int .i64 (o.getD 0), .bool o.isSome]) (by simp [results, Try.results80, go_sem]) rfl ?_
    exact ⟨by rw [Ho.out]; rfl, Hsw2.out, Hfr2.out⟩

set_option maxRecDepth 100000 in
set_option maxHeartbeats 3200000 in
theorem next_k12 {n0 pb cb : Nat} {A : Option Addr} {c : Nat} {l : List Nd} {As : Option Addr} {ca : Nat} {src : List (List Int)} {cc : Nat} {i : Nat} {xa xb n m : Int} (hx : l[i]? = some ⟨12, xa, xb, n, m⟩) (G : PF)
    (hB : ∀ (s : PS) (w : World), SW n0 pb cb A c l As ca src cc s w → StOk l src s.cs → s.lg.length + s.W l src ≤ 65536 → (s.at_ i).d = false →
      Calls Try.prog 96 #[.pointer (some ⟨pb, 0, none⟩), .int .i64 i] w fun e w' => NPost n0 pb cb A c l As ca src cc w (doneP i G s) e w') : NextOk n0 pb cb A c l As ca src cc (doneP i G) i := by
  intro s w h ok hlg
  have hi : i < l.length := (List.getElem?_eq_some_iff.1 hx).1
  have hil : i < s.cs.length := by rw [ok.len]; exact hi
  obtain ⟨b0, b1, b2⟩ := h.bx
  obtain ⟨nb, no, rfl, hnb, y0, y1, y2, y3, y4⟩ := h.nodes.at2 hx
  simp only at y0 y1 y2 y3 y4
  obtain ⟨W1, hW1⟩ : ∃ W1 : World, W1 = w.alloc (.cells #[.int .i64 12, .int .i64 xa, .int .i64 xb, .int .i64 n, .int .i64 m] 104) := ⟨_, rfl⟩
  have hb1 : Below w.heap.size w W1 := by rw [hW1]; exact (Below.refl _ _).alloc (Nat.le_refl _) _
  have hpw := h.rs.ltp
  have hcw := h.rs.ltc
  have cw := (h.rs.cl (i := i) hil).c5
  have H := Lib.hid h
  have H1 := Lib.hid (h.below hb1)
  have Hb1 := Lib.hid hb1
  have HW1 := Lib.hid hW1
  have Hok := Lib.hid ok
  have HB := Lib.hid hB
  clear h hb1 hW1 ok hx hB
  cases hd : (s.at_ i).d with
  | true =>
    rw [hd] at cw
    have Hd := Lib.hid hd
    clear hd
    go_enter Try.func80, Try.ntmps80
    go_wp2_with fail
    refine bodyPost_ret (v := .tuple #[.int .i64 0, .bool false]) (by simp [results, Try.results80, go_sem]) rfl ?_
    rw [doneP_done Hd.out]
    exact ⟨rfl, H.out.below ((Below.refl _ _).alloc (Nat.le_refl _) _), (Fr.refl _ _ _ _).alloc _⟩
  | false =>
    rw [hd] at cw
    have Hd := Lib.hid hd
    clear hd
    go_enter Try.func80, Try.ntmps80
    go_wp2_with fail
    rw [← HW1.out]
    refine (HB.out s W1 H1.out Hok.out hlg Hd.out).mono ?_
    rintro e w2 ⟨rfl, sw2, fr2⟩
    have Hsw2 := Lib.hid sw2
    have Hfr2 := Lib.hid ((Fr.of_below Hb1.out).trans fr2)
    obtain ⟨o, ho⟩ : ∃ o, (doneP i G s).2 = o := ⟨_, rfl⟩
    have Ho := Lib.hid ho
    rw [ho]
    have ht : tup o = .tuple #[.int .i64 (o.getD 0), .bool o.isSome] := rfl
    clear sw2 fr2 ho
    go_wp2_with fail
    refine bodyPost_ret (v := .tuple #[.int .i64 (o.getD 0), .bool o.isSome]) (by simp [results, Try.results80, go_sem]) rfl ?_
    exact ⟨by rw [Ho.out]; rfl, Hsw2.out, Hfr2.out⟩

set_option maxRecDepth 100000 in
set_option maxHeartbeats 3200000 in
theorem next_k13 {n0 pb cb : Nat} {A : Option Addr} {c : Nat} {l : List Nd} {As : Option Addr} {ca : Nat} {src : List (List Int)} {cc : Nat} {i : Nat} {xa xb n m : Int} (hx : l[i]? = some ⟨13, xa, xb, n, m⟩) (G : PF)
    (hB : ∀ (s : PS) (w : World), SW n0 pb cb A c l As ca src cc s w → StOk l src s.cs → s.lg.length + s.W l src ≤ 65536 → (s.at_ i).d = false →
      Calls Try.prog 99 #[.pointer (some ⟨pb, 0, none⟩), .int .i64 i] w fun e w' => NPost n0 pb cb A c l As ca src cc w (doneP i G s) e w') : NextOk n0 pb cb A c l As ca src cc (doneP i G) i := by
  intro s w h ok hlg
  have hi : i < l.length := (List.getElem?_eq_some_iff.1 hx).1
  have hil : i < s.cs.length := by rw [ok.len]; exact hi
  obtain ⟨b0, b1, b2⟩ := h.bx
  obtain ⟨nb, no, rfl, hnb, y0, y1, y2, y3, y4⟩ := h.nodes.at2 hx
  simp only at y0 y1 y2 y3 y4
  obtain ⟨W1, hW1⟩ : ∃ W1 : World, W1 = w.alloc (.cells #[.int .i64 13, .int .i64 xa, .int .i64 xb, .int .i64 n, .int .i64 m] 104) := ⟨_, rfl⟩
  have hb1 : Below w.heap.size w W1 := by rw [hW1]; exact (Below.refl _ _).alloc (Nat.le_refl _) _
  have hpw := h.rs.ltp
  have hcw := h.rs.ltc
  have cw := (h.rs.cl (i := i) hil).c5
  have H := Lib.hid h
  have H1 := Lib.hid (h.below hb1)
  have Hb1 := Lib.hid hb1
  have HW1 := Lib.hid hW1
  have Hok := Lib.hid ok
  have HB := Lib.hid hB
  clear h hb1 hW1 ok hx hB
  cases hd : (s.at_ i).d with
  | true =>
    rw [hd] at cw
    have Hd := Lib.hid hd
    clear hd
    go_enter Try.func80, Try.ntmps80
    go_wp2_with fail
    refine bodyPost_ret (v := .tuple #[.int .i64 0, .bool false]) (by simp [results, Try.results80, go_sem]) rfl ?_
    rw [doneP_done Hd.out]
    exact ⟨rfl, H.out.below ((Below.refl _ _).alloc (Nat.le_refl _) _), (Fr.refl _ _ _ _).alloc _⟩
  | false =>
    rw [hd] at cw
    have Hd := Lib.hid hd
    clear hd
    go_enter Try.func80, Try.ntmps80
    go_wp2_with fail
    rw [← HW1.out]
    refine (HB.out s W1 H1.out Hok.out hlg Hd.out).mono ?_
    rintro e w2 ⟨rfl, sw2, fr2⟩
    have Hsw2 := Lib.hid sw2
    have Hfr2 := Lib.hid ((Fr.of_below Hb1.out).trans fr2)
    obtain ⟨o, ho⟩ : ∃ o, (doneP i G s).2 = o := ⟨_, rfl⟩
    have Ho := Lib.hid ho
    rw [ho]
    have ht : tup o = .tuple #[.int .i64 (o.getD 0), .bool o.isSome] := rfl
    clear sw2 fr2 ho
    go_wp2_with fail
    refine bodyPost_ret (v := .tuple #[.int .i64 (o.getD 0), .bool o.isSome]) (by simp [results, Try.results80, go_sem]) rfl ?_
    exact ⟨by rw [Ho.out]; rfl, Hsw2.out, Hfr2.out⟩

theorem NextOk.of {n0 pb cb : Nat} {A : Option Addr} {c : Nat} {l : List Nd} {As : Option Addr} {ca : Nat} {src : List (List Int)} {cc : Nat} (hp : PipeOk l) (hs : srcOk src = true) (hl12 : l.length ≤ 12) {t : TI} (ht : IsTI l t) :
    NextOk n0 pb cb A c l As ca src cc (pull src (fun s => s.M l src + 1) t) t.ix := by
  have ok : ∀ (i : Nat) (x : Nd), l[i]? = some x → numsOk x = true := fun i x hx => by
    have h1 := hp.node i x hx
    simp only [nodeOk, Bool.and_eq_true] at h1
    exact h1.1
  have _u := hl12
  have hs3 : src.length = 3 := (src_rows hs).1
  induction ht with
  | @leaf i x hx ha h1 h2 =>
    have hk := arity_zero ha
    have hn := ok _ _ hx
    obtain ⟨k, xa, xb, n, m⟩ := x
    simp only at hk h1 h2
    subst hk
    simp [numsOk, inR] at hn
    obtain ⟨q, hq⟩ : ∃ q : Nat, n = (q : Int) := ⟨n.toNat, by omega⟩
    subst hq
    obtain ⟨row, hrow⟩ := get_of_lt src (k := q) (by omega)
    have hrl := (src_rows hs).2 row (List.mem_of_getElem? hrow)
    refine next_k0 hx _ fun s w h okS hlg hd => ?_
    have hat := (StOk.at_ okS hx).1
    have hmo : mostOf ⟨0, xa, xb, (q : Int), m⟩ src = (row.length : Int) := by simp [mostOf, List.getD_eq_getElem?_getD, hrow]
    rw [hmo] at hat
    exact (nextSource_any h okS.len hx q rfl hs3 row hrow hrl hat.1 hat.2 (by omega) hd).mono fun e w' ⟨a, b, c⟩ => ⟨a, b, c⟩
  | @stem i x t hx ha h1 hj h2 ht ih =>
    have hk := arity_one ha
    have hn := ok _ _ hx
    have hF := pull_fine hp hs (fu := fun s => s.M l src + 1) ht
    obtain ⟨k, xa, xb, n, m⟩ := x
    simp only at hk h1 h2
    subst h1
    rcases hk with rfl | rfl | rfl | rfl | rfl | rfl | rfl | rfl | rfl
    · simp [numsOk, inR] at hn
      exact next_k1 hx _ fun s w h okS hlg hd => next_map hs hx hj hF ih s w h okS hlg hd (Lib.hid (by omega))
    · simp [numsOk, inR] at hn
      exact next_k2 hx _ fun s w h okS hlg hd => next_filter hs hx hj hF ih s w h okS hlg hd (Lib.hid (by omega))
    · simp [numsOk, inR] at hn
      exact next_k3 hx _ fun s w h okS hlg hd => next_take hs hx hj hF ih s w h okS hlg hd (Lib.hid (by omega))
    · simp [numsOk, inR] at hn
      exact next_k4 hx _ fun s w h okS hlg hd => next_drop hs hx hj hF ih s w h okS hlg hd (Lib.hid (by omega))
    · exact next_k5 hx _ fun s w h okS hlg hd => next_while hs hx hj hF ih s w h okS hlg hd
    · exact next_k6 hx _ fun s w h okS hlg hd => next_skip hs hx hj hF ih s w h okS hlg hd
    · exact next_k11 hx _ fun s w h okS hlg hd => next_scan hs hx hj hF ih s w h okS hlg hd
    · simp [numsOk, inR] at hn
      exact next_k12 hx _ fun s w h okS hlg hd => next_batch hs hx hj hF ih s w h okS hlg hd (Lib.hid (by omega))
    · exact next_k13 hx _ fun s w h okS hlg hd => next_once hs hx hj hF ih s w h okS hlg hd
  | @fork i x a b hx ha h1 hj h2 hj2 hta htb iha ihb =>
    have hk := arity_two ha
    have hFa := pull_fine hp hs (fu := fun s => s.M l src + 1) hta
    have hFb := pull_fine hp hs (fu := fun s => s.M l src + 1) htb
    obtain ⟨k, xa, xb, n, m⟩ := x
    simp only at hk h1 h2
    subst h1
    subst h2
    rcases hk with rfl | rfl | rfl | rfl
    · exact next_k7 hx _ fun s w h okS hlg hd => next_chain hs hx hj hj2 hFa iha hFb ihb s w h okS hlg hd
    · exact next_k8 hx _ fun s w h okS hlg hd => next_zip hs hx hj hj2 hFa iha hFb ihb s w h okS hlg hd
    · exact next_k9 hx _ fun s w h okS hlg hd => next_merge hs hx hj hj2 hFa iha hFb ihb s w h okS hlg hd
    · exact next_k10 hx _ fun s w h okS hlg hd => next_turn hs hx hj hj2 hFa iha hFb ihb s w h okS hlg hd

end Go.Proofs.Ytjhdjfobbgfpfaa

/- Contracts: lists out of lists, by the program (one number out of a list). -/
namespace Go.Proofs.Ytjhdjfobbgfpfaa
open Go.RowKit

theorem implRest_any (n : Int) (w : World) (h : 0 ≤ n) :
    Calls Try.prog 125 #[.int .i64 n] w fun e w' => e = .returned (.int .i64 (rst n)) ∧ w = w' := by
  have h5 : n.tmod 100 = rst n := rfl
  have h6 := rst_in h
  go_enter Try.func125, Try.ntmps125
  go_wp2
  go_ret
  exact ⟨rfl, rfl⟩

end Go.Proofs.Ytjhdjfobbgfpfaa
