/- Texts on the program and its reference, put together (PsD, PsE). -/
import Derived.Test.YthfniffecceldaaMq5H
import Derived.Test.YthfniffecceldaaMq5F
/- Contracts: pulls by the reference: nodes that count. -/
namespace Go.Proofs.Ythfniffecceldaa
open Go.RowKit

theorem SW.drew {n0 pb cb : Nat} {A : Option Addr} {c : Nat} {l : List Nd} {As : Option Addr} {ca : Nat} {src : List (List Int)} {cc : Nat} {s : PS} {w : World} (h : SW n0 pb cb A c l As ca src cc s w) : SW n0 pb cb A c l As ca src cc s w.drew := h.below (Below.refl _ _).drew

set_option maxRecDepth 100000 in
set_option maxHeartbeats 6400000 in
theorem next_take {n0 pb cb : Nat} {A : Option Addr} {c : Nat} {l : List Nd} {As : Option Addr} {ca : Nat} {src : List (List Int)} {cc : Nat} (hs : srcOk src = true) {i j : Nat} {xb n m : Int} (hx : l[i]? = some ⟨3, (j : Int), xb, n, m⟩) (hj : j < i) {f : PF} (hF : Fine l src j f) (hN : NextOk n0 pb cb A c l As ca src cc f j)
    (s : PS) (w : World) (h : SW n0 pb cb A c l As ca src cc s w) (ok : StOk l src s.cs) (hlg : s.lg.length + s.W l src ≤ 65536) (hd : (s.at_ i).d = false) (Hnums : Hid (0 ≤ n ∧ n ≤ 30)) :
    Calls Try.prog 66 #[.pointer (some ⟨pb, 0, none⟩), .int .i64 i] w fun e w' => NPost n0 pb cb A c l As ca src cc w (doneP i (stemP (fun s => s.M l src + 1) i ⟨3, (j : Int), xb, n, m⟩ f) s) e w' := by
  have _u1 := hj
  clear _u1
  have hi : i < l.length := (List.getElem?_eq_some_iff.1 hx).1
  have hil : i < s.cs.length := by rw [ok.len]; exact hi
  obtain ⟨b0, b1, b2⟩ := h.bx
  obtain ⟨nb, no, rfl, hnb, y0, y1, y2, y3, y4⟩ := h.nodes.at2 hx
  simp only at y0 y1 y2 y3 y4
  obtain ⟨W1, hW1⟩ : ∃ W1 : World, W1 = w.alloc (.cells #[.int .i64 3, .int .i64 (j : Int), .int .i64 xb, .int .i64 n, .int .i64 m] 97) := ⟨_, rfl⟩
  have hb1 : Below w.heap.size w W1 := by rw [hW1]; exact (Below.refl _ _).alloc (Nat.le_refl _) _
  have kn1 : Bk W1 w.heap.size 97 [.int .i64 3, .int .i64 (j : Int), .int .i64 xb, .int .i64 n, .int .i64 m] := by rw [hW1]; exact Bk.new _ _ [_, _, _, _, _]
  have h1 := h.below hb1
  have hpw := h.rs.ltp
  have hcw := h.rs.ltc
  have H := Lib.hid h
  have H1 := Lib.hid h1
  have Hb1 := Lib.hid hb1
  have HW1 := Lib.hid hW1
  have Hkn := Lib.hid kn1
  have Hok := Lib.hid ok
  have Hd := Lib.hid hd
  have Hx := Lib.hid hx
  have HN := Lib.hid hN
  have HF := Lib.hid hF
  have Hs := Lib.hid hs
  clear h h1 hb1 hW1 kn1 ok hd hx hN hF hs
  obtain ⟨q, hq⟩ : ∃ q, (s.at_ i).n = q := ⟨_, rfl⟩
  have hat := StOk.at_ Hok.out Hx.out
  have hmo : mostOf ⟨3, (j : Int), xb, n, m⟩ src = n := by simp [mostOf]
  rw [hmo, hq] at hat
  have hq0 := hat.1
  have hn30 := Hnums.out
  obtain ⟨c0, c1, c2, c3, c4, c5⟩ := H1.out.rs.cl (i := i) hil
  obtain ⟨b0', b1', b2'⟩ := H1.out.bx
  obtain ⟨x0, x1, x2, x3, x4⟩ : (W1.cell? ⟨w.heap.size, 0, none⟩ = some (.int .i64 3)) ∧ (W1.cell? ⟨w.heap.size, 1, none⟩ = some (.int .i64 (j : Int))) ∧ (W1.cell? ⟨w.heap.size, 2, none⟩ = some (.int .i64 xb)) ∧ (W1.cell? ⟨w.heap.size, 3, none⟩ = some (.int .i64 n)) ∧ (W1.cell? ⟨w.heap.size, 4, none⟩ = some (.int .i64 m)) := ⟨Hkn.out.cell 0, Hkn.out.cell 1, Hkn.out.cell 2, Hkn.out.cell 3, Hkn.out.cell 4⟩
  have g0 := H1.out.rs.free (i * 6)
  rw [hq] at c0
  have Hq := Lib.hid hq
  have Hat := Lib.hid hat
  clear hq hat hmo
  by_cases hqn : q = n
  · have hqb : (q == n) = true := by rw [beq_iff_eq]; exact hqn
    have Hqn := Lib.hid hqn
    clear hqn
    go_enter Try.func66, Try.ntmps66
    go_wp2_with fail
    rw [← HW1.out]
    go_wp2_with fail
    go_region
    go_wp2_with fail
    refine (ended_any (H1.out.drew) Hok.out.len i hi).mono ?_
    rintro e wz ⟨rfl, swz, frz⟩
    have Hswz := Lib.hid swz
    have Hfrz := Lib.hid (((Fr.of_below Hb1.out).drew).trans frz)
    clear swz frz
    go_wp2_with fail
    refine bodyPost_ret (v := .tuple #[.int .i64 0, .bool false]) (by simp [results, Try.results66, go_sem]) rfl ?_
    have hm : doneP i (stemP (fun s => s.M l src + 1) i ⟨3, (j : Int), xb, n, m⟩ f) s = (s.put i { s.at_ i with d := true }, none) := doneP_none Hd.out (by simp [stemP, takeP, Hq.out, Hqn.out])
    rw [hm]
    exact ⟨rfl, Hswz.out, Hfrz.out⟩
  · have hqb : (q == n) = false := by rw [beq_eq_false_iff_ne]; exact hqn
    have hw1 : IntKind.i64.wrap (q + 1) = q + 1 := IntWalk.i64_in _ (by omega)
    have q1 := H1.out.rs.setN (i := i) hil (q + 1)
    have q2 := (Fr.refl n0 pb cb W1).setc (i * 6) (.int .i64 (q + 1))
    have q3 := (H1.out.next q1 q2).drew.drew
    have qk : Bk ((W1.setCell ⟨cb, i * 6, none⟩ (.int .i64 (q + 1))).drew.drew) w.heap.size 97 [.int .i64 3, .int .i64 (j : Int), .int .i64 xb, .int .i64 n, .int .i64 m] := Hkn.out.far (by simp; omega) _
    have qs := FineAt.start (c := { s.at_ i with n := q + 1 }) Hok.out Hx.out ⟨by simp, by simp⟩ ⟨⟨by simp only; omega, by simp [mostOf]; omega⟩, Hat.out.2⟩
    have qlg : (s.put i { s.at_ i with n := q + 1 }).lg.length + (s.put i { s.at_ i with n := q + 1 }).W l src ≤ 65536 := Nat.le_trans qs.wle hlg
    have Hq3 := Lib.hid q3
    have Hqk := Lib.hid qk
    have Hq2 := Lib.hid ((Fr.of_below Hb1.out).trans q2.drew.drew)
    have Hqs := Lib.hid qs.ok
    rcases hfs2 : f (s.put i { s.at_ i with n := q + 1 }) with ⟨s2, o2⟩
    have hfine2 := HF.out (s.put i { s.at_ i with n := q + 1 }) Hqs.out
    rw [hfs2] at hfine2
    have Hfine2 := Lib.hid hfine2
    have hcall2 := HN.out (s.put i { s.at_ i with n := q + 1 }) _ Hq3.out Hqs.out qlg
    rw [hfs2] at hcall2
    have Hcall2 := Lib.hid hcall2
    have Hfs2 := Lib.hid hfs2
    clear hfine2 hfs2 hcall2
    clear q1 q2 q3 qk qs qlg
    go_enter Try.func66, Try.ntmps66
    go_wp2_with fail
    rw [← HW1.out]
    go_wp2_with fail
    go_region
    go_wp2_with fail
    go_region
    go_wp2_with fail
    refine Hcall2.out.mono ?_
    rintro e w2 ⟨rfl, sw2, fr2⟩
    have kn2 := fr2.bk Hqk.out (by decide) (by omega) (by omega)
    obtain ⟨x20, x21, x22, x23, x24⟩ : (w2.cell? ⟨w.heap.size, 0, none⟩ = some (.int .i64 3)) ∧ (w2.cell? ⟨w.heap.size, 1, none⟩ = some (.int .i64 (j : Int))) ∧ (w2.cell? ⟨w.heap.size, 2, none⟩ = some (.int .i64 xb)) ∧ (w2.cell? ⟨w.heap.size, 3, none⟩ = some (.int .i64 n)) ∧ (w2.cell? ⟨w.heap.size, 4, none⟩ = some (.int .i64 m)) := ⟨kn2.cell 0, kn2.cell 1, kn2.cell 2, kn2.cell 3, kn2.cell 4⟩
    obtain ⟨b02, b12, b22⟩ := sw2.bx
    have hl2 : i < s2.cs.length := by rw [Hfine2.out.ok.len]; exact hi
    have lt02 := kn2.lt
    have lt12 := sw2.rs.ltp
    have lt22 := sw2.rs.ltc
    have Hsw2 := Lib.hid sw2
    have Hfr2 := Lib.hid ((Hq2.out).trans fr2)
    have Hkn2 := Lib.hid kn2
    clear sw2 fr2 kn2
    cases o2 with
    | none =>
      have ht : tup none = .tuple #[.int .i64 0, .bool false] := rfl
      go_wp2_with fail
      refine (ended_any (Hsw2.out) Hfine2.out.ok.len i hi).mono ?_
      rintro e wz ⟨rfl, swz, frz⟩
      have Hswz := Lib.hid swz
      have Hfrz := Lib.hid ((Hfr2.out).trans frz)
      clear swz frz
      go_wp2_with fail
      refine bodyPost_ret (v := .tuple #[.int .i64 0, .bool false]) (by simp [results, Try.results66, go_sem]) rfl ?_
      have hm : doneP i (stemP (fun s => s.M l src + 1) i ⟨3, (j : Int), xb, n, m⟩ f) s = (s2.put i { s2.at_ i with d := true }, none) := doneP_none Hd.out (by simp [stemP, takeP, Hq.out, hqn, Hfs2.out])
      rw [hm]
      exact ⟨rfl, Hswz.out, Hfrz.out⟩
    | some v =>
      have ht : tup (some v) = .tuple #[.int .i64 v, .bool true] := rfl
      go_wp2_with fail
      refine bodyPost_ret (v := .tuple #[.int .i64 v, .bool true]) (by simp [results, Try.results66, go_sem]) rfl ?_
      have hm : doneP i (stemP (fun s => s.M l src + 1) i ⟨3, (j : Int), xb, n, m⟩ f) s = (s2, some v) := doneP_some Hd.out (by simp [stemP, takeP, Hq.out, hqn, Hfs2.out])
      rw [hm]
      exact ⟨rfl, Hsw2.out, Hfr2.out⟩

set_option maxRecDepth 100000 in
set_option maxHeartbeats 6400000 in
theorem next_drop {n0 pb cb : Nat} {A : Option Addr} {c : Nat} {l : List Nd} {As : Option Addr} {ca : Nat} {src : List (List Int)} {cc : Nat} (hs : srcOk src = true) {i j : Nat} {xb n m : Int} (hx : l[i]? = some ⟨4, (j : Int), xb, n, m⟩) (hj : j < i) {f : PF} (hF : Fine l src j f) (hN : NextOk n0 pb cb A c l As ca src cc f j)
    (s : PS) (w : World) (h : SW n0 pb cb A c l As ca src cc s w) (ok : StOk l src s.cs) (hlg : s.lg.length + s.W l src ≤ 65536) (hd : (s.at_ i).d = false) (Hnums : Hid (0 ≤ n ∧ n ≤ 30)) :
    Calls Try.prog 66 #[.pointer (some ⟨pb, 0, none⟩), .int .i64 i] w fun e w' => NPost n0 pb cb A c l As ca src cc w (doneP i (stemP (fun s => s.M l src + 1) i ⟨4, (j : Int), xb, n, m⟩ f) s) e w' := by
  have _u1 := hj
  clear _u1
  have hi : i < l.length := (List.getElem?_eq_some_iff.1 hx).1
  have hil : i < s.cs.length := by rw [ok.len]; exact hi
  obtain ⟨b0, b1, b2⟩ := h.bx
  obtain ⟨nb, no, rfl, hnb, y0, y1, y2, y3, y4⟩ := h.nodes.at2 hx
  simp only at y0 y1 y2 y3 y4
  obtain ⟨W1, hW1⟩ : ∃ W1 : World, W1 = w.alloc (.cells #[.int .i64 4, .int .i64 (j : Int), .int .i64 xb, .int .i64 n, .int .i64 m] 97) := ⟨_, rfl⟩
  have hb1 : Below w.heap.size w W1 := by rw [hW1]; exact (Below.refl _ _).alloc (Nat.le_refl _) _
  have kn1 : Bk W1 w.heap.size 97 [.int .i64 4, .int .i64 (j : Int), .int .i64 xb, .int .i64 n, .int .i64 m] := by rw [hW1]; exact Bk.new _ _ [_, _, _, _, _]
  have h1 := h.below hb1
  have hpw := h.rs.ltp
  have hcw := h.rs.ltc
  have H := Lib.hid h
  have H1 := Lib.hid h1
  have Hb1 := Lib.hid hb1
  have HW1 := Lib.hid hW1
  have Hkn := Lib.hid kn1
  have Hok := Lib.hid ok
  have Hd := Lib.hid hd
  have Hx := Lib.hid hx
  have HN := Lib.hid hN
  have HF := Lib.hid hF
  have Hs := Lib.hid hs
  clear h h1 hb1 hW1 kn1 ok hd hx hN hF hs
  go_enter Try.func66, Try.ntmps66
  go_wp2_with fail
  rw [← HW1.out]
  obtain ⟨x0, x1, x2, x3, x4⟩ : (W1.cell? ⟨w.heap.size, 0, none⟩ = some (.int .i64 4)) ∧ (W1.cell? ⟨w.heap.size, 1, none⟩ = some (.int .i64 (j : Int))) ∧ (W1.cell? ⟨w.heap.size, 2, none⟩ = some (.int .i64 xb)) ∧ (W1.cell? ⟨w.heap.size, 3, none⟩ = some (.int .i64 n)) ∧ (W1.cell? ⟨w.heap.size, 4, none⟩ = some (.int .i64 m)) := ⟨Hkn.out.cell 0, Hkn.out.cell 1, Hkn.out.cell 2, Hkn.out.cell 3, Hkn.out.cell 4⟩
  go_wp2_with fail
  have hn30 := Hnums.out
  go_loopw [4] (fun _ wr => ∃ (k : Nat) (s1 : PS), SW n0 pb cb (some ⟨nb, no, none⟩) c l As ca src cc s1 wr ∧ StOk l src s1.cs ∧ s1.lg.length + s1.W l src ≤ 65536 ∧ k = (n - (s1.at_ i).n).toNat ∧ dropL i n f k s1 = dropP i n f s ∧ Fr n0 pb cb w wr ∧ Bk wr w.heap.size 97 [.int .i64 4, .int .i64 (j : Int), .int .i64 xb, .int .i64 n, .int .i64 m])
    (fun _ wr => Classical.epsilon (fun q => ∃ s2 : PS, RS n0 pb cb 64 (spHd (some ⟨nb, no, none⟩) c l As ca cb cc) [] s2 wr ∧ s2.cs.length = l.length ∧ q = (fun cs : List Cl => (n - (cs.getD i zeroCl).n).toNat) s2.cs))
  case atStart => exact ⟨_, s, H1.out, Hok.out, hlg, rfl, rfl, .of_below Hb1.out, Hkn.out⟩
  case round =>
    obtain ⟨k, s1, h1, hok1, hlg1, hkk, hso, hfr1, hkn1⟩ := hrel
    have hl1 : s1.cs.length = l.length := hok1.len
    have hil1 : i < s1.cs.length := by rw [hl1]; exact hi
    have hat := StOk.at_ hok1 Hx.out
    have hmo : mostOf ⟨4, (j : Int), xb, n, m⟩ src = n := by simp [mostOf]
    obtain ⟨q, hq⟩ : ∃ q, (s1.at_ i).n = q := ⟨_, rfl⟩
    rw [hmo, hq] at hat
    rw [hq] at hkk
    have hq0 := hat.1
    obtain ⟨c0, c1, c2, c3, c4, c5⟩ := h1.rs.cl (i := i) hil1
    obtain ⟨b0', b1', b2'⟩ := h1.bx
    have g0 := h1.rs.free (i * 6)
    rw [hq] at c0
    have hzr := hfr1.size
    have lt0 := hkn1.lt
    have lt1 := h1.rs.ltp
    have lt2 := h1.rs.ltc
    obtain ⟨xr0, xr1, xr2, xr3, xr4⟩ : (wr.cell? ⟨w.heap.size, 0, none⟩ = some (.int .i64 4)) ∧ (wr.cell? ⟨w.heap.size, 1, none⟩ = some (.int .i64 (j : Int))) ∧ (wr.cell? ⟨w.heap.size, 2, none⟩ = some (.int .i64 xb)) ∧ (wr.cell? ⟨w.heap.size, 3, none⟩ = some (.int .i64 n)) ∧ (wr.cell? ⟨w.heap.size, 4, none⟩ = some (.int .i64 m)) := ⟨hkn1.cell 0, hkn1.cell 1, hkn1.cell 2, hkn1.cell 3, hkn1.cell 4⟩
    have Hq := Lib.hid hq
    have Hh1 := Lib.hid h1
    have Hok1 := Lib.hid hok1
    have Hso := Lib.hid hso
    have Hfr1 := Lib.hid hfr1
    have Hkn1 := Lib.hid hkn1
    have Hl1 := Lib.hid hl1
    have Hat := Lib.hid hat
    have Hkk := Lib.hid hkk
    have Hlg1 := Lib.hid hlg1
    clear hq h1 hok1 hso hfr1 hkn1 hat hmo hl1 hkk hlg1
    by_cases hqn : q < n
    · obtain ⟨k', hk'⟩ : ∃ k', k = k' + 1 := ⟨k - 1, by have := Hkk.out; omega⟩
      have hw1 : IntKind.i64.wrap (q + 1) = q + 1 := IntWalk.i64_in _ (by omega)
      have q1 := Hh1.out.rs.setN (i := i) hil1 (q + 1)
      have q2 := (Fr.refl n0 pb cb wr).setc (i * 6) (.int .i64 (q + 1))
      have q3 := (Hh1.out.next q1 q2).drew.drew
      have qk : Bk ((wr.setCell ⟨cb, i * 6, none⟩ (.int .i64 (q + 1))).drew.drew) w.heap.size 97 [.int .i64 4, .int .i64 (j : Int), .int .i64 xb, .int .i64 n, .int .i64 m] := Hkn1.out.far (by simp; omega) _
      have qs := FineAt.start (c := { s1.at_ i with n := q + 1 }) Hok1.out Hx.out ⟨by simp, by simp⟩ ⟨⟨by simp only; omega, by simp [mostOf]; omega⟩, Hat.out.2⟩
      have qlg : (s1.put i { s1.at_ i with n := q + 1 }).lg.length + (s1.put i { s1.at_ i with n := q + 1 }).W l src ≤ 65536 := Nat.le_trans qs.wle Hlg1.out
      have qat : (s1.put i { s1.at_ i with n := q + 1 }).at_ i = { s1.at_ i with n := q + 1 } := PS.at_put hil1
      have Hq3 := Lib.hid q3
      have Hqk := Lib.hid qk
      have Hq2 := Lib.hid (Hfr1.out.trans q2.drew.drew)
      have Hqs := Lib.hid qs.ok
      have Hqat := Lib.hid qat
      have Hqlg := Lib.hid qlg
      rcases hfs2 : f (s1.put i { s1.at_ i with n := q + 1 }) with ⟨s2, o2⟩
      have hfine2 := HF.out (s1.put i { s1.at_ i with n := q + 1 }) Hqs.out
      rw [hfs2] at hfine2
      have Hfine2 := Lib.hid hfine2
      have hcall2 := HN.out (s1.put i { s1.at_ i with n := q + 1 }) _ Hq3.out Hqs.out Hqlg.out
      rw [hfs2] at hcall2
      have Hcall2 := Lib.hid hcall2
      have Hfs2 := Lib.hid hfs2
      clear hfine2 hfs2 hcall2
      have Hk' := Lib.hid hk'
      clear q1 q2 q3 qk qs qlg qat hk'
      go_wp2_with fail
      go_region
      go_wp2_with fail
      go_region
      go_wp2_with fail
      refine Hcall2.out.mono ?_
      rintro e w2 ⟨rfl, sw2, fr2⟩
      have kn2 := fr2.bk Hqk.out (by decide) (by omega) (by omega)
      obtain ⟨x20, x21, x22, x23, x24⟩ : (w2.cell? ⟨w.heap.size, 0, none⟩ = some (.int .i64 4)) ∧ (w2.cell? ⟨w.heap.size, 1, none⟩ = some (.int .i64 (j : Int))) ∧ (w2.cell? ⟨w.heap.size, 2, none⟩ = some (.int .i64 xb)) ∧ (w2.cell? ⟨w.heap.size, 3, none⟩ = some (.int .i64 n)) ∧ (w2.cell? ⟨w.heap.size, 4, none⟩ = some (.int .i64 m)) := ⟨kn2.cell 0, kn2.cell 1, kn2.cell 2, kn2.cell 3, kn2.cell 4⟩
      obtain ⟨b02, b12, b22⟩ := sw2.bx
      have hl2 : i < s2.cs.length := by rw [Hfine2.out.ok.len]; exact hi
      have lt02 := kn2.lt
      have lt12 := sw2.rs.ltp
      have lt22 := sw2.rs.ltc
      have Hsw2 := Lib.hid sw2
      have Hfr2 := Lib.hid ((Hq2.out).trans fr2)
      have Hkn2 := Lib.hid kn2
      clear sw2 fr2 kn2
      have Hstep : Hid ((o2 = none → dropP i n f s = (s2, none)) ∧ ∀ v, o2 = some v → dropP i n f s = dropL i n f k' s2) := Lib.hid (by
        have e0 : dropP i n f s = dropL i n f (k' + 1) s1 := by rw [← Hso.out, Hk'.out]
        have e1 : (s1.at_ i).n < n := by rw [Hq.out]; exact hqn
        refine ⟨fun e => ?_, fun v e => ?_⟩
        · rw [e0]; simp only [dropL]; rw [if_pos e1, Hq.out, Hfs2.out, e]
        · rw [e0]; simp only [dropL]; rw [if_pos e1, Hq.out, Hfs2.out, e])
      cases o2 with
      | none =>
        have Hst := Lib.hid (Hstep.out.1 rfl)
        clear Hstep
        have ht : tup none = .tuple #[.int .i64 0, .bool false] := rfl
        go_wp2_with fail
        refine (ended_any (Hsw2.out) Hfine2.out.ok.len i hi).mono ?_
        rintro e wz ⟨rfl, swz, frz⟩
        have Hswz := Lib.hid swz
        have Hfrz := Lib.hid ((Hfr2.out).trans frz)
        clear swz frz
        go_wp2_with fail
        refine bodyPost_ret (v := .tuple #[.int .i64 0, .bool false]) (by simp [results, Try.results66, go_sem]) rfl ?_
        have hm : doneP i (stemP (fun s => s.M l src + 1) i ⟨4, (j : Int), xb, n, m⟩ f) s = (s2.put i { s2.at_ i with d := true }, none) := doneP_none Hd.out (by simp [stemP, Hst.out])
        rw [hm]
        exact ⟨rfl, Hswz.out, Hfrz.out⟩
      | some v =>
        have Hst := Lib.hid (Hstep.out.2 v rfl)
        clear Hstep
        have ht : tup (some v) = .tuple #[.int .i64 v, .bool true] := rfl
        go_wp2_with fail
        have e3 : (s2.at_ i).n = q + 1 := by
          have := Hfine2.out.at_ hj
          rw [Hqat.out] at this
          rw [this]
        have Hle2 : Hid (s2.lg.length + s2.W l src ≤ 65536) := Lib.hid (Nat.le_trans Hfine2.out.wle Hqlg.out)
        have E3 := Lib.hid e3
        clear e3
        go_roundw
        case rel => exact ⟨k', s2, Hsw2.out, Hfine2.out.ok, Hle2.out, by have h1 := Hkk.out; have h2 := Hk'.out; have h3 := E3.out; omega, Hst.out.symm, Hfr2.out, Hkn2.out⟩
        case measure =>
          have e1 := meas_eq (fun cs : List Cl => (n - (cs.getD i zeroCl).n).toNat) Hsw2.out.rs Hfine2.out.ok.len
          have e2 := meas_eq (fun cs : List Cl => (n - (cs.getD i zeroCl).n).toNat) Hh1.out.rs Hl1.out
          have e4 : (s2.cs.getD i zeroCl).n = q + 1 := E3.out
          have e5 : (s1.cs.getD i zeroCl).n = q := Hq.out
          simp only [e4, e5] at e1 e2
          omega
    · have hk0 : k = 0 := by have := Hkk.out; omega
      have Hk0 := Lib.hid hk0
      have Hstep : Hid (dropP i n f s = f s1) := Lib.hid (by rw [← Hso.out, Hk0.out]; rfl)
      have Hqk : Hid (Bk wr.drew w.heap.size 97 [.int .i64 4, .int .i64 (j : Int), .int .i64 xb, .int .i64 n, .int .i64 m]) := Lib.hid Hkn1.out
      clear hk0
      rcases hfs2 : f s1 with ⟨s2, o2⟩
      have hfine2 := HF.out s1 Hok1.out
      rw [hfs2] at hfine2
      have Hfine2 := Lib.hid hfine2
      have hcall2 := HN.out s1 _ Hh1.out.drew Hok1.out Hlg1.out
      rw [hfs2] at hcall2
      have Hcall2 := Lib.hid hcall2
      have Hfs2 := Lib.hid hfs2
      clear hfine2 hfs2 hcall2
      go_wp2_with fail
      go_region
      go_wp2_with fail
      refine Hcall2.out.mono ?_
      rintro e w2 ⟨rfl, sw2, fr2⟩
      have kn2 := fr2.bk Hqk.out (by decide) (by omega) (by omega)
      obtain ⟨x20, x21, x22, x23, x24⟩ : (w2.cell? ⟨w.heap.size, 0, none⟩ = some (.int .i64 4)) ∧ (w2.cell? ⟨w.heap.size, 1, none⟩ = some (.int .i64 (j : Int))) ∧ (w2.cell? ⟨w.heap.size, 2, none⟩ = some (.int .i64 xb)) ∧ (w2.cell? ⟨w.heap.size, 3, none⟩ = some (.int .i64 n)) ∧ (w2.cell? ⟨w.heap.size, 4, none⟩ = some (.int .i64 m)) := ⟨kn2.cell 0, kn2.cell 1, kn2.cell 2, kn2.cell 3, kn2.cell 4⟩
      obtain ⟨b02, b12, b22⟩ := sw2.bx
      have hl2 : i < s2.cs.length := by rw [Hfine2.out.ok.len]; exact hi
      have lt02 := kn2.lt
      have lt12 := sw2.rs.ltp
      have lt22 := sw2.rs.ltc
      have Hsw2 := Lib.hid sw2
      have Hfr2 := Lib.hid ((Hfr1.out.drew).trans fr2)
      have Hkn2 := Lib.hid kn2
      clear sw2 fr2 kn2
      cases o2 with
      | none =>
        have ht : tup none = .tuple #[.int .i64 0, .bool false] := rfl
        go_wp2_with fail
        refine (ended_any (Hsw2.out) Hfine2.out.ok.len i hi).mono ?_
        rintro e wz ⟨rfl, swz, frz⟩
        have Hswz := Lib.hid swz
        have Hfrz := Lib.hid ((Hfr2.out).trans frz)
        clear swz frz
        go_wp2_with fail
        refine bodyPost_ret (v := .tuple #[.int .i64 0, .bool false]) (by simp [results, Try.results66, go_sem]) rfl ?_
        have hm : doneP i (stemP (fun s => s.M l src + 1) i ⟨4, (j : Int), xb, n, m⟩ f) s = (s2.put i { s2.at_ i with d := true }, none) := doneP_none Hd.out (by simp [stemP, Hstep.out, Hfs2.out])
        rw [hm]
        exact ⟨rfl, Hswz.out, Hfrz.out⟩
      | some v =>
        have ht : tup (some v) = .tuple #[.int .i64 v, .bool true] := rfl
        go_wp2_with fail
        refine bodyPost_ret (v := .tuple #[.int .i64 v, .bool true]) (by simp [results, Try.results66, go_sem]) rfl ?_
        have hm : doneP i (stemP (fun s => s.M l src + 1) i ⟨4, (j : Int), xb, n, m⟩ f) s = (s2, some v) := doneP_some Hd.out (by simp [stemP, Hstep.out, Hfs2.out])
        rw [hm]
        exact ⟨rfl, Hsw2.out, Hfr2.out⟩

set_option maxRecDepth 100000 in
set_option maxHeartbeats 6400000 in
theorem next_batch {n0 pb cb : Nat} {A : Option Addr} {c : Nat} {l : List Nd} {As : Option Addr} {ca : Nat} {src : List (List Int)} {cc : Nat} (hs : srcOk src = true) {i j : Nat} {xb n m : Int} (hx : l[i]? = some ⟨12, (j : Int), xb, n, m⟩) (hj : j < i) {f : PF} (hF : Fine l src j f) (hN : NextOk n0 pb cb A c l As ca src cc f j)
    (s : PS) (w : World) (h : SW n0 pb cb A c l As ca src cc s w) (ok : StOk l src s.cs) (hlg : s.lg.length + s.W l src ≤ 65536) (hd : (s.at_ i).d = false) (Hnums : Hid (1 ≤ n ∧ n ≤ 30)) :
    Calls Try.prog 66 #[.pointer (some ⟨pb, 0, none⟩), .int .i64 i] w fun e w' => NPost n0 pb cb A c l As ca src cc w (doneP i (stemP (fun s => s.M l src + 1) i ⟨12, (j : Int), xb, n, m⟩ f) s) e w' := by
  have _u1 := hj
  clear _u1
  have hi : i < l.length := (List.getElem?_eq_some_iff.1 hx).1
  have hil : i < s.cs.length := by rw [ok.len]; exact hi
  obtain ⟨b0, b1, b2⟩ := h.bx
  obtain ⟨nb, no, rfl, hnb, y0, y1, y2, y3, y4⟩ := h.nodes.at2 hx
  simp only at y0 y1 y2 y3 y4
  obtain ⟨W1, hW1⟩ : ∃ W1 : World, W1 = w.alloc (.cells #[.int .i64 12, .int .i64 (j : Int), .int .i64 xb, .int .i64 n, .int .i64 m] 97) := ⟨_, rfl⟩
  have hb1 : Below w.heap.size w W1 := by rw [hW1]; exact (Below.refl _ _).alloc (Nat.le_refl _) _
  have kn1 : Bk W1 w.heap.size 97 [.int .i64 12, .int .i64 (j : Int), .int .i64 xb, .int .i64 n, .int .i64 m] := by rw [hW1]; exact Bk.new _ _ [_, _, _, _, _]
  have h1 := h.below hb1
  have hpw := h.rs.ltp
  have hcw := h.rs.ltc
  have H := Lib.hid h
  have H1 := Lib.hid h1
  have Hb1 := Lib.hid hb1
  have HW1 := Lib.hid hW1
  have Hkn := Lib.hid kn1
  have Hok := Lib.hid ok
  have Hd := Lib.hid hd
  have Hx := Lib.hid hx
  have HN := Lib.hid hN
  have HF := Lib.hid hF
  have Hs := Lib.hid hs
  clear h h1 hb1 hW1 kn1 ok hd hx hN hF hs
  go_enter Try.func66, Try.ntmps66
  go_wp2_with fail
  rw [← HW1.out]
  obtain ⟨x0, x1, x2, x3, x4⟩ : (W1.cell? ⟨w.heap.size, 0, none⟩ = some (.int .i64 12)) ∧ (W1.cell? ⟨w.heap.size, 1, none⟩ = some (.int .i64 (j : Int))) ∧ (W1.cell? ⟨w.heap.size, 2, none⟩ = some (.int .i64 xb)) ∧ (W1.cell? ⟨w.heap.size, 3, none⟩ = some (.int .i64 n)) ∧ (W1.cell? ⟨w.heap.size, 4, none⟩ = some (.int .i64 m)) := ⟨Hkn.out.cell 0, Hkn.out.cell 1, Hkn.out.cell 2, Hkn.out.cell 3, Hkn.out.cell 4⟩
  go_wp2_with fail
  have hn30 := Hnums.out
  go_loopw [9, 10] (fun su ii wr => ∃ (q : Nat) (s1 : PS) (sm : Int), su = .int .i64 sm ∧ ii = .int .i64 q ∧ (0 ≤ sm ∧ sm ≤ 99) ∧ q ≤ n.toNat ∧ SW n0 pb cb (some ⟨nb, no, none⟩) c l As ca src cc s1 wr ∧ StOk l src s1.cs ∧ s1.lg.length + s1.W l src ≤ 65536 ∧ batchL f (n.toNat - q) sm (decide (0 < q)) s1 = batchP n f s ∧ Fr n0 pb cb w wr ∧ Bk wr w.heap.size 97 [.int .i64 12, .int .i64 (j : Int), .int .i64 xb, .int .i64 n, .int .i64 m])
    (fun _ ii _ => n.toNat - (intOf ii).toNat)
  case atStart => exact ⟨0, s, 0, rfl, rfl, ⟨by omega, by omega⟩, Nat.zero_le _, H1.out, Hok.out, hlg, rfl, .of_below Hb1.out, Hkn.out⟩
  case round =>
    obtain ⟨q, s1, sm, rfl, rfl, hsm, hqn, h1, hok1, hlg1, hso, hfr1, hkn1⟩ := hrel
    have hl1 : s1.cs.length = l.length := hok1.len
    have hil1 : i < s1.cs.length := by rw [hl1]; exact hi
    obtain ⟨b0', b1', b2'⟩ := h1.bx
    have hzr := hfr1.size
    have lt0 := hkn1.lt
    have lt1 := h1.rs.ltp
    have lt2 := h1.rs.ltc
    obtain ⟨xr0, xr1, xr2, xr3, xr4⟩ : (wr.cell? ⟨w.heap.size, 0, none⟩ = some (.int .i64 12)) ∧ (wr.cell? ⟨w.heap.size, 1, none⟩ = some (.int .i64 (j : Int))) ∧ (wr.cell? ⟨w.heap.size, 2, none⟩ = some (.int .i64 xb)) ∧ (wr.cell? ⟨w.heap.size, 3, none⟩ = some (.int .i64 n)) ∧ (wr.cell? ⟨w.heap.size, 4, none⟩ = some (.int .i64 m)) := ⟨hkn1.cell 0, hkn1.cell 1, hkn1.cell 2, hkn1.cell 3, hkn1.cell 4⟩
    have Hh1 := Lib.hid h1
    have Hok1 := Lib.hid hok1
    have Hso := Lib.hid hso
    have Hfr1 := Lib.hid hfr1
    have Hkn1 := Lib.hid hkn1
    have Hl1 := Lib.hid hl1
    have Hlg1 := Lib.hid hlg1
    clear h1 hok1 hso hfr1 hkn1 hl1 hlg1
    by_cases hlt : q < n.toNat
    · have hlt2 : (q : Int) < n := by omega
      rcases hfs2 : f s1 with ⟨s2, o2⟩
      have hfine2 := HF.out s1 Hok1.out
      rw [hfs2] at hfine2
      have Hfine2 := Lib.hid hfine2
      have hcall2 := HN.out s1 wr Hh1.out Hok1.out Hlg1.out
      rw [hfs2] at hcall2
      have Hcall2 := Lib.hid hcall2
      have Hfs2 := Lib.hid hfs2
      clear hfine2 hfs2 hcall2
      go_wp2_with fail
      refine Hcall2.out.mono ?_
      rintro e w2 ⟨rfl, sw2, fr2⟩
      have kn2 := fr2.bk Hkn1.out (by decide) (by omega) (by omega)
      obtain ⟨x20, x21, x22, x23, x24⟩ : (w2.cell? ⟨w.heap.size, 0, none⟩ = some (.int .i64 12)) ∧ (w2.cell? ⟨w.heap.size, 1, none⟩ = some (.int .i64 (j : Int))) ∧ (w2.cell? ⟨w.heap.size, 2, none⟩ = some (.int .i64 xb)) ∧ (w2.cell? ⟨w.heap.size, 3, none⟩ = some (.int .i64 n)) ∧ (w2.cell? ⟨w.heap.size, 4, none⟩ = some (.int .i64 m)) := ⟨kn2.cell 0, kn2.cell 1, kn2.cell 2, kn2.cell 3, kn2.cell 4⟩
      obtain ⟨b02, b12, b22⟩ := sw2.bx
      have hl2 : i < s2.cs.length := by rw [Hfine2.out.ok.len]; exact hi
      have lt02 := kn2.lt
      have lt12 := sw2.rs.ltp
      have lt22 := sw2.rs.ltc
      have Hsw2 := Lib.hid sw2
      have Hfr2 := Lib.hid ((Hfr1.out).trans fr2)
      have Hkn2 := Lib.hid kn2
      clear sw2 fr2 kn2
      have Hstep : Hid ((o2 = none → batchP n f s = (s2, if decide (0 < q) then some sm else none)) ∧ ∀ v, o2 = some v → batchP n f s = batchL f (n.toNat - (q + 1)) (rst (sm + v)) true s2) := Lib.hid (by
        have e0 : batchP n f s = batchL f ((n.toNat - (q + 1)) + 1) sm (decide (0 < q)) s1 := by rw [← Hso.out, show n.toNat - q = (n.toNat - (q + 1)) + 1 by omega]
        refine ⟨fun e => ?_, fun v e => ?_⟩
        · rw [e0]; simp only [batchL]; rw [Hfs2.out, e]
        · rw [e0]; simp only [batchL]; rw [Hfs2.out, e])
      cases o2 with
      | none =>
        have Hst := Lib.hid (Hstep.out.1 rfl)
        clear Hstep
        have ht : tup none = .tuple #[.int .i64 0, .bool false] := rfl
        by_cases hq0 : q = 0
        · subst hq0
          have hz0 : ((0 : Nat) : Int) = 0 := rfl
          go_wp2_with fail
          refine (ended_any (Hsw2.out) Hfine2.out.ok.len i hi).mono ?_
          rintro e wz ⟨rfl, swz, frz⟩
          have Hswz := Lib.hid swz
          have Hfrz := Lib.hid ((Hfr2.out).trans frz)
          clear swz frz
          go_wp2_with fail
          refine bodyPost_ret (v := .tuple #[.int .i64 0, .bool false]) (by simp [results, Try.results66, go_sem]) rfl ?_
          have hm : doneP i (stemP (fun s => s.M l src + 1) i ⟨12, (j : Int), xb, n, m⟩ f) s = (s2.put i { s2.at_ i with d := true }, none) := doneP_none Hd.out (by simp [stemP, Hst.out])
          rw [hm]
          exact ⟨rfl, Hswz.out, Hfrz.out⟩
        · have hqb : ((q : Int) == 0) = false := by rw [beq_eq_false_iff_ne]; omega
          have hqp : 0 < q := by omega
          go_wp2_with fail
          refine bodyPost_ret (v := .tuple #[.int .i64 sm, .bool true]) (by simp [results, Try.results66, go_sem]) rfl ?_
          have hm : doneP i (stemP (fun s => s.M l src + 1) i ⟨12, (j : Int), xb, n, m⟩ f) s = (s2, some sm) := doneP_some Hd.out (by simp [stemP, Hst.out, hqp])
          rw [hm]
          exact ⟨rfl, Hsw2.out, Hfr2.out⟩
      | some v =>
        have Hst := Lib.hid (Hstep.out.2 v rfl)
        clear Hstep
        have hv := Hfine2.out.item v rfl
        have hw1 : IntKind.i64.wrap (sm + v) = sm + v := IntWalk.i64_in _ (by omega)
        have hr : (sm + v).tmod 100 = rst (sm + v) := rfl
        have hr2 := rst_in (x := sm + v) (by omega)
        have hw2 : IntKind.i64.wrap (rst (sm + v)) = rst (sm + v) := IntWalk.i64_in _ (by omega)
        have hw3 : IntKind.i64.wrap ((q : Int) + 1) = (q : Int) + 1 := IntWalk.i64_in _ (by omega)
        have ht : tup (some v) = .tuple #[.int .i64 v, .bool true] := rfl
        go_wp2_with fail
        have Hle2 : Hid (s2.lg.length + s2.W l src ≤ 65536) := Lib.hid (Nat.le_trans Hfine2.out.wle Hlg1.out)
        go_roundw
        case rel => exact ⟨q + 1, s2, rst (sm + v), rfl, by go_num, hr2, by omega, Hsw2.out, Hfine2.out.ok, Hle2.out, by rw [Hst.out]; simp, Hfr2.out, Hkn2.out⟩
        case measure => simp [intOf]; omega
    · have hqe : q = n.toNat := by omega
      have hge : ¬ (q : Int) < n := by omega
      have Hstep : Hid (batchP n f s = (s1, some sm)) := Lib.hid (by
        rw [← Hso.out, show n.toNat - q = 0 by omega]
        have : 0 < q := by omega
        simp [batchL, this])
      go_wp2_with fail
      refine bodyPost_ret (v := .tuple #[.int .i64 sm, .bool true]) (by simp [results, Try.results66, go_sem]) rfl ?_
      have hm : doneP i (stemP (fun s => s.M l src + 1) i ⟨12, (j : Int), xb, n, m⟩ f) s = (s1, some sm) := doneP_some Hd.out (by simp [stemP, Hstep.out])
      rw [hm]
      exact ⟨rfl, Hh1.out, Hfr1.out⟩

end Go.Proofs.Ythfniffecceldaa

/- Contracts: pulls by the reference: nodes with two below. -/
namespace Go.Proofs.Ythfniffecceldaa
open Go.RowKit

set_option maxRecDepth 100000 in
set_option maxHeartbeats 6400000 in
theorem next_chain {n0 pb cb : Nat} {A : Option Addr} {c : Nat} {l : List Nd} {As : Option Addr} {ca : Nat} {src : List (List Int)} {cc : Nat} (hs : srcOk src = true) {i j j2 : Nat} {n m : Int} (hx : l[i]? = some ⟨7, (j : Int), (j2 : Int), n, m⟩) (hj : j < i) (hj2 : j2 < i) {fa fb : PF} (hF : Fine l src j fa) (hN : NextOk n0 pb cb A c l As ca src cc fa j) (hF2 : Fine l src j2 fb) (hN2 : NextOk n0 pb cb A c l As ca src cc fb j2)
    (s : PS) (w : World) (h : SW n0 pb cb A c l As ca src cc s w) (ok : StOk l src s.cs) (hlg : s.lg.length + s.W l src ≤ 65536) (hd : (s.at_ i).d = false) :
    Calls Try.prog 67 #[.pointer (some ⟨pb, 0, none⟩), .int .i64 i] w fun e w' => NPost n0 pb cb A c l As ca src cc w (doneP i (forkP i ⟨7, (j : Int), (j2 : Int), n, m⟩ fa fb) s) e w' := by
  have _u1 := hj
  have _u2 := hj2
  clear _u1 _u2
  have hi : i < l.length := (List.getElem?_eq_some_iff.1 hx).1
  have hil : i < s.cs.length := by rw [ok.len]; exact hi
  obtain ⟨b0, b1, b2⟩ := h.bx
  obtain ⟨nb, no, rfl, hnb, y0, y1, y2, y3, y4⟩ := h.nodes.at2 hx
  simp only at y0 y1 y2 y3 y4
  obtain ⟨W1, hW1⟩ : ∃ W1 : World, W1 = w.alloc (.cells #[.int .i64 7, .int .i64 (j : Int), .int .i64 (j2 : Int), .int .i64 n, .int .i64 m] 97) := ⟨_, rfl⟩
  have hb1 : Below w.heap.size w W1 := by rw [hW1]; exact (Below.refl _ _).alloc (Nat.le_refl _) _
  have kn1 : Bk W1 w.heap.size 97 [.int .i64 7, .int .i64 (j : Int), .int .i64 (j2 : Int), .int .i64 n, .int .i64 m] := by rw [hW1]; exact Bk.new _ _ [_, _, _, _, _]
  have h1 := h.below hb1
  have hpw := h.rs.ltp
  have hcw := h.rs.ltc
  have H := Lib.hid h
  have H1 := Lib.hid h1
  have Hb1 := Lib.hid hb1
  have HW1 := Lib.hid hW1
  have Hkn := Lib.hid kn1
  have Hok := Lib.hid ok
  have Hd := Lib.hid hd
  have Hx := Lib.hid hx
  have HN := Lib.hid hN
  have HF := Lib.hid hF
  have HN2 := Lib.hid hN2
  have HF2 := Lib.hid hF2
  have Hs := Lib.hid hs
  clear h h1 hb1 hW1 kn1 ok hd hx hN hF hN2 hF2 hs
  obtain ⟨x0, x1, x2, x3, x4⟩ : (W1.cell? ⟨w.heap.size, 0, none⟩ = some (.int .i64 7)) ∧ (W1.cell? ⟨w.heap.size, 1, none⟩ = some (.int .i64 (j : Int))) ∧ (W1.cell? ⟨w.heap.size, 2, none⟩ = some (.int .i64 (j2 : Int))) ∧ (W1.cell? ⟨w.heap.size, 3, none⟩ = some (.int .i64 n)) ∧ (W1.cell? ⟨w.heap.size, 4, none⟩ = some (.int .i64 m)) := ⟨Hkn.out.cell 0, Hkn.out.cell 1, Hkn.out.cell 2, Hkn.out.cell 3, Hkn.out.cell 4⟩
  rcases hfsa : fa s with ⟨sa, oa⟩
  have hfinea := HF.out s Hok.out
  rw [hfsa] at hfinea
  have Hfinea := Lib.hid hfinea
  have hcalla := HN.out s W1 H1.out Hok.out hlg
  rw [hfsa] at hcalla
  have Hcalla := Lib.hid hcalla
  have Hfsa := Lib.hid hfsa
  clear hfinea hfsa hcalla
  go_enter Try.func67, Try.ntmps67
  go_wp2_with fail
  rw [← HW1.out]
  go_wp2_with fail
  refine Hcalla.out.mono ?_
  rintro e wa ⟨rfl, swa, fra⟩
  have kna := fra.bk Hkn.out (by decide) (by omega) (by omega)
  obtain ⟨xa0, xa1, xa2, xa3, xa4⟩ : (wa.cell? ⟨w.heap.size, 0, none⟩ = some (.int .i64 7)) ∧ (wa.cell? ⟨w.heap.size, 1, none⟩ = some (.int .i64 (j : Int))) ∧ (wa.cell? ⟨w.heap.size, 2, none⟩ = some (.int .i64 (j2 : Int))) ∧ (wa.cell? ⟨w.heap.size, 3, none⟩ = some (.int .i64 n)) ∧ (wa.cell? ⟨w.heap.size, 4, none⟩ = some (.int .i64 m)) := ⟨kna.cell 0, kna.cell 1, kna.cell 2, kna.cell 3, kna.cell 4⟩
  obtain ⟨b0a, b1a, b2a⟩ := swa.bx
  have hla : i < sa.cs.length := by rw [Hfinea.out.ok.len]; exact hi
  have lt0a := kna.lt
  have lt1a := swa.rs.ltp
  have lt2a := swa.rs.ltc
  have Hswa := Lib.hid swa
  have Hfra := Lib.hid (((Fr.of_below Hb1.out)).trans fra)
  have Hkna := Lib.hid kna
  clear swa fra kna
  cases oa with
  | some v =>
    have ht : tup (some v) = .tuple #[.int .i64 v, .bool true] := rfl
    go_wp2_with fail
    refine bodyPost_ret (v := .tuple #[.int .i64 v, .bool true]) (by simp [results, Try.results67, go_sem]) rfl ?_
    have hm : doneP i (forkP i ⟨7, (j : Int), (j2 : Int), n, m⟩ fa fb) s = (sa, some v) := doneP_some Hd.out (by simp [forkP, chainP, Hfsa.out])
    rw [hm]
    exact ⟨rfl, Hswa.out, Hfra.out⟩
  | none =>
    have ht : tup none = .tuple #[.int .i64 0, .bool false] := rfl
    rcases hfsb : fb sa with ⟨sb, ob⟩
    have hfineb := HF2.out sa Hfinea.out.ok
    rw [hfsb] at hfineb
    have Hfineb := Lib.hid hfineb
    have hcallb := HN2.out sa wa Hswa.out Hfinea.out.ok (Nat.le_trans Hfinea.out.wle hlg)
    rw [hfsb] at hcallb
    have Hcallb := Lib.hid hcallb
    have Hfsb := Lib.hid hfsb
    clear hfineb hfsb hcallb
    go_wp2_with fail
    refine Hcallb.out.mono ?_
    rintro e wb ⟨rfl, swb, frb⟩
    have knb := frb.bk Hkna.out (by decide) (by omega) (by omega)
    obtain ⟨xb0, xb1, xb2, xb3, xb4⟩ : (wb.cell? ⟨w.heap.size, 0, none⟩ = some (.int .i64 7)) ∧ (wb.cell? ⟨w.heap.size, 1, none⟩ = some (.int .i64 (j : Int))) ∧ (wb.cell? ⟨w.heap.size, 2, none⟩ = some (.int .i64 (j2 : Int))) ∧ (wb.cell? ⟨w.heap.size, 3, none⟩ = some (.int .i64 n)) ∧ (wb.cell? ⟨w.heap.size, 4, none⟩ = some (.int .i64 m)) := ⟨knb.cell 0, knb.cell 1, knb.cell 2, knb.cell 3, knb.cell 4⟩
    obtain ⟨b0b, b1b, b2b⟩ := swb.bx
    have hlb : i < sb.cs.length := by rw [Hfineb.out.ok.len]; exact hi
    have lt0b := knb.lt
    have lt1b := swb.rs.ltp
    have lt2b := swb.rs.ltc
    have Hswb := Lib.hid swb
    have Hfrb := Lib.hid ((Hfra.out).trans frb)
    have Hknb := Lib.hid knb
    clear swb frb knb
    cases ob with
    | some v =>
      have ht2 : tup (some v) = .tuple #[.int .i64 v, .bool true] := rfl
      go_wp2_with fail
      refine bodyPost_ret (v := .tuple #[.int .i64 v, .bool true]) (by simp [results, Try.results67, go_sem]) rfl ?_
      have hm : doneP i (forkP i ⟨7, (j : Int), (j2 : Int), n, m⟩ fa fb) s = (sb, some v) := doneP_some Hd.out (by simp [forkP, chainP, Hfsa.out, Hfsb.out])
      rw [hm]
      exact ⟨rfl, Hswb.out, Hfrb.out⟩
    | none =>
      go_wp2_with fail
      refine (ended_any (Hswb.out) Hfineb.out.ok.len i hi).mono ?_
      rintro e wz ⟨rfl, swz, frz⟩
      have Hswz := Lib.hid swz
      have Hfrz := Lib.hid ((Hfrb.out).trans frz)
      clear swz frz
      go_wp2_with fail
      refine bodyPost_ret (v := .tuple #[.int .i64 0, .bool false]) (by simp [results, Try.results67, go_sem]) rfl ?_
      have hm : doneP i (forkP i ⟨7, (j : Int), (j2 : Int), n, m⟩ fa fb) s = (sb.put i { sb.at_ i with d := true }, none) := doneP_none Hd.out (by simp [forkP, chainP, Hfsa.out, Hfsb.out])
      rw [hm]
      exact ⟨rfl, Hswz.out, Hfrz.out⟩

set_option maxRecDepth 100000 in
set_option maxHeartbeats 6400000 in
theorem next_zip {n0 pb cb : Nat} {A : Option Addr} {c : Nat} {l : List Nd} {As : Option Addr} {ca : Nat} {src : List (List Int)} {cc : Nat} (hs : srcOk src = true) {i j j2 : Nat} {n m : Int} (hx : l[i]? = some ⟨8, (j : Int), (j2 : Int), n, m⟩) (hj : j < i) (hj2 : j2 < i) {fa fb : PF} (hF : Fine l src j fa) (hN : NextOk n0 pb cb A c l As ca src cc fa j) (hF2 : Fine l src j2 fb) (hN2 : NextOk n0 pb cb A c l As ca src cc fb j2)
    (s : PS) (w : World) (h : SW n0 pb cb A c l As ca src cc s w) (ok : StOk l src s.cs) (hlg : s.lg.length + s.W l src ≤ 65536) (hd : (s.at_ i).d = false) :
    Calls Try.prog 67 #[.pointer (some ⟨pb, 0, none⟩), .int .i64 i] w fun e w' => NPost n0 pb cb A c l As ca src cc w (doneP i (forkP i ⟨8, (j : Int), (j2 : Int), n, m⟩ fa fb) s) e w' := by
  have _u1 := hj
  have _u2 := hj2
  clear _u1 _u2
  have hi : i < l.length := (List.getElem?_eq_some_iff.1 hx).1
  have hil : i < s.cs.length := by rw [ok.len]; exact hi
  obtain ⟨b0, b1, b2⟩ := h.bx
  obtain ⟨nb, no, rfl, hnb, y0, y1, y2, y3, y4⟩ := h.nodes.at2 hx
  simp only at y0 y1 y2 y3 y4
  obtain ⟨W1, hW1⟩ : ∃ W1 : World, W1 = w.alloc (.cells #[.int .i64 8, .int .i64 (j : Int), .int .i64 (j2 : Int), .int .i64 n, .int .i64 m] 97) := ⟨_, rfl⟩
  have hb1 : Below w.heap.size w W1 := by rw [hW1]; exact (Below.refl _ _).alloc (Nat.le_refl _) _
  have kn1 : Bk W1 w.heap.size 97 [.int .i64 8, .int .i64 (j : Int), .int .i64 (j2 : Int), .int .i64 n, .int .i64 m] := by rw [hW1]; exact Bk.new _ _ [_, _, _, _, _]
  have h1 := h.below hb1
  have hpw := h.rs.ltp
  have hcw := h.rs.ltc
  have H := Lib.hid h
  have H1 := Lib.hid h1
  have Hb1 := Lib.hid hb1
  have HW1 := Lib.hid hW1
  have Hkn := Lib.hid kn1
  have Hok := Lib.hid ok
  have Hd := Lib.hid hd
  have Hx := Lib.hid hx
  have HN := Lib.hid hN
  have HF := Lib.hid hF
  have HN2 := Lib.hid hN2
  have HF2 := Lib.hid hF2
  have Hs := Lib.hid hs
  clear h h1 hb1 hW1 kn1 ok hd hx hN hF hN2 hF2 hs
  obtain ⟨x0, x1, x2, x3, x4⟩ : (W1.cell? ⟨w.heap.size, 0, none⟩ = some (.int .i64 8)) ∧ (W1.cell? ⟨w.heap.size, 1, none⟩ = some (.int .i64 (j : Int))) ∧ (W1.cell? ⟨w.heap.size, 2, none⟩ = some (.int .i64 (j2 : Int))) ∧ (W1.cell? ⟨w.heap.size, 3, none⟩ = some (.int .i64 n)) ∧ (W1.cell? ⟨w.heap.size, 4, none⟩ = some (.int .i64 m)) := ⟨Hkn.out.cell 0, Hkn.out.cell 1, Hkn.out.cell 2, Hkn.out.cell 3, Hkn.out.cell 4⟩
  rcases hfsa : fa s with ⟨sa, oa⟩
  have hfinea := HF.out s Hok.out
  rw [hfsa] at hfinea
  have Hfinea := Lib.hid hfinea
  have hcalla := HN.out s W1 H1.out Hok.out hlg
  rw [hfsa] at hcalla
  have Hcalla := Lib.hid hcalla
  have Hfsa := Lib.hid hfsa
  clear hfinea hfsa hcalla
  go_enter Try.func67, Try.ntmps67
  go_wp2_with fail
  rw [← HW1.out]
  go_wp2_with fail
  refine Hcalla.out.mono ?_
  rintro e wa ⟨rfl, swa, fra⟩
  have kna := fra.bk Hkn.out (by decide) (by omega) (by omega)
  obtain ⟨xa0, xa1, xa2, xa3, xa4⟩ : (wa.cell? ⟨w.heap.size, 0, none⟩ = some (.int .i64 8)) ∧ (wa.cell? ⟨w.heap.size, 1, none⟩ = some (.int .i64 (j : Int))) ∧ (wa.cell? ⟨w.heap.size, 2, none⟩ = some (.int .i64 (j2 : Int))) ∧ (wa.cell? ⟨w.heap.size, 3, none⟩ = some (.int .i64 n)) ∧ (wa.cell? ⟨w.heap.size, 4, none⟩ = some (.int .i64 m)) := ⟨kna.cell 0, kna.cell 1, kna.cell 2, kna.cell 3, kna.cell 4⟩
  obtain ⟨b0a, b1a, b2a⟩ := swa.bx
  have hla : i < sa.cs.length := by rw [Hfinea.out.ok.len]; exact hi
  have lt0a := kna.lt
  have lt1a := swa.rs.ltp
  have lt2a := swa.rs.ltc
  have Hswa := Lib.hid swa
  have Hfra := Lib.hid (((Fr.of_below Hb1.out)).trans fra)
  have Hkna := Lib.hid kna
  clear swa fra kna
  cases oa with
  | none =>
    have ht : tup none = .tuple #[.int .i64 0, .bool false] := rfl
    go_wp2_with fail
    refine (ended_any (Hswa.out) Hfinea.out.ok.len i hi).mono ?_
    rintro e wz ⟨rfl, swz, frz⟩
    have Hswz := Lib.hid swz
    have Hfrz := Lib.hid ((Hfra.out).trans frz)
    clear swz frz
    go_wp2_with fail
    refine bodyPost_ret (v := .tuple #[.int .i64 0, .bool false]) (by simp [results, Try.results67, go_sem]) rfl ?_
    have hm : doneP i (forkP i ⟨8, (j : Int), (j2 : Int), n, m⟩ fa fb) s = (sa.put i { sa.at_ i with d := true }, none) := doneP_none Hd.out (by simp [forkP, zipP, Hfsa.out])
    rw [hm]
    exact ⟨rfl, Hswz.out, Hfrz.out⟩
  | some v =>
    have hv := Hfinea.out.item v rfl
    have ht : tup (some v) = .tuple #[.int .i64 v, .bool true] := rfl
    rcases hfsb : fb sa with ⟨sb, ob⟩
    have hfineb := HF2.out sa Hfinea.out.ok
    rw [hfsb] at hfineb
    have Hfineb := Lib.hid hfineb
    have hcallb := HN2.out sa wa Hswa.out Hfinea.out.ok (Nat.le_trans Hfinea.out.wle hlg)
    rw [hfsb] at hcallb
    have Hcallb := Lib.hid hcallb
    have Hfsb := Lib.hid hfsb
    clear hfineb hfsb hcallb
    go_wp2_with fail
    refine Hcallb.out.mono ?_
    rintro e wb ⟨rfl, swb, frb⟩
    have knb := frb.bk Hkna.out (by decide) (by omega) (by omega)
    obtain ⟨xb0, xb1, xb2, xb3, xb4⟩ : (wb.cell? ⟨w.heap.size, 0, none⟩ = some (.int .i64 8)) ∧ (wb.cell? ⟨w.heap.size, 1, none⟩ = some (.int .i64 (j : Int))) ∧ (wb.cell? ⟨w.heap.size, 2, none⟩ = some (.int .i64 (j2 : Int))) ∧ (wb.cell? ⟨w.heap.size, 3, none⟩ = some (.int .i64 n)) ∧ (wb.cell? ⟨w.heap.size, 4, none⟩ = some (.int .i64 m)) := ⟨knb.cell 0, knb.cell 1, knb.cell 2, knb.cell 3, knb.cell 4⟩
    obtain ⟨b0b, b1b, b2b⟩ := swb.bx
    have hlb : i < sb.cs.length := by rw [Hfineb.out.ok.len]; exact hi
    have lt0b := knb.lt
    have lt1b := swb.rs.ltp
    have lt2b := swb.rs.ltc
    have Hswb := Lib.hid swb
    have Hfrb := Lib.hid ((Hfra.out).trans frb)
    have Hknb := Lib.hid knb
    clear swb frb knb
    cases ob with
    | some y =>
      have hy := Hfineb.out.item y rfl
      have hw1 : IntKind.i64.wrap (v + y) = v + y := IntWalk.i64_in _ (by omega)
      have hr : (v + y).tmod 100 = rst (v + y) := rfl
      have hr2 := rst_in (x := v + y) (by omega)
      have hw2 : IntKind.i64.wrap (rst (v + y)) = rst (v + y) := IntWalk.i64_in _ (by omega)
      have ht2 : tup (some y) = .tuple #[.int .i64 y, .bool true] := rfl
      go_wp2_with fail
      refine bodyPost_ret (v := .tuple #[.int .i64 (rst (v + y)), .bool true]) (by simp [results, Try.results67, go_sem]) rfl ?_
      have hm : doneP i (forkP i ⟨8, (j : Int), (j2 : Int), n, m⟩ fa fb) s = (sb, some (rst (v + y))) := doneP_some Hd.out (by simp [forkP, zipP, Hfsa.out, Hfsb.out])
      rw [hm]
      exact ⟨rfl, Hswb.out, Hfrb.out⟩
    | none =>
      have ht2 : tup none = .tuple #[.int .i64 0, .bool false] := rfl
      go_wp2_with fail
      refine (ended_any (Hswb.out) Hfineb.out.ok.len i hi).mono ?_
      rintro e wz ⟨rfl, swz, frz⟩
      have Hswz := Lib.hid swz
      have Hfrz := Lib.hid ((Hfrb.out).trans frz)
      clear swz frz
      go_wp2_with fail
      refine bodyPost_ret (v := .tuple #[.int .i64 0, .bool false]) (by simp [results, Try.results67, go_sem]) rfl ?_
      have hm : doneP i (forkP i ⟨8, (j : Int), (j2 : Int), n, m⟩ fa fb) s = (sb.put i { sb.at_ i with d := true }, none) := doneP_none Hd.out (by simp [forkP, zipP, Hfsa.out, Hfsb.out])
      rw [hm]
      exact ⟨rfl, Hswz.out, Hfrz.out⟩

set_option maxRecDepth 100000 in
set_option maxHeartbeats 6400000 in
theorem next_turn {n0 pb cb : Nat} {A : Option Addr} {c : Nat} {l : List Nd} {As : Option Addr} {ca : Nat} {src : List (List Int)} {cc : Nat} (hs : srcOk src = true) {i j j2 : Nat} {n m : Int} (hx : l[i]? = some ⟨10, (j : Int), (j2 : Int), n, m⟩) (hj : j < i) (hj2 : j2 < i) {fa fb : PF} (hF : Fine l src j fa) (hN : NextOk n0 pb cb A c l As ca src cc fa j) (hF2 : Fine l src j2 fb) (hN2 : NextOk n0 pb cb A c l As ca src cc fb j2)
    (s : PS) (w : World) (h : SW n0 pb cb A c l As ca src cc s w) (ok : StOk l src s.cs) (hlg : s.lg.length + s.W l src ≤ 65536) (hd : (s.at_ i).d = false) :
    Calls Try.prog 67 #[.pointer (some ⟨pb, 0, none⟩), .int .i64 i] w fun e w' => NPost n0 pb cb A c l As ca src cc w (doneP i (forkP i ⟨10, (j : Int), (j2 : Int), n, m⟩ fa fb) s) e w' := by
  have _u1 := hj
  have _u2 := hj2
  clear _u1 _u2
  have hi : i < l.length := (List.getElem?_eq_some_iff.1 hx).1
  have hil : i < s.cs.length := by rw [ok.len]; exact hi
  obtain ⟨b0, b1, b2⟩ := h.bx
  obtain ⟨nb, no, rfl, hnb, y0, y1, y2, y3, y4⟩ := h.nodes.at2 hx
  simp only at y0 y1 y2 y3 y4
  obtain ⟨W1, hW1⟩ : ∃ W1 : World, W1 = w.alloc (.cells #[.int .i64 10, .int .i64 (j : Int), .int .i64 (j2 : Int), .int .i64 n, .int .i64 m] 97) := ⟨_, rfl⟩
  have hb1 : Below w.heap.size w W1 := by rw [hW1]; exact (Below.refl _ _).alloc (Nat.le_refl _) _
  have kn1 : Bk W1 w.heap.size 97 [.int .i64 10, .int .i64 (j : Int), .int .i64 (j2 : Int), .int .i64 n, .int .i64 m] := by rw [hW1]; exact Bk.new _ _ [_, _, _, _, _]
  have h1 := h.below hb1
  have hpw := h.rs.ltp
  have hcw := h.rs.ltc
  have H := Lib.hid h
  have H1 := Lib.hid h1
  have Hb1 := Lib.hid hb1
  have HW1 := Lib.hid hW1
  have Hkn := Lib.hid kn1
  have Hok := Lib.hid ok
  have Hd := Lib.hid hd
  have Hx := Lib.hid hx
  have HN := Lib.hid hN
  have HF := Lib.hid hF
  have HN2 := Lib.hid hN2
  have HF2 := Lib.hid hF2
  have Hs := Lib.hid hs
  clear h h1 hb1 hW1 kn1 ok hd hx hN hF hN2 hF2 hs
  obtain ⟨x0, x1, x2, x3, x4⟩ : (W1.cell? ⟨w.heap.size, 0, none⟩ = some (.int .i64 10)) ∧ (W1.cell? ⟨w.heap.size, 1, none⟩ = some (.int .i64 (j : Int))) ∧ (W1.cell? ⟨w.heap.size, 2, none⟩ = some (.int .i64 (j2 : Int))) ∧ (W1.cell? ⟨w.heap.size, 3, none⟩ = some (.int .i64 n)) ∧ (W1.cell? ⟨w.heap.size, 4, none⟩ = some (.int .i64 m)) := ⟨Hkn.out.cell 0, Hkn.out.cell 1, Hkn.out.cell 2, Hkn.out.cell 3, Hkn.out.cell 4⟩
  obtain ⟨q, hq⟩ : ∃ q, (s.at_ i).n = q := ⟨_, rfl⟩
  have hat := StOk.at_ Hok.out Hx.out
  have hmo : mostOf ⟨10, (j : Int), (j2 : Int), n, m⟩ src = 1 := by simp [mostOf]
  rw [hmo, hq] at hat
  have hq0 := hat.1
  obtain ⟨c0, c1, c2, c3, c4, c5⟩ := H1.out.rs.cl (i := i) hil
  obtain ⟨b0', b1', b2'⟩ := H1.out.bx
  have g0 := H1.out.rs.free (i * 6)
  rw [hq] at c0
  have cw := (H.out.rs.cl (i := i) hil).c0
  rw [hq] at cw
  have Hat := Lib.hid hat
  rcases (show q = 0 ∨ q = 1 by omega) with h0 | h0
  · subst h0
    have Hq := Lib.hid hq
    clear hq hat hmo
    have q1 := H1.out.rs.setN (i := i) hil 1
    have q2 := (Fr.refl n0 pb cb W1).setc (i * 6) (.int .i64 1)
    have q3 := (H1.out.next q1 q2).drew
    have qk : Bk ((W1.setCell ⟨cb, i * 6, none⟩ (.int .i64 1)).drew) w.heap.size 97 [.int .i64 10, .int .i64 (j : Int), .int .i64 (j2 : Int), .int .i64 n, .int .i64 m] := Hkn.out.far (by simp; omega) _
    have qs := FineAt.start (c := { s.at_ i with n := 1 }) Hok.out Hx.out ⟨by simp, by simp⟩ ⟨⟨by simp, by simp [mostOf]⟩, Hat.out.2⟩
    have qlg : (s.put i { s.at_ i with n := 1 }).lg.length + (s.put i { s.at_ i with n := 1 }).W l src ≤ 65536 := Nat.le_trans qs.wle hlg
    have Hq3 := Lib.hid q3
    have Hqk := Lib.hid qk
    have Hq2 := Lib.hid ((Fr.of_below Hb1.out).trans q2.drew)
    have Hqs := Lib.hid qs.ok
    have Hqlg := Lib.hid qlg
    rcases hfsa : fa (s.put i { s.at_ i with n := 1 }) with ⟨sa, oa⟩
    have hfinea := HF.out (s.put i { s.at_ i with n := 1 }) Hqs.out
    rw [hfsa] at hfinea
    have Hfinea := Lib.hid hfinea
    have hcalla := HN.out (s.put i { s.at_ i with n := 1 }) _ Hq3.out Hqs.out Hqlg.out
    rw [hfsa] at hcalla
    have Hcalla := Lib.hid hcalla
    have Hfsa := Lib.hid hfsa
    clear hfinea hfsa hcalla
    clear q1 q2 q3 qk qs qlg
    go_enter Try.func67, Try.ntmps67
    go_wp2_with fail
    rw [← HW1.out]
    go_wp2_with fail
    go_region
    go_wp2_with fail
    refine Hcalla.out.mono ?_
    rintro e wa ⟨rfl, swa, fra⟩
    have kna := fra.bk Hqk.out (by decide) (by omega) (by omega)
    obtain ⟨xa0, xa1, xa2, xa3, xa4⟩ : (wa.cell? ⟨w.heap.size, 0, none⟩ = some (.int .i64 10)) ∧ (wa.cell? ⟨w.heap.size, 1, none⟩ = some (.int .i64 (j : Int))) ∧ (wa.cell? ⟨w.heap.size, 2, none⟩ = some (.int .i64 (j2 : Int))) ∧ (wa.cell? ⟨w.heap.size, 3, none⟩ = some (.int .i64 n)) ∧ (wa.cell? ⟨w.heap.size, 4, none⟩ = some (.int .i64 m)) := ⟨kna.cell 0, kna.cell 1, kna.cell 2, kna.cell 3, kna.cell 4⟩
    obtain ⟨b0a, b1a, b2a⟩ := swa.bx
    have hla : i < sa.cs.length := by rw [Hfinea.out.ok.len]; exact hi
    have lt0a := kna.lt
    have lt1a := swa.rs.ltp
    have lt2a := swa.rs.ltc
    have Hswa := Lib.hid swa
    have Hfra := Lib.hid ((Hq2.out).trans fra)
    have Hkna := Lib.hid kna
    clear swa fra kna
    cases oa with
    | some v =>
      have ht : tup (some v) = .tuple #[.int .i64 v, .bool true] := rfl
      go_wp2_with fail
      refine bodyPost_ret (v := .tuple #[.int .i64 v, .bool true]) (by simp [results, Try.results67, go_sem]) rfl ?_
      have hm : doneP i (forkP i ⟨10, (j : Int), (j2 : Int), n, m⟩ fa fb) s = (sa, some v) := doneP_some Hd.out (by simp [forkP, turnP, chainP, Hq.out, Hfsa.out])
      rw [hm]
      exact ⟨rfl, Hswa.out, Hfra.out⟩
    | none =>
      have ht : tup none = .tuple #[.int .i64 0, .bool false] := rfl
      rcases hfsb : fb sa with ⟨sb, ob⟩
      have hfineb := HF2.out sa Hfinea.out.ok
      rw [hfsb] at hfineb
      have Hfineb := Lib.hid hfineb
      have hcallb := HN2.out sa wa Hswa.out Hfinea.out.ok (Nat.le_trans Hfinea.out.wle Hqlg.out)
      rw [hfsb] at hcallb
      have Hcallb := Lib.hid hcallb
      have Hfsb := Lib.hid hfsb
      clear hfineb hfsb hcallb
      go_wp2_with fail
      refine Hcallb.out.mono ?_
      rintro e wb ⟨rfl, swb, frb⟩
      have knb := frb.bk Hkna.out (by decide) (by omega) (by omega)
      obtain ⟨xb0, xb1, xb2, xb3, xb4⟩ : (wb.cell? ⟨w.heap.size, 0, none⟩ = some (.int .i64 10)) ∧ (wb.cell? ⟨w.heap.size, 1, none⟩ = some (.int .i64 (j : Int))) ∧ (wb.cell? ⟨w.heap.size, 2, none⟩ = some (.int .i64 (j2 : Int))) ∧ (wb.cell? ⟨w.heap.size, 3, none⟩ = some (.int .i64 n)) ∧ (wb.cell? ⟨w.heap.size, 4, none⟩ = some (.int .i64 m)) := ⟨knb.cell 0, knb.cell 1, knb.cell 2, knb.cell 3, knb.cell 4⟩
      obtain ⟨b0b, b1b, b2b⟩ := swb.bx
      have hlb : i < sb.cs.length := by rw [Hfineb.out.ok.len]; exact hi
      have lt0b := knb.lt
      have lt1b := swb.rs.ltp
      have lt2b := swb.rs.ltc
      have Hswb := Lib.hid swb
      have Hfrb := Lib.hid ((Hfra.out).trans frb)
      have Hknb := Lib.hid knb
      clear swb frb knb
      cases ob with
      | some v =>
        have ht2 : tup (some v) = .tuple #[.int .i64 v, .bool true] := rfl
        go_wp2_with fail
        refine bodyPost_ret (v := .tuple #[.int .i64 v, .bool true]) (by simp [results, Try.results67, go_sem]) rfl ?_
        have hm : doneP i (forkP i ⟨10, (j : Int), (j2 : Int), n, m⟩ fa fb) s = (sb, some v) := doneP_some Hd.out (by simp [forkP, turnP, chainP, Hq.out, Hfsa.out, Hfsb.out])
        rw [hm]
        exact ⟨rfl, Hswb.out, Hfrb.out⟩
      | none =>
        go_wp2_with fail
        refine (ended_any (Hswb.out) Hfineb.out.ok.len i hi).mono ?_
        rintro e wz ⟨rfl, swz, frz⟩
        have Hswz := Lib.hid swz
        have Hfrz := Lib.hid ((Hfrb.out).trans frz)
        clear swz frz
        go_wp2_with fail
        refine bodyPost_ret (v := .tuple #[.int .i64 0, .bool false]) (by simp [results, Try.results67, go_sem]) rfl ?_
        have hm : doneP i (forkP i ⟨10, (j : Int), (j2 : Int), n, m⟩ fa fb) s = (sb.put i { sb.at_ i with d := true }, none) := doneP_none Hd.out (by simp [forkP, turnP, chainP, Hq.out, Hfsa.out, Hfsb.out])
        rw [hm]
        exact ⟨rfl, Hswz.out, Hfrz.out⟩
  · subst h0
    have Hq := Lib.hid hq
    clear hq hat hmo
    have q1 := H1.out.rs.setN (i := i) hil 0
    have q2 := (Fr.refl n0 pb cb W1).setc (i * 6) (.int .i64 0)
    have q3 := (H1.out.next q1 q2).drew
    have qk : Bk ((W1.setCell ⟨cb, i * 6, none⟩ (.int .i64 0)).drew) w.heap.size 97 [.int .i64 10, .int .i64 (j : Int), .int .i64 (j2 : Int), .int .i64 n, .int .i64 m] := Hkn.out.far (by simp; omega) _
    have qs := FineAt.start (c := { s.at_ i with n := 0 }) Hok.out Hx.out ⟨by simp, by simp⟩ ⟨⟨by simp, by simp [mostOf]⟩, Hat.out.2⟩
    have qlg : (s.put i { s.at_ i with n := 0 }).lg.length + (s.put i { s.at_ i with n := 0 }).W l src ≤ 65536 := Nat.le_trans qs.wle hlg
    have Hq3 := Lib.hid q3
    have Hqk := Lib.hid qk
    have Hq2 := Lib.hid ((Fr.of_below Hb1.out).trans q2.drew)
    have Hqs := Lib.hid qs.ok
    have Hqlg := Lib.hid qlg
    rcases hfsa : fb (s.put i { s.at_ i with n := 0 }) with ⟨sa, oa⟩
    have hfinea := HF2.out (s.put i { s.at_ i with n := 0 }) Hqs.out
    rw [hfsa] at hfinea
    have Hfinea := Lib.hid hfinea
    have hcalla := HN2.out (s.put i { s.at_ i with n := 0 }) _ Hq3.out Hqs.out Hqlg.out
    rw [hfsa] at hcalla
    have Hcalla := Lib.hid hcalla
    have Hfsa := Lib.hid hfsa
    clear hfinea hfsa hcalla
    clear q1 q2 q3 qk qs qlg
    go_enter Try.func67, Try.ntmps67
    go_wp2_with fail
    rw [← HW1.out]
    go_wp2_with fail
    go_region
    go_wp2_with fail
    refine Hcalla.out.mono ?_
    rintro e wa ⟨rfl, swa, fra⟩
    have kna := fra.bk Hqk.out (by decide) (by omega) (by omega)
    obtain ⟨xa0, xa1, xa2, xa3, xa4⟩ : (wa.cell? ⟨w.heap.size, 0, none⟩ = some (.int .i64 10)) ∧ (wa.cell? ⟨w.heap.size, 1, none⟩ = some (.int .i64 (j : Int))) ∧ (wa.cell? ⟨w.heap.size, 2, none⟩ = some (.int .i64 (j2 : Int))) ∧ (wa.cell? ⟨w.heap.size, 3, none⟩ = some (.int .i64 n)) ∧ (wa.cell? ⟨w.heap.size, 4, none⟩ = some (.int .i64 m)) := ⟨kna.cell 0, kna.cell 1, kna.cell 2, kna.cell 3, kna.cell 4⟩
    obtain ⟨b0a, b1a, b2a⟩ := swa.bx
    have hla : i < sa.cs.length := by rw [Hfinea.out.ok.len]; exact hi
    have lt0a := kna.lt
    have lt1a := swa.rs.ltp
    have lt2a := swa.rs.ltc
    have Hswa := Lib.hid swa
    have Hfra := Lib.hid ((Hq2.out).trans fra)
    have Hkna := Lib.hid kna
    clear swa fra kna
    cases oa with
    | some v =>
      have ht : tup (some v) = .tuple #[.int .i64 v, .bool true] := rfl
      go_wp2_with fail
      refine bodyPost_ret (v := .tuple #[.int .i64 v, .bool true]) (by simp [results, Try.results67, go_sem]) rfl ?_
      have hm : doneP i (forkP i ⟨10, (j : Int), (j2 : Int), n, m⟩ fa fb) s = (sa, some v) := doneP_some Hd.out (by simp [forkP, turnP, chainP, Hq.out, Hfsa.out])
      rw [hm]
      exact ⟨rfl, Hswa.out, Hfra.out⟩
    | none =>
      have ht : tup none = .tuple #[.int .i64 0, .bool false] := rfl
      rcases hfsb : fa sa with ⟨sb, ob⟩
      have hfineb := HF.out sa Hfinea.out.ok
      rw [hfsb] at hfineb
      have Hfineb := Lib.hid hfineb
      have hcallb := HN.out sa wa Hswa.out Hfinea.out.ok (Nat.le_trans Hfinea.out.wle Hqlg.out)
      rw [hfsb] at hcallb
      have Hcallb := Lib.hid hcallb
      have Hfsb := Lib.hid hfsb
      clear hfineb hfsb hcallb
      go_wp2_with fail
      refine Hcallb.out.mono ?_
      rintro e wb ⟨rfl, swb, frb⟩
      have knb := frb.bk Hkna.out (by decide) (by omega) (by omega)
      obtain ⟨xb0, xb1, xb2, xb3, xb4⟩ : (wb.cell? ⟨w.heap.size, 0, none⟩ = some (.int .i64 10)) ∧ (wb.cell? ⟨w.heap.size, 1, none⟩ = some (.int .i64 (j : Int))) ∧ (wb.cell? ⟨w.heap.size, 2, none⟩ = some (.int .i64 (j2 : Int))) ∧ (wb.cell? ⟨w.heap.size, 3, none⟩ = some (.int .i64 n)) ∧ (wb.cell? ⟨w.heap.size, 4, none⟩ = some (.int .i64 m)) := ⟨knb.cell 0, knb.cell 1, knb.cell 2, knb.cell 3, knb.cell 4⟩
      obtain ⟨b0b, b1b, b2b⟩ := swb.bx
      have hlb : i < sb.cs.length := by rw [Hfineb.out.ok.len]; exact hi
      have lt0b := knb.lt
      have lt1b := swb.rs.ltp
      have lt2b := swb.rs.ltc
      have Hswb := Lib.hid swb
      have Hfrb := Lib.hid ((Hfra.out).trans frb)
      have Hknb := Lib.hid knb
      clear swb frb knb
      cases ob with
      | some v =>
        have ht2 : tup (some v) = .tuple #[.int .i64 v, .bool true] := rfl
        go_wp2_with fail
        refine bodyPost_ret (v := .tuple #[.int .i64 v, .bool true]) (by simp [results, Try.results67, go_sem]) rfl ?_
        have hm : doneP i (forkP i ⟨10, (j : Int), (j2 : Int), n, m⟩ fa fb) s = (sb, some v) := doneP_some Hd.out (by simp [forkP, turnP, chainP, Hq.out, Hfsa.out, Hfsb.out])
        rw [hm]
        exact ⟨rfl, Hswb.out, Hfrb.out⟩
      | none =>
        go_wp2_with fail
        refine (ended_any (Hswb.out) Hfineb.out.ok.len i hi).mono ?_
        rintro e wz ⟨rfl, swz, frz⟩
        have Hswz := Lib.hid swz
        have Hfrz := Lib.hid ((Hfrb.out).trans frz)
        clear swz frz
        go_wp2_with fail
        refine bodyPost_ret (v := .tuple #[.int .i64 0, .bool false]) (by simp [results, Try.results67, go_sem]) rfl ?_
        have hm : doneP i (forkP i ⟨10, (j : Int), (j2 : Int), n, m⟩ fa fb) s = (sb.put i { sb.at_ i with d := true }, none) := doneP_none Hd.out (by simp [forkP, turnP, chainP, Hq.out, Hfsa.out, Hfsb.out])
        rw [hm]
        exact ⟨rfl, Hswz.out, Hfrz.out⟩

end Go.Proofs.Ythfniffecceldaa
