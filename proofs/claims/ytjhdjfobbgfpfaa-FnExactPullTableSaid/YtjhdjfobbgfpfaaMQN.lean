/- Texts on the program and its reference, put together (PsE). -/
import Derived.Test.YtjhdjfobbgfpfaaMQM
import Derived.Test.YtjhdjfobbgfpfaaMQI
/- Contracts: pulls by the reference: nodes with two below. -/
namespace Go.Proofs.Ytjhdjfobbgfpfaa
open Go.RowKit

set_option maxRecDepth 100000 in
set_option maxHeartbeats 6400000 in
theorem next_chain {n0 pb cb : Nat} {A : Option Addr} {c : Nat} {l : List Nd} {As : Option Addr} {ca : Nat} {src : List (List Int)} {cc : Nat} (hs : srcOk src = true) {i j j2 : Nat} {n m : Int} (hx : l[i]? = some ⟨7, (j : Int), (j2 : Int), n, m⟩) (hj : j < i) (hj2 : j2 < i) {fa fb : PF} (hF : Fine l src j fa) (hN : NextOk n0 pb cb A c l As ca src cc fa j) (hF2 : Fine l src j2 fb) (hN2 : NextOk n0 pb cb A c l As ca src cc fb j2)
    (s : PS) (w : World) (h : SW n0 pb cb A c l As ca src cc s w) (ok : StOk l src s.cs) (hlg : s.lg.length + s.W l src ≤ 65536) (hd : (s.at_ i).d = false) :
    Calls Try.prog 97 #[.pointer (some ⟨pb, 0, none⟩), .int .i64 i] w fun e w' => NPost n0 pb cb A c l As ca src cc w (doneP i (forkP i ⟨7, (j : Int), (j2 : Int), n, m⟩ fa fb) s) e w' := by
  have _u1 := hj
  have _u2 := hj2
  clear _u1 _u2
  have hi : i < l.length := (List.getElem?_eq_some_iff.1 hx).1
  have hil : i < s.cs.length := by rw [ok.len]; exact hi
  obtain ⟨b0, b1, b2⟩ := h.bx
  obtain ⟨nb, no, rfl, hnb, y0, y1, y2, y3, y4⟩ := h.nodes.at2 hx
  simp only at y0 y1 y2 y3 y4
  obtain ⟨W1, hW1⟩ : ∃ W1 : World, W1 = w.alloc (.cells #[.int .i64 7, .int .i64 (j : Int), .int .i64 (j2 : Int), .int .i64 n, .int .i64 m] 104) := ⟨_, rfl⟩
  have hb1 : Below w.heap.size w W1 := by rw [hW1]; exact (Below.refl _ _).alloc (Nat.le_refl _) _
  have kn1 : Bk W1 w.heap.size 104 [.int .i64 7, .int .i64 (j : Int), .int .i64 (j2 : Int), .int .i64 n, .int .i64 m] := by rw [hW1]; exact Bk.new _ _ [_, _, _, _, _]
  have h1 := h.below hb1
  have hpw := h.rs.ltp
  have hcw := h.rs.ltc
  have H := Lib.hid h
  have H1 := Lib.hid h1
  have Hb1 := Lib.hid hb1
  have HW1 := Lib.hid hW1
  have Hkn := Lib.hid kn1
  have Hok := Lib.hid ok
  have Hd := Lib.hid hd
  have Hx := Lib.hid hx
  have HN := Lib.hid hN
  have HF := Lib.hid hF
  have HN2 := Lib.hid hN2
  have HF2 := Lib.hid hF2
  have Hs := Lib.hid hs
  clear h h1 hb1 hW1 kn1 ok hd hx hN hF hN2 hF2 hs
  obtain ⟨x0, x1, x2, x3, x4⟩ : (W1.cell? ⟨w.heap.size, 0, none⟩ = some (.int .i64 7)) ∧ (W1.cell? ⟨w.heap.size, 1, none⟩ = some (.int .i64 (j : Int))) ∧ (W1.cell? ⟨w.heap.size, 2, none⟩ = some (.int .i64 (j2 : Int))) ∧ (W1.cell? ⟨w.heap.size, 3, none⟩ = some (.int .i64 n)) ∧ (W1.cell? ⟨w.heap.size, 4, none⟩ = some (.int .i64 m)) := ⟨Hkn.out.cell 0, Hkn.out.cell 1, Hkn.out.cell 2, Hkn.out.cell 3, Hkn.out.cell 4⟩
  rcases hfsa : fa s with ⟨sa, oa⟩
  have hfinea := HF.out s Hok.out
  rw [hfsa] at hfinea
  have Hfinea := Lib.hid hfinea
  have hcalla := HN.out s W1 H1.out Hok.out hlg
  rw [hfsa] at hcalla
  have Hcalla := Lib.hid hcalla
  have Hfsa := Lib.hid hfsa
  clear hfinea hfsa hcalla
  go_enter Try.func97, Try.ntmps97
  go_wp2_with fail
  rw [← HW1.out]
  go_wp2_with fail
  refine Hcalla.out.mono ?_
  rintro e wa ⟨rfl, swa, fra⟩
  have kna := fra.bk Hkn.out (by decide) (by omega) (by omega)
  obtain ⟨xa0, xa1, xa2, xa3, xa4⟩ : (wa.cell? ⟨w.heap.size, 0, none⟩ = some (.int .i64 7)) ∧ (wa.cell? ⟨w.heap.size, 1, none⟩ = some (.int .i64 (j : Int))) ∧ (wa.cell? ⟨w.heap.size, 2, none⟩ = some (.int .i64 (j2 : Int))) ∧ (wa.cell? ⟨w.heap.size, 3, none⟩ = some (.int .i64 n)) ∧ (wa.cell? ⟨w.heap.size, 4, none⟩ = some (.int .i64 m)) := ⟨kna.cell 0, kna.cell 1, kna.cell 2, kna.cell 3, kna.cell 4⟩
  obtain ⟨b0a, b1a, b2a⟩ := swa.bx
  have hla : i < sa.cs.length := by rw [Hfinea.out.ok.len]; exact hi
  have lt0a := kna.lt
  have lt1a := swa.rs.ltp
  have lt2a := swa.rs.ltc
  have Hswa := Lib.hid swa
  have Hfra := Lib.hid (((Fr.of_below Hb1.out)).trans fra)
  have Hkna := Lib.hid kna
  clear swa fra kna
  cases oa with
  | some v =>
    have ht : tup (some v) = .tuple #[.int .i64 v, .bool true] := rfl
    go_wp2_with fail
    refine bodyPost_ret (v := .tuple #[.int .i64 v, .bool true]) (by simp [results, Try.results97, go_sem]) rfl ?_
    have hm : doneP i (forkP i ⟨7, (j : Int), (j2 : Int), n, m⟩ fa fb) s = (sa, some v) := doneP_some Hd.out (by simp [forkP, chainP, Hfsa.out])
    rw [hm]
    exact ⟨rfl, Hswa.out, Hfra.out⟩
  | none =>
    have ht : tup none = .tuple #[.int .i64 0, .bool false] := rfl
    rcases hfsb : fb sa with ⟨sb, ob⟩
    have hfineb := HF2.out sa Hfinea.out.ok
    rw [hfsb] at hfineb
    have Hfineb := Lib.hid hfineb
    have hcallb := HN2.out sa wa Hswa.out Hfinea.out.ok (Nat.le_trans Hfinea.out.wle hlg)
    rw [hfsb] at hcallb
    have Hcallb := Lib.hid hcallb
    have Hfsb := Lib.hid hfsb
    clear hfineb hfsb hcallb
    go_wp2_with fail
    refine Hcallb.out.mono ?_
    rintro e wb ⟨rfl, swb, frb⟩
    have knb := frb.bk Hkna.out (by decide) (by omega) (by omega)
    obtain ⟨xb0, xb1, xb2, xb3, xb4⟩ : (wb.cell? ⟨w.heap.size, 0, none⟩ = some (.int .i64 7)) ∧ (wb.cell? ⟨w.heap.size, 1, none⟩ = some (.int .i64 (j : Int))) ∧ (wb.cell? ⟨w.heap.size, 2, none⟩ = some (.int .i64 (j2 : Int))) ∧ (wb.cell? ⟨w.heap.size, 3, none⟩ = some (.int .i64 n)) ∧ (wb.cell? ⟨w.heap.size, 4, none⟩ = some (.int .i64 m)) := ⟨knb.cell 0, knb.cell 1, knb.cell 2, knb.cell 3, knb.cell 4⟩
    obtain ⟨b0b, b1b, b2b⟩ := swb.bx
    have hlb : i < sb.cs.length := by rw [Hfineb.out.ok.len]; exact hi
    have lt0b := knb.lt
    have lt1b := swb.rs.ltp
    have lt2b := swb.rs.ltc
    have Hswb := Lib.hid swb
    have Hfrb := Lib.hid ((Hfra.out).trans frb)
    have Hknb := Lib.hid knb
    clear swb frb knb
    cases ob with
    | some v =>
      have ht2 : tup (some v) = .tuple #[.int .i64 v, .bool true] := rfl
      go_wp2_with fail
      refine bodyPost_ret (v := .tuple #[.int .i64 v, .bool true]) (by simp [results, Try.results97, go_sem]) rfl ?_
      have hm : doneP i (forkP i ⟨7, (j : Int), (j2 : Int), n, m⟩ fa fb) s = (sb, some v) := doneP_some Hd.out (by simp [forkP, chainP, Hfsa.out, Hfsb.out])
      rw [hm]
      exact ⟨rfl, Hswb.out, Hfrb.out⟩
    | none =>
      go_wp2_with fail
      refine (ended_any (Hswb.out) Hfineb.out.ok.len i hi).mono ?_
      rintro e wz ⟨rfl, swz, frz⟩
      have Hswz := Lib.hid swz
      have Hfrz := Lib.hid ((Hfrb.out).trans frz)
      clear swz frz
      go_wp2_with fail
      refine bodyPost_ret (v := .tuple #[.int .i64 0, .bool false]) (by simp [results, Try.results97, go_sem]) rfl ?_
      have hm : doneP i (forkP i ⟨7, (j : Int), (j2 : Int), n, m⟩ fa fb) s = (sb.put i { sb.at_ i with d := true }, none) := doneP_none Hd.out (by simp [forkP, chainP, Hfsa.out, Hfsb.out])
      rw [hm]
      exact ⟨rfl, Hswz.out, Hfrz.out⟩

set_option maxRecDepth 100000 in
set_option maxHeartbeats 6400000 in
theorem next_zip {n0 pb cb : Nat} {A : Option Addr} {c : Nat} {l : List Nd} {As : Option Addr} {ca : Nat} {src : List (List Int)} {cc : Nat} (hs : srcOk src = true) {i j j2 : Nat} {n m : Int} (hx : l[i]? = some ⟨8, (j : Int), (j2 : Int), n, m⟩) (hj : j < i) (hj2 : j2 < i) {fa fb : PF} (hF : Fine l src j fa) (hN : NextOk n0 pb cb A c l As ca src cc fa j) (hF2 : Fine l src j2 fb) (hN2 : NextOk n0 pb cb A c l As ca src cc fb j2)
    (s : PS) (w : World) (h : SW n0 pb cb A c l As ca src cc s w) (ok : StOk l src s.cs) (hlg : s.lg.length + s.W l src ≤ 65536) (hd : (s.at_ i).d = false) :
    Calls Try.prog 97 #[.pointer (some ⟨pb, 0, none⟩), .int .i64 i] w fun e w' => NPost n0 pb cb A c l As ca src cc w (doneP i (forkP i ⟨8, (j : Int), (j2 : Int), n, m⟩ fa fb) s) e w' := by
  have _u1 := hj
  have _u2 := hj2
  clear _u1 _u2
  have hi : i < l.length := (List.getElem?_eq_some_iff.1 hx).1
  have hil : i < s.cs.length := by rw [ok.len]; exact hi
  obtain ⟨b0, b1, b2⟩ := h.bx
  obtain ⟨nb, no, rfl, hnb, y0, y1, y2, y3, y4⟩ := h.nodes.at2 hx
  simp only at y0 y1 y2 y3 y4
  obtain ⟨W1, hW1⟩ : ∃ W1 : World, W1 = w.alloc (.cells #[.int .i64 8, .int .i64 (j : Int), .int .i64 (j2 : Int), .int .i64 n, .int .i64 m] 104) := ⟨_, rfl⟩
  have hb1 : Below w.heap.size w W1 := by rw [hW1]; exact (Below.refl _ _).alloc (Nat.le_refl _) _
  have kn1 : Bk W1 w.heap.size 104 [.int .i64 8, .int .i64 (j : Int), .int .i64 (j2 : Int), .int .i64 n, .int .i64 m] := by rw [hW1]; exact Bk.new _ _ [_, _, _, _, _]
  have h1 := h.below hb1
  have hpw := h.rs.ltp
  have hcw := h.rs.ltc
  have H := Lib.hid h
  have H1 := Lib.hid h1
  have Hb1 := Lib.hid hb1
  have HW1 := Lib.hid hW1
  have Hkn := Lib.hid kn1
  have Hok := Lib.hid ok
  have Hd := Lib.hid hd
  have Hx := Lib.hid hx
  have HN := Lib.hid hN
  have HF := Lib.hid hF
  have HN2 := Lib.hid hN2
  have HF2 := Lib.hid hF2
  have Hs := Lib.hid hs
  clear h h1 hb1 hW1 kn1 ok hd hx hN hF hN2 hF2 hs
  obtain ⟨x0, x1, x2, x3, x4⟩ : (W1.cell? ⟨w.heap.size, 0, none⟩ = some (.int .i64 8)) ∧ (W1.cell? ⟨w.heap.size, 1, none⟩ = some (.int .i64 (j : Int))) ∧ (W1.cell? ⟨w.heap.size, 2, none⟩ = some (.int .i64 (j2 : Int))) ∧ (W1.cell? ⟨w.heap.size, 3, none⟩ = some (.int .i64 n)) ∧ (W1.cell? ⟨w.heap.size, 4, none⟩ = some (.int .i64 m)) := ⟨Hkn.out.cell 0, Hkn.out.cell 1, Hkn.out.cell 2, Hkn.out.cell 3, Hkn.out.cell 4⟩
  rcases hfsa : fa s with ⟨sa, oa⟩
  have hfinea := HF.out s Hok.out
  rw [hfsa] at hfinea
  have Hfinea := Lib.hid hfinea
  have hcalla := HN.out s W1 H1.out Hok.out hlg
  rw [hfsa] at hcalla
  have Hcalla := Lib.hid hcalla
  have Hfsa := Lib.hid hfsa
  clear hfinea hfsa hcalla
  go_enter Try.func97, Try.ntmps97
  go_wp2_with fail
  rw [← HW1.out]
  go_wp2_with fail
  refine Hcalla.out.mono ?_
  rintro e wa ⟨rfl, swa, fra⟩
  have kna := fra.bk Hkn.out (by decide) (by omega) (by omega)
  obtain ⟨xa0, xa1, xa2, xa3, xa4⟩ : (wa.cell? ⟨w.heap.size, 0, none⟩ = some (.int .i64 8)) ∧ (wa.cell? ⟨w.heap.size, 1, none⟩ = some (.int .i64 (j : Int))) ∧ (wa.cell? ⟨w.heap.size, 2, none⟩ = some (.int .i64 (j2 : Int))) ∧ (wa.cell? ⟨w.heap.size, 3, none⟩ = some (.int .i64 n)) ∧ (wa.cell? ⟨w.heap.size, 4, none⟩ = some (.int .i64 m)) := ⟨kna.cell 0, kna.cell 1, kna.cell 2, kna.cell 3, kna.cell 4⟩
  obtain ⟨b0a, b1a, b2a⟩ := swa.bx
  have hla : i < sa.cs.length := by rw [Hfinea.out.ok.len]; exact hi
  have lt0a := kna.lt
  have lt1a := swa.rs.ltp
  have lt2a := swa.rs.ltc
  have Hswa := Lib.hid swa
  have Hfra := Lib.hid (((Fr.of_below Hb1.out)).trans fra)
  have Hkna := Lib.hid kna
  clear swa fra kna
  cases oa with
  | none =>
    have ht : tup none = .tuple #[.int .i64 0, .bool false] := rfl
    go_wp2_with fail
    refine (ended_any (Hswa.out) Hfinea.out.ok.len i hi).mono ?_
    rintro e wz ⟨rfl, swz, frz⟩
    have Hswz := Lib.hid swz
    have Hfrz := Lib.hid ((Hfra.out).trans frz)
    clear swz frz
    go_wp2_with fail
    refine bodyPost_ret (v := .tuple #[.int .i64 0, .bool false]) (by simp [results, Try.results97, go_sem]) rfl ?_
    have hm : doneP i (forkP i ⟨8, (j : Int), (j2 : Int), n, m⟩ fa fb) s = (sa.put i { sa.at_ i with d := true }, none) := doneP_none Hd.out (by simp [forkP, zipP, Hfsa.out])
    rw [hm]
    exact ⟨rfl, Hswz.out, Hfrz.out⟩
  | some v =>
    have hv := Hfinea.out.item v rfl
    have ht : tup (some v) = .tuple #[.int .i64 v, .bool true] := rfl
    rcases hfsb : fb sa with ⟨sb, ob⟩
    have hfineb := HF2.out sa Hfinea.out.ok
    rw [hfsb] at hfineb
    have Hfineb := Lib.hid hfineb
    have hcallb := HN2.out sa wa Hswa.out Hfinea.out.ok (Nat.le_trans Hfinea.out.wle hlg)
    rw [hfsb] at hcallb
    have Hcallb := Lib.hid hcallb
    have Hfsb := Lib.hid hfsb
    clear hfineb hfsb hcallb
    go_wp2_with fail
    refine Hcallb.out.mono ?_
    rintro e wb ⟨rfl, swb, frb⟩
    have knb := frb.bk Hkna.out (by decide) (by omega) (by omega)
    obtain ⟨xb0, xb1, xb2, xb3, xb4⟩ : (wb.cell? ⟨w.heap.size, 0, none⟩ = some (.int .i64 8)) ∧ (wb.cell? ⟨w.heap.size, 1, none⟩ = some (.int .i64 (j : Int))) ∧ (wb.cell? ⟨w.heap.size, 2, none⟩ = some (.int .i64 (j2 : Int))) ∧ (wb.cell? ⟨w.heap.size, 3, none⟩ = some (.int .i64 n)) ∧ (wb.cell? ⟨w.heap.size, 4, none⟩ = some (.int .i64 m)) := ⟨knb.cell 0, knb.cell 1, knb.cell 2, knb.cell 3, knb.cell 4⟩
    obtain ⟨b0b, b1b, b2b⟩ := swb.bx
    have hlb : i < sb.cs.length := by rw [Hfineb.out.ok.len]; exact hi
    have lt0b := knb.lt
    have lt1b := swb.rs.ltp
    have lt2b := swb.rs.ltc
    have Hswb := Lib.hid swb
    have Hfrb := Lib.hid ((Hfra.out).trans frb)
    have Hknb := Lib.hid knb
    clear swb frb knb
    cases ob with
    | some y =>
      have hy := Hfineb.out.item y rfl
      have hw1 : IntKind.i64.wrap (v + y) = v + y := IntWalk.i64_in _ (by omega)
      have hr : (v + y).tmod 100 = rst (v + y) := rfl
      have hr2 := rst_in (x := v + y) (by omega)
      have hw2 : IntKind.i64.wrap (rst (v + y)) = rst (v + y) := IntWalk.i64_in _ (by omega)
      have ht2 : tup (some y) = .tuple #[.int .i64 y, .bool true] := rfl
      go_wp2_with fail
      refine bodyPost_ret (v := .tuple #[.int .i64 (rst (v + y)), .bool true]) (by simp [results, Try.results97, go_sem]) rfl ?_
      have hm : doneP i (forkP i ⟨8, (j : Int), (j2 : Int), n, m⟩ fa fb) s = (sb, some (rst (v + y))) := doneP_some Hd.out (by simp [forkP, zipP, Hfsa.out, Hfsb.out])
      rw [hm]
      exact ⟨rfl, Hswb.out, Hfrb.out⟩
    | none =>
      have ht2 : tup none = .tuple #[.int .i64 0, .bool false] := rfl
      go_wp2_with fail
      refine (ended_any (Hswb.out) Hfineb.out.ok.len i hi).mono ?_
      rintro e wz ⟨rfl, swz, frz⟩
      have Hswz := Lib.hid swz
      have Hfrz := Lib.hid ((Hfrb.out).trans frz)
      clear swz frz
      go_wp2_with fail
      refine bodyPost_ret (v := .tuple #[.int .i64 0, .bool false]) (by simp [results, Try.results97, go_sem]) rfl ?_
      have hm : doneP i (forkP i ⟨8, (j : Int), (j2 : Int), n, m⟩ fa fb) s = (sb.put i { sb.at_ i with d := true }, none) := doneP_none Hd.out (by simp [forkP, zipP, Hfsa.out, Hfsb.out])
      rw [hm]
      exact ⟨rfl, Hswz.out, Hfrz.out⟩

set_option maxRecDepth 100000 in
set_option maxHeartbeats 6400000 in
theorem next_turn {n0 pb cb : Nat} {A : Option Addr} {c : Nat} {l : List Nd} {As : Option Addr} {ca : Nat} {src : List (List Int)} {cc : Nat} (hs : srcOk src = true) {i j j2 : Nat} {n m : Int} (hx : l[i]? = some ⟨10, (j : Int), (j2 : Int), n, m⟩) (hj : j < i) (hj2 : j2 < i) {fa fb : PF} (hF : Fine l src j fa) (hN : NextOk n0 pb cb A c l As ca src cc fa j) (hF2 : Fine l src j2 fb) (hN2 : NextOk n0 pb cb A c l As ca src cc fb j2)
    (s : PS) (w : World) (h : SW n0 pb cb A c l As ca src cc s w) (ok : StOk l src s.cs) (hlg : s.lg.length + s.W l src ≤ 65536) (hd : (s.at_ i).d = false) :
    Calls Try.prog 97 #[.pointer (some ⟨pb, 0, none⟩), .int .i64 i] w fun e w' => NPost n0 pb cb A c l As ca src cc w (doneP i (forkP i ⟨10, (j : Int), (j2 : Int), n, m⟩ fa fb) s) e w' := by
  have _u1 := hj
  have _u2 := hj2
  clear _u1 _u2
  have hi : i < l.length := (List.getElem?_eq_some_iff.1 hx).1
  have hil : i < s.cs.length := by rw [ok.len]; exact hi
  obtain ⟨b0, b1, b2⟩ := h.bx
  obtain ⟨nb, no, rfl, hnb, y0, y1, y2, y3, y4⟩ := h.nodes.at2 hx
  simp only at y0 y1 y2 y3 y4
  obtain ⟨W1, hW1⟩ : ∃ W1 : World, W1 = w.alloc (.cells #[.int .i64 10, .int .i64 (j : Int), .int .i64 (j2 : Int), .int .i64 n, .int .i64 m] 104) := ⟨_, rfl⟩
  have hb1 : Below w.heap.size w W1 := by rw [hW1]; exact (Below.refl _ _).alloc (Nat.le_refl _) _
  have kn1 : Bk W1 w.heap.size 104 [.int .i64 10, .int .i64 (j : Int), .int .i64 (j2 : Int), .int .i64 n, .int .i64 m] := by rw [hW1]; exact Bk.new _ _ [_, _, _, _, _]
  have h1 := h.below hb1
  have hpw := h.rs.ltp
  have hcw := h.rs.ltc
  have H := Lib.hid h
  have H1 := Lib.hid h1
  have Hb1 := Lib.hid hb1
  have HW1 := Lib.hid hW1
  have Hkn := Lib.hid kn1
  have Hok := Lib.hid ok
  have Hd := Lib.hid hd
  have Hx := Lib.hid hx
  have HN := Lib.hid hN
  have HF := Lib.hid hF
  have HN2 := Lib.hid hN2
  have HF2 := Lib.hid hF2
  have Hs := Lib.hid hs
  clear h h1 hb1 hW1 kn1 ok hd hx hN hF hN2 hF2 hs
  obtain ⟨x0, x1, x2, x3, x4⟩ : (W1.cell? ⟨w.heap.size, 0, none⟩ = some (.int .i64 10)) ∧ (W1.cell? ⟨w.heap.size, 1, none⟩ = some (.int .i64 (j : Int))) ∧ (W1.cell? ⟨w.heap.size, 2, none⟩ = some (.int .i64 (j2 : Int))) ∧ (W1.cell? ⟨w.heap.size, 3, none⟩ = some (.int .i64 n)) ∧ (W1.cell? ⟨w.heap.size, 4, none⟩ = some (.int .i64 m)) := ⟨Hkn.out.cell 0, Hkn.out.cell 1, Hkn.out.cell 2, Hkn.out.cell 3, Hkn.out.cell 4⟩
  obtain ⟨q, hq⟩ : ∃ q, (s.at_ i).n = q := ⟨_, rfl⟩
  have hat := StOk.at_ Hok.out Hx.out
  have hmo : mostOf ⟨10, (j : Int), (j2 : Int), n, m⟩ src = 1 := by simp [mostOf]
  rw [hmo, hq] at hat
  have hq0 := hat.1
  obtain ⟨c0, c1, c2, c3, c4, c5⟩ := H1.out.rs.cl (i := i) hil
  obtain ⟨b0', b1', b2'⟩ := H1.out.bx
  have g0 := H1.out.rs.free (i * 6)
  rw [hq] at c0
  have cw := (H.out.rs.cl (i := i) hil).c0
  rw [hq] at cw
  have Hat := Lib.hid hat
  rcases (show q = 0 ∨ q = 1 by omega) with h0 | h0
  · subst h0
    have Hq := Lib.hid hq
    clear hq hat hmo
    have q1 := H1.out.rs.setN (i := i) hil 1
    have q2 := (Fr.refl n0 pb cb W1).setc (i * 6) (.int .i64 1)
    have q3 := (H1.out.next q1 q2).drew
    have qk : Bk ((W1.setCell ⟨cb, i * 6, none⟩ (.int .i64 1)).drew) w.heap.size 104 [.int .i64 10, .int .i64 (j : Int), .int .i64 (j2 : Int), .int .i64 n, .int .i64 m] := Hkn.out.far (by simp; omega) _
    have qs := FineAt.start (c := { s.at_ i with n := 1 }) Hok.out Hx.out ⟨by simp, by simp⟩ ⟨⟨by simp, by simp [mostOf]⟩, Hat.out.2⟩
    have qlg : (s.put i { s.at_ i with n := 1 }).lg.length + (s.put i { s.at_ i with n := 1 }).W l src ≤ 65536 := Nat.le_trans qs.wle hlg
    have Hq3 := Lib.hid q3
    have Hqk := Lib.hid qk
    have Hq2 := Lib.hid ((Fr.of_below Hb1.out).trans q2.drew)
    have Hqs := Lib.hid qs.ok
    have Hqlg := Lib.hid qlg
    rcases hfsa : fa (s.put i { s.at_ i with n := 1 }) with ⟨sa, oa⟩
    have hfinea := HF.out (s.put i { s.at_ i with n := 1 }) Hqs.out
    rw [hfsa] at hfinea
    have Hfinea := Lib.hid hfinea
    have hcalla := HN.out (s.put i { s.at_ i with n := 1 }) _ Hq3.out Hqs.out Hqlg.out
    rw [hfsa] at hcalla
    have Hcalla := Lib.hid hcalla
    have Hfsa := Lib.hid hfsa
    clear hfinea hfsa hcalla
    clear q1 q2 q3 qk qs qlg
    go_enter Try.func97, Try.ntmps97
    go_wp2_with fail
    rw [← HW1.out]
    go_wp2_with fail
    go_region
    go_wp2_with fail
    refine Hcalla.out.mono ?_
    rintro e wa ⟨rfl, swa, fra⟩
    have kna := fra.bk Hqk.out (by decide) (by omega) (by omega)
    obtain ⟨xa0, xa1, xa2, xa3, xa4⟩ : (wa.cell? ⟨w.heap.size, 0, none⟩ = some (.int .i64 10)) ∧ (wa.cell? ⟨w.heap.size, 1, none⟩ = some (.int .i64 (j : Int))) ∧ (wa.cell? ⟨w.heap.size, 2, none⟩ = some (.int .i64 (j2 : Int))) ∧ (wa.cell? ⟨w.heap.size, 3, none⟩ = some (.int .i64 n)) ∧ (wa.cell? ⟨w.heap.size, 4, none⟩ = some (.int .i64 m)) := ⟨kna.cell 0, kna.cell 1, kna.cell 2, kna.cell 3, kna.cell 4⟩
    obtain ⟨b0a, b1a, b2a⟩ := swa.bx
    have hla : i < sa.cs.length := by rw [Hfinea.out.ok.len]; exact hi
    have lt0a := kna.lt
    have lt1a := swa.rs.ltp
    have lt2a := swa.rs.ltc
    have Hswa := Lib.hid swa
    have Hfra := Lib.hid ((Hq2.out).trans fra)
    have Hkna := Lib.hid kna
    clear swa fra kna
    cases oa with
    | some v =>
      have ht : tup (some v) = .tuple #[.int .i64 v, .bool true] := rfl
      go_wp2_with fail
      refine bodyPost_ret (v := .tuple #[.int .i64 v, .bool true]) (by simp [results, Try.results97, go_sem]) rfl ?_
      have hm : doneP i (forkP i ⟨10, (j : Int), (j2 : Int), n, m⟩ fa fb) s = (sa, some v) := doneP_some Hd.out (by simp [forkP, turnP, chainP, Hq.out, Hfsa.out])
      rw [hm]
      exact ⟨rfl, Hswa.out, Hfra.out⟩
    | none =>
      have ht : tup none = .tuple #[.int .i64 0, .bool false] := rfl
      rcases hfsb : fb sa with ⟨sb, ob⟩
      have hfineb := HF2.out sa Hfinea.out.ok
      rw [hfsb] at hfineb
      have Hfineb := Lib.hid hfineb
      have hcallb := HN2.out sa wa Hswa.out Hfinea.out.ok (Nat.le_trans Hfinea.out.wle Hqlg.out)
      rw [hfsb] at hcallb
      have Hcallb := Lib.hid hcallb
      have Hfsb := Lib.hid hfsb
      clear hfineb hfsb hcallb
      go_wp2_with fail
      refine Hcallb.out.mono ?_
      rintro e wb ⟨rfl, swb, frb⟩
      have knb := frb.bk Hkna.out (by decide) (by omega) (by omega)
      obtain ⟨xb0, xb1, xb2, xb3, xb4⟩ : (wb.cell? ⟨w.heap.size, 0, none⟩ = some (.int .i64 10)) ∧ (wb.cell? ⟨w.heap.size, 1, none⟩ = some (.int .i64 (j : Int))) ∧ (wb.cell? ⟨w.heap.size, 2, none⟩ = some (.int .i64 (j2 : Int))) ∧ (wb.cell? ⟨w.heap.size, 3, none⟩ = some (.int .i64 n)) ∧ (wb.cell? ⟨w.heap.size, 4, none⟩ = some (.int .i64 m)) := ⟨knb.cell 0, knb.cell 1, knb.cell 2, knb.cell 3, knb.cell 4⟩
      obtain ⟨b0b, b1b, b2b⟩ := swb.bx
      have hlb : i < sb.cs.length := by rw [Hfineb.out.ok.len]; exact hi
      have lt0b := knb.lt
      have lt1b := swb.rs.ltp
      have lt2b := swb.rs.ltc
      have Hswb := Lib.hid swb
      have Hfrb := Lib.hid ((Hfra.out).trans frb)
      have Hknb := Lib.hid knb
      clear swb frb knb
      cases ob with
      | some v =>
        have ht2 : tup (some v) = .tuple #[.int .i64 v, .bool true] := rfl
        go_wp2_with fail
        refine bodyPost_ret (v := .tuple #[.int .i64 v, .bool true]) (by simp [results, Try.results97, go_sem]) rfl ?_
        have hm : doneP i (forkP i ⟨10, (j : Int), (j2 : Int), n, m⟩ fa fb) s = (sb, some v) := doneP_some Hd.out (by simp [forkP, turnP, chainP, Hq.out, Hfsa.out, Hfsb.out])
        rw [hm]
        exact ⟨rfl, Hswb.out, Hfrb.out⟩
      | none =>
        go_wp2_with fail
        refine (ended_any (Hswb.out) Hfineb.out.ok.len i hi).mono ?_
        rintro e wz ⟨rfl, swz, frz⟩
        have Hswz := Lib.hid swz
        have Hfrz := Lib.hid ((Hfrb.out).trans frz)
        clear swz frz
        go_wp2_with fail
        refine bodyPost_ret (v := .tuple #[.int .i64 0, .bool false]) (by simp [results, Try.results97, go_sem]) rfl ?_
        have hm : doneP i (forkP i ⟨10, (j : Int), (j2 : Int), n, m⟩ fa fb) s = (sb.put i { sb.at_ i with d := true }, none) := doneP_none Hd.out (by simp [forkP, turnP, chainP, Hq.out, Hfsa.out, Hfsb.out])
        rw [hm]
        exact ⟨rfl, Hswz.out, Hfrz.out⟩
  · subst h0
    have Hq := Lib.hid hq
    clear hq hat hmo
    have q1 := H1.out.rs.setN (i := i) hil 0
    have q2 := (Fr.refl n0 pb cb W1).setc (i * 6) (.int .i64 0)
    have q3 := (H1.out.next q1 q2).drew
    have qk : Bk ((W1.setCell ⟨cb, i * 6, none⟩ (.int .i64 0)).drew) w.heap.size 104 [.int .i64 10, .int .i64 (j : Int), .int .i64 (j2 : Int), .int .i64 n, .int .i64 m] := Hkn.out.far (by simp; omega) _
    have qs := FineAt.start (c := { s.at_ i with n := 0 }) Hok.out Hx.out ⟨by simp, by simp⟩ ⟨⟨by simp, by simp [mostOf]⟩, Hat.out.2⟩
    have qlg : (s.put i { s.at_ i with n := 0 }).lg.length + (s.put i { s.at_ i with n := 0 }).W l src ≤ 65536 := Nat.le_trans qs.wle hlg
    have Hq3 := Lib.hid q3
    have Hqk := Lib.hid qk
    have Hq2 := Lib.hid ((Fr.of_below Hb1.out).trans q2.drew)
    have Hqs := Lib.hid qs.ok
    have Hqlg := Lib.hid qlg
    rcases hfsa : fb (s.put i { s.at_ i with n := 0 }) with ⟨sa, oa⟩
    have hfinea := HF2.out (s.put i { s.at_ i with n := 0 }) Hqs.out
    rw [hfsa] at hfinea
    have Hfinea := Lib.hid hfinea
    have hcalla := HN2.out (s.put i { s.at_ i with n := 0 }) _ Hq3.out Hqs.out Hqlg.out
    rw [hfsa] at hcalla
    have Hcalla := Lib.hid hcalla
    have Hfsa := Lib.hid hfsa
    clear hfinea hfsa hcalla
    clear q1 q2 q3 qk qs qlg
    go_enter Try.func97, Try.ntmps97
    go_wp2_with fail
    rw [← HW1.out]
    go_wp2_with fail
    go_region
    go_wp2_with fail
    refine Hcalla.out.mono ?_
    rintro e wa ⟨rfl, swa, fra⟩
    have kna := fra.bk Hqk.out (by decide) (by omega) (by omega)
    obtain ⟨xa0, xa1, xa2, xa3, xa4⟩ : (wa.cell? ⟨w.heap.size, 0, none⟩ = some (.int .i64 10)) ∧ (wa.cell? ⟨w.heap.size, 1, none⟩ = some (.int .i64 (j : Int))) ∧ (wa.cell? ⟨w.heap.size, 2, none⟩ = some (.int .i64 (j2 : Int))) ∧ (wa.cell? ⟨w.heap.size, 3, none⟩ = some (.int .i64 n)) ∧ (wa.cell? ⟨w.heap.size, 4, none⟩ = some (.int .i64 m)) := ⟨kna.cell 0, kna.cell 1, kna.cell 2, kna.cell 3, kna.cell 4⟩
    obtain ⟨b0a, b1a, b2a⟩ := swa.bx
    have hla : i < sa.cs.length := by rw [Hfinea.out.ok.len]; exact hi
    have lt0a := kna.lt
    have lt1a := swa.rs.ltp
    have lt2a := swa.rs.ltc
    have Hswa := Lib.hid swa
    have Hfra := Lib.hid ((Hq2.out).trans fra)
    have Hkna := Lib.hid kna
    clear swa fra kna
    cases oa with
    | some v =>
      have ht : tup (some v) = .tuple #[.int .i64 v, .bool true] := rfl
      go_wp2_with fail
      refine bodyPost_ret (v := .tuple #[.int .i64 v, .bool true]) (by simp [results, Try.results97, go_sem]) rfl ?_
      have hm : doneP i (forkP i ⟨10, (j : Int), (j2 : Int), n, m⟩ fa fb) s = (sa, some v) := doneP_some Hd.out (by simp [forkP, turnP, chainP, Hq.out, Hfsa.out])
      rw [hm]
      exact ⟨rfl, Hswa.out, Hfra.out⟩
    | none =>
      have ht : tup none = .tuple #[.int .i64 0, .bool false] := rfl
      rcases hfsb : fa sa with ⟨sb, ob⟩
      have hfineb := HF.out sa Hfinea.out.ok
      rw [hfsb] at hfineb
      have Hfineb := Lib.hid hfineb
      have hcallb := HN.out sa wa Hswa.out Hfinea.out.ok (Nat.le_trans Hfinea.out.wle Hqlg.out)
      rw [hfsb] at hcallb
      have Hcallb := Lib.hid hcallb
      have Hfsb := Lib.hid hfsb
      clear hfineb hfsb hcallb
      go_wp2_with fail
      refine Hcallb.out.mono ?_
      rintro e wb ⟨rfl, swb, frb⟩
      have knb := frb.bk Hkna.out (by decide) (by omega) (by omega)
      obtain ⟨xb0, xb1, xb2, xb3, xb4⟩ : (wb.cell? ⟨w.heap.size, 0, none⟩ = some (.int .i64 10)) ∧ (wb.cell? ⟨w.heap.size, 1, none⟩ = some (.int .i64 (j : Int))) ∧ (wb.cell? ⟨w.heap.size, 2, none⟩ = some (.int .i64 (j2 : Int))) ∧ (wb.cell? ⟨w.heap.size, 3, none⟩ = some (.int .i64 n)) ∧ (wb.cell? ⟨w.heap.size, 4, none⟩ = some (.int .i64 m)) := ⟨knb.cell 0, knb.cell 1, knb.cell 2, knb.cell 3, knb.cell 4⟩
      obtain ⟨b0b, b1b, b2b⟩ := swb.bx
      have hlb : i < sb.cs.length := by rw [Hfineb.out.ok.len]; exact hi
      have lt0b := knb.lt
      have lt1b := swb.rs.ltp
      have lt2b := swb.rs.ltc
      have Hswb := Lib.hid swb
      have Hfrb := Lib.hid ((Hfra.out).trans frb)
      have Hknb := Lib.hid knb
      clear swb frb knb
      cases ob with
      | some v =>
        have ht2 : tup (some v) = .tuple #[.int .i64 v, .bool true] := rfl
        go_wp2_with fail
        refine bodyPost_ret (v := .tuple #[.int .i64 v, .bool true]) (by simp [results, Try.results97, go_sem]) rfl ?_
        have hm : doneP i (forkP i ⟨10, (j : Int), (j2 : Int), n, m⟩ fa fb) s = (sb, some v) := doneP_some Hd.out (by simp [forkP, turnP, chainP, Hq.out, Hfsa.out, Hfsb.out])
        rw [hm]
        exact ⟨rfl, Hswb.out, Hfrb.out⟩
      | none =>
        go_wp2_with fail
        refine (ended_any (Hswb.out) Hfineb.out.ok.len i hi).mono ?_
        rintro e wz ⟨rfl, swz, frz⟩
        have Hswz := Lib.hid swz
        have Hfrz := Lib.hid ((Hfrb.out).trans frz)
        clear swz frz
        go_wp2_with fail
        refine bodyPost_ret (v := .tuple #[.int .i64 0, .bool false]) (by simp [results, Try.results97, go_sem]) rfl ?_
        have hm : doneP i (forkP i ⟨10, (j : Int), (j2 : Int), n, m⟩ fa fb) s = (sb.put i { sb.at_ i with d := true }, none) := doneP_none Hd.out (by simp [forkP, turnP, chainP, Hq.out, Hfsa.out, Hfsb.out])
        rw [hm]
        exact ⟨rfl, Hswz.out, Hfrz.out⟩

end Go.Proofs.Ytjhdjfobbgfpfaa
