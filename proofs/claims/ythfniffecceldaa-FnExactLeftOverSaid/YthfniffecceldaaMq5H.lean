/- Texts on the program and its reference, put together (PsB, PsC). -/
import Derived.Test.YthfniffecceldaaMq5G
import Derived.Test.YthfniffecceldaaMq5F
/- Contracts: pulls by the reference: nodes that look at items one by one. -/
namespace Go.Proofs.Ythfniffecceldaa
open Go.RowKit

/-- What a pull by the reference leaves. -/
structure NPost (n0 pb cb : Nat) (A : Option Addr) (c : Nat) (l : List Nd) (As : Option Addr) (ca : Nat) (src : List (List Int)) (cc : Nat) (w : World) (r : PS × Option Int) (e : Ending) (w' : World) : Prop where
  res : e = .returned (tup r.2)
  sw : SW n0 pb cb A c l As ca src cc r.1 w'
  fr : Fr n0 pb cb w w'
/-- A node is pulled by the reference as F says. -/
def NextOk (n0 pb cb : Nat) (A : Option Addr) (c : Nat) (l : List Nd) (As : Option Addr) (ca : Nat) (src : List (List Int)) (cc : Nat) (F : PF) (j : Nat) : Prop :=
  ∀ (s : PS) (w : World), SW n0 pb cb A c l As ca src cc s w → StOk l src s.cs → s.lg.length + s.W l src ≤ 65536 →
    Calls Try.prog 47 #[.pointer (some ⟨pb, 0, none⟩), .int .i64 j] w fun e w' => NPost n0 pb cb A c l As ca src cc w (F s) e w'

theorem doneP_none {i : Nat} {f : PF} {s s2 : PS} (hd : (s.at_ i).d = false) (hf : f s = (s2, none)) : doneP i f s = (s2.put i { s2.at_ i with d := true }, none) := by
  unfold doneP
  rw [if_neg (by rw [hd]; decide), hf]
theorem doneP_some {i : Nat} {f : PF} {s s2 : PS} {v : Int} (hd : (s.at_ i).d = false) (hf : f s = (s2, some v)) : doneP i f s = (s2, some v) := by
  unfold doneP
  rw [if_neg (by rw [hd]; decide), hf]
theorem RdN.at2 {w : World} {B : Nat} {A : Option Addr} {l : List Nd} (h : RdN w B A l) {k : Nat} {x : Nd} (hx : l[k]? = some x) : ∃ b o, A = some ⟨b, o, none⟩ ∧ b < B ∧ At5 w b (o + k * 5) x := by
  obtain ⟨b, o, y, e, hb, hy, hc⟩ := h.at_ (List.getElem?_eq_some_iff.1 hx).1
  obtain rfl := Option.some.inj (hx.symm.trans hy)
  exact ⟨b, o, e, hb, hc⟩
/-- How many pulls of the state of the cells are left, read off the world. -/
theorem RS.cs_eq {n0 pb cb : Nat} {T : TypeId} {hd tl : List Value} {s s2 : PS} {w : World} (h : RS n0 pb cb T hd tl s w) (h2 : RS n0 pb cb T hd tl s2 w) (hl : s.cs.length = s2.cs.length) : s.cs = s2.cs := by
  obtain ⟨cs, hc, hcs⟩ := h.cells
  obtain ⟨ds, hd, hds⟩ := h2.cells
  have e : cs = ds := by
    unfold Bk at hc hd
    rw [hc] at hd
    simpa using hd
  subst e
  apply List.ext_getElem? 
  intro k
  by_cases hk : k < s.cs.length
  · have a := hcs k _ (List.getElem?_eq_getElem hk)
    have b := hds k _ (List.getElem?_eq_getElem (by omega : k < s2.cs.length))
    rw [List.getElem?_eq_getElem hk, List.getElem?_eq_getElem (by omega : k < s2.cs.length)]
    refine congrArg some (Cl.ext_ ?_ ?_ ?_ ?_ ?_ ?_)
    · have := a.c0.symm.trans b.c0; simpa using this
    · have := a.c1.symm.trans b.c1; simpa using this
    · have := a.c2.symm.trans b.c2; simpa using this
    · have := a.c3.symm.trans b.c3; simpa using this
    · have := a.c4.symm.trans b.c4; simpa using this
    · have := a.c5.symm.trans b.c5; simpa using this
  · rw [List.getElem?_eq_none (by omega), List.getElem?_eq_none (by omega)]
theorem meas_eq {n0 pb cb : Nat} {T : TypeId} {hd tl : List Value} {s : PS} {w : World} {N : Nat} (φ : List Cl → Nat) (h : RS n0 pb cb T hd tl s w) (hl : s.cs.length = N) :
    Classical.epsilon (fun m => ∃ s2 : PS, RS n0 pb cb T hd tl s2 w ∧ s2.cs.length = N ∧ m = φ s2.cs) = φ s.cs := by
  have hex : ∃ m, ∃ s2 : PS, RS n0 pb cb T hd tl s2 w ∧ s2.cs.length = N ∧ m = φ s2.cs := ⟨_, s, h, hl, rfl⟩
  obtain ⟨s2, h2, hl2, e⟩ := Classical.epsilon_spec hex
  rw [e, h.cs_eq h2 (by omega)]

set_option maxRecDepth 100000 in
set_option maxHeartbeats 6400000 in
theorem next_map {n0 pb cb : Nat} {A : Option Addr} {c : Nat} {l : List Nd} {As : Option Addr} {ca : Nat} {src : List (List Int)} {cc : Nat} (hs : srcOk src = true) {i j : Nat} {xb n m : Int} (hx : l[i]? = some ⟨1, (j : Int), xb, n, m⟩) (hj : j < i) {f : PF} (hF : Fine l src j f) (hN : NextOk n0 pb cb A c l As ca src cc f j)
    (s : PS) (w : World) (h : SW n0 pb cb A c l As ca src cc s w) (ok : StOk l src s.cs) (hlg : s.lg.length + s.W l src ≤ 65536) (hd : (s.at_ i).d = false) (Hnums : Hid (0 ≤ n ∧ n ≤ 99 ∧ 0 ≤ m ∧ m ≤ 99)) :
    Calls Try.prog 69 #[.pointer (some ⟨pb, 0, none⟩), .int .i64 i] w fun e w' => NPost n0 pb cb A c l As ca src cc w (doneP i (stemP (fun s => s.M l src + 1) i ⟨1, (j : Int), xb, n, m⟩ f) s) e w' := by
  have _u1 := hj
  clear _u1
  have hi : i < l.length := (List.getElem?_eq_some_iff.1 hx).1
  have hil : i < s.cs.length := by rw [ok.len]; exact hi
  obtain ⟨b0, b1, b2⟩ := h.bx
  obtain ⟨nb, no, rfl, hnb, y0, y1, y2, y3, y4⟩ := h.nodes.at2 hx
  simp only at y0 y1 y2 y3 y4
  obtain ⟨W1, hW1⟩ : ∃ W1 : World, W1 = w.alloc (.cells #[.int .i64 1, .int .i64 (j : Int), .int .i64 xb, .int .i64 n, .int .i64 m] 97) := ⟨_, rfl⟩
  have hb1 : Below w.heap.size w W1 := by rw [hW1]; exact (Below.refl _ _).alloc (Nat.le_refl _) _
  have kn1 : Bk W1 w.heap.size 97 [.int .i64 1, .int .i64 (j : Int), .int .i64 xb, .int .i64 n, .int .i64 m] := by rw [hW1]; exact Bk.new _ _ [_, _, _, _, _]
  have h1 := h.below hb1
  have hpw := h.rs.ltp
  have hcw := h.rs.ltc
  have H := Lib.hid h
  have H1 := Lib.hid h1
  have Hb1 := Lib.hid hb1
  have HW1 := Lib.hid hW1
  have Hkn := Lib.hid kn1
  have Hok := Lib.hid ok
  have Hd := Lib.hid hd
  have Hx := Lib.hid hx
  have HN := Lib.hid hN
  have HF := Lib.hid hF
  have Hs := Lib.hid hs
  clear h h1 hb1 hW1 kn1 ok hd hx hN hF hs
  rcases hfs : f s with ⟨s2, o⟩
  have hfine := HF.out s Hok.out
  rw [hfs] at hfine
  have Hfine := Lib.hid hfine
  have Hcall := HN.out s W1 H1.out Hok.out hlg
  rw [hfs] at Hcall
  have Hcall := Lib.hid Hcall
  have Hfs := Lib.hid hfs
  clear hfine hfs
  go_enter Try.func69, Try.ntmps69
  go_wp2_with fail
  rw [← HW1.out]
  go_loopw [4] (fun _ wr => wr = W1) (fun _ _ => 0)
  case atStart => rfl
  case round =>
    have Hrel := Lib.hid hrel
    clear hrel
    have e1 : wr = W1 := Hrel.out
    subst e1
    clear Hrel
    have k1 := Hkn.out.cell 1
    simp only [List.getElem?_cons_succ, List.getElem?_cons_zero] at k1
    go_wp2_with fail
    refine Hcall.out.mono ?_
    rintro e w3 ⟨rfl, sw3, fr3⟩
    have kn3 := fr3.bk Hkn.out (by decide) (by omega) (by omega)
    obtain ⟨x0, x1, x2, x3, x4⟩ : (w3.cell? ⟨w.heap.size, 0, none⟩ = some (.int .i64 1)) ∧ (w3.cell? ⟨w.heap.size, 1, none⟩ = some (.int .i64 (j : Int))) ∧ (w3.cell? ⟨w.heap.size, 2, none⟩ = some (.int .i64 xb)) ∧ (w3.cell? ⟨w.heap.size, 3, none⟩ = some (.int .i64 n)) ∧ (w3.cell? ⟨w.heap.size, 4, none⟩ = some (.int .i64 m)) := ⟨kn3.cell 0, kn3.cell 1, kn3.cell 2, kn3.cell 3, kn3.cell 4⟩
    obtain ⟨b0', b1', b2'⟩ := sw3.bx
    have hl3 : i < s2.cs.length := by rw [Hfine.out.ok.len]; exact hi
    obtain ⟨c0, c1, c2, c3, c4, c5⟩ := sw3.rs.cl (i := i) hl3
    have lt0 := kn3.lt
    have lt1 := sw3.rs.ltp
    have lt2 := sw3.rs.ltc
    have Hsw := Lib.hid sw3
    have Hfr := Lib.hid ((Fr.of_below Hb1.out).trans fr3)
    clear sw3 fr3 kn3
    cases o with
    | none =>
      have ht : tup none = .tuple #[.int .i64 0, .bool false] := rfl
      go_wp2_with fail
      refine (ended_any Hsw.out Hfine.out.ok.len i hi).mono ?_
      rintro e w4 ⟨rfl, sw4, fr4⟩
      have Hsw4 := Lib.hid sw4
      have Hfr4 := Lib.hid (Hfr.out.trans fr4)
      clear sw4 fr4
      go_wp2_with fail
      refine bodyPost_ret (v := .tuple #[.int .i64 0, .bool false]) (by simp [results, Try.results69, go_sem]) rfl ?_
      have hm : doneP i (stemP (fun s => s.M l src + 1) i ⟨1, (j : Int), xb, n, m⟩ f) s = (s2.put i { s2.at_ i with d := true }, none) := doneP_none Hd.out (by simp [stemP, chgP, Hfs.out])
      rw [hm]
      exact ⟨rfl, Hsw4.out, Hfr4.out⟩
    | some v =>
      have hv := Hfine.out.item v rfl
      have ht : tup (some v) = .tuple #[.int .i64 v, .bool true] := rfl
      have hn := Hnums.out
      go_wp2_with fail
      refine (specMapped_any 1 (j : Int) xb n m v _ ⟨hn.1, hn.2.1⟩ ⟨hn.2.2.1, hn.2.2.2⟩ hv).mono ?_
      rintro e w4 ⟨rfl, hb4⟩
      have Hsw4 := Lib.hid ((Hsw.out.below ((Below.refl _ _).alloc (Nat.le_refl _) _)).below hb4)
      have Hfr4 := Lib.hid ((Hfr.out.alloc _).trans (.of_below hb4))
      clear hb4
      go_wp2_with fail
      refine bodyPost_ret (v := .tuple #[.int .i64 (rst (n * v + m)), .bool true]) (by simp [results, Try.results69, go_sem]) rfl ?_
      have hm : doneP i (stemP (fun s => s.M l src + 1) i ⟨1, (j : Int), xb, n, m⟩ f) s = (s2, some (rst (n * v + m))) := doneP_some Hd.out (by simp [stemP, chgP, mapG, Hfs.out, PS.put_self hl3])
      rw [hm]
      exact ⟨rfl, Hsw4.out, Hfr4.out⟩

set_option maxRecDepth 100000 in
set_option maxHeartbeats 6400000 in
theorem next_while {n0 pb cb : Nat} {A : Option Addr} {c : Nat} {l : List Nd} {As : Option Addr} {ca : Nat} {src : List (List Int)} {cc : Nat} (hs : srcOk src = true) {i j : Nat} {xb n m : Int} (hx : l[i]? = some ⟨5, (j : Int), xb, n, m⟩) (hj : j < i) {f : PF} (hF : Fine l src j f) (hN : NextOk n0 pb cb A c l As ca src cc f j)
    (s : PS) (w : World) (h : SW n0 pb cb A c l As ca src cc s w) (ok : StOk l src s.cs) (hlg : s.lg.length + s.W l src ≤ 65536) (hd : (s.at_ i).d = false) :
    Calls Try.prog 69 #[.pointer (some ⟨pb, 0, none⟩), .int .i64 i] w fun e w' => NPost n0 pb cb A c l As ca src cc w (doneP i (stemP (fun s => s.M l src + 1) i ⟨5, (j : Int), xb, n, m⟩ f) s) e w' := by
  have _u1 := hj
  clear _u1
  have hi : i < l.length := (List.getElem?_eq_some_iff.1 hx).1
  have hil : i < s.cs.length := by rw [ok.len]; exact hi
  obtain ⟨b0, b1, b2⟩ := h.bx
  obtain ⟨nb, no, rfl, hnb, y0, y1, y2, y3, y4⟩ := h.nodes.at2 hx
  simp only at y0 y1 y2 y3 y4
  obtain ⟨W1, hW1⟩ : ∃ W1 : World, W1 = w.alloc (.cells #[.int .i64 5, .int .i64 (j : Int), .int .i64 xb, .int .i64 n, .int .i64 m] 97) := ⟨_, rfl⟩
  have hb1 : Below w.heap.size w W1 := by rw [hW1]; exact (Below.refl _ _).alloc (Nat.le_refl _) _
  have kn1 : Bk W1 w.heap.size 97 [.int .i64 5, .int .i64 (j : Int), .int .i64 xb, .int .i64 n, .int .i64 m] := by rw [hW1]; exact Bk.new _ _ [_, _, _, _, _]
  have h1 := h.below hb1
  have hpw := h.rs.ltp
  have hcw := h.rs.ltc
  have H := Lib.hid h
  have H1 := Lib.hid h1
  have Hb1 := Lib.hid hb1
  have HW1 := Lib.hid hW1
  have Hkn := Lib.hid kn1
  have Hok := Lib.hid ok
  have Hd := Lib.hid hd
  have Hx := Lib.hid hx
  have HN := Lib.hid hN
  have HF := Lib.hid hF
  have Hs := Lib.hid hs
  clear h h1 hb1 hW1 kn1 ok hd hx hN hF hs
  rcases hfs : f s with ⟨s2, o⟩
  have hfine := HF.out s Hok.out
  rw [hfs] at hfine
  have Hfine := Lib.hid hfine
  have Hcall := HN.out s W1 H1.out Hok.out hlg
  rw [hfs] at Hcall
  have Hcall := Lib.hid Hcall
  have Hfs := Lib.hid hfs
  clear hfine hfs
  go_enter Try.func69, Try.ntmps69
  go_wp2_with fail
  rw [← HW1.out]
  go_loopw [4] (fun _ wr => wr = W1) (fun _ _ => 0)
  case atStart => rfl
  case round =>
    have Hrel := Lib.hid hrel
    clear hrel
    have e1 : wr = W1 := Hrel.out
    subst e1
    clear Hrel
    have k1 := Hkn.out.cell 1
    simp only [List.getElem?_cons_succ, List.getElem?_cons_zero] at k1
    go_wp2_with fail
    refine Hcall.out.mono ?_
    rintro e w3 ⟨rfl, sw3, fr3⟩
    have kn3 := fr3.bk Hkn.out (by decide) (by omega) (by omega)
    obtain ⟨x0, x1, x2, x3, x4⟩ : (w3.cell? ⟨w.heap.size, 0, none⟩ = some (.int .i64 5)) ∧ (w3.cell? ⟨w.heap.size, 1, none⟩ = some (.int .i64 (j : Int))) ∧ (w3.cell? ⟨w.heap.size, 2, none⟩ = some (.int .i64 xb)) ∧ (w3.cell? ⟨w.heap.size, 3, none⟩ = some (.int .i64 n)) ∧ (w3.cell? ⟨w.heap.size, 4, none⟩ = some (.int .i64 m)) := ⟨kn3.cell 0, kn3.cell 1, kn3.cell 2, kn3.cell 3, kn3.cell 4⟩
    obtain ⟨b0', b1', b2'⟩ := sw3.bx
    have hl3 : i < s2.cs.length := by rw [Hfine.out.ok.len]; exact hi
    obtain ⟨c0, c1, c2, c3, c4, c5⟩ := sw3.rs.cl (i := i) hl3
    have lt0 := kn3.lt
    have lt1 := sw3.rs.ltp
    have lt2 := sw3.rs.ltc
    have Hsw := Lib.hid sw3
    have Hfr := Lib.hid ((Fr.of_below Hb1.out).trans fr3)
    clear sw3 fr3 kn3
    cases o with
    | none =>
      have ht : tup none = .tuple #[.int .i64 0, .bool false] := rfl
      go_wp2_with fail
      refine (ended_any Hsw.out Hfine.out.ok.len i hi).mono ?_
      rintro e w4 ⟨rfl, sw4, fr4⟩
      have Hsw4 := Lib.hid sw4
      have Hfr4 := Lib.hid (Hfr.out.trans fr4)
      clear sw4 fr4
      go_wp2_with fail
      refine bodyPost_ret (v := .tuple #[.int .i64 0, .bool false]) (by simp [results, Try.results69, go_sem]) rfl ?_
      have hm : doneP i (stemP (fun s => s.M l src + 1) i ⟨5, (j : Int), xb, n, m⟩ f) s = (s2.put i { s2.at_ i with d := true }, none) := doneP_none Hd.out (by simp [stemP, whileP, Hfs.out])
      rw [hm]
      exact ⟨rfl, Hsw4.out, Hfr4.out⟩
    | some v =>
      have hv := Hfine.out.item v rfl
      have ht : tup (some v) = .tuple #[.int .i64 v, .bool true] := rfl
      by_cases hge : n ≤ v
      · go_wp2_with fail
        refine (ended_any (Hsw.out.below ((Below.refl _ _).alloc (Nat.le_refl _) _)) Hfine.out.ok.len i hi).mono ?_
        rintro e w4 ⟨rfl, sw4, fr4⟩
        have Hsw4 := Lib.hid sw4
        have Hfr4 := Lib.hid ((Hfr.out.alloc _).trans fr4)
        clear sw4 fr4
        go_wp2_with fail
        refine bodyPost_ret (v := .tuple #[.int .i64 0, .bool false]) (by simp [results, Try.results69, go_sem]) rfl ?_
        have hm : doneP i (stemP (fun s => s.M l src + 1) i ⟨5, (j : Int), xb, n, m⟩ f) s = (s2.put i { s2.at_ i with d := true }, none) := doneP_none Hd.out (by simp [stemP, whileP, Hfs.out, hge])
        rw [hm]
        exact ⟨rfl, Hsw4.out, Hfr4.out⟩
      · have Hsw4 := Lib.hid (Hsw.out.below ((Below.refl _ _).alloc (Nat.le_refl _) (.cells #[.int .i64 (s2.at_ i).n, .int .i64 (s2.at_ i).l, .int .i64 (s2.at_ i).r, .bool (s2.at_ i).hl, .bool (s2.at_ i).hr, .bool (s2.at_ i).d] 66)))
        go_wp2_with fail
        refine bodyPost_ret (v := .tuple #[.int .i64 v, .bool true]) (by simp [results, Try.results69, go_sem]) rfl ?_
        have hm : doneP i (stemP (fun s => s.M l src + 1) i ⟨5, (j : Int), xb, n, m⟩ f) s = (s2, some v) := doneP_some Hd.out (by simp [stemP, whileP, Hfs.out, hge])
        rw [hm]
        exact ⟨rfl, Hsw4.out, Hfr.out.alloc _⟩

set_option maxRecDepth 100000 in
set_option maxHeartbeats 6400000 in
theorem next_scan {n0 pb cb : Nat} {A : Option Addr} {c : Nat} {l : List Nd} {As : Option Addr} {ca : Nat} {src : List (List Int)} {cc : Nat} (hs : srcOk src = true) {i j : Nat} {xb n m : Int} (hx : l[i]? = some ⟨11, (j : Int), xb, n, m⟩) (hj : j < i) {f : PF} (hF : Fine l src j f) (hN : NextOk n0 pb cb A c l As ca src cc f j)
    (s : PS) (w : World) (h : SW n0 pb cb A c l As ca src cc s w) (ok : StOk l src s.cs) (hlg : s.lg.length + s.W l src ≤ 65536) (hd : (s.at_ i).d = false) :
    Calls Try.prog 69 #[.pointer (some ⟨pb, 0, none⟩), .int .i64 i] w fun e w' => NPost n0 pb cb A c l As ca src cc w (doneP i (stemP (fun s => s.M l src + 1) i ⟨11, (j : Int), xb, n, m⟩ f) s) e w' := by
  have _u1 := hj
  clear _u1
  have hi : i < l.length := (List.getElem?_eq_some_iff.1 hx).1
  have hil : i < s.cs.length := by rw [ok.len]; exact hi
  obtain ⟨b0, b1, b2⟩ := h.bx
  obtain ⟨nb, no, rfl, hnb, y0, y1, y2, y3, y4⟩ := h.nodes.at2 hx
  simp only at y0 y1 y2 y3 y4
  obtain ⟨W1, hW1⟩ : ∃ W1 : World, W1 = w.alloc (.cells #[.int .i64 11, .int .i64 (j : Int), .int .i64 xb, .int .i64 n, .int .i64 m] 97) := ⟨_, rfl⟩
  have hb1 : Below w.heap.size w W1 := by rw [hW1]; exact (Below.refl _ _).alloc (Nat.le_refl _) _
  have kn1 : Bk W1 w.heap.size 97 [.int .i64 11, .int .i64 (j : Int), .int .i64 xb, .int .i64 n, .int .i64 m] := by rw [hW1]; exact Bk.new _ _ [_, _, _, _, _]
  have h1 := h.below hb1
  have hpw := h.rs.ltp
  have hcw := h.rs.ltc
  have H := Lib.hid h
  have H1 := Lib.hid h1
  have Hb1 := Lib.hid hb1
  have HW1 := Lib.hid hW1
  have Hkn := Lib.hid kn1
  have Hok := Lib.hid ok
  have Hd := Lib.hid hd
  have Hx := Lib.hid hx
  have HN := Lib.hid hN
  have HF := Lib.hid hF
  have Hs := Lib.hid hs
  clear h h1 hb1 hW1 kn1 ok hd hx hN hF hs
  rcases hfs : f s with ⟨s2, o⟩
  have hfine := HF.out s Hok.out
  rw [hfs] at hfine
  have Hfine := Lib.hid hfine
  have Hcall := HN.out s W1 H1.out Hok.out hlg
  rw [hfs] at Hcall
  have Hcall := Lib.hid Hcall
  have Hfs := Lib.hid hfs
  clear hfine hfs
  go_enter Try.func69, Try.ntmps69
  go_wp2_with fail
  rw [← HW1.out]
  go_loopw [4] (fun _ wr => wr = W1) (fun _ _ => 0)
  case atStart => rfl
  case round =>
    have Hrel := Lib.hid hrel
    clear hrel
    have e1 : wr = W1 := Hrel.out
    subst e1
    clear Hrel
    have k1 := Hkn.out.cell 1
    simp only [List.getElem?_cons_succ, List.getElem?_cons_zero] at k1
    go_wp2_with fail
    refine Hcall.out.mono ?_
    rintro e w3 ⟨rfl, sw3, fr3⟩
    have kn3 := fr3.bk Hkn.out (by decide) (by omega) (by omega)
    obtain ⟨x0, x1, x2, x3, x4⟩ : (w3.cell? ⟨w.heap.size, 0, none⟩ = some (.int .i64 11)) ∧ (w3.cell? ⟨w.heap.size, 1, none⟩ = some (.int .i64 (j : Int))) ∧ (w3.cell? ⟨w.heap.size, 2, none⟩ = some (.int .i64 xb)) ∧ (w3.cell? ⟨w.heap.size, 3, none⟩ = some (.int .i64 n)) ∧ (w3.cell? ⟨w.heap.size, 4, none⟩ = some (.int .i64 m)) := ⟨kn3.cell 0, kn3.cell 1, kn3.cell 2, kn3.cell 3, kn3.cell 4⟩
    obtain ⟨b0', b1', b2'⟩ := sw3.bx
    have hl3 : i < s2.cs.length := by rw [Hfine.out.ok.len]; exact hi
    obtain ⟨c0, c1, c2, c3, c4, c5⟩ := sw3.rs.cl (i := i) hl3
    have lt0 := kn3.lt
    have lt1 := sw3.rs.ltp
    have lt2 := sw3.rs.ltc
    have Hsw := Lib.hid sw3
    have Hfr := Lib.hid ((Fr.of_below Hb1.out).trans fr3)
    clear sw3 fr3 kn3
    cases o with
    | none =>
      have ht : tup none = .tuple #[.int .i64 0, .bool false] := rfl
      go_wp2_with fail
      refine (ended_any Hsw.out Hfine.out.ok.len i hi).mono ?_
      rintro e w4 ⟨rfl, sw4, fr4⟩
      have Hsw4 := Lib.hid sw4
      have Hfr4 := Lib.hid (Hfr.out.trans fr4)
      clear sw4 fr4
      go_wp2_with fail
      refine bodyPost_ret (v := .tuple #[.int .i64 0, .bool false]) (by simp [results, Try.results69, go_sem]) rfl ?_
      have hm : doneP i (stemP (fun s => s.M l src + 1) i ⟨11, (j : Int), xb, n, m⟩ f) s = (s2.put i { s2.at_ i with d := true }, none) := doneP_none Hd.out (by simp [stemP, chgP, Hfs.out])
      rw [hm]
      exact ⟨rfl, Hsw4.out, Hfr4.out⟩
    | some v =>
      have hv := Hfine.out.item v rfl
      have ht : tup (some v) = .tuple #[.int .i64 v, .bool true] := rfl
      have hm99 : mostOf ⟨11, (j : Int), xb, n, m⟩ src = 99 := by simp [mostOf]
      have hc0 : 0 ≤ (s2.at_ i).n ∧ (s2.at_ i).n ≤ mostOf ⟨11, (j : Int), xb, n, m⟩ src := (StOk.at_ Hfine.out.ok Hx.out).1
      rw [hm99] at hc0
      clear hm99
      have hw1 : IntKind.i64.wrap ((s2.at_ i).n + v) = (s2.at_ i).n + v := IntWalk.i64_in _ (by omega)
      have hr : ((s2.at_ i).n + v).tmod 100 = rst ((s2.at_ i).n + v) := rfl
      have hr2 := rst_in (x := (s2.at_ i).n + v) (by omega)
      have g0 := Hsw.out.rs.free (i * 6)
      have q1 := Hsw.out.rs.setN (i := i) hl3 (rst ((s2.at_ i).n + v))
      have q2 := (Fr.refl n0 pb cb w3).setc (i * 6) (.int .i64 (rst ((s2.at_ i).n + v)))
      have q3 := ((Hsw.out.next q1 q2).below ((Below.refl _ _).alloc (Nat.le_refl _) (.cells #[.int .i64 (s2.at_ i).n, .int .i64 (s2.at_ i).l, .int .i64 (s2.at_ i).r, .bool (s2.at_ i).hl, .bool (s2.at_ i).hr, .bool (s2.at_ i).d] 66))).below (Below.refl _ _).drew
      obtain ⟨z0, z1, z2⟩ := q3.bx
      obtain ⟨d0, d1, d2, d3, d4, d5⟩ := q3.rs.cl (i := i) (by simp only [PS.put, List.length_set]; exact hl3)
      rw [PS.at_put hl3] at d0
      simp only at d0
      have Hq3 := Lib.hid q3
      have Hq2 := Lib.hid ((q2.alloc (.cells #[.int .i64 (s2.at_ i).n, .int .i64 (s2.at_ i).l, .int .i64 (s2.at_ i).r, .bool (s2.at_ i).hl, .bool (s2.at_ i).hr, .bool (s2.at_ i).d] 66)).drew)
      clear q1 q2 q3
      go_wp2_with fail
      go_region
      go_wp2_with fail
      refine bodyPost_ret (v := .tuple #[.int .i64 (rst ((s2.at_ i).n + v)), .bool true]) (by simp [results, Try.results69, go_sem]) rfl ?_
      have hm : doneP i (stemP (fun s => s.M l src + 1) i ⟨11, (j : Int), xb, n, m⟩ f) s = (s2.put i { s2.at_ i with n := rst ((s2.at_ i).n + v) }, some (rst ((s2.at_ i).n + v))) := doneP_some Hd.out (by simp [stemP, chgP, scanG, Hfs.out])
      rw [hm]
      exact ⟨rfl, Hq3.out, Hfr.out.trans Hq2.out⟩


end Go.Proofs.Ythfniffecceldaa

/- Contracts: pulls by the reference: nodes that let items through. -/
namespace Go.Proofs.Ythfniffecceldaa
open Go.RowKit

set_option maxRecDepth 100000 in
set_option maxHeartbeats 6400000 in
theorem next_filter {n0 pb cb : Nat} {A : Option Addr} {c : Nat} {l : List Nd} {As : Option Addr} {ca : Nat} {src : List (List Int)} {cc : Nat} (hs : srcOk src = true) {i j : Nat} {xb n m : Int} (hx : l[i]? = some ⟨2, (j : Int), xb, n, m⟩) (hj : j < i) {f : PF} (hF : Fine l src j f) (hN : NextOk n0 pb cb A c l As ca src cc f j)
    (s : PS) (w : World) (h : SW n0 pb cb A c l As ca src cc s w) (ok : StOk l src s.cs) (hlg : s.lg.length + s.W l src ≤ 65536) (hd : (s.at_ i).d = false) (Hnb : Hid (1 ≤ n ∧ n ≤ 30)) :
    Calls Try.prog 69 #[.pointer (some ⟨pb, 0, none⟩), .int .i64 i] w fun e w' => NPost n0 pb cb A c l As ca src cc w (doneP i (stemP (fun s => s.M l src + 1) i ⟨2, (j : Int), xb, n, m⟩ f) s) e w' := by
  have _u1 := hj
  clear _u1
  have hi : i < l.length := (List.getElem?_eq_some_iff.1 hx).1
  have hil : i < s.cs.length := by rw [ok.len]; exact hi
  obtain ⟨b0, b1, b2⟩ := h.bx
  obtain ⟨nb, no, rfl, hnb, y0, y1, y2, y3, y4⟩ := h.nodes.at2 hx
  simp only at y0 y1 y2 y3 y4
  obtain ⟨W1, hW1⟩ : ∃ W1 : World, W1 = w.alloc (.cells #[.int .i64 2, .int .i64 (j : Int), .int .i64 xb, .int .i64 n, .int .i64 m] 97) := ⟨_, rfl⟩
  have hb1 : Below w.heap.size w W1 := by rw [hW1]; exact (Below.refl _ _).alloc (Nat.le_refl _) _
  have kn1 : Bk W1 w.heap.size 97 [.int .i64 2, .int .i64 (j : Int), .int .i64 xb, .int .i64 n, .int .i64 m] := by rw [hW1]; exact Bk.new _ _ [_, _, _, _, _]
  have h1 := h.below hb1
  have hpw := h.rs.ltp
  have hcw := h.rs.ltc
  have H := Lib.hid h
  have H1 := Lib.hid h1
  have Hb1 := Lib.hid hb1
  have HW1 := Lib.hid hW1
  have Hkn := Lib.hid kn1
  have Hok := Lib.hid ok
  have Hd := Lib.hid hd
  have Hx := Lib.hid hx
  have HN := Lib.hid hN
  have HF := Lib.hid hF
  have Hs := Lib.hid hs
  clear h h1 hb1 hW1 kn1 ok hd hx hN hF hs
  go_enter Try.func69, Try.ntmps69
  go_wp2_with fail
  rw [← HW1.out]
  go_loopw [4] (fun _ wr => ∃ (k : Nat) (s1 : PS), SW n0 pb cb (some ⟨nb, no, none⟩) c l As ca src cc s1 wr ∧ StOk l src s1.cs ∧ s1.lg.length + s1.W l src ≤ 65536 ∧ s1.M l src < k ∧ someL i (mayF ⟨2, (j : Int), xb, n, m⟩) f k s1 = someL i (mayF ⟨2, (j : Int), xb, n, m⟩) f (s.M l src + 1) s ∧ Fr n0 pb cb w wr ∧ Bk wr w.heap.size 97 [.int .i64 2, .int .i64 (j : Int), .int .i64 xb, .int .i64 n, .int .i64 m])
    (fun _ wr => Classical.epsilon (fun q => ∃ s2 : PS, RS n0 pb cb 64 (spHd (some ⟨nb, no, none⟩) c l As ca cb cc) [] s2 wr ∧ s2.cs.length = l.length ∧ q = wsum (wAll src) l s2.cs))
  case atStart => exact ⟨_, s, H1.out, Hok.out, hlg, Nat.lt_succ_self _, rfl, .of_below Hb1.out, Hkn.out⟩
  case round =>
    obtain ⟨k, s1, h1, hok1, hlg1, hM, hso, hfr1, hkn1⟩ := hrel
    have hl1 : s1.cs.length = l.length := hok1.len
    obtain ⟨k', rfl⟩ : ∃ k', k = k' + 1 := ⟨k - 1, by omega⟩
    rcases hfs : f s1 with ⟨s2, o⟩
    have hfine := HF.out s1 hok1
    rw [hfs] at hfine
    have Hfine := Lib.hid hfine
    have Hcall := HN.out s1 wr h1 hok1 hlg1
    rw [hfs] at Hcall
    have Hcall := Lib.hid Hcall
    have Hfs := Lib.hid hfs
    have Hso := Lib.hid hso
    have Hrs1 := Lib.hid h1.rs
    have Hfr1 := Lib.hid hfr1
    have Hkn1 := Lib.hid hkn1
    have Hl1 := Lib.hid hl1
    have HM := Lib.hid hM
    have Hlg1 := Lib.hid hlg1
    have k1 := Hkn1.out.cell 1
    have hzr := hfr1.size
    simp only [List.getElem?_cons_succ, List.getElem?_cons_zero] at k1
    clear hfine hfs hso h1 hok1 hlg1 hM hfr1 hkn1 hl1
    go_wp2_with fail
    refine Hcall.out.mono ?_
    rintro e w3 ⟨rfl, sw3, fr3⟩
    have kn3 := fr3.bk Hkn1.out (by decide) (by omega) (by omega)
    obtain ⟨x0, x1, x2, x3, x4⟩ : (w3.cell? ⟨w.heap.size, 0, none⟩ = some (.int .i64 2)) ∧ (w3.cell? ⟨w.heap.size, 1, none⟩ = some (.int .i64 (j : Int))) ∧ (w3.cell? ⟨w.heap.size, 2, none⟩ = some (.int .i64 xb)) ∧ (w3.cell? ⟨w.heap.size, 3, none⟩ = some (.int .i64 n)) ∧ (w3.cell? ⟨w.heap.size, 4, none⟩ = some (.int .i64 m)) := ⟨kn3.cell 0, kn3.cell 1, kn3.cell 2, kn3.cell 3, kn3.cell 4⟩
    obtain ⟨b0', b1', b2'⟩ := sw3.bx
    have hl3 : i < s2.cs.length := by rw [Hfine.out.ok.len]; exact hi
    obtain ⟨c0, c1, c2, c3, c4, c5⟩ := sw3.rs.cl (i := i) hl3
    have g0 := sw3.rs.free (i * 6)
    have g1 := sw3.rs.free (i * 6 + 1)
    have g3 := sw3.rs.free (i * 6 + 3)
    have lt0 := kn3.lt
    have lt1 := sw3.rs.ltp
    have lt2 := sw3.rs.ltc
    have Hsw := Lib.hid sw3
    have Hkn3 := Lib.hid kn3
    have Hfr := Lib.hid (Hfr1.out.trans fr3)
    clear sw3 fr3 kn3
    cases o with
    | none =>
      have ht : tup none = .tuple #[.int .i64 0, .bool false] := rfl
      go_wp2_with fail
      refine (ended_any Hsw.out Hfine.out.ok.len i hi).mono ?_
      rintro e w4 ⟨rfl, sw4, fr4⟩
      have Hsw4 := Lib.hid sw4
      have Hfr4 := Lib.hid (Hfr.out.trans fr4)
      clear sw4 fr4
      go_wp2_with fail
      refine bodyPost_ret (v := .tuple #[.int .i64 0, .bool false]) (by simp [results, Try.results69, go_sem]) rfl ?_
      have hm : doneP i (stemP (fun s => s.M l src + 1) i ⟨2, (j : Int), xb, n, m⟩ f) s = (s2.put i { s2.at_ i with d := true }, none) := doneP_none Hd.out (by simp only [stemP]; exact Hso.out.symm.trans (by simp [someL, Hfs.out]))
      rw [hm]
      exact ⟨rfl, Hsw4.out, Hfr4.out⟩
    | some v =>
      have hv := Hfine.out.item v rfl
      have ht : tup (some v) = .tuple #[.int .i64 v, .bool true] := rfl
      have HM2 : Hid (s2.M l src < k' ∧ s2.M l src < s1.M l src) := Lib.hid (by have h1 := Hfine.out.mle; have h2 := HM.out; simp at h1; omega)
      by_cases hp : v.tmod n = m
      · have hpb : (v.tmod n == m) = true := by rw [beq_iff_eq]; exact hp
        have Hpb := Lib.hid hpb
        clear hp hpb
        go_wp2_with fail
        refine (specKeeps_any 2 (j : Int) xb n m v _ (by have := Hnb.out; omega) true Hpb.out hv).mono ?_
        rintro e w4 ⟨rfl, hb4⟩
        have Hsw4 := Lib.hid ((Hsw.out.below ((Below.refl _ _).alloc (Nat.le_refl _) _)).below hb4)
        have Hfr4 := Lib.hid ((Hfr.out.alloc _).trans (.of_below hb4))
        clear hb4
        go_wp2_with fail
        refine bodyPost_ret (v := .tuple #[.int .i64 v, .bool true]) (by simp [results, Try.results69, go_sem]) rfl ?_
        have hm : doneP i (stemP (fun s => s.M l src + 1) i ⟨2, (j : Int), xb, n, m⟩ f) s = (s2, some v) := doneP_some Hd.out (by simp only [stemP]; exact Hso.out.symm.trans (by simp [someL, Hfs.out, mayF, Hpb.out, PS.put_self hl3]))
        rw [hm]
        exact ⟨rfl, Hsw4.out, Hfr4.out⟩
      · have hpb : (v.tmod n == m) = false := by rw [beq_eq_false_iff_ne]; exact hp
        have Hpb := Lib.hid hpb
        clear hp hpb
        go_wp2_with fail
        refine (specKeeps_any 2 (j : Int) xb n m v _ (by have := Hnb.out; omega) false Hpb.out hv).mono ?_
        rintro e w4 ⟨rfl, hb4⟩
        have Hb4 := Lib.hid (((Below.refl w3.heap.size w3).alloc (Nat.le_refl _) _).trans (hb4.mono (by simp)))
        clear hb4
        go_wp2_with fail
        have hsf : someL i (mayF ⟨2, (j : Int), xb, n, m⟩) f (k' + 1) s1 = someL i (mayF ⟨2, (j : Int), xb, n, m⟩) f k' s2 := by
          simp only [someL, Hfs.out]
          rw [if_neg (by simp [mayF, Hpb.out])]
          rw [PS.put_same hl3 (by rfl)]
        go_roundw
        case rel => exact ⟨k', s2, Hsw.out.below Hb4.out, Hfine.out.ok, by have := Hfine.out.wle; simp only at this; have h2 := Hlg1.out; omega, HM2.out.1, by rw [← Hso.out, hsf], Hfr.out.trans (.of_below Hb4.out), Hkn3.out.below Hb4.out Hkn3.out.lt⟩
        case measure =>
          have e1 := meas_eq (wsum (wAll src) l) (Hsw.out.below Hb4.out).rs Hfine.out.ok.len
          have e2 := meas_eq (wsum (wAll src) l) Hrs1.out Hl1.out
          have h3 := HM2.out.2
          unfold PS.M at h3
          omega

set_option maxRecDepth 100000 in
set_option maxHeartbeats 6400000 in
theorem next_skip {n0 pb cb : Nat} {A : Option Addr} {c : Nat} {l : List Nd} {As : Option Addr} {ca : Nat} {src : List (List Int)} {cc : Nat} (hs : srcOk src = true) {i j : Nat} {xb n m : Int} (hx : l[i]? = some ⟨6, (j : Int), xb, n, m⟩) (hj : j < i) {f : PF} (hF : Fine l src j f) (hN : NextOk n0 pb cb A c l As ca src cc f j)
    (s : PS) (w : World) (h : SW n0 pb cb A c l As ca src cc s w) (ok : StOk l src s.cs) (hlg : s.lg.length + s.W l src ≤ 65536) (hd : (s.at_ i).d = false) :
    Calls Try.prog 69 #[.pointer (some ⟨pb, 0, none⟩), .int .i64 i] w fun e w' => NPost n0 pb cb A c l As ca src cc w (doneP i (stemP (fun s => s.M l src + 1) i ⟨6, (j : Int), xb, n, m⟩ f) s) e w' := by
  have _u1 := hj
  clear _u1
  have hi : i < l.length := (List.getElem?_eq_some_iff.1 hx).1
  have hil : i < s.cs.length := by rw [ok.len]; exact hi
  obtain ⟨b0, b1, b2⟩ := h.bx
  obtain ⟨nb, no, rfl, hnb, y0, y1, y2, y3, y4⟩ := h.nodes.at2 hx
  simp only at y0 y1 y2 y3 y4
  obtain ⟨W1, hW1⟩ : ∃ W1 : World, W1 = w.alloc (.cells #[.int .i64 6, .int .i64 (j : Int), .int .i64 xb, .int .i64 n, .int .i64 m] 97) := ⟨_, rfl⟩
  have hb1 : Below w.heap.size w W1 := by rw [hW1]; exact (Below.refl _ _).alloc (Nat.le_refl _) _
  have kn1 : Bk W1 w.heap.size 97 [.int .i64 6, .int .i64 (j : Int), .int .i64 xb, .int .i64 n, .int .i64 m] := by rw [hW1]; exact Bk.new _ _ [_, _, _, _, _]
  have h1 := h.below hb1
  have hpw := h.rs.ltp
  have hcw := h.rs.ltc
  have H := Lib.hid h
  have H1 := Lib.hid h1
  have Hb1 := Lib.hid hb1
  have HW1 := Lib.hid hW1
  have Hkn := Lib.hid kn1
  have Hok := Lib.hid ok
  have Hd := Lib.hid hd
  have Hx := Lib.hid hx
  have HN := Lib.hid hN
  have HF := Lib.hid hF
  have Hs := Lib.hid hs
  clear h h1 hb1 hW1 kn1 ok hd hx hN hF hs
  go_enter Try.func69, Try.ntmps69
  go_wp2_with fail
  rw [← HW1.out]
  go_loopw [4] (fun _ wr => ∃ (k : Nat) (s1 : PS), SW n0 pb cb (some ⟨nb, no, none⟩) c l As ca src cc s1 wr ∧ StOk l src s1.cs ∧ s1.lg.length + s1.W l src ≤ 65536 ∧ s1.M l src < k ∧ someL i (mayS ⟨6, (j : Int), xb, n, m⟩) f k s1 = someL i (mayS ⟨6, (j : Int), xb, n, m⟩) f (s.M l src + 1) s ∧ Fr n0 pb cb w wr ∧ Bk wr w.heap.size 97 [.int .i64 6, .int .i64 (j : Int), .int .i64 xb, .int .i64 n, .int .i64 m])
    (fun _ wr => Classical.epsilon (fun q => ∃ s2 : PS, RS n0 pb cb 64 (spHd (some ⟨nb, no, none⟩) c l As ca cb cc) [] s2 wr ∧ s2.cs.length = l.length ∧ q = wsum (wAll src) l s2.cs))
  case atStart => exact ⟨_, s, H1.out, Hok.out, hlg, Nat.lt_succ_self _, rfl, .of_below Hb1.out, Hkn.out⟩
  case round =>
    obtain ⟨k, s1, h1, hok1, hlg1, hM, hso, hfr1, hkn1⟩ := hrel
    have hl1 : s1.cs.length = l.length := hok1.len
    obtain ⟨k', rfl⟩ : ∃ k', k = k' + 1 := ⟨k - 1, by omega⟩
    rcases hfs : f s1 with ⟨s2, o⟩
    have hfine := HF.out s1 hok1
    rw [hfs] at hfine
    have Hfine := Lib.hid hfine
    have Hcall := HN.out s1 wr h1 hok1 hlg1
    rw [hfs] at Hcall
    have Hcall := Lib.hid Hcall
    have Hfs := Lib.hid hfs
    have Hso := Lib.hid hso
    have Hrs1 := Lib.hid h1.rs
    have Hfr1 := Lib.hid hfr1
    have Hkn1 := Lib.hid hkn1
    have Hl1 := Lib.hid hl1
    have HM := Lib.hid hM
    have Hlg1 := Lib.hid hlg1
    have k1 := Hkn1.out.cell 1
    have hzr := hfr1.size
    simp only [List.getElem?_cons_succ, List.getElem?_cons_zero] at k1
    clear hfine hfs hso h1 hok1 hlg1 hM hfr1 hkn1 hl1
    go_wp2_with fail
    refine Hcall.out.mono ?_
    rintro e w3 ⟨rfl, sw3, fr3⟩
    have kn3 := fr3.bk Hkn1.out (by decide) (by omega) (by omega)
    obtain ⟨x0, x1, x2, x3, x4⟩ : (w3.cell? ⟨w.heap.size, 0, none⟩ = some (.int .i64 6)) ∧ (w3.cell? ⟨w.heap.size, 1, none⟩ = some (.int .i64 (j : Int))) ∧ (w3.cell? ⟨w.heap.size, 2, none⟩ = some (.int .i64 xb)) ∧ (w3.cell? ⟨w.heap.size, 3, none⟩ = some (.int .i64 n)) ∧ (w3.cell? ⟨w.heap.size, 4, none⟩ = some (.int .i64 m)) := ⟨kn3.cell 0, kn3.cell 1, kn3.cell 2, kn3.cell 3, kn3.cell 4⟩
    obtain ⟨b0', b1', b2'⟩ := sw3.bx
    have hl3 : i < s2.cs.length := by rw [Hfine.out.ok.len]; exact hi
    obtain ⟨c0, c1, c2, c3, c4, c5⟩ := sw3.rs.cl (i := i) hl3
    have g0 := sw3.rs.free (i * 6)
    have g1 := sw3.rs.free (i * 6 + 1)
    have g3 := sw3.rs.free (i * 6 + 3)
    have lt0 := kn3.lt
    have lt1 := sw3.rs.ltp
    have lt2 := sw3.rs.ltc
    have Hsw := Lib.hid sw3
    have Hkn3 := Lib.hid kn3
    have Hfr := Lib.hid (Hfr1.out.trans fr3)
    clear sw3 fr3 kn3
    cases o with
    | none =>
      have ht : tup none = .tuple #[.int .i64 0, .bool false] := rfl
      go_wp2_with fail
      refine (ended_any Hsw.out Hfine.out.ok.len i hi).mono ?_
      rintro e w4 ⟨rfl, sw4, fr4⟩
      have Hsw4 := Lib.hid sw4
      have Hfr4 := Lib.hid (Hfr.out.trans fr4)
      clear sw4 fr4
      go_wp2_with fail
      refine bodyPost_ret (v := .tuple #[.int .i64 0, .bool false]) (by simp [results, Try.results69, go_sem]) rfl ?_
      have hm : doneP i (stemP (fun s => s.M l src + 1) i ⟨6, (j : Int), xb, n, m⟩ f) s = (s2.put i { s2.at_ i with d := true }, none) := doneP_none Hd.out (by simp only [stemP]; exact Hso.out.symm.trans (by simp [someL, Hfs.out]))
      rw [hm]
      exact ⟨rfl, Hsw4.out, Hfr4.out⟩
    | some v =>
      have hv := Hfine.out.item v rfl
      have ht : tup (some v) = .tuple #[.int .i64 v, .bool true] := rfl
      have HM2 : Hid (s2.M l src < k' ∧ s2.M l src < s1.M l src) := Lib.hid (by have h1 := Hfine.out.mle; have h2 := HM.out; simp at h1; omega)
      obtain ⟨q, hq⟩ : ∃ q, (s2.at_ i).n = q := ⟨_, rfl⟩
      rw [hq] at c0
      have Hq := Lib.hid hq
      have q1 := Hsw.out.rs.setN (i := i) hl3 1
      have q2 := (Fr.refl n0 pb cb w3).setc (i * 6) (.int .i64 1)
      have q3 := (Hsw.out.next q1 q2).below ((Below.refl _ _).alloc (Nat.le_refl _) (.cells #[.int .i64 q, .int .i64 (s2.at_ i).l, .int .i64 (s2.at_ i).r, .bool (s2.at_ i).hl, .bool (s2.at_ i).hr, .bool (s2.at_ i).d] 66))
      have q4 := q2.alloc (.cells #[.int .i64 q, .int .i64 (s2.at_ i).l, .int .i64 (s2.at_ i).r, .bool (s2.at_ i).hl, .bool (s2.at_ i).hr, .bool (s2.at_ i).d] 66)
      have Hq3 := Lib.hid q3
      have Hq4 := Lib.hid q4
      clear q1 q2 q3 q4 hq
      by_cases h1 : q = 1
      · have Hp : Hid (mayS ⟨6, (j : Int), xb, n, m⟩ v (s2.at_ i) = ({ s2.at_ i with n := 1 }, true)) := Lib.hid (by
          unfold mayS
          split
          · rfl
          · have e : ({ s2.at_ i with n := 1 } : Cl) = s2.at_ i := by rw [← h1, ← Hq.out]
            rw [e, Hq.out, h1]; rfl)
        subst h1
        go_wp2_with fail
        refine bodyPost_ret (v := .tuple #[.int .i64 v, .bool true]) (by simp [results, Try.results69, go_sem]) rfl ?_
        have hm : doneP i (stemP (fun s => s.M l src + 1) i ⟨6, (j : Int), xb, n, m⟩ f) s = (s2.put i { s2.at_ i with n := 1 }, some v) := doneP_some Hd.out (by simp only [stemP]; exact Hso.out.symm.trans (by simp [someL, Hfs.out, Hp.out]))
        rw [hm]
        exact ⟨rfl, Hq3.out, Hfr.out.trans Hq4.out⟩
      have hq1 : (q == 1) = false := by rw [beq_eq_false_iff_ne]; exact h1
      by_cases hge : n ≤ v
      · have Hp : Hid (mayS ⟨6, (j : Int), xb, n, m⟩ v (s2.at_ i) = ({ s2.at_ i with n := 1 }, true)) := Lib.hid (by unfold mayS; rw [if_pos hge])
        go_wp2_with fail
        refine bodyPost_ret (v := .tuple #[.int .i64 v, .bool true]) (by simp [results, Try.results69, go_sem]) rfl ?_
        have hm : doneP i (stemP (fun s => s.M l src + 1) i ⟨6, (j : Int), xb, n, m⟩ f) s = (s2.put i { s2.at_ i with n := 1 }, some v) := doneP_some Hd.out (by simp only [stemP]; exact Hso.out.symm.trans (by simp [someL, Hfs.out, Hp.out]))
        rw [hm]
        exact ⟨rfl, Hq3.out, Hfr.out.trans Hq4.out⟩
      · have Hp : Hid (mayS ⟨6, (j : Int), xb, n, m⟩ v (s2.at_ i) = (s2.at_ i, false)) := Lib.hid (by unfold mayS; rw [if_neg hge, Hq.out, hq1])
        have Hb4 := Lib.hid ((Below.refl w3.heap.size w3).alloc (Nat.le_refl _) (.cells #[.int .i64 q, .int .i64 (s2.at_ i).l, .int .i64 (s2.at_ i).r, .bool (s2.at_ i).hl, .bool (s2.at_ i).hr, .bool (s2.at_ i).d] 66))
        go_wp2_with fail
        have hsf : someL i (mayS ⟨6, (j : Int), xb, n, m⟩) f (k' + 1) s1 = someL i (mayS ⟨6, (j : Int), xb, n, m⟩) f k' s2 := by
          simp only [someL, Hfs.out]
          rw [if_neg (by rw [Hp.out]; simp)]
          rw [PS.put_same hl3 (by rw [Hp.out])]
        go_roundw
        case rel => exact ⟨k', s2, Hsw.out.below Hb4.out, Hfine.out.ok, by have := Hfine.out.wle; simp only at this; have h2 := Hlg1.out; omega, HM2.out.1, by rw [← Hso.out, hsf], Hfr.out.trans (.of_below Hb4.out), Hkn3.out.below Hb4.out Hkn3.out.lt⟩
        case measure =>
          have e1 := meas_eq (wsum (wAll src) l) (Hsw.out.below Hb4.out).rs Hfine.out.ok.len
          have e2 := meas_eq (wsum (wAll src) l) Hrs1.out Hl1.out
          have h3 := HM2.out.2
          unfold PS.M at h3
          omega

set_option maxRecDepth 100000 in
set_option maxHeartbeats 6400000 in
theorem next_once {n0 pb cb : Nat} {A : Option Addr} {c : Nat} {l : List Nd} {As : Option Addr} {ca : Nat} {src : List (List Int)} {cc : Nat} (hs : srcOk src = true) {i j : Nat} {xb n m : Int} (hx : l[i]? = some ⟨13, (j : Int), xb, n, m⟩) (hj : j < i) {f : PF} (hF : Fine l src j f) (hN : NextOk n0 pb cb A c l As ca src cc f j)
    (s : PS) (w : World) (h : SW n0 pb cb A c l As ca src cc s w) (ok : StOk l src s.cs) (hlg : s.lg.length + s.W l src ≤ 65536) (hd : (s.at_ i).d = false) :
    Calls Try.prog 69 #[.pointer (some ⟨pb, 0, none⟩), .int .i64 i] w fun e w' => NPost n0 pb cb A c l As ca src cc w (doneP i (stemP (fun s => s.M l src + 1) i ⟨13, (j : Int), xb, n, m⟩ f) s) e w' := by
  have _u1 := hj
  clear _u1
  have hi : i < l.length := (List.getElem?_eq_some_iff.1 hx).1
  have hil : i < s.cs.length := by rw [ok.len]; exact hi
  obtain ⟨b0, b1, b2⟩ := h.bx
  obtain ⟨nb, no, rfl, hnb, y0, y1, y2, y3, y4⟩ := h.nodes.at2 hx
  simp only at y0 y1 y2 y3 y4
  obtain ⟨W1, hW1⟩ : ∃ W1 : World, W1 = w.alloc (.cells #[.int .i64 13, .int .i64 (j : Int), .int .i64 xb, .int .i64 n, .int .i64 m] 97) := ⟨_, rfl⟩
  have hb1 : Below w.heap.size w W1 := by rw [hW1]; exact (Below.refl _ _).alloc (Nat.le_refl _) _
  have kn1 : Bk W1 w.heap.size 97 [.int .i64 13, .int .i64 (j : Int), .int .i64 xb, .int .i64 n, .int .i64 m] := by rw [hW1]; exact Bk.new _ _ [_, _, _, _, _]
  have h1 := h.below hb1
  have hpw := h.rs.ltp
  have hcw := h.rs.ltc
  have H := Lib.hid h
  have H1 := Lib.hid h1
  have Hb1 := Lib.hid hb1
  have HW1 := Lib.hid hW1
  have Hkn := Lib.hid kn1
  have Hok := Lib.hid ok
  have Hd := Lib.hid hd
  have Hx := Lib.hid hx
  have HN := Lib.hid hN
  have HF := Lib.hid hF
  have Hs := Lib.hid hs
  clear h h1 hb1 hW1 kn1 ok hd hx hN hF hs
  go_enter Try.func69, Try.ntmps69
  go_wp2_with fail
  rw [← HW1.out]
  go_loopw [4] (fun _ wr => ∃ (k : Nat) (s1 : PS), SW n0 pb cb (some ⟨nb, no, none⟩) c l As ca src cc s1 wr ∧ StOk l src s1.cs ∧ s1.lg.length + s1.W l src ≤ 65536 ∧ s1.M l src < k ∧ someL i (mayO) f k s1 = someL i (mayO) f (s.M l src + 1) s ∧ Fr n0 pb cb w wr ∧ Bk wr w.heap.size 97 [.int .i64 13, .int .i64 (j : Int), .int .i64 xb, .int .i64 n, .int .i64 m])
    (fun _ wr => Classical.epsilon (fun q => ∃ s2 : PS, RS n0 pb cb 64 (spHd (some ⟨nb, no, none⟩) c l As ca cb cc) [] s2 wr ∧ s2.cs.length = l.length ∧ q = wsum (wAll src) l s2.cs))
  case atStart => exact ⟨_, s, H1.out, Hok.out, hlg, Nat.lt_succ_self _, rfl, .of_below Hb1.out, Hkn.out⟩
  case round =>
    obtain ⟨k, s1, h1, hok1, hlg1, hM, hso, hfr1, hkn1⟩ := hrel
    have hl1 : s1.cs.length = l.length := hok1.len
    obtain ⟨k', rfl⟩ : ∃ k', k = k' + 1 := ⟨k - 1, by omega⟩
    rcases hfs : f s1 with ⟨s2, o⟩
    have hfine := HF.out s1 hok1
    rw [hfs] at hfine
    have Hfine := Lib.hid hfine
    have Hcall := HN.out s1 wr h1 hok1 hlg1
    rw [hfs] at Hcall
    have Hcall := Lib.hid Hcall
    have Hfs := Lib.hid hfs
    have Hso := Lib.hid hso
    have Hrs1 := Lib.hid h1.rs
    have Hfr1 := Lib.hid hfr1
    have Hkn1 := Lib.hid hkn1
    have Hl1 := Lib.hid hl1
    have HM := Lib.hid hM
    have Hlg1 := Lib.hid hlg1
    have k1 := Hkn1.out.cell 1
    have hzr := hfr1.size
    simp only [List.getElem?_cons_succ, List.getElem?_cons_zero] at k1
    clear hfine hfs hso h1 hok1 hlg1 hM hfr1 hkn1 hl1
    go_wp2_with fail
    refine Hcall.out.mono ?_
    rintro e w3 ⟨rfl, sw3, fr3⟩
    have kn3 := fr3.bk Hkn1.out (by decide) (by omega) (by omega)
    obtain ⟨x0, x1, x2, x3, x4⟩ : (w3.cell? ⟨w.heap.size, 0, none⟩ = some (.int .i64 13)) ∧ (w3.cell? ⟨w.heap.size, 1, none⟩ = some (.int .i64 (j : Int))) ∧ (w3.cell? ⟨w.heap.size, 2, none⟩ = some (.int .i64 xb)) ∧ (w3.cell? ⟨w.heap.size, 3, none⟩ = some (.int .i64 n)) ∧ (w3.cell? ⟨w.heap.size, 4, none⟩ = some (.int .i64 m)) := ⟨kn3.cell 0, kn3.cell 1, kn3.cell 2, kn3.cell 3, kn3.cell 4⟩
    obtain ⟨b0', b1', b2'⟩ := sw3.bx
    have hl3 : i < s2.cs.length := by rw [Hfine.out.ok.len]; exact hi
    obtain ⟨c0, c1, c2, c3, c4, c5⟩ := sw3.rs.cl (i := i) hl3
    have g0 := sw3.rs.free (i * 6)
    have g1 := sw3.rs.free (i * 6 + 1)
    have g3 := sw3.rs.free (i * 6 + 3)
    have lt0 := kn3.lt
    have lt1 := sw3.rs.ltp
    have lt2 := sw3.rs.ltc
    have Hsw := Lib.hid sw3
    have Hkn3 := Lib.hid kn3
    have Hfr := Lib.hid (Hfr1.out.trans fr3)
    clear sw3 fr3 kn3
    cases o with
    | none =>
      have ht : tup none = .tuple #[.int .i64 0, .bool false] := rfl
      go_wp2_with fail
      refine (ended_any Hsw.out Hfine.out.ok.len i hi).mono ?_
      rintro e w4 ⟨rfl, sw4, fr4⟩
      have Hsw4 := Lib.hid sw4
      have Hfr4 := Lib.hid (Hfr.out.trans fr4)
      clear sw4 fr4
      go_wp2_with fail
      refine bodyPost_ret (v := .tuple #[.int .i64 0, .bool false]) (by simp [results, Try.results69, go_sem]) rfl ?_
      have hm : doneP i (stemP (fun s => s.M l src + 1) i ⟨13, (j : Int), xb, n, m⟩ f) s = (s2.put i { s2.at_ i with d := true }, none) := doneP_none Hd.out (by simp only [stemP]; exact Hso.out.symm.trans (by simp [someL, Hfs.out]))
      rw [hm]
      exact ⟨rfl, Hsw4.out, Hfr4.out⟩
    | some v =>
      have hv := Hfine.out.item v rfl
      have ht : tup (some v) = .tuple #[.int .i64 v, .bool true] := rfl
      have HM2 : Hid (s2.M l src < k' ∧ s2.M l src < s1.M l src) := Lib.hid (by have h1 := Hfine.out.mle; have h2 := HM.out; simp at h1; omega)
      obtain ⟨b, hb⟩ : ∃ b, (s2.at_ i).hl = b := ⟨_, rfl⟩
      obtain ⟨q, hq⟩ : ∃ q, (s2.at_ i).l = q := ⟨_, rfl⟩
      rw [hb] at c3
      rw [hq] at c1
      have Hb := Lib.hid hb
      have Hq := Lib.hid hq
      have q1 := Hsw.out.rs.setHL (i := i) hl3 true
      have q1' := q1.setL (i := i) (by simp only [PS.put, List.length_set]; exact hl3) v
      rw [PS.at_put hl3, PS.put_put] at q1'
      simp only at q1'
      have q2 := ((Fr.refl n0 pb cb w3).setc (i * 6 + 3) (.bool true)).setc (i * 6 + 1) (.int .i64 v)
      have q3 := (Hsw.out.next q1' q2).below ((Below.refl _ _).alloc (Nat.le_refl _) (.cells #[.int .i64 (s2.at_ i).n, .int .i64 q, .int .i64 (s2.at_ i).r, .bool b, .bool (s2.at_ i).hr, .bool (s2.at_ i).d] 66))
      have q4 := q2.alloc (.cells #[.int .i64 (s2.at_ i).n, .int .i64 q, .int .i64 (s2.at_ i).r, .bool b, .bool (s2.at_ i).hr, .bool (s2.at_ i).d] 66)
      obtain ⟨z0, z1, z2⟩ := ((Hsw.out.next q1 ((Fr.refl n0 pb cb w3).setc (i * 6 + 3) (.bool true))).below ((Below.refl _ _).alloc (Nat.le_refl _) (.cells #[.int .i64 (s2.at_ i).n, .int .i64 q, .int .i64 (s2.at_ i).r, .bool b, .bool (s2.at_ i).hr, .bool (s2.at_ i).d] 66))).bx
      obtain ⟨t0, t1, t2, t3, t4, t5⟩ := (q1.alloc (.cells #[.int .i64 (s2.at_ i).n, .int .i64 q, .int .i64 (s2.at_ i).r, .bool b, .bool (s2.at_ i).hr, .bool (s2.at_ i).d] 66)).cl (i := i) (by simp only [PS.put, List.length_set]; exact hl3)
      rw [PS.at_put hl3] at t1
      simp only at t1
      rw [hq] at t1
      have u1 := (q1.alloc (.cells #[.int .i64 (s2.at_ i).n, .int .i64 q, .int .i64 (s2.at_ i).r, .bool b, .bool (s2.at_ i).hr, .bool (s2.at_ i).d] 66)).free (i * 6 + 1)
      have Hq3 := Lib.hid q3
      have Hq4 := Lib.hid q4
      clear q1 q1' q2 q3 q4 hq hb t0 t2 t3 t4 t5
      cases b with
      | false =>
        have Hp : Hid (mayO v (s2.at_ i) = ({ s2.at_ i with l := v, hl := true }, true)) := Lib.hid (by unfold mayO; rw [Hb.out]; rfl)
        go_wp2_with fail
        refine bodyPost_ret (v := .tuple #[.int .i64 v, .bool true]) (by simp [results, Try.results69, go_sem]) rfl ?_
        have hm : doneP i (stemP (fun s => s.M l src + 1) i ⟨13, (j : Int), xb, n, m⟩ f) s = (s2.put i { s2.at_ i with l := v, hl := true }, some v) := doneP_some Hd.out (by simp only [stemP]; exact Hso.out.symm.trans (by simp [someL, Hfs.out, Hp.out]))
        rw [hm]
        exact ⟨rfl, Hq3.out, Hfr.out.trans Hq4.out⟩
      | true =>
        by_cases hne : q = v
        · have Hp : Hid (mayO v (s2.at_ i) = (s2.at_ i, false)) := Lib.hid (by
            have e : ({ s2.at_ i with l := v, hl := true } : Cl) = s2.at_ i := by rw [← hne, ← Hq.out, ← Hb.out]
            unfold mayO
            rw [e, Hb.out, Hq.out, hne]
            simp)
          subst hne
          have Hb4 := Lib.hid ((Below.refl w3.heap.size w3).alloc (Nat.le_refl _) (.cells #[.int .i64 (s2.at_ i).n, .int .i64 q, .int .i64 (s2.at_ i).r, .bool true, .bool (s2.at_ i).hr, .bool (s2.at_ i).d] 66))
          go_wp2_with fail
          have hsf : someL i (mayO) f (k' + 1) s1 = someL i (mayO) f k' s2 := by
            simp only [someL, Hfs.out]
            rw [if_neg (by rw [Hp.out]; simp)]
            rw [PS.put_same hl3 (by rw [Hp.out])]
          go_roundw
          case rel => exact ⟨k', s2, Hsw.out.below Hb4.out, Hfine.out.ok, by have := Hfine.out.wle; simp only at this; have h2 := Hlg1.out; omega, HM2.out.1, by rw [← Hso.out, hsf], Hfr.out.trans (.of_below Hb4.out), Hkn3.out.below Hb4.out Hkn3.out.lt⟩
          case measure =>
            have e1 := meas_eq (wsum (wAll src) l) (Hsw.out.below Hb4.out).rs Hfine.out.ok.len
            have e2 := meas_eq (wsum (wAll src) l) Hrs1.out Hl1.out
            have h3 := HM2.out.2
            unfold PS.M at h3
            omega

        · have Hp : Hid (mayO v (s2.at_ i) = ({ s2.at_ i with l := v, hl := true }, true)) := Lib.hid (by unfold mayO; rw [Hb.out, Hq.out]; simp [hne])
          have hnb : (q != v) = true := by simp [hne]
          go_wp2_with fail
          refine bodyPost_ret (v := .tuple #[.int .i64 v, .bool true]) (by simp [results, Try.results69, go_sem]) rfl ?_
          have hm : doneP i (stemP (fun s => s.M l src + 1) i ⟨13, (j : Int), xb, n, m⟩ f) s = (s2.put i { s2.at_ i with l := v, hl := true }, some v) := doneP_some Hd.out (by simp only [stemP]; exact Hso.out.symm.trans (by simp [someL, Hfs.out, Hp.out]))
          rw [hm]
          exact ⟨rfl, Hq3.out, Hfr.out.trans Hq4.out⟩


end Go.Proofs.Ythfniffecceldaa
