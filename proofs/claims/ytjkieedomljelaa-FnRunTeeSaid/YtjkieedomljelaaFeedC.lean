/- A reader of a feed reads an item. -/
import Derived.Test.YtjkieedomljelaaFeedB
namespace Go.Proofs.Ytjkieedomljelaa
open Go.RowKit Go.Conc Go.Deep

theorem recv_run {o : Oper} {a : Act} {w : World} {x : Operand} {c : Nat} (ho : o.op = .recv 87 x false) (hx : a.eval x = .chan (some c)) :
    (execOp a.eval o).run Try.prog w = .ok (.comm #[rcase c (.int .i64 0)] true (.recv false)) w := by
  have hz : ∃ i, Try.prog.info? 3 = some i ∧ i.zero = some (.int .i64 0) := by
    have h : (Try.prog.info? 3).map (fun i => (i.zero, i.size, i.bytes)) = some (some (.int .i64 0), 1, 8) := by kernel_rfl
    obtain ⟨i, hi, hz, _⟩ := info_parts h
    exact ⟨i, hi, hz⟩
  obtain ⟨i, hi, hz⟩ := hz
  simp only [execOp, ho, hx]
  simp [go_sem, zeroValue, typeInfo, hi, hz, rcase]

theorem upT_ok {t : Te} (h : TeeOk t) (hl : t.fd < t.it.length) : TeeOk (upT t) := by
  obtain ⟨h1, h2, h3, h4, h5, h6, h7, h8⟩ := h
  refine ⟨h1, h2, by show 0 ≤ t.fd + 1; omega, by show t.fd + 1 ≤ t.it.length; omega, ?_, h6, h7, h8⟩
  rw [allB, List.all_eq_true] at h5 ⊢
  intro x hx
  have := inR_iff.1 (h5 x hx)
  exact inR_iff.2 ⟨this.1, by show x ≤ t.fd + 1; omega⟩
theorem len_chan_run (w : World) (c cap s r : Nat) (buf : Array Value) (cl : Bool) (ty : TypeId) (h : w.heap[c]? = some (.chan cap buf cl s r false)) :
    (Builtin.len_ #[87] ty #[.chan (some c)]).run Try.prog w = .ok (.int .i64 buf.size) w := by
  have hg : (getObj c).run Try.prog w = .ok (.chan cap buf cl s r false) w := by simp [getObj, Sem.run, h]
  simp [Builtin.len_, go_sem, hg]

set_option maxRecDepth 100000 in
set_option maxHeartbeats 6400000 in
theorem read_any (z : Fl) (t : Te) (c : Nat) (w : World) (h : FeedAt w z t (bsOf t)) (hok : TeeOk t) (hc : t.op[c]? = some true) :
    Calls Try.prog 66 #[.pointer (some ⟨z.F, 0, none⟩), .int .i64 c] w fun e w' => e = .returned (.tuple #[.int .i64 (readX t c), .bool (readB t c)]) ∧ Chg z.s0 z.s1 w w' ∧ FeedAt w' z (readT t c) (bsOf (readT t c)) := by
  have hcl : c < t.pl.length := by rw [← hok.open_]; exact (List.getElem?_eq_some_iff.1 hc).1
  have hcl2 : c < t.op.length := (List.getElem?_eq_some_iff.1 hc).1
  obtain ⟨u, hu⟩ := get_of_lt t.pl hcl
  have hu0 := place_ok hok hu
  have hfd1 := hok.fed1
  have hl12 := hok.len
  obtain ⟨p, hp⟩ : ∃ p : Nat, u = p := ⟨u.toNat, by omega⟩
  subst hp
  have hgd : t.pl.getD c 0 = (p : Int) := by rw [List.getD_eq_getElem?_getD, hu]; rfl
  obtain ⟨s1, r1, hbuf⟩ := h.buf c hc
  obtain ⟨cs, hcs, hcsl, hcc⟩ := h.chs
  have c4 := h.cells.2.2.2.2
  have cq : w.cell? ⟨z.gb, c, none⟩ = some (.chan (some (z.q c))) := (hcs.cell c).trans (hcc c hc)
  have hFl := h.box.lt
  have Hgd := Lib.hid hgd
  have Hc := Lib.hid (Chg.refl z.s0 z.s1 w)
  by_cases hlt : (p : Int) < t.fd
  · have hne : bsOf t c ≠ [] := fun e => by have := (bsOf_nil hok hu).1 e; omega
    have hlen := bsOf_len hok hu
    have hlc := len_chan_run w (z.q c) 12 s1 r1 (ints (bsOf t c)).toArray false 3 hbuf
    obtain ⟨m, hm⟩ : ∃ m : Nat, (ints (bsOf t c)).toArray.size = m + 1 := ⟨(bsOf t c).length - 1, by simp [ints]; omega⟩
    rw [hm] at hlc
    have hb0 : (((m + 1 : Nat) : Int) == 0) = false := by simp; omega
    have Hfd := Lib.hid h
    have HokT := Lib.hid hok
    have HpT := Lib.hid hlt
    have Hpl : Hid (p < t.it.length) := Lib.hid (by omega)
    have HreadT : Hid (readT t c = { t with pl := t.pl.set c ((p : Int) + 1) }) := Lib.hid (by
      unfold readT
      rw [hgd, Int.toNat_natCast, if_pos (by omega), show max t.fd ((p : Int) + 1) = t.fd by omega])
    clear h hok hcs hcsl hcc hbuf hne hlen hm hgd hlt
    go_enter Try.func66, Try.ntmps66
    generalize hR : Code.region 4 _ false = R
    have hpT : (t).pl[c]? = some (p : Int) := hu
    have hcT : (t).op[c]? = some true := hc
    obtain ⟨g, o, u', hA2, hu', hcu, hfu, hg0, hg1, hgF, hgb, hset⟩ := Hfd.out.place hcl
    have hpp : u' = (p : Int) := Option.some.inj (hu'.symm.trans hpT)
    subst hpp
    have cp2 := Hfd.out.cells.2.2.1
    rw [hA2] at cp2
    have hFl2 := Hfd.out.box.lt
    have hgl : g < w.heap.size := by have := Hfd.out.top; omega
    have HA2 := Lib.hid hA2
    have Hset := Lib.hid hset
    clear hA2 hset hu'
    go_wp2_with fail
    generalize hV : World.setCell w _ _ = V
    have hfV : FeedAt V z { t with pl := (t).pl.set c ((p : Int) + 1) } (bsOf (t)) := by rw [← hV]; exact Hset.out _
    have HcV := Lib.hid (show Chg z.s0 z.s1 w V by rw [← hV]; exact Hc.out.set hg0 hg1 _ _)
    obtain ⟨x, hx⟩ := get_of_lt t.it (k := p) Hpl.out
    have hbs : bsOf (t) c = x :: bsOf { t with pl := (t).pl.set c ((p : Int) + 1) } c := bsOf_read HokT.out hpT (by have := HpT.out; omega) hx
    obtain ⟨s2, r2, hbuf2⟩ := hfV.buf c hcT
    rw [hbs] at hbuf2
    obtain ⟨cs2, hcs2, hcsl2, hcc2⟩ := hfV.chs
    have cV4 := hfV.cells.2.2.2.2
    have cVq : V.cell? ⟨z.gb, c, none⟩ = some (.chan (some (z.q c))) := (hcs2.cell c).trans (hcc2 c hcT)
    have hFV := hfV.box.lt
    have hpop := hfV.pop hcT hbs s2 (r2 + 1)
    rw [hbs] at hpop
    have Hpop := Lib.hid hpop
    have Hbuf2 := Lib.hid hbuf2
    have Hx := Lib.hid hx
    have Hqs := Lib.hid (hfV.lay.qs c hcT)
    clear hV hfV hbuf2 hcs2 hcsl2 hcc2 hpop hx hbs hpT hcT
    rw [← hR]
    refine wp_region_mid 7 (by decide) (by simp) ?_
    simp only [List.take_succ_cons, List.take_zero, List.drop_succ_cons, List.drop_zero]
    go_wp2_with fail
    refine OpGo.recv (c := z.q c) rfl rfl (recv_run rfl rfl) Hbuf2.out (by simp [ints]) ?_
    have eg : got false ((ints (x :: bsOf { t with pl := (t).pl.set c ((p : Int) + 1) } c)).toArray.getD 0 undef) true = .int .i64 x := rfl
    rw [eg]
    generalize hZ : World.setChan V _ _ _ _ _ _ _ = Z
    rw [hZ] at Hpop
    have HcZ := Lib.hid (show Chg z.s0 z.s1 w Z by rw [← hZ]; exact HcV.out.chan _ _ _ _ _ _ Hqs.out.1 Hqs.out.2.1)
    clear hZ eg
    simp only [Act.put]
    go_wp2_with fail
    simp only [Only]
    go_wp2_with fail
    have hrd : readT t c = { t with pl := (t).pl.set c ((p : Int) + 1) } := HreadT.out
    have hrx : readX t c = x := by
      unfold readX
      rw [Hgd.out, Int.toNat_natCast, if_pos Hpl.out, List.getD_eq_getElem?_getD, Hx.out]
      rfl
    have hrb : readB t c = true := by
      unfold readB
      rw [Hgd.out, Int.toNat_natCast]
      exact decide_eq_true Hpl.out
    refine bodyPost_ret (v := .tuple #[.int .i64 x, .bool true]) (by simp [results, Try.results66, go_sem]) rfl ?_
    refine ⟨by rw [hrx, hrb], HcZ.out, ?_⟩
    rw [hrd]
    refine Hpop.out.congr fun d hd => ?_
    by_cases e : d = c
    · subst e
      rw [if_pos rfl]
    · rw [if_neg e, bsOf_other _ e]
  have hpf : (p : Int) = t.fd := by omega
  have hnil : bsOf t c = [] := (bsOf_nil hok hu).2 hpf
  rw [hnil] at hbuf
  have hlc := len_chan_run w (z.q c) 12 s1 r1 (ints []).toArray false 3 hbuf
  have e0 : ((ints []).toArray.size : Int) = 0 := rfl
  rw [e0] at hlc
  by_cases hend : t.fd < t.it.length
  rotate_left
  · have Hd := Lib.hid (decide_eq_false hend)
    have Hft : Hid (fedT t = t) := Lib.hid (by unfold fedT; rw [if_neg hend])
    have H := Lib.hid h
    have Hok := Lib.hid hok
    have Hpf := Lib.hid hpf
    have Hend : Hid (¬ t.fd < t.it.length) := hend
    clear h hok hcs hcsl hcc hbuf hnil e0 hgd hend hpf
    go_enter Try.func66, Try.ntmps66
    go_wp2_with fail
    refine (pull_any z t w H.out Hok.out).mono ?_
    rintro e w1 ⟨rfl, hc1, hf1⟩
    rw [Hd.out]
    rw [Hft.out] at hf1
    have Hc1 := Lib.hid hc1
    have Hf1 := Lib.hid hf1
    clear hc1 hf1
    go_wp2_with fail
    have hpf := Hpf.out
    have hend := Hend.out
    have hpl : ¬ p < t.it.length := by omega
    refine bodyPost_ret (v := .tuple #[.int .i64 0, .bool false]) (by simp [results, Try.results66, go_sem]) rfl ⟨?_, Hc1.out, ?_⟩
    · unfold readX readB
      rw [Hgd.out, Int.toNat_natCast, if_neg hpl, decide_eq_false hpl]
    · unfold readT
      rw [Hgd.out, Int.toNat_natCast, if_neg hpl]
      exact Hf1.out
  · have Hd := Lib.hid (decide_eq_true hend)
    have Hft : Hid (fedT t = upT t) := Lib.hid (by unfold fedT; rw [if_pos hend])
    have H := Lib.hid h
    have Hok := Lib.hid hok
    have Hpf := Lib.hid hpf
    have Hpl : Hid (p < t.it.length) := Lib.hid (by omega)
    have HokT : Hid (TeeOk (upT t)) := Lib.hid (upT_ok hok hend)
    have HpT : Hid ((p : Int) < (upT t).fd) := Lib.hid (by show (p : Int) < t.fd + 1; omega)
    have HreadT : Hid (readT t c = { upT t with pl := (upT t).pl.set c ((p : Int) + 1) }) := Lib.hid (by
      unfold readT upT
      rw [hgd, Int.toNat_natCast, if_pos (by omega), show max t.fd ((p : Int) + 1) = t.fd + 1 by omega])
    clear h hok hcs hcsl hcc hbuf hnil e0 hgd hpf
    go_enter Try.func66, Try.ntmps66
    generalize hR : Code.region 4 _ false = R
    go_wp2_with fail
    refine (pull_any z t w H.out Hok.out).mono ?_
    rintro e w1 ⟨rfl, hc1, hf1⟩
    rw [Hd.out]
    rw [Hft.out] at hf1
    replace Hc := Lib.hid hc1
    have Hfd := Lib.hid hf1
    have hz1 := hc1.size
    clear hc1 hf1 c4 cq hlc hFl
    have hpT : (upT t).pl[c]? = some (p : Int) := hu
    have hcT : (upT t).op[c]? = some true := hc
    obtain ⟨g, o, u', hA2, hu', hcu, hfu, hg0, hg1, hgF, hgb, hset⟩ := Hfd.out.place hcl
    have hpp : u' = (p : Int) := Option.some.inj (hu'.symm.trans hpT)
    subst hpp
    have cp2 := Hfd.out.cells.2.2.1
    rw [hA2] at cp2
    have hFl2 := Hfd.out.box.lt
    have hgl : g < w1.heap.size := by have := Hfd.out.top; omega
    have HA2 := Lib.hid hA2
    have Hset := Lib.hid hset
    clear hA2 hset hu'
    go_wp2_with fail
    generalize hV : World.setCell w1 _ _ = V
    have hfV : FeedAt V z { upT t with pl := (upT t).pl.set c ((p : Int) + 1) } (bsOf (upT t)) := by rw [← hV]; exact Hset.out _
    have HcV := Lib.hid (show Chg z.s0 z.s1 w V by rw [← hV]; exact Hc.out.set hg0 hg1 _ _)
    obtain ⟨x, hx⟩ := get_of_lt t.it (k := p) Hpl.out
    have hbs : bsOf (upT t) c = x :: bsOf { upT t with pl := (upT t).pl.set c ((p : Int) + 1) } c := bsOf_read HokT.out hpT (by have := HpT.out; omega) hx
    obtain ⟨s2, r2, hbuf2⟩ := hfV.buf c hcT
    rw [hbs] at hbuf2
    obtain ⟨cs2, hcs2, hcsl2, hcc2⟩ := hfV.chs
    have cV4 := hfV.cells.2.2.2.2
    have cVq : V.cell? ⟨z.gb, c, none⟩ = some (.chan (some (z.q c))) := (hcs2.cell c).trans (hcc2 c hcT)
    have hFV := hfV.box.lt
    have hpop := hfV.pop hcT hbs s2 (r2 + 1)
    rw [hbs] at hpop
    have Hpop := Lib.hid hpop
    have Hbuf2 := Lib.hid hbuf2
    have Hx := Lib.hid hx
    have Hqs := Lib.hid (hfV.lay.qs c hcT)
    clear hV hfV hbuf2 hcs2 hcsl2 hcc2 hpop hx hbs hpT hcT
    rw [← hR]
    refine wp_region_mid 7 (by decide) (by simp) ?_
    simp only [List.take_succ_cons, List.take_zero, List.drop_succ_cons, List.drop_zero]
    go_wp2_with fail
    refine OpGo.recv (c := z.q c) rfl rfl (recv_run rfl rfl) Hbuf2.out (by simp [ints]) ?_
    have eg : got false ((ints (x :: bsOf { upT t with pl := (upT t).pl.set c ((p : Int) + 1) } c)).toArray.getD 0 undef) true = .int .i64 x := rfl
    rw [eg]
    generalize hZ : World.setChan V _ _ _ _ _ _ _ = Z
    rw [hZ] at Hpop
    have HcZ := Lib.hid (show Chg z.s0 z.s1 w Z by rw [← hZ]; exact HcV.out.chan _ _ _ _ _ _ Hqs.out.1 Hqs.out.2.1)
    clear hZ eg
    simp only [Act.put]
    go_wp2_with fail
    simp only [Only]
    go_wp2_with fail
    have hrd : readT t c = { upT t with pl := (upT t).pl.set c ((p : Int) + 1) } := HreadT.out
    have hrx : readX t c = x := by
      unfold readX
      rw [Hgd.out, Int.toNat_natCast, if_pos Hpl.out, List.getD_eq_getElem?_getD, Hx.out]
      rfl
    have hrb : readB t c = true := by
      unfold readB
      rw [Hgd.out, Int.toNat_natCast]
      exact decide_eq_true Hpl.out
    refine bodyPost_ret (v := .tuple #[.int .i64 x, .bool true]) (by simp [results, Try.results66, go_sem]) rfl ?_
    refine ⟨by rw [hrx, hrb], HcZ.out, ?_⟩
    rw [hrd]
    refine Hpop.out.congr fun d hd => ?_
    by_cases e : d = c
    · subst e
      rw [if_pos rfl]
    · rw [if_neg e, bsOf_other _ e]

end Go.Proofs.Ytjkieedomljelaa
