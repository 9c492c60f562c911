/- A feed pulls an item: it is sent to all open readers. -/
import Derived.Test.YtjkieedomljelaaFeed
import Derived.BigQuiet
import Derived.Deep.RegionHeld3
namespace Go.Proofs.Ytjkieedomljelaa
open Go.RowKit Go.Conc Go.Deep

/-- A tee of which one item more is fed, if there is one. -/
def upT (t : Te) : Te := { t with fd := t.fd + 1 }
def fedT (t : Te) : Te := if t.fd < t.it.length then upT t else t

theorem send_run {P : Program} {o : Oper} {a : Act} {w : World} {x y : Operand} {c : Nat} {v : Value} (ho : o.op = .send x y) (hx : a.eval x = .chan (some c)) (hy : a.eval y = v) :
    (execOp a.eval o).run P w = .ok (.comm #[scase c v (.tuple #[])] true .send) w := by
  simp only [execOp, ho, hx, hy]
  rfl

set_option maxRecDepth 100000 in
set_option maxHeartbeats 6400000 in
theorem pull_any (z : Fl) (t : Te) (w : World) (h : FeedAt w z t (bsOf t)) (hok : TeeOk t) :
    Calls Try.prog 90 #[.pointer (some ⟨z.F, 0, none⟩)] w fun e w' => e = .returned (.bool (decide (t.fd < t.it.length))) ∧ Chg z.s0 z.s1 w w' ∧ FeedAt w' z (fedT t) (bsOf (fedT t)) := by
  obtain ⟨c0, c1, c2, c3, c4⟩ := h.cells
  have hF := h.box.lt
  have H := Lib.hid h
  have Hok := Lib.hid hok
  have hf0 := hok.fed0
  have hf1 := hok.fed1
  have hl12 := hok.len
  clear h
  have hop4 : t.op.length ≤ 4 := by rw [hok.open_]; exact hok.many1
  clear hok
  by_cases hlt : t.fd < t.it.length
  rotate_left
  · have he : t.fd = t.it.length := by omega
    have hb : (t.fd == (t.it.length : Int)) = true := by simp [he]
    have Hlt := Lib.hid (decide_eq_false hlt)
    have hfd : fedT t = t := by unfold fedT; rw [if_neg hlt]
    have Hfd := Lib.hid hfd
    clear hlt he hfd
    go_enter Try.func90, Try.ntmps90
    go_wp2_with fail
    go_quiet (fail)
    all_goals go_wp2_with fail
    go_ret
    exact ⟨ret_bool Hlt.out.symm, (Chg.refl _ _ _).drewN_ _, by rw [Hfd.out]; exact H.out.drewN _⟩
  have hb : (t.fd == (t.it.length : Int)) = false := by simp; omega
  have hflt := hlt
  obtain ⟨f, hf⟩ : ∃ f : Nat, t.fd = f := ⟨t.fd.toNat, by omega⟩
  have hfl : f < t.it.length := by omega
  obtain ⟨ad, x, hA1, hx, hcx⟩ := (H.out.own.rd.it).at_ hfl
  have hfd : fedT t = upT t := by unfold fedT; rw [if_pos hlt]
  have Hfdd := Lib.hid hfd
  have Hlt := Lib.hid (decide_eq_true hlt)
  have Hx := Lib.hid (show t.it[t.fd.toNat]? = some x by rw [hf]; exact hx)
  rw [hf] at hb
  rw [hf] at c1
  rw [hA1] at c0
  have hfree := H.out.box.free 1
  have hw1 : IntKind.i64.wrap ((f : Int) + 1) = (f : Int) + 1 := IntWalk.i64_in _ (by omega)
  have Hf := Lib.hid hf
  have HA1 := Lib.hid hA1
  clear hx hlt hA1 hfd hf
  go_enter Try.func90, Try.ntmps90
  go_wp2_with fail
  go_quiet (fail)
  all_goals go_wp2_with fail
  go_quiet (fail)
  all_goals go_wp2_with fail
  generalize hV : World.setCell (World.drewN w _) ⟨z.F, 1, none⟩ (.int .i64 ((f : Int) + 1)) = V
  have hfed : FeedAt V z (upT t) (bsOf t) := by rw [← hV, upT, Hf.out]; exact (H.out.drewN _).fed _
  have Hc := Lib.hid (show Chg z.s0 z.s1 w V by rw [← hV]; exact ((Chg.refl _ _ _).drewN_ _).set H.out.lay.F0 H.out.lay.F1 _ _)
  have Hfed := Lib.hid hfed
  clear hV hfed c0 c1 c2 c3 c4 hfree hcx hF
  go_loopw [45] (fun i wr => ∃ k : Nat, k ≤ t.op.length ∧ i = .int .i64 k ∧ Hid (Chg z.s0 z.s1 w wr) ∧ Hid (FeedAt wr z (upT t) (fun c => if c < k then bsOf t c ++ [x] else bsOf t c))) (fun i _ => t.op.length - (intOf i).toNat)
  case atStart => exact ⟨0, Nat.zero_le _, rfl, Hc, Lib.hid (Hfed.out.congr fun c _ => by simp)⟩
  case round =>
    obtain ⟨k, hk, rfl, Hc, Hfd⟩ := hrel
    by_cases hlt : k < t.op.length
    · obtain ⟨ad3, b, hA3, hb3, hcb⟩ := (Hfd.out.own.rd.op).at_ (k := k) hlt
      have hA3' : z.r.a3 = some ad3 := hA3
      have Hb3 := Lib.hid hb3
      rw [hA3']
      clear hA3 hA3' hb3
      generalize hR : Code.region 9 _ false = R
      cases b
      · go_wp2_with fail
        go_roundw
        case rel =>
          refine ⟨k + 1, by omega, by go_num, Hc, Lib.hid (Hfd.out.congr fun c hc => ?_)⟩
          have hck : c ≠ k := fun e => by subst e; have := Hb3.out.symm.trans hc; simp at this
          by_cases h1 : c < k
          · rw [if_pos h1, if_pos (by omega)]
          · rw [if_neg h1, if_neg (by omega)]
        case measure => simp [intOf]; omega
      · obtain ⟨cs, hcs, hcl, hcc⟩ := Hfd.out.chs
        have hop : (upT t).op[k]? = some true := Hb3.out
        have c4 : wr.cell? ⟨z.F, 4, none⟩ = some (.slice (some ⟨z.gb, 0, none⟩) t.op.length z.nb) := Hfd.out.cells.2.2.2.2
        have cq : wr.cell? ⟨z.gb, k, none⟩ = some (.chan (some (z.q k))) := (hcs.cell k).trans (hcc k hop)
        obtain ⟨s1, r1, hbuf⟩ := Hfd.out.buf k hop
        simp only [Nat.lt_irrefl, if_false] at hbuf
        have hFl := Hfd.out.box.lt
        have hroom : (ints (bsOf t k)).toArray.size < 12 := by
          obtain ⟨u, hu⟩ := get_of_lt t.pl (k := k) (by rw [← Hok.out.open_]; exact hlt)
          have := bsOf_len Hok.out hu
          simp [ints]
          omega
        have Hbuf := Lib.hid hbuf
        have Hroom := Lib.hid hroom
        have Hop := Lib.hid hop
        clear hcs hcl hcc hop hbuf hroom
        go_wp2_with fail
        rw [← hR]
        refine wp_region_mid 8 (by decide) (by simp) ?_
        simp only [List.take_succ_cons, List.take_zero, List.drop_succ_cons, List.drop_zero]
        go_wp2_with fail
        refine OpGo.send (c := z.q k) (v := .int .i64 x) rfl rfl (send_run rfl rfl rfl) Hbuf.out Hroom.out ?_
        refine wpList_nil ?_
        simp only [Only, Act.put]
        go_wp2_with fail
        go_roundw
        case rel =>
          have hq := Hfd.out.lay.qs k Hop.out
          have hp := Hfd.out.pushL Hop.out x (s1 + 1) r1
          simp only [Nat.lt_irrefl, if_false] at hp
          refine ⟨k + 1, by omega, by go_num, Lib.hid (Hc.out.chan _ _ _ _ _ _ hq.1 hq.2.1), Lib.hid (hp.congr fun c hc => ?_)⟩
          by_cases h2 : c = k
          · subst h2
            rw [if_pos rfl, if_pos (by omega)]
          · rw [if_neg h2]
            by_cases h1 : c < k
            · rw [if_pos h1, if_pos (by omega)]
            · rw [if_neg h1, if_neg (by omega)]
        case measure => simp [intOf]; omega
    · obtain rfl : k = t.op.length := by omega
      go_wp2_with fail
      go_ret
      refine ⟨ret_bool Hlt.out.symm, Hc.out, ?_⟩
      rw [Hfdd.out]
      refine Hfd.out.congr fun c hc => ?_
      have hcl : c < t.op.length := (List.getElem?_eq_some_iff.1 hc).1
      obtain ⟨u, hu⟩ := get_of_lt t.pl (k := c) (by rw [← Hok.out.open_]; exact hcl)
      rw [if_pos hcl]
      exact (bsOf_feed Hok.out hu Hx.out).symm

end Go.Proofs.Ytjkieedomljelaa
