/- A reader of a tee reads, by the reference. -/
import Derived.Test.YtjkieedomljelaaFeedD
import Derived.Test.YtjkieedomljelaaTeeF
namespace Go.Proofs.Ytjkieedomljelaa
open Go.RowKit Go.Conc Go.Deep

theorem Chg.setNew {lo hi b : Nat} {a w : World} (h : Chg lo hi a w) (hb : a.heap.size ≤ b) (i : Nat) (u : Value) : Chg lo hi a (w.setCell ⟨b, i, none⟩ u) :=
  ⟨h.os, h.tape, h.output, by simpa [World.setCell] using h.size, fun j hj ho => (Below.heap_setCell w ⟨b, i, none⟩ u j (by show j ≠ b; omega)).trans (h.block j hj ho)⟩
theorem Chg.allocNew {lo hi : Nat} {a w : World} (h : Chg lo hi a w) (o : Obj) : Chg lo hi a (w.alloc o) :=
  ⟨h.os, h.tape, h.output, by rw [World.size_alloc]; exact Nat.le_succ_of_le h.size, fun j hj ho => (Below.heap_alloc w o j (Nat.lt_of_lt_of_le hj h.size)).trans (h.block j hj ho)⟩
theorem OwnT.fedT_ {w : World} {lo hi : Nat} {r : Tr} {t : Te} (h : OwnT w lo hi r t) (f : Int) : OwnT w lo hi r { t with fd := f } := h
theorem OwnT.far {w : World} {lo hi b i : Nat} {r : Tr} {t : Te} (h : OwnT w lo hi r t) (hb : b < lo ∨ hi ≤ b) (u : Value) : OwnT (w.setCell ⟨b, i, none⟩ u) lo hi r t :=
  h.agree fun j h1 h2 => Below.heap_setCell w ⟨b, i, none⟩ u j (by show j ≠ b; omega)
theorem OwnT.place {w : World} {lo hi c : Nat} {r : Tr} {t : Te} (h : OwnT w lo hi r t) (hc : c < t.pl.length) : ∃ g o u, r.a2 = some ⟨g, o, none⟩ ∧ t.pl[c]? = some u ∧ w.cell? ⟨g, o + c, none⟩ = some (.int .i64 u) ∧ w.frozen? ⟨g, o + c, none⟩ = false ∧ lo ≤ g ∧ g < hi ∧ g < w.heap.size ∧
    ∀ v : Int, OwnT (w.setCell ⟨g, o + c, none⟩ (.int .i64 v)) lo hi r { t with pl := t.pl.set c v } := by
  obtain ⟨x1, y1, x2, y2, x3, y3, a1, a2, a3, d1, d2, d3, o1, o2, o3⟩ := h
  obtain ⟨g, o, cs, hA, hg1, hg2, hbk, hcs⟩ := o2 (by omega)
  obtain ⟨u, hu⟩ := get_of_lt t.pl hc
  have hlen : o + c < cs.length := (List.getElem?_eq_some_iff.1 (hcs c u hu)).1
  refine ⟨g, o, u, hA, hu, (hbk.cell _).trans (hcs c u hu), hbk.free _, by omega, by omega, hbk.lt, fun v => ?_⟩
  have far : ∀ b, b ≠ g → (w.setCell ⟨g, o + c, none⟩ (.int .i64 v)).heap[b]? = w.heap[b]? := fun b hb => Below.heap_setCell w ⟨g, o + c, none⟩ _ b hb
  refine ⟨x1, y1, x2, y2, x3, y3, a1, a2, a3, d1, d2, d3, o1.agree fun b h1 h2 => far b (by omega), fun _ => ⟨g, o, _, hA, hg1, hg2, hbk.set_ (o + c) _, fun k u' hk => ?_⟩, o3.agree fun b h1 h2 => far b (by omega)⟩
  by_cases e : k = c
  · subst e
    rw [List.getElem?_set_self hc] at hk
    obtain rfl := Option.some.inj hk
    rw [List.getElem?_set_self hlen]
  · rw [List.getElem?_set_ne (by omega)] at hk
    rw [List.getElem?_set_ne (by omega)]
    exact hcs k u' hk

theorem OwnT.item {w : World} {lo hi p : Nat} {r : Tr} {t : Te} (h : OwnT w lo hi r t) (hp : p < t.it.length) : ∃ g o x, r.a1 = some ⟨g, o, none⟩ ∧ t.it[p]? = some x ∧ w.cell? ⟨g, o + p, none⟩ = some (.int .i64 x) ∧ lo ≤ g ∧ g < hi := by
  obtain ⟨x1, y1, x2, y2, x3, y3, a1, a2, a3, d1, d2, d3, o1, o2, o3⟩ := h
  obtain ⟨g, o, cs, hA, hg1, hg2, hbk, hcs⟩ := o1 (by omega)
  obtain ⟨x, hx⟩ := get_of_lt t.it hp
  exact ⟨g, o, x, hA, hx, (hbk.cell _).trans (hcs p x hx), by omega, by omega⟩
theorem readT_it (t : Te) (c : Nat) : (readT t c).it = t.it := by unfold readT; split <;> rfl
theorem readT_op (t : Te) (c : Nat) : (readT t c).op = t.op := by unfold readT; split <;> rfl
theorem readT_pl (t : Te) (c : Nat) : (readT t c).pl.length = t.pl.length := by unfold readT; split <;> simp
/-- What the reference hands over: -1 for nothing. -/
def readR (t : Te) (c : Nat) : Int := if (t.pl.getD c 0).toNat < t.it.length then t.it.getD (t.pl.getD c 0).toNat 0 else -1
theorem readT_ok {t : Te} (h : TeeOk t) (c : Nat) : TeeOk (readT t c) := by
  unfold readT
  split
  · rename_i hlt
    obtain ⟨h1, h2, h3, h4, h5, h6, h7, h8⟩ := h
    rw [allB, List.all_eq_true] at h5
    have hp : 0 ≤ t.pl.getD c 0 ∧ t.pl.getD c 0 ≤ t.fd := by
      rw [List.getD_eq_getElem?_getD]
      cases hq : t.pl[c]? with
      | none => exact ⟨by simp, by simpa using h3⟩
      | some x => exact inR_iff.1 (h5 x (List.mem_of_getElem? hq))
    refine ⟨h1, h2, by show 0 ≤ max t.fd (t.pl.getD c 0 + 1); omega, by show max t.fd (t.pl.getD c 0 + 1) ≤ t.it.length; omega, ?_, by simpa using h6, by simpa using h7, by simpa using h8⟩
    rw [allB, List.all_eq_true]
    intro x hx
    rcases List.mem_or_eq_of_mem_set hx with hm | rfl
    · have := inR_iff.1 (h5 x hm)
      exact inR_iff.2 ⟨this.1, by show x ≤ max t.fd (t.pl.getD c 0 + 1); omega⟩
    · exact inR_iff.2 ⟨by omega, by show t.pl.getD c 0 + 1 ≤ max t.fd (t.pl.getD c 0 + 1); omega⟩
  · exact h

set_option maxRecDepth 100000 in
set_option maxHeartbeats 6400000 in
theorem specreadTee_any (r : Tr) (t : Te) (c : Nat) (w : World) (lo hi : Nat) (h : OwnT w lo hi r t) (hhi : hi ≤ w.heap.size) (hok : TeeOk t) (hc : c < t.pl.length) :
    Calls Try.prog 61 #[.agg #[.slice r.a1 t.it.length r.c1, .int .i64 t.fd, .slice r.a2 t.pl.length r.c2, .slice r.a3 t.op.length r.c3], .int .i64 c] w fun e w' => e = .returned (.tuple #[.agg #[.slice r.a1 (readT t c).it.length r.c1, .int .i64 (readT t c).fd, .slice r.a2 (readT t c).pl.length r.c2, .slice r.a3 (readT t c).op.length r.c3], .int .i64 (readR t c)]) ∧ OwnT w' lo hi r (readT t c) ∧ Chg lo hi w w' := by
  obtain ⟨W0, hW0⟩ : ∃ W : World, W = (w.alloc (.cells #[.slice r.a1 t.it.length r.c1, .int .i64 t.fd, .slice r.a2 t.pl.length r.c2, .slice r.a3 t.op.length r.c3] 27)).alloc (.cells #[.slice none 0 0, .int .i64 0, .slice none 0 0, .slice none 0 0] 27) := ⟨_, rfl⟩
  have hb0 : Below w.heap.size w W0 := by rw [hW0]; exact ((Below.refl _ _).alloc (Nat.le_refl _) _).alloc (by simp) _
  have ba : Bk W0 w.heap.size 27 [.slice r.a1 t.it.length r.c1, .int .i64 t.fd, .slice r.a2 t.pl.length r.c2, .slice r.a3 t.op.length r.c3] := by rw [hW0]; exact (Bk.new _ _ [.slice r.a1 t.it.length r.c1, .int .i64 t.fd, .slice r.a2 t.pl.length r.c2, .slice r.a3 t.op.length r.c3]).alloc _
  have hs0 : W0.heap.size = w.heap.size + 2 := by rw [hW0]; simp
  have br : Bk W0 (w.heap.size + 1) 27 [.slice none 0 0, .int .i64 0, .slice none 0 0, .slice none 0 0] := by
    rw [hW0]
    have := Bk.new (w.alloc (.cells #[.slice r.a1 t.it.length r.c1, .int .i64 t.fd, .slice r.a2 t.pl.length r.c2, .slice r.a3 t.op.length r.c3] 27)) 27 [.slice none 0 0, .int .i64 0, .slice none 0 0, .slice none 0 0]
    simpa using this
  have ho0 : OwnT W0 lo hi r t := h.agree fun b _ h2 => hb0.block b (by omega)
  have hch0 : Chg lo hi w W0 := Chg.of_below hb0
  obtain ⟨g, o, u, hA2, hu, hcu, hfu, hg0, hg1, hgz, hset⟩ := ho0.place hc
  have hu0 := place_ok hok hu
  have hf1 := hok.fed1
  have hl12 := hok.len
  obtain ⟨p, hp⟩ : ∃ p : Nat, u = p := ⟨u.toNat, by omega⟩
  subst hp
  have hgd : t.pl.getD c 0 = (p : Int) := by rw [List.getD_eq_getElem?_getD, hu]; rfl
  obtain ⟨f, hf⟩ : ∃ f : Nat, t.fd = f := ⟨t.fd.toNat, by have := hok.fed0; omega⟩
  obtain ⟨ca0, ca1, ca2, ca3⟩ := ba.cellsT
  obtain ⟨cr0, cr1, cr2, cr3⟩ := br.cellsT
  obtain ⟨fr0, fr1, fr2, fr3⟩ := br.freeT
  have fa1 := ba.free 1
  have hgw : g ≠ w.heap.size := by omega
  have hgw1 : g ≠ w.heap.size + 1 := by omega
  have HA2 := Lib.hid hA2
  have Hgd := Lib.hid hgd
  have Hf := Lib.hid hf
  have Ho0 := Lib.hid ho0
  have Hch0 := Lib.hid hch0
  have Hs0 := Lib.hid hs0
  have HW0 := Lib.hid hW0
  have Ba := Lib.hid ba
  have Br := Lib.hid br
  have Hset := Lib.hid hset
  have Hok := Lib.hid hok
  clear h hb0 ba br hu hok
  rw [hA2] at ca2
  clear hgd hf ho0 hch0 hW0 hset hA2
  by_cases hlt : p < t.it.length
  rotate_left
  · have hpl : (p : Int) = t.it.length := by omega
    have hb1 : ((p : Int) == (t.it.length : Int)) = true := by simpa using hpl
    have hT : readT t c = t := by unfold readT; rw [Hgd.out, Int.toNat_natCast, if_neg hlt]
    have hR : readR t c = -1 := by unfold readR; rw [Hgd.out, Int.toNat_natCast, if_neg hlt]
    rw [hT, hR]
    clear hpl hT hR hlt
    go_enter Try.func61, Try.ntmps61
    generalize hR : Code.region 1 _ false = R
    go_wp2_with fail
    rw [← HW0.out, ← hR, HA2.out]
    clear hR
    go_wp2_with fail
    have fn : (w.heap.size + 1 < lo ∨ hi ≤ w.heap.size + 1) := by omega
    refine bodyPost_ret (v := .tuple #[.agg #[.slice r.a1 t.it.length r.c1, .int .i64 t.fd, .slice (some ⟨g, o, none⟩) t.pl.length r.c2, .slice r.a3 t.op.length r.c3], .int .i64 (-1)]) (by simp [results, Try.results61, go_sem, cr0, cr1, cr2, cr3]) rfl ?_
    refine ⟨by rw [HA2.out], (((Ho0.out.far fn _).far fn _).far fn _).far fn _, (((Hch0.out.setNew (by omega) _ _).setNew (by omega) _ _).setNew (by omega) _ _).setNew (by omega) _ _⟩
  · have hpl : ¬ ((p : Int) = t.it.length) := by omega
    have hb1 : ((p : Int) == (t.it.length : Int)) = false := by simpa using hpl
    obtain ⟨ag, ao, x, hA1, hx, hcx, hag0, hag1⟩ := Ho0.out.item hlt
    have hagw : ag ≠ w.heap.size := by omega
    have hagw1 : ag ≠ w.heap.size + 1 := by omega
    have hagw2 : w.heap.size + 1 ≠ ag := by omega
    have hT : readT t c = { t with pl := t.pl.set c ((p : Int) + 1), fd := max t.fd ((p : Int) + 1) } := by unfold readT; rw [Hgd.out, Int.toNat_natCast, if_pos hlt]
    have hR' : readR t c = x := by unfold readR; rw [Hgd.out, Int.toNat_natCast, if_pos hlt, List.getD_eq_getElem?_getD, hx]; rfl
    rw [hT, hR']
    have Hx := Lib.hid hx
    have HA1 := Lib.hid hA1
    rw [hA1] at ca0
    clear hpl hT hR' hx hA1
    go_enter Try.func61, Try.ntmps61
    generalize hR : Code.region 1 _ false = R
    go_wp2_with fail
    rw [← HW0.out, ← hR, HA2.out]
    clear hR
    go_wp2_with fail
    · generalize hV : World.setCell _ _ _ = V
      have hbV : Bk V w.heap.size 27 [.slice r.a1 t.it.length r.c1, .int .i64 ((p : Int) + 1), .slice r.a2 t.pl.length r.c2, .slice r.a3 t.op.length r.c3] := by
        rw [← hV]
        have := (Ba.out.far (p := ⟨g, o + c, none⟩) (Ne.symm hgw) (.int .i64 ((p : Int) + 1))).set_ 1 (.int .i64 ((p : Int) + 1))
        simpa using this
      have hrV : Bk V (w.heap.size + 1) 27 [.slice none 0 0, .int .i64 0, .slice none 0 0, .slice none 0 0] := by
        rw [← hV]
        exact (Br.out.far (p := ⟨g, o + c, none⟩) (Ne.symm hgw1) _).far (p := ⟨w.heap.size, 1, none⟩) (by show w.heap.size + 1 ≠ w.heap.size; omega) _
      have hoV : OwnT V lo hi r { t with pl := t.pl.set c ((p : Int) + 1), fd := max t.fd ((p : Int) + 1) } := by
        rw [← hV]
        exact (Hset.out ((p : Int) + 1)).far (.inr hhi) _
      have hcV : Chg lo hi w V := by
        rw [← hV]
        exact (Hch0.out.set hg0 hg1 _ _).setNew (Nat.le_refl _) _ _
      obtain ⟨ag2, ao2, x2, hA', hx', hcx', -, -⟩ := hoV.item (p := p) hlt
      have hAe := Option.some.inj (hA'.symm.trans HA1.out)
      simp only [Addr.mk.injEq, and_true] at hAe
      obtain ⟨rfl, rfl⟩ := hAe
      obtain rfl : x2 = x := Option.some.inj (hx'.symm.trans Hx.out)
      obtain ⟨va0, va1, va2, va3⟩ := hbV.cellsT
      obtain ⟨vr0, vr1, vr2, vr3⟩ := hrV.cellsT
      obtain ⟨vf0, vf1, vf2, vf3⟩ := hrV.freeT
      rw [HA1.out] at va0
      rw [HA2.out] at va2
      have hmM : max t.fd ((p : Int) + 1) = ((p : Int) + 1) := by omega
      have HmM := Lib.hid hmM
      have hsV := hrV.lt
      have HoV := Lib.hid hoV
      have HcV := Lib.hid hcV
      clear hV hbV hrV hoV hcV ca0 ca1 ca2 ca3 cr0 cr1 cr2 cr3 fr0 fr1 fr2 fr3 hcu hfu fa1 hcx hA' hx' hmM
      go_region_held3 (fun w' => w'.cell? ⟨w.heap.size, 0, none⟩ = some (.slice (some ⟨ag2, ao2, none⟩) t.it.length r.c1) ∧ w'.cell? ⟨w.heap.size, 1, none⟩ = some (.int .i64 ((p : Int) + 1)) ∧ w'.cell? ⟨w.heap.size, 2, none⟩ = some (.slice (some ⟨g, o, none⟩) t.pl.length r.c2) ∧ w'.cell? ⟨w.heap.size, 3, none⟩ = some (.slice r.a3 t.op.length r.c3) ∧ w'.cell? ⟨ag2, ao2 + p, none⟩ = some (.int .i64 x2))
        (go_keep)
        (fail)
      all_goals go_wp2_with fail
      have fn : (w.heap.size + 1 < lo ∨ hi ≤ w.heap.size + 1) := by omega
      refine bodyPost_ret (v := .tuple #[.agg #[.slice (some ⟨ag2, ao2, none⟩) t.it.length r.c1, .int .i64 ((p : Int) + 1), .slice (some ⟨g, o, none⟩) t.pl.length r.c2, .slice r.a3 t.op.length r.c3], .int .i64 x2]) (by simp [results, Try.results61, go_sem, vr0, vr1, vr2, vr3]) rfl ?_
      refine ⟨by rw [HA2.out, HA1.out, HmM.out, List.length_set], ?_, ?_⟩
      · exact ((((HoV.out.far fn _).far fn _).far fn _).far fn _).agree fun _ _ _ => rfl
      · exact ((((HcV.out.setNew (by omega) _ _).setNew (by omega) _ _).setNew (by omega) _ _).setNew (by omega) _ _).drew_
    · generalize hV : World.setCell _ _ _ = V
      have hbV : Bk V w.heap.size 27 [.slice r.a1 t.it.length r.c1, .int .i64 t.fd, .slice r.a2 t.pl.length r.c2, .slice r.a3 t.op.length r.c3] := by
        rw [← hV]
        have := (Ba.out.far (p := ⟨g, o + c, none⟩) (Ne.symm hgw) (.int .i64 ((p : Int) + 1))).set_ 1 (.int .i64 t.fd)
        simpa using this
      have hrV : Bk V (w.heap.size + 1) 27 [.slice none 0 0, .int .i64 0, .slice none 0 0, .slice none 0 0] := by
        rw [← hV]
        exact (Br.out.far (p := ⟨g, o + c, none⟩) (Ne.symm hgw1) _).far (p := ⟨w.heap.size, 1, none⟩) (by show w.heap.size + 1 ≠ w.heap.size; omega) _
      have hoV : OwnT V lo hi r { t with pl := t.pl.set c ((p : Int) + 1), fd := max t.fd ((p : Int) + 1) } := by
        rw [← hV]
        exact (Hset.out ((p : Int) + 1)).far (.inr hhi) _
      have hcV : Chg lo hi w V := by
        rw [← hV]
        exact (Hch0.out.set hg0 hg1 _ _).setNew (Nat.le_refl _) _ _
      obtain ⟨ag2, ao2, x2, hA', hx', hcx', -, -⟩ := hoV.item (p := p) hlt
      have hAe := Option.some.inj (hA'.symm.trans HA1.out)
      simp only [Addr.mk.injEq, and_true] at hAe
      obtain ⟨rfl, rfl⟩ := hAe
      obtain rfl : x2 = x := Option.some.inj (hx'.symm.trans Hx.out)
      obtain ⟨va0, va1, va2, va3⟩ := hbV.cellsT
      obtain ⟨vr0, vr1, vr2, vr3⟩ := hrV.cellsT
      obtain ⟨vf0, vf1, vf2, vf3⟩ := hrV.freeT
      rw [HA1.out] at va0
      rw [HA2.out] at va2
      have hmM : max t.fd ((p : Int) + 1) = t.fd := by omega
      have HmM := Lib.hid hmM
      have hsV := hrV.lt
      have HoV := Lib.hid hoV
      have HcV := Lib.hid hcV
      clear hV hbV hrV hoV hcV ca0 ca1 ca2 ca3 cr0 cr1 cr2 cr3 fr0 fr1 fr2 fr3 hcu hfu fa1 hcx hA' hx' hmM
      go_region_held3 (fun w' => w'.cell? ⟨w.heap.size, 0, none⟩ = some (.slice (some ⟨ag2, ao2, none⟩) t.it.length r.c1) ∧ w'.cell? ⟨w.heap.size, 1, none⟩ = some (.int .i64 t.fd) ∧ w'.cell? ⟨w.heap.size, 2, none⟩ = some (.slice (some ⟨g, o, none⟩) t.pl.length r.c2) ∧ w'.cell? ⟨w.heap.size, 3, none⟩ = some (.slice r.a3 t.op.length r.c3) ∧ w'.cell? ⟨ag2, ao2 + p, none⟩ = some (.int .i64 x2))
        (go_keep)
        (fail)
      all_goals go_wp2_with fail
      have fn : (w.heap.size + 1 < lo ∨ hi ≤ w.heap.size + 1) := by omega
      refine bodyPost_ret (v := .tuple #[.agg #[.slice (some ⟨ag2, ao2, none⟩) t.it.length r.c1, .int .i64 t.fd, .slice (some ⟨g, o, none⟩) t.pl.length r.c2, .slice r.a3 t.op.length r.c3], .int .i64 x2]) (by simp [results, Try.results61, go_sem, vr0, vr1, vr2, vr3]) rfl ?_
      refine ⟨by rw [HA2.out, HA1.out, HmM.out, List.length_set], ?_, ?_⟩
      · exact ((((HoV.out.far fn _).far fn _).far fn _).far fn _).agree fun _ _ _ => rfl
      · exact ((((HcV.out.setNew (by omega) _ _).setNew (by omega) _ _).setNew (by omega) _ _).setNew (by omega) _ _).drew_

end Go.Proofs.Ytjkieedomljelaa
