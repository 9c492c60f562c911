/- Texts on the program and its reference, put together (PsA, PsB). -/
import Derived.Test.YtjhdjfobbgfpfaaMQJ
import Derived.Test.YtjhdjfobbgfpfaaMQI
import Derived.Deep.DeepMust
/- Contracts: pulls by the reference: the end of a node, and a source. -/
namespace Go.Proofs.Ytjhdjfobbgfpfaa
open Go.RowKit

/-- What the block of the reference's run has ahead of the pulls. -/
def spHd (A : Option Addr) (c : Nat) (l : List Nd) (As : Option Addr) (ca : Nat) (cb cc : Nat) : List Value := [.slice A l.length c, .slice As 3 ca, .slice (some ⟨cb, 0, none⟩) l.length cc]

/-- The reference's run in memory. -/
structure SW (n0 pb cb : Nat) (A : Option Addr) (c : Nat) (l : List Nd) (As : Option Addr) (ca : Nat) (src : List (List Int)) (cc : Nat) (s : PS) (W : World) : Prop where
  rs : RS n0 pb cb 71 (spHd A c l As ca cb cc) [] s W
  nodes : RdN W n0 A l
  rows : RdR W n0 As src

section
variable {n0 pb cb : Nat} {A : Option Addr} {c : Nat} {l : List Nd} {As : Option Addr} {ca : Nat} {src : List (List Int)} {cc : Nat} {s s2 : PS} {w w' : World}
theorem SW.next (h : SW n0 pb cb A c l As ca src cc s w) (hr : RS n0 pb cb 71 (spHd A c l As ca cb cc) [] s2 w') (hf : Fr n0 pb cb w w') : SW n0 pb cb A c l As ca src cc s2 w' :=
  have hb := hf.below h.rs.lop h.rs.loc (Nat.le_trans h.rs.lop (Nat.le_of_lt h.rs.ltp))
  ⟨hr, h.nodes.below hb (Nat.le_refl _), h.rows.below hb (Nat.le_refl _)⟩
theorem SW.below (h : SW n0 pb cb A c l As ca src cc s w) (hb : Below w.heap.size w w') : SW n0 pb cb A c l As ca src cc s w' := h.next (h.rs.below hb) (.of_below hb)
/-- The cells of the block of the run. -/
structure BoxSp (pb cb : Nat) (A : Option Addr) (c : Nat) (l : List Nd) (As : Option Addr) (ca : Nat) (cc : Nat) (w : World) : Prop where
  c0 : w.cell? ⟨pb, 0, none⟩ = some (.slice A l.length c)
  c1 : w.cell? ⟨pb, 1, none⟩ = some (.slice As 3 ca)
  c2 : w.cell? ⟨pb, 2, none⟩ = some (.slice (some ⟨cb, 0, none⟩) l.length cc)
theorem SW.bx (h : SW n0 pb cb A c l As ca src cc s w) : BoxSp pb cb A c l As ca cc w := by
  obtain ⟨R, cR, hb, _⟩ := h.rs.box
  exact ⟨hb.cell 0, hb.cell 1, hb.cell 2⟩
end

theorem RdR.at2 {w : World} {B : Nat} {A : Option Addr} {rows : List (List Int)} (h : RdR w B A rows) {k : Nat} (hk : k < rows.length) :
    ∃ ad r Ar cr, A = some ad ∧ (ad.add k).block < B ∧ rows[k]? = some r ∧ w.cell? (ad.add k) = some (.slice Ar r.length cr) ∧ RdI w B Ar r := by
  obtain ⟨ad, e, hb, hc⟩ := h (by omega)
  obtain ⟨r, hr⟩ := get_of_lt rows hk
  obtain ⟨Ar, cr, h1, h2⟩ := hc k r hr
  exact ⟨ad, r, Ar, cr, e, by rw [add_block]; exact hb, hr, h1, h2⟩
theorem RdI.at2 {w : World} {B : Nat} {A : Option Addr} {l : List Int} (h : RdI w B A l) {k : Nat} (hk : k < l.length) :
    ∃ ad x, A = some ad ∧ (ad.add k).block < B ∧ l[k]? = some x ∧ w.cell? (ad.add k) = some (.int .i64 x) := by
  obtain ⟨ad, e, hb, hc⟩ := h (by omega)
  obtain ⟨x, hx⟩ := get_of_lt l hk
  exact ⟨ad, x, e, by rw [add_block]; exact hb, hx, hc k x hx⟩

set_option maxHeartbeats 1600000 in
theorem ended_any {n0 pb cb : Nat} {A : Option Addr} {c : Nat} {l : List Nd} {As : Option Addr} {ca : Nat} {src : List (List Int)} {cc : Nat} {s : PS} {w : World} (h : SW n0 pb cb A c l As ca src cc s w) (hl : s.cs.length = l.length) (i : Nat) (hi : i < l.length) :
    Calls Try.prog 109 #[.pointer (some ⟨pb, 0, none⟩), .int .i64 i] w fun e w' => e = .returned (.tuple #[.int .i64 0, .bool false]) ∧ SW n0 pb cb A c l As ca src cc (s.put i { s.at_ i with d := true }) w' ∧ Fr n0 pb cb w w' := by
  obtain ⟨b0, b1, b2⟩ := h.bx
  obtain ⟨c0, c1, c2, c3, c4, c5⟩ := h.rs.cl (i := i) (by omega)
  have f5 := h.rs.free (i * 6 + 5)
  have H := Lib.hid h
  clear h
  go_enter Try.func109, Try.ntmps109
  go_wp2_with fail
  refine bodyPost_ret (v := .tuple #[.int .i64 0, .bool false]) (by simp [results, Try.results109, go_sem]) rfl ?_
  have hr := H.out.rs.setD (i := i) (by omega) true
  exact ⟨rfl, H.out.next hr ((Fr.refl _ _ _ _).setc _ _), (Fr.refl _ _ _ _).setc _ _⟩


theorem run_append_pl {w : World} {base : Nat} {R : Option Addr} {cR : Nat} {lg : List Pl} (hown : OwnG w base R cR lg) (hb : base ≤ w.heap.size) (hn : lg.length ≤ 1048576) (p : Pl) (ty : TypeId) :
    ∃ R' c' w', (Builtin.append_ #[47, 47] ty #[.slice R lg.length cR, .slice (some ⟨w.heap.size, 0, none⟩) 1 1]).run Try.prog (w.alloc (.cells #[.int .i64 p.s, .int .i64 p.i] 76)) = .ok (.slice R' (lg.length + 1) c') w' ∧ OwnG w' base R' c' (lg ++ [p]) ∧ (w.alloc (.cells #[.int .i64 p.s, .int .i64 p.i] 76)).grownBy w' (rowOf R) := by
  obtain ⟨i, hi, hz0, hz1, hz2⟩ := info_parts Try.infoPl
  have hown2 := OwnG.kept hown (World.grownBy_alloc w (.cells #[.int .i64 p.s, .int .i64 p.i] 76) none) (by cases R <;> simp [rowOf])
  have hread : ∀ (j : Nat) (u : Value), (pls [p])[j]? = some u → (w.alloc (.cells #[.int .i64 p.s, .int .i64 p.i] 76)).cell? ((⟨w.heap.size, 0, none⟩ : Addr).add j) = some u := fun j u hj => by
    have h : Bk (w.alloc (.cells #[.int .i64 p.s, .int .i64 p.i] 76)) w.heap.size 76 (pls [p]) := Bk.new w _ (pls [p])
    rw [add_zero_row, h.cell]
    exact hj
  have hone : ∀ u ∈ pls [p], u.oneCell' = true := by
    intro u hu
    simp [pls] at hu
    rcases hu with rfl | rfl <;> rfl
  obtain ⟨v', w', hr, h2, h3, _⟩ := run_append_own (P := Try.prog) (w.alloc (.cells #[.int .i64 p.s, .int .i64 p.i] 76)) base 47 ty 76 i _ 2 16 Try.underlying47 hi hz0 hz1 hz2 rfl (by decide)
    (.slice R lg.length cR) lg.length (pls lg) hown2 ⟨w.heap.size, 0, none⟩ 1 1 (pls [p]) rfl hread hone (by unfold maxLen; omega) (by omega) (by simp; omega)
  have hv : ∃ A' c', v' = .slice A' (lg.length + 1) c' := by
    obtain ⟨_, ⟨_, h0⟩ | ⟨g, cap, cur, hv, _⟩⟩ := h2
    · omega
    · exact ⟨_, _, hv⟩
  obtain ⟨A', c', rfl⟩ := hv
  refine ⟨A', c', w', hr, ?_, by rw [← ownBlock_slice R lg.length cR]; exact h3⟩
  unfold OwnG
  rw [List.length_append, pls_app]
  exact h2

theorem wpList_append_pl {ops : Array Oper} {rest : List Oper} {o : Oper} {a : Act} {Q : Exit → Act → World → Prop} {w : World} (hgd : o.guard = none) (s y : Operand)
    (ho : o.op = .call { callee := .builtin .append, args := #[s, y], argTypes := #[47, 47] }) (base : Nat) (R : Option Addr) (cR : Nat) (lg : List Pl) (p : Pl) (n : Nat) (hnl : lg.length = n) (hs : a.eval s = .slice R n cR) (hown : OwnG w base R cR lg)
    (g : Nat) (hx : a.eval y = .slice (some ⟨g, 0, none⟩) 1 1) (hg : g = w.heap.size) (hn : n ≤ 1048576) (hb : base ≤ w.heap.size)
    (h : ∀ (R' : Option Addr) (c' : Nat) (w' : World), OwnG w' base R' c' (lg ++ [p]) → (w.alloc (.cells #[.int .i64 p.s, .int .i64 p.i] 76)).grownBy w' (rowOf R) → wpList Try.prog ops Q rest (a.put o.dst (.slice R' (n + 1) c')) w') :
    wpList Try.prog ops Q (o :: rest) a (w.alloc (.cells #[.int .i64 p.s, .int .i64 p.i] 76)) := by
  subst hg
  subst hnl
  obtain ⟨R', c', w', hr, h2, h3⟩ := run_append_pl hown hb hn p o.type
  refine wpList_plain hgd fun K hK => ?_
  unfold Oper.wp execOp
  simp only [ho, resolve, invoke, builtin, Sem.run_bind, Sem.run_pure, Result.andThen_ok, List.map_toArray, List.map_cons, List.map_nil, hs, hx, hr]
  exact hK _ _ (h R' c' w' h2 h3)

/-- What a pull gives back. -/
def tup (o : Option Int) : Value := .tuple #[.int .i64 (o.getD 0), .bool o.isSome]

set_option maxHeartbeats 3200000 in
theorem nextSource_any {n0 pb cb : Nat} {A : Option Addr} {c : Nat} {l : List Nd} {As : Option Addr} {ca : Nat} {src : List (List Int)} {cc : Nat} {s : PS} {w : World} (h : SW n0 pb cb A c l As ca src cc s w) (hl : s.cs.length = l.length) {i : Nat} {x : Nd} (hx : l[i]? = some x)
    (k : Nat) (hk : x.n = (k : Int)) (hs3 : src.length = 3) (row : List Int) (hrow : src[k]? = some row) (hrl : row.length ≤ 12) (hc0 : 0 ≤ (s.at_ i).n) (hc1 : (s.at_ i).n ≤ row.length) (hlg : s.lg.length ≤ 65536) (hd : (s.at_ i).d = false) :
    Calls Try.prog 95 #[.pointer (some ⟨pb, 0, none⟩), .int .i64 i] w fun e w' => e = .returned (tup (doneP i (srcP src i x) s).2) ∧ SW n0 pb cb A c l As ca src cc (doneP i (srcP src i x) s).1 w' ∧ Fr n0 pb cb w w' := by
  have hi : i < l.length := (List.getElem?_eq_some_iff.1 hx).1
  obtain ⟨b0, b1, b2⟩ := h.bx
  obtain ⟨c0, c1, c2, c3, c4, c5⟩ := h.rs.cl (i := i) (by omega)
  obtain ⟨nb, no, y, rfl, hnb, hy, hyc⟩ := h.nodes.at_ hi
  obtain rfl := Option.some.inj (hx.symm.trans hy)
  obtain ⟨y0, y1, y2, y3, y4⟩ := hyc
  rw [hk] at y3
  obtain ⟨q, hq⟩ : ∃ q : Nat, (s.at_ i).n = (q : Int) := ⟨(s.at_ i).n.toNat, by omega⟩
  obtain ⟨ad, r, Ar, cr, rfl, hab, hr, hrc, hrd⟩ := h.rows.at2 (k := k) (List.getElem?_eq_some_iff.1 hrow).1
  obtain rfl := Option.some.inj (hrow.symm.trans hr)
  have hk3 : k < 3 := by rw [← hs3]; exact (List.getElem?_eq_some_iff.1 hr).1
  have hrowd : src.getD x.n.toNat [] = row := by rw [hk, List.getD_eq_getElem?_getD, Int.toNat_natCast, hrow]; rfl
  obtain ⟨R, cR, hbk, ho⟩ := h.rs.box
  have hb3 : w.cell? ⟨pb, 3, none⟩ = some (.slice R s.lg.length cR) := hbk.cell 3
  obtain ⟨n, hln⟩ : ∃ n, s.lg.length = n := ⟨_, rfl⟩
  have hlop := h.rs.lop
  have hloc := h.rs.loc
  have hz : n0 ≤ w.heap.size := Nat.le_trans h.rs.lop (Nat.le_of_lt h.rs.ltp)
  have hsay : ∀ (p : Pl) (R2 : Option Addr) (k2 : Nat) (w2 : World), OwnG w2 n0 R2 k2 (s.lg ++ [p]) → (w.alloc (.cells #[.int .i64 p.s, .int .i64 p.i] 76)).grownBy w2 (rowOf R) →
      SW n0 pb cb (some ⟨nb, no, none⟩) c l (some ad) ca src cc (s.say p) (w2.setCell ⟨pb, 3, none⟩ (.slice R2 (n + 1) k2)) ∧ Fr n0 pb cb w (w2.setCell ⟨pb, 3, none⟩ (.slice R2 (n + 1) k2)) ∧ w2.cell? ⟨pb, 3, none⟩ = some (.slice R n cR) ∧ w2.frozen? ⟨pb, 3, none⟩ = false := fun p R2 k2 w2 h1 h2 => by
    obtain ⟨q1, q2, q3, q4⟩ := h.rs.said hbk ho h1 h2
    rw [hln] at q1 q2 q3
    exact ⟨h.next q1 q2, q2, q3, q4⟩
  have Hsay := Lib.hid hsay
  have Ho := Lib.hid ho
  have Hln := Lib.hid hln
  have Hhl := Lib.hid hl
  rw [hln] at hb3 hlg
  rw [hq] at c0 hc0 hc1
  have Hq := Lib.hid hq
  have Hd := Lib.hid hd
  have Hx := Lib.hid hx
  have Hk := Lib.hid hk
  have Hrd := Lib.hid hrowd
  clear hsay ho hbk h hln hl hq hd hx hy hk hrow hr hrowd
  by_cases hend : q = row.length
  · have Hend := Lib.hid hend
    subst hend
    go_enter Try.func95, Try.ntmps95
    go_wp2_with (at_builtin; go_must (refine wpList_append_pl rfl _ _ rfl n0 R cR s.lg ⟨(k : Int), -1⟩ n Hln.out rfl Ho.out _ rfl rfl (by omega) hz ?_; intro R2 k2 w2 ho2 hg2); obtain ⟨q1, q2, q3, q4⟩ := Hsay.out _ _ _ _ ho2 hg2; have HS := Lib.hid q1; have HF := Lib.hid q2; clear q1 q2 ho2 hg2)
    refine (ended_any HS.out Hhl.out i hi).mono ?_
    rintro e w' ⟨rfl, hsw, hfr⟩
    have Hsw := Lib.hid hsw
    have Hfr := Lib.hid (HF.out.trans hfr)
    clear hsw hfr
    go_wp2_with fail
    have hm : doneP i (srcP src i x) s = ((s.say ⟨(k : Int), -1⟩).put i { (s.say ⟨(k : Int), -1⟩).at_ i with d := true }, none) := by
      unfold doneP srcP
      rw [if_neg (by rw [Hd.out]; decide), if_pos (by rw [Hq.out, Hrd.out]), Hk.out]
    refine bodyPost_ret (v := .tuple #[.int .i64 0, .bool false]) (by simp [results, Try.results95, go_sem]) rfl ?_
    rw [hm]
    exact ⟨rfl, Hsw.out, Hfr.out⟩
  · have hlt : q < row.length := by omega
    obtain ⟨ad2, v, rfl, hab2, hv, hvc⟩ := hrd.at2 hlt
    have hw1 : IntKind.i64.wrap ((q : Int) + 1) = (q : Int) + 1 := IntWalk.i64_in _ (by omega)
    have hne : (q : Int) ≠ row.length := by omega
    have Hv := Lib.hid hv
    clear hv hend
    go_enter Try.func95, Try.ntmps95
    go_wp2_with (at_builtin; go_must (refine wpList_append_pl rfl _ _ rfl n0 R cR s.lg ⟨(k : Int), (q : Int)⟩ n Hln.out rfl Ho.out _ rfl rfl (by omega) hz ?_; intro R2 k2 w2 ho2 hg2); obtain ⟨q1, q2, q3, q4⟩ := Hsay.out _ _ _ _ ho2 hg2; obtain ⟨z0, z1, z2⟩ := q1.bx; obtain ⟨d0, d1, d2, d3, d4, d5⟩ := q1.rs.cl (i := i) (by rw [← Hhl.out] at hi; exact hi); rw [show (s.say ⟨(k : Int), (q : Int)⟩).at_ i = s.at_ i from rfl] at d0; rw [Hq.out] at d0; have g0 := q1.rs.free (i * 6); have q5 := q1.rs.setN (i := i) (by rw [← Hhl.out] at hi; exact hi) ((q : Int) + 1); have q6 := (Fr.refl n0 pb cb (w2.setCell ⟨pb, 3, none⟩ (.slice R2 (n + 1) k2))).setc (i * 6) (.int .i64 ((q : Int) + 1)); have q7 := q1.next q5 q6; obtain ⟨x0, x1, x2⟩ := q7.bx; have q8 := (q2.trans q6).below hlop hloc hz; have y5 := (q8.cell hab).trans hrc; have y6 := (q8.cell hab2).trans hvc; have HS := Lib.hid q7; have HF := Lib.hid (q2.trans q6); clear q8; clear q1 q2 ho2 hg2 q5 q6 q7)
    have hm : doneP i (srcP src i x) s = ((s.say ⟨(k : Int), (q : Int)⟩).put i { (s.say ⟨(k : Int), (q : Int)⟩).at_ i with n := (q : Int) + 1 }, some v) := by
      unfold doneP srcP
      rw [if_neg (by rw [Hd.out]; decide), if_neg (by rw [Hq.out, Hrd.out]; exact hne), Hk.out, Hq.out]
      have hv2 : (src.getD ((k : Int)).toNat []).getD ((q : Int)).toNat 0 = v := by
        rw [← Hk.out, Hrd.out, List.getD_eq_getElem?_getD, Int.toNat_natCast, Hv.out]; rfl
      rw [hv2]
      rfl
    refine bodyPost_ret (v := .tuple #[.int .i64 v, .bool true]) (by simp [results, Try.results95, go_sem]) rfl ?_
    rw [hm]
    exact ⟨rfl, HS.out, HF.out⟩

end Go.Proofs.Ytjhdjfobbgfpfaa

/- Contracts: pulls by the reference: nodes that look at items one by one. -/
namespace Go.Proofs.Ytjhdjfobbgfpfaa
open Go.RowKit

/-- What a pull by the reference leaves. -/
structure NPost (n0 pb cb : Nat) (A : Option Addr) (c : Nat) (l : List Nd) (As : Option Addr) (ca : Nat) (src : List (List Int)) (cc : Nat) (w : World) (r : PS × Option Int) (e : Ending) (w' : World) : Prop where
  res : e = .returned (tup r.2)
  sw : SW n0 pb cb A c l As ca src cc r.1 w'
  fr : Fr n0 pb cb w w'
/-- A node is pulled by the reference as F says. -/
def NextOk (n0 pb cb : Nat) (A : Option Addr) (c : Nat) (l : List Nd) (As : Option Addr) (ca : Nat) (src : List (List Int)) (cc : Nat) (F : PF) (j : Nat) : Prop :=
  ∀ (s : PS) (w : World), SW n0 pb cb A c l As ca src cc s w → StOk l src s.cs → s.lg.length + s.W l src ≤ 65536 →
    Calls Try.prog 80 #[.pointer (some ⟨pb, 0, none⟩), .int .i64 j] w fun e w' => NPost n0 pb cb A c l As ca src cc w (F s) e w'

theorem doneP_none {i : Nat} {f : PF} {s s2 : PS} (hd : (s.at_ i).d = false) (hf : f s = (s2, none)) : doneP i f s = (s2.put i { s2.at_ i with d := true }, none) := by
  unfold doneP
  rw [if_neg (by rw [hd]; decide), hf]
theorem doneP_some {i : Nat} {f : PF} {s s2 : PS} {v : Int} (hd : (s.at_ i).d = false) (hf : f s = (s2, some v)) : doneP i f s = (s2, some v) := by
  unfold doneP
  rw [if_neg (by rw [hd]; decide), hf]
theorem RdN.at2 {w : World} {B : Nat} {A : Option Addr} {l : List Nd} (h : RdN w B A l) {k : Nat} {x : Nd} (hx : l[k]? = some x) : ∃ b o, A = some ⟨b, o, none⟩ ∧ b < B ∧ At5 w b (o + k * 5) x := by
  obtain ⟨b, o, y, e, hb, hy, hc⟩ := h.at_ (List.getElem?_eq_some_iff.1 hx).1
  obtain rfl := Option.some.inj (hx.symm.trans hy)
  exact ⟨b, o, e, hb, hc⟩
/-- How many pulls of the state of the cells are left, read off the world. -/
theorem RS.cs_eq {n0 pb cb : Nat} {T : TypeId} {hd tl : List Value} {s s2 : PS} {w : World} (h : RS n0 pb cb T hd tl s w) (h2 : RS n0 pb cb T hd tl s2 w) (hl : s.cs.length = s2.cs.length) : s.cs = s2.cs := by
  obtain ⟨cs, hc, hcs⟩ := h.cells
  obtain ⟨ds, hd, hds⟩ := h2.cells
  have e : cs = ds := by
    unfold Bk at hc hd
    rw [hc] at hd
    simpa using hd
  subst e
  apply List.ext_getElem? 
  intro k
  by_cases hk : k < s.cs.length
  · have a := hcs k _ (List.getElem?_eq_getElem hk)
    have b := hds k _ (List.getElem?_eq_getElem (by omega : k < s2.cs.length))
    rw [List.getElem?_eq_getElem hk, List.getElem?_eq_getElem (by omega : k < s2.cs.length)]
    refine congrArg some (Cl.ext_ ?_ ?_ ?_ ?_ ?_ ?_)
    · have := a.c0.symm.trans b.c0; simpa using this
    · have := a.c1.symm.trans b.c1; simpa using this
    · have := a.c2.symm.trans b.c2; simpa using this
    · have := a.c3.symm.trans b.c3; simpa using this
    · have := a.c4.symm.trans b.c4; simpa using this
    · have := a.c5.symm.trans b.c5; simpa using this
  · rw [List.getElem?_eq_none (by omega), List.getElem?_eq_none (by omega)]
theorem meas_eq {n0 pb cb : Nat} {T : TypeId} {hd tl : List Value} {s : PS} {w : World} {N : Nat} (φ : List Cl → Nat) (h : RS n0 pb cb T hd tl s w) (hl : s.cs.length = N) :
    Classical.epsilon (fun m => ∃ s2 : PS, RS n0 pb cb T hd tl s2 w ∧ s2.cs.length = N ∧ m = φ s2.cs) = φ s.cs := by
  have hex : ∃ m, ∃ s2 : PS, RS n0 pb cb T hd tl s2 w ∧ s2.cs.length = N ∧ m = φ s2.cs := ⟨_, s, h, hl, rfl⟩
  obtain ⟨s2, h2, hl2, e⟩ := Classical.epsilon_spec hex
  rw [e, h.cs_eq h2 (by omega)]

set_option maxRecDepth 100000 in
set_option maxHeartbeats 6400000 in
theorem next_map {n0 pb cb : Nat} {A : Option Addr} {c : Nat} {l : List Nd} {As : Option Addr} {ca : Nat} {src : List (List Int)} {cc : Nat} (hs : srcOk src = true) {i j : Nat} {xb n m : Int} (hx : l[i]? = some ⟨1, (j : Int), xb, n, m⟩) (hj : j < i) {f : PF} (hF : Fine l src j f) (hN : NextOk n0 pb cb A c l As ca src cc f j)
    (s : PS) (w : World) (h : SW n0 pb cb A c l As ca src cc s w) (ok : StOk l src s.cs) (hlg : s.lg.length + s.W l src ≤ 65536) (hd : (s.at_ i).d = false) (Hnums : Hid (0 ≤ n ∧ n ≤ 99 ∧ 0 ≤ m ∧ m ≤ 99)) :
    Calls Try.prog 99 #[.pointer (some ⟨pb, 0, none⟩), .int .i64 i] w fun e w' => NPost n0 pb cb A c l As ca src cc w (doneP i (stemP (fun s => s.M l src + 1) i ⟨1, (j : Int), xb, n, m⟩ f) s) e w' := by
  have _u1 := hj
  clear _u1
  have hi : i < l.length := (List.getElem?_eq_some_iff.1 hx).1
  have hil : i < s.cs.length := by rw [ok.len]; exact hi
  obtain ⟨b0, b1, b2⟩ := h.bx
  obtain ⟨nb, no, rfl, hnb, y0, y1, y2, y3, y4⟩ := h.nodes.at2 hx
  simp only at y0 y1 y2 y3 y4
  obtain ⟨W1, hW1⟩ : ∃ W1 : World, W1 = w.alloc (.cells #[.int .i64 1, .int .i64 (j : Int), .int .i64 xb, .int .i64 n, .int .i64 m] 104) := ⟨_, rfl⟩
  have hb1 : Below w.heap.size w W1 := by rw [hW1]; exact (Below.refl _ _).alloc (Nat.le_refl _) _
  have kn1 : Bk W1 w.heap.size 104 [.int .i64 1, .int .i64 (j : Int), .int .i64 xb, .int .i64 n, .int .i64 m] := by rw [hW1]; exact Bk.new _ _ [_, _, _, _, _]
  have h1 := h.below hb1
  have hpw := h.rs.ltp
  have hcw := h.rs.ltc
  have H := Lib.hid h
  have H1 := Lib.hid h1
  have Hb1 := Lib.hid hb1
  have HW1 := Lib.hid hW1
  have Hkn := Lib.hid kn1
  have Hok := Lib.hid ok
  have Hd := Lib.hid hd
  have Hx := Lib.hid hx
  have HN := Lib.hid hN
  have HF := Lib.hid hF
  have Hs := Lib.hid hs
  clear h h1 hb1 hW1 kn1 ok hd hx hN hF hs
  rcases hfs : f s with ⟨s2, o⟩
  have hfine := HF.out s Hok.out
  rw [hfs] at hfine
  have Hfine := Lib.hid hfine
  have Hcall := HN.out s W1 H1.out Hok.out hlg
  rw [hfs] at Hcall
  have Hcall := Lib.hid Hcall
  have Hfs := Lib.hid hfs
  clear hfine hfs
  go_enter Try.func99, Try.ntmps99
  go_wp2_with fail
  rw [← HW1.out]
  go_loopw [4] (fun _ wr => wr = W1) (fun _ _ => 0)
  case atStart => rfl
  case round =>
    have Hrel := Lib.hid hrel
    clear hrel
    have e1 : wr = W1 := Hrel.out
    subst e1
    clear Hrel
    have k1 := Hkn.out.cell 1
    simp only [List.getElem?_cons_succ, List.getElem?_cons_zero] at k1
    go_wp2_with fail
    refine Hcall.out.mono ?_
    rintro e w3 ⟨rfl, sw3, fr3⟩
    have kn3 := fr3.bk Hkn.out (by decide) (by omega) (by omega)
    obtain ⟨x0, x1, x2, x3, x4⟩ : (w3.cell? ⟨w.heap.size, 0, none⟩ = some (.int .i64 1)) ∧ (w3.cell? ⟨w.heap.size, 1, none⟩ = some (.int .i64 (j : Int))) ∧ (w3.cell? ⟨w.heap.size, 2, none⟩ = some (.int .i64 xb)) ∧ (w3.cell? ⟨w.heap.size, 3, none⟩ = some (.int .i64 n)) ∧ (w3.cell? ⟨w.heap.size, 4, none⟩ = some (.int .i64 m)) := ⟨kn3.cell 0, kn3.cell 1, kn3.cell 2, kn3.cell 3, kn3.cell 4⟩
    obtain ⟨b0', b1', b2'⟩ := sw3.bx
    have hl3 : i < s2.cs.length := by rw [Hfine.out.ok.len]; exact hi
    obtain ⟨c0, c1, c2, c3, c4, c5⟩ := sw3.rs.cl (i := i) hl3
    have lt0 := kn3.lt
    have lt1 := sw3.rs.ltp
    have lt2 := sw3.rs.ltc
    have Hsw := Lib.hid sw3
    have Hfr := Lib.hid ((Fr.of_below Hb1.out).trans fr3)
    clear sw3 fr3 kn3
    cases o with
    | none =>
      have ht : tup none = .tuple #[.int .i64 0, .bool false] := rfl
      go_wp2_with fail
      refine (ended_any Hsw.out Hfine.out.ok.len i hi).mono ?_
      rintro e w4 ⟨rfl, sw4, fr4⟩
      have Hsw4 := Lib.hid sw4
      have Hfr4 := Lib.hid (Hfr.out.trans fr4)
      clear sw4 fr4
      go_wp2_with fail
      refine bodyPost_ret (v := .tuple #[.int .i64 0, .bool false]) (by simp [results, Try.results99, go_sem]) rfl ?_
      have hm : doneP i (stemP (fun s => s.M l src + 1) i ⟨1, (j : Int), xb, n, m⟩ f) s = (s2.put i { s2.at_ i with d := true }, none) := doneP_none Hd.out (by simp [stemP, chgP, Hfs.out])
      rw [hm]
      exact ⟨rfl, Hsw4.out, Hfr4.out⟩
    | some v =>
      have hv := Hfine.out.item v rfl
      have ht : tup (some v) = .tuple #[.int .i64 v, .bool true] := rfl
      have hn := Hnums.out
      go_wp2_with fail
      refine (specMapped_any 1 (j : Int) xb n m v _ ⟨hn.1, hn.2.1⟩ ⟨hn.2.2.1, hn.2.2.2⟩ hv).mono ?_
      rintro e w4 ⟨rfl, hb4⟩
      have Hsw4 := Lib.hid ((Hsw.out.below ((Below.refl _ _).alloc (Nat.le_refl _) _)).below hb4)
      have Hfr4 := Lib.hid ((Hfr.out.alloc _).trans (.of_below hb4))
      clear hb4
      go_wp2_with fail
      refine bodyPost_ret (v := .tuple #[.int .i64 (rst (n * v + m)), .bool true]) (by simp [results, Try.results99, go_sem]) rfl ?_
      have hm : doneP i (stemP (fun s => s.M l src + 1) i ⟨1, (j : Int), xb, n, m⟩ f) s = (s2, some (rst (n * v + m))) := doneP_some Hd.out (by simp [stemP, chgP, mapG, Hfs.out, PS.put_self hl3])
      rw [hm]
      exact ⟨rfl, Hsw4.out, Hfr4.out⟩

set_option maxRecDepth 100000 in
set_option maxHeartbeats 6400000 in
theorem next_while {n0 pb cb : Nat} {A : Option Addr} {c : Nat} {l : List Nd} {As : Option Addr} {ca : Nat} {src : List (List Int)} {cc : Nat} (hs : srcOk src = true) {i j : Nat} {xb n m : Int} (hx : l[i]? = some ⟨5, (j : Int), xb, n, m⟩) (hj : j < i) {f : PF} (hF : Fine l src j f) (hN : NextOk n0 pb cb A c l As ca src cc f j)
    (s : PS) (w : World) (h : SW n0 pb cb A c l As ca src cc s w) (ok : StOk l src s.cs) (hlg : s.lg.length + s.W l src ≤ 65536) (hd : (s.at_ i).d = false) :
    Calls Try.prog 99 #[.pointer (some ⟨pb, 0, none⟩), .int .i64 i] w fun e w' => NPost n0 pb cb A c l As ca src cc w (doneP i (stemP (fun s => s.M l src + 1) i ⟨5, (j : Int), xb, n, m⟩ f) s) e w' := by
  have _u1 := hj
  clear _u1
  have hi : i < l.length := (List.getElem?_eq_some_iff.1 hx).1
  have hil : i < s.cs.length := by rw [ok.len]; exact hi
  obtain ⟨b0, b1, b2⟩ := h.bx
  obtain ⟨nb, no, rfl, hnb, y0, y1, y2, y3, y4⟩ := h.nodes.at2 hx
  simp only at y0 y1 y2 y3 y4
  obtain ⟨W1, hW1⟩ : ∃ W1 : World, W1 = w.alloc (.cells #[.int .i64 5, .int .i64 (j : Int), .int .i64 xb, .int .i64 n, .int .i64 m] 104) := ⟨_, rfl⟩
  have hb1 : Below w.heap.size w W1 := by rw [hW1]; exact (Below.refl _ _).alloc (Nat.le_refl _) _
  have kn1 : Bk W1 w.heap.size 104 [.int .i64 5, .int .i64 (j : Int), .int .i64 xb, .int .i64 n, .int .i64 m] := by rw [hW1]; exact Bk.new _ _ [_, _, _, _, _]
  have h1 := h.below hb1
  have hpw := h.rs.ltp
  have hcw := h.rs.ltc
  have H := Lib.hid h
  have H1 := Lib.hid h1
  have Hb1 := Lib.hid hb1
  have HW1 := Lib.hid hW1
  have Hkn := Lib.hid kn1
  have Hok := Lib.hid ok
  have Hd := Lib.hid hd
  have Hx := Lib.hid hx
  have HN := Lib.hid hN
  have HF := Lib.hid hF
  have Hs := Lib.hid hs
  clear h h1 hb1 hW1 kn1 ok hd hx hN hF hs
  rcases hfs : f s with ⟨s2, o⟩
  have hfine := HF.out s Hok.out
  rw [hfs] at hfine
  have Hfine := Lib.hid hfine
  have Hcall := HN.out s W1 H1.out Hok.out hlg
  rw [hfs] at Hcall
  have Hcall := Lib.hid Hcall
  have Hfs := Lib.hid hfs
  clear hfine hfs
  go_enter Try.func99, Try.ntmps99
  go_wp2_with fail
  rw [← HW1.out]
  go_loopw [4] (fun _ wr => wr = W1) (fun _ _ => 0)
  case atStart => rfl
  case round =>
    have Hrel := Lib.hid hrel
    clear hrel
    have e1 : wr = W1 := Hrel.out
    subst e1
    clear Hrel
    have k1 := Hkn.out.cell 1
    simp only [List.getElem?_cons_succ, List.getElem?_cons_zero] at k1
    go_wp2_with fail
    refine Hcall.out.mono ?_
    rintro e w3 ⟨rfl, sw3, fr3⟩
    have kn3 := fr3.bk Hkn.out (by decide) (by omega) (by omega)
    obtain ⟨x0, x1, x2, x3, x4⟩ : (w3.cell? ⟨w.heap.size, 0, none⟩ = some (.int .i64 5)) ∧ (w3.cell? ⟨w.heap.size, 1, none⟩ = some (.int .i64 (j : Int))) ∧ (w3.cell? ⟨w.heap.size, 2, none⟩ = some (.int .i64 xb)) ∧ (w3.cell? ⟨w.heap.size, 3, none⟩ = some (.int .i64 n)) ∧ (w3.cell? ⟨w.heap.size, 4, none⟩ = some (.int .i64 m)) := ⟨kn3.cell 0, kn3.cell 1, kn3.cell 2, kn3.cell 3, kn3.cell 4⟩
    obtain ⟨b0', b1', b2'⟩ := sw3.bx
    have hl3 : i < s2.cs.length := by rw [Hfine.out.ok.len]; exact hi
    obtain ⟨c0, c1, c2, c3, c4, c5⟩ := sw3.rs.cl (i := i) hl3
    have lt0 := kn3.lt
    have lt1 := sw3.rs.ltp
    have lt2 := sw3.rs.ltc
    have Hsw := Lib.hid sw3
    have Hfr := Lib.hid ((Fr.of_below Hb1.out).trans fr3)
    clear sw3 fr3 kn3
    cases o with
    | none =>
      have ht : tup none = .tuple #[.int .i64 0, .bool false] := rfl
      go_wp2_with fail
      refine (ended_any Hsw.out Hfine.out.ok.len i hi).mono ?_
      rintro e w4 ⟨rfl, sw4, fr4⟩
      have Hsw4 := Lib.hid sw4
      have Hfr4 := Lib.hid (Hfr.out.trans fr4)
      clear sw4 fr4
      go_wp2_with fail
      refine bodyPost_ret (v := .tuple #[.int .i64 0, .bool false]) (by simp [results, Try.results99, go_sem]) rfl ?_
      have hm : doneP i (stemP (fun s => s.M l src + 1) i ⟨5, (j : Int), xb, n, m⟩ f) s = (s2.put i { s2.at_ i with d := true }, none) := doneP_none Hd.out (by simp [stemP, whileP, Hfs.out])
      rw [hm]
      exact ⟨rfl, Hsw4.out, Hfr4.out⟩
    | some v =>
      have hv := Hfine.out.item v rfl
      have ht : tup (some v) = .tuple #[.int .i64 v, .bool true] := rfl
      by_cases hge : n ≤ v
      · go_wp2_with fail
        refine (ended_any (Hsw.out.below ((Below.refl _ _).alloc (Nat.le_refl _) _)) Hfine.out.ok.len i hi).mono ?_
        rintro e w4 ⟨rfl, sw4, fr4⟩
        have Hsw4 := Lib.hid sw4
        have Hfr4 := Lib.hid ((Hfr.out.alloc _).trans fr4)
        clear sw4 fr4
        go_wp2_with fail
        refine bodyPost_ret (v := .tuple #[.int .i64 0, .bool false]) (by simp [results, Try.results99, go_sem]) rfl ?_
        have hm : doneP i (stemP (fun s => s.M l src + 1) i ⟨5, (j : Int), xb, n, m⟩ f) s = (s2.put i { s2.at_ i with d := true }, none) := doneP_none Hd.out (by simp [stemP, whileP, Hfs.out, hge])
        rw [hm]
        exact ⟨rfl, Hsw4.out, Hfr4.out⟩
      · have Hsw4 := Lib.hid (Hsw.out.below ((Below.refl _ _).alloc (Nat.le_refl _) (.cells #[.int .i64 (s2.at_ i).n, .int .i64 (s2.at_ i).l, .int .i64 (s2.at_ i).r, .bool (s2.at_ i).hl, .bool (s2.at_ i).hr, .bool (s2.at_ i).d] 79)))
        go_wp2_with fail
        refine bodyPost_ret (v := .tuple #[.int .i64 v, .bool true]) (by simp [results, Try.results99, go_sem]) rfl ?_
        have hm : doneP i (stemP (fun s => s.M l src + 1) i ⟨5, (j : Int), xb, n, m⟩ f) s = (s2, some v) := doneP_some Hd.out (by simp [stemP, whileP, Hfs.out, hge])
        rw [hm]
        exact ⟨rfl, Hsw4.out, Hfr.out.alloc _⟩

set_option maxRecDepth 100000 in
set_option maxHeartbeats 6400000 in
theorem next_scan {n0 pb cb : Nat} {A : Option Addr} {c : Nat} {l : List Nd} {As : Option Addr} {ca : Nat} {src : List (List Int)} {cc : Nat} (hs : srcOk src = true) {i j : Nat} {xb n m : Int} (hx : l[i]? = some ⟨11, (j : Int), xb, n, m⟩) (hj : j < i) {f : PF} (hF : Fine l src j f) (hN : NextOk n0 pb cb A c l As ca src cc f j)
    (s : PS) (w : World) (h : SW n0 pb cb A c l As ca src cc s w) (ok : StOk l src s.cs) (hlg : s.lg.length + s.W l src ≤ 65536) (hd : (s.at_ i).d = false) :
    Calls Try.prog 99 #[.pointer (some ⟨pb, 0, none⟩), .int .i64 i] w fun e w' => NPost n0 pb cb A c l As ca src cc w (doneP i (stemP (fun s => s.M l src + 1) i ⟨11, (j : Int), xb, n, m⟩ f) s) e w' := by
  have _u1 := hj
  clear _u1
  have hi : i < l.length := (List.getElem?_eq_some_iff.1 hx).1
  have hil : i < s.cs.length := by rw [ok.len]; exact hi
  obtain ⟨b0, b1, b2⟩ := h.bx
  obtain ⟨nb, no, rfl, hnb, y0, y1, y2, y3, y4⟩ := h.nodes.at2 hx
  simp only at y0 y1 y2 y3 y4
  obtain ⟨W1, hW1⟩ : ∃ W1 : World, W1 = w.alloc (.cells #[.int .i64 11, .int .i64 (j : Int), .int .i64 xb, .int .i64 n, .int .i64 m] 104) := ⟨_, rfl⟩
  have hb1 : Below w.heap.size w W1 := by rw [hW1]; exact (Below.refl _ _).alloc (Nat.le_refl _) _
  have kn1 : Bk W1 w.heap.size 104 [.int .i64 11, .int .i64 (j : Int), .int .i64 xb, .int .i64 n, .int .i64 m] := by rw [hW1]; exact Bk.new _ _ [_, _, _, _, _]
  have h1 := h.below hb1
  have hpw := h.rs.ltp
  have hcw := h.rs.ltc
  have H := Lib.hid h
  have H1 := Lib.hid h1
  have Hb1 := Lib.hid hb1
  have HW1 := Lib.hid hW1
  have Hkn := Lib.hid kn1
  have Hok := Lib.hid ok
  have Hd := Lib.hid hd
  have Hx := Lib.hid hx
  have HN := Lib.hid hN
  have HF := Lib.hid hF
  have Hs := Lib.hid hs
  clear h h1 hb1 hW1 kn1 ok hd hx hN hF hs
  rcases hfs : f s with ⟨s2, o⟩
  have hfine := HF.out s Hok.out
  rw [hfs] at hfine
  have Hfine := Lib.hid hfine
  have Hcall := HN.out s W1 H1.out Hok.out hlg
  rw [hfs] at Hcall
  have Hcall := Lib.hid Hcall
  have Hfs := Lib.hid hfs
  clear hfine hfs
  go_enter Try.func99, Try.ntmps99
  go_wp2_with fail
  rw [← HW1.out]
  go_loopw [4] (fun _ wr => wr = W1) (fun _ _ => 0)
  case atStart => rfl
  case round =>
    have Hrel := Lib.hid hrel
    clear hrel
    have e1 : wr = W1 := Hrel.out
    subst e1
    clear Hrel
    have k1 := Hkn.out.cell 1
    simp only [List.getElem?_cons_succ, List.getElem?_cons_zero] at k1
    go_wp2_with fail
    refine Hcall.out.mono ?_
    rintro e w3 ⟨rfl, sw3, fr3⟩
    have kn3 := fr3.bk Hkn.out (by decide) (by omega) (by omega)
    obtain ⟨x0, x1, x2, x3, x4⟩ : (w3.cell? ⟨w.heap.size, 0, none⟩ = some (.int .i64 11)) ∧ (w3.cell? ⟨w.heap.size, 1, none⟩ = some (.int .i64 (j : Int))) ∧ (w3.cell? ⟨w.heap.size, 2, none⟩ = some (.int .i64 xb)) ∧ (w3.cell? ⟨w.heap.size, 3, none⟩ = some (.int .i64 n)) ∧ (w3.cell? ⟨w.heap.size, 4, none⟩ = some (.int .i64 m)) := ⟨kn3.cell 0, kn3.cell 1, kn3.cell 2, kn3.cell 3, kn3.cell 4⟩
    obtain ⟨b0', b1', b2'⟩ := sw3.bx
    have hl3 : i < s2.cs.length := by rw [Hfine.out.ok.len]; exact hi
    obtain ⟨c0, c1, c2, c3, c4, c5⟩ := sw3.rs.cl (i := i) hl3
    have lt0 := kn3.lt
    have lt1 := sw3.rs.ltp
    have lt2 := sw3.rs.ltc
    have Hsw := Lib.hid sw3
    have Hfr := Lib.hid ((Fr.of_below Hb1.out).trans fr3)
    clear sw3 fr3 kn3
    cases o with
    | none =>
      have ht : tup none = .tuple #[.int .i64 0, .bool false] := rfl
      go_wp2_with fail
      refine (ended_any Hsw.out Hfine.out.ok.len i hi).mono ?_
      rintro e w4 ⟨rfl, sw4, fr4⟩
      have Hsw4 := Lib.hid sw4
      have Hfr4 := Lib.hid (Hfr.out.trans fr4)
      clear sw4 fr4
      go_wp2_with fail
      refine bodyPost_ret (v := .tuple #[.int .i64 0, .bool false]) (by simp [results, Try.results99, go_sem]) rfl ?_
      have hm : doneP i (stemP (fun s => s.M l src + 1) i ⟨11, (j : Int), xb, n, m⟩ f) s = (s2.put i { s2.at_ i with d := true }, none) := doneP_none Hd.out (by simp [stemP, chgP, Hfs.out])
      rw [hm]
      exact ⟨rfl, Hsw4.out, Hfr4.out⟩
    | some v =>
      have hv := Hfine.out.item v rfl
      have ht : tup (some v) = .tuple #[.int .i64 v, .bool true] := rfl
      have hm99 : mostOf ⟨11, (j : Int), xb, n, m⟩ src = 99 := by simp [mostOf]
      have hc0 : 0 ≤ (s2.at_ i).n ∧ (s2.at_ i).n ≤ mostOf ⟨11, (j : Int), xb, n, m⟩ src := (StOk.at_ Hfine.out.ok Hx.out).1
      rw [hm99] at hc0
      clear hm99
      have hw1 : IntKind.i64.wrap ((s2.at_ i).n + v) = (s2.at_ i).n + v := IntWalk.i64_in _ (by omega)
      have hr : ((s2.at_ i).n + v).tmod 100 = rst ((s2.at_ i).n + v) := rfl
      have hr2 := rst_in (x := (s2.at_ i).n + v) (by omega)
      have g0 := Hsw.out.rs.free (i * 6)
      have q1 := Hsw.out.rs.setN (i := i) hl3 (rst ((s2.at_ i).n + v))
      have q2 := (Fr.refl n0 pb cb w3).setc (i * 6) (.int .i64 (rst ((s2.at_ i).n + v)))
      have q3 := ((Hsw.out.next q1 q2).below ((Below.refl _ _).alloc (Nat.le_refl _) (.cells #[.int .i64 (s2.at_ i).n, .int .i64 (s2.at_ i).l, .int .i64 (s2.at_ i).r, .bool (s2.at_ i).hl, .bool (s2.at_ i).hr, .bool (s2.at_ i).d] 79))).below (Below.refl _ _).drew
      obtain ⟨z0, z1, z2⟩ := q3.bx
      obtain ⟨d0, d1, d2, d3, d4, d5⟩ := q3.rs.cl (i := i) (by simp only [PS.put, List.length_set]; exact hl3)
      rw [PS.at_put hl3] at d0
      simp only at d0
      have Hq3 := Lib.hid q3
      have Hq2 := Lib.hid ((q2.alloc (.cells #[.int .i64 (s2.at_ i).n, .int .i64 (s2.at_ i).l, .int .i64 (s2.at_ i).r, .bool (s2.at_ i).hl, .bool (s2.at_ i).hr, .bool (s2.at_ i).d] 79)).drew)
      clear q1 q2 q3
      go_wp2_with fail
      go_region
      go_wp2_with fail
      refine bodyPost_ret (v := .tuple #[.int .i64 (rst ((s2.at_ i).n + v)), .bool true]) (by simp [results, Try.results99, go_sem]) rfl ?_
      have hm : doneP i (stemP (fun s => s.M l src + 1) i ⟨11, (j : Int), xb, n, m⟩ f) s = (s2.put i { s2.at_ i with n := rst ((s2.at_ i).n + v) }, some (rst ((s2.at_ i).n + v))) := doneP_some Hd.out (by simp [stemP, chgP, scanG, Hfs.out])
      rw [hm]
      exact ⟨rfl, Hq3.out, Hfr.out.trans Hq2.out⟩


end Go.Proofs.Ytjhdjfobbgfpfaa
