/- Texts on the program and its reference, put together (PwE, PwG, PtB, PwN, Any, PwF). -/
import Derived.Test.YthfniffecceldaaMq5R
import Derived.Deep.RegionHeld3
import Derived.Deep.CutRange
import Derived.Test.YthfniffecceldaaMq5K
import Derived.TacticsInMore
import Derived.LoopNIn
import Derived.Test.YthfniffecceldaaMq5Q
import Derived.OrdersHeld
import Derived.Test.YthfniffecceldaaMq5D
/- Contracts: pulls by the program: costs: a watched pull. -/
namespace Go.Proofs.Ythfniffecceldaa
open Go.RowKit

/-- What a watched pull may write. -/
structure FP (n0 rb cb wb gb hb eb : Nat) (w w' : World) : Prop where
  os : w'.os = w.os
  tape : w'.tape = w.tape
  output : w'.output = w.output
  size : w.heap.size ≤ w'.heap.size
  block : ∀ b, b < w.heap.size → b ≠ rb → b ≠ cb → b ≠ wb → b ≠ gb → b ≠ hb → b ≠ eb → (b < n0 ∨ ¬ IsPl w b) → w'.heap[b]? = w.heap[b]?
section
variable {n0 rb cb wb gb hb eb : Nat} {w w' v w1 : World}
theorem FP.of (h : Fr n0 rb cb w w') (k : FA wb gb hb eb w' v) : FP n0 rb cb wb gb hb eb w v :=
  ⟨k.os.trans h.os, k.tape.trans h.tape, k.output.trans h.output, Nat.le_trans h.size k.size, fun b hb h1 h2 h3 h4 h5 h6 h7 => (k.block b (Nat.lt_of_lt_of_le hb h.size) h3 h4 h5 h6).trans (h.block b hb h1 h2 h7)⟩
theorem FP.bk (h : FP n0 rb cb wb gb hb eb w w') {g : Nat} {t : TypeId} {cs : List Value} (hb' : Bk w g t cs) (ht : t ≠ 90) (h1 : g ≠ rb) (h2 : g ≠ cb) (h3 : g ≠ wb) (h4 : g ≠ gb) (h5 : g ≠ hb) (h6 : g ≠ eb) : Bk w' g t cs := (h.block g hb'.lt h1 h2 h3 h4 h5 h6 (.inr (IsPl.not hb' ht))).trans hb'
/-- A block that no closure of the run looks at. -/
def Aside (n0 rb : Nat) (w1 : World) (b : Nat) : Prop := n0 ≤ b ∧ (b < rb ∨ w1.heap.size ≤ b)
theorem Fi.fa (h : Fi n0 rb cb w1 w) (k : FA wb gb hb eb w w') (h1 : Aside n0 rb w1 wb) (h2 : Aside n0 rb w1 gb) (h3 : Aside n0 rb w1 hb) (h4 : Aside n0 rb w1 eb) : Fi n0 rb cb w1 w' := by
  obtain ⟨h1, k1⟩ := h1
  obtain ⟨h2, k2⟩ := h2
  obtain ⟨h3, k3⟩ := h3
  obtain ⟨h4, k4⟩ := h4
  exact ⟨k.os.trans h.os, k.tape.trans h.tape, k.output.trans h.output, Nat.le_trans h.size k.size, fun b hb h5 h6 h7 => (k.block b (Nat.lt_of_lt_of_le hb h.size) (by omega) (by omega) (by omega) (by omega)).trans (h.block b hb h5 h6 h7)⟩
theorem WR.fr {lg : List Pl} {rb' : Nat} {T : TypeId} {hd tl : List Value} {s : PS} (h : WR wb gb hb eb rb' lg w) (hr : RS n0 rb cb T hd tl s w) (h1 : T ≠ 83) (h2 : T ≠ 3) (h3 : T ≠ 4) (f : Fr n0 rb cb w w') : WR wb gb hb eb rb' lg w' := by
  obtain ⟨cs, hc, _⟩ := hr.cells
  obtain ⟨R, cR, hb, _⟩ := hr.box
  exact ⟨f.bk h.bx (by decide) (Bk.ne h.bx hb h1.symm) (Bk.ne h.bx hc (by decide)), f.bk h.g (by decide) (Bk.ne h.g hb h2.symm) (Bk.ne h.g hc (by decide)), f.bk h.h (by decide) (Bk.ne h.h hb h2.symm) (Bk.ne h.h hc (by decide)), f.bk h.e (by decide) (Bk.ne h.e hb h3.symm) (Bk.ne h.e hc (by decide)), h.ne⟩
theorem IsPl.ne {g b : Nat} {t : TypeId} {cs : List Value} (h : IsPl w g) (hb : Bk w b t cs) (ht : t ≠ 90) : g ≠ b := fun e => by subst e; exact IsPl.not hb ht h
theorem RS.fa {lg : List Pl} {rb' : Nat} {T : TypeId} {hd tl : List Value} {s : PS} (h : RS n0 rb cb T hd tl s w) (k : WR wb gb hb eb rb' lg w) (h1 : T ≠ 83) (h2 : T ≠ 3) (h3 : T ≠ 4) (f : FA wb gb hb eb w w') : RS n0 rb cb T hd tl s w' := by
  obtain ⟨cs, hc, hcs⟩ := h.cells
  obtain ⟨R, cR, hb, ho⟩ := h.box
  exact ⟨h.tp, h.tc, h.lop, h.loc, ⟨cs, f.bk hc (Bk.ne hc k.bx (by decide)) (Bk.ne hc k.g (by decide)) (Bk.ne hc k.h (by decide)) (Bk.ne hc k.e (by decide)), hcs⟩, ⟨R, cR, f.bk hb (Bk.ne hb k.bx h1) (Bk.ne hb k.g h2) (Bk.ne hb k.h h2) (Bk.ne hb k.e h3), ho.keep fun g hg hp => f.block g hg (hp.ne k.bx (by decide)) (hp.ne k.g (by decide)) (hp.ne k.h (by decide)) (hp.ne k.e (by decide))⟩⟩
end
/-- The pulls of a run, read where they lie. -/
theorem OwnG.rdg {w : World} {base c : Nat} {R : Option Addr} {l : List Pl} (h : OwnG w base R c l) (hl : 0 < l.length) : ∃ g cs, R = some ⟨g, 0, none⟩ ∧ Bk w g 90 cs ∧ l.length ≤ c ∧ ∀ (k : Nat) (x : Pl), l[k]? = some x → cs[k * 2]? = some (.int .i64 x.s) ∧ cs[k * 2 + 1]? = some (.int .i64 x.i) := by
  obtain ⟨_, ⟨_, h0⟩ | ⟨g, cap, cur, hv, hb, hh, hn, _, _, ht⟩⟩ := h
  · omega
  · injection hv with hA _ hc
    subst hc
    refine ⟨g, cur.toList, hA, by unfold Bk; simpa using hh, hn, fun k x hx => ?_⟩
    have hk : k < l.length := (List.getElem?_eq_some_iff.1 hx).1
    obtain ⟨p0, p1⟩ := pls_at hx
    have e : ∀ j, j < l.length * 2 → cur.toList[j]? = (pls l)[j]? := fun j hj => by rw [← ht, List.getElem?_take_of_lt (by omega)]
    exact ⟨by rw [e _ (by omega)]; exact p0, by rw [e _ (by omega)]; exact p1⟩
/-- A watched pull's premises. -/
structure Wat (n0 rb cb N : Nat) (l : List Nd) (src : List (List Int)) (w1 : World) (wb gb hb eb : Nat) (fe : Value) (s : PS) (W : World) : Prop where
  fr : Fi n0 rb cb w1 W
  iw : IW n0 rb cb N N fe s W
  wr : WR wb gb hb eb rb s.lg W
  ok : StOk l src s.cs
  lg : s.lg.length + s.W l src ≤ 65536
  si : SInv l src s
  b1 : Aside n0 rb w1 wb
  b2 : Aside n0 rb w1 gb
  b3 : Aside n0 rb w1 hb
  b4 : Aside n0 rb w1 eb

set_option maxRecDepth 100000 in
set_option maxHeartbeats 6400000 in
theorem wpull_any {n0 rb cb N : Nat} {l : List Nd} {src : List (List Int)} {j : Nat} {f : PF} (hF : Fine l src j f) (hG : GrowF l src f) {kf : FuncId} {lb : Array Value} (eg : ∀ (args : Array Value) (w : World), (callFunc kf args).run Try.prog w = .ok (.enter kf args) w) {w1 : World} (pu : Pulls n0 rb cb N N l src f kf lb w1) (h12 : Hid (∀ r ∈ src, r.length ≤ 12)) {wb gb hb eb : Nat} (s : PS) (W : World) (h : Wat n0 rb cb N l src w1 wb gb hb eb (.func (.func kf) #[] lb) s W) :
    Calls Try.prog 74 #[.pointer (some ⟨wb, 0, none⟩)] W fun e w' => e = .returned (tup (f s).2) ∧ Wat n0 rb cb N l src w1 wb gb hb eb (.func (.func kf) #[] lb) (f s).1 w' ∧ FP n0 rb cb wb gb hb eb W w' := by
  obtain ⟨s2, op, hfs⟩ : ∃ s2 o, f s = (s2, o) := ⟨_, _, rfl⟩
  have hcall := pu _ s W h.fr h.iw h.ok h.lg
  have hfine := hF s h.ok
  have hgrow := hG s h.si
  rw [hfs] at hcall hfine hgrow
  rw [hfs]
  obtain ⟨si2, more, elg, hgood⟩ := hgrow
  obtain ⟨xv, hxv⟩ : ∃ v, op.getD 0 = v := ⟨_, rfl⟩
  obtain ⟨bv, hbv⟩ : ∃ v, op.isSome = v := ⟨_, rfl⟩
  have ht : tup op = .tuple #[.int .i64 xv, .bool bv] := by unfold tup; rw [hxv, hbv]
  have c0 := h.wr.bx.cell 0
  obtain ⟨R1, cR1, kb1, _⟩ := RS.box h.iw
  have r2 := kb1.cell 2
  have l0 := h.wr.bx.lt
  have l1 := kb1.lt
  simp only [List.cons_append, List.nil_append, List.getElem?_cons_succ, List.getElem?_cons_zero] at c0 r2
  have H := Lib.hid h
  have Hcall := Lib.hid hcall
  have Hfine := Lib.hid hfine
  have Hsi2 := Lib.hid si2
  have Helg := Lib.hid elg
  have Hgood := Lib.hid hgood
  have Ht := Lib.hid ht
  clear h hcall hfine si2 elg hgood hF hG pu hfs ht kb1 hxv hbv
  go_enter Try.func74, Try.ntmps74
  go_wp2_with fail
  refine Hcall.out.mono ?_
  rintro e w2 ⟨rfl, iw2, fr2⟩
  rw [Ht.out]
  have wr2 := H.out.wr.fr H.out.iw (by decide) (by decide) (by decide) fr2
  obtain ⟨R2, cR2, kb2, og2⟩ := RS.box iw2
  have d0 := wr2.bx.cell 0
  have d1 := wr2.bx.cell 1
  have d2 := kb2.cell 1
  have m0 := wr2.bx.lt
  have m1 := kb2.lt
  simp only [List.cons_append, List.nil_append, List.getElem?_cons_succ, List.getElem?_cons_zero] at d0 d1 d2
  have Hwr2 := Lib.hid wr2
  have Hiw2 := Lib.hid iw2
  have Hfr2 := Lib.hid fr2
  have Hog2 := Lib.hid og2
  obtain ⟨t, htl⟩ : ∃ t, s.lg.length = t := ⟨_, rfl⟩
  obtain ⟨m, hml⟩ : ∃ m, more.length = m := ⟨_, rfl⟩
  have hl2 : s2.lg.length = t + m := by rw [Helg.out, List.length_append, htl, hml]
  have htm : t + m ≤ 65536 := by have := Hfine.out.wle; have := H.out.lg; simp only at *; omega
  rw [htl] at d1
  rw [hl2] at d2
  have Htl := Lib.hid htl
  have Hml := Lib.hid hml
  have Hl2 := Lib.hid hl2
  clear wr2 iw2 fr2 og2 kb2 c0 r2 l0 l1 htl hml hl2
  go_wp2_with fail
  go_cut [30, 31, 32] from 19 to 32 (fun s30 s31 s32 wx => ∃ ad cp, s30 = .slice ad m cp ∧ s31 = .int .i64 m ∧ s32 = .int .i64 0 ∧ (0 < m → ∃ g, R2 = some ⟨g, 0, none⟩ ∧ ad = some ⟨g, t * 2, none⟩) ∧ Below w2.heap.size w2 wx)
  case first =>
    have i0 : (0 : Int) ≤ (t : Int) := by omega
    have i1 : (t : Int) ≤ ((t + m : Nat) : Int) := by omega
    by_cases hm : 0 < m
    · obtain ⟨g, cs, hR, _, hcap, _⟩ := Hog2.out.rdg (by rw [Hl2.out]; omega)
      rw [Hl2.out] at hcap
      subst hR
      have i2 : ((t + m : Nat) : Int) ≤ (cR2 : Int) := by omega
      have i3 : (t : Int) ≤ (cR2 : Int) := by omega
      have i6 : (t : Int) ≤ (t : Int) + (m : Int) := by omega
      have i7 : (t : Int) + (m : Int) ≤ (cR2 : Int) := by omega
      have i4 : ¬ (cR2 : Int) = (t : Int) := by omega
      have i5 : cR2 ≠ t := by omega
      go_region_held3 (fun w' => w'.cell? ⟨wb, 0, none⟩ = some (.pointer (some ⟨rb, 0, none⟩)) ∧ w'.cell? ⟨rb, 1, none⟩ = some (.slice (some ⟨g, 0, none⟩) (t + m) cR2) ∧ w'.cell? ⟨wb, 1, none⟩ = some (.int .i64 t)) (first | exact ⟨d0, d2, d1⟩ | exact ks | go_keep)
        (first
          | (
            go_at_call 63
            refine (load_cnt wb t w2.drew d1).mono ?_
            rintro e w4 ⟨rfl, rfl⟩
            have ks := And.intro d0 (And.intro d2 d1))
        )
      go_wp2_with fail
      go_meet
      case rel => exact ⟨_, _, rfl, rfl, rfl, fun _ => ⟨g, rfl, rfl⟩, (Below.refl _ _).drew⟩
    · obtain rfl : m = 0 := by omega
      have hcap : t ≤ cR2 := by
        obtain ⟨_, ⟨hv, h0⟩ | ⟨g, cap, cur, hv, _, _, hn, _⟩⟩ := Hog2.out
        · rw [Hl2.out] at h0; omega
        · injection hv with _ _ hc; rw [Hl2.out] at hn; omega
      by_cases hct : cR2 = t
      · obtain rfl := hct.symm
        have i2 : (t : Int) ≤ (t : Int) := Int.le_refl _
        cases hR2 : R2 with
        | none =>
          rw [hR2] at d2
          go_region_held3 (fun w' => w'.cell? ⟨wb, 0, none⟩ = some (.pointer (some ⟨rb, 0, none⟩)) ∧ w'.cell? ⟨rb, 1, none⟩ = some (.slice none (t + 0) t) ∧ w'.cell? ⟨wb, 1, none⟩ = some (.int .i64 t)) (first | exact ⟨d0, d2, d1⟩ | exact ks | go_keep)
            (first
              | (
                go_at_call 63
                refine (load_cnt wb t w2.drew d1).mono ?_
                rintro e w4 ⟨rfl, rfl⟩
                have ks := And.intro d0 (And.intro d2 d1))
            )
          go_wp2_with fail
          go_meet
          case rel => exact ⟨_, _, rfl, rfl, rfl, fun h => absurd h (Nat.lt_irrefl _), (Below.refl _ _).drew⟩
        | some ad =>
          rw [hR2] at d2
          go_region_held3 (fun w' => w'.cell? ⟨wb, 0, none⟩ = some (.pointer (some ⟨rb, 0, none⟩)) ∧ w'.cell? ⟨rb, 1, none⟩ = some (.slice (some ad) (t + 0) t) ∧ w'.cell? ⟨wb, 1, none⟩ = some (.int .i64 t)) (first | exact ⟨d0, d2, d1⟩ | exact ks | go_keep)
            (first
              | (
                go_at_call 63
                refine (load_cnt wb t w2.drew d1).mono ?_
                rintro e w4 ⟨rfl, rfl⟩
                have ks := And.intro d0 (And.intro d2 d1))
            )
          go_wp2_with fail
          go_meet
          case rel => exact ⟨_, _, rfl, rfl, rfl, fun h => absurd h (Nat.lt_irrefl _), (Below.refl _ _).drew⟩
      · have i2 : (t : Int) ≤ (cR2 : Int) := by omega
        have i4 : ¬ (cR2 : Int) = (t : Int) := by omega
        obtain ⟨ad, hR2⟩ : ∃ ad, R2 = some ad := by
          obtain ⟨_, ⟨hv, h0⟩ | ⟨g, cap, cur, hv, _⟩⟩ := Hog2.out
          · injection hv with _ _ hc; omega
          · injection hv with hA; exact ⟨_, hA⟩
        rw [hR2] at d2
        go_region_held3 (fun w' => w'.cell? ⟨wb, 0, none⟩ = some (.pointer (some ⟨rb, 0, none⟩)) ∧ w'.cell? ⟨rb, 1, none⟩ = some (.slice (some ad) (t + 0) cR2) ∧ w'.cell? ⟨wb, 1, none⟩ = some (.int .i64 t)) (first | exact ⟨d0, d2, d1⟩ | exact ks | go_keep)
          (first
            | (
              go_at_call 63
              refine (load_cnt wb t w2.drew d1).mono ?_
              rintro e w4 ⟨rfl, rfl⟩
              have ks := And.intro d0 (And.intro d2 d1))
          )
        go_wp2_with fail
        go_meet
        case rel => exact ⟨_, _, rfl, rfl, rfl, fun h => absurd h (Nat.lt_irrefl _), (Below.refl _ _).drew⟩
  case rest =>
    obtain ⟨ad, cp, rfl, rfl, rfl, had, hbx⟩ := hcut
    have Had := Lib.hid had
    have Hbx := Lib.hid hbx
    clear had hbx d0 d1 d2 m0 m1
    go_wp2_with fail
    go_loopw [32] (fun iv wr => ∃ jj : Nat, jj ≤ m ∧ iv = .int .i64 jj ∧ WR wb gb hb eb rb (s.lg ++ more.take jj) wr ∧ FA wb gb hb eb w2 wr) (fun iv _ => m - (intOf iv).toNat)
    case atStart => exact ⟨0, Nat.zero_le _, rfl, by rw [List.take_zero, List.append_nil]; exact Hwr2.out.below Hbx.out, FA.of_below Hbx.out⟩
    case round =>
      obtain ⟨jj, hjj, rfl, hwr, hfa⟩ := hrel
      have Hwr := Lib.hid hwr
      have Hfa := Lib.hid hfa
      have hzf := hfa.size
      clear hwr hfa
      by_cases hlt : jj < m
      · obtain ⟨g, hR, rfl⟩ := Had.out (by omega)
        subst hR
        obtain ⟨g', cs, hg', hbg, hcap, hread⟩ := Hog2.out.rdg (by rw [Hl2.out]; omega)
        obtain rfl : g = g' := by injection hg' with e; injection e
        obtain ⟨p, hp⟩ : ∃ p, more[jj]? = some p := ⟨_, List.getElem?_eq_getElem (by rw [Hml.out]; exact hlt)⟩
        have hp2 : s2.lg[t + jj]? = some p := by rw [Helg.out, List.getElem?_append_right (by rw [Htl.out]; omega), Htl.out, show t + jj - t = jj by omega]; exact hp
        obtain ⟨q0, q1⟩ := hread _ _ hp2
        have hbgr : Bk wr g 90 cs := Hfa.out.bk hbg (Bk.ne hbg Hwr2.out.bx (by decide)) (Bk.ne hbg Hwr2.out.g (by decide)) (Bk.ne hbg Hwr2.out.h (by decide)) (Bk.ne hbg Hwr2.out.e (by decide))
        have y0 := hbgr.cell ((t + jj) * 2)
        have y1 := hbgr.cell ((t + jj) * 2 + 1)
        rw [q0] at y0
        rw [q1] at y1
        have lg0 := hbgr.lt
        have hj1 : (jj : Int) < (m : Int) := by omega
        have hj0 : (0 : Int) ≤ (jj : Int) := by omega
        have eoff : t * 2 + jj * 2 = (t + jj) * 2 := by omega
        rw [← eoff] at y0 y1
        have Hp := Lib.hid hp
        clear hg' hbg hcap hread hp2 q0 q1 hbgr eoff hp
        go_wp2_with fail
        have hlen : (s.lg ++ more.take jj).length ≤ 65536 := by
          rw [List.length_append, Htl.out, List.length_take, Hml.out]; omega
        refine (account_any h12 hlen p (Hgood.out p (List.mem_of_getElem? Hp.out)) (wr.alloc (.cells #[.int .i64 p.s, .int .i64 p.i] 90)) (Hwr.out.below ((Below.refl _ _).alloc (Nat.le_refl _) _))).mono ?_
        rintro e w5 ⟨rfl, wr5, fa5⟩
        have Hwr5 := Lib.hid wr5
        have Hfa5 := Lib.hid ((Hfa.out.alloc _).trans fa5)
        clear wr5 fa5 y0 y1 hlen
        go_wp2_with fail
        go_roundw
        case rel => exact ⟨jj + 1, by omega, by go_num, by rw [take_succ_of Hp.out, ← List.append_assoc]; exact Hwr5.out, Hfa5.out⟩
        case measure => simp [intOf]; omega
      · obtain rfl : jj = m := by omega
        go_wp2_with fail
        refine bodyPost_ret (v := .tuple #[.int .i64 xv, .bool bv]) (by simp [results, Try.results74, go_sem]) rfl ⟨by rw [Ht.out], ?_, FP.of Hfr2.out Hfa.out⟩
        have hall : s.lg ++ more.take jj = s2.lg := by rw [Helg.out, ← Hml.out, List.take_length]
        exact ⟨(H.out.fr.trans Hfr2.out).fa Hfa.out H.out.b1 H.out.b2 H.out.b3 H.out.b4, RS.fa Hiw2.out Hwr2.out (by decide) (by decide) (by decide) Hfa.out, by rw [← hall]; exact Hwr.out, Hfine.out.ok, Nat.le_trans Hfine.out.wle H.out.lg, Hsi2.out, H.out.b1, H.out.b2, H.out.b3, H.out.b4⟩


end Go.Proofs.Ythfniffecceldaa

/- Contracts: pulls by the program: costs: pulls by a method value, ranged over. -/
namespace Go.Proofs.Ythfniffecceldaa
open Go.RowKit Go.Shelf

attribute [local go_sem] Oper.semAt_some

set_option maxHeartbeats 1600000 in
theorem pulledM_in (kp : FuncId) (bnd : Value) (k : Int) (w : World) :
    Calls Try.prog 75 #[.func (.func kp) #[bnd] #[], .int .i64 k] w fun e w' => e = .returned (.func (.func 89) #[] #[.pointer (some ⟨w.heap.size + 1, 0, none⟩), .pointer (some ⟨w.heap.size, 0, none⟩)]) ∧ w' = (w.alloc (.cells #[.func (.func kp) #[bnd] #[]] 114)).alloc (.cells #[.int .i64 k] 3) := by
  go_enter Try.func75, Try.ntmps75
  go_wp2
  go_ret
  exact ⟨rfl, rfl⟩

set_option maxRecDepth 100000 in
set_option maxHeartbeats 6400000 in
theorem pulledM1_in {f : PF} (kp : FuncId) (bnd : Value) (eg : ∀ (args : Array Value) (w : World), (callFunc kp args).run Try.prog w = .ok (.enter kp args) w)
    (k : Nat) (hk : k ≤ 1000) (lr bk bp : Nat) (J : List Int → PS → World → Prop)
    (hJ : ∀ pre s W, J pre s W → W.cell? ⟨bk, 0, none⟩ = some (.int .i64 k) ∧ W.cell? ⟨bp, 0, none⟩ = some (.func (.func kp) #[bnd] #[]))
    (hC : ∀ pre s W, J pre s W → Calls Try.prog kp #[bnd] W fun e W' => e = .returned (tup (f s).2) ∧ J pre (f s).1 W')
    (hY : ∀ pre s W v, J pre s W → pre.length < k → YieldAt Fence.wide 3 Try.prog lr #[.int .i64 v] W fun e W' => e = .returned (.bool true) ∧ J (pre ++ [v]) s W')
    (s : PS) (W : World) (h0 : J [] s W) :
    CallsIn Fence.wide 4 Try.prog 89 #[.func (.yield lr) #[] #[], .pointer (some ⟨bk, 0, none⟩), .pointer (some ⟨bp, 0, none⟩)] W fun e W' => (∃ v, e = .returned v) ∧ J (runP f k s).1 (runP f k s).2 W' := by
  have HJ := Lib.hid hJ
  have HC := Lib.hid hC
  have HY := Lib.hid hY
  obtain ⟨hc1, hc2⟩ := hJ _ _ _ h0
  have H0 := Lib.hid h0
  clear hJ hC hY h0
  refine callsIn_of_wp Try.func89 rfl trivial ?_ rfl
  simp only [Try.ntmps89, List.size_toArray, List.length_cons, List.length_nil, Nat.reduceAdd, Nat.reduceSub, Array.replicate_succ, Array.replicate_zero, List.push_toArray, List.append_toArray, List.nil_append, List.cons_append]
  gi_wp2
  gi_loopw [7] (fun p wr => ∃ (pre : List Int) (s1 : PS), pre.length ≤ k ∧ p = .int .i64 (pre.length : Nat) ∧ J pre s1 wr ∧ runP f k s = (pre ++ (runP f (k - pre.length) s1).1, (runP f (k - pre.length) s1).2)) (fun p _ => k - (intOf p).toNat)
  case atStart => exact ⟨[], s, Nat.zero_le _, rfl, H0.out, by simp⟩
  case round =>
    obtain ⟨pre, s1, hle, rfl, hj, hrun⟩ := hrel
    obtain ⟨c1, c2⟩ := HJ.out _ _ _ hj
    obtain ⟨q, hq⟩ : ∃ q, pre.length = q := ⟨_, rfl⟩
    rw [hq] at hle hrun
    rw [hq]
    have Hj := Lib.hid hj
    have Hrun := Lib.hid hrun
    have Hq := Lib.hid hq
    clear hj hrun hq
    by_cases hlt : q < k
    · have hlt2 : (q : Int) < k := by omega
      have hw1 : IntKind.i64.wrap ((q : Int) + 1) = (q : Int) + 1 := IntWalk.i64_in _ (by omega)
      rcases hfs : f s1 with ⟨s2, o⟩
      have hcall := HC.out pre s1 wr Hj.out
      rw [hfs] at hcall
      have Hcall := Lib.hid hcall
      have Hfs := Lib.hid hfs
      obtain ⟨k', hk'⟩ : ∃ k', k - q = k' + 1 := ⟨k - q - 1, by omega⟩
      have Hk' := Lib.hid hk'
      clear hcall hfs hk'
      gi_wp2
      refine ⟨trivial, ?_⟩
      refine (callsIn_wide.2 Hcall.out).mono ?_
      rintro e w2 ⟨rfl, hj2⟩
      have Hj2 := Lib.hid hj2
      clear hj2
      cases o with
      | none =>
        have ht : tup none = .tuple #[.int .i64 0, .bool false] := rfl
        have hr : runP f k s = (pre, s2) := by rw [Hrun.out, Hk'.out]; simp only [runP]; rw [Hfs.out]; simp
        have Hr := Lib.hid hr
        clear hr
        gi_wp2
        refine ⟨fun _ h => (by cases h), ?_⟩
        gi_wp2
        refine bodyPost_ret (results_none rfl _ _ _) rfl ?_
        exact ⟨⟨_, rfl⟩, by rw [Hr.out]; exact Hj2.out⟩
      | some v =>
        have ht : tup (some v) = .tuple #[.int .i64 v, .bool true] := rfl
        obtain ⟨fn, tmps, assign, body, hy, hR⟩ := HY.out _ _ _ v Hj2.out (by rw [Hq.out]; exact hlt)
        gi_wp2
        refine hR.mono ?_
        rintro e w3 ⟨rfl, hj3⟩
        obtain ⟨d1, d2⟩ := HJ.out _ _ _ hj3
        have Hj3 := Lib.hid hj3
        clear hj3
        gi_wp2
        go_roundw
        case rel =>
          refine ⟨pre ++ [v], s2, by rw [List.length_append, Hq.out]; simp; omega, by rw [List.length_append, Hq.out]; go_num, Hj3.out, ?_⟩
          rw [Hrun.out, Hk'.out, List.length_append, Hq.out]
          simp only [runP]
          rw [Hfs.out]
          have : k - (q + [v].length) = k' := by have := Hk'.out; simp; omega
          rw [this]
          simp
        case measure => simp [intOf]; omega
    · have hqk : q = k := by omega
      have hr : runP f k s = (pre, s1) := by rw [Hrun.out, show k - q = 0 by omega]; simp [runP]
      have Hr := Lib.hid hr
      clear hr
      gi_wp2
      go_end0
      exact ⟨⟨_, rfl⟩, by rw [Hr.out]; exact Hj.out⟩

end Go.Proofs.Ythfniffecceldaa

/- Contracts: pulls by the program: pulls until the end, ranged over. -/
namespace Go.Proofs.Ythfniffecceldaa
open Go.RowKit Go.Shelf

attribute [local go_sem] Oper.semAt_some

set_option maxHeartbeats 1600000 in
theorem untilEnd_in (wb : Nat) (w : World) :
    Calls Try.prog 51 #[.pointer (some ⟨wb, 0, none⟩)] w fun e w' => e = .returned (.func (.func 73) #[] #[.pointer (some ⟨w.heap.size, 0, none⟩)]) ∧ w' = w.alloc (.cells #[.pointer (some ⟨wb, 0, none⟩)] 70) := by
  go_enter Try.func51, Try.ntmps51
  go_wp2
  go_ret
  exact ⟨rfl, rfl⟩

set_option maxRecDepth 100000 in
set_option maxHeartbeats 6400000 in
theorem untilEnd1_in {l : List Nd} {src : List (List Int)} {t : TI} {e : Nat} (he : EndsAt l src t e) (wb bx lr : Nat) (J : Nat → Nat → World → Prop)
    (hJ : ∀ a b W, J a b W → W.cell? ⟨bx, 0, none⟩ = some (.pointer (some ⟨wb, 0, none⟩)))
    (hC : ∀ a W, a ≤ e → J a a W → Calls Try.prog 74 #[.pointer (some ⟨wb, 0, none⟩)] W fun d W' => d = .returned (tup (pull src (fun s => s.M l src + 1) t (stAt l src t a)).2) ∧ J (a + 1) a W')
    (hY : ∀ a W, a ≤ e → J (a + 1) a W → YieldAt Fence.wide 3 Try.prog lr #[.int .i64 ((a : Int) + 1)] W fun d W' => d = .returned (.bool true) ∧ J (a + 1) (a + 1) W')
    (W : World) (h0 : J 0 0 W) :
    CallsIn Fence.wide 4 Try.prog 73 #[.func (.yield lr) #[] #[], .pointer (some ⟨bx, 0, none⟩)] W fun d W' => (∃ v, d = .returned v) ∧ J (e + 1) (e + 1) W' := by
  have HJ := Lib.hid hJ
  have HC := Lib.hid hC
  have HY := Lib.hid hY
  have He := Lib.hid he
  have hle := he.le
  have hc1 := hJ _ _ _ h0
  have H0 := Lib.hid h0
  clear hJ hC hY h0 he
  refine callsIn_of_wp Try.func73 rfl trivial ?_ rfl
  simp only [Try.ntmps73, List.size_toArray, List.length_cons, List.length_nil, Nat.reduceAdd, Nat.reduceSub, Array.replicate_succ, Array.replicate_zero, List.push_toArray, List.append_toArray, List.nil_append, List.cons_append]
  gi_wp2
  gi_loopw [3, 4] (fun kv mv wr => ∃ a : Nat, a ≤ e + 1 ∧ kv = .int .i64 ((a : Int) + 1) ∧ mv = .bool (decide (a ≤ e)) ∧ J a a wr) (fun kv _ _ => e + 2 - (intOf kv).toNat)
  case atStart => exact ⟨0, Nat.zero_le _, rfl, by simp, H0.out⟩
  case round =>
    obtain ⟨a, ha, rfl, rfl, hj⟩ := hrel
    have c1 := HJ.out _ _ _ hj
    have Hj := Lib.hid hj
    clear hj
    by_cases hlt : a ≤ e
    · have hdm : decide (a ≤ e) = true := decide_eq_true hlt
      have hw1 : IntKind.i64.wrap ((a : Int) + 1 + 1) = (a : Int) + 1 + 1 := IntWalk.i64_in _ (by omega)
      obtain ⟨o, ho⟩ : ∃ o, (pull src (fun s => s.M l src + 1) t (stAt l src t a)).2 = o := ⟨_, rfl⟩
      have hos : o.isSome = decide (a + 1 ≤ e) := by
        rw [← ho]
        by_cases h : a = e
        · subst h; rw [He.out.none_]; simp
        · rw [He.out.some_ a (by omega)]; simp; omega
      have hcall := HC.out a wr hlt Hj.out
      rw [ho] at hcall
      have Hcall := Lib.hid hcall
      have Hos := Lib.hid hos
      rw [hdm]
      clear hcall hos ho hdm
      obtain ⟨xv, hxv⟩ : ∃ v, o.getD 0 = v := ⟨_, rfl⟩
      have ht : tup o = .tuple #[.int .i64 xv, .bool (decide (a + 1 ≤ e))] := by unfold tup; rw [hxv, Hos.out]
      have Ht := Lib.hid ht
      clear hxv ht
      gi_wp2
      refine ⟨trivial, ?_⟩
      refine (callsIn_wide.2 Hcall.out).mono ?_
      rintro d w2 ⟨rfl, hj2⟩
      rw [Ht.out]
      obtain ⟨fn, tmps, assign, body, hy, hR⟩ := HY.out a w2 hlt hj2
      clear hj2
      gi_wp2
      refine hR.mono ?_
      rintro d w3 ⟨rfl, hj3⟩
      have d1 := HJ.out _ _ _ hj3
      have Hj3 := Lib.hid hj3
      clear hj3
      gi_wp2
      go_roundw
      case rel => exact ⟨a + 1, by omega, by go_num, rfl, Hj3.out⟩
      case measure => simp [intOf]; omega
    · obtain rfl : a = e + 1 := by omega
      have hdm : decide (e + 1 ≤ e) = false := decide_eq_false (by omega)
      rw [hdm]
      gi_wp2
      go_end0
      exact ⟨⟨_, rfl⟩, Hj.out⟩

end Go.Proofs.Ythfniffecceldaa

/- Contracts: pulls by the program: costs: a watched end, before the first pull. -/
namespace Go.Proofs.Ythfniffecceldaa
open Go.RowKit

theorem Bk.newI {w : World} {g : Nat} (hg : g = w.heap.size) : Bk (w.alloc (.cells #[.int .i64 0, .int .i64 0, .int .i64 0] 3)) g 3 (ints (cntOf [])) := by subst hg; exact Bk.new w _ [_, _, _]
theorem Bk.newB {w : World} {g : Nat} (hg : g = w.heap.size) : Bk (w.alloc (.cells #[.bool false, .bool false, .bool false] 4)) g 4 (bools (endOf [])) := by subst hg; exact Bk.new w _ [_, _, _]
theorem CsAt.below {w w' : World} {n0 cb : Nat} {cs : List Cl} (h : CsAt w n0 cb cs) (hb : Below w.heap.size w w') : CsAt w' n0 cb cs := by
  obtain ⟨h1, vs, h2, h3⟩ := h
  exact ⟨h1, vs, h2.below hb h2.lt, h3⟩
/-- A watched end before the first pull. -/
def WatN (n0 : Nat) (l : List Nd) (src : List (List Int)) (G : PF) (wb : Nat) (W' : World) : Prop :=
  ∃ rb cb kf lb gb hb eb w1, (∀ (args : Array Value) (w : World), (callFunc kf args).run Try.prog w = .ok (.enter kf args) w) ∧ Pulls n0 rb cb l.length l.length l src G kf lb w1 ∧ Wat n0 rb cb l.length l src w1 wb gb hb eb (.func (.func kf) #[] lb) (newPS l.length) W'
theorem WatN.mk {n0 : Nat} {l : List Nd} {src : List (List Int)} {G : PF} {rb cb gb hb eb : Nat} {kf : FuncId} {lb : Array Value} {w1 W V : World} (eg : ∀ (args : Array Value) (w : World), (callFunc kf args).run Try.prog w = .ok (.enter kf args) w) (pu : Pulls n0 rb cb l.length l.length l src G kf lb w1) (iw : IW n0 rb cb l.length l.length (.func (.func kf) #[] lb) (newPS l.length) w1) (hW : Below w1.heap.size w1 W)
    (g : Bk W gb 3 (ints (cntOf []))) (h : Bk W hb 3 (ints (rchOf []))) (e : Bk W eb 4 (bools (endOf []))) (ne : gb ≠ hb) (a2 : Aside n0 rb w1 gb) (a3 : Aside n0 rb w1 hb) (a4 : Aside n0 rb w1 eb)
    (ok : StOk l src (newPS l.length).cs) (hw : (newPS l.length).W l src ≤ 65536) (hn : n0 ≤ w1.heap.size) (hV : V = W.alloc (.cells #[.pointer (some ⟨rb, 0, none⟩), .int .i64 0, .slice (some ⟨gb, 0, none⟩) 3 3, .slice (some ⟨hb, 0, none⟩) 3 3, .slice (some ⟨eb, 0, none⟩) 3 3] 83)) {wb : Nat} (hwb : wb = W.heap.size) : WatN n0 l src G wb V := by
  subst hV hwb
  have hal : Below W.heap.size W (W.alloc (.cells #[.pointer (some ⟨rb, 0, none⟩), .int .i64 0, .slice (some ⟨gb, 0, none⟩) 3 3, .slice (some ⟨hb, 0, none⟩) 3 3, .slice (some ⟨eb, 0, none⟩) 3 3] 83)) := (Below.refl _ _).alloc (Nat.le_refl _) _
  exact ⟨rb, cb, kf, lb, gb, hb, eb, w1, eg, pu, ⟨((Fr.of_below hW).trans (Fr.of_below hal)).fi, (RS.below iw hW).below hal, ⟨Bk.new _ _ [_, _, _, _, _], g.alloc _, h.alloc _, e.alloc _, ne⟩, ok, by simpa [newPS] using hw, newPS_sinv, ⟨Nat.le_trans hn hW.size, .inr hW.size⟩, a2, a3, a4⟩⟩

end Go.Proofs.Ythfniffecceldaa

/- A region that draws its order, by what holds between its operations: each operation is shown once, whatever was done before it. -/
namespace Go.Proofs.Ythfniffecceldaa

/-- Between two operations I holds, n operations being left. -/
theorem wpAny_inv {P : Program} {md : Region.Mode} {ops : Array Oper} {Q : Exit → Act → World → Prop} {I : Nat → Array Bool → Act → World → Prop}
    (h0 : ∀ listed a w, I 0 listed a w → Region.ready md ops listed = [])
    (hd : ∀ n listed a w, I n listed a w → Region.ready md ops listed = [] → Q .normal a w)
    (hs : ∀ n listed a w, I (n + 1) listed a w → ∀ i ∈ Region.ready md ops listed, wpOp P ops Q i (I n (listed.setIfInBounds i true)) a w) :
    ∀ n listed a w, I n listed a w → wpAny P md ops Q n listed a w
  | 0, _, _, _, h => ⟨h0 _ _ _ h, hd _ _ _ _ h (h0 _ _ _ h)⟩
  | n + 1, _, _, _, h => ⟨fun hr => hd _ _ _ _ h hr, fun i hi => wpOp_mono (fun a w hI => wpAny_inv h0 hd hs n _ a w hI) (hs n _ _ _ h i hi)⟩
/-- An operation without a guard. -/
theorem wpOp_of {P : Program} {ops : Array Oper} {Q : Exit → Act → World → Prop} {i : Nat} {o : Oper} {K : Act → World → Prop} {a : Act} {w : World} (ho : ops[i]? = some o) (hg : o.guard = none)
    (h : ∀ K' : Act → World → Prop, (∀ a w, K a w → K' a w) → o.wp P a w K' Q) : wpOp P ops Q i K a w := by
  unfold wpOp
  rw [ho]
  simp only [Region.wanted, hg, if_true]
  exact .inl (h K fun _ _ h => h)
/-- What is ready is not done yet, and all that it waits for is. -/
theorem ready_mem {md : Region.Mode} {ops : Array Oper} {listed : Array Bool} {i : Nat} (h : i ∈ Region.ready md ops listed) :
    i < ops.size ∧ listed.getD i true = false ∧ ((ops[i]?).map (·.after.all fun e => !Region.binds md e || listed.getD e.on false)).getD false = true := by
  unfold Region.ready at h
  rw [List.mem_filter, List.mem_range, Bool.and_eq_true] at h
  exact ⟨h.1, by simpa using h.2.1, h.2.2⟩

end Go.Proofs.Ythfniffecceldaa

/- Contracts: pulls by the program: costs: a watched end is made. -/
namespace Go.Proofs.Ythfniffecceldaa
open Go.RowKit

/-- Between two operations of the region that makes a watched end. -/
structure WI (n0 : Nat) (A : Option Addr) (c : Nat) (l : List Nd) (As : Option Addr) (ca : Nat) (src : List (List Int)) (G : PF) (x2 : World) (b0 b1 b2 b3 b4 b5 b6 b7 b8 b9 b10 b11 : Bool) (t4 t13 t14 t15 t16 t17 t18 t19 t20 t21 t22 t23 : Value) (gC rb g1 g2 g3 : Nat) (kf : FuncId) (lb : Array Value) (w4 : World) (x : World) : Prop where
  bl : Below x2.heap.size x2 x
  d0 : b0 = true → t13 = .agg #[.slice A l.length c]
  d1 : b1 = true → t14 = .slice As 3 ca
  d2 : b2 = true → t15 = .agg #[.slice A l.length c]
  d3 : b3 = true → t16 = .agg #[.slice (some ⟨gC, 0, none⟩) l.length l.length] ∧ CsAt x n0 gC (newPS l.length).cs
  d4 : b4 = true → t17 = .slice (some ⟨gC, 0, none⟩) l.length l.length
  d5 : b5 = true → t18 = .pointer (some ⟨rb, 0, none⟩) ∧ (∀ (args : Array Value) (w : World), (callFunc kf args).run Try.prog w = .ok (.enter kf args) w) ∧ Pulls n0 rb gC l.length l.length l src G kf lb w4 ∧ IW n0 rb gC l.length l.length (.func (.func kf) #[] lb) (newPS l.length) w4 ∧ Below w4.heap.size w4 x ∧ n0 ≤ w4.heap.size
  d6 : b6 = true → t19 = .slice (some ⟨g1, 0, none⟩) 3 3 ∧ Bk x g1 3 (ints (cntOf [])) ∧ n0 ≤ g1 ∧ (b5 = true → g1 < rb ∨ w4.heap.size ≤ g1)
  d7 : b7 = true → t20 = .slice (some ⟨g2, 0, none⟩) 3 3 ∧ Bk x g2 3 (ints (rchOf [])) ∧ n0 ≤ g2 ∧ (b5 = true → g2 < rb ∨ w4.heap.size ≤ g2)
  d8 : b8 = true → t21 = .slice (some ⟨g3, 0, none⟩) 3 3 ∧ Bk x g3 4 (bools (endOf [])) ∧ n0 ≤ g3 ∧ (b5 = true → g3 < rb ∨ w4.heap.size ≤ g3)
  ne : b6 = true → b7 = true → g1 ≠ g2
  d9 : b9 = true → t22 = .agg #[.pointer (some ⟨rb, 0, none⟩), .int .i64 0, .slice (some ⟨g1, 0, none⟩) 3 3, .slice (some ⟨g2, 0, none⟩) 3 3, .slice (some ⟨g3, 0, none⟩) 3 3]
  d10 : b10 = true → ∃ wb, t23 = .pointer (some ⟨wb, 0, none⟩) ∧ WatN n0 l src G wb x
  d11 : b11 = true → ∃ wb, t4 = .pointer (some ⟨wb, 0, none⟩) ∧ WatN n0 l src G wb x
  o4 : b4 = true → b3 = true
  o5 : b5 = true → b4 = true
  o9 : b9 = true → b5 = true ∧ b6 = true ∧ b7 = true ∧ b8 = true
  o10 : b10 = true → b9 = true
  o11 : b11 = true → b10 = true
theorem Wat.below_ {n0 rb cb N wb gb hb eb : Nat} {l : List Nd} {src : List (List Int)} {w1 w w' : World} {fe : Value} {s : PS} (h : Wat n0 rb cb N l src w1 wb gb hb eb fe s w) (hb' : Below w.heap.size w w') : Wat n0 rb cb N l src w1 wb gb hb eb fe s w' :=
  ⟨h.fr.trans (Fr.of_below hb'), RS.below h.iw hb', h.wr.below hb', h.ok, h.lg, h.si, h.b1, h.b2, h.b3, h.b4⟩
theorem WatN.below {n0 : Nat} {l : List Nd} {src : List (List Int)} {G : PF} {wb : Nat} {w w' : World} (h : WatN n0 l src G wb w) (hb : Below w.heap.size w w') : WatN n0 l src G wb w' := by
  obtain ⟨rb, cb, kf, lb, gb, hb', eb, w1, eg, pu, wat⟩ := h
  exact ⟨rb, cb, kf, lb, gb, hb', eb, w1, eg, pu, wat.below_ hb⟩
section
variable {n0 : Nat} {A : Option Addr} {c : Nat} {l : List Nd} {As : Option Addr} {ca : Nat} {src : List (List Int)} {G : PF} {x2 : World} {b0 b1 b2 b3 b4 b5 b6 b7 b8 b9 b10 b11 : Bool} {t4 t13 t14 t15 t16 t17 t18 t19 t20 t21 t22 t23 : Value} {gC rb g1 g2 g3 : Nat} {kf : FuncId} {lb : Array Value} {w4 : World} {x y : World}
theorem WI.next (h : WI n0 A c l As ca src G x2 b0 b1 b2 b3 b4 b5 b6 b7 b8 b9 b10 b11 t4 t13 t14 t15 t16 t17 t18 t19 t20 t21 t22 t23 gC rb g1 g2 g3 kf lb w4 x) (hb : Below x.heap.size x y) : WI n0 A c l As ca src G x2 b0 b1 b2 b3 b4 b5 b6 b7 b8 b9 b10 b11 t4 t13 t14 t15 t16 t17 t18 t19 t20 t21 t22 t23 gC rb g1 g2 g3 kf lb w4 y :=
  ⟨h.bl.trans (hb.mono h.bl.size), h.d0, h.d1, h.d2, fun e => ⟨(h.d3 e).1, (h.d3 e).2.below hb⟩, h.d4, fun e => (h.d5 e).imp id (And.imp id (And.imp id (And.imp id (fun ⟨q, r⟩ => ⟨q.trans (hb.mono q.size), r⟩)))), fun e => (h.d6 e).imp id (And.imp (fun q => q.below hb q.lt) id), fun e => (h.d7 e).imp id (And.imp (fun q => q.below hb q.lt) id), fun e => (h.d8 e).imp id (And.imp (fun q => q.below hb q.lt) id), h.ne, h.d9, fun e => (h.d10 e).imp fun _ q => ⟨q.1, q.2.below hb⟩, fun e => (h.d11 e).imp fun _ q => ⟨q.1, q.2.below hb⟩, h.o4, h.o5, h.o9, h.o10, h.o11⟩
end
def nf : Bool → Nat
  | true => 0
  | false => 1

set_option maxRecDepth 100000 in
set_option maxHeartbeats 6400000 in
theorem watch_any {l : List Nd} {src : List (List Int)} {A : Option Addr} {c : Nat} {As : Option Addr} {ca : Nat} (hp : PipeOk l) (hv : pipeOk l = true) (hs : srcOk src = true) (h3 : src.length = 3) (hl12 : l.length ≤ 12) {t : TI} (ht : IsTI l t) (hix : t.ix + 1 = l.length) (w : World) (hn : RdN w w.heap.size A l) (hsr : RdR w w.heap.size As src) :
    Calls Try.prog 49 #[.agg #[.slice A l.length c], .slice As 3 ca] w fun e w' => ∃ wb, e = .returned (.pointer (some ⟨wb, 0, none⟩)) ∧ WatN w.heap.size l src (pull src (fun s => s.M l src + 1) t) wb w' ∧ Below w.heap.size w w' := by
  have hmkI := run_make_row' (P := Try.prog) 23 3 (.int .i64 0) 8 Try.underlying23 Try.infoInt rfl .i64 .i64 3 (by omega) (by omega)
  have hmkI : ∀ w : World, (Instr.makeSlice 23 (.int .i64 3) (.int .i64 3)).run Try.prog w = .ok (.slice (some ⟨w.heap.size, 0, none⟩) 3 3) (w.alloc (.cells #[.int .i64 0, .int .i64 0, .int .i64 0] 3)) := fun w => by
    have e : madeCells #[.int .i64 0] 3 = (List.replicate 3 (.int .i64 0)).toArray := by rw [← toList_madeCells_one]
    have h := hmkI w
    rw [e] at h
    exact h
  have hmkB := run_make_row' (P := Try.prog) 81 4 (.bool false) 1 Try.underlying81 Try.infoBool rfl .i64 .i64 3 (by omega) (by omega)
  have hmkB : ∀ w : World, (Instr.makeSlice 81 (.int .i64 3) (.int .i64 3)).run Try.prog w = .ok (.slice (some ⟨w.heap.size, 0, none⟩) 3 3) (w.alloc (.cells #[.bool false, .bool false, .bool false] 4)) := fun w => by
    have e : madeCells #[.bool false] 3 = (List.replicate 3 (.bool false)).toArray := by rw [← toList_madeCells_one]
    have h := hmkB w
    rw [e] at h
    exact h
  obtain ⟨W1, hW1⟩ : ∃ X : World, X = w.alloc (.cells #[.slice A l.length c] 39) := ⟨_, rfl⟩
  have hb1 : Below w.heap.size w W1 := by rw [hW1]; exact below1 w _
  have kE : Bk W1 w.heap.size 39 [.slice A l.length c] := by rw [hW1]; exact Bk.new _ _ [_]
  have hm : ∀ r ∈ src, r.length ≤ 1048576 := fun r hr => Nat.le_trans ((src_rows hs).2 r hr) (by omega)
  have hvp := implValidPipe_any A c l W1 w.heap.size (hn.below hb1 (Nat.le_refl _)) hb1.size (by omega)
  rw [hv] at hvp
  have z1 := hb1.size
  have HW1 := Lib.hid hW1
  have Hb1 := Lib.hid hb1
  have HkE := Lib.hid kE
  have Hvp := Lib.hid hvp
  have Hn := Lib.hid hn
  have Hsr := Lib.hid hsr
  have Hp := Lib.hid hp
  have Hv := Lib.hid hv
  have Hs := Lib.hid hs
  have Ht := Lib.hid ht
  have Hm := Lib.hid hm
  have H3 := Lib.hid h3
  have Hix := Lib.hid hix
  have hlow := low_of hv
  clear hW1 hb1 kE hvp hn hsr hp hv hs ht hm hix
  go_enter Try.func49, Try.ntmps49
  go_wp2_with fail
  rw [← HW1.out]
  refine Hvp.out.mono ?_
  rintro e w2 ⟨rfl, hb2⟩
  have hvs := implValidSources_any As ca src w2 w.heap.size (Hsr.out.below (Hb1.out.trans (hb2.mono z1)) (Nat.le_refl _)) (by omega) Hm.out
  rw [Hs.out, h3] at hvs
  have Hvs := Lib.hid hvs
  have HbX := Lib.hid (Hb1.out.trans (hb2.mono z1))
  have kE2 := HkE.out.below hb2 HkE.out.lt
  have e2 := kE2.cell 0
  simp only [List.getElem?_cons_zero] at e2
  have HkE2 := Lib.hid kE2
  have z2 := HbX.out.size
  have lt2 : w.heap.size < w2.heap.size := kE2.lt
  clear hb2 hvs kE2
  go_wp2_with fail
  refine Hvs.out.mono ?_
  rintro e w2' ⟨rfl, rfl⟩
  go_wp2_with fail
  have hfd := fd_state
  have Hk3 : Hid (∀ o1 o2 o3 : Obj, (((w2.alloc o1).alloc o2).alloc o3).cell? ⟨w.heap.size, 0, none⟩ = some (.slice A l.length c)) := Lib.hid (fun o1 o2 o3 => (HkE2.out.below (below3 w2 o1 o2 o3) HkE2.out.lt).cell 0)
  have hkE := HkE2.out
  refine Code.wp_mono (Q := fun e a x => e = .normal ∧ ∃ wb t13 t14 t15 t16 t17 t18 t19 t20 t21 t22 t23, a = ({ tmps := #[.agg #[.slice A l.length c], .slice As 3 ca, .pointer (some ⟨w.heap.size, 0, none⟩), undef, .pointer (some ⟨wb, 0, none⟩), .agg #[.slice A l.length c], .bool true, .bool false, .bool false, .slice As 3 ca, .bool true, .bool false, .bool false, t13, t14, t15, t16, t17, t18, t19, t20, t21, t22, t23], defers := [] } : Act) ∧ WatN w.heap.size l src (pull src (fun s => s.M l src + 1) t) wb x ∧ Below w2.heap.size w2 x) ?after ?region
  case region =>
    refine wp_region_any (by kernel_rfl) (wpAny_inv (I := (fun n listed a x => ∃ b0 b1 b2 b3 b4 b5 b6 b7 b8 b9 b10 b11 t4 t13 t14 t15 t16 t17 t18 t19 t20 t21 t22 t23 gC rb g1 g2 g3 kf lb w4, n = nf b0 + nf b1 + nf b2 + nf b3 + nf b4 + nf b5 + nf b6 + nf b7 + nf b8 + nf b9 + nf b10 + nf b11 ∧ listed = #[b0, b1, b2, b3, b4, b5, b6, b7, b8, b9, b10, b11] ∧ a = ({ tmps := #[.agg #[.slice A l.length c], .slice As 3 ca, .pointer (some ⟨w.heap.size, 0, none⟩), undef, t4, .agg #[.slice A l.length c], .bool true, .bool false, .bool false, .slice As 3 ca, .bool true, .bool false, .bool false, t13, t14, t15, t16, t17, t18, t19, t20, t21, t22, t23], defers := [] } : Act) ∧ WI w.heap.size A c l As ca src (pull src (fun s => s.M l src + 1) t) w2 b0 b1 b2 b3 b4 b5 b6 b7 b8 b9 b10 b11 t4 t13 t14 t15 t16 t17 t18 t19 t20 t21 t22 t23 gC rb g1 g2 g3 kf lb w4 x)) ?h0 ?hd ?hs 12 _ _ _ ?start)
    case start => exact ⟨false, false, false, false, false, false, false, false, false, false, false, false, _, _, _, _, _, _, _, _, _, _, _, _, 0, 0, 0, 0, 0, 0, #[], w2, rfl, rfl, rfl, ⟨(Below.refl _ _).drew, fun e => absurd e (by decide), fun e => absurd e (by decide), fun e => absurd e (by decide), fun e => absurd e (by decide), fun e => absurd e (by decide), fun e => absurd e (by decide), fun e => absurd e (by decide), fun e => absurd e (by decide), fun e => absurd e (by decide), fun e => absurd e (by decide), fun e => absurd e (by decide), fun e => absurd e (by decide), fun e => absurd e (by decide), fun e => absurd e (by decide), fun e => absurd e (by decide), fun e => absurd e (by decide), fun e => absurd e (by decide), fun e => absurd e (by decide)⟩⟩
    case h0 =>
      rintro listed a x ⟨b0, b1, b2, b3, b4, b5, b6, b7, b8, b9, b10, b11, t4, t13, t14, t15, t16, t17, t18, t19, t20, t21, t22, t23, gC, rb, g1, g2, g3, kf, lb, w4, hn, rfl, rfl, h⟩
      obtain rfl : b0 = true := by
        cases b0 with
        | true => rfl
        | false => simp only [nf] at hn; omega
      obtain rfl : b1 = true := by
        cases b1 with
        | true => rfl
        | false => simp only [nf] at hn; omega
      obtain rfl : b2 = true := by
        cases b2 with
        | true => rfl
        | false => simp only [nf] at hn; omega
      obtain rfl : b3 = true := by
        cases b3 with
        | true => rfl
        | false => simp only [nf] at hn; omega
      obtain rfl : b4 = true := by
        cases b4 with
        | true => rfl
        | false => simp only [nf] at hn; omega
      obtain rfl : b5 = true := by
        cases b5 with
        | true => rfl
        | false => simp only [nf] at hn; omega
      obtain rfl : b6 = true := by
        cases b6 with
        | true => rfl
        | false => simp only [nf] at hn; omega
      obtain rfl : b7 = true := by
        cases b7 with
        | true => rfl
        | false => simp only [nf] at hn; omega
      obtain rfl : b8 = true := by
        cases b8 with
        | true => rfl
        | false => simp only [nf] at hn; omega
      obtain rfl : b9 = true := by
        cases b9 with
        | true => rfl
        | false => simp only [nf] at hn; omega
      obtain rfl : b10 = true := by
        cases b10 with
        | true => rfl
        | false => simp only [nf] at hn; omega
      obtain rfl : b11 = true := by
        cases b11 with
        | true => rfl
        | false => simp only [nf] at hn; omega
      rfl
    case hd =>
      rintro n listed a x ⟨b0, b1, b2, b3, b4, b5, b6, b7, b8, b9, b10, b11, t4, t13, t14, t15, t16, t17, t18, t19, t20, t21, t22, t23, gC, rb, g1, g2, g3, kf, lb, w4, hn, rfl, rfl, h⟩ hr
      have hall := List.filter_eq_nil_iff.1 hr
      obtain rfl : b0 = true := by
        have q := hall 0 (List.mem_range.2 (by decide))
        simpa [Region.binds] using q
      obtain rfl : b1 = true := by
        have q := hall 1 (List.mem_range.2 (by decide))
        simpa [Region.binds] using q
      obtain rfl : b2 = true := by
        have q := hall 2 (List.mem_range.2 (by decide))
        simpa [Region.binds] using q
      obtain rfl : b6 = true := by
        have q := hall 6 (List.mem_range.2 (by decide))
        simpa [Region.binds] using q
      obtain rfl : b7 = true := by
        have q := hall 7 (List.mem_range.2 (by decide))
        simpa [Region.binds] using q
      obtain rfl : b8 = true := by
        have q := hall 8 (List.mem_range.2 (by decide))
        simpa [Region.binds] using q
      obtain rfl : b3 = true := by
        have q := hall 3 (List.mem_range.2 (by decide))
        simpa [Region.binds] using q
      obtain rfl : b4 = true := by
        have q := hall 4 (List.mem_range.2 (by decide))
        simpa [Region.binds] using q
      obtain rfl : b5 = true := by
        have q := hall 5 (List.mem_range.2 (by decide))
        simpa [Region.binds] using q
      obtain rfl : b9 = true := by
        have q := hall 9 (List.mem_range.2 (by decide))
        simpa [Region.binds] using q
      obtain rfl : b10 = true := by
        have q := hall 10 (List.mem_range.2 (by decide))
        simpa [Region.binds] using q
      obtain rfl : b11 = true := by
        have q := hall 11 (List.mem_range.2 (by decide))
        simpa [Region.binds] using q
      obtain ⟨wb, rfl, hwn⟩ := h.d11 rfl
      exact ⟨rfl, wb, _, _, _, _, _, _, _, _, _, _, _, rfl, hwn, h.bl⟩
    case hs =>
      rintro n listed a x ⟨b0, b1, b2, b3, b4, b5, b6, b7, b8, b9, b10, b11, t4, t13, t14, t15, t16, t17, t18, t19, t20, t21, t22, t23, gC, rb, g1, g2, g3, kf, lb, w4, hn, rfl, rfl, h⟩ i hi
      obtain ⟨hi1, hi2, hi3⟩ := ready_mem hi
      have hi4 : i < 12 := hi1
      clear hi hi1
      rcases (show i = 0 ∨ i = 1 ∨ i = 2 ∨ i = 3 ∨ i = 4 ∨ i = 5 ∨ i = 6 ∨ i = 7 ∨ i = 8 ∨ i = 9 ∨ i = 10 ∨ i = 11 by omega) with rfl | rfl | rfl | rfl | rfl | rfl | rfl | rfl | rfl | rfl | rfl | rfl
      · -- operation 0
          obtain rfl : b0 = false := hi2
          have hcx := (hkE.below h.bl hkE.lt).cell 0
          simp only [List.getElem?_cons_zero] at hcx
          clear hi3 hi4
          refine wpOp_of (o := _) rfl rfl fun K' hK => ?_
          go_wp2_with fail
          have hbxy := Below.refl x.heap.size x
          refine ⟨true, b1, b2, b3, b4, b5, b6, b7, b8, b9, b10, b11, _, _, _, _, _, _, _, _, _, _, _, _, gC, rb, g1, g2, g3, kf, lb, w4, by simp only [nf] at hn ⊢; omega, rfl, rfl, ?_⟩
          have h9 := h.next hbxy
          exact ⟨h9.bl, fun _ => rfl, h9.d1, h9.d2, h9.d3, h9.d4, h9.d5, h9.d6, h9.d7, h9.d8, h9.ne, h9.d9, h9.d10, h9.d11, h9.o4, h9.o5, h9.o9, h9.o10, h9.o11⟩
      · -- operation 1
          obtain rfl : b1 = false := hi2
          clear hi3 hi4
          refine wpOp_of (o := _) rfl rfl fun K' hK => ?_
          go_wp2_with fail
          have hbxy := Below.refl x.heap.size x
          refine ⟨b0, true, b2, b3, b4, b5, b6, b7, b8, b9, b10, b11, _, _, _, _, _, _, _, _, _, _, _, _, gC, rb, g1, g2, g3, kf, lb, w4, by simp only [nf] at hn ⊢; omega, rfl, rfl, ?_⟩
          have h9 := h.next hbxy
          exact ⟨h9.bl, h9.d0, fun _ => rfl, h9.d2, h9.d3, h9.d4, h9.d5, h9.d6, h9.d7, h9.d8, h9.ne, h9.d9, h9.d10, h9.d11, h9.o4, h9.o5, h9.o9, h9.o10, h9.o11⟩
      · -- operation 2
          obtain rfl : b2 = false := hi2
          have hcx := (hkE.below h.bl hkE.lt).cell 0
          simp only [List.getElem?_cons_zero] at hcx
          clear hi3 hi4
          refine wpOp_of (o := _) rfl rfl fun K' hK => ?_
          go_wp2_with fail
          have hbxy := Below.refl x.heap.size x
          refine ⟨b0, b1, true, b3, b4, b5, b6, b7, b8, b9, b10, b11, _, _, _, _, _, _, _, _, _, _, _, _, gC, rb, g1, g2, g3, kf, lb, w4, by simp only [nf] at hn ⊢; omega, rfl, rfl, ?_⟩
          have h9 := h.next hbxy
          exact ⟨h9.bl, h9.d0, h9.d1, fun _ => rfl, h9.d3, h9.d4, h9.d5, h9.d6, h9.d7, h9.d8, h9.ne, h9.d9, h9.d10, h9.d11, h9.o4, h9.o5, h9.o9, h9.o10, h9.o11⟩
      · -- operation 3
          obtain rfl : b3 = false := hi2
          have hdp : b2 = true := by simpa [Region.binds] using hi3
          obtain rfl := h.d2 hdp
          clear hi3 hi4
          refine wpOp_of (o := _) rfl rfl fun K' hK => ?_
          go_wp2_with fail
          refine (implNewState_bk A c l x w.heap.size Hv.out (Hn.out.below (HbX.out.trans (h.bl.mono z2)) (Nat.le_refl _)) (HbX.out.trans (h.bl.mono z2)).size (by omega)).mono ?_
          rintro e y ⟨gD, rfl, hg, kC, hbxy⟩
          have hzx := (HbX.out.trans (h.bl.mono z2)).size
          have hcs : CsAt y w.heap.size gD (newPS l.length).cs := ⟨by omega, madeCl l.length, kC, fun k x hx => by
            have hk : k < l.length := by have := (List.getElem?_eq_some_iff.1 hx).1; simpa [newPS] using this
            simp only [newPS] at hx
            rw [List.getElem?_replicate, if_pos hk] at hx
            rw [← Option.some.inj hx]
            exact madeCl_in _ k hk⟩
          refine hK _ _ ⟨b0, b1, b2, true, b4, b5, b6, b7, b8, b9, b10, b11, _, _, _, _, _, _, _, _, _, _, _, _, gD, rb, g1, g2, g3, kf, lb, w4, by simp only [nf] at hn ⊢; omega, rfl, rfl, ?_⟩
          have h9 := h.next hbxy
          exact ⟨h9.bl, h9.d0, h9.d1, h9.d2, fun _ => ⟨rfl, hcs⟩, fun e => absurd (h.o4 e) (by decide), fun e => absurd (h.o4 (h.o5 e)) (by decide), h9.d6, h9.d7, h9.d8, h9.ne, h9.d9, h9.d10, h9.d11, fun _ => rfl, h9.o5, h9.o9, h9.o10, h9.o11⟩
      · -- operation 4
          obtain rfl : b4 = false := hi2
          have hdp : b3 = true := by simpa [Region.binds] using hi3
          obtain ⟨rfl, hcs⟩ := h.d3 hdp
          clear hi3 hi4
          refine wpOp_of (o := _) rfl rfl fun K' hK => ?_
          go_wp2_with fail
          have hbxy := Below.refl x.heap.size x
          refine ⟨b0, b1, b2, b3, true, b5, b6, b7, b8, b9, b10, b11, _, _, _, _, _, _, _, _, _, _, _, _, gC, rb, g1, g2, g3, kf, lb, w4, by simp only [nf] at hn ⊢; omega, rfl, rfl, ?_⟩
          have h9 := h.next hbxy
          exact ⟨h9.bl, h9.d0, h9.d1, h9.d2, h9.d3, fun _ => rfl, h9.d5, h9.d6, h9.d7, h9.d8, h9.ne, h9.d9, h9.d10, h9.d11, fun _ => hdp, fun _ => rfl, h9.o9, h9.o10, h9.o11⟩
      · -- operation 5
          obtain rfl : b5 = false := hi2
          have hdp : b0 = true ∧ b1 = true ∧ b4 = true ∧ b3 = true := by simpa [Region.binds] using hi3
          obtain ⟨e0, e1, e4, e3⟩ := hdp
          obtain rfl := h.d0 e0
          obtain rfl := h.d1 e1
          obtain rfl := h.d4 e4
          obtain ⟨rfl, hcs⟩ := h.d3 e3
          clear hi3 hi4
          refine wpOp_of (o := _) rfl rfl fun K' hK => ?_
          go_wp2_with fail
          refine (newRun_any (n0 := w.heap.size) (cb := gC) (cc := l.length) (c := c) (ca := ca) Hp.out Hs.out hl12 Ht.out Hix.out (cs := (newPS l.length).cs) x (HbX.out.trans (h.bl.mono z2)).size (Hn.out.below (HbX.out.trans (h.bl.mono z2)) (Nat.le_refl _)) (Hsr.out.below (HbX.out.trans (h.bl.mono z2)) (Nat.le_refl _)) hcs).mono ?_
          rintro e y ⟨⟨rd, kd, ld, rfl, hrb, iw4, eg4, pu4⟩, hbxy⟩
          have hzx := (HbX.out.trans (h.bl.mono z2)).size
          have hzy := hbxy.size
          refine hK _ _ ⟨b0, b1, b2, b3, b4, true, b6, b7, b8, b9, b10, b11, _, _, _, _, _, _, _, _, _, _, _, _, gC, rd, g1, g2, g3, kd, ld, y, by simp only [nf] at hn ⊢; omega, rfl, rfl, ?_⟩
          have h9 := h.next hbxy
          exact ⟨h9.bl, h9.d0, h9.d1, h9.d2, h9.d3, h9.d4, fun _ => ⟨rfl, eg4, pu4, iw4, Below.refl _ _, by omega⟩, fun e => ⟨(h9.d6 e).1, (h9.d6 e).2.1, (h9.d6 e).2.2.1, fun _ => .inl (Nat.lt_of_lt_of_le (h.d6 e).2.1.lt hrb)⟩, fun e => ⟨(h9.d7 e).1, (h9.d7 e).2.1, (h9.d7 e).2.2.1, fun _ => .inl (Nat.lt_of_lt_of_le (h.d7 e).2.1.lt hrb)⟩, fun e => ⟨(h9.d8 e).1, (h9.d8 e).2.1, (h9.d8 e).2.2.1, fun _ => .inl (Nat.lt_of_lt_of_le (h.d8 e).2.1.lt hrb)⟩, h9.ne, fun e => absurd ((h.o9 e).1) (by decide), h9.d10, h9.d11, h9.o4, fun _ => e4, fun e => ⟨rfl, (h.o9 e).2⟩, h9.o10, h9.o11⟩
      · -- operation 6
          obtain rfl : b6 = false := hi2
          have hzx := (HbX.out.trans (h.bl.mono z2)).size
          clear hi3 hi4
          refine wpOp_of (o := _) rfl rfl fun K' hK => ?_
          go_wp2_with fail
          have hbxy : Below x.heap.size x _ := (Below.refl x.heap.size x).alloc (Nat.le_refl _) (.cells #[.int .i64 0, .int .i64 0, .int .i64 0] 3)
          refine ⟨b0, b1, b2, b3, b4, b5, true, b7, b8, b9, b10, b11, _, _, _, _, _, _, _, _, _, _, _, _, gC, rb, x.heap.size, g2, g3, kf, lb, w4, by simp only [nf] at hn ⊢; omega, rfl, rfl, ?_⟩
          have h9 := h.next hbxy
          exact ⟨h9.bl, h9.d0, h9.d1, h9.d2, h9.d3, h9.d4, h9.d5, fun _ => ⟨rfl, Bk.newI rfl, by omega, fun e => .inr (h.d5 e).2.2.2.2.1.size⟩, h9.d7, h9.d8, fun _ e7 => by have := (h.d7 e7).2.1.lt; omega, fun e => absurd ((h.o9 e).2.1) (by decide), h9.d10, h9.d11, h9.o4, h9.o5, fun e => absurd ((h.o9 e).2.1) (by decide), h9.o10, h9.o11⟩
      · -- operation 7
          obtain rfl : b7 = false := hi2
          have hzx := (HbX.out.trans (h.bl.mono z2)).size
          clear hi3 hi4
          refine wpOp_of (o := _) rfl rfl fun K' hK => ?_
          go_wp2_with fail
          have hbxy : Below x.heap.size x _ := (Below.refl x.heap.size x).alloc (Nat.le_refl _) (.cells #[.int .i64 0, .int .i64 0, .int .i64 0] 3)
          refine ⟨b0, b1, b2, b3, b4, b5, b6, true, b8, b9, b10, b11, _, _, _, _, _, _, _, _, _, _, _, _, gC, rb, g1, x.heap.size, g3, kf, lb, w4, by simp only [nf] at hn ⊢; omega, rfl, rfl, ?_⟩
          have h9 := h.next hbxy
          exact ⟨h9.bl, h9.d0, h9.d1, h9.d2, h9.d3, h9.d4, h9.d5, h9.d6, fun _ => ⟨rfl, Bk.newI rfl, by omega, fun e => .inr (h.d5 e).2.2.2.2.1.size⟩, h9.d8, fun e6 _ => by have := (h.d6 e6).2.1.lt; omega, fun e => absurd ((h.o9 e).2.2.1) (by decide), h9.d10, h9.d11, h9.o4, h9.o5, fun e => absurd ((h.o9 e).2.2.1) (by decide), h9.o10, h9.o11⟩
      · -- operation 8
          obtain rfl : b8 = false := hi2
          have hzx := (HbX.out.trans (h.bl.mono z2)).size
          clear hi3 hi4
          refine wpOp_of (o := _) rfl rfl fun K' hK => ?_
          go_wp2_with fail
          have hbxy : Below x.heap.size x _ := (Below.refl x.heap.size x).alloc (Nat.le_refl _) (.cells #[.bool false, .bool false, .bool false] 4)
          refine ⟨b0, b1, b2, b3, b4, b5, b6, b7, true, b9, b10, b11, _, _, _, _, _, _, _, _, _, _, _, _, gC, rb, g1, g2, x.heap.size, kf, lb, w4, by simp only [nf] at hn ⊢; omega, rfl, rfl, ?_⟩
          have h9 := h.next hbxy
          exact ⟨h9.bl, h9.d0, h9.d1, h9.d2, h9.d3, h9.d4, h9.d5, h9.d6, h9.d7, fun _ => ⟨rfl, Bk.newB rfl, by omega, fun e => .inr (h.d5 e).2.2.2.2.1.size⟩, h9.ne, fun e => absurd ((h.o9 e).2.2.2) (by decide), h9.d10, h9.d11, h9.o4, h9.o5, fun e => absurd ((h.o9 e).2.2.2) (by decide), h9.o10, h9.o11⟩
      · -- operation 9
          obtain rfl : b9 = false := hi2
          have hdp : b5 = true ∧ b6 = true ∧ b7 = true ∧ b8 = true := by simpa [Region.binds] using hi3
          obtain ⟨e5, e6, e7, e8⟩ := hdp
          obtain ⟨rfl, _⟩ := h.d5 e5
          obtain ⟨rfl, _⟩ := h.d6 e6
          obtain ⟨rfl, _⟩ := h.d7 e7
          obtain ⟨rfl, _⟩ := h.d8 e8
          clear hi3 hi4
          refine wpOp_of (o := _) rfl rfl fun K' hK => ?_
          go_wp2_with fail
          have hbxy := Below.refl x.heap.size x
          refine ⟨b0, b1, b2, b3, b4, b5, b6, b7, b8, true, b10, b11, _, _, _, _, _, _, _, _, _, _, _, _, gC, rb, g1, g2, g3, kf, lb, w4, by simp only [nf] at hn ⊢; omega, rfl, rfl, ?_⟩
          have h9 := h.next hbxy
          exact ⟨h9.bl, h9.d0, h9.d1, h9.d2, h9.d3, h9.d4, h9.d5, h9.d6, h9.d7, h9.d8, h9.ne, fun _ => rfl, h9.d10, h9.d11, h9.o4, h9.o5, fun _ => ⟨e5, e6, e7, e8⟩, fun _ => rfl, h9.o11⟩
      · -- operation 10
          obtain rfl : b10 = false := hi2
          have hdp : b9 = true := by simpa [Region.binds] using hi3
          obtain rfl := h.d9 hdp
          obtain ⟨e5, e6, e7, e8⟩ := h.o9 hdp
          have h5 := h.d5 e5
          have h6 := h.d6 e6
          have h7 := h.d7 e7
          have h8 := h.d8 e8
          have h67 := h.ne e6 e7
          have H5 := Lib.hid h5
          have H6 := Lib.hid h6
          have H7 := Lib.hid h7
          have H8 := Lib.hid h8
          clear h5 h6 h7 h8
          clear hi3 hi4
          refine wpOp_of (o := _) rfl rfl fun K' hK => ?_
          go_wp2_with fail
          have hbxy : Below x.heap.size x _ := (Below.refl x.heap.size x).alloc (Nat.le_refl _) (.cells #[.pointer (some ⟨rb, 0, none⟩), .int .i64 0, .slice (some ⟨g1, 0, none⟩) 3 3, .slice (some ⟨g2, 0, none⟩) 3 3, .slice (some ⟨g3, 0, none⟩) 3 3] 83)
          refine ⟨b0, b1, b2, b3, b4, b5, b6, b7, b8, b9, true, b11, _, _, _, _, _, _, _, _, _, _, _, _, gC, rb, g1, g2, g3, kf, lb, w4, by simp only [nf] at hn ⊢; omega, rfl, rfl, ?_⟩
          have h9 := h.next hbxy
          exact ⟨h9.bl, h9.d0, h9.d1, h9.d2, h9.d3, h9.d4, h9.d5, h9.d6, h9.d7, h9.d8, h9.ne, h9.d9, fun _ => ⟨_, rfl, WatN.mk H5.out.2.1 H5.out.2.2.1 H5.out.2.2.2.1 H5.out.2.2.2.2.1 H6.out.2.1 H7.out.2.1 H8.out.2.1 h67 ⟨H6.out.2.2.1, H6.out.2.2.2 e5⟩ ⟨H7.out.2.2.1, H7.out.2.2.2 e5⟩ ⟨H8.out.2.2.1, H8.out.2.2.2 e5⟩ (newPS_ok Hp.out) (newPS_W Hs.out hl12) H5.out.2.2.2.2.2 rfl rfl⟩, h9.d11, h9.o4, h9.o5, h9.o9, fun _ => hdp, fun _ => rfl⟩
      · -- operation 11
          obtain rfl : b11 = false := hi2
          have hdp : b10 = true := by
            have := hi3
            simp [Region.binds] at this
            exact this.1
          obtain ⟨wb, rfl, hwn⟩ := h.d10 hdp
          clear hi3 hi4
          refine wpOp_of (o := _) rfl rfl fun K' hK => ?_
          go_wp2_with fail
          have hbxy := Below.refl x.heap.size x
          refine ⟨b0, b1, b2, b3, b4, b5, b6, b7, b8, b9, b10, true, _, _, _, _, _, _, _, _, _, _, _, _, gC, rb, g1, g2, g3, kf, lb, w4, by simp only [nf] at hn ⊢; omega, rfl, rfl, ?_⟩
          have h9 := h.next hbxy
          exact ⟨h9.bl, h9.d0, h9.d1, h9.d2, h9.d3, h9.d4, h9.d5, h9.d6, h9.d7, h9.d8, h9.ne, h9.d9, fun _ => ⟨wb, rfl, hwn⟩, fun _ => ⟨wb, rfl, hwn⟩, h9.o4, h9.o5, h9.o9, h9.o10, fun _ => hdp⟩
  case after =>
    rintro e a x ⟨rfl, wb, t13, t14, t15, t16, t17, t18, t19, t20, t21, t22, t23, rfl, hwn, hbl⟩
    have Hwn := Lib.hid hwn
    have Hbl := Lib.hid (HbX.out.trans (hbl.mono z2))
    clear hwn hbl hkE
    go_wp2_with fail
    refine bodyPost_ret (v := .pointer (some ⟨wb, 0, none⟩)) (by simp [results, Try.results49, go_sem]) rfl ⟨wb, rfl, Hwn.out, Hbl.out⟩

end Go.Proofs.Ythfniffecceldaa
