/- A tee that is read: its rows lie apart, and each open reader has a channel with what it is behind. -/
import Derived.Test.YtjkieedomljelaaTeeD
import Derived.Test.YtjkieedomljelaaCom
namespace Go.Proofs.Ytjkieedomljelaa
open Go.RowKit Go.Conc

section
variable {w a : World} {b c g lo hi : Nat} {t : TypeId} {cs : List Value} (cap : Nat) (buf : Array Value) (cl : Bool) (s r : Nat) (tm : Bool)
theorem setChan_far (h : b ≠ c) : (w.setChan c cap buf cl s r tm).heap[b]? = w.heap[b]? := by
  simp only [World.setChan]
  rw [Array.getElem?_setIfInBounds_ne (by omega)]
theorem Bk.farC (h : Bk w g t cs) (hg : g ≠ c) : Bk (w.setChan c cap buf cl s r tm) g t cs := (setChan_far cap buf cl s r tm hg).trans h
theorem Chg.chan (h : Chg lo hi a w) (h1 : lo ≤ c) (h2 : c < hi) : Chg lo hi a (w.setChan c cap buf cl s r tm) :=
  ⟨h.os, h.tape, h.output, by simpa [World.setChan] using h.size, fun j hj ho => (setChan_far cap buf cl s r tm (by omega)).trans (h.block j hj ho)⟩
end
theorem Chg.drewN_ {lo hi : Nat} {a w : World} (h : Chg lo hi a w) (n : Nat) : Chg lo hi a (w.drewN n) := ⟨h.os, h.tape, h.output, h.size, h.block⟩
theorem Chg.drew_ {lo hi : Nat} {a w : World} (h : Chg lo hi a w) : Chg lo hi a w.drew := ⟨h.os, h.tape, h.output, h.size, h.block⟩

/-- Where a feed lies: all of it from block s0 on and before s1, its rows from lo on and before hi, itself at F, its row of channels at gb, the channel of c at q c. -/
structure Fl where
  s0 : Nat
  s1 : Nat
  lo : Nat
  hi : Nat
  F : Nat
  gb : Nat
  nb : Nat
  r : Tr
  q : Nat → Nat

structure FeedLay (z : Fl) (op : List Bool) : Prop where
  l0 : z.s0 ≤ z.lo
  le : z.lo ≤ z.hi
  l1 : z.hi ≤ z.s1
  F0 : z.s0 ≤ z.F
  F1 : z.F < z.s1
  Fo : z.F < z.lo ∨ z.hi ≤ z.F
  g0 : z.s0 ≤ z.gb
  g1 : z.gb < z.s1
  go : z.gb < z.lo ∨ z.hi ≤ z.gb
  dF : z.F ≠ z.gb
  qs : ∀ c, op[c]? = some true → z.s0 ≤ z.q c ∧ z.q c < z.s1 ∧ (z.q c < z.lo ∨ z.hi ≤ z.q c) ∧ z.q c ≠ z.F ∧ z.q c ≠ z.gb
  inj : ∀ c d, op[c]? = some true → op[d]? = some true → z.q c = z.q d → c = d

structure FeedAt (w : World) (z : Fl) (t : Te) (bs : Nat → List Int) : Prop where
  own : OwnT w z.lo z.hi z.r t
  box : Bk w z.F 71 [.slice z.r.a1 t.it.length z.r.c1, .int .i64 t.fd, .slice z.r.a2 t.pl.length z.r.c2, .slice z.r.a3 t.op.length z.r.c3, .slice (some ⟨z.gb, 0, none⟩) t.op.length z.nb]
  chs : ∃ cs, Bk w z.gb 87 cs ∧ cs.length = t.op.length ∧ ∀ c : Nat, t.op[c]? = some true → cs[c]? = some (.chan (some (z.q c)))
  buf : ∀ c : Nat, t.op[c]? = some true → ∃ s k, w.heap[z.q c]? = some (.chan 12 (ints (bs c)).toArray false s k false)
  lay : FeedLay z t.op
  top : z.s1 ≤ w.heap.size

section
variable {w w' : World} {z : Fl} {t : Te} {bs bs' : Nat → List Int} {c : Nat} {v x f : Int}

theorem FeedAt.agree (h : FeedAt w z t bs) (hz : z.s1 ≤ w'.heap.size) (hag : ∀ b, z.s0 ≤ b → b < z.s1 → w'.heap[b]? = w.heap[b]?) : FeedAt w' z t bs := by
  have l := h.lay
  refine ⟨h.own.agree fun b h1 h2 => hag b (by have := l.l0; omega) (by have := l.l1; omega), (hag _ l.F0 l.F1).trans h.box, ?_, fun c hc => ?_, l, hz⟩
  · obtain ⟨cs, h1, h2, h3⟩ := h.chs
    exact ⟨cs, (hag _ l.g0 l.g1).trans h1, h2, h3⟩
  · obtain ⟨s, k, hb⟩ := h.buf c hc
    obtain ⟨h1, h2, _⟩ := l.qs c hc
    exact ⟨s, k, (hag _ h1 h2).trans hb⟩
theorem FeedAt.held (h : FeedAt w z t bs) : Held w z.s0 z.s1 (fun v => FeedAt v z t bs) :=
  ⟨by have := h.lay.l0; have := h.lay.le; have := h.lay.l1; omega, h.top, fun _ hz hag => h.agree hz hag⟩
theorem FeedAt.cells (h : FeedAt w z t bs) : w.cell? ⟨z.F, 0, none⟩ = some (.slice z.r.a1 t.it.length z.r.c1) ∧ w.cell? ⟨z.F, 1, none⟩ = some (.int .i64 t.fd) ∧ w.cell? ⟨z.F, 2, none⟩ = some (.slice z.r.a2 t.pl.length z.r.c2) ∧ w.cell? ⟨z.F, 3, none⟩ = some (.slice z.r.a3 t.op.length z.r.c3) ∧ w.cell? ⟨z.F, 4, none⟩ = some (.slice (some ⟨z.gb, 0, none⟩) t.op.length z.nb) :=
  ⟨h.box.cell 0, h.box.cell 1, h.box.cell 2, h.box.cell 3, h.box.cell 4⟩
theorem FeedAt.below {C : Nat} (h : FeedAt w z t bs) (hb : Below C w w') (hC : z.s1 ≤ C) : FeedAt w' z t bs :=
  h.agree (Nat.le_trans h.top hb.size) fun b _ h2 => hb.block b (by omega)
theorem FeedAt.drew (h : FeedAt w z t bs) : FeedAt w.drew z t bs := h.agree h.top fun _ _ _ => rfl
theorem FeedAt.drewN (h : FeedAt w z t bs) (n : Nat) : FeedAt (w.drewN n) z t bs := h.agree h.top fun _ _ _ => rfl
theorem FeedAt.congr (h : FeedAt w z t bs) (he : ∀ c, t.op[c]? = some true → bs c = bs' c) : FeedAt w z t bs' :=
  ⟨h.own, h.box, h.chs, fun c hc => by rw [← he c hc]; exact h.buf c hc, h.lay, h.top⟩
/-- The channel of an open reader is turned. -/
theorem FeedAt.chan (h : FeedAt w z t bs) (hc : t.op[c]? = some true) (l : List Int) (s k : Nat) :
    FeedAt (w.setChan (z.q c) 12 (ints l).toArray false s k false) z t (fun d => if d = c then l else bs d) := by
  have y := h.lay
  obtain ⟨h1, h2, h3, h4, h5⟩ := y.qs c hc
  have hlt : z.q c < w.heap.size := by have := h.top; omega
  refine ⟨h.own.agree fun b hb1 hb2 => setChan_far _ _ _ _ _ _ (by omega), h.box.farC _ _ _ _ _ _ (Ne.symm h4), ?_, fun d hd => ?_, y, by rw [size_setChan]; exact h.top⟩
  · obtain ⟨cs, k1, k2, k3⟩ := h.chs
    exact ⟨cs, k1.farC _ _ _ _ _ _ (Ne.symm h5), k2, k3⟩
  · by_cases e : d = c
    · subst e
      rw [if_pos rfl]
      exact ⟨s, k, heap_setChan _ _ _ _ _ _ _ _ hlt⟩
    · rw [if_neg e]
      obtain ⟨s', k', hb⟩ := h.buf d hd
      exact ⟨s', k', (setChan_far _ _ _ _ _ _ fun e2 => e (y.inj d c hd hc e2)).trans hb⟩
theorem FeedAt.push (h : FeedAt w z t bs) (hc : t.op[c]? = some true) (v : Int) (s k : Nat) :
    FeedAt (w.setChan (z.q c) 12 ((ints (bs c)).toArray.push (.int .i64 v)) false s k false) z t (fun d => if d = c then bs c ++ [v] else bs d) := by
  have := h.chan hc (bs c ++ [v]) s k
  simpa [ints] using this
theorem FeedAt.pushL (h : FeedAt w z t bs) (hc : t.op[c]? = some true) (v : Int) (s k : Nat) :
    FeedAt (w.setChan (z.q c) 12 (ints (bs c) ++ [Value.int .i64 v]).toArray false s k false) z t (fun d => if d = c then bs c ++ [v] else bs d) := by
  have := h.chan hc (bs c ++ [v]) s k
  simpa [ints] using this
theorem FeedAt.pop (h : FeedAt w z t bs) (hc : t.op[c]? = some true) {l : List Int} (hb : bs c = x :: l) (s k : Nat) :
    FeedAt (w.setChan (z.q c) 12 ((ints (bs c)).toArray.extract 1 (ints (bs c)).toArray.size) false s k false) z t (fun d => if d = c then l else bs d) := by
  have e : (ints (x :: l)).toArray.extract 1 (ints (x :: l)).toArray.size = (ints l).toArray := by
    simp [ints, List.take_of_length_le]
  rw [hb, e]
  exact h.chan hc l s k
/-- The number that is fed. -/
theorem FeedAt.fed (h : FeedAt w z t bs) (f : Int) : FeedAt (w.setCell ⟨z.F, 1, none⟩ (.int .i64 f)) z { t with fd := f } bs := by
  have y := h.lay
  have far : ∀ b, b ≠ z.F → (w.setCell ⟨z.F, 1, none⟩ (.int .i64 f)).heap[b]? = w.heap[b]? := fun b hb => Below.heap_setCell w ⟨z.F, 1, none⟩ _ b hb
  refine ⟨?_, h.box.set_ 1 _, ?_, fun d hd => ?_, y, by simpa [World.setCell] using h.top⟩
  · obtain ⟨x1, y1, x2, y2, x3, y3, a1, a2, a3, d1, d2, d3, o1, o2, o3⟩ := h.own.agree (w' := w.setCell ⟨z.F, 1, none⟩ (.int .i64 f)) fun b hb1 hb2 => far b (by have := y.Fo; omega)
    exact ⟨x1, y1, x2, y2, x3, y3, a1, a2, a3, d1, d2, d3, o1, o2, o3⟩
  · obtain ⟨cs, k1, k2, k3⟩ := h.chs
    exact ⟨cs, k1.far (p := ⟨z.F, 1, none⟩) (Ne.symm y.dF) _, k2, k3⟩
  · obtain ⟨s, k, hb⟩ := h.buf d hd
    exact ⟨s, k, (far _ (y.qs d hd).2.2.2.1).trans hb⟩
/-- A reader's place. -/
theorem FeedAt.place (h : FeedAt w z t bs) (hc : c < t.pl.length) : ∃ g o u, z.r.a2 = some ⟨g, o, none⟩ ∧ t.pl[c]? = some u ∧ w.cell? ⟨g, o + c, none⟩ = some (.int .i64 u) ∧ w.frozen? ⟨g, o + c, none⟩ = false ∧ z.s0 ≤ g ∧ g < z.s1 ∧ g ≠ z.F ∧ g ≠ z.gb ∧
    ∀ v : Int, FeedAt (w.setCell ⟨g, o + c, none⟩ (.int .i64 v)) z { t with pl := t.pl.set c v } bs := by
  have y := h.lay
  obtain ⟨x1, y1, x2, y2, x3, y3, a1, a2, a3, d1, d2, d3, o1, o2, o3⟩ := h.own
  obtain ⟨g, o, cs, hA, hg1, hg2, hbk, hcs⟩ := o2 (by omega)
  obtain ⟨u, hu⟩ := get_of_lt t.pl hc
  have hlen : o + c < cs.length := (List.getElem?_eq_some_iff.1 (hcs c u hu)).1
  have hgF : g ≠ z.F := by have := y.Fo; omega
  have hgb : g ≠ z.gb := by have := y.go; omega
  refine ⟨g, o, u, hA, hu, (hbk.cell _).trans (hcs c u hu), hbk.free _, by have := y.l0; omega, by have := y.l1; omega, hgF, hgb, fun v => ?_⟩
  have far : ∀ b, b ≠ g → (w.setCell ⟨g, o + c, none⟩ (.int .i64 v)).heap[b]? = w.heap[b]? := fun b hb => Below.heap_setCell w ⟨g, o + c, none⟩ _ b hb
  refine ⟨⟨x1, y1, x2, y2, x3, y3, a1, a2, a3, d1, d2, d3, o1.agree fun b h1 h2 => far b (by omega), fun _ => ⟨g, o, _, hA, hg1, hg2, hbk.set_ (o + c) _, fun k u' hk => ?_⟩, o3.agree fun b h1 h2 => far b (by omega)⟩, ?_, ?_, fun d hd => ?_, y, by simpa [World.setCell] using h.top⟩
  · by_cases e : k = c
    · subst e
      rw [List.getElem?_set_self hc] at hk
      obtain rfl := Option.some.inj hk
      rw [List.getElem?_set_self hlen]
    · rw [List.getElem?_set_ne (by omega)] at hk
      rw [List.getElem?_set_ne (by omega)]
      exact hcs k u' hk
  · have := h.box.far (p := ⟨g, o + c, none⟩) (Ne.symm hgF) (.int .i64 v)
    simpa using this
  · obtain ⟨cs', k1, k2, k3⟩ := h.chs
    exact ⟨cs', k1.far (p := ⟨g, o + c, none⟩) (Ne.symm hgb) _, k2, k3⟩
  · obtain ⟨s, k, hb⟩ := h.buf d hd
    exact ⟨s, k, (far _ (by have := (y.qs d hd).2.2.1; omega)).trans hb⟩
end

/-- What the reader c is behind. -/
def bsOf (t : Te) (c : Nat) : List Int := (t.it.drop (t.pl.getD c 0).toNat).take (t.fd.toNat - (t.pl.getD c 0).toNat)
/-- A tee after its reader c read an item. -/
def readT (t : Te) (c : Nat) : Te := if (t.pl.getD c 0).toNat < t.it.length then { t with pl := t.pl.set c (t.pl.getD c 0 + 1), fd := max t.fd (t.pl.getD c 0 + 1) } else t
def readB (t : Te) (c : Nat) : Bool := decide ((t.pl.getD c 0).toNat < t.it.length)
def readX (t : Te) (c : Nat) : Int := if (t.pl.getD c 0).toNat < t.it.length then t.it.getD (t.pl.getD c 0).toNat 0 else 0

theorem place_ok {t : Te} (h : TeeOk t) {c : Nat} {u : Int} (hc : t.pl[c]? = some u) : 0 ≤ u ∧ u ≤ t.fd := by
  have h1 := h.places
  rw [allB, List.all_eq_true] at h1
  exact inR_iff.1 (h1 u (List.mem_of_getElem? hc))
theorem bsOf_nil {t : Te} (h : TeeOk t) {c : Nat} {u : Int} (hc : t.pl[c]? = some u) : bsOf t c = [] ↔ u = t.fd := by
  have := place_ok h hc
  have h3 := h.fed1
  unfold bsOf
  rw [List.getD_eq_getElem?_getD, hc, Option.getD_some, ← List.length_eq_zero_iff, List.length_take, List.length_drop]
  omega
theorem bsOf_len {t : Te} (h : TeeOk t) {c : Nat} {u : Int} (hc : t.pl[c]? = some u) : (bsOf t c).length = t.fd.toNat - u.toNat := by
  have := place_ok h hc
  have h3 := h.fed1
  unfold bsOf
  rw [List.getD_eq_getElem?_getD, hc, Option.getD_some, List.length_take, List.length_drop]
  omega
theorem bsOf_feed {t : Te} (h : TeeOk t) {c : Nat} {u x : Int} (hc : t.pl[c]? = some u) (hx : t.it[t.fd.toNat]? = some x) : bsOf { t with fd := t.fd + 1 } c = bsOf t c ++ [x] := by
  have := place_ok h hc
  have h3 := h.fed0
  unfold bsOf
  simp only
  rw [List.getD_eq_getElem?_getD, hc, Option.getD_some]
  have e : (t.fd + 1).toNat - u.toNat = (t.fd.toNat - u.toNat) + 1 := by omega
  rw [e]
  have hd : (t.it.drop u.toNat)[t.fd.toNat - u.toNat]? = some x := by
    rw [List.getElem?_drop, show u.toNat + (t.fd.toNat - u.toNat) = t.fd.toNat by omega]
    exact hx
  exact take_succ_of hd
theorem bsOf_read {t : Te} (h : TeeOk t) {c : Nat} {u x : Int} (hc : t.pl[c]? = some u) (hu : u < t.fd) (hx : t.it[u.toNat]? = some x) : bsOf t c = x :: bsOf { t with pl := t.pl.set c (u + 1) } c := by
  have := place_ok h hc
  have h3 := h.fed1
  have hl : c < t.pl.length := (List.getElem?_eq_some_iff.1 hc).1
  unfold bsOf
  simp only
  rw [List.getD_eq_getElem?_getD, hc, Option.getD_some, List.getD_eq_getElem?_getD, List.getElem?_set_self hl, Option.getD_some]
  have hul : u.toNat < t.it.length := by omega
  rw [List.drop_eq_getElem_cons hul, show t.fd.toNat - u.toNat = (t.fd.toNat - (u + 1).toNat) + 1 by omega, List.take_succ_cons, show (u + 1).toNat = u.toNat + 1 by omega]
  congr 1
  exact (List.getElem?_eq_some_iff.1 hx).2
theorem bsOf_other {t : Te} {c d : Nat} (v : Int) (h : d ≠ c) : bsOf { t with pl := t.pl.set c v } d = bsOf t d := by
  unfold bsOf
  simp only
  rw [List.getD_eq_getElem?_getD, List.getElem?_set_ne (by omega), ← List.getD_eq_getElem?_getD]

end Go.Proofs.Ytjkieedomljelaa
