/- A feed is made of a tee: its rows are copied, and each open reader gets a channel with what it is behind. -/
import Derived.Test.YtjkieedomljelaaFeedC
namespace Go.Proofs.Ytjkieedomljelaa
open Go.RowKit Go.Conc Go.Deep

theorem Try.infoChan : (Try.prog.info? 87).map (fun i => (i.zero, i.size, i.bytes)) = some (some (.chan none), 1, 8) := by kernel_rfl
theorem bk_nochans (w : World) (n : Nat) : Bk (w.alloc (.cells (madeCells #[Value.chan none] n) 87)) w.heap.size 87 (List.replicate n (.chan none)) := by
  have e : madeCells #[Value.chan none] n = (List.replicate n (Value.chan none)).toArray := by rw [← toList_madeCells_one]
  rw [e]
  exact Bk.new w _ _

/-- Between two operations of the region that makes a feed. -/
structure NF (r : Tr) (t : Te) (s0 z0 : Nat) (w : World) (b0 b1 b2 b3 b4 b5 b6 b7 b8 : Bool) (t3 t8 t9 t10 t11 t12 t13 t14 t15 : Value) (rr : Tr) (lo hi gb F : Nat) (x : World) : Prop where
  bl : Below s0 w x
  sz : z0 ≤ x.heap.size
  bx : Bk x s0 27 [.slice r.a1 t.it.length r.c1, .int .i64 t.fd, .slice r.a2 t.pl.length r.c2, .slice r.a3 t.op.length r.c3]
  d0 : b0 = true → t8 = .agg #[.slice r.a1 t.it.length r.c1, .int .i64 t.fd, .slice r.a2 t.pl.length r.c2, .slice r.a3 t.op.length r.c3]
  d1 : b1 = true → t9 = .agg #[.slice rr.a1 t.it.length rr.c1, .int .i64 t.fd, .slice rr.a2 t.pl.length rr.c2, .slice rr.a3 t.op.length rr.c3] ∧ OwnT x lo hi rr t ∧ z0 ≤ lo ∧ lo ≤ hi ∧ hi ≤ x.heap.size ∧ t.it.length ≤ rr.c1
  d2 : b2 = true → t10 = .pointer (some ⟨s0, 2, none⟩)
  d3 : b3 = true → t11 = .slice r.a2 t.pl.length r.c2
  d4 : b4 = true → t12 = .int .i64 t.pl.length
  d5 : b5 = true → t13 = .slice (some ⟨gb, 0, none⟩) t.pl.length t.pl.length ∧ Bk x gb 87 (List.replicate t.pl.length (.chan none)) ∧ z0 ≤ gb
  d6 : b6 = true → t14 = .agg #[.slice rr.a1 t.it.length rr.c1, .int .i64 t.fd, .slice rr.a2 t.pl.length rr.c2, .slice rr.a3 t.op.length rr.c3, .slice (some ⟨gb, 0, none⟩) t.pl.length t.pl.length]
  d7 : b7 = true → t15 = .pointer (some ⟨F, 0, none⟩) ∧ Bk x F 71 [.slice rr.a1 t.it.length rr.c1, .int .i64 t.fd, .slice rr.a2 t.pl.length rr.c2, .slice rr.a3 t.op.length rr.c3, .slice (some ⟨gb, 0, none⟩) t.pl.length t.pl.length] ∧ hi ≤ F ∧ gb < F
  d8 : b8 = true → t3 = .pointer (some ⟨F, 0, none⟩)
  f15 : b1 = true → b5 = true → hi ≤ gb ∨ gb + 1 ≤ lo
  o1 : b1 = true → b0 = true
  o3 : b3 = true → b2 = true
  o4 : b4 = true → b3 = true
  o5 : b5 = true → b4 = true
  o6 : b6 = true → b1 = true ∧ b5 = true
  o7 : b7 = true → b6 = true
  o8 : b8 = true → b7 = true
section
variable {r : Tr} {t : Te} {s0 z0 : Nat} {w : World} {b0 b1 b2 b3 b4 b5 b6 b7 b8 : Bool} {t3 t8 t9 t10 t11 t12 t13 t14 t15 : Value} {rr : Tr} {lo hi gb F : Nat} {x y : World}
theorem NF.next (h : NF r t s0 z0 w b0 b1 b2 b3 b4 b5 b6 b7 b8 t3 t8 t9 t10 t11 t12 t13 t14 t15 rr lo hi gb F x) (hb : Below x.heap.size x y) (hs : s0 ≤ x.heap.size) : NF r t s0 z0 w b0 b1 b2 b3 b4 b5 b6 b7 b8 t3 t8 t9 t10 t11 t12 t13 t14 t15 rr lo hi gb F y :=
  ⟨h.bl.trans (hb.mono hs), Nat.le_trans h.sz hb.size, h.bx.below hb h.bx.lt, h.d0, fun e => ⟨(h.d1 e).1, (h.d1 e).2.1.agree (fun b _ h2 => hb.block b (by have := (h.d1 e).2.2.2.2.1; omega)), (h.d1 e).2.2.1, (h.d1 e).2.2.2.1, Nat.le_trans (h.d1 e).2.2.2.2.1 hb.size, (h.d1 e).2.2.2.2.2⟩, h.d2, h.d3, h.d4, fun e => ⟨(h.d5 e).1, (h.d5 e).2.1.below hb (h.d5 e).2.1.lt, (h.d5 e).2.2⟩, h.d6, fun e => ⟨(h.d7 e).1, (h.d7 e).2.1.below hb (h.d7 e).2.1.lt, (h.d7 e).2.2⟩, h.d8, h.f15, h.o1, h.o3, h.o4, h.o5, h.o6, h.o7, h.o8⟩
end

theorem Bk.drewX {w : World} {g : Nat} {t : TypeId} {cs : List Value} (h : Bk w g t cs) : Bk w.drew g t cs := h

theorem bsOf_take {t : Te} (h : TeeOk t) {c : Nat} {u : Int} (hc : t.pl[c]? = some u) {j : Nat} (hj : j < t.fd.toNat - u.toNat) : ∃ x, t.it[u.toNat + j]? = some x ∧ (bsOf t c).take (j + 1) = (bsOf t c).take j ++ [x] := by
  have h1 := place_ok h hc
  have h2 := h.fed1
  obtain ⟨x, hx⟩ := get_of_lt t.it (k := u.toNat + j) (by omega)
  refine ⟨x, hx, take_succ_of ?_⟩
  unfold bsOf
  rw [List.getD_eq_getElem?_getD, hc, Option.getD_some, List.getElem?_take_of_lt hj, List.getElem?_drop]
  exact hx

/-- A feed of which the first k readers have got their channels. -/
structure FeedPart (w : World) (s0 T0 lo hi F gb : Nat) (r : Tr) (q : Nat → Nat) (t : Te) (k : Nat) : Prop where
  own : OwnT w lo hi r t
  box : Bk w F 71 [.slice r.a1 t.it.length r.c1, .int .i64 t.fd, .slice r.a2 t.pl.length r.c2, .slice r.a3 t.op.length r.c3, .slice (some ⟨gb, 0, none⟩) t.pl.length t.pl.length]
  chs : ∃ cs, Bk w gb 87 cs ∧ cs.length = t.pl.length ∧ ∀ c, c < k → t.op[c]? = some true → cs[c]? = some (.chan (some (q c)))
  buf : ∀ c, c < k → t.op[c]? = some true → ∃ s j, w.heap[q c]? = some (.chan 12 (ints (bsOf t c)).toArray false s j false)
  qs : ∀ c, c < k → t.op[c]? = some true → T0 ≤ q c ∧ q c < w.heap.size
  inj : ∀ c d, c < k → d < k → t.op[c]? = some true → t.op[d]? = some true → q c = q d → c = d
  lays : s0 ≤ lo ∧ lo ≤ hi ∧ hi ≤ F ∧ gb < F ∧ F < T0 ∧ s0 ≤ gb ∧ (hi ≤ gb ∨ gb + 1 ≤ lo) ∧ T0 ≤ w.heap.size

section
variable {w w' : World} {s0 T0 lo hi F gb k : Nat} {r : Tr} {q : Nat → Nat} {t : Te}
theorem FeedPart.done (h : FeedPart w s0 T0 lo hi F gb r q t k) (hk : k = t.op.length) (ho : t.op.length = t.pl.length) : FeedAt w ⟨s0, w.heap.size, lo, hi, F, gb, t.pl.length, r, q⟩ t (bsOf t) := by
  subst hk
  obtain ⟨l1, l2, l3, l4, l5, l6, l7, l8⟩ := h.lays
  have hlt : ∀ c, t.op[c]? = some true → c < t.op.length := fun c hc => (List.getElem?_eq_some_iff.1 hc).1
  refine ⟨h.own, by have := h.box; rw [← ho] at this ⊢; exact this, ?_, fun c hc => h.buf c (hlt c hc) hc, ?_, Nat.le_refl _⟩
  · obtain ⟨cs, h1, h2, h3⟩ := h.chs
    exact ⟨cs, h1, by omega, fun c hc => h3 c (hlt c hc) hc⟩
  · refine ⟨l1, l2, by show hi ≤ w.heap.size; omega, by show s0 ≤ F; omega, by show F < w.heap.size; omega, .inr l3, l6, by show gb < w.heap.size; omega, by show gb < lo ∨ hi ≤ gb; omega, by show F ≠ gb; omega, fun c hc => ?_, fun c d hc hd e => h.inj c d (hlt c hc) (hlt d hd) hc hd e⟩
    have := h.qs c (hlt c hc) hc
    exact ⟨by show s0 ≤ q c; omega, this.2, by show q c < lo ∨ hi ≤ q c; omega, by show q c ≠ F; omega, by show q c ≠ gb; omega⟩
theorem FeedPart.same (h : FeedPart w s0 T0 lo hi F gb r q t k) (hh : w'.heap = w.heap) : FeedPart w' s0 T0 lo hi F gb r q t k := by
  have hb : ∀ b : Nat, w'.heap[b]? = w.heap[b]? := fun b => by rw [hh]
  refine ⟨h.own.agree fun b _ _ => hb b, (hb _).trans h.box, ?_, fun c hk hc => ?_, fun c hk hc => by rw [hh]; exact h.qs c hk hc, h.inj, by rw [hh]; exact h.lays⟩
  · obtain ⟨cs, h1, h2⟩ := h.chs
    exact ⟨cs, (hb _).trans h1, h2⟩
  · obtain ⟨s, j, h1⟩ := h.buf c hk hc
    exact ⟨s, j, (hb _).trans h1⟩
theorem FeedPart.closed (h : FeedPart w s0 T0 lo hi F gb r q t k) (hk : t.op[k]? = some false) : FeedPart w s0 T0 lo hi F gb r q t (k + 1) := by
  have ne : ∀ c, c < k + 1 → t.op[c]? = some true → c < k := fun c hc ho => by
    rcases Nat.lt_or_ge c k with h | h
    · exact h
    · obtain rfl : c = k := by omega
      rw [hk] at ho; cases ho
  refine ⟨h.own, h.box, ?_, fun c hc ho => h.buf c (ne c hc ho) ho, fun c hc ho => h.qs c (ne c hc ho) ho, fun c d hc hd ho hp e => h.inj c d (ne c hc ho) (ne d hd hp) ho hp e, h.lays⟩
  obtain ⟨cs, h1, h2, h3⟩ := h.chs
  exact ⟨cs, h1, h2, fun c hc ho => h3 c (ne c hc ho) ho⟩
/-- The reader k gets a channel. -/
theorem FeedPart.open_ (h : FeedPart w s0 T0 lo hi F gb r q t k) (hk : k < t.pl.length) (hz : w.heap.size < w'.heap.size)
    (hgb : ∀ cs, Bk w gb 87 cs → Bk w' gb 87 (cs.set k (.chan (some w.heap.size)))) (hag : ∀ b, b < w.heap.size → b ≠ gb → w'.heap[b]? = w.heap[b]?)
    (hch : ∃ s j, w'.heap[w.heap.size]? = some (.chan 12 (ints (bsOf t k)).toArray false s j false)) : FeedPart w' s0 T0 lo hi F gb r (fun c => if c = k then w.heap.size else q c) t (k + 1) := by
  obtain ⟨l1, l2, l3, l4, l5, l6, l7, l8⟩ := h.lays
  refine ⟨h.own.agree fun b h1 h2 => hag b (by omega) (by omega), (hag F (by omega) (by omega)).trans h.box, ?_, fun c hc ho => ?_, fun c hc ho => ?_, fun c d hc hd ho hp e => ?_, l1, l2, l3, l4, l5, l6, l7, by omega⟩
  · obtain ⟨cs, h1, h2, h3⟩ := h.chs
    refine ⟨_, hgb cs h1, by rw [List.length_set]; exact h2, fun c hc ho => ?_⟩
    by_cases e : c = k
    · subst e
      rw [List.getElem?_set_self (by omega)]
      simp
    · rw [List.getElem?_set_ne (by omega)]
      simp only [if_neg e]
      exact h3 c (by omega) ho
  · by_cases e : c = k
    · subst e
      simpa using hch
    · simp only [if_neg e]
      have hq := h.qs c (by omega) ho
      obtain ⟨s, j, h1⟩ := h.buf c (by omega) ho
      exact ⟨s, j, (hag _ hq.2 (by omega)).trans h1⟩
  · by_cases e : c = k
    · simp only [if_pos e]; omega
    · simp only [if_neg e]
      have hq := h.qs c (by omega) ho
      omega
  · by_cases e1 : c = k
    · by_cases e2 : d = k
      · omega
      · simp only [if_pos e1, if_neg e2] at e
        have hq := h.qs d (by omega) hp
        omega
    · by_cases e2 : d = k
      · simp only [if_neg e1, if_pos e2] at e
        have hq := h.qs c (by omega) ho
        omega
      · simp only [if_neg e1, if_neg e2] at e
        exact h.inj c d (by omega) (by omega) ho hp e
end

theorem chan_run (w : World) : (Instr.makeChan 87 (.int .i64 12)).run Try.prog w = .ok (.chan (some w.heap.size)) (w.alloc (.chan 12 #[] false 0 0 false)) := by
  have h : (Try.prog.info? 3).map (·.bytes) = some 8 := by kernel_rfl
  obtain ⟨i, hi, hb⟩ := Option.map_eq_some_iff.1 h
  simpa using run_makeChan (P := Try.prog) (w := w) Try.underlying87 hi .i64 12 (by omega) (by rw [hb]; omega)

theorem slice_run (A : Option Addr) (l : List Int) (c p f : Nat) (h1 : p ≤ f) (h2 : f ≤ l.length) (h3 : l.length ≤ c) :
    ∃ (A' : Option Addr) (c' : Nat), (∀ w : World, (Instr.sliceAt 22 (.slice A l.length c) (some (.int .i64 (p : Int))) (some (.int .i64 (f : Int))) none).run Try.prog w = .ok (.slice A' (f - p) c') w) ∧
      ∀ (w : World) (B : Nat), RdI w B A l → RdI w B A' ((l.drop p).take (f - p)) := by
  refine ⟨if c = p then A else A.map (·.add (p * 1)), c - p, fun w => ?_, fun w B h => ?_⟩
  · have hu := Try.underlying22
    obtain ⟨i, hi, hz0, hz1, hz2⟩ := info_parts Try.infoInt
    have b1 : (p : Int) ≤ f := by omega
    have b2 : (f : Int) ≤ c := by omega
    simp [go_sem, hu, hi, hz1, sizeOf, typeInfo, b1, b2, sliced]
  · intro hn
    rw [List.length_take, List.length_drop] at hn
    obtain ⟨ad, hA, hB, hc⟩ := h (by omega)
    obtain ⟨x, hx⟩ := get_of_lt l (k := 0) (by omega)
    have hsp := World.cell?_spot (hc 0 x hx)
    obtain ⟨b, o, s⟩ := ad
    have hs : s = none := by simpa [Addr.add] using hsp
    subst hs
    rw [if_neg (by omega), hA]
    refine ⟨⟨b, o + p, none⟩, by simp [Addr.add_lit], hB, fun k y hk => ?_⟩
    have hkl : k < f - p := by
      have := (List.getElem?_eq_some_iff.1 hk).1
      rw [List.length_take] at this
      omega
    rw [List.getElem?_take_of_lt hkl, List.getElem?_drop] at hk
    have := hc (p + k) y hk
    rw [Addr.add_lit] at this ⊢
    rw [Nat.add_assoc]
    exact this

set_option maxRecDepth 100000 in
set_option maxHeartbeats 12800000 in
theorem newFeed_any (r : Tr) (t : Te) (w : World) (B : Nat) (h : RdT w B r t) (hB : B ≤ w.heap.size) (hok : TeeOk t) (hcap : t.it.length ≤ r.c1) :
    Calls Try.prog 65 #[.agg #[.slice r.a1 t.it.length r.c1, .int .i64 t.fd, .slice r.a2 t.pl.length r.c2, .slice r.a3 t.op.length r.c3]] w fun e w' => ∃ z : Fl, e = .returned (.pointer (some ⟨z.F, 0, none⟩)) ∧ z.s0 = w.heap.size ∧ z.s1 = w'.heap.size ∧ FeedAt w' z t (bsOf t) ∧ t.it.length ≤ z.r.c1 ∧ Below w.heap.size w w' := by
  obtain ⟨W0, hW0⟩ : ∃ W : World, W = w.alloc (.cells #[.slice r.a1 t.it.length r.c1, .int .i64 t.fd, .slice r.a2 t.pl.length r.c2, .slice r.a3 t.op.length r.c3] 27) := ⟨_, rfl⟩
  have hb0 : Below w.heap.size w W0 := by rw [hW0]; exact (Below.refl _ _).alloc (Nat.le_refl _) _
  have ba : Bk W0 w.heap.size 27 [.slice r.a1 t.it.length r.c1, .int .i64 t.fd, .slice r.a2 t.pl.length r.c2, .slice r.a3 t.op.length r.c3] := by rw [hW0]; exact Bk.new _ _ [.slice r.a1 t.it.length r.c1, .int .i64 t.fd, .slice r.a2 t.pl.length r.c2, .slice r.a3 t.op.length r.c3]
  have hs0 : W0.heap.size = w.heap.size + 1 := by rw [hW0]; simp
  have n1 : t.it.length ≤ 1048576 := by have := hok.len; omega
  have n2 : t.pl.length ≤ 1048576 := by have := hok.many1; omega
  have n3 : t.op.length ≤ 1048576 := by have := hok.many1; have := hok.open_; omega
  have HT := Lib.hid h
  have Hok := Lib.hid hok
  have Hcap0 := Lib.hid hcap
  have Hb0 := Lib.hid hb0
  have HW0 := Lib.hid hW0
  have Ba := Lib.hid ba
  have Hs0 := Lib.hid hs0
  have Hmk := Lib.hid (run_make_row' (P := Try.prog) 69 87 (.chan none) 8 Try.underlying69 Try.infoChan rfl .i64 .i64 t.pl.length (by omega) (by omega))
  clear h hok hcap hb0 hW0 hs0 ba
  go_enter Try.func65, Try.ntmps65
  go_wp2_with fail
  rw [← HW0.out]
  refine Code.wp_mono (Q := fun e a x => e = .normal ∧ ∃ (t3 t8 t9 t10 t11 t12 t13 t14 t15 : Value) (rr : Tr) (lo hi gb F : Nat), a = ({ tmps := #[.agg #[.slice r.a1 t.it.length r.c1, .int .i64 t.fd, .slice r.a2 t.pl.length r.c2, .slice r.a3 t.op.length r.c3], .pointer (some ⟨w.heap.size, 0, none⟩), .pointer none, t3, undef, undef, undef, undef, t8, t9, t10, t11, t12, t13, t14, t15, undef, undef, undef, undef, undef, undef, undef, undef, undef, undef, undef, undef, undef, undef, undef, undef, undef, undef, undef, undef, undef, undef, undef, undef, undef, undef, undef, undef, undef, undef, undef, undef, undef, undef, undef, undef, undef, undef, undef, undef, undef, undef, undef], defers := [] } : Act) ∧ t3 = .pointer (some ⟨F, 0, none⟩) ∧ Below w.heap.size w x ∧ Bk x w.heap.size 27 [.slice r.a1 t.it.length r.c1, .int .i64 t.fd, .slice r.a2 t.pl.length r.c2, .slice r.a3 t.op.length r.c3] ∧ OwnT x lo hi rr t ∧ Bk x gb 87 (List.replicate t.pl.length (.chan none)) ∧ Bk x F 71 [.slice rr.a1 t.it.length rr.c1, .int .i64 t.fd, .slice rr.a2 t.pl.length rr.c2, .slice rr.a3 t.op.length rr.c3, .slice (some ⟨gb, 0, none⟩) t.pl.length t.pl.length] ∧ t.it.length ≤ rr.c1 ∧
    (W0.heap.size ≤ lo ∧ lo ≤ hi ∧ hi ≤ F ∧ gb < F ∧ W0.heap.size ≤ gb ∧ (hi ≤ gb ∨ gb + 1 ≤ lo))) ?after ?region
  case region =>
    refine wp_region_any (by kernel_rfl) (wpAny_invL (I := (fun k listed a x => ∃ b0 b1 b2 b3 b4 b5 b6 b7 b8 t3 t8 t9 t10 t11 t12 t13 t14 t15 rr lo hi gb F, k = nfC b0 + nfC b1 + nfC b2 + nfC b3 + nfC b4 + nfC b5 + nfC b6 + nfC b7 + nfC b8 ∧ listed = #[b0, b1, b2, b3, b4, b5, b6, b7, b8] ∧ a = ({ tmps := #[.agg #[.slice r.a1 t.it.length r.c1, .int .i64 t.fd, .slice r.a2 t.pl.length r.c2, .slice r.a3 t.op.length r.c3], .pointer (some ⟨w.heap.size, 0, none⟩), .pointer none, t3, undef, undef, undef, undef, t8, t9, t10, t11, t12, t13, t14, t15, undef, undef, undef, undef, undef, undef, undef, undef, undef, undef, undef, undef, undef, undef, undef, undef, undef, undef, undef, undef, undef, undef, undef, undef, undef, undef, undef, undef, undef, undef, undef, undef, undef, undef, undef, undef, undef, undef, undef, undef, undef, undef, undef], defers := [] } : Act) ∧ NF r t w.heap.size W0.heap.size w b0 b1 b2 b3 b4 b5 b6 b7 b8 t3 t8 t9 t10 t11 t12 t13 t14 t15 rr lo hi gb F x)) ?h0 ?hd ?hs 9 _ _ _ ?start)
    case start => exact ⟨false, false, false, false, false, false, false, false, false, _, _, _, _, _, _, _, _, _, nilTr, 0, 0, 0, 0, rfl, rfl, rfl, ⟨Hb0.out.drew, by exact Nat.le_refl _, Bk.drewN Ba.out 1, fun e => absurd e (by decide), fun e => absurd e (by decide), fun e => absurd e (by decide), fun e => absurd e (by decide), fun e => absurd e (by decide), fun e => absurd e (by decide), fun e => absurd e (by decide), fun e => absurd e (by decide), fun e => absurd e (by decide), fun e => absurd e (by decide), fun e => absurd e (by decide), fun e => absurd e (by decide), fun e => absurd e (by decide), fun e => absurd e (by decide), fun e => absurd e (by decide), fun e => absurd e (by decide), fun e => absurd e (by decide)⟩⟩
    case h0 =>
      rintro listed a x ⟨b0, b1, b2, b3, b4, b5, b6, b7, b8, t3, t8, t9, t10, t11, t12, t13, t14, t15, rr, lo, hi, gb, F, hn, rfl, rfl, hI⟩
      obtain rfl : b0 = true := by
        cases b0 with
        | true => rfl
        | false => simp only [nfC] at hn; omega
      obtain rfl : b1 = true := by
        cases b1 with
        | true => rfl
        | false => simp only [nfC] at hn; omega
      obtain rfl : b2 = true := by
        cases b2 with
        | true => rfl
        | false => simp only [nfC] at hn; omega
      obtain rfl : b3 = true := by
        cases b3 with
        | true => rfl
        | false => simp only [nfC] at hn; omega
      obtain rfl : b4 = true := by
        cases b4 with
        | true => rfl
        | false => simp only [nfC] at hn; omega
      obtain rfl : b5 = true := by
        cases b5 with
        | true => rfl
        | false => simp only [nfC] at hn; omega
      obtain rfl : b6 = true := by
        cases b6 with
        | true => rfl
        | false => simp only [nfC] at hn; omega
      obtain rfl : b7 = true := by
        cases b7 with
        | true => rfl
        | false => simp only [nfC] at hn; omega
      obtain rfl : b8 = true := by
        cases b8 with
        | true => rfl
        | false => simp only [nfC] at hn; omega
      rfl
    case hd =>
      rintro k9 listed a x ⟨b0, b1, b2, b3, b4, b5, b6, b7, b8, t3, t8, t9, t10, t11, t12, t13, t14, t15, rr, lo, hi, gb, F, hn, rfl, rfl, hI⟩ hr
      have hall := List.filter_eq_nil_iff.1 hr
      obtain rfl : b0 = true := by
        have q := hall 0 (List.mem_range.2 (by decide))
        simpa [Region.binds] using q
      obtain rfl : b1 = true := by
        have q := hall 1 (List.mem_range.2 (by decide))
        simpa [Region.binds] using q
      obtain rfl : b2 = true := by
        have q := hall 2 (List.mem_range.2 (by decide))
        simpa [Region.binds] using q
      obtain rfl : b3 = true := by
        have q := hall 3 (List.mem_range.2 (by decide))
        simpa [Region.binds] using q
      obtain rfl : b4 = true := by
        have q := hall 4 (List.mem_range.2 (by decide))
        simpa [Region.binds] using q
      obtain rfl : b5 = true := by
        have q := hall 5 (List.mem_range.2 (by decide))
        simpa [Region.binds] using q
      obtain rfl : b6 = true := by
        have q := hall 6 (List.mem_range.2 (by decide))
        simpa [Region.binds] using q
      obtain rfl : b7 = true := by
        have q := hall 7 (List.mem_range.2 (by decide))
        simpa [Region.binds] using q
      obtain rfl : b8 = true := by
        have q := hall 8 (List.mem_range.2 (by decide))
        simpa [Region.binds] using q
      obtain ⟨_, q1, q2, q3, q4, q9⟩ := hI.d1 rfl
      obtain ⟨_, q5, q6⟩ := hI.d5 rfl
      obtain ⟨_, q7, q8, q10⟩ := hI.d7 rfl
      exact ⟨rfl, _, _, _, _, _, _, _, _, _, rr, lo, hi, gb, F, rfl, hI.d8 rfl, hI.bl, hI.bx, q1, q5, q7, q9, ⟨q2, q3, q8, q10, q6, hI.f15 rfl rfl⟩⟩
    case hs =>
      rintro k9 listed a x ⟨b0, b1, b2, b3, b4, b5, b6, b7, b8, t3, t8, t9, t10, t11, t12, t13, t14, t15, rr, lo, hi, gb, F, hn, rfl, rfl, hI⟩ i hmem
      obtain ⟨hi1, hi2, hi3⟩ := ready_memL hmem
      have hi4 : i < 9 := hi1
      have hs0 := Hs0.out
      clear hmem hi1
      rcases (show i = 0 ∨ i = 1 ∨ i = 2 ∨ i = 3 ∨ i = 4 ∨ i = 5 ∨ i = 6 ∨ i = 7 ∨ i = 8 by omega) with rfl | rfl | rfl | rfl | rfl | rfl | rfl | rfl | rfl
      · -- operation 0
        obtain rfl : b0 = false := hi2
        obtain ⟨ca0, ca1, ca2, ca3⟩ := hI.bx.cellsT
        have hxl := hI.bx.lt
        have hsx : w.heap.size ≤ x.heap.size := by have := hI.bl.size; exact this
        clear hi3 hi4
        refine wpOp_ofL (o := _) rfl rfl fun K' hK => ?_
        have HK := Lib.hid hK
        clear hK
        go_wp2_with fail
        have hbxy := Below.refl x.heap.size x
        have h9 := hI.next hbxy hsx
        refine HK.out _ _ ⟨true, b1, b2, b3, b4, b5, b6, b7, b8, _, _, _, _, _, _, _, _, _, rr, lo, hi, gb, F, by simp only [nfC] at hn ⊢; omega, rfl, rfl, ?_⟩
        exact ⟨h9.bl, h9.sz, h9.bx, fun _ => rfl, h9.d1, h9.d2, h9.d3, h9.d4, h9.d5, h9.d6, h9.d7, h9.d8, h9.f15, fun _ => rfl, h9.o3, h9.o4, h9.o5, h9.o6, h9.o7, h9.o8⟩
      · -- operation 1
        obtain rfl : b1 = false := hi2
        have hdp : b0 = true := by
          have h7 := hi3
          simp [Region.binds] at h7
          first | exact h7 | exact ⟨h7.1, h7.2⟩ | (simp [h7]; done)
        obtain rfl := hI.d0 hdp
        have hrd := HT.out.below hI.bl hB
        have hzx := hI.sz
        have hn6 : b6 = false := by
          cases hbb : b6 with
          | false => rfl
          | true => exact absurd ((hI.o6 hbb).1) (by decide)
        have hn7 : b7 = false := by
          cases hbb : b7 with
          | false => rfl
          | true => exact absurd ((hI.o6 (hI.o7 hbb)).1) (by decide)
        have hn8 : b8 = false := by
          cases hbb : b8 with
          | false => rfl
          | true => exact absurd ((hI.o6 (hI.o7 (hI.o8 hbb))).1) (by decide)
        subst hn6 hn7 hn8
        have hsx : w.heap.size ≤ x.heap.size := by have := hI.bl.size; exact this
        clear hi3 hi4
        refine wpOp_ofL (o := _) rfl rfl fun K' hK => ?_
        have HK := Lib.hid hK
        clear hK
        go_wp2_with fail
        refine (implcopyTee_cap r t x B hrd (by omega) n1 n2 n3).mono ?_
        rintro e y ⟨r2, rfl, ho, hbxy, hcp⟩
        have h9 := hI.next hbxy hsx
        refine HK.out _ _ ⟨b0, true, b2, b3, b4, b5, false, false, false, _, _, _, _, _, _, _, _, _, r2, x.heap.size, y.heap.size, gb, F, by simp only [nfC] at hn ⊢; omega, rfl, rfl, ?_⟩
        exact ⟨h9.bl, h9.sz, h9.bx, h9.d0, fun _ => ⟨rfl, ho, hzx, hbxy.size, Nat.le_refl _, hcp⟩, h9.d2, h9.d3, h9.d4, h9.d5, fun e => absurd e (by decide), fun e => absurd e (by decide), fun e => absurd e (by decide), fun _ e5 => .inr (hI.d5 e5).2.1.lt, fun _ => hdp, h9.o3, h9.o4, h9.o5, fun e => absurd e (by decide), fun e => absurd e (by decide), fun e => absurd e (by decide)⟩
      · -- operation 2
        obtain rfl : b2 = false := hi2
        have hsx : w.heap.size ≤ x.heap.size := by have := hI.bl.size; exact this
        clear hi3 hi4
        refine wpOp_ofL (o := _) rfl rfl fun K' hK => ?_
        have HK := Lib.hid hK
        clear hK
        go_wp2_with fail
        have hbxy := Below.refl x.heap.size x
        have h9 := hI.next hbxy hsx
        refine HK.out _ _ ⟨b0, b1, true, b3, b4, b5, b6, b7, b8, _, _, _, _, _, _, _, _, _, rr, lo, hi, gb, F, by simp only [nfC] at hn ⊢; omega, rfl, rfl, ?_⟩
        exact ⟨h9.bl, h9.sz, h9.bx, h9.d0, h9.d1, fun _ => rfl, h9.d3, h9.d4, h9.d5, h9.d6, h9.d7, h9.d8, h9.f15, h9.o1, fun _ => rfl, h9.o4, h9.o5, h9.o6, h9.o7, h9.o8⟩
      · -- operation 3
        obtain rfl : b3 = false := hi2
        have hdp : b2 = true := by
          have h7 := hi3
          simp [Region.binds] at h7
          first | exact h7 | exact ⟨h7.1, h7.2⟩ | (simp [h7]; done)
        obtain rfl := hI.d2 hdp
        obtain ⟨ca0, ca1, ca2, ca3⟩ := hI.bx.cellsT
        have hxl := hI.bx.lt
        have hsx : w.heap.size ≤ x.heap.size := by have := hI.bl.size; exact this
        clear hi3 hi4
        refine wpOp_ofL (o := _) rfl rfl fun K' hK => ?_
        have HK := Lib.hid hK
        clear hK
        go_wp2_with fail
        have hbxy := Below.refl x.heap.size x
        have h9 := hI.next hbxy hsx
        refine HK.out _ _ ⟨b0, b1, b2, true, b4, b5, b6, b7, b8, _, _, _, _, _, _, _, _, _, rr, lo, hi, gb, F, by simp only [nfC] at hn ⊢; omega, rfl, rfl, ?_⟩
        exact ⟨h9.bl, h9.sz, h9.bx, h9.d0, h9.d1, h9.d2, fun _ => rfl, h9.d4, h9.d5, h9.d6, h9.d7, h9.d8, h9.f15, h9.o1, fun _ => hdp, fun _ => rfl, h9.o5, h9.o6, h9.o7, h9.o8⟩
      · -- operation 4
        obtain rfl : b4 = false := hi2
        have hdp : b3 = true := by
          have h7 := hi3
          simp [Region.binds] at h7
          first | exact h7 | exact ⟨h7.1, h7.2⟩ | (simp [h7]; done)
        obtain rfl := hI.d3 hdp
        have hsx : w.heap.size ≤ x.heap.size := by have := hI.bl.size; exact this
        clear hi3 hi4
        refine wpOp_ofL (o := _) rfl rfl fun K' hK => ?_
        have HK := Lib.hid hK
        clear hK
        go_wp2_with fail
        have hbxy := Below.refl x.heap.size x
        have h9 := hI.next hbxy hsx
        refine HK.out _ _ ⟨b0, b1, b2, b3, true, b5, b6, b7, b8, _, _, _, _, _, _, _, _, _, rr, lo, hi, gb, F, by simp only [nfC] at hn ⊢; omega, rfl, rfl, ?_⟩
        exact ⟨h9.bl, h9.sz, h9.bx, h9.d0, h9.d1, h9.d2, h9.d3, fun _ => rfl, h9.d5, h9.d6, h9.d7, h9.d8, h9.f15, h9.o1, h9.o3, fun _ => hdp, fun _ => rfl, h9.o6, h9.o7, h9.o8⟩
      · -- operation 5
        obtain rfl : b5 = false := hi2
        have hdp : b4 = true := by
          have h7 := hi3
          simp [Region.binds] at h7
          first | exact h7 | exact ⟨h7.1, h7.2⟩ | (simp [h7]; done)
        obtain rfl := hI.d4 hdp
        have hzx := hI.sz
        have hmk := Hmk.out
        have hn6 : b6 = false := by
          cases hbb : b6 with
          | false => rfl
          | true => exact absurd ((hI.o6 hbb).2) (by decide)
        have hn7 : b7 = false := by
          cases hbb : b7 with
          | false => rfl
          | true => exact absurd ((hI.o6 (hI.o7 hbb)).2) (by decide)
        have hn8 : b8 = false := by
          cases hbb : b8 with
          | false => rfl
          | true => exact absurd ((hI.o6 (hI.o7 (hI.o8 hbb))).2) (by decide)
        subst hn6 hn7 hn8
        have hsx : w.heap.size ≤ x.heap.size := by have := hI.bl.size; exact this
        clear hi3 hi4
        refine wpOp_ofL (o := _) rfl rfl fun K' hK => ?_
        have HK := Lib.hid hK
        clear hK
        go_wp2_with fail
        have hbxy : Below x.heap.size x (x.alloc (.cells (madeCells #[Value.chan none] t.pl.length) 87)) := (Below.refl _ _).alloc (Nat.le_refl _) _
        have h9 := hI.next hbxy hsx
        refine HK.out _ _ ⟨b0, b1, b2, b3, b4, true, false, false, false, _, _, _, _, _, _, _, _, _, rr, lo, hi, x.heap.size, F, by simp only [nfC] at hn ⊢; omega, rfl, rfl, ?_⟩
        exact ⟨h9.bl, h9.sz, h9.bx, h9.d0, h9.d1, h9.d2, h9.d3, h9.d4, fun _ => ⟨rfl, bk_nochans x t.pl.length, hzx⟩, fun e => absurd e (by decide), fun e => absurd e (by decide), fun e => absurd e (by decide), fun e1 _ => .inl (hI.d1 e1).2.2.2.2.1, h9.o1, h9.o3, h9.o4, fun _ => hdp, fun e => absurd e (by decide), fun e => absurd e (by decide), fun e => absurd e (by decide)⟩
      · -- operation 6
        obtain rfl : b6 = false := hi2
        have hdp : b1 = true ∧ b5 = true := by
          have h7 := hi3
          simp [Region.binds] at h7
          first | exact h7 | exact ⟨h7.1, h7.2⟩ | (simp [h7]; done)
        obtain ⟨rfl, g1⟩ := hI.d1 hdp.1
        obtain ⟨rfl, g5⟩ := hI.d5 hdp.2
        have hsx : w.heap.size ≤ x.heap.size := by have := hI.bl.size; exact this
        clear hi3 hi4
        refine wpOp_ofL (o := _) rfl rfl fun K' hK => ?_
        have HK := Lib.hid hK
        clear hK
        go_wp2_with fail
        have hbxy := Below.refl x.heap.size x
        have h9 := hI.next hbxy hsx
        refine HK.out _ _ ⟨b0, b1, b2, b3, b4, b5, true, b7, b8, _, _, _, _, _, _, _, _, _, rr, lo, hi, gb, F, by simp only [nfC] at hn ⊢; omega, rfl, rfl, ?_⟩
        exact ⟨h9.bl, h9.sz, h9.bx, h9.d0, fun e => ⟨rfl, (h9.d1 e).2⟩, h9.d2, h9.d3, h9.d4, fun e => ⟨rfl, (h9.d5 e).2⟩, fun _ => rfl, h9.d7, h9.d8, h9.f15, h9.o1, h9.o3, h9.o4, h9.o5, fun _ => hdp, fun _ => rfl, h9.o8⟩
      · -- operation 7
        obtain rfl : b7 = false := hi2
        have hdp : b6 = true := by
          have h7 := hi3
          simp [Region.binds] at h7
          first | exact h7 | exact ⟨h7.1, h7.2⟩ | (simp [h7]; done)
        obtain rfl := hI.d6 hdp
        have hzx := hI.sz
        have g1 := (hI.d1 (hI.o6 hdp).1).2
        have g5l := (hI.d5 (hI.o6 hdp).2).2.1.lt
        have hn8 : b8 = false := by
          cases hbb : b8 with
          | false => rfl
          | true => exact absurd (hI.o8 hbb) (by decide)
        subst hn8
        have hsx : w.heap.size ≤ x.heap.size := by have := hI.bl.size; exact this
        clear hi3 hi4
        refine wpOp_ofL (o := _) rfl rfl fun K' hK => ?_
        have HK := Lib.hid hK
        clear hK
        go_wp2_with fail
        have hbxy : Below x.heap.size x (x.alloc (.cells #[.slice rr.a1 t.it.length rr.c1, .int .i64 t.fd, .slice rr.a2 t.pl.length rr.c2, .slice rr.a3 t.op.length rr.c3, .slice (some ⟨gb, 0, none⟩) t.pl.length t.pl.length] 71)) := (Below.refl _ _).alloc (Nat.le_refl _) _
        have h9 := hI.next hbxy hsx
        refine HK.out _ _ ⟨b0, b1, b2, b3, b4, b5, b6, true, false, _, _, _, _, _, _, _, _, _, rr, lo, hi, gb, x.heap.size, by simp only [nfC] at hn ⊢; omega, rfl, rfl, ?_⟩
        exact ⟨h9.bl, h9.sz, h9.bx, h9.d0, h9.d1, h9.d2, h9.d3, h9.d4, h9.d5, h9.d6, fun _ => ⟨rfl, Bk.new x 71 [.slice rr.a1 t.it.length rr.c1, .int .i64 t.fd, .slice rr.a2 t.pl.length rr.c2, .slice rr.a3 t.op.length rr.c3, .slice (some ⟨gb, 0, none⟩) t.pl.length t.pl.length], g1.2.2.2.1, g5l⟩, fun e => absurd e (by decide), h9.f15, h9.o1, h9.o3, h9.o4, h9.o5, h9.o6, fun _ => hdp, fun e => absurd e (by decide)⟩
      · -- operation 8
        obtain rfl : b8 = false := hi2
        have hdp : b7 = true := by
          have h7 := hi3
          simp [Region.binds] at h7
          first | exact h7 | exact ⟨h7.1, h7.2⟩ | (simp [h7]; done)
        obtain ⟨rfl, g7⟩ := hI.d7 hdp
        have hsx : w.heap.size ≤ x.heap.size := by have := hI.bl.size; exact this
        clear hi3 hi4
        refine wpOp_ofL (o := _) rfl rfl fun K' hK => ?_
        have HK := Lib.hid hK
        clear hK
        go_wp2_with fail
        have hbxy := Below.refl x.heap.size x
        have h9 := hI.next hbxy hsx
        refine HK.out _ _ ⟨b0, b1, b2, b3, b4, b5, b6, b7, true, _, _, _, _, _, _, _, _, _, rr, lo, hi, gb, F, by simp only [nfC] at hn ⊢; omega, rfl, rfl, ?_⟩
        exact ⟨h9.bl, h9.sz, h9.bx, h9.d0, h9.d1, h9.d2, h9.d3, h9.d4, h9.d5, h9.d6, fun e => ⟨rfl, (h9.d7 e).2⟩, fun _ => rfl, h9.f15, h9.o1, h9.o3, h9.o4, h9.o5, h9.o6, h9.o7, fun _ => hdp⟩
  case after =>
    rintro e a x ⟨rfl, t3, t8, t9, t10, t11, t12, t13, t14, t15, rr, lo, hi, gb, F, rfl, rfl, hbl, hbx, how, hgb, hF, hcp, hl⟩
    have hFl := hF.lt
    have hs0 := Hs0.out
    have hpart : FeedPart x w.heap.size x.heap.size lo hi F gb rr (fun _ => 0) t 0 :=
      ⟨how, hF, ⟨_, hgb, by simp, fun c hc => absurd hc (by omega)⟩, fun c hc => absurd hc (by omega), fun c hc => absurd hc (by omega), fun c d hc => absurd hc (by omega), by omega, by omega, by omega, by omega, hFl, by omega, by omega, Nat.le_refl _⟩
    obtain ⟨ca0, ca1, ca2, ca3⟩ := hbx.cellsT
    have Hbl := Lib.hid hbl
    have Hp0 := Lib.hid hpart
    have Hcp := Lib.hid hcp
    have Hbx := Lib.hid hbx
    have hgb1 : w.heap.size < gb := by omega
    have hop4 : t.op.length ≤ 4 := by rw [Hok.out.open_]; exact Hok.out.many1
    have hxl := hbx.lt
    clear hbl how hgb hF hl hpart hbx hcp hs0 Hmk
    go_wp2_with fail
    go_loopw [19] (fun i wr => ∃ k : Nat, k ≤ t.op.length ∧ i = .int .i64 k ∧ Hid (Below x.heap.size x wr ∨ True) ∧ Hid (Below w.heap.size w wr) ∧ Hid (Bk wr w.heap.size 27 [.slice r.a1 t.it.length r.c1, .int .i64 t.fd, .slice r.a2 t.pl.length r.c2, .slice r.a3 t.op.length r.c3]) ∧ ∃ q : Nat → Nat, Hid (FeedPart wr w.heap.size x.heap.size lo hi F gb rr q t k)) (fun i _ => t.op.length - (intOf i).toNat)
    case atStart => exact ⟨0, Nat.zero_le _, rfl, Lib.hid (.inr trivial), Hbl, Hbx, _, Hp0⟩
    case round =>
      obtain ⟨wo, rfl⟩ : ∃ W : World, W = wr := ⟨_, rfl⟩
      obtain ⟨k, hk, rfl, -, Hb, Hx, q, Hp⟩ := hrel
      by_cases hlt : k < t.op.length
      · obtain ⟨ad3, b, hA3, hb3, hcb⟩ := (HT.out.op.below Hb.out hB).at_ (k := k) hlt
        have Hb3 := Lib.hid hb3
        rw [hA3]
        rw [hA3] at Hx
        have HA3 := Lib.hid hA3
        clear hA3 hb3
        cases b
        · go_wp2_with fail
          go_roundw
          case rel => exact ⟨k + 1, by omega, by go_num, Lib.hid (.inr trivial), Hb, Hx, q, Lib.hid (Hp.out.closed Hb3.out)⟩
          case measure => simp [intOf]; omega
        · have hkp : k < t.pl.length := by rw [← Hok.out.open_]; exact hlt
          obtain ⟨cs, hcs, hcl, hcc⟩ := Hp.out.chs
          obtain ⟨v0, hv0⟩ := get_of_lt cs (k := k) (by omega)
          have cF4 : wo.cell? ⟨F, 4, none⟩ = some (.slice (some ⟨gb, 0, none⟩) t.pl.length t.pl.length) := Hp.out.box.cell 4
          have cgk : wo.cell? ⟨gb, k, none⟩ = some v0 := (hcs.cell k).trans hv0
          have fgk := hcs.free k
          have hFw := Hp.out.box.lt
          have hgw := hcs.lt
          have hmc := chan_run
          have Hcs := Lib.hid hcs
          have Hv0 := Lib.hid hv0
          have Hcl := Lib.hid hcl
          have hne : gb ≠ F := by have := Hp.out.lays; omega
          clear hcs hcl hcc hv0
          go_wp2_with fail
          go_region_held3 (fun w' => w'.cell? ⟨F, 4, none⟩ = some (.slice (some ⟨gb, 0, none⟩) t.pl.length t.pl.length))
            (go_keep)
            (fail)
          generalize hV : World.drew _ = V
          obtain ⟨Q, hQ⟩ : ∃ Q, Q = wo.heap.size := ⟨_, rfl⟩
          have hVe : V = ((wo.setCell ⟨gb, k, none⟩ (.chan (some Q))).alloc (.chan 12 #[] false 0 0 false)).drew := by rw [hQ]; exact hV.symm
          have hsz : (wo.setCell ⟨gb, k, none⟩ (.chan (some Q))).heap.size = Q := by rw [hQ]; simp [World.setCell]
          have hVz : V.heap.size = Q + 1 := by rw [hVe]; show (World.alloc _ _).heap.size = _; rw [World.size_alloc, hsz]
          have hVq : V.heap[Q]? = some (.chan 12 #[] false 0 0 false) := by
            rw [hVe]
            have := heap_alloc_new (wo.setCell ⟨gb, k, none⟩ (.chan (some Q))) (.chan 12 #[] false 0 0 false)
            rw [hsz] at this
            exact this
          have hVo : ∀ b, b < Q → b ≠ gb → V.heap[b]? = wo.heap[b]? := fun b h1 h2 => by
            rw [hVe]
            exact (Below.heap_alloc _ _ b (by rw [hsz]; exact h1)).trans (Below.heap_setCell wo ⟨gb, k, none⟩ _ b (by exact h2))
          have hVg : ∀ cs, Bk wo gb 87 cs → Bk V gb 87 (cs.set k (.chan (some Q))) := fun cs h => by
            rw [hVe]
            exact Bk.drewX ((h.set_ k _).alloc _)
          have HbV := Lib.hid (show Below w.heap.size w V by
            have h1 : Below w.heap.size w (wo.setCell ⟨gb, k, none⟩ (.chan (some Q))) := Hb.out.setCell (by show w.heap.size ≤ gb; omega) _
            have h2 := h1.alloc h1.size (.chan 12 #[] false 0 0 false)
            rw [hVe]
            exact h2.drew)
          have hxQ : w.heap.size < Q := by rw [hQ]; exact Hx.out.lt
          have hgQ : gb < Q := by rw [hQ]; exact hgw
          have hFQ : F < Q := by rw [hQ]; exact hFw
          have HxV := Lib.hid ((hVo _ hxQ (by omega)).trans Hx.out)
          obtain ⟨u, hu⟩ := get_of_lt t.pl hkp
          have hup := place_ok Hok.out hu
          obtain ⟨p, hp⟩ : ∃ p : Nat, u = p := ⟨u.toNat, by omega⟩
          subst hp
          obtain ⟨f, hf⟩ : ∃ f : Nat, t.fd = f := ⟨t.fd.toNat, by omega⟩
          have hfl : f ≤ t.it.length := by have := Hok.out.fed1; omega
          have hpf : p ≤ f := by omega
          have hl12 := Hok.out.len
          have cx0 : V.cell? ⟨w.heap.size, 0, none⟩ = some (.slice r.a1 t.it.length r.c1) := Bk.cell HxV.out 0
          have cx1 : V.cell? ⟨w.heap.size, 1, none⟩ = some (.int .i64 (f : Int)) := by rw [← hf]; exact Bk.cell HxV.out 1
          have cx2 : V.cell? ⟨w.heap.size, 2, none⟩ = some (.slice r.a2 t.pl.length r.c2) := Bk.cell HxV.out 2
          obtain ⟨adp, u', hA2, hu', hcp⟩ := (HT.out.pl.below HbV.out hB).at_ (k := k) hkp
          obtain rfl : u' = (p : Int) := Option.some.inj (hu'.symm.trans hu)
          rw [hA2] at cx2
          obtain ⟨A', c', hsl, hrd⟩ := slice_run r.a1 t.it r.c1 p f hpf hfl Hcap0.out
          have Hrd := Lib.hid (hrd w B HT.out.it)
          have hfp12 : f - p ≤ 12 := by omega
          have hxV : w.heap.size < V.heap.size := by omega
          have hFV : F < V.heap.size := by omega
          have hgV : gb < V.heap.size := by omega
          have Hu := Lib.hid hu
          have Hf := Lib.hid hf
          have HA2 := Lib.hid hA2
          have HVq := Lib.hid hVq
          have HVo := Lib.hid hVo
          have HVg := Lib.hid hVg
          have HVz := Lib.hid hVz
          have HQ := Lib.hid hQ
          clear hV hVe hsz hVq hVo hVg hVz hQ hu hu' hA2 hrd hf
          go_wp2_with fail
          go_quiet (fail)
          all_goals go_wp2_with fail
          generalize hV2 : World.drewN V _ = V2
          have hV2h : V2.heap = V.heap := by rw [← hV2]; rfl
          have HbV2 := Lib.hid (show Below w.heap.size w V2 by rw [← hV2]; exact HbV.out.trans (Same.below ⟨_, rfl⟩ _))
          have HV2h := Lib.hid hV2h
          have hV2z : Q + 1 = V2.heap.size := by rw [hV2h, HVz.out]
          have hVF4 : V2.cell? ⟨F, 4, none⟩ = some (.slice (some ⟨gb, 0, none⟩) t.pl.length t.pl.length) := by
            have hbk : Bk V2 F 71 [.slice rr.a1 t.it.length rr.c1, .int .i64 t.fd, .slice rr.a2 t.pl.length rr.c2, .slice rr.a3 t.op.length rr.c3, .slice (some ⟨gb, 0, none⟩) t.pl.length t.pl.length] := by
              unfold Bk
              rw [hV2h]
              exact (HVo.out F hFQ (Ne.symm hne)).trans Hp.out.box
            exact hbk.cell 4
          have hVgk : V2.cell? ⟨gb, k, none⟩ = some (.chan (some Q)) := by
            have hbk : Bk V2 gb 87 (cs.set k (.chan (some Q))) := by
              unfold Bk
              rw [hV2h]
              exact HVg.out cs Hcs.out
            refine (hbk.cell k).trans ?_
            rw [List.getElem?_set_self (by have := Hcl.out; omega)]
          have HF4 := Lib.hid hVF4
          have Hgk := Lib.hid hVgk
          have Htn : Hid (t.fd.toNat - (p : Int).toNat = f - p) := Lib.hid (by rw [Hf.out]; rfl)
          clear hV2 hV2h hVF4 hVgk cF4 cgk fgk cx0 cx1 cx2 hcp hsl hmc hcb
          go_loopw [44] (fun i wr => ∃ j : Nat, j ≤ f - p ∧ i = .int .i64 j ∧ Hid (Chg Q (Q + 1) V2 wr) ∧ ∃ s2 r2 : Nat, Hid (wr.heap[Q]? = some (.chan 12 (ints ((bsOf t k).take j)).toArray false s2 r2 false))) (fun i _ => (f - p) - (intOf i).toNat)
          case atStart => exact ⟨0, Nat.zero_le _, rfl, Lib.hid (Chg.refl _ _ _), 0, 0, Lib.hid (by rw [HV2h.out]; exact HVq.out)⟩
          case round =>
            obtain ⟨j, hj, rfl, Hc2, s2, r2, Hq2⟩ := hrel
            have hz2 := Hc2.out.size
            by_cases hjl : j < f - p
            · obtain ⟨x9, hx9, hbt⟩ := bsOf_take Hok.out Hu.out (j := j) (by rw [Htn.out]; exact hjl)
              have hbl2 : Below w.heap.size w wr := Hc2.out.below_ HbV2.out (by omega) (by omega)
              obtain ⟨ad, x8, hA', hx8, hcx⟩ := (Hrd.out.below hbl2 hB).at_ (k := j) (by rw [List.length_take, List.length_drop]; omega)
              have hx98 : x8 = x9 := by
                rw [List.getElem?_take_of_lt hjl, List.getElem?_drop] at hx8
                rw [Int.toNat_natCast] at hx9
                exact Option.some.inj (hx8.symm.trans hx9)
              subst hx98
              have cF4 : wr.cell? ⟨F, 4, none⟩ = some (.slice (some ⟨gb, 0, none⟩) t.pl.length t.pl.length) := (World.cell?_of_block (Hc2.out.block F (by omega) (.inl (by omega)))).trans HF4.out
              have cgk : wr.cell? ⟨gb, k, none⟩ = some (.chan (some Q)) := (World.cell?_of_block (Hc2.out.block gb (by omega) (.inl (by omega)))).trans Hgk.out
              have hF2 : F < wr.heap.size := by omega
              have hg2 : gb < wr.heap.size := by omega
              have hroom : (ints ((bsOf t k).take j)).toArray.size < 12 := by
                simp [ints]
                omega
              rw [hA']
              generalize hR : Code.region 10 _ false = R
              have Hbt := Lib.hid hbt
              have HA' := Lib.hid hA'
              have Hroom := Lib.hid hroom
              clear hx9 hx8 hA' hbt hroom hbl2
              go_wp2_with fail
              rw [← hR]
              refine wp_region_mid 8 (by decide) (by simp) ?_
              simp only [List.take_succ_cons, List.take_zero, List.drop_succ_cons, List.drop_zero]
              go_wp2_with fail
              refine OpGo.send (c := Q) (v := .int .i64 x8) rfl rfl (send_run rfl rfl rfl) Hq2.out Hroom.out ?_
              refine wpList_nil ?_
              simp only [Only, Act.put]
              go_wp2_with fail
              go_roundw
              case rel =>
                refine ⟨j + 1, by omega, by go_num, Lib.hid (Hc2.out.chan _ _ _ _ _ _ (Nat.le_refl _) (by omega)), s2 + 1, r2, Lib.hid ?_⟩
                rw [Hbt.out]
                have := heap_setChan wr Q 12 (ints ((bsOf t k).take j) ++ [Value.int .i64 x8]).toArray false (s2 + 1) r2 false (by omega)
                simpa [ints] using this
              case measure => simp [intOf]; omega
            · obtain rfl : j = f - p := by omega
              have hfull : (bsOf t k).take (f - p) = bsOf t k := List.take_of_length_le (by rw [bsOf_len Hok.out Hu.out, Htn.out]; exact Nat.le_refl _)
              rw [hfull] at Hq2
              have Hw2 : ∀ b, b < Q → wr.heap[b]? = V.heap[b]? := fun b hb => (Hc2.out.block b (by omega) (.inl hb)).trans (by rw [HV2h.out])
              have HW2 := Lib.hid Hw2
              have Hfull := Lib.hid hfull
              clear Hw2 hfull
              go_wp2_with fail
              go_roundw
              case rel =>
                have hQ := HQ.out
                refine ⟨k + 1, by omega, by go_num, Lib.hid (.inr trivial), Lib.hid (Hc2.out.below_ HbV2.out (by omega) (by omega)), Lib.hid ((HW2.out _ hxQ).trans HxV.out), (fun c => if c = k then wo.heap.size else q c), Lib.hid (Hp.out.open_ hkp (by omega) (fun cs9 h9 => ?_) (fun b hb hbg => (HW2.out b (by omega)).trans (HVo.out b (by omega) hbg)) ⟨s2, r2, by rw [← hQ]; exact Hq2.out⟩)⟩
                have := HVg.out cs9 h9
                rw [hQ] at this
                exact (HW2.out gb (by omega)).trans this
              case measure => simp [intOf]; omega
      · obtain rfl : k = t.op.length := by omega
        go_wp2_with fail
        go_ret
        exact ⟨⟨w.heap.size, wo.heap.size, lo, hi, F, gb, t.pl.length, rr, q⟩, rfl, rfl, rfl, Hp.out.done rfl Hok.out.open_, Hcp.out, Hb.out⟩

end Go.Proofs.Ytjkieedomljelaa
