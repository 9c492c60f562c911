/- A tee copied by the program: a region of three copies and three stores, in any order that Go leaves. -/
import Derived.Test.YtjkieedomljelaaTeeH
import Derived.Test.YtjkieedomljelaaAnl
import Derived.Deep.DeepMust
namespace Go.Proofs.Ytjkieedomljelaa
open Go.RowKit Go.Deep

/-- Between two operations of the region that copies a tee. -/
structure CI (r : Tr) (t : Te) (s0 z0 : Nat) (w : World) (b0 b1 b2 b3 b4 b5 b6 b7 b8 b9 b10 b11 b12 b13 b14 : Bool) (t3 t4 t5 t6 t7 t8 t9 t10 t11 t12 t13 t14 : Value) (R1 R2 R3 : Option Addr) (k1 k2 k3 h1 h2 h3 : Nat) (x : World) : Prop where
  bl : Below s0 w x
  sz : z0 ≤ x.heap.size
  bx : Bk x s0 27 [if b10 = true then .slice R1 t.it.length k1 else .slice r.a1 t.it.length r.c1, .int .i64 t.fd, if b12 = true then .slice R2 t.pl.length k2 else .slice r.a2 t.pl.length r.c2, if b14 = true then .slice R3 t.op.length k3 else .slice r.a3 t.op.length r.c3]
  br : Bk x (s0 + 1) 27 [.slice none 0 0, .int .i64 0, .slice none 0 0, .slice none 0 0]
  d0 : b0 = true → t3 = .pointer (some ⟨s0, 0, none⟩)
  d1 : b1 = true → t4 = .slice r.a1 t.it.length r.c1
  d2 : b2 = true → t5 = .slice R1 t.it.length k1 ∧ OwnI x z0 h1 R1 t.it ∧ z0 ≤ h1 ∧ h1 ≤ x.heap.size
  d3 : b3 = true → t6 = .pointer (some ⟨s0, 2, none⟩)
  d4 : b4 = true → t7 = .slice r.a2 t.pl.length r.c2
  d5 : b5 = true → t8 = .slice R2 t.pl.length k2 ∧ OwnI x h1 h2 R2 t.pl ∧ h1 ≤ h2 ∧ h2 ≤ x.heap.size
  d6 : b6 = true → t9 = .pointer (some ⟨s0, 3, none⟩)
  d7 : b7 = true → t10 = .slice r.a3 t.op.length r.c3
  d8 : b8 = true → t11 = .slice R3 t.op.length k3 ∧ OwnB x h2 h3 R3 t.op ∧ h2 ≤ h3 ∧ h3 ≤ x.heap.size
  d9 : b9 = true → t12 = .pointer (some ⟨s0, 0, none⟩)
  d11 : b11 = true → t13 = .pointer (some ⟨s0, 2, none⟩)
  d13 : b13 = true → t14 = .pointer (some ⟨s0, 3, none⟩)
  o2 : b2 = true → b1 = true
  o5 : b5 = true → b4 = true ∧ b2 = true
  o8 : b8 = true → b7 = true ∧ b5 = true
  o10 : b10 = true → b2 = true ∧ b8 = true
  o12 : b12 = true → b5 = true ∧ b10 = true
  o14 : b14 = true → b8 = true ∧ b12 = true
  q2 : b2 = true → t.it.length ≤ k1
section
variable {r : Tr} {t : Te} {s0 z0 : Nat} {w : World} {b0 b1 b2 b3 b4 b5 b6 b7 b8 b9 b10 b11 b12 b13 b14 : Bool} {t3 t4 t5 t6 t7 t8 t9 t10 t11 t12 t13 t14 : Value} {R1 R2 R3 : Option Addr} {k1 k2 k3 h1 h2 h3 : Nat} {x y : World}
theorem OwnI.next_ {lo hi : Nat} {A : Option Addr} {l : List Int} (h : OwnI x lo hi A l) (hb : Below x.heap.size x y) (hz : hi ≤ x.heap.size) : OwnI y lo hi A l := h.agree fun b _ h2 => hb.block b (by omega)
theorem OwnB.next_ {lo hi : Nat} {A : Option Addr} {l : List Bool} (h : OwnB x lo hi A l) (hb : Below x.heap.size x y) (hz : hi ≤ x.heap.size) : OwnB y lo hi A l := h.agree fun b _ h2 => hb.block b (by omega)
theorem CI.next (h : CI r t s0 z0 w b0 b1 b2 b3 b4 b5 b6 b7 b8 b9 b10 b11 b12 b13 b14 t3 t4 t5 t6 t7 t8 t9 t10 t11 t12 t13 t14 R1 R2 R3 k1 k2 k3 h1 h2 h3 x) (hb : Below x.heap.size x y) (hs : s0 ≤ x.heap.size) : CI r t s0 z0 w b0 b1 b2 b3 b4 b5 b6 b7 b8 b9 b10 b11 b12 b13 b14 t3 t4 t5 t6 t7 t8 t9 t10 t11 t12 t13 t14 R1 R2 R3 k1 k2 k3 h1 h2 h3 y :=
  ⟨h.bl.trans (hb.mono hs), Nat.le_trans h.sz hb.size, h.bx.below hb h.bx.lt, h.br.below hb h.br.lt, h.d0, h.d1, fun e => ⟨(h.d2 e).1, (h.d2 e).2.1.next_ hb (h.d2 e).2.2.2, (h.d2 e).2.2.1, Nat.le_trans (h.d2 e).2.2.2 hb.size⟩, h.d3, h.d4,
    fun e => ⟨(h.d5 e).1, (h.d5 e).2.1.next_ hb (h.d5 e).2.2.2, (h.d5 e).2.2.1, Nat.le_trans (h.d5 e).2.2.2 hb.size⟩, h.d6, h.d7, fun e => ⟨(h.d8 e).1, (h.d8 e).2.1.next_ hb (h.d8 e).2.2.2, (h.d8 e).2.2.1, Nat.le_trans (h.d8 e).2.2.2 hb.size⟩, h.d9, h.d11, h.d13, h.o2, h.o5, h.o8, h.o10, h.o12, h.o14, h.q2⟩
end
def nfC : Bool → Nat
  | true => 0
  | false => 1

set_option maxRecDepth 100000 in
set_option maxHeartbeats 12800000 in
theorem implcopyTee_cap (r : Tr) (t : Te) (w : World) (B : Nat) (h : RdT w B r t) (hB : B ≤ w.heap.size) (n1 : t.it.length ≤ 1048576) (n2 : t.pl.length ≤ 1048576) (n3 : t.op.length ≤ 1048576) :
    Calls Try.prog 88 #[.agg #[.slice r.a1 t.it.length r.c1, .int .i64 t.fd, .slice r.a2 t.pl.length r.c2, .slice r.a3 t.op.length r.c3]] w fun e w' => ∃ r' : Tr, e = .returned (.agg #[.slice r'.a1 t.it.length r'.c1, .int .i64 t.fd, .slice r'.a2 t.pl.length r'.c2, .slice r'.a3 t.op.length r'.c3]) ∧ OwnT w' w.heap.size w'.heap.size r' t ∧ Below w.heap.size w w' ∧ t.it.length ≤ r'.c1 := by
  obtain ⟨W0, hW0⟩ : ∃ W : World, W = (w.alloc (.cells #[.slice r.a1 t.it.length r.c1, .int .i64 t.fd, .slice r.a2 t.pl.length r.c2, .slice r.a3 t.op.length r.c3] 27)).alloc (.cells #[.slice none 0 0, .int .i64 0, .slice none 0 0, .slice none 0 0] 27) := ⟨_, rfl⟩
  have hb0 : Below w.heap.size w W0 := by rw [hW0]; exact ((Below.refl _ _).alloc (Nat.le_refl _) _).alloc (by simp) _
  have ba : Bk W0 w.heap.size 27 [.slice r.a1 t.it.length r.c1, .int .i64 t.fd, .slice r.a2 t.pl.length r.c2, .slice r.a3 t.op.length r.c3] := by rw [hW0]; exact (Bk.new _ _ [.slice r.a1 t.it.length r.c1, .int .i64 t.fd, .slice r.a2 t.pl.length r.c2, .slice r.a3 t.op.length r.c3]).alloc _
  have bres : Bk W0 (w.heap.size + 1) 27 [.slice none 0 0, .int .i64 0, .slice none 0 0, .slice none 0 0] := by
    rw [hW0]
    have := Bk.new (w.alloc (.cells #[.slice r.a1 t.it.length r.c1, .int .i64 t.fd, .slice r.a2 t.pl.length r.c2, .slice r.a3 t.op.length r.c3] 27)) 27 [.slice none 0 0, .int .i64 0, .slice none 0 0, .slice none 0 0]
    simpa using this
  have hs0 : W0.heap.size = w.heap.size + 2 := by rw [hW0]; simp
  have HT := Lib.hid h
  have Hb0 := Lib.hid hb0
  have HW0 := Lib.hid hW0
  have Ba := Lib.hid ba
  have Br := Lib.hid bres
  have Hs0 := Lib.hid hs0
  clear h hb0 hW0 ba hs0 bres
  go_enter Try.func88, Try.ntmps88
  go_wp2_with fail
  rw [← HW0.out]
  refine Code.wp_mono (Q := fun e a x => e = .normal ∧ ∃ (t3 t4 t5 t6 t7 t8 t9 t10 t11 t12 t13 t14 : Value) (rr : Tr), a = ({ tmps := #[.agg #[.slice r.a1 t.it.length r.c1, .int .i64 t.fd, .slice r.a2 t.pl.length r.c2, .slice r.a3 t.op.length r.c3], .pointer (some ⟨w.heap.size, 0, none⟩), .pointer (some ⟨w.heap.size + 1, 0, none⟩), t3, t4, t5, t6, t7, t8, t9, t10, t11, t12, t13, t14, undef], defers := [] } : Act) ∧ Bk x w.heap.size 27 [.slice rr.a1 t.it.length rr.c1, .int .i64 t.fd, .slice rr.a2 t.pl.length rr.c2, .slice rr.a3 t.op.length rr.c3] ∧ Bk x (w.heap.size + 1) 27 [.slice none 0 0, .int .i64 0, .slice none 0 0, .slice none 0 0] ∧ Below w.heap.size w x ∧ W0.heap.size ≤ x.heap.size ∧ OwnT x W0.heap.size x.heap.size rr t ∧ t.it.length ≤ rr.c1) ?after ?region
  case region =>
    refine wp_region_any (by kernel_rfl) (wpAny_invL (I := (fun n listed a x => ∃ b0 b1 b2 b3 b4 b5 b6 b7 b8 b9 b10 b11 b12 b13 b14 t3 t4 t5 t6 t7 t8 t9 t10 t11 t12 t13 t14 R1 R2 R3 k1 k2 k3 h1 h2 h3, n = nfC b0 + nfC b1 + nfC b2 + nfC b3 + nfC b4 + nfC b5 + nfC b6 + nfC b7 + nfC b8 + nfC b9 + nfC b10 + nfC b11 + nfC b12 + nfC b13 + nfC b14 ∧ listed = #[b0, b1, b2, b3, b4, b5, b6, b7, b8, b9, b10, b11, b12, b13, b14] ∧ a = ({ tmps := #[.agg #[.slice r.a1 t.it.length r.c1, .int .i64 t.fd, .slice r.a2 t.pl.length r.c2, .slice r.a3 t.op.length r.c3], .pointer (some ⟨w.heap.size, 0, none⟩), .pointer (some ⟨w.heap.size + 1, 0, none⟩), t3, t4, t5, t6, t7, t8, t9, t10, t11, t12, t13, t14, undef], defers := [] } : Act) ∧ CI r t w.heap.size W0.heap.size w b0 b1 b2 b3 b4 b5 b6 b7 b8 b9 b10 b11 b12 b13 b14 t3 t4 t5 t6 t7 t8 t9 t10 t11 t12 t13 t14 R1 R2 R3 k1 k2 k3 h1 h2 h3 x)) ?h0 ?hd ?hs 15 _ _ _ ?start)
    case start => exact ⟨false, false, false, false, false, false, false, false, false, false, false, false, false, false, false, _, _, _, _, _, _, _, _, _, _, _, _, none, none, none, 0, 0, 0, 0, 0, 0, rfl, rfl, rfl, ⟨Hb0.out.drew, by exact Nat.le_refl _, Bk.drewN Ba.out 1, Bk.drewN Br.out 1, fun e => absurd e (by decide), fun e => absurd e (by decide), fun e => absurd e (by decide), fun e => absurd e (by decide), fun e => absurd e (by decide), fun e => absurd e (by decide), fun e => absurd e (by decide), fun e => absurd e (by decide), fun e => absurd e (by decide), fun e => absurd e (by decide), fun e => absurd e (by decide), fun e => absurd e (by decide), fun e => absurd e (by decide), fun e => absurd e (by decide), fun e => absurd e (by decide), fun e => absurd e (by decide), fun e => absurd e (by decide), fun e => absurd e (by decide), fun e => absurd e (by decide)⟩⟩
    case h0 =>
      rintro listed a x ⟨b0, b1, b2, b3, b4, b5, b6, b7, b8, b9, b10, b11, b12, b13, b14, t3, t4, t5, t6, t7, t8, t9, t10, t11, t12, t13, t14, R1, R2, R3, k1, k2, k3, h1, h2, h3, hn, rfl, rfl, h⟩
      obtain rfl : b0 = true := by
        cases b0 with
        | true => rfl
        | false => simp only [nfC] at hn; omega
      obtain rfl : b1 = true := by
        cases b1 with
        | true => rfl
        | false => simp only [nfC] at hn; omega
      obtain rfl : b2 = true := by
        cases b2 with
        | true => rfl
        | false => simp only [nfC] at hn; omega
      obtain rfl : b3 = true := by
        cases b3 with
        | true => rfl
        | false => simp only [nfC] at hn; omega
      obtain rfl : b4 = true := by
        cases b4 with
        | true => rfl
        | false => simp only [nfC] at hn; omega
      obtain rfl : b5 = true := by
        cases b5 with
        | true => rfl
        | false => simp only [nfC] at hn; omega
      obtain rfl : b6 = true := by
        cases b6 with
        | true => rfl
        | false => simp only [nfC] at hn; omega
      obtain rfl : b7 = true := by
        cases b7 with
        | true => rfl
        | false => simp only [nfC] at hn; omega
      obtain rfl : b8 = true := by
        cases b8 with
        | true => rfl
        | false => simp only [nfC] at hn; omega
      obtain rfl : b9 = true := by
        cases b9 with
        | true => rfl
        | false => simp only [nfC] at hn; omega
      obtain rfl : b10 = true := by
        cases b10 with
        | true => rfl
        | false => simp only [nfC] at hn; omega
      obtain rfl : b11 = true := by
        cases b11 with
        | true => rfl
        | false => simp only [nfC] at hn; omega
      obtain rfl : b12 = true := by
        cases b12 with
        | true => rfl
        | false => simp only [nfC] at hn; omega
      obtain rfl : b13 = true := by
        cases b13 with
        | true => rfl
        | false => simp only [nfC] at hn; omega
      obtain rfl : b14 = true := by
        cases b14 with
        | true => rfl
        | false => simp only [nfC] at hn; omega
      rfl
    case hd =>
      rintro n listed a x ⟨b0, b1, b2, b3, b4, b5, b6, b7, b8, b9, b10, b11, b12, b13, b14, t3, t4, t5, t6, t7, t8, t9, t10, t11, t12, t13, t14, R1, R2, R3, k1, k2, k3, h1, h2, h3, hn, rfl, rfl, h⟩ hr
      have hall := List.filter_eq_nil_iff.1 hr
      obtain rfl : b0 = true := by
        have q := hall 0 (List.mem_range.2 (by decide))
        simpa [Region.binds] using q
      obtain rfl : b1 = true := by
        have q := hall 1 (List.mem_range.2 (by decide))
        simpa [Region.binds] using q
      obtain rfl : b2 = true := by
        have q := hall 2 (List.mem_range.2 (by decide))
        simpa [Region.binds] using q
      obtain rfl : b3 = true := by
        have q := hall 3 (List.mem_range.2 (by decide))
        simpa [Region.binds] using q
      obtain rfl : b4 = true := by
        have q := hall 4 (List.mem_range.2 (by decide))
        simpa [Region.binds] using q
      obtain rfl : b5 = true := by
        have q := hall 5 (List.mem_range.2 (by decide))
        simpa [Region.binds] using q
      obtain rfl : b6 = true := by
        have q := hall 6 (List.mem_range.2 (by decide))
        simpa [Region.binds] using q
      obtain rfl : b7 = true := by
        have q := hall 7 (List.mem_range.2 (by decide))
        simpa [Region.binds] using q
      obtain rfl : b8 = true := by
        have q := hall 8 (List.mem_range.2 (by decide))
        simpa [Region.binds] using q
      obtain rfl : b9 = true := by
        have q := hall 9 (List.mem_range.2 (by decide))
        simpa [Region.binds] using q
      obtain rfl : b10 = true := by
        have q := hall 10 (List.mem_range.2 (by decide))
        simpa [Region.binds] using q
      obtain rfl : b11 = true := by
        have q := hall 11 (List.mem_range.2 (by decide))
        simpa [Region.binds] using q
      obtain rfl : b12 = true := by
        have q := hall 12 (List.mem_range.2 (by decide))
        simpa [Region.binds] using q
      obtain rfl : b13 = true := by
        have q := hall 13 (List.mem_range.2 (by decide))
        simpa [Region.binds] using q
      obtain rfl : b14 = true := by
        have q := hall 14 (List.mem_range.2 (by decide))
        simpa [Region.binds] using q
      obtain ⟨_, q1, q2, q3⟩ := h.d2 rfl
      obtain ⟨_, q4, q5, q6⟩ := h.d5 rfl
      obtain ⟨_, q7, q8, q9⟩ := h.d8 rfl
      exact ⟨rfl, _, _, _, _, _, _, _, _, _, _, _, _, ⟨R1, k1, R2, k2, R3, k3⟩, rfl, by simpa using h.bx, h.br, h.bl, h.sz, ⟨W0.heap.size, h1, h1, h2, h2, h3, ⟨Nat.le_refl _, q2, by omega⟩, ⟨by omega, q5, by omega⟩, ⟨by omega, q8, by omega⟩, by omega, by omega, by omega, q1, q4, q7⟩, h.q2 rfl⟩
    case hs =>
      rintro n listed a x ⟨b0, b1, b2, b3, b4, b5, b6, b7, b8, b9, b10, b11, b12, b13, b14, t3, t4, t5, t6, t7, t8, t9, t10, t11, t12, t13, t14, R1, R2, R3, k1, k2, k3, h1, h2, h3, hn, rfl, rfl, h⟩ i hi
      obtain ⟨hi1, hi2, hi3⟩ := ready_memL hi
      have hi4 : i < 15 := hi1
      have hs0 := Hs0.out
      clear hi hi1
      rcases (show i = 0 ∨ i = 1 ∨ i = 2 ∨ i = 3 ∨ i = 4 ∨ i = 5 ∨ i = 6 ∨ i = 7 ∨ i = 8 ∨ i = 9 ∨ i = 10 ∨ i = 11 ∨ i = 12 ∨ i = 13 ∨ i = 14 by omega) with rfl | rfl | rfl | rfl | rfl | rfl | rfl | rfl | rfl | rfl | rfl | rfl | rfl | rfl | rfl
      · -- operation 0
        obtain rfl : b0 = false := hi2
        have hsx : w.heap.size ≤ x.heap.size := by have := h.bx.lt; omega
        clear hi3 hi4
        refine wpOp_ofL (o := _) rfl rfl fun K' hK => ?_
        go_wp2_with fail
        have hbxy := Below.refl x.heap.size x
        refine ⟨true, b1, b2, b3, b4, b5, b6, b7, b8, b9, b10, b11, b12, b13, b14, _, _, _, _, _, _, _, _, _, _, _, _, R1, R2, R3, k1, k2, k3, h1, h2, h3, by simp only [nfC] at hn ⊢; omega, rfl, rfl, ?_⟩
        have h9 := h.next hbxy hsx
        exact ⟨h9.bl, h9.sz, h9.bx, h9.br, fun _ => rfl, h9.d1, h9.d2, h9.d3, h9.d4, h9.d5, h9.d6, h9.d7, h9.d8, h9.d9, h9.d11, h9.d13, h9.o2, h9.o5, h9.o8, h9.o10, h9.o12, h9.o14, h9.q2⟩
      · -- operation 1
        obtain rfl : b1 = false := hi2
        have hdp : b0 = true := by
          have h7 := hi3
          simp [Region.binds] at h7
          first | exact h7 | exact ⟨h7.1, h7.2⟩ | (simp [h7]; done)
        obtain rfl := h.d0 hdp
        have hb10 : b10 = false := by
          cases hbb : b10 with
          | false => rfl
          | true => exact absurd (h.o2 (h.o10 hbb).1) (by decide)
        have hc : x.cell? ⟨w.heap.size, 0, none⟩ = some (.slice r.a1 t.it.length r.c1) := by
          have := h.bx.cell 0
          simpa [hb10] using this
        have hsx : w.heap.size ≤ x.heap.size := by have := h.bx.lt; omega
        clear hi3 hi4
        refine wpOp_ofL (o := _) rfl rfl fun K' hK => ?_
        go_wp2_with fail
        have hbxy := Below.refl x.heap.size x
        refine ⟨b0, true, b2, b3, b4, b5, b6, b7, b8, b9, b10, b11, b12, b13, b14, _, _, _, _, _, _, _, _, _, _, _, _, R1, R2, R3, k1, k2, k3, h1, h2, h3, by simp only [nfC] at hn ⊢; omega, rfl, rfl, ?_⟩
        have h9 := h.next hbxy hsx
        exact ⟨h9.bl, h9.sz, h9.bx, h9.br, h9.d0, fun _ => rfl, h9.d2, h9.d3, h9.d4, h9.d5, h9.d6, h9.d7, h9.d8, h9.d9, h9.d11, h9.d13, fun _ => rfl, h9.o5, h9.o8, h9.o10, h9.o12, h9.o14, h9.q2⟩
      · -- operation 2
        obtain rfl : b2 = false := hi2
        have hdp : b1 = true := by
          have h7 := hi3
          simp [Region.binds] at h7
          first | exact h7 | exact ⟨h7.1, h7.2⟩ | (simp [h7]; done)
        obtain rfl := h.d1 hdp
        have hrd := HT.out.it.below h.bl hB
        have hzx := h.sz
        have hsx : w.heap.size ≤ x.heap.size := by have := h.bx.lt; omega
        clear hi3 hi4
        refine wpOp_ofL (o := _) rfl rfl fun K' hK => ?_
        go_wp2_with fail
        refine (cloneI_any r.a1 r.c1 t.it x B hrd (by omega) n1).mono ?_
        rintro e y ⟨R, cR, rfl, ho, hbxy⟩
        have hn5 : b5 = false := by
          cases hbb : b5 with
          | false => rfl
          | true => exact absurd (h.o5 hbb).2 (by decide)
        have hn10 : b10 = false := by
          cases hbb : b10 with
          | false => rfl
          | true => exact absurd (h.o10 hbb).1 (by decide)
        subst hn5 hn10
        refine hK _ _ ⟨b0, b1, true, b3, b4, false, b6, b7, b8, b9, false, b11, b12, b13, b14, _, _, _, _, _, _, _, _, _, _, _, _, R, R2, R3, cR, k2, k3, y.heap.size, h2, h3, by simp only [nfC] at hn ⊢; omega, rfl, rfl, ?_⟩
        have h9 := h.next hbxy hsx
        exact ⟨h9.bl, h9.sz, by simpa using h9.bx, h9.br, h9.d0, h9.d1, fun _ => ⟨rfl, ho.ownI.wide hzx (Nat.le_refl _), Nat.le_trans hzx hbxy.size, Nat.le_refl _⟩, h9.d3, h9.d4, fun e => absurd e (by decide), h9.d6, h9.d7, fun e => absurd ((h.o8 e).2) (by decide), h9.d9, h9.d11, h9.d13, fun _ => hdp, fun e => absurd e (by decide), h9.o8, fun e => absurd e (by decide), h9.o12, h9.o14, fun _ => ho.len_le⟩
      · -- operation 3
        obtain rfl : b3 = false := hi2
        have hsx : w.heap.size ≤ x.heap.size := by have := h.bx.lt; omega
        clear hi3 hi4
        refine wpOp_ofL (o := _) rfl rfl fun K' hK => ?_
        go_wp2_with fail
        have hbxy := Below.refl x.heap.size x
        refine ⟨b0, b1, b2, true, b4, b5, b6, b7, b8, b9, b10, b11, b12, b13, b14, _, _, _, _, _, _, _, _, _, _, _, _, R1, R2, R3, k1, k2, k3, h1, h2, h3, by simp only [nfC] at hn ⊢; omega, rfl, rfl, ?_⟩
        have h9 := h.next hbxy hsx
        exact ⟨h9.bl, h9.sz, h9.bx, h9.br, h9.d0, h9.d1, h9.d2, fun _ => rfl, h9.d4, h9.d5, h9.d6, h9.d7, h9.d8, h9.d9, h9.d11, h9.d13, h9.o2, h9.o5, h9.o8, h9.o10, h9.o12, h9.o14, h9.q2⟩
      · -- operation 4
        obtain rfl : b4 = false := hi2
        have hdp : b3 = true := by
          have h7 := hi3
          simp [Region.binds] at h7
          first | exact h7 | exact ⟨h7.1, h7.2⟩ | (simp [h7]; done)
        obtain rfl := h.d3 hdp
        have hb12 : b12 = false := by
          cases hbb : b12 with
          | false => rfl
          | true => exact absurd ((h.o5 (h.o12 hbb).1).1) (by decide)
        have hc : x.cell? ⟨w.heap.size, 2, none⟩ = some (.slice r.a2 t.pl.length r.c2) := by
          have := h.bx.cell 2
          simpa [hb12] using this
        have hsx : w.heap.size ≤ x.heap.size := by have := h.bx.lt; omega
        clear hi3 hi4
        refine wpOp_ofL (o := _) rfl rfl fun K' hK => ?_
        go_wp2_with fail
        have hbxy := Below.refl x.heap.size x
        refine ⟨b0, b1, b2, b3, true, b5, b6, b7, b8, b9, b10, b11, b12, b13, b14, _, _, _, _, _, _, _, _, _, _, _, _, R1, R2, R3, k1, k2, k3, h1, h2, h3, by simp only [nfC] at hn ⊢; omega, rfl, rfl, ?_⟩
        have h9 := h.next hbxy hsx
        exact ⟨h9.bl, h9.sz, h9.bx, h9.br, h9.d0, h9.d1, h9.d2, h9.d3, fun _ => rfl, h9.d5, h9.d6, h9.d7, h9.d8, h9.d9, h9.d11, h9.d13, h9.o2, fun e => ⟨rfl, (h9.o5 e).2⟩, h9.o8, h9.o10, h9.o12, h9.o14, h9.q2⟩
      · -- operation 5
        obtain rfl : b5 = false := hi2
        have hdp : b4 = true ∧ b2 = true := by
          have h7 := hi3
          simp [Region.binds] at h7
          first | exact h7 | exact ⟨h7.1, h7.2⟩ | (simp [h7]; done)
        obtain rfl := h.d4 hdp.1
        have hrd := HT.out.pl.below h.bl hB
        have hzx := h.sz
        have h22 := h.d2 hdp.2
        have hsx : w.heap.size ≤ x.heap.size := by have := h.bx.lt; omega
        clear hi3 hi4
        refine wpOp_ofL (o := _) rfl rfl fun K' hK => ?_
        go_wp2_with fail
        refine (cloneI_any r.a2 r.c2 t.pl x B hrd (by omega) n2).mono ?_
        rintro e y ⟨R, cR, rfl, ho, hbxy⟩
        have hn8 : b8 = false := by
          cases hbb : b8 with
          | false => rfl
          | true => exact absurd (h.o8 hbb).2 (by decide)
        have hn12 : b12 = false := by
          cases hbb : b12 with
          | false => rfl
          | true => exact absurd (h.o12 hbb).1 (by decide)
        subst hn8 hn12
        refine hK _ _ ⟨b0, b1, b2, b3, b4, true, b6, b7, false, b9, b10, b11, false, b13, b14, _, _, _, _, _, _, _, _, _, _, _, _, R1, R, R3, k1, cR, k3, h1, y.heap.size, h3, by simp only [nfC] at hn ⊢; omega, rfl, rfl, ?_⟩
        have h9 := h.next hbxy hsx
        exact ⟨h9.bl, h9.sz, by simpa using h9.bx, h9.br, h9.d0, h9.d1, fun e => ⟨by first | rfl | exact (h9.d2 e).1, (h9.d2 e).2⟩, h9.d3, h9.d4, fun _ => ⟨rfl, ho.ownI.wide h22.2.2.2 (Nat.le_refl _), Nat.le_trans h22.2.2.2 hbxy.size, Nat.le_refl _⟩, h9.d6, h9.d7, fun e => absurd e (by decide), h9.d9, h9.d11, h9.d13, h9.o2, fun _ => hdp, fun e => absurd e (by decide), h9.o10, fun e => absurd e (by decide), h9.o14, h9.q2⟩
      · -- operation 6
        obtain rfl : b6 = false := hi2
        have hsx : w.heap.size ≤ x.heap.size := by have := h.bx.lt; omega
        clear hi3 hi4
        refine wpOp_ofL (o := _) rfl rfl fun K' hK => ?_
        go_wp2_with fail
        have hbxy := Below.refl x.heap.size x
        refine ⟨b0, b1, b2, b3, b4, b5, true, b7, b8, b9, b10, b11, b12, b13, b14, _, _, _, _, _, _, _, _, _, _, _, _, R1, R2, R3, k1, k2, k3, h1, h2, h3, by simp only [nfC] at hn ⊢; omega, rfl, rfl, ?_⟩
        have h9 := h.next hbxy hsx
        exact ⟨h9.bl, h9.sz, h9.bx, h9.br, h9.d0, h9.d1, h9.d2, h9.d3, h9.d4, h9.d5, fun _ => rfl, h9.d7, h9.d8, h9.d9, h9.d11, h9.d13, h9.o2, h9.o5, h9.o8, h9.o10, h9.o12, h9.o14, h9.q2⟩
      · -- operation 7
        obtain rfl : b7 = false := hi2
        have hdp : b6 = true := by
          have h7 := hi3
          simp [Region.binds] at h7
          first | exact h7 | exact ⟨h7.1, h7.2⟩ | (simp [h7]; done)
        obtain rfl := h.d6 hdp
        have hb14 : b14 = false := by
          cases hbb : b14 with
          | false => rfl
          | true => exact absurd ((h.o8 (h.o14 hbb).1).1) (by decide)
        have hc : x.cell? ⟨w.heap.size, 3, none⟩ = some (.slice r.a3 t.op.length r.c3) := by
          have := h.bx.cell 3
          simpa [hb14] using this
        have hsx : w.heap.size ≤ x.heap.size := by have := h.bx.lt; omega
        clear hi3 hi4
        refine wpOp_ofL (o := _) rfl rfl fun K' hK => ?_
        go_wp2_with fail
        have hbxy := Below.refl x.heap.size x
        refine ⟨b0, b1, b2, b3, b4, b5, b6, true, b8, b9, b10, b11, b12, b13, b14, _, _, _, _, _, _, _, _, _, _, _, _, R1, R2, R3, k1, k2, k3, h1, h2, h3, by simp only [nfC] at hn ⊢; omega, rfl, rfl, ?_⟩
        have h9 := h.next hbxy hsx
        exact ⟨h9.bl, h9.sz, h9.bx, h9.br, h9.d0, h9.d1, h9.d2, h9.d3, h9.d4, h9.d5, h9.d6, fun _ => rfl, h9.d8, h9.d9, h9.d11, h9.d13, h9.o2, h9.o5, fun e => ⟨rfl, (h9.o8 e).2⟩, h9.o10, h9.o12, h9.o14, h9.q2⟩
      · -- operation 8
        obtain rfl : b8 = false := hi2
        have hdp : b7 = true ∧ b5 = true := by
          have h7 := hi3
          simp [Region.binds] at h7
          first | exact h7 | exact ⟨h7.1, h7.2⟩ | (simp [h7]; done)
        obtain rfl := h.d7 hdp.1
        have hrd := HT.out.op.below h.bl hB
        have hzx := h.sz
        have h55 := h.d5 hdp.2
        have hsx : w.heap.size ≤ x.heap.size := by have := h.bx.lt; omega
        clear hi3 hi4
        refine wpOp_ofL (o := _) rfl rfl fun K' hK => ?_
        go_wp2_with fail
        refine (cloneB_any r.a3 r.c3 t.op x B hrd (by omega) n3).mono ?_
        rintro e y ⟨R, cR, rfl, ho, hbxy⟩
        have hn10 : b10 = false := by
          cases hbb : b10 with
          | false => rfl
          | true => exact absurd (h.o10 hbb).2 (by decide)
        have hn14 : b14 = false := by
          cases hbb : b14 with
          | false => rfl
          | true => exact absurd (h.o14 hbb).1 (by decide)
        subst hn10 hn14
        refine hK _ _ ⟨b0, b1, b2, b3, b4, b5, b6, b7, true, b9, false, b11, b12, b13, false, _, _, _, _, _, _, _, _, _, _, _, _, R1, R2, R, k1, k2, cR, h1, h2, y.heap.size, by simp only [nfC] at hn ⊢; omega, rfl, rfl, ?_⟩
        have h9 := h.next hbxy hsx
        exact ⟨h9.bl, h9.sz, by simpa using h9.bx, h9.br, h9.d0, h9.d1, fun e => ⟨by first | rfl | exact (h9.d2 e).1, (h9.d2 e).2⟩, h9.d3, h9.d4, fun e => ⟨by first | rfl | exact (h9.d5 e).1, (h9.d5 e).2⟩, h9.d6, h9.d7, fun _ => ⟨rfl, ho.ownB.wide h55.2.2.2 (Nat.le_refl _), Nat.le_trans h55.2.2.2 hbxy.size, Nat.le_refl _⟩, h9.d9, h9.d11, h9.d13, h9.o2, h9.o5, fun _ => hdp, fun e => absurd e (by decide), fun e => absurd (h.o12 e).2 (by decide), fun e => absurd e (by decide), h9.q2⟩
      · -- operation 9
        obtain rfl : b9 = false := hi2
        have hsx : w.heap.size ≤ x.heap.size := by have := h.bx.lt; omega
        clear hi3 hi4
        refine wpOp_ofL (o := _) rfl rfl fun K' hK => ?_
        go_wp2_with fail
        have hbxy := Below.refl x.heap.size x
        refine ⟨b0, b1, b2, b3, b4, b5, b6, b7, b8, true, b10, b11, b12, b13, b14, _, _, _, _, _, _, _, _, _, _, _, _, R1, R2, R3, k1, k2, k3, h1, h2, h3, by simp only [nfC] at hn ⊢; omega, rfl, rfl, ?_⟩
        have h9 := h.next hbxy hsx
        exact ⟨h9.bl, h9.sz, h9.bx, h9.br, h9.d0, h9.d1, h9.d2, h9.d3, h9.d4, h9.d5, h9.d6, h9.d7, h9.d8, fun _ => rfl, h9.d11, h9.d13, h9.o2, h9.o5, h9.o8, h9.o10, h9.o12, h9.o14, h9.q2⟩
      · -- operation 10
        obtain rfl : b10 = false := hi2
        have hdp : b9 = true ∧ b2 = true ∧ b8 = true := by
          have h7 := hi3
          simp [Region.binds] at h7
          first | exact h7 | exact ⟨h7.1, h7.2⟩ | (simp [h7]; done)
        obtain rfl := h.d9 hdp.1
        obtain ⟨rfl, h21, h22, h23⟩ := h.d2 hdp.2.1
        have hfz := h.bx.free 0
        obtain ⟨u, hu⟩ : ∃ u, x.cell? ⟨w.heap.size, 0, none⟩ = some u := ⟨_, h.bx.cell 0⟩
        have hzx := h.sz
        have hsx : w.heap.size ≤ x.heap.size := by have := h.bx.lt; omega
        clear hi3 hi4
        refine wpOp_ofL (o := _) rfl rfl fun K' hK => ?_
        go_wp2_with fail
        have hbk := h.bx.set_ 0 (.slice R1 t.it.length k1)
        have far : ∀ (lo hi : Nat) (A : Option Addr) (l : List Int), w.heap.size < lo → OwnI x lo hi A l → OwnI (x.setCell ⟨w.heap.size, 0, none⟩ (.slice R1 t.it.length k1)) lo hi A l := fun lo hi A l h1 h2 => h2.agree fun b hb _ => Below.heap_setCell x _ _ b (by show b ≠ w.heap.size; omega)
        have farB : ∀ (lo hi : Nat) (A : Option Addr) (l : List Bool), w.heap.size < lo → OwnB x lo hi A l → OwnB (x.setCell ⟨w.heap.size, 0, none⟩ (.slice R1 t.it.length k1)) lo hi A l := fun lo hi A l h1 h2 => h2.agree fun b hb _ => Below.heap_setCell x _ _ b (by show b ≠ w.heap.size; omega)
        have hszx : (x.setCell ⟨w.heap.size, 0, none⟩ (.slice R1 t.it.length k1)).heap.size = x.heap.size := by simp [World.setCell]
        refine ⟨b0, b1, b2, b3, b4, b5, b6, b7, b8, b9, true, b11, b12, b13, b14, _, _, _, _, _, _, _, _, _, _, _, _, R1, R2, R3, k1, k2, k3, h1, h2, h3, by simp only [nfC] at hn ⊢; omega, rfl, rfl, ?_⟩
        exact ⟨h.bl.setCell (Nat.le_refl _) _, by rw [hszx]; exact hzx, by simpa [List.set] using hbk, h.br.far (by show w.heap.size + 1 ≠ w.heap.size; omega) _, h.d0, h.d1, fun e => ⟨(h.d2 e).1, far _ _ _ _ (by omega) (h.d2 e).2.1, (h.d2 e).2.2.1, by rw [hszx]; exact (h.d2 e).2.2.2⟩, h.d3, h.d4, fun e => ⟨(h.d5 e).1, far _ _ _ _ (by have := (h.d2 (h.o5 e).2).2.2.1; omega) (h.d5 e).2.1, (h.d5 e).2.2.1, by rw [hszx]; exact (h.d5 e).2.2.2⟩, h.d6, h.d7, fun e => ⟨(h.d8 e).1, farB _ _ _ _ (by have := (h.d2 (h.o5 (h.o8 e).2).2).2.2.1; have := (h.d5 (h.o8 e).2).2.2.1; omega) (h.d8 e).2.1, (h.d8 e).2.2.1, by rw [hszx]; exact (h.d8 e).2.2.2⟩, h.d9, h.d11, h.d13, h.o2, h.o5, h.o8, fun _ => hdp.2, fun e => ⟨(h.o12 e).1, rfl⟩, h.o14, h.q2⟩
      · -- operation 11
        obtain rfl : b11 = false := hi2
        have hsx : w.heap.size ≤ x.heap.size := by have := h.bx.lt; omega
        clear hi3 hi4
        refine wpOp_ofL (o := _) rfl rfl fun K' hK => ?_
        go_wp2_with fail
        have hbxy := Below.refl x.heap.size x
        refine ⟨b0, b1, b2, b3, b4, b5, b6, b7, b8, b9, b10, true, b12, b13, b14, _, _, _, _, _, _, _, _, _, _, _, _, R1, R2, R3, k1, k2, k3, h1, h2, h3, by simp only [nfC] at hn ⊢; omega, rfl, rfl, ?_⟩
        have h9 := h.next hbxy hsx
        exact ⟨h9.bl, h9.sz, h9.bx, h9.br, h9.d0, h9.d1, h9.d2, h9.d3, h9.d4, h9.d5, h9.d6, h9.d7, h9.d8, h9.d9, fun _ => rfl, h9.d13, h9.o2, h9.o5, h9.o8, h9.o10, h9.o12, h9.o14, h9.q2⟩
      · -- operation 12
        obtain rfl : b12 = false := hi2
        have hdp : b11 = true ∧ b5 = true ∧ b10 = true := by
          have h7 := hi3
          simp [Region.binds] at h7
          first | exact h7 | exact ⟨h7.1, h7.2⟩ | (simp [h7]; done)
        obtain rfl := h.d11 hdp.1
        obtain ⟨rfl, h21, h22, h23⟩ := h.d5 hdp.2.1
        have hfz := h.bx.free 2
        obtain ⟨u, hu⟩ : ∃ u, x.cell? ⟨w.heap.size, 2, none⟩ = some u := ⟨_, h.bx.cell 2⟩
        have hzx := h.sz
        have hsx : w.heap.size ≤ x.heap.size := by have := h.bx.lt; omega
        clear hi3 hi4
        refine wpOp_ofL (o := _) rfl rfl fun K' hK => ?_
        go_wp2_with fail
        have hbk := h.bx.set_ 2 (.slice R2 t.pl.length k2)
        have far : ∀ (lo hi : Nat) (A : Option Addr) (l : List Int), w.heap.size < lo → OwnI x lo hi A l → OwnI (x.setCell ⟨w.heap.size, 2, none⟩ (.slice R2 t.pl.length k2)) lo hi A l := fun lo hi A l h1 h2 => h2.agree fun b hb _ => Below.heap_setCell x _ _ b (by show b ≠ w.heap.size; omega)
        have farB : ∀ (lo hi : Nat) (A : Option Addr) (l : List Bool), w.heap.size < lo → OwnB x lo hi A l → OwnB (x.setCell ⟨w.heap.size, 2, none⟩ (.slice R2 t.pl.length k2)) lo hi A l := fun lo hi A l h1 h2 => h2.agree fun b hb _ => Below.heap_setCell x _ _ b (by show b ≠ w.heap.size; omega)
        have hszx : (x.setCell ⟨w.heap.size, 2, none⟩ (.slice R2 t.pl.length k2)).heap.size = x.heap.size := by simp [World.setCell]
        refine ⟨b0, b1, b2, b3, b4, b5, b6, b7, b8, b9, b10, b11, true, b13, b14, _, _, _, _, _, _, _, _, _, _, _, _, R1, R2, R3, k1, k2, k3, h1, h2, h3, by simp only [nfC] at hn ⊢; omega, rfl, rfl, ?_⟩
        exact ⟨h.bl.setCell (Nat.le_refl _) _, by rw [hszx]; exact hzx, by simpa [List.set] using hbk, h.br.far (by show w.heap.size + 1 ≠ w.heap.size; omega) _, h.d0, h.d1, fun e => ⟨(h.d2 e).1, far _ _ _ _ (by omega) (h.d2 e).2.1, (h.d2 e).2.2.1, by rw [hszx]; exact (h.d2 e).2.2.2⟩, h.d3, h.d4, fun e => ⟨(h.d5 e).1, far _ _ _ _ (by have := (h.d2 (h.o5 e).2).2.2.1; omega) (h.d5 e).2.1, (h.d5 e).2.2.1, by rw [hszx]; exact (h.d5 e).2.2.2⟩, h.d6, h.d7, fun e => ⟨(h.d8 e).1, farB _ _ _ _ (by have := (h.d2 (h.o5 (h.o8 e).2).2).2.2.1; have := (h.d5 (h.o8 e).2).2.2.1; omega) (h.d8 e).2.1, (h.d8 e).2.2.1, by rw [hszx]; exact (h.d8 e).2.2.2⟩, h.d9, h.d11, h.d13, h.o2, h.o5, h.o8, h.o10, fun _ => hdp.2, fun e => ⟨(h.o14 e).1, rfl⟩, h.q2⟩
      · -- operation 13
        obtain rfl : b13 = false := hi2
        have hsx : w.heap.size ≤ x.heap.size := by have := h.bx.lt; omega
        clear hi3 hi4
        refine wpOp_ofL (o := _) rfl rfl fun K' hK => ?_
        go_wp2_with fail
        have hbxy := Below.refl x.heap.size x
        refine ⟨b0, b1, b2, b3, b4, b5, b6, b7, b8, b9, b10, b11, b12, true, b14, _, _, _, _, _, _, _, _, _, _, _, _, R1, R2, R3, k1, k2, k3, h1, h2, h3, by simp only [nfC] at hn ⊢; omega, rfl, rfl, ?_⟩
        have h9 := h.next hbxy hsx
        exact ⟨h9.bl, h9.sz, h9.bx, h9.br, h9.d0, h9.d1, h9.d2, h9.d3, h9.d4, h9.d5, h9.d6, h9.d7, h9.d8, h9.d9, h9.d11, fun _ => rfl, h9.o2, h9.o5, h9.o8, h9.o10, h9.o12, h9.o14, h9.q2⟩
      · -- operation 14
        obtain rfl : b14 = false := hi2
        have hdp : b13 = true ∧ b8 = true ∧ b12 = true := by
          have h7 := hi3
          simp [Region.binds] at h7
          first | exact h7 | exact ⟨h7.1, h7.2⟩ | (simp [h7]; done)
        obtain rfl := h.d13 hdp.1
        obtain ⟨rfl, h21, h22, h23⟩ := h.d8 hdp.2.1
        have hfz := h.bx.free 3
        obtain ⟨u, hu⟩ : ∃ u, x.cell? ⟨w.heap.size, 3, none⟩ = some u := ⟨_, h.bx.cell 3⟩
        have hzx := h.sz
        have hsx : w.heap.size ≤ x.heap.size := by have := h.bx.lt; omega
        clear hi3 hi4
        refine wpOp_ofL (o := _) rfl rfl fun K' hK => ?_
        go_wp2_with fail
        have hbk := h.bx.set_ 3 (.slice R3 t.op.length k3)
        have far : ∀ (lo hi : Nat) (A : Option Addr) (l : List Int), w.heap.size < lo → OwnI x lo hi A l → OwnI (x.setCell ⟨w.heap.size, 3, none⟩ (.slice R3 t.op.length k3)) lo hi A l := fun lo hi A l h1 h2 => h2.agree fun b hb _ => Below.heap_setCell x _ _ b (by show b ≠ w.heap.size; omega)
        have farB : ∀ (lo hi : Nat) (A : Option Addr) (l : List Bool), w.heap.size < lo → OwnB x lo hi A l → OwnB (x.setCell ⟨w.heap.size, 3, none⟩ (.slice R3 t.op.length k3)) lo hi A l := fun lo hi A l h1 h2 => h2.agree fun b hb _ => Below.heap_setCell x _ _ b (by show b ≠ w.heap.size; omega)
        have hszx : (x.setCell ⟨w.heap.size, 3, none⟩ (.slice R3 t.op.length k3)).heap.size = x.heap.size := by simp [World.setCell]
        refine ⟨b0, b1, b2, b3, b4, b5, b6, b7, b8, b9, b10, b11, b12, b13, true, _, _, _, _, _, _, _, _, _, _, _, _, R1, R2, R3, k1, k2, k3, h1, h2, h3, by simp only [nfC] at hn ⊢; omega, rfl, rfl, ?_⟩
        exact ⟨h.bl.setCell (Nat.le_refl _) _, by rw [hszx]; exact hzx, by simpa [List.set] using hbk, h.br.far (by show w.heap.size + 1 ≠ w.heap.size; omega) _, h.d0, h.d1, fun e => ⟨(h.d2 e).1, far _ _ _ _ (by omega) (h.d2 e).2.1, (h.d2 e).2.2.1, by rw [hszx]; exact (h.d2 e).2.2.2⟩, h.d3, h.d4, fun e => ⟨(h.d5 e).1, far _ _ _ _ (by have := (h.d2 (h.o5 e).2).2.2.1; omega) (h.d5 e).2.1, (h.d5 e).2.2.1, by rw [hszx]; exact (h.d5 e).2.2.2⟩, h.d6, h.d7, fun e => ⟨(h.d8 e).1, farB _ _ _ _ (by have := (h.d2 (h.o5 (h.o8 e).2).2).2.2.1; have := (h.d5 (h.o8 e).2).2.2.1; omega) (h.d8 e).2.1, (h.d8 e).2.2.1, by rw [hszx]; exact (h.d8 e).2.2.2⟩, h.d9, h.d11, h.d13, h.o2, h.o5, h.o8, h.o10, h.o12, fun _ => hdp.2, h.q2⟩
  case after =>
    rintro e a x ⟨rfl, t3, t4, t5, t6, t7, t8, t9, t10, t11, t12, t13, t14, rr, rfl, hbx, hbr, hbl, hsz, how, hcap⟩
    have Hcap := Lib.hid hcap
    have Hbx := Lib.hid hbx
    have Hbr := Lib.hid hbr
    have Hbl := Lib.hid hbl
    have Hsz := Lib.hid hsz
    have How := Lib.hid how
    obtain ⟨ca0, ca1, ca2, ca3⟩ := hbx.cellsT
    obtain ⟨cr0, cr1, cr2, cr3⟩ := hbr.cellsT
    obtain ⟨fr0, fr1, fr2, fr3⟩ := hbr.freeT
    clear hbx hbr hbl hsz how hcap
    go_wp2_with fail
    refine bodyPost_ret (v := .agg #[.slice rr.a1 t.it.length rr.c1, .int .i64 t.fd, .slice rr.a2 t.pl.length rr.c2, .slice rr.a3 t.op.length rr.c3]) (by simp [results, Try.results88, go_sem, cr0, cr1, cr2, cr3]) rfl ⟨rr, rfl, ?_, ?_, Hcap.out⟩
    · have hs0 := Hs0.out
      have hz : ((((x.setCell ⟨w.heap.size + 1, 0, none⟩ (.slice rr.a1 t.it.length rr.c1)).setCell ⟨w.heap.size + 1, 1, none⟩ (.int .i64 t.fd)).setCell ⟨w.heap.size + 1, 2, none⟩ (.slice rr.a2 t.pl.length rr.c2)).setCell ⟨w.heap.size + 1, 3, none⟩ (.slice rr.a3 t.op.length rr.c3)).heap.size = x.heap.size := by simp [World.setCell]
      rw [hz]
      refine (How.out.agree fun b hb _ => ?_).wide (by omega) (Nat.le_refl _)
      have far : ∀ (v : World) (j : Nat) (u : Value), (v.setCell ⟨w.heap.size + 1, j, none⟩ u).heap[b]? = v.heap[b]? := fun v j u => Below.heap_setCell v _ u b (by show b ≠ w.heap.size + 1; omega)
      rw [far, far, far, far]
    · exact (((Hbl.out.setCell (by show w.heap.size ≤ w.heap.size + 1; omega) _).setCell (by show w.heap.size ≤ w.heap.size + 1; omega) _).setCell (by show w.heap.size ≤ w.heap.size + 1; omega) _).setCell (by show w.heap.size ≤ w.heap.size + 1; omega) _

theorem implcopyTee_any (r : Tr) (t : Te) (w : World) (B : Nat) (h : RdT w B r t) (hB : B ≤ w.heap.size) (n1 : t.it.length ≤ 1048576) (n2 : t.pl.length ≤ 1048576) (n3 : t.op.length ≤ 1048576) :
    Calls Try.prog 88 #[.agg #[.slice r.a1 t.it.length r.c1, .int .i64 t.fd, .slice r.a2 t.pl.length r.c2, .slice r.a3 t.op.length r.c3]] w fun e w' => ∃ r' : Tr, e = .returned (.agg #[.slice r'.a1 t.it.length r'.c1, .int .i64 t.fd, .slice r'.a2 t.pl.length r'.c2, .slice r'.a3 t.op.length r'.c3]) ∧ OwnT w' w.heap.size w'.heap.size r' t ∧ Below w.heap.size w w' :=
  (implcopyTee_cap r t w B h hB n1 n2 n3).mono fun _ _ ⟨r', h1, h2, h3, _⟩ => ⟨r', h1, h2, h3⟩

end Go.Proofs.Ytjkieedomljelaa
