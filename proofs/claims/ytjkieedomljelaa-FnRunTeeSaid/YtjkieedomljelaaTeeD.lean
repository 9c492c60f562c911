/- A tee copied by the reference: a region of two copies, an append, a build and a store, in any order that Go leaves. -/
import Derived.Test.YtjkieedomljelaaTeeC
namespace Go.Proofs.Ytjkieedomljelaa
open Go.RowKit Go.Deep

theorem run_append_bools0 (w : World) (g : Nat) (A2 : Option Addr) (c2 : Nat) (b : List Bool) (B : Nat) (hb : RdB w B A2 b) (hn : b.length ≤ 1048576) (ty : TypeId) :
    ∃ A' c' w', (Builtin.append_ #[23, 23] ty #[.slice (some ⟨g, 0, none⟩) 0 0, .slice A2 b.length c2]).run Try.prog w = .ok (.slice A' b.length c') w' ∧ OwnB w' w.heap.size w'.heap.size A' b ∧ Below w.heap.size w w' := by
  obtain ⟨i, hi, hz0, hz1, hz2⟩ := info_parts Try.infoBool
  by_cases hb0 : 0 < b.length
  · obtain ⟨ad, rfl, hadB, hc⟩ := hb hb0
    have hsrc : Src Try.prog i.size 23 (.slice (some ad) b.length c2) b.length (bools b) w := Src.ofSlice w Try.underlying23 ad b.length c2 (bools b) (by rw [hz1]; simp [bools]) (fun j u hj => by
      rw [bools_get] at hj
      cases hx : b[j]? with
      | none => rw [hx] at hj; cases hj
      | some x => rw [hx] at hj; obtain rfl := Option.some.inj hj; exact hc j x hx) (fun u hu => by
      obtain ⟨x, _, rfl⟩ := List.mem_map.1 hu
      rfl)
    have hold : (Builtin.firstCells i.size 0 (.slice (some ⟨g, 0, none⟩) 0 0)).run Try.prog w.drew = .ok (bools []).toArray w.drew :=
      run_firstCells_some w.drew i.size 0 ⟨g, 0, none⟩ 0 0 (bools []) (by simp [bools]) (fun j u hj => by simp [bools] at hj)
    have hr := run_append_grow_src (P := Try.prog) w 23 23 ty 4 i _ Try.underlying23 hi hz0 (some ⟨g, 0, none⟩) 0 0 (bools []) hold _ b.length (bools b) hsrc (by omega) (by omega) (growslice_fits (by omega) (by rw [hz2]; omega))
    rw [Nat.zero_add] at hr
    refine ⟨_, _, _, hr, ?_, ⟨rfl, rfl, rfl, by simp, fun k hk => Below.heap_alloc w.drew _ k hk⟩⟩
    refine fun _ => ⟨w.heap.size, 0, ((bools [] ++ bools b).toArray ++ Builtin.zeroCells (Value.cells (.bool false)) (grownCap w b.length 0 4 - b.length)).toList, rfl, Nat.le_refl _, by simp, ?_, fun k x hx => ?_⟩
    · unfold Bk
      rw [Array.toArray_toList]
      exact heap_alloc_new w.drew _
    · have hk : k < b.length := (List.getElem?_eq_some_iff.1 hx).1
      rw [Nat.zero_add, Array.toList_append, List.getElem?_append_left (by simp [bools]; omega)]
      rw [show (bools [] ++ bools b).toArray.toList = bools b from by simp [bools], bools_get, hx]
      rfl
  · obtain rfl : b = [] := List.eq_nil_of_length_eq_zero (by omega)
    have hsrc : Src Try.prog i.size 23 (.slice A2 0 c2) 0 [] w := by
      cases A2 with
      | none => exact Src.ofNil w Try.underlying23 c2
      | some ad => exact Src.ofSlice w Try.underlying23 ad 0 c2 [] (by simp) (fun j u hj => by simp at hj) (fun u hu => by cases hu)
    exact ⟨_, _, w, run_append_nothing w 23 23 ty 4 i Try.underlying23 hi (some ⟨g, 0, none⟩) 0 0 (Nat.le_refl _) _ hsrc, fun h => absurd h (by simp), Below.refl _ _⟩
theorem oper_append_bools0 {o : Oper} {a : Act} {K : Act → World → Prop} {Q : Exit → Act → World → Prop} {w : World} (s y : Operand)
    (ho : o.op = .call { callee := .builtin .append, args := #[s, y], argTypes := #[23, 23] }) (g : Nat) (hs : a.eval s = .slice (some ⟨g, 0, none⟩) 0 0)
    (A2 : Option Addr) (c2 : Nat) (b : List Bool) (B : Nat) (hx : a.eval y = .slice A2 b.length c2) (hb : RdB w B A2 b) (hn : b.length ≤ 1048576)
    (h : ∀ (A' : Option Addr) (c' : Nat) (w' : World), OwnB w' w.heap.size w'.heap.size A' b → Below w.heap.size w w' → K (a.put o.dst (.slice A' b.length c')) w') : Oper.wp Try.prog o a w K Q := by
  obtain ⟨A', c', w', hr, h2, h3⟩ := run_append_bools0 w g A2 c2 b B hb hn o.type
  unfold Oper.wp execOp
  simp only [ho, resolve, invoke, builtin, Sem.run_bind, Sem.run_pure, Result.andThen_ok, List.map_toArray, List.map_cons, List.map_nil, hs, hx, hr]
  exact h A' c' w' h2 h3

/-- Between two operations of the region that copies a tee, by the reference. -/
structure CS (r : Tr) (t : Te) (s0 z0 : Nat) (w : World) (b0 b1 b2 b3 b4 b5 b6 b7 b8 b9 b10 b11 b12 b13 : Bool) (t3 t4 t5 t6 t7 t8 t9 t10 t11 t12 t13 t14 t15 : Value) (R1 R2 R3 : Option Addr) (k1 k2 k3 h1 h2 h3 g : Nat) (x : World) : Prop where
  bl : Below s0 w x
  sz : z0 ≤ x.heap.size
  bx : Bk x s0 27 [.slice r.a1 t.it.length r.c1, .int .i64 t.fd, .slice r.a2 t.pl.length r.c2, .slice r.a3 t.op.length r.c3]
  br : b13 = false → Bk x (s0 + 1) 27 [.slice none 0 0, .int .i64 0, .slice none 0 0, .slice none 0 0]
  bs : b13 = true → Bk x (s0 + 1) 27 [.slice R1 t.it.length k1, .int .i64 t.fd, .slice R2 t.pl.length k2, .slice R3 t.op.length k3]
  d0 : b0 = true → t3 = .pointer (some ⟨s0, 0, none⟩)
  d1 : b1 = true → t4 = .slice r.a1 t.it.length r.c1
  d2 : b2 = true → t5 = .slice R1 t.it.length k1 ∧ OwnI x z0 h1 R1 t.it ∧ z0 ≤ h1 ∧ h1 ≤ x.heap.size
  d3 : b3 = true → t6 = .pointer (some ⟨s0, 1, none⟩)
  d4 : b4 = true → t7 = .int .i64 t.fd
  d5 : b5 = true → t8 = .pointer (some ⟨s0, 2, none⟩)
  d6 : b6 = true → t9 = .slice r.a2 t.pl.length r.c2
  d7 : b7 = true → t10 = .slice R2 t.pl.length k2 ∧ OwnI x h1 h2 R2 t.pl ∧ h1 ≤ h2 ∧ h2 ≤ x.heap.size
  d8 : b8 = true → t11 = .slice (some ⟨g, 0, none⟩) 0 0
  d9 : b9 = true → t12 = .pointer (some ⟨s0, 3, none⟩)
  d10 : b10 = true → t13 = .slice r.a3 t.op.length r.c3
  d11 : b11 = true → t14 = .slice R3 t.op.length k3 ∧ OwnB x h2 h3 R3 t.op ∧ h2 ≤ h3 ∧ h3 ≤ x.heap.size
  d12 : b12 = true → t15 = .agg #[.slice R1 t.it.length k1, .int .i64 t.fd, .slice R2 t.pl.length k2, .slice R3 t.op.length k3]
  o2 : b2 = true → b1 = true
  o7 : b7 = true → b6 = true ∧ b2 = true
  o11 : b11 = true → b8 = true ∧ b10 = true ∧ b7 = true
  o12 : b12 = true → b2 = true ∧ b4 = true ∧ b7 = true ∧ b11 = true
  o13 : b13 = true → b12 = true ∧ b11 = true
section
variable {r : Tr} {t : Te} {s0 z0 : Nat} {w : World} {b0 b1 b2 b3 b4 b5 b6 b7 b8 b9 b10 b11 b12 b13 : Bool} {t3 t4 t5 t6 t7 t8 t9 t10 t11 t12 t13 t14 t15 : Value} {R1 R2 R3 : Option Addr} {k1 k2 k3 h1 h2 h3 g : Nat} {x y : World}
theorem CS.next (h : CS r t s0 z0 w b0 b1 b2 b3 b4 b5 b6 b7 b8 b9 b10 b11 b12 b13 t3 t4 t5 t6 t7 t8 t9 t10 t11 t12 t13 t14 t15 R1 R2 R3 k1 k2 k3 h1 h2 h3 g x) (hb : Below x.heap.size x y) (hs : s0 ≤ x.heap.size) : CS r t s0 z0 w b0 b1 b2 b3 b4 b5 b6 b7 b8 b9 b10 b11 b12 b13 t3 t4 t5 t6 t7 t8 t9 t10 t11 t12 t13 t14 t15 R1 R2 R3 k1 k2 k3 h1 h2 h3 g y :=
  ⟨h.bl.trans (hb.mono hs), Nat.le_trans h.sz hb.size, h.bx.below hb h.bx.lt, fun e => (h.br e).below hb (h.br e).lt, fun e => (h.bs e).below hb (h.bs e).lt, h.d0, h.d1, fun e => ⟨(h.d2 e).1, (h.d2 e).2.1.next_ hb (h.d2 e).2.2.2, (h.d2 e).2.2.1, Nat.le_trans (h.d2 e).2.2.2 hb.size⟩, h.d3, h.d4, h.d5, h.d6, fun e => ⟨(h.d7 e).1, (h.d7 e).2.1.next_ hb (h.d7 e).2.2.2, (h.d7 e).2.2.1, Nat.le_trans (h.d7 e).2.2.2 hb.size⟩, h.d8, h.d9, h.d10, fun e => ⟨(h.d11 e).1, (h.d11 e).2.1.next_ hb (h.d11 e).2.2.2, (h.d11 e).2.2.1, Nat.le_trans (h.d11 e).2.2.2 hb.size⟩, h.d12, h.o2, h.o7, h.o11, h.o12, h.o13⟩
end

set_option maxRecDepth 100000 in
set_option maxHeartbeats 12800000 in
theorem speccopyTee_any (r : Tr) (t : Te) (w : World) (B : Nat) (h : RdT w B r t) (hB : B ≤ w.heap.size) (n1 : t.it.length ≤ 1048576) (n2 : t.pl.length ≤ 1048576) (n3 : t.op.length ≤ 1048576) :
    Calls Try.prog 62 #[.agg #[.slice r.a1 t.it.length r.c1, .int .i64 t.fd, .slice r.a2 t.pl.length r.c2, .slice r.a3 t.op.length r.c3]] w fun e w' => ∃ r' : Tr, e = .returned (.agg #[.slice r'.a1 t.it.length r'.c1, .int .i64 t.fd, .slice r'.a2 t.pl.length r'.c2, .slice r'.a3 t.op.length r'.c3]) ∧ OwnT w' w.heap.size w'.heap.size r' t ∧ Below w.heap.size w w' := by
  obtain ⟨W0, hW0⟩ : ∃ W : World, W = (w.alloc (.cells #[.slice r.a1 t.it.length r.c1, .int .i64 t.fd, .slice r.a2 t.pl.length r.c2, .slice r.a3 t.op.length r.c3] 27)).alloc (.cells #[.slice none 0 0, .int .i64 0, .slice none 0 0, .slice none 0 0] 27) := ⟨_, rfl⟩
  have hb0 : Below w.heap.size w W0 := by rw [hW0]; exact ((Below.refl _ _).alloc (Nat.le_refl _) _).alloc (by simp) _
  have ba : Bk W0 w.heap.size 27 [.slice r.a1 t.it.length r.c1, .int .i64 t.fd, .slice r.a2 t.pl.length r.c2, .slice r.a3 t.op.length r.c3] := by rw [hW0]; exact (Bk.new _ _ [.slice r.a1 t.it.length r.c1, .int .i64 t.fd, .slice r.a2 t.pl.length r.c2, .slice r.a3 t.op.length r.c3]).alloc _
  have bres : Bk W0 (w.heap.size + 1) 27 [.slice none 0 0, .int .i64 0, .slice none 0 0, .slice none 0 0] := by
    rw [hW0]
    have := Bk.new (w.alloc (.cells #[.slice r.a1 t.it.length r.c1, .int .i64 t.fd, .slice r.a2 t.pl.length r.c2, .slice r.a3 t.op.length r.c3] 27)) 27 [.slice none 0 0, .int .i64 0, .slice none 0 0, .slice none 0 0]
    simpa using this
  have hs0 : W0.heap.size = w.heap.size + 2 := by rw [hW0]; simp
  have HT := Lib.hid h
  have Hb0 := Lib.hid hb0
  have HW0 := Lib.hid hW0
  have Ba := Lib.hid ba
  have Br := Lib.hid bres
  have Hs0 := Lib.hid hs0
  clear h hb0 hW0 ba hs0 bres
  go_enter Try.func62, Try.ntmps62
  go_wp2_with fail
  rw [← HW0.out]
  refine Code.wp_mono (Q := fun e a x => e = .normal ∧ ∃ (t3 t4 t5 t6 t7 t8 t9 t10 t11 t12 t13 t14 t15 : Value) (rr : Tr), a = ({ tmps := #[.agg #[.slice r.a1 t.it.length r.c1, .int .i64 t.fd, .slice r.a2 t.pl.length r.c2, .slice r.a3 t.op.length r.c3], .pointer (some ⟨w.heap.size, 0, none⟩), .pointer (some ⟨w.heap.size + 1, 0, none⟩), t3, t4, t5, t6, t7, t8, t9, t10, t11, t12, t13, t14, t15], defers := [] } : Act) ∧ Bk x (w.heap.size + 1) 27 [.slice rr.a1 t.it.length rr.c1, .int .i64 t.fd, .slice rr.a2 t.pl.length rr.c2, .slice rr.a3 t.op.length rr.c3] ∧ Below w.heap.size w x ∧ W0.heap.size ≤ x.heap.size ∧ OwnT x W0.heap.size x.heap.size rr t) ?after ?region
  case region =>
    refine wp_region_any (by kernel_rfl) (wpAny_invL (I := (fun n listed a x => ∃ b0 b1 b2 b3 b4 b5 b6 b7 b8 b9 b10 b11 b12 b13 t3 t4 t5 t6 t7 t8 t9 t10 t11 t12 t13 t14 t15 R1 R2 R3 k1 k2 k3 h1 h2 h3 g, n = nfC b0 + nfC b1 + nfC b2 + nfC b3 + nfC b4 + nfC b5 + nfC b6 + nfC b7 + nfC b8 + nfC b9 + nfC b10 + nfC b11 + nfC b12 + nfC b13 ∧ listed = #[b0, b1, b2, b3, b4, b5, b6, b7, b8, b9, b10, b11, b12, b13] ∧ a = ({ tmps := #[.agg #[.slice r.a1 t.it.length r.c1, .int .i64 t.fd, .slice r.a2 t.pl.length r.c2, .slice r.a3 t.op.length r.c3], .pointer (some ⟨w.heap.size, 0, none⟩), .pointer (some ⟨w.heap.size + 1, 0, none⟩), t3, t4, t5, t6, t7, t8, t9, t10, t11, t12, t13, t14, t15], defers := [] } : Act) ∧ CS r t w.heap.size W0.heap.size w b0 b1 b2 b3 b4 b5 b6 b7 b8 b9 b10 b11 b12 b13 t3 t4 t5 t6 t7 t8 t9 t10 t11 t12 t13 t14 t15 R1 R2 R3 k1 k2 k3 h1 h2 h3 g x)) ?h0 ?hd ?hs 14 _ _ _ ?start)
    case start => exact ⟨false, false, false, false, false, false, false, false, false, false, false, false, false, false, _, _, _, _, _, _, _, _, _, _, _, _, _, none, none, none, 0, 0, 0, 0, 0, 0, 0, rfl, rfl, rfl, ⟨Hb0.out.drew, by exact Nat.le_refl _, Bk.drewN Ba.out 1, fun _ => Bk.drewN Br.out 1, fun e => absurd e (by decide), fun e => absurd e (by decide), fun e => absurd e (by decide), fun e => absurd e (by decide), fun e => absurd e (by decide), fun e => absurd e (by decide), fun e => absurd e (by decide), fun e => absurd e (by decide), fun e => absurd e (by decide), fun e => absurd e (by decide), fun e => absurd e (by decide), fun e => absurd e (by decide), fun e => absurd e (by decide), fun e => absurd e (by decide), fun e => absurd e (by decide), fun e => absurd e (by decide), fun e => absurd e (by decide), fun e => absurd e (by decide), fun e => absurd e (by decide)⟩⟩
    case h0 =>
      rintro listed a x ⟨b0, b1, b2, b3, b4, b5, b6, b7, b8, b9, b10, b11, b12, b13, t3, t4, t5, t6, t7, t8, t9, t10, t11, t12, t13, t14, t15, R1, R2, R3, k1, k2, k3, h1, h2, h3, g, hn, rfl, rfl, h⟩
      obtain rfl : b0 = true := by
        cases b0 with
        | true => rfl
        | false => simp only [nfC] at hn; omega
      obtain rfl : b1 = true := by
        cases b1 with
        | true => rfl
        | false => simp only [nfC] at hn; omega
      obtain rfl : b2 = true := by
        cases b2 with
        | true => rfl
        | false => simp only [nfC] at hn; omega
      obtain rfl : b3 = true := by
        cases b3 with
        | true => rfl
        | false => simp only [nfC] at hn; omega
      obtain rfl : b4 = true := by
        cases b4 with
        | true => rfl
        | false => simp only [nfC] at hn; omega
      obtain rfl : b5 = true := by
        cases b5 with
        | true => rfl
        | false => simp only [nfC] at hn; omega
      obtain rfl : b6 = true := by
        cases b6 with
        | true => rfl
        | false => simp only [nfC] at hn; omega
      obtain rfl : b7 = true := by
        cases b7 with
        | true => rfl
        | false => simp only [nfC] at hn; omega
      obtain rfl : b8 = true := by
        cases b8 with
        | true => rfl
        | false => simp only [nfC] at hn; omega
      obtain rfl : b9 = true := by
        cases b9 with
        | true => rfl
        | false => simp only [nfC] at hn; omega
      obtain rfl : b10 = true := by
        cases b10 with
        | true => rfl
        | false => simp only [nfC] at hn; omega
      obtain rfl : b11 = true := by
        cases b11 with
        | true => rfl
        | false => simp only [nfC] at hn; omega
      obtain rfl : b12 = true := by
        cases b12 with
        | true => rfl
        | false => simp only [nfC] at hn; omega
      obtain rfl : b13 = true := by
        cases b13 with
        | true => rfl
        | false => simp only [nfC] at hn; omega
      rfl
    case hd =>
      rintro n listed a x ⟨b0, b1, b2, b3, b4, b5, b6, b7, b8, b9, b10, b11, b12, b13, t3, t4, t5, t6, t7, t8, t9, t10, t11, t12, t13, t14, t15, R1, R2, R3, k1, k2, k3, h1, h2, h3, g, hn, rfl, rfl, h⟩ hr
      have hall := List.filter_eq_nil_iff.1 hr
      obtain rfl : b0 = true := by
        have q := hall 0 (List.mem_range.2 (by decide))
        simpa [Region.binds] using q
      obtain rfl : b1 = true := by
        have q := hall 1 (List.mem_range.2 (by decide))
        simpa [Region.binds] using q
      obtain rfl : b2 = true := by
        have q := hall 2 (List.mem_range.2 (by decide))
        simpa [Region.binds] using q
      obtain rfl : b3 = true := by
        have q := hall 3 (List.mem_range.2 (by decide))
        simpa [Region.binds] using q
      obtain rfl : b4 = true := by
        have q := hall 4 (List.mem_range.2 (by decide))
        simpa [Region.binds] using q
      obtain rfl : b5 = true := by
        have q := hall 5 (List.mem_range.2 (by decide))
        simpa [Region.binds] using q
      obtain rfl : b6 = true := by
        have q := hall 6 (List.mem_range.2 (by decide))
        simpa [Region.binds] using q
      obtain rfl : b7 = true := by
        have q := hall 7 (List.mem_range.2 (by decide))
        simpa [Region.binds] using q
      obtain rfl : b8 = true := by
        have q := hall 8 (List.mem_range.2 (by decide))
        simpa [Region.binds] using q
      obtain rfl : b9 = true := by
        have q := hall 9 (List.mem_range.2 (by decide))
        simpa [Region.binds] using q
      obtain rfl : b10 = true := by
        have q := hall 10 (List.mem_range.2 (by decide))
        simpa [Region.binds] using q
      obtain rfl : b11 = true := by
        have q := hall 11 (List.mem_range.2 (by decide))
        simpa [Region.binds] using q
      obtain rfl : b12 = true := by
        have q := hall 12 (List.mem_range.2 (by decide))
        simpa [Region.binds] using q
      obtain rfl : b13 = true := by
        have q := hall 13 (List.mem_range.2 (by decide))
        simpa [Region.binds] using q
      obtain ⟨_, q1, q2, q3⟩ := h.d2 rfl
      obtain ⟨_, q4, q5, q6⟩ := h.d7 rfl
      obtain ⟨_, q7, q8, q9⟩ := h.d11 rfl
      exact ⟨rfl, _, _, _, _, _, _, _, _, _, _, _, _, _, ⟨R1, k1, R2, k2, R3, k3⟩, rfl, h.bs rfl, h.bl, h.sz, ⟨W0.heap.size, h1, h1, h2, h2, h3, ⟨Nat.le_refl _, q2, by omega⟩, ⟨by omega, q5, by omega⟩, ⟨by omega, q8, by omega⟩, by omega, by omega, by omega, q1, q4, q7⟩⟩
    case hs =>
      rintro n listed a x ⟨b0, b1, b2, b3, b4, b5, b6, b7, b8, b9, b10, b11, b12, b13, t3, t4, t5, t6, t7, t8, t9, t10, t11, t12, t13, t14, t15, R1, R2, R3, k1, k2, k3, h1, h2, h3, g, hn, rfl, rfl, h⟩ i hi
      obtain ⟨hi1, hi2, hi3⟩ := ready_memL hi
      have hi4 : i < 14 := hi1
      have hs0 := Hs0.out
      clear hi hi1
      rcases (show i = 0 ∨ i = 1 ∨ i = 2 ∨ i = 3 ∨ i = 4 ∨ i = 5 ∨ i = 6 ∨ i = 7 ∨ i = 8 ∨ i = 9 ∨ i = 10 ∨ i = 11 ∨ i = 12 ∨ i = 13 by omega) with rfl | rfl | rfl | rfl | rfl | rfl | rfl | rfl | rfl | rfl | rfl | rfl | rfl | rfl
      · -- operation 0
        obtain rfl : b0 = false := hi2
        have hsx : w.heap.size ≤ x.heap.size := by have := h.bx.lt; omega
        clear hi3 hi4
        refine wpOp_ofL (o := _) rfl rfl fun K' hK => ?_
        go_wp2_with fail
        have hbxy := Below.refl x.heap.size x
        refine ⟨true, b1, b2, b3, b4, b5, b6, b7, b8, b9, b10, b11, b12, b13, _, _, _, _, _, _, _, _, _, _, _, _, _, R1, R2, R3, k1, k2, k3, h1, h2, h3, g, by simp only [nfC] at hn ⊢; omega, rfl, rfl, ?_⟩
        have h9 := h.next hbxy hsx
        exact ⟨h9.bl, h9.sz, h9.bx, h9.br, h9.bs, fun _ => rfl, h9.d1, h9.d2, h9.d3, h9.d4, h9.d5, h9.d6, h9.d7, h9.d8, h9.d9, h9.d10, h9.d11, h9.d12, h9.o2, h9.o7, h9.o11, h9.o12, h9.o13⟩
      · -- operation 1
        obtain rfl : b1 = false := hi2
        have hdp : b0 = true := by
          have h7 := hi3
          simp [Region.binds] at h7
          first | exact h7 | exact ⟨h7.1, h7.2⟩ | (simp [h7]; done)
        obtain rfl := h.d0 hdp
        have hc : x.cell? ⟨w.heap.size, 0, none⟩ = some (.slice r.a1 t.it.length r.c1) := h.bx.cell 0
        have hsx : w.heap.size ≤ x.heap.size := by have := h.bx.lt; omega
        clear hi3 hi4
        refine wpOp_ofL (o := _) rfl rfl fun K' hK => ?_
        go_wp2_with fail
        have hbxy := Below.refl x.heap.size x
        refine ⟨b0, true, b2, b3, b4, b5, b6, b7, b8, b9, b10, b11, b12, b13, _, _, _, _, _, _, _, _, _, _, _, _, _, R1, R2, R3, k1, k2, k3, h1, h2, h3, g, by simp only [nfC] at hn ⊢; omega, rfl, rfl, ?_⟩
        have h9 := h.next hbxy hsx
        exact ⟨h9.bl, h9.sz, h9.bx, h9.br, h9.bs, h9.d0, fun _ => rfl, h9.d2, h9.d3, h9.d4, h9.d5, h9.d6, h9.d7, h9.d8, h9.d9, h9.d10, h9.d11, h9.d12, fun _ => rfl, h9.o7, h9.o11, h9.o12, h9.o13⟩
      · -- operation 2
        obtain rfl : b2 = false := hi2
        have hdp : b1 = true := by
          have h7 := hi3
          simp [Region.binds] at h7
          first | exact h7 | exact ⟨h7.1, h7.2⟩ | (simp [h7]; done)
        obtain rfl := h.d1 hdp
        have hrd := HT.out.it.below h.bl hB
        have hzx := h.sz
        have hsx : w.heap.size ≤ x.heap.size := by have := h.bx.lt; omega
        clear hi3 hi4
        refine wpOp_ofL (o := _) rfl rfl fun K' hK => ?_
        go_wp2_with fail
        refine (specCopyIntsA r.a1 r.c1 t.it x B hrd (by omega) n1).mono ?_
        rintro e y ⟨R, cR, rfl, ho, hbxy⟩
        have hn7 : b7 = false := by
          cases hbb : b7 with
          | false => rfl
          | true => exact absurd ((h.o7 hbb).2) (by decide)
        have hn12 : b12 = false := by
          cases hbb : b12 with
          | false => rfl
          | true => exact absurd ((h.o12 hbb).1) (by decide)
        have hn11 : b11 = false := by
          cases hbb : b11 with
          | false => rfl
          | true => exact absurd ((h.o7 (h.o11 hbb).2.2).2) (by decide)
        have hn13 : b13 = false := by
          cases hbb : b13 with
          | false => rfl
          | true => exact absurd ((h.o12 (h.o13 hbb).1).1) (by decide)
        subst hn7 hn12 hn11 hn13
        refine hK _ _ ⟨b0, b1, true, b3, b4, b5, b6, false, b8, b9, b10, false, false, false, _, _, _, _, _, _, _, _, _, _, _, _, _, R, R2, R3, cR, k2, k3, y.heap.size, h2, h3, g, by simp only [nfC] at hn ⊢; omega, rfl, rfl, ?_⟩
        have h9 := h.next hbxy hsx
        exact ⟨h9.bl, h9.sz, h9.bx, h9.br, fun e => absurd e (by decide), h9.d0, h9.d1, fun _ => ⟨rfl, ho.ownI.wide hzx (Nat.le_refl _), Nat.le_trans hzx hbxy.size, Nat.le_refl _⟩, h9.d3, h9.d4, h9.d5, h9.d6, fun e => absurd e (by decide), h9.d8, h9.d9, h9.d10, fun e => absurd e (by decide), fun e => absurd e (by decide), fun _ => hdp, fun e => absurd e (by decide), fun e => absurd e (by decide), fun e => absurd e (by decide), fun e => absurd e (by decide)⟩
      · -- operation 3
        obtain rfl : b3 = false := hi2
        have hsx : w.heap.size ≤ x.heap.size := by have := h.bx.lt; omega
        clear hi3 hi4
        refine wpOp_ofL (o := _) rfl rfl fun K' hK => ?_
        go_wp2_with fail
        have hbxy := Below.refl x.heap.size x
        refine ⟨b0, b1, b2, true, b4, b5, b6, b7, b8, b9, b10, b11, b12, b13, _, _, _, _, _, _, _, _, _, _, _, _, _, R1, R2, R3, k1, k2, k3, h1, h2, h3, g, by simp only [nfC] at hn ⊢; omega, rfl, rfl, ?_⟩
        have h9 := h.next hbxy hsx
        exact ⟨h9.bl, h9.sz, h9.bx, h9.br, h9.bs, h9.d0, h9.d1, h9.d2, fun _ => rfl, h9.d4, h9.d5, h9.d6, h9.d7, h9.d8, h9.d9, h9.d10, h9.d11, h9.d12, h9.o2, h9.o7, h9.o11, h9.o12, h9.o13⟩
      · -- operation 4
        obtain rfl : b4 = false := hi2
        have hdp : b3 = true := by
          have h7 := hi3
          simp [Region.binds] at h7
          first | exact h7 | exact ⟨h7.1, h7.2⟩ | (simp [h7]; done)
        obtain rfl := h.d3 hdp
        have hc : x.cell? ⟨w.heap.size, 1, none⟩ = some (.int .i64 t.fd) := h.bx.cell 1
        have hsx : w.heap.size ≤ x.heap.size := by have := h.bx.lt; omega
        clear hi3 hi4
        refine wpOp_ofL (o := _) rfl rfl fun K' hK => ?_
        go_wp2_with fail
        have hbxy := Below.refl x.heap.size x
        refine ⟨b0, b1, b2, b3, true, b5, b6, b7, b8, b9, b10, b11, b12, b13, _, _, _, _, _, _, _, _, _, _, _, _, _, R1, R2, R3, k1, k2, k3, h1, h2, h3, g, by simp only [nfC] at hn ⊢; omega, rfl, rfl, ?_⟩
        have h9 := h.next hbxy hsx
        exact ⟨h9.bl, h9.sz, h9.bx, h9.br, h9.bs, h9.d0, h9.d1, h9.d2, h9.d3, fun _ => rfl, h9.d5, h9.d6, h9.d7, h9.d8, h9.d9, h9.d10, h9.d11, h9.d12, h9.o2, h9.o7, h9.o11, fun e => ⟨(h9.o12 e).1, rfl, (h9.o12 e).2.2⟩, h9.o13⟩
      · -- operation 5
        obtain rfl : b5 = false := hi2
        have hsx : w.heap.size ≤ x.heap.size := by have := h.bx.lt; omega
        clear hi3 hi4
        refine wpOp_ofL (o := _) rfl rfl fun K' hK => ?_
        go_wp2_with fail
        have hbxy := Below.refl x.heap.size x
        refine ⟨b0, b1, b2, b3, b4, true, b6, b7, b8, b9, b10, b11, b12, b13, _, _, _, _, _, _, _, _, _, _, _, _, _, R1, R2, R3, k1, k2, k3, h1, h2, h3, g, by simp only [nfC] at hn ⊢; omega, rfl, rfl, ?_⟩
        have h9 := h.next hbxy hsx
        exact ⟨h9.bl, h9.sz, h9.bx, h9.br, h9.bs, h9.d0, h9.d1, h9.d2, h9.d3, h9.d4, fun _ => rfl, h9.d6, h9.d7, h9.d8, h9.d9, h9.d10, h9.d11, h9.d12, h9.o2, h9.o7, h9.o11, h9.o12, h9.o13⟩
      · -- operation 6
        obtain rfl : b6 = false := hi2
        have hdp : b5 = true := by
          have h7 := hi3
          simp [Region.binds] at h7
          first | exact h7 | exact ⟨h7.1, h7.2⟩ | (simp [h7]; done)
        obtain rfl := h.d5 hdp
        have hc : x.cell? ⟨w.heap.size, 2, none⟩ = some (.slice r.a2 t.pl.length r.c2) := h.bx.cell 2
        have hsx : w.heap.size ≤ x.heap.size := by have := h.bx.lt; omega
        clear hi3 hi4
        refine wpOp_ofL (o := _) rfl rfl fun K' hK => ?_
        go_wp2_with fail
        have hbxy := Below.refl x.heap.size x
        refine ⟨b0, b1, b2, b3, b4, b5, true, b7, b8, b9, b10, b11, b12, b13, _, _, _, _, _, _, _, _, _, _, _, _, _, R1, R2, R3, k1, k2, k3, h1, h2, h3, g, by simp only [nfC] at hn ⊢; omega, rfl, rfl, ?_⟩
        have h9 := h.next hbxy hsx
        exact ⟨h9.bl, h9.sz, h9.bx, h9.br, h9.bs, h9.d0, h9.d1, h9.d2, h9.d3, h9.d4, h9.d5, fun _ => rfl, h9.d7, h9.d8, h9.d9, h9.d10, h9.d11, h9.d12, h9.o2, fun e => ⟨rfl, (h9.o7 e).2⟩, h9.o11, h9.o12, h9.o13⟩
      · -- operation 7
        obtain rfl : b7 = false := hi2
        have hdp : b6 = true ∧ b2 = true := by
          have h7 := hi3
          simp [Region.binds] at h7
          first | exact h7 | exact ⟨h7.1, h7.2⟩ | (simp [h7]; done)
        obtain rfl := h.d6 hdp.1
        have hrd := HT.out.pl.below h.bl hB
        have hzx := h.sz
        have h22 := h.d2 hdp.2
        have hsx : w.heap.size ≤ x.heap.size := by have := h.bx.lt; omega
        clear hi3 hi4
        refine wpOp_ofL (o := _) rfl rfl fun K' hK => ?_
        go_wp2_with fail
        refine (specCopyIntsA r.a2 r.c2 t.pl x B hrd (by omega) n2).mono ?_
        rintro e y ⟨R, cR, rfl, ho, hbxy⟩
        have hn11 : b11 = false := by
          cases hbb : b11 with
          | false => rfl
          | true => exact absurd ((h.o11 hbb).2.2) (by decide)
        have hn12 : b12 = false := by
          cases hbb : b12 with
          | false => rfl
          | true => exact absurd ((h.o12 hbb).2.2.1) (by decide)
        have hn13 : b13 = false := by
          cases hbb : b13 with
          | false => rfl
          | true => exact absurd ((h.o12 (h.o13 hbb).1).2.2.1) (by decide)
        subst hn11 hn12 hn13
        refine hK _ _ ⟨b0, b1, b2, b3, b4, b5, b6, true, b8, b9, b10, false, false, false, _, _, _, _, _, _, _, _, _, _, _, _, _, R1, R, R3, k1, cR, k3, h1, y.heap.size, h3, g, by simp only [nfC] at hn ⊢; omega, rfl, rfl, ?_⟩
        have h9 := h.next hbxy hsx
        exact ⟨h9.bl, h9.sz, h9.bx, h9.br, fun e => absurd e (by decide), h9.d0, h9.d1, fun e => ⟨by first | rfl | exact (h9.d2 e).1, (h9.d2 e).2⟩, h9.d3, h9.d4, h9.d5, h9.d6, fun _ => ⟨rfl, ho.ownI.wide h22.2.2.2 (Nat.le_refl _), Nat.le_trans h22.2.2.2 hbxy.size, Nat.le_refl _⟩, h9.d8, h9.d9, h9.d10, fun e => absurd e (by decide), fun e => absurd e (by decide), h9.o2, fun _ => hdp, fun e => absurd e (by decide), fun e => absurd e (by decide), fun e => absurd e (by decide)⟩
      · -- operation 8
        obtain rfl : b8 = false := hi2
        have hn11 : b11 = false := by
          cases hbb : b11 with
          | false => rfl
          | true => exact absurd ((h.o11 hbb).1) (by decide)
        have hn12 : b12 = false := by
          cases hbb : b12 with
          | false => rfl
          | true => exact absurd ((h.o11 (h.o12 hbb).2.2.2).1) (by decide)
        have hn13 : b13 = false := by
          cases hbb : b13 with
          | false => rfl
          | true => exact absurd ((h.o11 (h.o13 hbb).2).1) (by decide)
        subst hn11 hn12 hn13
        have hsx : w.heap.size ≤ x.heap.size := by have := h.bx.lt; omega
        clear hi3 hi4
        refine wpOp_ofL (o := _) rfl rfl fun K' hK => ?_
        go_wp2_with fail
        have hbxy : Below x.heap.size x (x.alloc (.cells #[] 4)) := (Below.refl _ _).alloc (Nat.le_refl _) _
        refine ⟨b0, b1, b2, b3, b4, b5, b6, b7, true, b9, b10, false, false, false, _, _, _, _, _, _, _, _, _, _, _, _, _, R1, R2, R3, k1, k2, k3, h1, h2, h3, x.heap.size, by simp only [nfC] at hn ⊢; omega, rfl, rfl, ?_⟩
        have h9 := h.next hbxy hsx
        exact ⟨h9.bl, h9.sz, h9.bx, h9.br, fun e => absurd e (by decide), h9.d0, h9.d1, h9.d2, h9.d3, h9.d4, h9.d5, h9.d6, h9.d7, fun _ => rfl, h9.d9, h9.d10, fun e => absurd e (by decide), fun e => absurd e (by decide), h9.o2, h9.o7, fun e => absurd e (by decide), fun e => absurd e (by decide), fun e => absurd e (by decide)⟩
      · -- operation 9
        obtain rfl : b9 = false := hi2
        have hsx : w.heap.size ≤ x.heap.size := by have := h.bx.lt; omega
        clear hi3 hi4
        refine wpOp_ofL (o := _) rfl rfl fun K' hK => ?_
        go_wp2_with fail
        have hbxy := Below.refl x.heap.size x
        refine ⟨b0, b1, b2, b3, b4, b5, b6, b7, b8, true, b10, b11, b12, b13, _, _, _, _, _, _, _, _, _, _, _, _, _, R1, R2, R3, k1, k2, k3, h1, h2, h3, g, by simp only [nfC] at hn ⊢; omega, rfl, rfl, ?_⟩
        have h9 := h.next hbxy hsx
        exact ⟨h9.bl, h9.sz, h9.bx, h9.br, h9.bs, h9.d0, h9.d1, h9.d2, h9.d3, h9.d4, h9.d5, h9.d6, h9.d7, h9.d8, fun _ => rfl, h9.d10, h9.d11, h9.d12, h9.o2, h9.o7, h9.o11, h9.o12, h9.o13⟩
      · -- operation 10
        obtain rfl : b10 = false := hi2
        have hdp : b9 = true := by
          have h7 := hi3
          simp [Region.binds] at h7
          first | exact h7 | exact ⟨h7.1, h7.2⟩ | (simp [h7]; done)
        obtain rfl := h.d9 hdp
        have hc : x.cell? ⟨w.heap.size, 3, none⟩ = some (.slice r.a3 t.op.length r.c3) := h.bx.cell 3
        have hsx : w.heap.size ≤ x.heap.size := by have := h.bx.lt; omega
        clear hi3 hi4
        refine wpOp_ofL (o := _) rfl rfl fun K' hK => ?_
        go_wp2_with fail
        have hbxy := Below.refl x.heap.size x
        refine ⟨b0, b1, b2, b3, b4, b5, b6, b7, b8, b9, true, b11, b12, b13, _, _, _, _, _, _, _, _, _, _, _, _, _, R1, R2, R3, k1, k2, k3, h1, h2, h3, g, by simp only [nfC] at hn ⊢; omega, rfl, rfl, ?_⟩
        have h9 := h.next hbxy hsx
        exact ⟨h9.bl, h9.sz, h9.bx, h9.br, h9.bs, h9.d0, h9.d1, h9.d2, h9.d3, h9.d4, h9.d5, h9.d6, h9.d7, h9.d8, h9.d9, fun _ => rfl, h9.d11, h9.d12, h9.o2, h9.o7, fun e => ⟨(h9.o11 e).1, rfl, (h9.o11 e).2.2⟩, h9.o12, h9.o13⟩
      · -- operation 11
        obtain rfl : b11 = false := hi2
        have hdp : b8 = true ∧ b10 = true ∧ b7 = true := by
          have h7 := hi3
          simp [Region.binds] at h7
          first | exact h7 | exact ⟨h7.1, h7.2⟩ | (simp [h7]; done)
        obtain rfl := h.d8 hdp.1
        obtain rfl := h.d10 hdp.2.1
        have hrd := HT.out.op.below h.bl hB
        have hzx := h.sz
        have h77 := h.d7 hdp.2.2
        have hn12 : b12 = false := by
          cases hbb : b12 with
          | false => rfl
          | true => exact absurd ((h.o12 hbb).2.2.2) (by decide)
        have hn13 : b13 = false := by
          cases hbb : b13 with
          | false => rfl
          | true => exact absurd ((h.o13 hbb).2) (by decide)
        subst hn12 hn13
        have hsx : w.heap.size ≤ x.heap.size := by have := h.bx.lt; omega
        clear hi3 hi4
        refine wpOp_ofL (o := _) rfl rfl fun K' hK => ?_
        refine oper_append_bools0 _ _ rfl g rfl r.a3 r.c3 t.op B rfl hrd n3 ?_
        intro R cR y ho hbxy
        refine hK _ _ ⟨b0, b1, b2, b3, b4, b5, b6, b7, b8, b9, b10, true, false, false, _, _, _, _, _, _, _, _, _, _, _, _, _, R1, R2, R, k1, k2, cR, h1, h2, y.heap.size, g, by simp only [nfC] at hn ⊢; omega, rfl, rfl, ?_⟩
        have h9 := h.next hbxy hsx
        exact ⟨h9.bl, h9.sz, h9.bx, h9.br, fun e => absurd e (by decide), h9.d0, h9.d1, fun e => ⟨by first | rfl | exact (h9.d2 e).1, (h9.d2 e).2⟩, h9.d3, h9.d4, h9.d5, h9.d6, fun e => ⟨by first | rfl | exact (h9.d7 e).1, (h9.d7 e).2⟩, h9.d8, h9.d9, h9.d10, fun _ => ⟨rfl, ho.wide h77.2.2.2 (Nat.le_refl _), Nat.le_trans h77.2.2.2 hbxy.size, Nat.le_refl _⟩, fun e => absurd e (by decide), h9.o2, h9.o7, fun _ => hdp, fun e => absurd e (by decide), fun e => absurd e (by decide)⟩
      · -- operation 12
        obtain rfl : b12 = false := hi2
        have hdp : b2 = true ∧ b4 = true ∧ b7 = true ∧ b11 = true := by
          have h7 := hi3
          simp [Region.binds] at h7
          first | exact h7 | exact ⟨h7.1, h7.2⟩ | (simp [h7]; done)
        obtain ⟨rfl, g21, g22, g23⟩ := h.d2 hdp.1
        obtain rfl := h.d4 hdp.2.1
        obtain ⟨rfl, g71, g72, g73⟩ := h.d7 hdp.2.2.1
        obtain ⟨rfl, g81, g82, g83⟩ := h.d11 hdp.2.2.2
        have hsx : w.heap.size ≤ x.heap.size := by have := h.bx.lt; omega
        clear hi3 hi4
        refine wpOp_ofL (o := _) rfl rfl fun K' hK => ?_
        go_wp2_with fail
        have hbxy := Below.refl x.heap.size x
        refine ⟨b0, b1, b2, b3, b4, b5, b6, b7, b8, b9, b10, b11, true, b13, _, _, _, _, _, _, _, _, _, _, _, _, _, R1, R2, R3, k1, k2, k3, h1, h2, h3, g, by simp only [nfC] at hn ⊢; omega, rfl, rfl, ?_⟩
        have h9 := h.next hbxy hsx
        exact ⟨h9.bl, h9.sz, h9.bx, h9.br, h9.bs, h9.d0, h9.d1, h9.d2, h9.d3, h9.d4, h9.d5, h9.d6, h9.d7, h9.d8, h9.d9, h9.d10, h9.d11, fun _ => rfl, h9.o2, h9.o7, h9.o11, fun _ => hdp, fun e => ⟨rfl, (h9.o13 e).2⟩⟩
      · -- operation 13
        obtain rfl : b13 = false := hi2
        have hdp : b12 = true ∧ b11 = true := by
          have h7 := hi3
          simp [Region.binds] at h7
          first | exact h7 | exact ⟨h7.1, h7.2⟩ | (simp [h7]; done)
        obtain rfl := h.d12 hdp.1
        have hbr := h.br rfl
        obtain ⟨cr0, cr1, cr2, cr3⟩ := hbr.cellsT
        obtain ⟨fr0, fr1, fr2, fr3⟩ := hbr.freeT
        have hzx := h.sz
        have hsx : w.heap.size ≤ x.heap.size := by have := h.bx.lt; omega
        clear hi3 hi4
        refine wpOp_ofL (o := _) rfl rfl fun K' hK => ?_
        go_wp2_with fail
        obtain ⟨y, hy⟩ : ∃ y : World, y = (((x.setCell ⟨w.heap.size + 1, 0, none⟩ (.slice R1 t.it.length k1)).setCell ⟨w.heap.size + 1, 1, none⟩ (.int .i64 t.fd)).setCell ⟨w.heap.size + 1, 2, none⟩ (.slice R2 t.pl.length k2)).setCell ⟨w.heap.size + 1, 3, none⟩ (.slice R3 t.op.length k3) := ⟨_, rfl⟩
        rw [← hy]
        have hbk := (((hbr.set_ 0 (.slice R1 t.it.length k1)).set_ 1 (.int .i64 t.fd)).set_ 2 (.slice R2 t.pl.length k2)).set_ 3 (.slice R3 t.op.length k3)
        rw [← hy] at hbk
        have farh : ∀ b, b ≠ w.heap.size + 1 → y.heap[b]? = x.heap[b]? := fun b hne => by
          have far : ∀ (v : World) (j : Nat) (u : Value), (v.setCell ⟨w.heap.size + 1, j, none⟩ u).heap[b]? = v.heap[b]? := fun v j u => Below.heap_setCell v _ u b (by exact hne)
          rw [hy, far, far, far, far]
        have hszx : y.heap.size = x.heap.size := by rw [hy]; simp [World.setCell]
        have hbl2 : Below w.heap.size w y := by rw [hy]; exact (((h.bl.setCell (by show w.heap.size ≤ w.heap.size + 1; omega) _).setCell (by show w.heap.size ≤ w.heap.size + 1; omega) _).setCell (by show w.heap.size ≤ w.heap.size + 1; omega) _).setCell (by show w.heap.size ≤ w.heap.size + 1; omega) _
        refine ⟨b0, b1, b2, b3, b4, b5, b6, b7, b8, b9, b10, b11, b12, true, _, _, _, _, _, _, _, _, _, _, _, _, _, R1, R2, R3, k1, k2, k3, h1, h2, h3, g, by simp only [nfC] at hn ⊢; omega, rfl, rfl, ?_⟩
        exact ⟨hbl2, by rw [hszx]; exact hzx, (farh _ (by omega)).trans h.bx, fun e => absurd e (by decide), fun _ => hbk, h.d0, h.d1, fun e => ⟨(h.d2 e).1, (h.d2 e).2.1.agree fun b hb _ => farh b (by omega), (h.d2 e).2.2.1, by rw [hszx]; exact (h.d2 e).2.2.2⟩, h.d3, h.d4, h.d5, h.d6, fun e => ⟨(h.d7 e).1, (h.d7 e).2.1.agree fun b hb _ => farh b (by have := (h.d2 (h.o7 e).2).2.2.1; omega), (h.d7 e).2.2.1, by rw [hszx]; exact (h.d7 e).2.2.2⟩, h.d8, h.d9, h.d10, fun e => ⟨(h.d11 e).1, (h.d11 e).2.1.agree fun b hb _ => farh b (by have := (h.d2 (h.o7 (h.o11 e).2.2).2).2.2.1; have := (h.d7 (h.o11 e).2.2).2.2.1; omega), (h.d11 e).2.2.1, by rw [hszx]; exact (h.d11 e).2.2.2⟩, h.d12, h.o2, h.o7, h.o11, h.o12, fun _ => hdp⟩
  case after =>
    rintro e a x ⟨rfl, t3, t4, t5, t6, t7, t8, t9, t10, t11, t12, t13, t14, t15, rr, rfl, hbr, hbl, hsz, how⟩
    have Hbr := Lib.hid hbr
    have Hbl := Lib.hid hbl
    have Hsz := Lib.hid hsz
    have How := Lib.hid how
    obtain ⟨cr0, cr1, cr2, cr3⟩ := hbr.cellsT
    clear hbr hbl hsz how
    go_wp2_with fail
    refine bodyPost_ret (v := .agg #[.slice rr.a1 t.it.length rr.c1, .int .i64 t.fd, .slice rr.a2 t.pl.length rr.c2, .slice rr.a3 t.op.length rr.c3]) (by simp [results, Try.results62, go_sem, cr0, cr1, cr2, cr3]) rfl ⟨rr, rfl, ?_, Hbl.out⟩
    have hs0 := Hs0.out
    exact How.out.wide (by omega) (Nat.le_refl _)

end Go.Proofs.Ytjkieedomljelaa
