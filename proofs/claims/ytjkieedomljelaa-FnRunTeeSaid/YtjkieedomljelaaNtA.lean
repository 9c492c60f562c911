/- NewTee by the program. -/
import Derived.Test.YtjkieedomljelaaRep
import Derived.Test.YtjkieedomljelaaTeeV
import Derived.Test.YtjkieedomljelaaTeeC
namespace Go.Proofs.Ytjkieedomljelaa
open Go.RowKit Go.Deep

/-- A new tee of good items, for one to four readers. -/
def newT (l : List Int) (n : Nat) : Te := ⟨l, 0, List.replicate n 0, List.replicate n true⟩
def newQ (l : List Int) (i : Int) : Te := if (rowOk l && inR i 1 4) = true then newT l i.toNat else zeroTe
theorem newQ_no {l : List Int} {i : Int} (h : (rowOk l && inR i 1 4) = false) : newQ l i = zeroTe := by unfold newQ; rw [if_neg (by rw [h]; decide)]
theorem newQ_yes {l : List Int} {n : Nat} (h : (rowOk l && inR (n : Int) 1 4) = true) : newQ l n = newT l n := by unfold newQ; rw [if_pos h]; rfl

theorem bk_zeros (w : World) (n : Nat) : Bk (w.alloc (.cells (madeCells #[Value.int .i64 0] n) 3)) w.heap.size 3 (ints (List.replicate n 0)) := by
  have e : madeCells #[Value.int .i64 0] n = (List.replicate n (Value.int .i64 0)).toArray := by rw [← toList_madeCells_one]
  rw [e]
  have h := Bk.new w 3 (List.replicate n (Value.int .i64 0))
  simpa [ints] using h

/-- Between two operations of the region that makes a tee. -/
structure NI (A : Option Addr) (c : Nat) (l : List Int) (n : Nat) (s0 z0 : Nat) (w : World) (b0 b1 b2 b3 b4 b5 b6 b7 b8 : Bool) (t14 t15 t16 t17 t18 t19 t20 t21 : Value) (R1 : Option Addr) (k1 lo1 hi1 lo2 g g3 : Nat) (x : World) : Prop where
  bl : Below s0 w x
  sz : z0 ≤ x.heap.size
  br : b8 = false → Bk x s0 27 [.slice none 0 0, .int .i64 0, .slice none 0 0, .slice none 0 0]
  bs : b8 = true → Bk x s0 27 [.slice R1 l.length k1, .int .i64 0, .slice (some ⟨lo2, 0, none⟩) n n, .slice (some ⟨g3, 0, none⟩) n n]
  d0 : b0 = true → t14 = .slice A l.length c
  d1 : b1 = true → t15 = .slice R1 l.length k1 ∧ OwnI x lo1 hi1 R1 l ∧ z0 ≤ lo1 ∧ lo1 ≤ hi1 ∧ hi1 ≤ x.heap.size
  d2 : b2 = true → t16 = .int .i64 n
  d3 : b3 = true → t17 = .slice (some ⟨lo2, 0, none⟩) n n ∧ Bk x lo2 3 (ints (List.replicate n 0)) ∧ z0 ≤ lo2
  d4 : b4 = true → t18 = .slice (some ⟨g, 0, none⟩) 1 1 ∧ Bk x g 4 [.bool true] ∧ z0 ≤ g
  d5 : b5 = true → t19 = .int .i64 n
  d6 : b6 = true → t20 = .slice (some ⟨g3, 0, none⟩) n n ∧ Bk x g3 4 (bools (List.replicate n true)) ∧ z0 ≤ g3
  d7 : b7 = true → t21 = .agg #[.slice R1 l.length k1, .int .i64 0, .slice (some ⟨lo2, 0, none⟩) n n, .slice (some ⟨g3, 0, none⟩) n n]
  f13 : b1 = true → b3 = true → hi1 ≤ lo2 ∨ lo2 + 1 ≤ lo1
  f16 : b1 = true → b6 = true → hi1 ≤ g3 ∨ g3 + 1 ≤ lo1
  f36 : b3 = true → b6 = true → lo2 ≠ g3
  o1 : b1 = true → b0 = true
  o3 : b3 = true → b2 = true
  o6 : b6 = true → b4 = true ∧ b5 = true ∧ b1 = true
  o7 : b7 = true → b1 = true ∧ b3 = true ∧ b6 = true
  o8 : b8 = true → b7 = true
  q1 : b1 = true → l.length ≤ k1
section
variable {A : Option Addr} {c : Nat} {l : List Int} {n : Nat} {s0 z0 : Nat} {w : World} {b0 b1 b2 b3 b4 b5 b6 b7 b8 : Bool} {t14 t15 t16 t17 t18 t19 t20 t21 : Value} {R1 : Option Addr} {k1 lo1 hi1 lo2 g g3 : Nat} {x y : World}
theorem NI.next (h : NI A c l n s0 z0 w b0 b1 b2 b3 b4 b5 b6 b7 b8 t14 t15 t16 t17 t18 t19 t20 t21 R1 k1 lo1 hi1 lo2 g g3 x) (hb : Below x.heap.size x y) (hs : s0 ≤ x.heap.size) : NI A c l n s0 z0 w b0 b1 b2 b3 b4 b5 b6 b7 b8 t14 t15 t16 t17 t18 t19 t20 t21 R1 k1 lo1 hi1 lo2 g g3 y :=
  ⟨h.bl.trans (hb.mono hs), Nat.le_trans h.sz hb.size, fun e => (h.br e).below hb (h.br e).lt, fun e => (h.bs e).below hb (h.bs e).lt, h.d0, fun e => ⟨(h.d1 e).1, (h.d1 e).2.1.next_ hb (h.d1 e).2.2.2.2, (h.d1 e).2.2.1, (h.d1 e).2.2.2.1, Nat.le_trans (h.d1 e).2.2.2.2 hb.size⟩, h.d2, fun e => ⟨(h.d3 e).1, (h.d3 e).2.1.below hb (h.d3 e).2.1.lt, (h.d3 e).2.2⟩, fun e => ⟨(h.d4 e).1, (h.d4 e).2.1.below hb (h.d4 e).2.1.lt, (h.d4 e).2.2⟩, h.d5, fun e => ⟨(h.d6 e).1, (h.d6 e).2.1.below hb (h.d6 e).2.1.lt, (h.d6 e).2.2⟩, h.d7, h.f13, h.f16, h.f36, h.o1, h.o3, h.o6, h.o7, h.o8, h.q1⟩
end

set_option maxRecDepth 100000 in
set_option maxHeartbeats 6400000 in
theorem implNewTee_cap (A : Option Addr) (c : Nat) (l : List Int) (i : Int) (w : World) (B : Nat) (h : RdI w B A l) (hB : B ≤ w.heap.size) (hn : l.length ≤ 1048576) :
    Calls Try.prog 40 #[.slice A l.length c, .int .i64 i] w fun e w' => ∃ r' : Tr, e = .returned (.agg #[.slice r'.a1 (newQ l i).it.length r'.c1, .int .i64 (newQ l i).fd, .slice r'.a2 (newQ l i).pl.length r'.c2, .slice r'.a3 (newQ l i).op.length r'.c3]) ∧ OwnT w' w.heap.size w'.heap.size r' (newQ l i) ∧ Below w.heap.size w w' ∧ (newQ l i).it.length ≤ r'.c1 := by
  obtain ⟨W0, hW0⟩ : ∃ W : World, W = w.alloc (.cells #[.slice none 0 0, .int .i64 0, .slice none 0 0, .slice none 0 0] 27) := ⟨_, rfl⟩
  have hb0 : Below w.heap.size w W0 := by rw [hW0]; exact (Below.refl _ _).alloc (Nat.le_refl _) _
  have bres : Bk W0 w.heap.size 27 [.slice none 0 0, .int .i64 0, .slice none 0 0, .slice none 0 0] := by
    rw [hW0]
    exact Bk.new w 27 [.slice none 0 0, .int .i64 0, .slice none 0 0, .slice none 0 0]
  have hs0 : W0.heap.size = w.heap.size + 1 := by rw [hW0]; simp
  have HT := Lib.hid h
  have Hb0 := Lib.hid hb0
  have HW0 := Lib.hid hW0
  have Br := Lib.hid bres
  have Hs0 := Lib.hid hs0
  clear h hb0 hW0 hs0 bres
  go_enter Try.func40, Try.ntmps40
  go_wp2_with fail
  rw [← HW0.out]
  obtain ⟨cr0, cr1, cr2, cr3⟩ := Br.out.cellsT
  obtain ⟨fr0, fr1, fr2, fr3⟩ := Br.out.freeT
  refine (validItems_any A c l W0 B (HT.out.below Hb0.out hB) hn).mono ?_
  rintro e w1 ⟨rfl, rfl⟩
  cases hv : rowOk l
  · have Hq := Lib.hid (newQ_no (l := l) (i := i) (by rw [hv]; rfl))
    clear hv
    go_wp2_with fail
    refine bodyPost_ret (v := .agg #[.slice none 0 0, .int .i64 0, .slice none 0 0, .slice none 0 0]) (by simp [results, Try.results40, go_sem, cr0, cr1, cr2, cr3]) rfl ⟨nilTr, by rw [Hq.out]; rfl, by rw [Hq.out]; exact OwnT.nil_ _ (by show w.heap.size ≤ _; simp [World.setCell, Hs0.out]) _, ?_, by rw [Hq.out]; exact Nat.zero_le _⟩
    exact (((Hb0.out.setCell (Nat.le_refl _) _).setCell (Nat.le_refl _) _).setCell (Nat.le_refl _) _).setCell (Nat.le_refl _) _
  cases hi : inR i 1 4
  · have Hq := Lib.hid (newQ_no (l := l) (i := i) (by rw [hv, hi]; rfl))
    have Hi := Lib.hid hi
    clear hv hi
    go_wp2_with (go_at_call 78; refine (within_any _ _ _ _).mono ?_; rintro e w1 ⟨rfl, rfl⟩; rw [Hi.out])
    refine bodyPost_ret (v := .agg #[.slice none 0 0, .int .i64 0, .slice none 0 0, .slice none 0 0]) (by simp [results, Try.results40, go_sem, cr0, cr1, cr2, cr3]) rfl ⟨nilTr, by rw [Hq.out]; rfl, by rw [Hq.out]; exact OwnT.nil_ _ (by show w.heap.size ≤ _; simp [World.setCell, Hs0.out]) _, ?_, by rw [Hq.out]; exact Nat.zero_le _⟩
    exact (((Hb0.out.setCell (Nat.le_refl _) _).setCell (Nat.le_refl _) _).setCell (Nat.le_refl _) _).setCell (Nat.le_refl _) _
  obtain ⟨hi0, hi1⟩ := inR_iff.1 hi
  obtain ⟨n, rfl⟩ : ∃ n : Nat, i = n := ⟨i.toNat, by omega⟩
  have Hq := Lib.hid (newQ_yes (l := l) (n := n) (by rw [hv, hi]; rfl))
  have Hi := Lib.hid hi
  have h1 : 1 ≤ n := by omega
  have h4 : n ≤ 4 := by omega
  clear hv hi cr0 cr1 cr2 cr3 fr0 fr1 fr2 fr3 hi0 hi1
  go_wp2_with (go_at_call 78; refine (within_any _ _ _ _).mono ?_; rintro e w1 ⟨rfl, rfl⟩; rw [Hi.out])
  have hnl := hn
  clear hn
  have Hmk := Lib.hid (run_make_row' (P := Try.prog) 22 3 (.int .i64 0) 8 Try.underlying22 Try.infoInt rfl .i64 .i64 n (by omega) (by omega))
  refine Code.wp_mono (Q := fun e a x => e = .normal ∧ ∃ (t14 t15 t16 t17 t18 t19 t20 t21 : Value) (rr : Tr), a = ({ tmps := #[.slice A l.length c, .int .i64 n, undef, undef, .pointer (some ⟨w.heap.size, 0, none⟩), .slice A l.length c, .bool true, .bool false, .bool false, .int .i64 n, .bool true, .bool false, .bool false, undef, t14, t15, t16, t17, t18, t19, t20, t21], defers := [] } : Act) ∧ Bk x w.heap.size 27 [.slice rr.a1 (newT l n).it.length rr.c1, .int .i64 (newT l n).fd, .slice rr.a2 (newT l n).pl.length rr.c2, .slice rr.a3 (newT l n).op.length rr.c3] ∧ Below w.heap.size w x ∧ W0.heap.size ≤ x.heap.size ∧ OwnT x W0.heap.size x.heap.size rr (newT l n) ∧ l.length ≤ rr.c1) ?after ?region
  case region =>
    refine wp_region_any (by kernel_rfl) (wpAny_invL (I := (fun k listed a x => ∃ b0 b1 b2 b3 b4 b5 b6 b7 b8 t14 t15 t16 t17 t18 t19 t20 t21 R1 k1 lo1 hi1 lo2 g g3, k = nfC b0 + nfC b1 + nfC b2 + nfC b3 + nfC b4 + nfC b5 + nfC b6 + nfC b7 + nfC b8 ∧ listed = #[b0, b1, b2, b3, b4, b5, b6, b7, b8] ∧ a = ({ tmps := #[.slice A l.length c, .int .i64 n, undef, undef, .pointer (some ⟨w.heap.size, 0, none⟩), .slice A l.length c, .bool true, .bool false, .bool false, .int .i64 n, .bool true, .bool false, .bool false, undef, t14, t15, t16, t17, t18, t19, t20, t21], defers := [] } : Act) ∧ NI A c l n w.heap.size W0.heap.size w b0 b1 b2 b3 b4 b5 b6 b7 b8 t14 t15 t16 t17 t18 t19 t20 t21 R1 k1 lo1 hi1 lo2 g g3 x)) ?h0 ?hd ?hs 9 _ _ _ ?start)
    case start => exact ⟨false, false, false, false, false, false, false, false, false, _, _, _, _, _, _, _, _, none, 0, 0, 0, 0, 0, 0, rfl, rfl, rfl, ⟨Hb0.out.drew, by exact Nat.le_refl _, fun _ => Bk.drewN Br.out 1, fun e => absurd e (by decide), fun e => absurd e (by decide), fun e => absurd e (by decide), fun e => absurd e (by decide), fun e => absurd e (by decide), fun e => absurd e (by decide), fun e => absurd e (by decide), fun e => absurd e (by decide), fun e => absurd e (by decide), fun e => absurd e (by decide), fun e => absurd e (by decide), fun e => absurd e (by decide), fun e => absurd e (by decide), fun e => absurd e (by decide), fun e => absurd e (by decide), fun e => absurd e (by decide), fun e => absurd e (by decide), fun e => absurd e (by decide)⟩⟩
    case h0 =>
      rintro listed a x ⟨b0, b1, b2, b3, b4, b5, b6, b7, b8, t14, t15, t16, t17, t18, t19, t20, t21, R1, k1, lo1, hi1, lo2, g, g3, hn, rfl, rfl, hI⟩
      obtain rfl : b0 = true := by
        cases b0 with
        | true => rfl
        | false => simp only [nfC] at hn; omega
      obtain rfl : b1 = true := by
        cases b1 with
        | true => rfl
        | false => simp only [nfC] at hn; omega
      obtain rfl : b2 = true := by
        cases b2 with
        | true => rfl
        | false => simp only [nfC] at hn; omega
      obtain rfl : b3 = true := by
        cases b3 with
        | true => rfl
        | false => simp only [nfC] at hn; omega
      obtain rfl : b4 = true := by
        cases b4 with
        | true => rfl
        | false => simp only [nfC] at hn; omega
      obtain rfl : b5 = true := by
        cases b5 with
        | true => rfl
        | false => simp only [nfC] at hn; omega
      obtain rfl : b6 = true := by
        cases b6 with
        | true => rfl
        | false => simp only [nfC] at hn; omega
      obtain rfl : b7 = true := by
        cases b7 with
        | true => rfl
        | false => simp only [nfC] at hn; omega
      obtain rfl : b8 = true := by
        cases b8 with
        | true => rfl
        | false => simp only [nfC] at hn; omega
      rfl
    case hd =>
      rintro k9 listed a x ⟨b0, b1, b2, b3, b4, b5, b6, b7, b8, t14, t15, t16, t17, t18, t19, t20, t21, R1, k1, lo1, hi1, lo2, g, g3, hn, rfl, rfl, hI⟩ hr
      have hall := List.filter_eq_nil_iff.1 hr
      obtain rfl : b0 = true := by
        have q := hall 0 (List.mem_range.2 (by decide))
        simpa [Region.binds] using q
      obtain rfl : b1 = true := by
        have q := hall 1 (List.mem_range.2 (by decide))
        simpa [Region.binds] using q
      obtain rfl : b2 = true := by
        have q := hall 2 (List.mem_range.2 (by decide))
        simpa [Region.binds] using q
      obtain rfl : b3 = true := by
        have q := hall 3 (List.mem_range.2 (by decide))
        simpa [Region.binds] using q
      obtain rfl : b4 = true := by
        have q := hall 4 (List.mem_range.2 (by decide))
        simpa [Region.binds] using q
      obtain rfl : b5 = true := by
        have q := hall 5 (List.mem_range.2 (by decide))
        simpa [Region.binds] using q
      obtain rfl : b6 = true := by
        have q := hall 6 (List.mem_range.2 (by decide))
        simpa [Region.binds] using q
      obtain rfl : b7 = true := by
        have q := hall 7 (List.mem_range.2 (by decide))
        simpa [Region.binds] using q
      obtain rfl : b8 = true := by
        have q := hall 8 (List.mem_range.2 (by decide))
        simpa [Region.binds] using q
      obtain ⟨_, q1, q2, q3, q4⟩ := hI.d1 rfl
      obtain ⟨_, q5, q6⟩ := hI.d3 rfl
      obtain ⟨_, q7, q8⟩ := hI.d6 rfl
      have f13 := hI.f13 rfl rfl
      have f16 := hI.f16 rfl rfl
      have f36 := hI.f36 rfl rfl
      have z5 := q5.lt
      have z7 := q7.lt
      refine ⟨rfl, _, _, _, _, _, _, _, _, ⟨R1, k1, some ⟨lo2, 0, none⟩, n, some ⟨g3, 0, none⟩, n⟩, rfl, by simpa [newT] using hI.bs rfl, hI.bl, hI.sz, ⟨lo1, hi1, lo2, lo2 + 1, g3, g3 + 1, by omega, by omega, by omega, by omega, by omega, by omega, q1, q5.ownI (Nat.le_refl _) (by omega), q7.ownB (Nat.le_refl _) (by omega)⟩, hI.q1 rfl⟩
    case hs =>
      rintro k9 listed a x ⟨b0, b1, b2, b3, b4, b5, b6, b7, b8, t14, t15, t16, t17, t18, t19, t20, t21, R1, k1, lo1, hi1, lo2, g, g3, hn, rfl, rfl, hI⟩ i hi
      obtain ⟨hi1, hi2, hi3⟩ := ready_memL hi
      have hi4 : i < 9 := hi1
      have hs0 := Hs0.out
      clear hi hi1
      rcases (show i = 0 ∨ i = 1 ∨ i = 2 ∨ i = 3 ∨ i = 4 ∨ i = 5 ∨ i = 6 ∨ i = 7 ∨ i = 8 by omega) with rfl | rfl | rfl | rfl | rfl | rfl | rfl | rfl | rfl
      · -- operation 0
        obtain rfl : b0 = false := hi2
        have hsx : w.heap.size ≤ x.heap.size := by have := hI.bl.size; exact this
        clear hi3 hi4
        refine wpOp_ofL (o := _) rfl rfl fun K' hK => ?_
        have HK := Lib.hid hK
        clear hK
        go_wp2_with fail
        have hbxy := Below.refl x.heap.size x
        have h9 := hI.next hbxy hsx
        refine HK.out _ _ ⟨true, b1, b2, b3, b4, b5, b6, b7, b8, _, _, _, _, _, _, _, _, R1, k1, lo1, hi1, lo2, g, g3, by simp only [nfC] at hn ⊢; omega, rfl, rfl, ?_⟩
        exact ⟨h9.bl, h9.sz, h9.br, h9.bs, fun _ => rfl, h9.d1, h9.d2, h9.d3, h9.d4, h9.d5, h9.d6, h9.d7, h9.f13, h9.f16, h9.f36, fun _ => rfl, h9.o3, h9.o6, h9.o7, h9.o8, h9.q1⟩
      · -- operation 1
        obtain rfl : b1 = false := hi2
        have hdp : b0 = true := by
          have h7 := hi3
          simp [Region.binds] at h7
          first | exact h7 | exact ⟨h7.1, h7.2⟩ | (simp [h7]; done)
        obtain rfl := hI.d0 hdp
        have hrd := HT.out.below hI.bl hB
        have hzx := hI.sz
        have hn6 : b6 = false := by
          cases hbb : b6 with
          | false => rfl
          | true => exact absurd ((hI.o6 hbb).2.2) (by decide)
        have hn7 : b7 = false := by
          cases hbb : b7 with
          | false => rfl
          | true => exact absurd ((hI.o7 hbb).1) (by decide)
        have hn8 : b8 = false := by
          cases hbb : b8 with
          | false => rfl
          | true => exact absurd ((hI.o7 (hI.o8 hbb)).1) (by decide)
        subst hn6 hn7 hn8
        have hsx : w.heap.size ≤ x.heap.size := by have := hI.bl.size; exact this
        clear hi3 hi4
        refine wpOp_ofL (o := _) rfl rfl fun K' hK => ?_
        have HK := Lib.hid hK
        clear hK
        go_wp2_with fail
        refine (cloneI_any A c l x B hrd (by omega) hnl).mono ?_
        rintro e y ⟨R, cR, rfl, ho, hbxy⟩
        have h9 := hI.next hbxy hsx
        refine HK.out _ _ ⟨b0, true, b2, b3, b4, b5, false, false, false, _, _, _, _, _, _, _, _, R, cR, x.heap.size, y.heap.size, lo2, g, g3, by simp only [nfC] at hn ⊢; omega, rfl, rfl, ?_⟩
        exact ⟨h9.bl, h9.sz, h9.br, fun e => absurd e (by decide), h9.d0, fun _ => ⟨rfl, ho.ownI, hzx, hbxy.size, Nat.le_refl _⟩, h9.d2, h9.d3, h9.d4, h9.d5, fun e => absurd e (by decide), fun e => absurd e (by decide), fun _ e3 => .inr (hI.d3 e3).2.1.lt, fun _ e => absurd e (by decide), fun _ e => absurd e (by decide), fun _ => hdp, h9.o3, fun e => absurd e (by decide), fun e => absurd e (by decide), fun e => absurd e (by decide), fun _ => ho.len_le⟩
      · -- operation 2
        obtain rfl : b2 = false := hi2
        have hsx : w.heap.size ≤ x.heap.size := by have := hI.bl.size; exact this
        clear hi3 hi4
        refine wpOp_ofL (o := _) rfl rfl fun K' hK => ?_
        have HK := Lib.hid hK
        clear hK
        go_wp2_with fail
        have hbxy := Below.refl x.heap.size x
        have h9 := hI.next hbxy hsx
        refine HK.out _ _ ⟨b0, b1, true, b3, b4, b5, b6, b7, b8, _, _, _, _, _, _, _, _, R1, k1, lo1, hi1, lo2, g, g3, by simp only [nfC] at hn ⊢; omega, rfl, rfl, ?_⟩
        exact ⟨h9.bl, h9.sz, h9.br, h9.bs, h9.d0, h9.d1, fun _ => rfl, h9.d3, h9.d4, h9.d5, h9.d6, h9.d7, h9.f13, h9.f16, h9.f36, h9.o1, fun _ => rfl, h9.o6, h9.o7, h9.o8, h9.q1⟩
      · -- operation 3
        obtain rfl : b3 = false := hi2
        have hdp : b2 = true := by
          have h7 := hi3
          simp [Region.binds] at h7
          first | exact h7 | exact ⟨h7.1, h7.2⟩ | (simp [h7]; done)
        obtain rfl := hI.d2 hdp
        have hzx := hI.sz
        have hmk := Hmk.out
        have hn7 : b7 = false := by
          cases hbb : b7 with
          | false => rfl
          | true => exact absurd ((hI.o7 hbb).2.1) (by decide)
        have hn8 : b8 = false := by
          cases hbb : b8 with
          | false => rfl
          | true => exact absurd ((hI.o7 (hI.o8 hbb)).2.1) (by decide)
        subst hn7 hn8
        have hsx : w.heap.size ≤ x.heap.size := by have := hI.bl.size; exact this
        clear hi3 hi4
        refine wpOp_ofL (o := _) rfl rfl fun K' hK => ?_
        have HK := Lib.hid hK
        clear hK
        go_wp2_with fail
        have hbxy : Below x.heap.size x (x.alloc (.cells (madeCells #[Value.int .i64 0] n) 3)) := (Below.refl _ _).alloc (Nat.le_refl _) _
        have h9 := hI.next hbxy hsx
        refine HK.out _ _ ⟨b0, b1, b2, true, b4, b5, b6, false, false, _, _, _, _, _, _, _, _, R1, k1, lo1, hi1, x.heap.size, g, g3, by simp only [nfC] at hn ⊢; omega, rfl, rfl, ?_⟩
        exact ⟨h9.bl, h9.sz, h9.br, fun e => absurd e (by decide), h9.d0, h9.d1, h9.d2, fun _ => ⟨rfl, bk_zeros x n, hzx⟩, h9.d4, h9.d5, h9.d6, fun e => absurd e (by decide), fun e1 _ => .inl (hI.d1 e1).2.2.2.2, h9.f16, fun _ e6 => by have := (hI.d6 e6).2.1.lt; omega, h9.o1, fun _ => hdp, h9.o6, fun e => absurd e (by decide), fun e => absurd e (by decide), h9.q1⟩
      · -- operation 4
        obtain rfl : b4 = false := hi2
        have hzx := hI.sz
        have hn6 : b6 = false := by
          cases hbb : b6 with
          | false => rfl
          | true => exact absurd ((hI.o6 hbb).1) (by decide)
        have hn7 : b7 = false := by
          cases hbb : b7 with
          | false => rfl
          | true => exact absurd ((hI.o6 (hI.o7 hbb).2.2).1) (by decide)
        have hn8 : b8 = false := by
          cases hbb : b8 with
          | false => rfl
          | true => exact absurd ((hI.o6 (hI.o7 (hI.o8 hbb)).2.2).1) (by decide)
        subst hn6 hn7 hn8
        have hsx : w.heap.size ≤ x.heap.size := by have := hI.bl.size; exact this
        clear hi3 hi4
        refine wpOp_ofL (o := _) rfl rfl fun K' hK => ?_
        have HK := Lib.hid hK
        clear hK
        go_wp2_with fail
        have hbxy : Below x.heap.size x (x.alloc (.cells #[Value.bool true] 4)) := (Below.refl _ _).alloc (Nat.le_refl _) _
        have h9 := hI.next hbxy hsx
        refine HK.out _ _ ⟨b0, b1, b2, b3, true, b5, false, false, false, _, _, _, _, _, _, _, _, R1, k1, lo1, hi1, lo2, x.heap.size, g3, by simp only [nfC] at hn ⊢; omega, rfl, rfl, ?_⟩
        exact ⟨h9.bl, h9.sz, h9.br, fun e => absurd e (by decide), h9.d0, h9.d1, h9.d2, h9.d3, fun _ => ⟨rfl, Bk.new x 4 [.bool true], hzx⟩, h9.d5, fun e => absurd e (by decide), fun e => absurd e (by decide), h9.f13, fun _ e => absurd e (by decide), fun _ e => absurd e (by decide), h9.o1, h9.o3, fun e => absurd e (by decide), fun e => absurd e (by decide), fun e => absurd e (by decide), h9.q1⟩
      · -- operation 5
        obtain rfl : b5 = false := hi2
        have hsx : w.heap.size ≤ x.heap.size := by have := hI.bl.size; exact this
        clear hi3 hi4
        refine wpOp_ofL (o := _) rfl rfl fun K' hK => ?_
        have HK := Lib.hid hK
        clear hK
        go_wp2_with fail
        have hbxy := Below.refl x.heap.size x
        have h9 := hI.next hbxy hsx
        refine HK.out _ _ ⟨b0, b1, b2, b3, b4, true, b6, b7, b8, _, _, _, _, _, _, _, _, R1, k1, lo1, hi1, lo2, g, g3, by simp only [nfC] at hn ⊢; omega, rfl, rfl, ?_⟩
        exact ⟨h9.bl, h9.sz, h9.br, h9.bs, h9.d0, h9.d1, h9.d2, h9.d3, h9.d4, fun _ => rfl, h9.d6, h9.d7, h9.f13, h9.f16, h9.f36, h9.o1, h9.o3, fun e => ⟨(h9.o6 e).1, rfl, (h9.o6 e).2.2⟩, h9.o7, h9.o8, h9.q1⟩
      · -- operation 6
        obtain rfl : b6 = false := hi2
        have hdp : b4 = true ∧ b5 = true ∧ b1 = true := by
          have h7 := hi3
          simp [Region.binds] at h7
          first | exact h7 | exact ⟨h7.1, h7.2⟩ | (simp [h7]; done)
        obtain ⟨rfl, hg1, hg2⟩ := hI.d4 hdp.1
        obtain rfl := hI.d5 hdp.2.1
        have hzx := hI.sz
        have hn7 : b7 = false := by
          cases hbb : b7 with
          | false => rfl
          | true => exact absurd ((hI.o7 hbb).2.2) (by decide)
        have hn8 : b8 = false := by
          cases hbb : b8 with
          | false => rfl
          | true => exact absurd ((hI.o7 (hI.o8 hbb)).2.2) (by decide)
        subst hn7 hn8
        have hsx : w.heap.size ≤ x.heap.size := by have := hI.bl.size; exact this
        clear hi3 hi4
        refine wpOp_ofL (o := _) rfl rfl fun K' hK => ?_
        have HK := Lib.hid hK
        clear hK
        go_wp2_with fail
        refine (repeatB_any g n h1 h4 x hg1).mono ?_
        rintro e y ⟨g5, rfl, hg5, hg6, hbxy⟩
        have h9 := hI.next hbxy hsx
        refine HK.out _ _ ⟨b0, b1, b2, b3, b4, b5, true, false, false, _, _, _, _, _, _, _, _, R1, k1, lo1, hi1, lo2, g, g5, by simp only [nfC] at hn ⊢; omega, rfl, rfl, ?_⟩
        exact ⟨h9.bl, h9.sz, h9.br, fun e => absurd e (by decide), h9.d0, h9.d1, h9.d2, h9.d3, fun e => ⟨by first | rfl | exact (h9.d4 e).1, (h9.d4 e).2⟩, h9.d5, fun _ => ⟨rfl, hg5, Nat.le_trans hzx hg6⟩, fun e => absurd e (by decide), h9.f13, fun e1 _ => .inl (Nat.le_trans (hI.d1 e1).2.2.2.2 hg6), fun e3 _ => by have := (hI.d3 e3).2.1.lt; omega, h9.o1, h9.o3, fun _ => hdp, fun e => absurd e (by decide), fun e => absurd e (by decide), h9.q1⟩
      · -- operation 7
        obtain rfl : b7 = false := hi2
        have hdp : b1 = true ∧ b3 = true ∧ b6 = true := by
          have h7 := hi3
          simp [Region.binds] at h7
          first | exact h7 | exact ⟨h7.1, h7.2⟩ | (simp [h7]; done)
        obtain ⟨rfl, g1⟩ := hI.d1 hdp.1
        obtain ⟨rfl, g2⟩ := hI.d3 hdp.2.1
        obtain ⟨rfl, g4⟩ := hI.d6 hdp.2.2
        have hn8 : b8 = false := by
          cases hbb : b8 with
          | false => rfl
          | true => exact absurd (hI.o8 hbb) (by decide)
        subst hn8
        have hsx : w.heap.size ≤ x.heap.size := by have := hI.bl.size; exact this
        clear hi3 hi4
        refine wpOp_ofL (o := _) rfl rfl fun K' hK => ?_
        have HK := Lib.hid hK
        clear hK
        go_wp2_with fail
        have hbxy := Below.refl x.heap.size x
        have h9 := hI.next hbxy hsx
        refine HK.out _ _ ⟨b0, b1, b2, b3, b4, b5, b6, true, false, _, _, _, _, _, _, _, _, R1, k1, lo1, hi1, lo2, g, g3, by simp only [nfC] at hn ⊢; omega, rfl, rfl, ?_⟩
        exact ⟨h9.bl, h9.sz, h9.br, fun e => absurd e (by decide), h9.d0, fun e => ⟨rfl, (h9.d1 e).2⟩, h9.d2, fun e => ⟨rfl, (h9.d3 e).2⟩, h9.d4, h9.d5, fun e => ⟨rfl, (h9.d6 e).2⟩, fun _ => rfl, h9.f13, h9.f16, h9.f36, h9.o1, h9.o3, h9.o6, fun _ => hdp, fun e => absurd e (by decide), h9.q1⟩
      · -- operation 8
        obtain rfl : b8 = false := hi2
        have hdp : b7 = true ∧ b6 = true ∧ b0 = true ∧ b1 = true ∧ b2 = true ∧ b3 = true ∧ b4 = true ∧ b5 = true := by
          have h7 := hi3
          simp [Region.binds] at h7
          first | exact h7 | exact ⟨h7.1, h7.2⟩ | (simp [h7]; done)
        obtain rfl := hI.d7 hdp.1
        have hbr := hI.br rfl
        obtain ⟨cr0, cr1, cr2, cr3⟩ := hbr.cellsT
        obtain ⟨fr0, fr1, fr2, fr3⟩ := hbr.freeT
        have hzx := hI.sz
        have hsx : w.heap.size ≤ x.heap.size := by have := hI.bl.size; exact this
        clear hi3 hi4
        refine wpOp_ofL (o := _) rfl rfl fun K' hK => ?_
        have HK := Lib.hid hK
        clear hK
        go_wp2_with fail
        obtain ⟨y, hy⟩ : ∃ y : World, y = (((x.setCell ⟨w.heap.size, 0, none⟩ (.slice R1 l.length k1)).setCell ⟨w.heap.size, 1, none⟩ (.int .i64 0)).setCell ⟨w.heap.size, 2, none⟩ (.slice (some ⟨lo2, 0, none⟩) n n)).setCell ⟨w.heap.size, 3, none⟩ (.slice (some ⟨g3, 0, none⟩) n n) := ⟨_, rfl⟩
        rw [← hy]
        have hbk := (((hbr.set_ 0 (.slice R1 l.length k1)).set_ 1 (.int .i64 0)).set_ 2 (.slice (some ⟨lo2, 0, none⟩) n n)).set_ 3 (.slice (some ⟨g3, 0, none⟩) n n)
        rw [← hy] at hbk
        have farh : ∀ b, b ≠ w.heap.size → y.heap[b]? = x.heap[b]? := fun b hne => by
          have far : ∀ (v : World) (j : Nat) (u : Value), (v.setCell ⟨w.heap.size, j, none⟩ u).heap[b]? = v.heap[b]? := fun v j u => Below.heap_setCell v _ u b (by exact hne)
          rw [hy, far, far, far, far]
        have hszx : y.heap.size = x.heap.size := by rw [hy]; simp [World.setCell]
        have hbl2 : Below w.heap.size w y := by rw [hy]; exact (((hI.bl.setCell (Nat.le_refl _) _).setCell (Nat.le_refl _) _).setCell (Nat.le_refl _) _).setCell (Nat.le_refl _) _
        refine HK.out _ _ ⟨b0, b1, b2, b3, b4, b5, b6, b7, true, _, _, _, _, _, _, _, _, R1, k1, lo1, hi1, lo2, g, g3, by simp only [nfC] at hn ⊢; omega, rfl, rfl, ?_⟩
        exact ⟨hbl2, by rw [hszx]; exact hzx, fun e => absurd e (by decide), fun _ => hbk, hI.d0, fun e => ⟨(hI.d1 e).1, (hI.d1 e).2.1.agree fun b hb _ => farh b (by have := (hI.d1 e).2.2.1; omega), (hI.d1 e).2.2.1, (hI.d1 e).2.2.2.1, by rw [hszx]; exact (hI.d1 e).2.2.2.2⟩, hI.d2, fun e => ⟨(hI.d3 e).1, (farh _ (by have := (hI.d3 e).2.2; omega)).trans (hI.d3 e).2.1, (hI.d3 e).2.2⟩, fun e => ⟨(hI.d4 e).1, (farh _ (by have := (hI.d4 e).2.2; omega)).trans (hI.d4 e).2.1, (hI.d4 e).2.2⟩, hI.d5, fun e => ⟨(hI.d6 e).1, (farh _ (by have := (hI.d6 e).2.2; omega)).trans (hI.d6 e).2.1, (hI.d6 e).2.2⟩, hI.d7, hI.f13, hI.f16, hI.f36, hI.o1, hI.o3, hI.o6, hI.o7, fun _ => hdp.1, hI.q1⟩
  case after =>
    rintro e a x ⟨rfl, t14, t15, t16, t17, t18, t19, t20, t21, rr, rfl, hbr, hbl, hsz, how, hcap⟩
    have Hcap := Lib.hid hcap
    have Hbl := Lib.hid hbl
    have How := Lib.hid how
    obtain ⟨cr0, cr1, cr2, cr3⟩ := hbr.cellsT
    clear hbr hbl hsz how hcap
    go_wp2_with fail
    refine bodyPost_ret (v := .agg #[.slice rr.a1 (newT l n).it.length rr.c1, .int .i64 (newT l n).fd, .slice rr.a2 (newT l n).pl.length rr.c2, .slice rr.a3 (newT l n).op.length rr.c3]) (by simp [results, Try.results40, go_sem, cr0, cr1, cr2, cr3]) rfl ⟨rr, by rw [Hq.out], ?_, Hbl.out, by rw [Hq.out]; exact Hcap.out⟩
    have hs0 := Hs0.out
    rw [Hq.out]
    exact How.out.wide (by omega) (Nat.le_refl _)

theorem implNewTee_any (A : Option Addr) (c : Nat) (l : List Int) (i : Int) (w : World) (B : Nat) (h : RdI w B A l) (hB : B ≤ w.heap.size) (hn : l.length ≤ 1048576) :
    Calls Try.prog 40 #[.slice A l.length c, .int .i64 i] w fun e w' => ∃ r' : Tr, e = .returned (.agg #[.slice r'.a1 (newQ l i).it.length r'.c1, .int .i64 (newQ l i).fd, .slice r'.a2 (newQ l i).pl.length r'.c2, .slice r'.a3 (newQ l i).op.length r'.c3]) ∧ OwnT w' w.heap.size w'.heap.size r' (newQ l i) ∧ Below w.heap.size w w' :=
  (implNewTee_cap A c l i w B h hB hn).mono fun _ _ ⟨r', h1, h2, h3, _⟩ => ⟨r', h1, h2, h3⟩

end Go.Proofs.Ytjkieedomljelaa
