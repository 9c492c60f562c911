/- NewTee by the reference. -/
import Derived.Test.YtjkieedomljelaaNtA
namespace Go.Proofs.Ytjkieedomljelaa
open Go.RowKit Go.Deep

theorem bk_falses (w : World) (n : Nat) : Bk (w.alloc (.cells (madeCells #[Value.bool false] n) 4)) w.heap.size 4 (bools (rep n 0)) := by simpa [rep, bools] using bk_madeB w 4 [] (.bool false) (n := n)
theorem rep_take {n k : Nat} (h : k ≤ n) : bools (rep n k) = bools ((List.replicate n true).take k) ++ List.replicate (n - k) (.bool false) := by
  rw [List.take_replicate, Nat.min_eq_left h]
  simp [bools, rep]
theorem rep_set {w : World} {g n j : Nat} {t : TypeId} (h : Bk w g t (bools (rep n j))) (hj : j < n) : Bk (w.setCell ⟨g, j, none⟩ (.bool true)) g t (bools (rep n (j + 1))) := by
  rw [rep_take (Nat.le_of_lt hj)] at h
  rw [rep_take hj]
  exact fill_bools h (by rw [List.getElem?_replicate, if_pos hj]) hj

set_option maxHeartbeats 1600000 in
theorem goodTee_any (A : Option Addr) (c : Nat) (l : List Int) (i : Int) (w : World) (B : Nat) (h : RdI w B A l) (hn : l.length ≤ 1048576) :
    Calls Try.prog 84 #[.slice A l.length c, .int .i64 i] w fun e w' => e = .returned (.bool (rowOk l && inR i 1 4)) ∧ w = w' := by
  by_cases h12 : (l.length : Int) ≤ 12
  · have Hr := Lib.hid (show rowOk l = allB l 0 99 by unfold rowOk; rw [decide_eq_true (by omega), Bool.true_and])
    cases ha : allB l 0 99
    · have Ha := Lib.hid ha
      clear ha
      go_enter Try.func84, Try.ntmps84
      go_wp2_with (go_at_call 89; refine (allIn_any A c l 0 99 w B h hn).mono ?_; rintro e w1 ⟨rfl, rfl⟩; rw [Ha.out])
      refine bodyPost_ret (v := .bool false) (by simp [results, Try.results84, go_sem]) rfl ⟨by rw [Hr.out, Ha.out]; rfl, rfl⟩
    · have Ha := Lib.hid ha
      clear ha
      go_enter Try.func84, Try.ntmps84
      go_wp2_with (first | (go_at_call 89; refine (allIn_any A c l 0 99 w B h hn).mono ?_; rintro e w1 ⟨rfl, rfl⟩; rw [Ha.out]) | (go_at_call 74; refine (specInR_any _ _ _ _).mono ?_; rintro e w1 ⟨rfl, rfl⟩))
      refine bodyPost_ret (v := .bool (inR i 1 4)) (by simp [results, Try.results84, go_sem]) rfl ⟨by rw [Hr.out, Ha.out, Bool.true_and], rfl⟩
  · have Hr := Lib.hid (show rowOk l = false by unfold rowOk; rw [decide_eq_false (by omega), Bool.false_and])
    go_enter Try.func84, Try.ntmps84
    go_wp2_with fail
    refine bodyPost_ret (v := .bool false) (by simp [results, Try.results84, go_sem]) rfl ⟨by rw [Hr.out]; rfl, rfl⟩

/-- Between two operations of the region that makes a tee, by the reference. -/
structure NS (A : Option Addr) (c : Nat) (l : List Int) (n : Nat) (s0 z0 : Nat) (w : World) (b0 b1 b2 b3 b4 b5 b6 b7 b8 : Bool) (t5 t7 t8 t9 t10 t11 t12 t13 : Value) (R1 : Option Addr) (k1 lo1 hi1 lo2 g3 s1 : Nat) (x : World) : Prop where
  bl : Below s0 w x
  sz : z0 ≤ x.heap.size
  br : Bk x s0 27 [.slice none 0 0, .int .i64 0, .slice none 0 0, .slice none 0 0]
  bs : b8 = true → Bk x s1 27 [.slice R1 l.length k1, .int .i64 0, .slice (some ⟨lo2, 0, none⟩) n n, .slice (some ⟨g3, 0, none⟩) n n]
  bz : b7 = true → b8 = false → Bk x s1 27 [.slice none 0 0, .int .i64 0, .slice none 0 0, .slice none 0 0]
  d0 : b0 = true → t7 = .slice A l.length c
  d1 : b1 = true → t8 = .slice R1 l.length k1 ∧ OwnI x lo1 hi1 R1 l ∧ z0 ≤ lo1 ∧ lo1 ≤ hi1 ∧ hi1 ≤ x.heap.size
  d2 : b2 = true → t9 = .int .i64 n
  d3 : b3 = true → t10 = .slice (some ⟨lo2, 0, none⟩) n n ∧ Bk x lo2 3 (ints (List.replicate n 0)) ∧ z0 ≤ lo2
  d4 : b4 = true → t11 = .int .i64 n
  d5 : b5 = true → t12 = .slice (some ⟨g3, 0, none⟩) n n ∧ Bk x g3 4 (bools (rep n 0)) ∧ z0 ≤ g3
  d6 : b6 = true → t13 = .agg #[.slice R1 l.length k1, .int .i64 0, .slice (some ⟨lo2, 0, none⟩) n n, .slice (some ⟨g3, 0, none⟩) n n]
  d7 : b7 = true → t5 = .pointer (some ⟨s1, 0, none⟩) ∧ z0 ≤ s1 ∧ s1 < x.heap.size
  f13 : b1 = true → b3 = true → hi1 ≤ lo2 ∨ lo2 + 1 ≤ lo1
  f15 : b1 = true → b5 = true → hi1 ≤ g3 ∨ g3 + 1 ≤ lo1
  f35 : b3 = true → b5 = true → lo2 ≠ g3
  f17 : b1 = true → b7 = true → hi1 ≤ s1 ∨ s1 + 1 ≤ lo1
  f37 : b3 = true → b7 = true → lo2 ≠ s1
  f57 : b5 = true → b7 = true → g3 ≠ s1
  o1 : b1 = true → b0 = true
  o3 : b3 = true → b2 = true
  o5 : b5 = true → b4 = true
  o6 : b6 = true → b1 = true ∧ b3 = true ∧ b5 = true
  o8 : b8 = true → b6 = true ∧ b7 = true
section
variable {A : Option Addr} {c : Nat} {l : List Int} {n : Nat} {s0 z0 : Nat} {w : World} {b0 b1 b2 b3 b4 b5 b6 b7 b8 : Bool} {t5 t7 t8 t9 t10 t11 t12 t13 : Value} {R1 : Option Addr} {k1 lo1 hi1 lo2 g3 s1 : Nat} {x y : World}
theorem NS.next (h : NS A c l n s0 z0 w b0 b1 b2 b3 b4 b5 b6 b7 b8 t5 t7 t8 t9 t10 t11 t12 t13 R1 k1 lo1 hi1 lo2 g3 s1 x) (hb : Below x.heap.size x y) (hs : s0 ≤ x.heap.size) : NS A c l n s0 z0 w b0 b1 b2 b3 b4 b5 b6 b7 b8 t5 t7 t8 t9 t10 t11 t12 t13 R1 k1 lo1 hi1 lo2 g3 s1 y :=
  ⟨h.bl.trans (hb.mono hs), Nat.le_trans h.sz hb.size, h.br.below hb h.br.lt, fun e => (h.bs e).below hb (h.bs e).lt, fun e f => (h.bz e f).below hb (h.bz e f).lt, h.d0, fun e => ⟨(h.d1 e).1, (h.d1 e).2.1.next_ hb (h.d1 e).2.2.2.2, (h.d1 e).2.2.1, (h.d1 e).2.2.2.1, Nat.le_trans (h.d1 e).2.2.2.2 hb.size⟩, h.d2, fun e => ⟨(h.d3 e).1, (h.d3 e).2.1.below hb (h.d3 e).2.1.lt, (h.d3 e).2.2⟩, h.d4, fun e => ⟨(h.d5 e).1, (h.d5 e).2.1.below hb (h.d5 e).2.1.lt, (h.d5 e).2.2⟩, h.d6, fun e => ⟨(h.d7 e).1, (h.d7 e).2.1, Nat.lt_of_lt_of_le (h.d7 e).2.2 hb.size⟩, h.f13, h.f15, h.f35, h.f17, h.f37, h.f57, h.o1, h.o3, h.o5, h.o6, h.o8⟩
end

set_option maxRecDepth 100000 in
set_option maxHeartbeats 12800000 in
theorem newTee_any (A : Option Addr) (c : Nat) (l : List Int) (n : Nat) (h1 : 1 ≤ n) (h4 : n ≤ 4) (w : World) (B : Nat) (h : RdI w B A l) (hB : B ≤ w.heap.size) (hnl : l.length ≤ 1048576) :
    Calls Try.prog 71 #[.slice A l.length c, .int .i64 n] w fun e w' => ∃ r' : Tr, e = .returned (.agg #[.slice r'.a1 (newT l n).it.length r'.c1, .int .i64 (newT l n).fd, .slice r'.a2 (newT l n).pl.length r'.c2, .slice r'.a3 (newT l n).op.length r'.c3]) ∧ OwnT w' w.heap.size w'.heap.size r' (newT l n) ∧ Below w.heap.size w w' := by
  obtain ⟨W0, hW0⟩ : ∃ W : World, W = w.alloc (.cells #[.slice none 0 0, .int .i64 0, .slice none 0 0, .slice none 0 0] 27) := ⟨_, rfl⟩
  have hb0 : Below w.heap.size w W0 := by rw [hW0]; exact (Below.refl _ _).alloc (Nat.le_refl _) _
  have bres : Bk W0 w.heap.size 27 [.slice none 0 0, .int .i64 0, .slice none 0 0, .slice none 0 0] := by
    rw [hW0]
    exact Bk.new w 27 [.slice none 0 0, .int .i64 0, .slice none 0 0, .slice none 0 0]
  have hs0 : W0.heap.size = w.heap.size + 1 := by rw [hW0]; simp
  have HT := Lib.hid h
  have Hb0 := Lib.hid hb0
  have HW0 := Lib.hid hW0
  have Br := Lib.hid bres
  have Hs0 := Lib.hid hs0
  have Hmk := Lib.hid (run_make_row' (P := Try.prog) 22 3 (.int .i64 0) 8 Try.underlying22 Try.infoInt rfl .i64 .i64 n (by omega) (by omega))
  have Hmb := Lib.hid (run_make_row' (P := Try.prog) 23 4 (.bool false) 1 Try.underlying23 Try.infoBool rfl .i64 .i64 n (by omega) (by omega))
  clear h hb0 hW0 hs0 bres
  go_enter Try.func71, Try.ntmps71
  go_wp2_with fail
  rw [← HW0.out]
  refine Code.wp_mono (Q := fun e a x => e = .normal ∧ ∃ (t7 t8 t9 t10 t11 t12 t13 : Value) (R1 : Option Addr) (k1 lo1 hi1 lo2 g3 s1 : Nat), a = ({ tmps := #[.slice A l.length c, .int .i64 n, undef, undef, .pointer (some ⟨w.heap.size, 0, none⟩), .pointer (some ⟨s1, 0, none⟩), undef, t7, t8, t9, t10, t11, t12, t13, undef, undef, undef, undef, undef, undef, undef, undef, undef, undef], defers := [] } : Act) ∧ Bk x w.heap.size 27 [.slice none 0 0, .int .i64 0, .slice none 0 0, .slice none 0 0] ∧ Bk x s1 27 [.slice R1 l.length k1, .int .i64 0, .slice (some ⟨lo2, 0, none⟩) n n, .slice (some ⟨g3, 0, none⟩) n n] ∧ Below w.heap.size w x ∧ W0.heap.size ≤ x.heap.size ∧ (OwnI x lo1 hi1 R1 l ∧ W0.heap.size ≤ lo1 ∧ lo1 ≤ hi1 ∧ hi1 ≤ x.heap.size) ∧ (Bk x lo2 3 (ints (List.replicate n 0)) ∧ W0.heap.size ≤ lo2) ∧ (Bk x g3 4 (bools (rep n 0)) ∧ W0.heap.size ≤ g3) ∧ W0.heap.size ≤ s1 ∧ (hi1 ≤ lo2 ∨ lo2 + 1 ≤ lo1) ∧ (hi1 ≤ g3 ∨ g3 + 1 ≤ lo1) ∧ lo2 ≠ g3 ∧ (hi1 ≤ s1 ∨ s1 + 1 ≤ lo1) ∧ lo2 ≠ s1 ∧ g3 ≠ s1) ?after ?region
  case region =>
    refine wp_region_any (by kernel_rfl) (wpAny_invL (I := (fun k listed a x => ∃ b0 b1 b2 b3 b4 b5 b6 b7 b8 t5 t7 t8 t9 t10 t11 t12 t13 R1 k1 lo1 hi1 lo2 g3 s1, k = nfC b0 + nfC b1 + nfC b2 + nfC b3 + nfC b4 + nfC b5 + nfC b6 + nfC b7 + nfC b8 ∧ listed = #[b0, b1, b2, b3, b4, b5, b6, b7, b8] ∧ a = ({ tmps := #[.slice A l.length c, .int .i64 n, undef, undef, .pointer (some ⟨w.heap.size, 0, none⟩), t5, undef, t7, t8, t9, t10, t11, t12, t13, undef, undef, undef, undef, undef, undef, undef, undef, undef, undef], defers := [] } : Act) ∧ NS A c l n w.heap.size W0.heap.size w b0 b1 b2 b3 b4 b5 b6 b7 b8 t5 t7 t8 t9 t10 t11 t12 t13 R1 k1 lo1 hi1 lo2 g3 s1 x)) ?h0 ?hd ?hs 9 _ _ _ ?start)
    case start => exact ⟨false, false, false, false, false, false, false, false, false, _, _, _, _, _, _, _, _, none, 0, 0, 0, 0, 0, 0, rfl, rfl, rfl, ⟨Hb0.out.drew, by exact Nat.le_refl _, Bk.drewN Br.out 1, fun e => absurd e (by decide), fun e => absurd e (by decide), fun e => absurd e (by decide), fun e => absurd e (by decide), fun e => absurd e (by decide), fun e => absurd e (by decide), fun e => absurd e (by decide), fun e => absurd e (by decide), fun e => absurd e (by decide), fun e => absurd e (by decide), fun e => absurd e (by decide), fun e => absurd e (by decide), fun e => absurd e (by decide), fun e => absurd e (by decide), fun e => absurd e (by decide), fun e => absurd e (by decide), fun e => absurd e (by decide), fun e => absurd e (by decide), fun e => absurd e (by decide), fun e => absurd e (by decide), fun e => absurd e (by decide)⟩⟩
    case h0 =>
      rintro listed a x ⟨b0, b1, b2, b3, b4, b5, b6, b7, b8, t5, t7, t8, t9, t10, t11, t12, t13, R1, k1, lo1, hi1, lo2, g3, s1, hn, rfl, rfl, hI⟩
      obtain rfl : b0 = true := by
        cases b0 with
        | true => rfl
        | false => simp only [nfC] at hn; omega
      obtain rfl : b1 = true := by
        cases b1 with
        | true => rfl
        | false => simp only [nfC] at hn; omega
      obtain rfl : b2 = true := by
        cases b2 with
        | true => rfl
        | false => simp only [nfC] at hn; omega
      obtain rfl : b3 = true := by
        cases b3 with
        | true => rfl
        | false => simp only [nfC] at hn; omega
      obtain rfl : b4 = true := by
        cases b4 with
        | true => rfl
        | false => simp only [nfC] at hn; omega
      obtain rfl : b5 = true := by
        cases b5 with
        | true => rfl
        | false => simp only [nfC] at hn; omega
      obtain rfl : b6 = true := by
        cases b6 with
        | true => rfl
        | false => simp only [nfC] at hn; omega
      obtain rfl : b7 = true := by
        cases b7 with
        | true => rfl
        | false => simp only [nfC] at hn; omega
      obtain rfl : b8 = true := by
        cases b8 with
        | true => rfl
        | false => simp only [nfC] at hn; omega
      rfl
    case hd =>
      rintro k9 listed a x ⟨b0, b1, b2, b3, b4, b5, b6, b7, b8, t5, t7, t8, t9, t10, t11, t12, t13, R1, k1, lo1, hi1, lo2, g3, s1, hn, rfl, rfl, hI⟩ hr
      have hall := List.filter_eq_nil_iff.1 hr
      obtain rfl : b0 = true := by
        have q := hall 0 (List.mem_range.2 (by decide))
        simpa [Region.binds] using q
      obtain rfl : b1 = true := by
        have q := hall 1 (List.mem_range.2 (by decide))
        simpa [Region.binds] using q
      obtain rfl : b2 = true := by
        have q := hall 2 (List.mem_range.2 (by decide))
        simpa [Region.binds] using q
      obtain rfl : b3 = true := by
        have q := hall 3 (List.mem_range.2 (by decide))
        simpa [Region.binds] using q
      obtain rfl : b4 = true := by
        have q := hall 4 (List.mem_range.2 (by decide))
        simpa [Region.binds] using q
      obtain rfl : b5 = true := by
        have q := hall 5 (List.mem_range.2 (by decide))
        simpa [Region.binds] using q
      obtain rfl : b6 = true := by
        have q := hall 6 (List.mem_range.2 (by decide))
        simpa [Region.binds] using q
      obtain rfl : b7 = true := by
        have q := hall 7 (List.mem_range.2 (by decide))
        simpa [Region.binds] using q
      obtain rfl : b8 = true := by
        have q := hall 8 (List.mem_range.2 (by decide))
        simpa [Region.binds] using q
      obtain ⟨_, q1, q2, q3, q4⟩ := hI.d1 rfl
      obtain ⟨_, q5, q6⟩ := hI.d3 rfl
      obtain ⟨_, q7, q8⟩ := hI.d5 rfl
      obtain ⟨rfl, q9, q10⟩ := hI.d7 rfl
      exact ⟨rfl, _, _, _, _, _, _, _, R1, k1, lo1, hi1, lo2, g3, s1, rfl, hI.br, hI.bs rfl, hI.bl, hI.sz, ⟨q1, q2, q3, q4⟩, ⟨q5, q6⟩, ⟨q7, q8⟩, q9, hI.f13 rfl rfl, hI.f15 rfl rfl, hI.f35 rfl rfl, hI.f17 rfl rfl, hI.f37 rfl rfl, hI.f57 rfl rfl⟩
    case hs =>
      rintro k9 listed a x ⟨b0, b1, b2, b3, b4, b5, b6, b7, b8, t5, t7, t8, t9, t10, t11, t12, t13, R1, k1, lo1, hi1, lo2, g3, s1, hn, rfl, rfl, hI⟩ i hi
      obtain ⟨hi1, hi2, hi3⟩ := ready_memL hi
      have hi4 : i < 9 := hi1
      have hs0 := Hs0.out
      clear hi hi1
      rcases (show i = 0 ∨ i = 1 ∨ i = 2 ∨ i = 3 ∨ i = 4 ∨ i = 5 ∨ i = 6 ∨ i = 7 ∨ i = 8 by omega) with rfl | rfl | rfl | rfl | rfl | rfl | rfl | rfl | rfl
      · -- operation 0
        obtain rfl : b0 = false := hi2
        have hsx : w.heap.size ≤ x.heap.size := by have := hI.bl.size; exact this
        clear hi3 hi4
        refine wpOp_ofL (o := _) rfl rfl fun K' hK => ?_
        have HK := Lib.hid hK
        clear hK
        go_wp2_with fail
        have hbxy := Below.refl x.heap.size x
        have h9 := hI.next hbxy hsx
        refine HK.out _ _ ⟨true, b1, b2, b3, b4, b5, b6, b7, b8, _, _, _, _, _, _, _, _, R1, k1, lo1, hi1, lo2, g3, s1, by simp only [nfC] at hn ⊢; omega, rfl, rfl, ?_⟩
        exact ⟨h9.bl, h9.sz, h9.br, h9.bs, h9.bz, fun _ => rfl, h9.d1, h9.d2, h9.d3, h9.d4, h9.d5, h9.d6, h9.d7, h9.f13, h9.f15, h9.f35, h9.f17, h9.f37, h9.f57, fun _ => rfl, h9.o3, h9.o5, h9.o6, h9.o8⟩
      · -- operation 1
        obtain rfl : b1 = false := hi2
        have hdp : b0 = true := by
          have h7 := hi3
          simp [Region.binds] at h7
          first | exact h7 | exact ⟨h7.1, h7.2⟩ | (simp [h7]; done)
        obtain rfl := hI.d0 hdp
        have hrd := HT.out.below hI.bl hB
        have hzx := hI.sz
        have hn6 : b6 = false := by
          cases hbb : b6 with
          | false => rfl
          | true => exact absurd ((hI.o6 hbb).1) (by decide)
        have hn8 : b8 = false := by
          cases hbb : b8 with
          | false => rfl
          | true => exact absurd ((hI.o6 (hI.o8 hbb).1).1) (by decide)
        subst hn6 hn8
        have hsx : w.heap.size ≤ x.heap.size := by have := hI.bl.size; exact this
        clear hi3 hi4
        refine wpOp_ofL (o := _) rfl rfl fun K' hK => ?_
        have HK := Lib.hid hK
        clear hK
        go_wp2_with fail
        refine (specCopyIntsA A c l x B hrd (by omega) hnl).mono ?_
        rintro e y ⟨R, cR, rfl, ho, hbxy⟩
        have h9 := hI.next hbxy hsx
        refine HK.out _ _ ⟨b0, true, b2, b3, b4, b5, false, b7, false, _, _, _, _, _, _, _, _, R, cR, x.heap.size, y.heap.size, lo2, g3, s1, by simp only [nfC] at hn ⊢; omega, rfl, rfl, ?_⟩
        exact ⟨h9.bl, h9.sz, h9.br, fun e => absurd e (by decide), h9.bz, h9.d0, fun _ => ⟨rfl, ho.ownI, hzx, hbxy.size, Nat.le_refl _⟩, h9.d2, h9.d3, h9.d4, h9.d5, fun e => absurd e (by decide), h9.d7, fun _ e3 => .inr (hI.d3 e3).2.1.lt, fun _ e3 => .inr (hI.d5 e3).2.1.lt, h9.f35, fun _ e3 => .inr (hI.d7 e3).2.2, h9.f37, h9.f57, fun _ => hdp, h9.o3, h9.o5, fun e => absurd e (by decide), fun e => absurd e (by decide)⟩
      · -- operation 2
        obtain rfl : b2 = false := hi2
        have hsx : w.heap.size ≤ x.heap.size := by have := hI.bl.size; exact this
        clear hi3 hi4
        refine wpOp_ofL (o := _) rfl rfl fun K' hK => ?_
        have HK := Lib.hid hK
        clear hK
        go_wp2_with fail
        have hbxy := Below.refl x.heap.size x
        have h9 := hI.next hbxy hsx
        refine HK.out _ _ ⟨b0, b1, true, b3, b4, b5, b6, b7, b8, _, _, _, _, _, _, _, _, R1, k1, lo1, hi1, lo2, g3, s1, by simp only [nfC] at hn ⊢; omega, rfl, rfl, ?_⟩
        exact ⟨h9.bl, h9.sz, h9.br, h9.bs, h9.bz, h9.d0, h9.d1, fun _ => rfl, h9.d3, h9.d4, h9.d5, h9.d6, h9.d7, h9.f13, h9.f15, h9.f35, h9.f17, h9.f37, h9.f57, h9.o1, fun _ => rfl, h9.o5, h9.o6, h9.o8⟩
      · -- operation 3
        obtain rfl : b3 = false := hi2
        have hdp : b2 = true := by
          have h7 := hi3
          simp [Region.binds] at h7
          first | exact h7 | exact ⟨h7.1, h7.2⟩ | (simp [h7]; done)
        obtain rfl := hI.d2 hdp
        have hzx := hI.sz
        have hmk := Hmk.out
        have hn6 : b6 = false := by
          cases hbb : b6 with
          | false => rfl
          | true => exact absurd ((hI.o6 hbb).2.1) (by decide)
        have hn8 : b8 = false := by
          cases hbb : b8 with
          | false => rfl
          | true => exact absurd ((hI.o6 (hI.o8 hbb).1).2.1) (by decide)
        subst hn6 hn8
        have hsx : w.heap.size ≤ x.heap.size := by have := hI.bl.size; exact this
        clear hi3 hi4
        refine wpOp_ofL (o := _) rfl rfl fun K' hK => ?_
        have HK := Lib.hid hK
        clear hK
        go_wp2_with fail
        have hbxy : Below x.heap.size x (x.alloc (.cells (madeCells #[Value.int .i64 0] n) 3)) := (Below.refl _ _).alloc (Nat.le_refl _) _
        have h9 := hI.next hbxy hsx
        refine HK.out _ _ ⟨b0, b1, b2, true, b4, b5, false, b7, false, _, _, _, _, _, _, _, _, R1, k1, lo1, hi1, x.heap.size, g3, s1, by simp only [nfC] at hn ⊢; omega, rfl, rfl, ?_⟩
        exact ⟨h9.bl, h9.sz, h9.br, fun e => absurd e (by decide), h9.bz, h9.d0, h9.d1, h9.d2, fun _ => ⟨rfl, bk_zeros x n, hzx⟩, h9.d4, h9.d5, fun e => absurd e (by decide), h9.d7, fun e1 _ => .inl (hI.d1 e1).2.2.2.2, h9.f15, fun _ e6 => by have := (hI.d5 e6).2.1.lt; omega, h9.f17, fun _ e6 => by have := (hI.d7 e6).2.2; omega, h9.f57, h9.o1, fun _ => hdp, h9.o5, fun e => absurd e (by decide), fun e => absurd e (by decide)⟩
      · -- operation 4
        obtain rfl : b4 = false := hi2
        have hsx : w.heap.size ≤ x.heap.size := by have := hI.bl.size; exact this
        clear hi3 hi4
        refine wpOp_ofL (o := _) rfl rfl fun K' hK => ?_
        have HK := Lib.hid hK
        clear hK
        go_wp2_with fail
        have hbxy := Below.refl x.heap.size x
        have h9 := hI.next hbxy hsx
        refine HK.out _ _ ⟨b0, b1, b2, b3, true, b5, b6, b7, b8, _, _, _, _, _, _, _, _, R1, k1, lo1, hi1, lo2, g3, s1, by simp only [nfC] at hn ⊢; omega, rfl, rfl, ?_⟩
        exact ⟨h9.bl, h9.sz, h9.br, h9.bs, h9.bz, h9.d0, h9.d1, h9.d2, h9.d3, fun _ => rfl, h9.d5, h9.d6, h9.d7, h9.f13, h9.f15, h9.f35, h9.f17, h9.f37, h9.f57, h9.o1, h9.o3, fun _ => rfl, h9.o6, h9.o8⟩
      · -- operation 5
        obtain rfl : b5 = false := hi2
        have hdp : b4 = true := by
          have h7 := hi3
          simp [Region.binds] at h7
          first | exact h7 | exact ⟨h7.1, h7.2⟩ | (simp [h7]; done)
        obtain rfl := hI.d4 hdp
        have hzx := hI.sz
        have hmk := Hmb.out
        have hn6 : b6 = false := by
          cases hbb : b6 with
          | false => rfl
          | true => exact absurd ((hI.o6 hbb).2.2) (by decide)
        have hn8 : b8 = false := by
          cases hbb : b8 with
          | false => rfl
          | true => exact absurd ((hI.o6 (hI.o8 hbb).1).2.2) (by decide)
        subst hn6 hn8
        have hsx : w.heap.size ≤ x.heap.size := by have := hI.bl.size; exact this
        clear hi3 hi4
        refine wpOp_ofL (o := _) rfl rfl fun K' hK => ?_
        have HK := Lib.hid hK
        clear hK
        go_wp2_with fail
        have hbxy : Below x.heap.size x (x.alloc (.cells (madeCells #[Value.bool false] n) 4)) := (Below.refl _ _).alloc (Nat.le_refl _) _
        have h9 := hI.next hbxy hsx
        refine HK.out _ _ ⟨b0, b1, b2, b3, b4, true, false, b7, false, _, _, _, _, _, _, _, _, R1, k1, lo1, hi1, lo2, x.heap.size, s1, by simp only [nfC] at hn ⊢; omega, rfl, rfl, ?_⟩
        exact ⟨h9.bl, h9.sz, h9.br, fun e => absurd e (by decide), h9.bz, h9.d0, h9.d1, h9.d2, h9.d3, h9.d4, fun _ => ⟨rfl, bk_falses x n, hzx⟩, fun e => absurd e (by decide), h9.d7, h9.f13, fun e1 _ => .inl (hI.d1 e1).2.2.2.2, fun e3 _ => by have := (hI.d3 e3).2.1.lt; omega, h9.f17, h9.f37, fun _ e6 => by have := (hI.d7 e6).2.2; omega, h9.o1, h9.o3, fun _ => hdp, fun e => absurd e (by decide), fun e => absurd e (by decide)⟩
      · -- operation 6
        obtain rfl : b6 = false := hi2
        have hdp : b1 = true ∧ b3 = true ∧ b5 = true := by
          have h7 := hi3
          simp [Region.binds] at h7
          first | exact h7 | exact ⟨h7.1, h7.2⟩ | (simp [h7]; done)
        obtain ⟨rfl, g1⟩ := hI.d1 hdp.1
        obtain ⟨rfl, g2⟩ := hI.d3 hdp.2.1
        obtain ⟨rfl, g4⟩ := hI.d5 hdp.2.2
        have hn8 : b8 = false := by
          cases hbb : b8 with
          | false => rfl
          | true => exact absurd ((hI.o8 hbb).1) (by decide)
        subst hn8
        have hsx : w.heap.size ≤ x.heap.size := by have := hI.bl.size; exact this
        clear hi3 hi4
        refine wpOp_ofL (o := _) rfl rfl fun K' hK => ?_
        have HK := Lib.hid hK
        clear hK
        go_wp2_with fail
        have hbxy := Below.refl x.heap.size x
        have h9 := hI.next hbxy hsx
        refine HK.out _ _ ⟨b0, b1, b2, b3, b4, b5, true, b7, false, _, _, _, _, _, _, _, _, R1, k1, lo1, hi1, lo2, g3, s1, by simp only [nfC] at hn ⊢; omega, rfl, rfl, ?_⟩
        exact ⟨h9.bl, h9.sz, h9.br, fun e => absurd e (by decide), h9.bz, h9.d0, fun e => ⟨rfl, (h9.d1 e).2⟩, h9.d2, fun e => ⟨rfl, (h9.d3 e).2⟩, h9.d4, fun e => ⟨rfl, (h9.d5 e).2⟩, fun _ => rfl, h9.d7, h9.f13, h9.f15, h9.f35, h9.f17, h9.f37, h9.f57, h9.o1, h9.o3, h9.o5, fun _ => hdp, fun e => absurd e (by decide)⟩
      · -- operation 7
        obtain rfl : b7 = false := hi2
        have hzx := hI.sz
        have hn8 : b8 = false := by
          cases hbb : b8 with
          | false => rfl
          | true => exact absurd ((hI.o8 hbb).2) (by decide)
        subst hn8
        have hsx : w.heap.size ≤ x.heap.size := by have := hI.bl.size; exact this
        clear hi3 hi4
        refine wpOp_ofL (o := _) rfl rfl fun K' hK => ?_
        have HK := Lib.hid hK
        clear hK
        go_wp2_with fail
        have hbxy : Below x.heap.size x (x.alloc (.cells #[.slice none 0 0, .int .i64 0, .slice none 0 0, .slice none 0 0] 27)) := (Below.refl _ _).alloc (Nat.le_refl _) _
        have h9 := hI.next hbxy hsx
        refine HK.out _ _ ⟨b0, b1, b2, b3, b4, b5, b6, true, false, _, _, _, _, _, _, _, _, R1, k1, lo1, hi1, lo2, g3, x.heap.size, by simp only [nfC] at hn ⊢; omega, rfl, rfl, ?_⟩
        exact ⟨h9.bl, h9.sz, h9.br, fun e => absurd e (by decide), fun _ _ => Bk.new x 27 [.slice none 0 0, .int .i64 0, .slice none 0 0, .slice none 0 0], h9.d0, h9.d1, h9.d2, h9.d3, h9.d4, h9.d5, h9.d6, fun _ => ⟨rfl, hzx, by simp⟩, h9.f13, h9.f15, h9.f35, fun e1 _ => .inl (hI.d1 e1).2.2.2.2, fun e3 _ => by have := (hI.d3 e3).2.1.lt; omega, fun e3 _ => by have := (hI.d5 e3).2.1.lt; omega, h9.o1, h9.o3, h9.o5, h9.o6, fun e => absurd e (by decide)⟩
      · -- operation 8
        obtain rfl : b8 = false := hi2
        have hdp : b6 = true ∧ b7 = true := by
          have h7 := hi3
          simp [Region.binds] at h7
          first | exact h7 | exact ⟨h7.1, h7.2⟩ | (simp [h7]; done)
        obtain rfl := hI.d6 hdp.1
        obtain ⟨rfl, hs1, hs2⟩ := hI.d7 hdp.2
        have hbr := hI.bz hdp.2 rfl
        obtain ⟨cr0, cr1, cr2, cr3⟩ := hbr.cellsT
        obtain ⟨fr0, fr1, fr2, fr3⟩ := hbr.freeT
        have hzx := hI.sz
        obtain ⟨e1, e3, e5⟩ := hI.o6 hdp.1
        have f17 := hI.f17 e1 hdp.2
        have f37 := hI.f37 e3 hdp.2
        have f57 := hI.f57 e5 hdp.2
        have hsx : w.heap.size ≤ x.heap.size := by have := hI.bl.size; exact this
        clear hi3 hi4
        refine wpOp_ofL (o := _) rfl rfl fun K' hK => ?_
        have HK := Lib.hid hK
        clear hK
        go_wp2_with fail
        obtain ⟨y, hy⟩ : ∃ y : World, y = (((x.setCell ⟨s1, 0, none⟩ (.slice R1 l.length k1)).setCell ⟨s1, 1, none⟩ (.int .i64 0)).setCell ⟨s1, 2, none⟩ (.slice (some ⟨lo2, 0, none⟩) n n)).setCell ⟨s1, 3, none⟩ (.slice (some ⟨g3, 0, none⟩) n n) := ⟨_, rfl⟩
        rw [← hy]
        have hbk := (((hbr.set_ 0 (.slice R1 l.length k1)).set_ 1 (.int .i64 0)).set_ 2 (.slice (some ⟨lo2, 0, none⟩) n n)).set_ 3 (.slice (some ⟨g3, 0, none⟩) n n)
        rw [← hy] at hbk
        have farh : ∀ b, b ≠ s1 → y.heap[b]? = x.heap[b]? := fun b hne => by
          have far : ∀ (v : World) (j : Nat) (u : Value), (v.setCell ⟨s1, j, none⟩ u).heap[b]? = v.heap[b]? := fun v j u => Below.heap_setCell v _ u b (by exact hne)
          rw [hy, far, far, far, far]
        have hszx : y.heap.size = x.heap.size := by rw [hy]; simp [World.setCell]
        have hbl2 : Below w.heap.size w y := by rw [hy]; exact (((hI.bl.setCell (by show w.heap.size ≤ s1; omega) _).setCell (by show w.heap.size ≤ s1; omega) _).setCell (by show w.heap.size ≤ s1; omega) _).setCell (by show w.heap.size ≤ s1; omega) _
        refine HK.out _ _ ⟨b0, b1, b2, b3, b4, b5, b6, b7, true, _, _, _, _, _, _, _, _, R1, k1, lo1, hi1, lo2, g3, s1, by simp only [nfC] at hn ⊢; omega, rfl, rfl, ?_⟩
        exact ⟨hbl2, by rw [hszx]; exact hzx, (farh _ (by omega)).trans hI.br, fun _ => hbk, fun _ e => absurd e (by decide), hI.d0, fun e => ⟨(hI.d1 e).1, (hI.d1 e).2.1.agree fun b hb _ => farh b (by omega), (hI.d1 e).2.2.1, (hI.d1 e).2.2.2.1, by rw [hszx]; exact (hI.d1 e).2.2.2.2⟩, hI.d2, fun e => ⟨(hI.d3 e).1, (farh _ f37).trans (hI.d3 e).2.1, (hI.d3 e).2.2⟩, hI.d4, fun e => ⟨(hI.d5 e).1, (farh _ f57).trans (hI.d5 e).2.1, (hI.d5 e).2.2⟩, hI.d6, fun e => ⟨rfl, hs1, by rw [hszx]; exact hs2⟩, hI.f13, hI.f15, hI.f35, hI.f17, hI.f37, hI.f57, hI.o1, hI.o3, hI.o5, hI.o6, fun _ => hdp⟩
  case after =>
    rintro e a x ⟨rfl, t7, t8, t9, t10, t11, t12, t13, R1, k1, lo1, hi1, lo2, g3, s1, rfl, hbr, hbs, hbl, hsz, ⟨q1, q2, q3, q4⟩, ⟨q5, q6⟩, ⟨q7, q8⟩, q9, f13, f15, f35, f17, f37, f57⟩
    have Hin := Lib.hid (show _ ∧ _ ∧ _ ∧ _ ∧ _ ∧ _ from ⟨hbr, hbs, hbl, q1, q5, q7⟩)
    have hs0 := Hs0.out
    have hsx : x.heap.size = x.heap.size := rfl
    clear hbr hbs hbl q1 q5 q7
    go_wp2_with fail
    go_loopw [6] (fun ii wr => ∃ j : Nat, j ≤ n ∧ ii = .int .i64 j ∧ Hid (Bk wr w.heap.size 27 [.slice none 0 0, .int .i64 0, .slice none 0 0, .slice none 0 0] ∧ Bk wr s1 27 [.slice R1 l.length k1, .int .i64 0, .slice (some ⟨lo2, 0, none⟩) n n, .slice (some ⟨g3, 0, none⟩) n n] ∧ Below w.heap.size w wr ∧ OwnI wr lo1 hi1 R1 l ∧ Bk wr lo2 3 (ints (List.replicate n 0)) ∧ Bk wr g3 4 (bools (rep n j)) ∧ hi1 ≤ wr.heap.size)) (fun ii _ => n - (intOf ii).toNat)
    case atStart => exact ⟨0, Nat.zero_le _, rfl, Hin.out.1, Hin.out.2.1, Hin.out.2.2.1, Hin.out.2.2.2.1, Hin.out.2.2.2.2.1, Hin.out.2.2.2.2.2, q4⟩
    case round =>
      obtain ⟨j, hj, rfl, hin⟩ := hrel
      clear Hin
      obtain ⟨cs0, cs1, cs2, cs3⟩ := hin.out.2.1.cellsT
      by_cases hlt : j < n
      · have hold : ∃ u, wr.cell? ⟨g3, j, none⟩ = some u := by
          rw [hin.out.2.2.2.2.2.1.cell]; exact get_of_lt _ (by simp [bools, rep_len (Nat.le_of_lt hlt)]; omega)
        obtain ⟨u, hu⟩ := hold
        have hf := hin.out.2.2.2.2.2.1.free j
        go_wp2_with fail
        go_roundw
        case rel =>
          refine ⟨j + 1, by omega, by go_num, ?_⟩
          obtain ⟨p1, p2, p3, p4, p5, p6, p7⟩ := hin.out
          exact ⟨p1.far (by show w.heap.size ≠ g3; omega) _, p2.far (by show s1 ≠ g3; omega) _, p3.setCell (by show w.heap.size ≤ g3; omega) _, p4.agree fun b hb hc => Below.heap_setCell wr _ _ b (by show b ≠ g3; omega), p5.far (by show lo2 ≠ g3; omega) _, rep_set p6 hlt, by simpa [World.setCell] using p7⟩
        case measure => simp [intOf]; omega
      · obtain rfl : j = n := by omega
        obtain ⟨cr0, cr1, cr2, cr3⟩ := hin.out.1.cellsT
        obtain ⟨fr0, fr1, fr2, fr3⟩ := hin.out.1.freeT
        go_wp2_with fail
        refine bodyPost_ret (v := .agg #[.slice (⟨R1, k1, some ⟨lo2, 0, none⟩, j, some ⟨g3, 0, none⟩, j⟩ : Tr).a1 (newT l j).it.length (⟨R1, k1, some ⟨lo2, 0, none⟩, j, some ⟨g3, 0, none⟩, j⟩ : Tr).c1, .int .i64 (newT l j).fd, .slice (⟨R1, k1, some ⟨lo2, 0, none⟩, j, some ⟨g3, 0, none⟩, j⟩ : Tr).a2 (newT l j).pl.length (⟨R1, k1, some ⟨lo2, 0, none⟩, j, some ⟨g3, 0, none⟩, j⟩ : Tr).c2, .slice (⟨R1, k1, some ⟨lo2, 0, none⟩, j, some ⟨g3, 0, none⟩, j⟩ : Tr).a3 (newT l j).op.length (⟨R1, k1, some ⟨lo2, 0, none⟩, j, some ⟨g3, 0, none⟩, j⟩ : Tr).c3]) (by simp [results, Try.results71, go_sem, cr0, cr1, cr2, cr3, newT]) rfl ⟨⟨R1, k1, some ⟨lo2, 0, none⟩, j, some ⟨g3, 0, none⟩, j⟩, rfl, ?_, ?_⟩
        · obtain ⟨p1, p2, p3, p4, p5, p6, p7⟩ := hin.out
          have z5 := p5.lt
          have z6 := p6.lt
          have how : OwnT wr W0.heap.size wr.heap.size ⟨R1, k1, some ⟨lo2, 0, none⟩, j, some ⟨g3, 0, none⟩, j⟩ (newT l j) := ⟨lo1, hi1, lo2, lo2 + 1, g3, g3 + 1, by omega, by omega, by omega, by omega, by omega, by omega, p4, p5.ownI (Nat.le_refl _) (by omega), Bk.ownB (show Bk wr g3 4 (bools (List.replicate j true)) by rw [← rep_all]; exact p6) (Nat.le_refl _) (by omega)⟩
          rw [show (∀ a b c d : Value, ((((wr.setCell ⟨w.heap.size, 0, none⟩ a).setCell ⟨w.heap.size, 1, none⟩ b).setCell ⟨w.heap.size, 2, none⟩ c).setCell ⟨w.heap.size, 3, none⟩ d).heap.size = wr.heap.size) from fun a b c d => by simp [World.setCell]]
          refine (how.agree fun b hb _ => ?_).wide (by omega) (Nat.le_refl _)
          have far : ∀ (v : World) (j : Nat) (u : Value), (v.setCell ⟨w.heap.size, j, none⟩ u).heap[b]? = v.heap[b]? := fun v j u => Below.heap_setCell v _ u b (by show b ≠ w.heap.size; omega)
          rw [far, far, far, far]
        · exact (((hin.out.2.2.1.setCell (Nat.le_refl _) _).setCell (Nat.le_refl _) _).setCell (Nat.le_refl _) _).setCell (Nat.le_refl _) _

end Go.Proofs.Ytjkieedomljelaa
