/- slices.Repeat of a slice of one true, for one to four. -/
import Derived.Test.YtjkieedomljelaaApp
import Derived.Test.YtjkieedomljelaaAnl
import Derived.Test.YtjkieedomljelaaShelf
import Derived.Deep.DeepMust
import Derived.Laws.CopyOwn
namespace Go.Proofs.Ytjkieedomljelaa
open Go.RowKit Go.Deep

/-- The first m of n are true. -/
def rep (n m : Nat) : List Bool := List.replicate m true ++ List.replicate (n - m) false
theorem rep_len {n m : Nat} (h : m ≤ n) : (rep n m).length = n := by simp [rep]; omega
theorem rep_get {n m k : Nat} (h : k < m) : (rep n m)[k]? = some true := by
  rw [rep, List.getElem?_append_left (by simpa using h), List.getElem?_replicate, if_pos h]
theorem rep_all (n : Nat) : rep n n = List.replicate n true := by simp [rep]
theorem rep_more {n m c : Nat} (_h : m + c ≤ n) : (bools (rep n m)).take m ++ List.replicate c (.bool true) ++ (bools (rep n m)).drop (m + c) = bools (rep n (m + c)) := by
  have e1 : (bools (rep n m)).take m = List.replicate m (.bool true) := by
    simp [bools, rep]
  have e2 : (bools (rep n m)).drop (m + c) = List.replicate (n - (m + c)) (.bool false) := by
    rw [bools, ← List.map_drop, rep, List.drop_append, List.drop_eq_nil_of_le (by simp), List.nil_append, List.drop_replicate, List.map_replicate]
    congr 1
    simp
    omega
  rw [e1, e2, bools, rep, List.map_append, List.map_replicate, List.map_replicate, ← List.replicate_append_replicate]
theorem rep_row (n m c : Nat) (h : m + c ≤ n) : (bools (rep n m)).toArray.toList.take m ++ List.replicate c (Value.bool true) ++ (bools (rep n m)).toArray.toList.drop (m + (List.replicate c (Value.bool true)).length) = bools (rep n (m + c)) := by
  rw [List.length_replicate]
  simpa using rep_more h
theorem bk_rep {w : World} {g n m c : Nat} {t : TypeId} (hg : Bk w g t (bools (rep n m))) (h : m + c ≤ n) :
    Bk (w.setRow g ((bools (rep n m)).toArray.toList.take m ++ List.replicate c (Value.bool true) ++ (bools (rep n m)).toArray.toList.drop (m + (List.replicate c (Value.bool true)).length)).toArray) g t (bools (rep n (m + c))) := by
  rw [rep_row n m c h]
  exact setRow_heap w g _ _ t _ hg
theorem rep_src {c j : Nat} {v : Value} (h : (List.replicate c (Value.bool true))[j]? = some v) : j < c ∧ v = .bool true := by
  rw [List.getElem?_replicate] at h
  by_cases hj : j < c
  · rw [if_pos hj] at h
    exact ⟨hj, (Option.some.inj h).symm⟩
  · rw [if_neg hj] at h
    cases h
/-- Between two operations of the region that copies what is there once more. -/
structure RI (s0 g n m c : Nat) (w : World) (b0 b1 b2 b3 b4 b5 b6 b7 b8 b9 : Bool) (t8 t38 t39 t40 t41 t42 t43 t44 t45 t46 : Value) (x : World) : Prop where
  bl : Below s0 w x
  k0 : b7 = false → Bk x g 4 (bools (rep n m))
  k1 : b7 = true → Bk x g 4 (bools (rep n (m + c)))
  d0 : b0 = true → t38 = .int .i64 m
  d1 : b1 = true → t39 = .slice (some ⟨g, 0, none⟩) n n
  d2 : b2 = true → t40 = .int .i64 m
  d3 : b3 = true → t41 = .slice (some ⟨g, m, none⟩) (n - m) (n - m)
  d4 : b4 = true → t42 = .slice (some ⟨g, 0, none⟩) n n
  d5 : b5 = true → t43 = .int .i64 m
  d6 : b6 = true → t44 = .slice (some ⟨g, 0, none⟩) m n
  d7 : b7 = true → t45 = .int .i64 c
  d8 : b8 = true → t46 = .int .i64 ((m : Int) + c)
  v0 : b9 = false → t8 = .int .i64 m
  v1 : b9 = true → t8 = .int .i64 ((m : Int) + c)
  o9 : b9 = true → b0 = true ∧ b2 = true ∧ b5 = true

def nfR : Bool → Nat
  | true => 0
  | false => 1

set_option maxRecDepth 100000 in
set_option maxHeartbeats 6400000 in
theorem repeatB_any (g0 n : Nat) (h1 : 1 ≤ n) (h4 : n ≤ 4) (w : World) (h : Bk w g0 4 [.bool true]) :
    Calls Try.prog 82 #[.slice (some ⟨g0, 0, none⟩) 1 1, .int .i64 n] w fun e w' => ∃ g, e = .returned (.slice (some ⟨g, 0, none⟩) n n) ∧ Bk w' g 4 (bools (List.replicate n true)) ∧ w.heap.size ≤ g ∧ Below w.heap.size w w' := by
  have hmk := run_make_row' (P := Try.prog) 23 4 (.bool false) 1 Try.underlying23 Try.infoBool rfl .i64 .i64 n (by omega) (by omega)
  have Hk := Lib.hid h
  clear h
  go_enter Try.func82, Try.ntmps82
  go_wp2_with fail
  refine (Try.bits_Mul 1 n (by omega) (by omega) w).mono ?_
  rintro e w2 ⟨rfl, rfl⟩
  rw [show (1 * n / 18446744073709551616 : Nat) = 0 from by omega, show (1 * n % 18446744073709551616 : Nat) = n from by omega]
  go_wp2_with fail
  have hg0 : Bk (w2.alloc (Obj.cells (madeCells #[Value.bool false] n) 4)) w2.heap.size 4 (bools (rep n 0)) := by simpa [rep, bools] using bk_madeB w2 4 [] (.bool false) (n := n)
  have hsr : ∀ (j : Nat) (v : Value), (List.replicate 1 (Value.bool true))[j]? = some v → (w2.alloc (.cells (madeCells #[Value.bool false] n) 4)).cell? ((⟨g0, 0, none⟩ : Addr).add j) = some v := fun j v hv => by
    obtain ⟨hj, rfl⟩ := rep_src hv
    obtain rfl : j = 0 := by omega
    simpa [Addr.add] using (Hk.out.alloc (.cells (madeCells #[Value.bool false] n) 4)).cell 0
  have hrun := run_copy_row (P := Try.prog) (w2.alloc (.cells (madeCells #[Value.bool false] n) 4)) 23 23 3 4 w2.heap.size 0 n n ⟨g0, 0, none⟩ 1 1 _ 4 (List.replicate 1 (Value.bool true)) Try.underlying23 (by kernel_rfl) hg0 (by show 1 = Nat.min 1 n; exact (Nat.min_eq_left h1).symm) hsr (by simp [bools, rep_len (Nat.zero_le n)]; omega) (fun v hv => by obtain rfl := List.eq_of_mem_replicate hv; rfl)
  rw [hrun]
  obtain ⟨W1, hW1⟩ : ∃ W1 : World, W1 = (w2.alloc (.cells (madeCells #[Value.bool false] n) 4)).setRow w2.heap.size ((bools (rep n 0)).toArray.toList.take 0 ++ List.replicate 1 (Value.bool true) ++ (bools (rep n 0)).toArray.toList.drop (0 + (List.replicate 1 (Value.bool true)).length)).toArray := ⟨_, rfl⟩
  rw [← hW1]
  have hb1 : Bk W1 w2.heap.size 4 (bools (rep n 1)) := by
    rw [hW1]
    exact bk_rep hg0 (by omega)
  have hbl1 : Below w2.heap.size w2 W1 := by rw [hW1]; exact below_setRow ((Below.refl _ _).alloc (Nat.le_refl _) _) (Nat.le_refl _) _
  have Hb1 := Lib.hid hb1
  have Hbl1 := Lib.hid hbl1
  clear hg0 hsr hrun hW1 hb1 hbl1 hmk
  go_wp2_with fail
  go_loopw [8] (fun i wr => ∃ m : Nat, 1 ≤ m ∧ m ≤ n ∧ i = .int .i64 m ∧ Bk wr w2.heap.size 4 (bools (rep n m)) ∧ Below w2.heap.size w2 wr) (fun i _ => n - (intOf i).toNat)
  case atStart => exact ⟨1, Nat.le_refl _, h1, rfl, Hb1.out, Hbl1.out⟩
  case round =>
    obtain ⟨m, hm1, hmn, rfl, hbk, hbl⟩ := hrel
    have Hbk := Lib.hid hbk
    have Hbl := Lib.hid hbl
    clear hbk hbl Hb1 Hbl1
    by_cases hlt : m < n
    · go_wp2_with fail
      obtain ⟨c, hc⟩ : ∃ c : Nat, c = Nat.min m (n - m) := ⟨_, rfl⟩
      have hmc : m + c ≤ n := by have h7 : Nat.min m (n - m) ≤ n - m := Nat.min_le_right _ _; omega
      have hc1 : 1 ≤ c := by rw [hc]; exact Nat.le_min.2 ⟨hm1, by omega⟩
      have hcm : c ≤ m := by rw [hc]; exact Nat.min_le_left _ _
      have Hc := Lib.hid hc
      clear hc
      refine Code.wp_mono (Q := fun e a x => e = .normal ∧ ∃ (t38 t39 t40 t41 t42 t43 t44 t45 t46 : Value), a = ({ tmps := #[Value.slice (some ⟨g0, 0, none⟩) 1 1, Value.int IntKind.i64 n, undef, undef, Value.slice none 0 0, Value.int IntKind.u64 0, Value.int IntKind.u64 n, Value.slice (some ⟨w2.heap.size, 0, none⟩) n n, Value.int IntKind.i64 ((m : Int) + c), Value.int IntKind.i64 n, Value.bool (decide ((n : Int) < 0)), undef, Value.tuple #[Value.int IntKind.u64 0, Value.int IntKind.u64 n], Value.slice (some ⟨g0, 0, none⟩) 1 1, Value.int IntKind.i64 1, Value.int IntKind.u64 1, Value.int IntKind.i64 n, Value.int IntKind.u64 n, Value.tuple #[Value.int IntKind.u64 0, Value.int IntKind.u64 n], Value.int IntKind.u64 0, Value.int IntKind.u64 n, Value.int IntKind.u64 0, Value.bool false, Value.bool false, Value.int IntKind.u64 n, Value.bool (decide (9223372036854775807 < (n : Int))), Value.bool (decide (9223372036854775807 < (n : Int))), undef, Value.int IntKind.u64 n, Value.int IntKind.i64 n, Value.slice (some ⟨w2.heap.size, 0, none⟩) n n, Value.slice (some ⟨w2.heap.size, 0, none⟩) n n, Value.slice (some ⟨g0, 0, none⟩) 1 1, Value.int IntKind.i64 1, Value.int IntKind.i64 m, Value.slice (some ⟨w2.heap.size, 0, none⟩) n n, Value.int IntKind.i64 n, Value.bool true, t38, t39, t40, t41, t42, t43, t44, t45, t46, undef], defers := [] } : Act) ∧ Bk x w2.heap.size 4 (bools (rep n (m + c))) ∧ Below w2.heap.size w2 x) ?after ?region
      case region =>
        refine wp_region_any (by kernel_rfl) (wpAny_invL (I := (fun k listed a x => ∃ b0 b1 b2 b3 b4 b5 b6 b7 b8 b9 t8 t38 t39 t40 t41 t42 t43 t44 t45 t46, k = nfR b0 + nfR b1 + nfR b2 + nfR b3 + nfR b4 + nfR b5 + nfR b6 + nfR b7 + nfR b8 + nfR b9 ∧ listed = #[b0, b1, b2, b3, b4, b5, b6, b7, b8, b9] ∧ a = ({ tmps := #[Value.slice (some ⟨g0, 0, none⟩) 1 1, Value.int IntKind.i64 n, undef, undef, Value.slice none 0 0, Value.int IntKind.u64 0, Value.int IntKind.u64 n, Value.slice (some ⟨w2.heap.size, 0, none⟩) n n, t8, Value.int IntKind.i64 n, Value.bool (decide ((n : Int) < 0)), undef, Value.tuple #[Value.int IntKind.u64 0, Value.int IntKind.u64 n], Value.slice (some ⟨g0, 0, none⟩) 1 1, Value.int IntKind.i64 1, Value.int IntKind.u64 1, Value.int IntKind.i64 n, Value.int IntKind.u64 n, Value.tuple #[Value.int IntKind.u64 0, Value.int IntKind.u64 n], Value.int IntKind.u64 0, Value.int IntKind.u64 n, Value.int IntKind.u64 0, Value.bool false, Value.bool false, Value.int IntKind.u64 n, Value.bool (decide (9223372036854775807 < (n : Int))), Value.bool (decide (9223372036854775807 < (n : Int))), undef, Value.int IntKind.u64 n, Value.int IntKind.i64 n, Value.slice (some ⟨w2.heap.size, 0, none⟩) n n, Value.slice (some ⟨w2.heap.size, 0, none⟩) n n, Value.slice (some ⟨g0, 0, none⟩) 1 1, Value.int IntKind.i64 1, Value.int IntKind.i64 m, Value.slice (some ⟨w2.heap.size, 0, none⟩) n n, Value.int IntKind.i64 n, Value.bool true, t38, t39, t40, t41, t42, t43, t44, t45, t46, undef], defers := [] } : Act) ∧ RI w2.heap.size w2.heap.size n m c w2 b0 b1 b2 b3 b4 b5 b6 b7 b8 b9 t8 t38 t39 t40 t41 t42 t43 t44 t45 t46 x)) ?h0 ?hd ?hs 10 _ _ _ ?start)
        case start => exact ⟨false, false, false, false, false, false, false, false, false, false, _, _, _, _, _, _, _, _, _, _, rfl, rfl, rfl, ⟨Hbl.out.drew, fun _ => Bk.drewN Hbk.out 1, fun e => absurd e (by decide), fun e => absurd e (by decide), fun e => absurd e (by decide), fun e => absurd e (by decide), fun e => absurd e (by decide), fun e => absurd e (by decide), fun e => absurd e (by decide), fun e => absurd e (by decide), fun e => absurd e (by decide), fun e => absurd e (by decide), fun _ => rfl, fun e => absurd e (by decide), fun e => absurd e (by decide)⟩⟩
        case h0 =>
          rintro listed a x ⟨b0, b1, b2, b3, b4, b5, b6, b7, b8, b9, t8, t38, t39, t40, t41, t42, t43, t44, t45, t46, hn, rfl, rfl, hI⟩
          obtain rfl : b0 = true := by
            cases b0 with
            | true => rfl
            | false => simp only [nfR] at hn; omega
          obtain rfl : b1 = true := by
            cases b1 with
            | true => rfl
            | false => simp only [nfR] at hn; omega
          obtain rfl : b2 = true := by
            cases b2 with
            | true => rfl
            | false => simp only [nfR] at hn; omega
          obtain rfl : b3 = true := by
            cases b3 with
            | true => rfl
            | false => simp only [nfR] at hn; omega
          obtain rfl : b4 = true := by
            cases b4 with
            | true => rfl
            | false => simp only [nfR] at hn; omega
          obtain rfl : b5 = true := by
            cases b5 with
            | true => rfl
            | false => simp only [nfR] at hn; omega
          obtain rfl : b6 = true := by
            cases b6 with
            | true => rfl
            | false => simp only [nfR] at hn; omega
          obtain rfl : b7 = true := by
            cases b7 with
            | true => rfl
            | false => simp only [nfR] at hn; omega
          obtain rfl : b8 = true := by
            cases b8 with
            | true => rfl
            | false => simp only [nfR] at hn; omega
          obtain rfl : b9 = true := by
            cases b9 with
            | true => rfl
            | false => simp only [nfR] at hn; omega
          rfl
        case hd =>
          rintro n9 listed a x ⟨b0, b1, b2, b3, b4, b5, b6, b7, b8, b9, t8, t38, t39, t40, t41, t42, t43, t44, t45, t46, hn, rfl, rfl, hI⟩ hr
          have hall := List.filter_eq_nil_iff.1 hr
          obtain rfl : b0 = true := by
            have q := hall 0 (List.mem_range.2 (by decide))
            simpa [Region.binds] using q
          obtain rfl : b1 = true := by
            have q := hall 1 (List.mem_range.2 (by decide))
            simpa [Region.binds] using q
          obtain rfl : b2 = true := by
            have q := hall 2 (List.mem_range.2 (by decide))
            simpa [Region.binds] using q
          obtain rfl : b3 = true := by
            have q := hall 3 (List.mem_range.2 (by decide))
            simpa [Region.binds] using q
          obtain rfl : b4 = true := by
            have q := hall 4 (List.mem_range.2 (by decide))
            simpa [Region.binds] using q
          obtain rfl : b5 = true := by
            have q := hall 5 (List.mem_range.2 (by decide))
            simpa [Region.binds] using q
          obtain rfl : b6 = true := by
            have q := hall 6 (List.mem_range.2 (by decide))
            simpa [Region.binds] using q
          obtain rfl : b7 = true := by
            have q := hall 7 (List.mem_range.2 (by decide))
            simpa [Region.binds] using q
          obtain rfl : b8 = true := by
            have q := hall 8 (List.mem_range.2 (by decide))
            simpa [Region.binds] using q
          obtain rfl : b9 = true := by
            have q := hall 9 (List.mem_range.2 (by decide))
            simpa [Region.binds] using q
          obtain rfl := hI.v1 rfl
          exact ⟨rfl, _, _, _, _, _, _, _, _, _, rfl, hI.k1 rfl, hI.bl⟩
        case hs =>
          rintro n9 listed a x ⟨b0, b1, b2, b3, b4, b5, b6, b7, b8, b9, t8, t38, t39, t40, t41, t42, t43, t44, t45, t46, hn, rfl, rfl, hI⟩ i hi
          obtain ⟨hi1, hi2, hi3⟩ := ready_memL hi
          have hi4 : i < 10 := hi1
          clear hi hi1
          rcases (show i = 0 ∨ i = 1 ∨ i = 2 ∨ i = 3 ∨ i = 4 ∨ i = 5 ∨ i = 6 ∨ i = 7 ∨ i = 8 ∨ i = 9 by omega) with rfl | rfl | rfl | rfl | rfl | rfl | rfl | rfl | rfl | rfl
          · -- operation 0
            obtain rfl : b0 = false := hi2
            have hn9 : b9 = false := by
              cases hbb : b9 with
              | false => rfl
              | true => exact absurd ((hI.o9 hbb).1) (by decide)
            subst hn9
            obtain rfl := hI.v0 rfl
            clear hi3 hi4
            refine wpOp_ofL (o := _) rfl rfl fun K' hK => ?_
            have HK := Lib.hid hK
            clear hK
            go_wp2_with fail
            refine HK.out _ _ ⟨true, b1, b2, b3, b4, b5, b6, b7, b8, false, _, _, _, _, _, _, _, _, _, _, by simp only [nfR] at hn ⊢; omega, rfl, rfl, ?_⟩
            exact ⟨hI.bl, hI.k0, hI.k1, fun _ => rfl, hI.d1, hI.d2, hI.d3, hI.d4, hI.d5, hI.d6, hI.d7, hI.d8, fun _ => rfl, fun e => absurd e (by decide), fun e => absurd e (by decide)⟩
          · -- operation 1
            obtain rfl : b1 = false := hi2
            clear hi3 hi4
            refine wpOp_ofL (o := _) rfl rfl fun K' hK => ?_
            have HK := Lib.hid hK
            clear hK
            go_wp2_with fail
            refine HK.out _ _ ⟨b0, true, b2, b3, b4, b5, b6, b7, b8, b9, _, _, _, _, _, _, _, _, _, _, by simp only [nfR] at hn ⊢; omega, rfl, rfl, ?_⟩
            exact ⟨hI.bl, hI.k0, hI.k1, hI.d0, fun _ => rfl, hI.d2, hI.d3, hI.d4, hI.d5, hI.d6, hI.d7, hI.d8, hI.v0, hI.v1, hI.o9⟩
          · -- operation 2
            obtain rfl : b2 = false := hi2
            have hn9 : b9 = false := by
              cases hbb : b9 with
              | false => rfl
              | true => exact absurd ((hI.o9 hbb).2.1) (by decide)
            subst hn9
            obtain rfl := hI.v0 rfl
            clear hi3 hi4
            refine wpOp_ofL (o := _) rfl rfl fun K' hK => ?_
            have HK := Lib.hid hK
            clear hK
            go_wp2_with fail
            refine HK.out _ _ ⟨b0, b1, true, b3, b4, b5, b6, b7, b8, false, _, _, _, _, _, _, _, _, _, _, by simp only [nfR] at hn ⊢; omega, rfl, rfl, ?_⟩
            exact ⟨hI.bl, hI.k0, hI.k1, hI.d0, hI.d1, fun _ => rfl, hI.d3, hI.d4, hI.d5, hI.d6, hI.d7, hI.d8, fun _ => rfl, fun e => absurd e (by decide), fun e => absurd e (by decide)⟩
          · -- operation 3
            obtain rfl : b3 = false := hi2
            have hdp : b1 = true ∧ b2 = true := by
              have h7 := hi3
              simp [Region.binds] at h7
              first | exact h7 | exact ⟨h7.1, h7.2⟩ | (simp [h7]; done)
            obtain rfl := hI.d1 hdp.1
            obtain rfl := hI.d2 hdp.2
            clear hi3 hi4
            refine wpOp_ofL (o := _) rfl rfl fun K' hK => ?_
            have HK := Lib.hid hK
            clear hK
            go_wp2_with fail
            refine HK.out _ _ ⟨b0, b1, b2, true, b4, b5, b6, b7, b8, b9, _, _, _, _, _, _, _, _, _, _, by simp only [nfR] at hn ⊢; omega, rfl, rfl, ?_⟩
            exact ⟨hI.bl, hI.k0, hI.k1, hI.d0, hI.d1, hI.d2, fun _ => by first | rfl | simp, hI.d4, hI.d5, hI.d6, hI.d7, hI.d8, hI.v0, hI.v1, hI.o9⟩
          · -- operation 4
            obtain rfl : b4 = false := hi2
            clear hi3 hi4
            refine wpOp_ofL (o := _) rfl rfl fun K' hK => ?_
            have HK := Lib.hid hK
            clear hK
            go_wp2_with fail
            refine HK.out _ _ ⟨b0, b1, b2, b3, true, b5, b6, b7, b8, b9, _, _, _, _, _, _, _, _, _, _, by simp only [nfR] at hn ⊢; omega, rfl, rfl, ?_⟩
            exact ⟨hI.bl, hI.k0, hI.k1, hI.d0, hI.d1, hI.d2, hI.d3, fun _ => rfl, hI.d5, hI.d6, hI.d7, hI.d8, hI.v0, hI.v1, hI.o9⟩
          · -- operation 5
            obtain rfl : b5 = false := hi2
            have hn9 : b9 = false := by
              cases hbb : b9 with
              | false => rfl
              | true => exact absurd ((hI.o9 hbb).2.2) (by decide)
            subst hn9
            obtain rfl := hI.v0 rfl
            clear hi3 hi4
            refine wpOp_ofL (o := _) rfl rfl fun K' hK => ?_
            have HK := Lib.hid hK
            clear hK
            go_wp2_with fail
            refine HK.out _ _ ⟨b0, b1, b2, b3, b4, true, b6, b7, b8, false, _, _, _, _, _, _, _, _, _, _, by simp only [nfR] at hn ⊢; omega, rfl, rfl, ?_⟩
            exact ⟨hI.bl, hI.k0, hI.k1, hI.d0, hI.d1, hI.d2, hI.d3, hI.d4, fun _ => rfl, hI.d6, hI.d7, hI.d8, fun _ => rfl, fun e => absurd e (by decide), fun e => absurd e (by decide)⟩
          · -- operation 6
            obtain rfl : b6 = false := hi2
            have hdp : b4 = true ∧ b5 = true := by
              have h7 := hi3
              simp [Region.binds] at h7
              first | exact h7 | exact ⟨h7.1, h7.2⟩ | (simp [h7]; done)
            obtain rfl := hI.d4 hdp.1
            obtain rfl := hI.d5 hdp.2
            clear hi3 hi4
            refine wpOp_ofL (o := _) rfl rfl fun K' hK => ?_
            have HK := Lib.hid hK
            clear hK
            go_wp2_with fail
            refine HK.out _ _ ⟨b0, b1, b2, b3, b4, b5, true, b7, b8, b9, _, _, _, _, _, _, _, _, _, _, by simp only [nfR] at hn ⊢; omega, rfl, rfl, ?_⟩
            exact ⟨hI.bl, hI.k0, hI.k1, hI.d0, hI.d1, hI.d2, hI.d3, hI.d4, hI.d5, fun _ => by first | rfl | simp, hI.d7, hI.d8, hI.v0, hI.v1, hI.o9⟩
          · -- operation 7
            obtain rfl : b7 = false := hi2
            have hdp : b3 = true ∧ b6 = true := by
              have h7 := hi3
              simp [Region.binds] at h7
              first | exact h7 | exact ⟨h7.1, h7.2⟩ | (simp [h7]; done)
            obtain rfl := hI.d3 hdp.1
            obtain rfl := hI.d6 hdp.2
            have hk := hI.k0 rfl
            have hsr : ∀ (j : Nat) (v : Value), (List.replicate c (Value.bool true))[j]? = some v → x.cell? ((⟨w2.heap.size, 0, none⟩ : Addr).add j) = some v := fun j v hv => by
              obtain ⟨hj, rfl⟩ := rep_src hv
              have h9 := hk.cell j
              rw [bools_get, rep_get (by omega)] at h9
              have e : (⟨w2.heap.size, 0, none⟩ : Addr).add j = ⟨w2.heap.size, j, none⟩ := by unfold Addr.add; split <;> simp_all
              rw [e]
              exact h9
            have hrun := run_copy_row (P := Try.prog) x 23 23 3 4 w2.heap.size m (n - m) (n - m) ⟨w2.heap.size, 0, none⟩ m n _ 4 (List.replicate c (Value.bool true)) Try.underlying23 (by kernel_rfl) hk (by rw [List.length_replicate, Hc.out]) hsr (by simp [bools, rep_len (Nat.le_of_lt hlt)]; omega) (fun v hv => by obtain rfl := List.eq_of_mem_replicate hv; rfl)
            have hbk := bk_rep hk hmc
            have hbl := below_setRow hI.bl (Nat.le_refl _) ((bools (rep n m)).toArray.toList.take m ++ List.replicate c (Value.bool true) ++ (bools (rep n m)).toArray.toList.drop (m + (List.replicate c (Value.bool true)).length)).toArray
            clear hi3 hi4
            refine wpOp_ofL (o := _) rfl rfl fun K' hK => ?_
            have HK := Lib.hid hK
            clear hK
            obtain ⟨y, hy⟩ : ∃ y : World, y = x.setRow w2.heap.size ((bools (rep n m)).toArray.toList.take m ++ List.replicate c (Value.bool true) ++ (bools (rep n m)).toArray.toList.drop (m + (List.replicate c (Value.bool true)).length)).toArray := ⟨_, rfl⟩
            rw [← hy] at hrun hbk hbl
            rw [List.length_replicate] at hrun
            clear hy hsr
            have Hk2 := Lib.hid hbk
            have Hl2 := Lib.hid hbl
            clear hbk hbl hk
            go_wp2_with fail
            refine HK.out _ _ ⟨b0, b1, b2, b3, b4, b5, b6, true, b8, b9, _, _, _, _, _, _, _, _, _, _, by simp only [nfR] at hn ⊢; omega, rfl, rfl, ?_⟩
            exact ⟨Hl2.out, fun e => absurd e (by decide), fun _ => Hk2.out, hI.d0, hI.d1, hI.d2, hI.d3, hI.d4, hI.d5, hI.d6, fun _ => rfl, hI.d8, hI.v0, hI.v1, hI.o9⟩
          · -- operation 8
            obtain rfl : b8 = false := hi2
            have hdp : b0 = true ∧ b7 = true := by
              have h7 := hi3
              simp [Region.binds] at h7
              first | exact h7 | exact ⟨h7.1, h7.2⟩ | (simp [h7]; done)
            obtain rfl := hI.d0 hdp.1
            obtain rfl := hI.d7 hdp.2
            clear hi3 hi4
            refine wpOp_ofL (o := _) rfl rfl fun K' hK => ?_
            have HK := Lib.hid hK
            clear hK
            go_wp2_with fail
            refine HK.out _ _ ⟨b0, b1, b2, b3, b4, b5, b6, b7, true, b9, _, _, _, _, _, _, _, _, _, _, by simp only [nfR] at hn ⊢; omega, rfl, rfl, ?_⟩
            exact ⟨hI.bl, hI.k0, hI.k1, hI.d0, hI.d1, hI.d2, hI.d3, hI.d4, hI.d5, hI.d6, hI.d7, fun _ => by first | rfl | go_num, hI.v0, hI.v1, hI.o9⟩
          · -- operation 9
            obtain rfl : b9 = false := hi2
            have hdp : b8 = true ∧ b7 = true ∧ b0 = true ∧ b1 = true ∧ b2 = true ∧ b3 = true ∧ b4 = true ∧ b5 = true ∧ b6 = true := by
              have h7 := hi3
              simp [Region.binds] at h7
              first | exact h7 | exact ⟨h7.1, h7.2⟩ | (simp [h7]; done)
            obtain rfl := hI.d8 hdp.1
            clear hi3 hi4
            refine wpOp_ofL (o := _) rfl rfl fun K' hK => ?_
            have HK := Lib.hid hK
            clear hK
            go_wp2_with fail
            refine HK.out _ _ ⟨b0, b1, b2, b3, b4, b5, b6, b7, b8, true, _, _, _, _, _, _, _, _, _, _, by simp only [nfR] at hn ⊢; omega, rfl, rfl, ?_⟩
            exact ⟨hI.bl, hI.k0, hI.k1, hI.d0, hI.d1, hI.d2, hI.d3, hI.d4, hI.d5, hI.d6, hI.d7, hI.d8, fun e => absurd e (by decide), fun _ => rfl, fun _ => ⟨hdp.2.2.1, hdp.2.2.2.2.1, hdp.2.2.2.2.2.2.2.1⟩⟩
      case after =>
        rintro e a x ⟨rfl, t38, t39, t40, t41, t42, t43, t44, t45, t46, rfl, hbk, hbl⟩
        have Hbk2 := Lib.hid hbk
        have Hbl2 := Lib.hid hbl
        clear hbk hbl
        go_wp2_with fail
        go_roundw
        case rel => exact ⟨m + c, by omega, hmc, by go_num, Hbk2.out, Hbl2.out⟩
        case measure => simp [intOf]; omega
    · go_wp2_with fail
      go_ret
      obtain rfl : m = n := by omega
      exact ⟨_, rfl, by rw [← rep_all]; exact Hbk.out, Nat.le_refl _, Hbl.out⟩

end Go.Proofs.Ytjkieedomljelaa
