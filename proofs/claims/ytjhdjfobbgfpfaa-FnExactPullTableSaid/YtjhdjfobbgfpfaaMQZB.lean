/- Texts on the program and its reference, put together (PwF, PwG, PwH). -/
import Derived.Test.YtjhdjfobbgfpfaaMQZA
import Derived.Test.YtjhdjfobbgfpfaaMQG
import Derived.Deep.RegionHeld3
import Derived.Test.YtjhdjfobbgfpfaaMQP
import Derived.TacticsInMore
import Derived.LoopNIn
/- Contracts: pulls by the program: costs: a watched end is made. -/
namespace Go.Proofs.Ytjhdjfobbgfpfaa
open Go.RowKit

/-- Between two operations of the region that makes a watched end. -/
structure WI (n0 : Nat) (A : Option Addr) (c : Nat) (l : List Nd) (As : Option Addr) (ca : Nat) (src : List (List Int)) (G : PF) (x2 : World) (b0 b1 b2 b3 b4 b5 b6 b7 b8 b9 b10 b11 : Bool) (t4 t13 t14 t15 t16 t17 t18 t19 t20 t21 t22 t23 : Value) (gC rb g1 g2 g3 : Nat) (kf : FuncId) (lb : Array Value) (w4 : World) (x : World) : Prop where
  bl : Below x2.heap.size x2 x
  d0 : b0 = true → t13 = .agg #[.slice A l.length c]
  d1 : b1 = true → t14 = .slice As 3 ca
  d2 : b2 = true → t15 = .agg #[.slice A l.length c]
  d3 : b3 = true → t16 = .agg #[.slice (some ⟨gC, 0, none⟩) l.length l.length] ∧ CsAt x n0 gC (newPS l.length).cs
  d4 : b4 = true → t17 = .slice (some ⟨gC, 0, none⟩) l.length l.length
  d5 : b5 = true → t18 = .pointer (some ⟨rb, 0, none⟩) ∧ (∀ (args : Array Value) (w : World), (callFunc kf args).run Try.prog w = .ok (.enter kf args) w) ∧ Pulls n0 rb gC l.length l.length l src G kf lb w4 ∧ IW n0 rb gC l.length l.length (.func (.func kf) #[] lb) (newPS l.length) w4 ∧ Below w4.heap.size w4 x ∧ n0 ≤ w4.heap.size
  d6 : b6 = true → t19 = .slice (some ⟨g1, 0, none⟩) 3 3 ∧ Bk x g1 3 (ints (cntOf [])) ∧ n0 ≤ g1 ∧ (b5 = true → g1 < rb ∨ w4.heap.size ≤ g1)
  d7 : b7 = true → t20 = .slice (some ⟨g2, 0, none⟩) 3 3 ∧ Bk x g2 3 (ints (rchOf [])) ∧ n0 ≤ g2 ∧ (b5 = true → g2 < rb ∨ w4.heap.size ≤ g2)
  d8 : b8 = true → t21 = .slice (some ⟨g3, 0, none⟩) 3 3 ∧ Bk x g3 4 (bools (endOf [])) ∧ n0 ≤ g3 ∧ (b5 = true → g3 < rb ∨ w4.heap.size ≤ g3)
  ne : b6 = true → b7 = true → g1 ≠ g2
  d9 : b9 = true → t22 = .agg #[.pointer (some ⟨rb, 0, none⟩), .int .i64 0, .slice (some ⟨g1, 0, none⟩) 3 3, .slice (some ⟨g2, 0, none⟩) 3 3, .slice (some ⟨g3, 0, none⟩) 3 3]
  d10 : b10 = true → ∃ wb, t23 = .pointer (some ⟨wb, 0, none⟩) ∧ WatN n0 l src G wb x
  d11 : b11 = true → ∃ wb, t4 = .pointer (some ⟨wb, 0, none⟩) ∧ WatN n0 l src G wb x
  o4 : b4 = true → b3 = true
  o5 : b5 = true → b4 = true
  o9 : b9 = true → b5 = true ∧ b6 = true ∧ b7 = true ∧ b8 = true
  o10 : b10 = true → b9 = true
  o11 : b11 = true → b10 = true
theorem Wat.below_ {n0 rb cb N wb gb hb eb : Nat} {l : List Nd} {src : List (List Int)} {w1 w w' : World} {fe : Value} {s : PS} (h : Wat n0 rb cb N l src w1 wb gb hb eb fe s w) (hb' : Below w.heap.size w w') : Wat n0 rb cb N l src w1 wb gb hb eb fe s w' :=
  ⟨h.fr.trans (Fr.of_below hb'), RS.below h.iw hb', h.wr.below hb', h.ok, h.lg, h.si, h.b1, h.b2, h.b3, h.b4⟩
theorem WatN.below {n0 : Nat} {l : List Nd} {src : List (List Int)} {G : PF} {wb : Nat} {w w' : World} (h : WatN n0 l src G wb w) (hb : Below w.heap.size w w') : WatN n0 l src G wb w' := by
  obtain ⟨rb, cb, kf, lb, gb, hb', eb, w1, eg, pu, wat⟩ := h
  exact ⟨rb, cb, kf, lb, gb, hb', eb, w1, eg, pu, wat.below_ hb⟩
section
variable {n0 : Nat} {A : Option Addr} {c : Nat} {l : List Nd} {As : Option Addr} {ca : Nat} {src : List (List Int)} {G : PF} {x2 : World} {b0 b1 b2 b3 b4 b5 b6 b7 b8 b9 b10 b11 : Bool} {t4 t13 t14 t15 t16 t17 t18 t19 t20 t21 t22 t23 : Value} {gC rb g1 g2 g3 : Nat} {kf : FuncId} {lb : Array Value} {w4 : World} {x y : World}
theorem WI.next (h : WI n0 A c l As ca src G x2 b0 b1 b2 b3 b4 b5 b6 b7 b8 b9 b10 b11 t4 t13 t14 t15 t16 t17 t18 t19 t20 t21 t22 t23 gC rb g1 g2 g3 kf lb w4 x) (hb : Below x.heap.size x y) : WI n0 A c l As ca src G x2 b0 b1 b2 b3 b4 b5 b6 b7 b8 b9 b10 b11 t4 t13 t14 t15 t16 t17 t18 t19 t20 t21 t22 t23 gC rb g1 g2 g3 kf lb w4 y :=
  ⟨h.bl.trans (hb.mono h.bl.size), h.d0, h.d1, h.d2, fun e => ⟨(h.d3 e).1, (h.d3 e).2.below hb⟩, h.d4, fun e => (h.d5 e).imp id (And.imp id (And.imp id (And.imp id (fun ⟨q, r⟩ => ⟨q.trans (hb.mono q.size), r⟩)))), fun e => (h.d6 e).imp id (And.imp (fun q => q.below hb q.lt) id), fun e => (h.d7 e).imp id (And.imp (fun q => q.below hb q.lt) id), fun e => (h.d8 e).imp id (And.imp (fun q => q.below hb q.lt) id), h.ne, h.d9, fun e => (h.d10 e).imp fun _ q => ⟨q.1, q.2.below hb⟩, fun e => (h.d11 e).imp fun _ q => ⟨q.1, q.2.below hb⟩, h.o4, h.o5, h.o9, h.o10, h.o11⟩
end
def nf : Bool → Nat
  | true => 0
  | false => 1

set_option maxRecDepth 100000 in
set_option maxHeartbeats 6400000 in
theorem watch_any {l : List Nd} {src : List (List Int)} {A : Option Addr} {c : Nat} {As : Option Addr} {ca : Nat} (hp : PipeOk l) (hv : pipeOk l = true) (hs : srcOk src = true) (h3 : src.length = 3) (hl12 : l.length ≤ 12) {t : TI} (ht : IsTI l t) (hix : t.ix + 1 = l.length) (w : World) (hn : RdN w w.heap.size A l) (hsr : RdR w w.heap.size As src) :
    Calls Try.prog 76 #[.agg #[.slice A l.length c], .slice As 3 ca] w fun e w' => ∃ wb, e = .returned (.pointer (some ⟨wb, 0, none⟩)) ∧ WatN w.heap.size l src (pull src (fun s => s.M l src + 1) t) wb w' ∧ Below w.heap.size w w' := by
  have hmkI := run_make_row' (P := Try.prog) 28 3 (.int .i64 0) 8 Try.underlying28 Try.infoInt rfl .i64 .i64 3 (by omega) (by omega)
  have hmkI : ∀ w : World, (Instr.makeSlice 28 (.int .i64 3) (.int .i64 3)).run Try.prog w = .ok (.slice (some ⟨w.heap.size, 0, none⟩) 3 3) (w.alloc (.cells #[.int .i64 0, .int .i64 0, .int .i64 0] 3)) := fun w => by
    have e : madeCells #[.int .i64 0] 3 = (List.replicate 3 (.int .i64 0)).toArray := by rw [← toList_madeCells_one]
    have h := hmkI w
    rw [e] at h
    exact h
  have hmkB := run_make_row' (P := Try.prog) 89 4 (.bool false) 1 Try.underlying89 Try.infoBool rfl .i64 .i64 3 (by omega) (by omega)
  have hmkB : ∀ w : World, (Instr.makeSlice 89 (.int .i64 3) (.int .i64 3)).run Try.prog w = .ok (.slice (some ⟨w.heap.size, 0, none⟩) 3 3) (w.alloc (.cells #[.bool false, .bool false, .bool false] 4)) := fun w => by
    have e : madeCells #[.bool false] 3 = (List.replicate 3 (.bool false)).toArray := by rw [← toList_madeCells_one]
    have h := hmkB w
    rw [e] at h
    exact h
  obtain ⟨W1, hW1⟩ : ∃ X : World, X = w.alloc (.cells #[.slice A l.length c] 32) := ⟨_, rfl⟩
  have hb1 : Below w.heap.size w W1 := by rw [hW1]; exact below1 w _
  have kE : Bk W1 w.heap.size 32 [.slice A l.length c] := by rw [hW1]; exact Bk.new _ _ [_]
  have hm : ∀ r ∈ src, r.length ≤ 1048576 := fun r hr => Nat.le_trans ((src_rows hs).2 r hr) (by omega)
  have hvp := implValidPipe_any A c l W1 w.heap.size (hn.below hb1 (Nat.le_refl _)) hb1.size (by omega)
  rw [hv] at hvp
  have z1 := hb1.size
  have HW1 := Lib.hid hW1
  have Hb1 := Lib.hid hb1
  have HkE := Lib.hid kE
  have Hvp := Lib.hid hvp
  have Hn := Lib.hid hn
  have Hsr := Lib.hid hsr
  have Hp := Lib.hid hp
  have Hv := Lib.hid hv
  have Hs := Lib.hid hs
  have Ht := Lib.hid ht
  have Hm := Lib.hid hm
  have H3 := Lib.hid h3
  have Hix := Lib.hid hix
  have hlow := low_of hv
  clear hW1 hb1 kE hvp hn hsr hp hv hs ht hm hix
  go_enter Try.func76, Try.ntmps76
  go_wp2_with fail
  rw [← HW1.out]
  refine Hvp.out.mono ?_
  rintro e w2 ⟨rfl, hb2⟩
  have hvs := implValidSources_any As ca src w2 w.heap.size (Hsr.out.below (Hb1.out.trans (hb2.mono z1)) (Nat.le_refl _)) (by omega) Hm.out
  rw [Hs.out, h3] at hvs
  have Hvs := Lib.hid hvs
  have HbX := Lib.hid (Hb1.out.trans (hb2.mono z1))
  have kE2 := HkE.out.below hb2 HkE.out.lt
  have e2 := kE2.cell 0
  simp only [List.getElem?_cons_zero] at e2
  have HkE2 := Lib.hid kE2
  have z2 := HbX.out.size
  have lt2 : w.heap.size < w2.heap.size := kE2.lt
  clear hb2 hvs kE2
  go_wp2_with fail
  refine Hvs.out.mono ?_
  rintro e w2' ⟨rfl, rfl⟩
  go_wp2_with fail
  have hfd := fd_state
  have Hk3 : Hid (∀ o1 o2 o3 : Obj, (((w2.alloc o1).alloc o2).alloc o3).cell? ⟨w.heap.size, 0, none⟩ = some (.slice A l.length c)) := Lib.hid (fun o1 o2 o3 => (HkE2.out.below (below3 w2 o1 o2 o3) HkE2.out.lt).cell 0)
  have hkE := HkE2.out
  refine Code.wp_mono (Q := fun e a x => e = .normal ∧ ∃ wb t13 t14 t15 t16 t17 t18 t19 t20 t21 t22 t23, a = ({ tmps := #[.agg #[.slice A l.length c], .slice As 3 ca, .pointer (some ⟨w.heap.size, 0, none⟩), undef, .pointer (some ⟨wb, 0, none⟩), .agg #[.slice A l.length c], .bool true, .bool false, .bool false, .slice As 3 ca, .bool true, .bool false, .bool false, t13, t14, t15, t16, t17, t18, t19, t20, t21, t22, t23], defers := [] } : Act) ∧ WatN w.heap.size l src (pull src (fun s => s.M l src + 1) t) wb x ∧ Below w2.heap.size w2 x) ?after ?region
  case region =>
    refine wp_region_any (by kernel_rfl) (wpAny_inv (I := (fun n listed a x => ∃ b0 b1 b2 b3 b4 b5 b6 b7 b8 b9 b10 b11 t4 t13 t14 t15 t16 t17 t18 t19 t20 t21 t22 t23 gC rb g1 g2 g3 kf lb w4, n = nf b0 + nf b1 + nf b2 + nf b3 + nf b4 + nf b5 + nf b6 + nf b7 + nf b8 + nf b9 + nf b10 + nf b11 ∧ listed = #[b0, b1, b2, b3, b4, b5, b6, b7, b8, b9, b10, b11] ∧ a = ({ tmps := #[.agg #[.slice A l.length c], .slice As 3 ca, .pointer (some ⟨w.heap.size, 0, none⟩), undef, t4, .agg #[.slice A l.length c], .bool true, .bool false, .bool false, .slice As 3 ca, .bool true, .bool false, .bool false, t13, t14, t15, t16, t17, t18, t19, t20, t21, t22, t23], defers := [] } : Act) ∧ WI w.heap.size A c l As ca src (pull src (fun s => s.M l src + 1) t) w2 b0 b1 b2 b3 b4 b5 b6 b7 b8 b9 b10 b11 t4 t13 t14 t15 t16 t17 t18 t19 t20 t21 t22 t23 gC rb g1 g2 g3 kf lb w4 x)) ?h0 ?hd ?hs 12 _ _ _ ?start)
    case start => exact ⟨false, false, false, false, false, false, false, false, false, false, false, false, _, _, _, _, _, _, _, _, _, _, _, _, 0, 0, 0, 0, 0, 0, #[], w2, rfl, rfl, rfl, ⟨(Below.refl _ _).drew, fun e => absurd e (by decide), fun e => absurd e (by decide), fun e => absurd e (by decide), fun e => absurd e (by decide), fun e => absurd e (by decide), fun e => absurd e (by decide), fun e => absurd e (by decide), fun e => absurd e (by decide), fun e => absurd e (by decide), fun e => absurd e (by decide), fun e => absurd e (by decide), fun e => absurd e (by decide), fun e => absurd e (by decide), fun e => absurd e (by decide), fun e => absurd e (by decide), fun e => absurd e (by decide), fun e => absurd e (by decide), fun e => absurd e (by decide)⟩⟩
    case h0 =>
      rintro listed a x ⟨b0, b1, b2, b3, b4, b5, b6, b7, b8, b9, b10, b11, t4, t13, t14, t15, t16, t17, t18, t19, t20, t21, t22, t23, gC, rb, g1, g2, g3, kf, lb, w4, hn, rfl, rfl, h⟩
      obtain rfl : b0 = true := by
        cases b0 with
        | true => rfl
        | false => simp only [nf] at hn; omega
      obtain rfl : b1 = true := by
        cases b1 with
        | true => rfl
        | false => simp only [nf] at hn; omega
      obtain rfl : b2 = true := by
        cases b2 with
        | true => rfl
        | false => simp only [nf] at hn; omega
      obtain rfl : b3 = true := by
        cases b3 with
        | true => rfl
        | false => simp only [nf] at hn; omega
      obtain rfl : b4 = true := by
        cases b4 with
        | true => rfl
        | false => simp only [nf] at hn; omega
      obtain rfl : b5 = true := by
        cases b5 with
        | true => rfl
        | false => simp only [nf] at hn; omega
      obtain rfl : b6 = true := by
        cases b6 with
        | true => rfl
        | false => simp only [nf] at hn; omega
      obtain rfl : b7 = true := by
        cases b7 with
        | true => rfl
        | false => simp only [nf] at hn; omega
      obtain rfl : b8 = true := by
        cases b8 with
        | true => rfl
        | false => simp only [nf] at hn; omega
      obtain rfl : b9 = true := by
        cases b9 with
        | true => rfl
        | false => simp only [nf] at hn; omega
      obtain rfl : b10 = true := by
        cases b10 with
        | true => rfl
        | false => simp only [nf] at hn; omega
      obtain rfl : b11 = true := by
        cases b11 with
        | true => rfl
        | false => simp only [nf] at hn; omega
      rfl
    case hd =>
      rintro n listed a x ⟨b0, b1, b2, b3, b4, b5, b6, b7, b8, b9, b10, b11, t4, t13, t14, t15, t16, t17, t18, t19, t20, t21, t22, t23, gC, rb, g1, g2, g3, kf, lb, w4, hn, rfl, rfl, h⟩ hr
      have hall := List.filter_eq_nil_iff.1 hr
      obtain rfl : b0 = true := by
        have q := hall 0 (List.mem_range.2 (by decide))
        simpa [Region.binds] using q
      obtain rfl : b1 = true := by
        have q := hall 1 (List.mem_range.2 (by decide))
        simpa [Region.binds] using q
      obtain rfl : b2 = true := by
        have q := hall 2 (List.mem_range.2 (by decide))
        simpa [Region.binds] using q
      obtain rfl : b6 = true := by
        have q := hall 6 (List.mem_range.2 (by decide))
        simpa [Region.binds] using q
      obtain rfl : b7 = true := by
        have q := hall 7 (List.mem_range.2 (by decide))
        simpa [Region.binds] using q
      obtain rfl : b8 = true := by
        have q := hall 8 (List.mem_range.2 (by decide))
        simpa [Region.binds] using q
      obtain rfl : b3 = true := by
        have q := hall 3 (List.mem_range.2 (by decide))
        simpa [Region.binds] using q
      obtain rfl : b4 = true := by
        have q := hall 4 (List.mem_range.2 (by decide))
        simpa [Region.binds] using q
      obtain rfl : b5 = true := by
        have q := hall 5 (List.mem_range.2 (by decide))
        simpa [Region.binds] using q
      obtain rfl : b9 = true := by
        have q := hall 9 (List.mem_range.2 (by decide))
        simpa [Region.binds] using q
      obtain rfl : b10 = true := by
        have q := hall 10 (List.mem_range.2 (by decide))
        simpa [Region.binds] using q
      obtain rfl : b11 = true := by
        have q := hall 11 (List.mem_range.2 (by decide))
        simpa [Region.binds] using q
      obtain ⟨wb, rfl, hwn⟩ := h.d11 rfl
      exact ⟨rfl, wb, _, _, _, _, _, _, _, _, _, _, _, rfl, hwn, h.bl⟩
    case hs =>
      rintro n listed a x ⟨b0, b1, b2, b3, b4, b5, b6, b7, b8, b9, b10, b11, t4, t13, t14, t15, t16, t17, t18, t19, t20, t21, t22, t23, gC, rb, g1, g2, g3, kf, lb, w4, hn, rfl, rfl, h⟩ i hi
      obtain ⟨hi1, hi2, hi3⟩ := ready_mem hi
      have hi4 : i < 12 := hi1
      clear hi hi1
      rcases (show i = 0 ∨ i = 1 ∨ i = 2 ∨ i = 3 ∨ i = 4 ∨ i = 5 ∨ i = 6 ∨ i = 7 ∨ i = 8 ∨ i = 9 ∨ i = 10 ∨ i = 11 by omega) with rfl | rfl | rfl | rfl | rfl | rfl | rfl | rfl | rfl | rfl | rfl | rfl
      · -- operation 0
          obtain rfl : b0 = false := hi2
          have hcx := (hkE.below h.bl hkE.lt).cell 0
          simp only [List.getElem?_cons_zero] at hcx
          clear hi3 hi4
          refine wpOp_of (o := _) rfl rfl fun K' hK => ?_
          go_wp2_with fail
          have hbxy := Below.refl x.heap.size x
          refine ⟨true, b1, b2, b3, b4, b5, b6, b7, b8, b9, b10, b11, _, _, _, _, _, _, _, _, _, _, _, _, gC, rb, g1, g2, g3, kf, lb, w4, by simp only [nf] at hn ⊢; omega, rfl, rfl, ?_⟩
          have h9 := h.next hbxy
          exact ⟨h9.bl, fun _ => rfl, h9.d1, h9.d2, h9.d3, h9.d4, h9.d5, h9.d6, h9.d7, h9.d8, h9.ne, h9.d9, h9.d10, h9.d11, h9.o4, h9.o5, h9.o9, h9.o10, h9.o11⟩
      · -- operation 1
          obtain rfl : b1 = false := hi2
          clear hi3 hi4
          refine wpOp_of (o := _) rfl rfl fun K' hK => ?_
          go_wp2_with fail
          have hbxy := Below.refl x.heap.size x
          refine ⟨b0, true, b2, b3, b4, b5, b6, b7, b8, b9, b10, b11, _, _, _, _, _, _, _, _, _, _, _, _, gC, rb, g1, g2, g3, kf, lb, w4, by simp only [nf] at hn ⊢; omega, rfl, rfl, ?_⟩
          have h9 := h.next hbxy
          exact ⟨h9.bl, h9.d0, fun _ => rfl, h9.d2, h9.d3, h9.d4, h9.d5, h9.d6, h9.d7, h9.d8, h9.ne, h9.d9, h9.d10, h9.d11, h9.o4, h9.o5, h9.o9, h9.o10, h9.o11⟩
      · -- operation 2
          obtain rfl : b2 = false := hi2
          have hcx := (hkE.below h.bl hkE.lt).cell 0
          simp only [List.getElem?_cons_zero] at hcx
          clear hi3 hi4
          refine wpOp_of (o := _) rfl rfl fun K' hK => ?_
          go_wp2_with fail
          have hbxy := Below.refl x.heap.size x
          refine ⟨b0, b1, true, b3, b4, b5, b6, b7, b8, b9, b10, b11, _, _, _, _, _, _, _, _, _, _, _, _, gC, rb, g1, g2, g3, kf, lb, w4, by simp only [nf] at hn ⊢; omega, rfl, rfl, ?_⟩
          have h9 := h.next hbxy
          exact ⟨h9.bl, h9.d0, h9.d1, fun _ => rfl, h9.d3, h9.d4, h9.d5, h9.d6, h9.d7, h9.d8, h9.ne, h9.d9, h9.d10, h9.d11, h9.o4, h9.o5, h9.o9, h9.o10, h9.o11⟩
      · -- operation 3
          obtain rfl : b3 = false := hi2
          have hdp : b2 = true := by simpa [Region.binds] using hi3
          obtain rfl := h.d2 hdp
          clear hi3 hi4
          refine wpOp_of (o := _) rfl rfl fun K' hK => ?_
          go_wp2_with fail
          refine (implNewState_bk A c l x w.heap.size Hv.out (Hn.out.below (HbX.out.trans (h.bl.mono z2)) (Nat.le_refl _)) (HbX.out.trans (h.bl.mono z2)).size (by omega)).mono ?_
          rintro e y ⟨gD, rfl, hg, kC, hbxy⟩
          have hzx := (HbX.out.trans (h.bl.mono z2)).size
          have hcs : CsAt y w.heap.size gD (newPS l.length).cs := ⟨by omega, madeCl l.length, kC, fun k x hx => by
            have hk : k < l.length := by have := (List.getElem?_eq_some_iff.1 hx).1; simpa [newPS] using this
            simp only [newPS] at hx
            rw [List.getElem?_replicate, if_pos hk] at hx
            rw [← Option.some.inj hx]
            exact madeCl_in _ k hk⟩
          refine hK _ _ ⟨b0, b1, b2, true, b4, b5, b6, b7, b8, b9, b10, b11, _, _, _, _, _, _, _, _, _, _, _, _, gD, rb, g1, g2, g3, kf, lb, w4, by simp only [nf] at hn ⊢; omega, rfl, rfl, ?_⟩
          have h9 := h.next hbxy
          exact ⟨h9.bl, h9.d0, h9.d1, h9.d2, fun _ => ⟨rfl, hcs⟩, fun e => absurd (h.o4 e) (by decide), fun e => absurd (h.o4 (h.o5 e)) (by decide), h9.d6, h9.d7, h9.d8, h9.ne, h9.d9, h9.d10, h9.d11, fun _ => rfl, h9.o5, h9.o9, h9.o10, h9.o11⟩
      · -- operation 4
          obtain rfl : b4 = false := hi2
          have hdp : b3 = true := by simpa [Region.binds] using hi3
          obtain ⟨rfl, hcs⟩ := h.d3 hdp
          clear hi3 hi4
          refine wpOp_of (o := _) rfl rfl fun K' hK => ?_
          go_wp2_with fail
          have hbxy := Below.refl x.heap.size x
          refine ⟨b0, b1, b2, b3, true, b5, b6, b7, b8, b9, b10, b11, _, _, _, _, _, _, _, _, _, _, _, _, gC, rb, g1, g2, g3, kf, lb, w4, by simp only [nf] at hn ⊢; omega, rfl, rfl, ?_⟩
          have h9 := h.next hbxy
          exact ⟨h9.bl, h9.d0, h9.d1, h9.d2, h9.d3, fun _ => rfl, h9.d5, h9.d6, h9.d7, h9.d8, h9.ne, h9.d9, h9.d10, h9.d11, fun _ => hdp, fun _ => rfl, h9.o9, h9.o10, h9.o11⟩
      · -- operation 5
          obtain rfl : b5 = false := hi2
          have hdp : b0 = true ∧ b1 = true ∧ b4 = true ∧ b3 = true := by simpa [Region.binds] using hi3
          obtain ⟨e0, e1, e4, e3⟩ := hdp
          obtain rfl := h.d0 e0
          obtain rfl := h.d1 e1
          obtain rfl := h.d4 e4
          obtain ⟨rfl, hcs⟩ := h.d3 e3
          clear hi3 hi4
          refine wpOp_of (o := _) rfl rfl fun K' hK => ?_
          go_wp2_with fail
          refine (newRun_any (n0 := w.heap.size) (cb := gC) (cc := l.length) (c := c) (ca := ca) Hp.out Hs.out hl12 Ht.out Hix.out (cs := (newPS l.length).cs) x (HbX.out.trans (h.bl.mono z2)).size (Hn.out.below (HbX.out.trans (h.bl.mono z2)) (Nat.le_refl _)) (Hsr.out.below (HbX.out.trans (h.bl.mono z2)) (Nat.le_refl _)) hcs).mono ?_
          rintro e y ⟨⟨rd, kd, ld, rfl, hrb, iw4, eg4, pu4⟩, hbxy⟩
          have hzx := (HbX.out.trans (h.bl.mono z2)).size
          have hzy := hbxy.size
          refine hK _ _ ⟨b0, b1, b2, b3, b4, true, b6, b7, b8, b9, b10, b11, _, _, _, _, _, _, _, _, _, _, _, _, gC, rd, g1, g2, g3, kd, ld, y, by simp only [nf] at hn ⊢; omega, rfl, rfl, ?_⟩
          have h9 := h.next hbxy
          exact ⟨h9.bl, h9.d0, h9.d1, h9.d2, h9.d3, h9.d4, fun _ => ⟨rfl, eg4, pu4, iw4, Below.refl _ _, by omega⟩, fun e => ⟨(h9.d6 e).1, (h9.d6 e).2.1, (h9.d6 e).2.2.1, fun _ => .inl (Nat.lt_of_lt_of_le (h.d6 e).2.1.lt hrb)⟩, fun e => ⟨(h9.d7 e).1, (h9.d7 e).2.1, (h9.d7 e).2.2.1, fun _ => .inl (Nat.lt_of_lt_of_le (h.d7 e).2.1.lt hrb)⟩, fun e => ⟨(h9.d8 e).1, (h9.d8 e).2.1, (h9.d8 e).2.2.1, fun _ => .inl (Nat.lt_of_lt_of_le (h.d8 e).2.1.lt hrb)⟩, h9.ne, fun e => absurd ((h.o9 e).1) (by decide), h9.d10, h9.d11, h9.o4, fun _ => e4, fun e => ⟨rfl, (h.o9 e).2⟩, h9.o10, h9.o11⟩
      · -- operation 6
          obtain rfl : b6 = false := hi2
          have hzx := (HbX.out.trans (h.bl.mono z2)).size
          clear hi3 hi4
          refine wpOp_of (o := _) rfl rfl fun K' hK => ?_
          go_wp2_with fail
          have hbxy : Below x.heap.size x _ := (Below.refl x.heap.size x).alloc (Nat.le_refl _) (.cells #[.int .i64 0, .int .i64 0, .int .i64 0] 3)
          refine ⟨b0, b1, b2, b3, b4, b5, true, b7, b8, b9, b10, b11, _, _, _, _, _, _, _, _, _, _, _, _, gC, rb, x.heap.size, g2, g3, kf, lb, w4, by simp only [nf] at hn ⊢; omega, rfl, rfl, ?_⟩
          have h9 := h.next hbxy
          exact ⟨h9.bl, h9.d0, h9.d1, h9.d2, h9.d3, h9.d4, h9.d5, fun _ => ⟨rfl, Bk.newI rfl, by omega, fun e => .inr (h.d5 e).2.2.2.2.1.size⟩, h9.d7, h9.d8, fun _ e7 => by have := (h.d7 e7).2.1.lt; omega, fun e => absurd ((h.o9 e).2.1) (by decide), h9.d10, h9.d11, h9.o4, h9.o5, fun e => absurd ((h.o9 e).2.1) (by decide), h9.o10, h9.o11⟩
      · -- operation 7
          obtain rfl : b7 = false := hi2
          have hzx := (HbX.out.trans (h.bl.mono z2)).size
          clear hi3 hi4
          refine wpOp_of (o := _) rfl rfl fun K' hK => ?_
          go_wp2_with fail
          have hbxy : Below x.heap.size x _ := (Below.refl x.heap.size x).alloc (Nat.le_refl _) (.cells #[.int .i64 0, .int .i64 0, .int .i64 0] 3)
          refine ⟨b0, b1, b2, b3, b4, b5, b6, true, b8, b9, b10, b11, _, _, _, _, _, _, _, _, _, _, _, _, gC, rb, g1, x.heap.size, g3, kf, lb, w4, by simp only [nf] at hn ⊢; omega, rfl, rfl, ?_⟩
          have h9 := h.next hbxy
          exact ⟨h9.bl, h9.d0, h9.d1, h9.d2, h9.d3, h9.d4, h9.d5, h9.d6, fun _ => ⟨rfl, Bk.newI rfl, by omega, fun e => .inr (h.d5 e).2.2.2.2.1.size⟩, h9.d8, fun e6 _ => by have := (h.d6 e6).2.1.lt; omega, fun e => absurd ((h.o9 e).2.2.1) (by decide), h9.d10, h9.d11, h9.o4, h9.o5, fun e => absurd ((h.o9 e).2.2.1) (by decide), h9.o10, h9.o11⟩
      · -- operation 8
          obtain rfl : b8 = false := hi2
          have hzx := (HbX.out.trans (h.bl.mono z2)).size
          clear hi3 hi4
          refine wpOp_of (o := _) rfl rfl fun K' hK => ?_
          go_wp2_with fail
          have hbxy : Below x.heap.size x _ := (Below.refl x.heap.size x).alloc (Nat.le_refl _) (.cells #[.bool false, .bool false, .bool false] 4)
          refine ⟨b0, b1, b2, b3, b4, b5, b6, b7, true, b9, b10, b11, _, _, _, _, _, _, _, _, _, _, _, _, gC, rb, g1, g2, x.heap.size, kf, lb, w4, by simp only [nf] at hn ⊢; omega, rfl, rfl, ?_⟩
          have h9 := h.next hbxy
          exact ⟨h9.bl, h9.d0, h9.d1, h9.d2, h9.d3, h9.d4, h9.d5, h9.d6, h9.d7, fun _ => ⟨rfl, Bk.newB rfl, by omega, fun e => .inr (h.d5 e).2.2.2.2.1.size⟩, h9.ne, fun e => absurd ((h.o9 e).2.2.2) (by decide), h9.d10, h9.d11, h9.o4, h9.o5, fun e => absurd ((h.o9 e).2.2.2) (by decide), h9.o10, h9.o11⟩
      · -- operation 9
          obtain rfl : b9 = false := hi2
          have hdp : b5 = true ∧ b6 = true ∧ b7 = true ∧ b8 = true := by simpa [Region.binds] using hi3
          obtain ⟨e5, e6, e7, e8⟩ := hdp
          obtain ⟨rfl, _⟩ := h.d5 e5
          obtain ⟨rfl, _⟩ := h.d6 e6
          obtain ⟨rfl, _⟩ := h.d7 e7
          obtain ⟨rfl, _⟩ := h.d8 e8
          clear hi3 hi4
          refine wpOp_of (o := _) rfl rfl fun K' hK => ?_
          go_wp2_with fail
          have hbxy := Below.refl x.heap.size x
          refine ⟨b0, b1, b2, b3, b4, b5, b6, b7, b8, true, b10, b11, _, _, _, _, _, _, _, _, _, _, _, _, gC, rb, g1, g2, g3, kf, lb, w4, by simp only [nf] at hn ⊢; omega, rfl, rfl, ?_⟩
          have h9 := h.next hbxy
          exact ⟨h9.bl, h9.d0, h9.d1, h9.d2, h9.d3, h9.d4, h9.d5, h9.d6, h9.d7, h9.d8, h9.ne, fun _ => rfl, h9.d10, h9.d11, h9.o4, h9.o5, fun _ => ⟨e5, e6, e7, e8⟩, fun _ => rfl, h9.o11⟩
      · -- operation 10
          obtain rfl : b10 = false := hi2
          have hdp : b9 = true := by simpa [Region.binds] using hi3
          obtain rfl := h.d9 hdp
          obtain ⟨e5, e6, e7, e8⟩ := h.o9 hdp
          have h5 := h.d5 e5
          have h6 := h.d6 e6
          have h7 := h.d7 e7
          have h8 := h.d8 e8
          have h67 := h.ne e6 e7
          have H5 := Lib.hid h5
          have H6 := Lib.hid h6
          have H7 := Lib.hid h7
          have H8 := Lib.hid h8
          clear h5 h6 h7 h8
          clear hi3 hi4
          refine wpOp_of (o := _) rfl rfl fun K' hK => ?_
          go_wp2_with fail
          have hbxy : Below x.heap.size x _ := (Below.refl x.heap.size x).alloc (Nat.le_refl _) (.cells #[.pointer (some ⟨rb, 0, none⟩), .int .i64 0, .slice (some ⟨g1, 0, none⟩) 3 3, .slice (some ⟨g2, 0, none⟩) 3 3, .slice (some ⟨g3, 0, none⟩) 3 3] 91)
          refine ⟨b0, b1, b2, b3, b4, b5, b6, b7, b8, b9, true, b11, _, _, _, _, _, _, _, _, _, _, _, _, gC, rb, g1, g2, g3, kf, lb, w4, by simp only [nf] at hn ⊢; omega, rfl, rfl, ?_⟩
          have h9 := h.next hbxy
          exact ⟨h9.bl, h9.d0, h9.d1, h9.d2, h9.d3, h9.d4, h9.d5, h9.d6, h9.d7, h9.d8, h9.ne, h9.d9, fun _ => ⟨_, rfl, WatN.mk H5.out.2.1 H5.out.2.2.1 H5.out.2.2.2.1 H5.out.2.2.2.2.1 H6.out.2.1 H7.out.2.1 H8.out.2.1 h67 ⟨H6.out.2.2.1, H6.out.2.2.2 e5⟩ ⟨H7.out.2.2.1, H7.out.2.2.2 e5⟩ ⟨H8.out.2.2.1, H8.out.2.2.2 e5⟩ (newPS_ok Hp.out) (newPS_W Hs.out hl12) H5.out.2.2.2.2.2 rfl rfl⟩, h9.d11, h9.o4, h9.o5, h9.o9, fun _ => hdp, fun _ => rfl⟩
      · -- operation 11
          obtain rfl : b11 = false := hi2
          have hdp : b10 = true := by
            have := hi3
            simp [Region.binds] at this
            exact this.1
          obtain ⟨wb, rfl, hwn⟩ := h.d10 hdp
          clear hi3 hi4
          refine wpOp_of (o := _) rfl rfl fun K' hK => ?_
          go_wp2_with fail
          have hbxy := Below.refl x.heap.size x
          refine ⟨b0, b1, b2, b3, b4, b5, b6, b7, b8, b9, b10, true, _, _, _, _, _, _, _, _, _, _, _, _, gC, rb, g1, g2, g3, kf, lb, w4, by simp only [nf] at hn ⊢; omega, rfl, rfl, ?_⟩
          have h9 := h.next hbxy
          exact ⟨h9.bl, h9.d0, h9.d1, h9.d2, h9.d3, h9.d4, h9.d5, h9.d6, h9.d7, h9.d8, h9.ne, h9.d9, fun _ => ⟨wb, rfl, hwn⟩, fun _ => ⟨wb, rfl, hwn⟩, h9.o4, h9.o5, h9.o9, h9.o10, fun _ => hdp⟩
  case after =>
    rintro e a x ⟨rfl, wb, t13, t14, t15, t16, t17, t18, t19, t20, t21, t22, t23, rfl, hwn, hbl⟩
    have Hwn := Lib.hid hwn
    have Hbl := Lib.hid (HbX.out.trans (hbl.mono z2))
    clear hwn hbl hkE
    go_wp2_with fail
    refine bodyPost_ret (v := .pointer (some ⟨wb, 0, none⟩)) (by simp [results, Try.results76, go_sem]) rfl ⟨wb, rfl, Hwn.out, Hbl.out⟩

end Go.Proofs.Ytjhdjfobbgfpfaa

/- Contracts: pulls by the program: costs: pulls by a method value, ranged over. -/
namespace Go.Proofs.Ytjhdjfobbgfpfaa
open Go.RowKit Go.Shelf

attribute [local go_sem] Oper.semAt_some

set_option maxHeartbeats 1600000 in
theorem pulledM_in (kp : FuncId) (bnd : Value) (k : Int) (w : World) :
    Calls Try.prog 86 #[.func (.func kp) #[bnd] #[], .int .i64 k] w fun e w' => e = .returned (.func (.func 104) #[] #[.pointer (some ⟨w.heap.size + 1, 0, none⟩), .pointer (some ⟨w.heap.size, 0, none⟩)]) ∧ w' = (w.alloc (.cells #[.func (.func kp) #[bnd] #[]] 111)).alloc (.cells #[.int .i64 k] 3) := by
  go_enter Try.func86, Try.ntmps86
  go_wp2
  go_ret
  exact ⟨rfl, rfl⟩

set_option maxRecDepth 100000 in
set_option maxHeartbeats 6400000 in
theorem pulledM1_in {f : PF} (kp : FuncId) (bnd : Value) (eg : ∀ (args : Array Value) (w : World), (callFunc kp args).run Try.prog w = .ok (.enter kp args) w)
    (k : Nat) (hk : k ≤ 1000) (lr bk bp : Nat) (J : List Int → PS → World → Prop)
    (hJ : ∀ pre s W, J pre s W → W.cell? ⟨bk, 0, none⟩ = some (.int .i64 k) ∧ W.cell? ⟨bp, 0, none⟩ = some (.func (.func kp) #[bnd] #[]))
    (hC : ∀ pre s W, J pre s W → Calls Try.prog kp #[bnd] W fun e W' => e = .returned (tup (f s).2) ∧ J pre (f s).1 W')
    (hY : ∀ pre s W v, J pre s W → pre.length < k → YieldAt Fence.wide 3 Try.prog lr #[.int .i64 v] W fun e W' => e = .returned (.bool true) ∧ J (pre ++ [v]) s W')
    (s : PS) (W : World) (h0 : J [] s W) :
    CallsIn Fence.wide 4 Try.prog 104 #[.func (.yield lr) #[] #[], .pointer (some ⟨bk, 0, none⟩), .pointer (some ⟨bp, 0, none⟩)] W fun e W' => (∃ v, e = .returned v) ∧ J (runP f k s).1 (runP f k s).2 W' := by
  have HJ := Lib.hid hJ
  have HC := Lib.hid hC
  have HY := Lib.hid hY
  obtain ⟨hc1, hc2⟩ := hJ _ _ _ h0
  have H0 := Lib.hid h0
  clear hJ hC hY h0
  refine callsIn_of_wp Try.func104 rfl trivial ?_ rfl
  simp only [Try.ntmps104, List.size_toArray, List.length_cons, List.length_nil, Nat.reduceAdd, Nat.reduceSub, Array.replicate_succ, Array.replicate_zero, List.push_toArray, List.append_toArray, List.nil_append, List.cons_append]
  gi_wp2
  gi_loopw [7] (fun p wr => ∃ (pre : List Int) (s1 : PS), pre.length ≤ k ∧ p = .int .i64 (pre.length : Nat) ∧ J pre s1 wr ∧ runP f k s = (pre ++ (runP f (k - pre.length) s1).1, (runP f (k - pre.length) s1).2)) (fun p _ => k - (intOf p).toNat)
  case atStart => exact ⟨[], s, Nat.zero_le _, rfl, H0.out, by simp⟩
  case round =>
    obtain ⟨pre, s1, hle, rfl, hj, hrun⟩ := hrel
    obtain ⟨c1, c2⟩ := HJ.out _ _ _ hj
    obtain ⟨q, hq⟩ : ∃ q, pre.length = q := ⟨_, rfl⟩
    rw [hq] at hle hrun
    rw [hq]
    have Hj := Lib.hid hj
    have Hrun := Lib.hid hrun
    have Hq := Lib.hid hq
    clear hj hrun hq
    by_cases hlt : q < k
    · have hlt2 : (q : Int) < k := by omega
      have hw1 : IntKind.i64.wrap ((q : Int) + 1) = (q : Int) + 1 := IntWalk.i64_in _ (by omega)
      rcases hfs : f s1 with ⟨s2, o⟩
      have hcall := HC.out pre s1 wr Hj.out
      rw [hfs] at hcall
      have Hcall := Lib.hid hcall
      have Hfs := Lib.hid hfs
      obtain ⟨k', hk'⟩ : ∃ k', k - q = k' + 1 := ⟨k - q - 1, by omega⟩
      have Hk' := Lib.hid hk'
      clear hcall hfs hk'
      gi_wp2
      refine ⟨trivial, ?_⟩
      refine (callsIn_wide.2 Hcall.out).mono ?_
      rintro e w2 ⟨rfl, hj2⟩
      have Hj2 := Lib.hid hj2
      clear hj2
      cases o with
      | none =>
        have ht : tup none = .tuple #[.int .i64 0, .bool false] := rfl
        have hr : runP f k s = (pre, s2) := by rw [Hrun.out, Hk'.out]; simp only [runP]; rw [Hfs.out]; simp
        have Hr := Lib.hid hr
        clear hr
        gi_wp2
        refine ⟨fun _ h => (by cases h), ?_⟩
        gi_wp2
        refine bodyPost_ret (results_none rfl _ _ _) rfl ?_
        exact ⟨⟨_, rfl⟩, by rw [Hr.out]; exact Hj2.out⟩
      | some v =>
        have ht : tup (some v) = .tuple #[.int .i64 v, .bool true] := rfl
        obtain ⟨fn, tmps, assign, body, hy, hR⟩ := HY.out _ _ _ v Hj2.out (by rw [Hq.out]; exact hlt)
        gi_wp2
        refine hR.mono ?_
        rintro e w3 ⟨rfl, hj3⟩
        obtain ⟨d1, d2⟩ := HJ.out _ _ _ hj3
        have Hj3 := Lib.hid hj3
        clear hj3
        gi_wp2
        go_roundw
        case rel =>
          refine ⟨pre ++ [v], s2, by rw [List.length_append, Hq.out]; simp; omega, by rw [List.length_append, Hq.out]; go_num, Hj3.out, ?_⟩
          rw [Hrun.out, Hk'.out, List.length_append, Hq.out]
          simp only [runP]
          rw [Hfs.out]
          have : k - (q + [v].length) = k' := by have := Hk'.out; simp; omega
          rw [this]
          simp
        case measure => simp [intOf]; omega
    · have hqk : q = k := by omega
      have hr : runP f k s = (pre, s1) := by rw [Hrun.out, show k - q = 0 by omega]; simp [runP]
      have Hr := Lib.hid hr
      clear hr
      gi_wp2
      go_end0
      exact ⟨⟨_, rfl⟩, by rw [Hr.out]; exact Hj.out⟩

end Go.Proofs.Ytjhdjfobbgfpfaa

/- Contracts: pulls by the program: costs: k watched pulls. -/
namespace Go.Proofs.Ytjhdjfobbgfpfaa
open Go.RowKit Go.Shelf

attribute [local go_sem] Oper.semAt_some

/-- A watched end after k pulls. -/
def WatK (n0 : Nat) (l : List Nd) (src : List (List Int)) (f : PF) (k : Nat) (wb : Nat) (W' : World) : Prop :=
  ∃ n1 rb cb gb hb eb fe w1 pre s, n0 ≤ n1 ∧ runP f k (newPS l.length) = (pre, s) ∧ Wat n1 rb cb l.length l src w1 wb gb hb eb fe s W'
section
variable {n0 rb cb N wb gb hb eb : Nat} {l : List Nd} {src : List (List Int)} {w1 w w' : World} {fe : Value} {s : PS}
theorem FP.below (h : FP n0 rb cb wb gb hb eb w w') (h1 : n0 ≤ rb) (h2 : n0 ≤ cb) (h3 : n0 ≤ wb) (h4 : n0 ≤ gb) (h5 : n0 ≤ hb) (h6 : n0 ≤ eb) (hz : n0 ≤ w.heap.size) : Below n0 w w' :=
  ⟨h.os, h.tape, h.output, h.size, fun b hb' => h.block b (by omega) (by omega) (by omega) (by omega) (by omega) (by omega) (by omega) (.inl hb')⟩
theorem FP.far_obj (h : FP n0 rb cb wb gb hb eb w w') {D : Nat} {o : Obj} (hD : w.heap[D]? = some o) (hc : o.isCells = false) (h1 : D ≠ rb) (h2 : D ≠ cb) (h3 : D ≠ wb) (h4 : D ≠ gb) (h5 : D ≠ hb) (h6 : D ≠ eb) : w'.heap[D]? = w.heap[D]? :=
  h.block D (Array.getElem?_eq_some_iff.1 hD).1 h1 h2 h3 h4 h5 h6 (.inr fun ⟨cs, fr, hp⟩ => by rw [hD] at hp; cases hp; cases hc)
theorem Wat.put_obj (h : Wat n0 rb cb N l src w1 wb gb hb eb fe s w) {lr : Nat} (hl : ∃ q : Obj, w.heap[lr]? = some q ∧ q.isCells = false) (hlr : w1.heap.size ≤ lr) (ob : Obj) : Wat n0 rb cb N l src w1 wb gb hb eb fe s (w.putObj lr ob) := by
  have pk : ∀ {g' : Nat} {t' : TypeId} {cs : List Value}, Bk w g' t' cs → Bk (w.putObj lr ob) g' t' cs := fun hb' => (World.putObj_heap_other (fun e => by
    subst e
    obtain ⟨q, hq, hqc⟩ := hl
    unfold Bk at hb'
    rw [hb'] at hq
    cases hq
    cases hqc)).trans hb'
  exact ⟨⟨h.fr.os, h.fr.tape, h.fr.output, by rw [World.putObj_size]; exact h.fr.size, fun b hb h1 h2 h3 => (World.putObj_heap_other (by omega)).trans (h.fr.block b hb h1 h2 h3)⟩, RS.put_obj h.iw ob hl, ⟨pk h.wr.bx, pk h.wr.g, pk h.wr.h, pk h.wr.e, h.wr.ne⟩, h.ok, h.lg, h.si, h.b1, h.b2, h.b3, h.b4⟩
theorem Wat.below (h : Wat n0 rb cb N l src w1 wb gb hb eb fe s w) (hb' : Below w.heap.size w w') : Wat n0 rb cb N l src w1 wb gb hb eb fe s w' :=
  ⟨h.fr.trans (Fr.of_below hb'), RS.below h.iw hb', h.wr.below hb', h.ok, h.lg, h.si, h.b1, h.b2, h.b3, h.b4⟩
end
/-- Between two watched pulls: the two boxes of the range lie at b0. -/
structure WtJ (n0 rb cb N : Nat) (l : List Nd) (src : List (List Int)) (w1 : World) (wb gb hb eb : Nat) (fe : Value) (ws : World) (b0 k : Nat) (pre : List Int) (s : PS) (W : World) : Prop where
  wat : Wat n0 rb cb N l src w1 wb gb hb eb fe s W
  pl : Bk W b0 111 [.func (.func 90) #[.pointer (some ⟨wb, 0, none⟩)] #[]]
  num : Bk W (b0 + 1) 3 [.int .i64 k]
  bl : Below ws.heap.size ws W
  le : pre.length ≤ k
theorem Bk.putO {w : World} {g lr : Nat} {t : TypeId} {cs : List Value} (h : Bk w g t cs) (hl : ∃ q : Obj, w.heap[lr]? = some q ∧ q.isCells = false) (ob : Obj) : Bk (w.putObj lr ob) g t cs := (World.putObj_heap_other (fun e => by
    subst e
    obtain ⟨q, hq, hqc⟩ := hl
    unfold Bk at h
    rw [h] at hq
    cases hq
    cases hqc)).trans h

set_option maxRecDepth 100000 in
set_option maxHeartbeats 6400000 in
theorem watchTimes_any {l : List Nd} {src : List (List Int)} {A : Option Addr} {c : Nat} {As : Option Addr} {ca : Nat} (hp : PipeOk l) (hv : pipeOk l = true) (hs : srcOk src = true) (h3 : src.length = 3) (hl12 : l.length ≤ 12) {t : TI} (ht : IsTI l t) (hix : t.ix + 1 = l.length) (k : Nat) (hk : k ≤ 200) (w : World) (hn : RdN w w.heap.size A l) (hsr : RdR w w.heap.size As src) :
    Calls Try.prog 69 #[.agg #[.slice A l.length c], .slice As 3 ca, .int .i64 k] w fun e w' => ∃ wb, e = .returned (.pointer (some ⟨wb, 0, none⟩)) ∧ WatK w.heap.size l src (pull src (fun s => s.M l src + 1) t) k wb w' ∧ Below w.heap.size w w' := by
  obtain ⟨W1, hW1⟩ : ∃ X : World, X = w.alloc (.cells #[.slice A l.length c] 32) := ⟨_, rfl⟩
  have hb1 : Below w.heap.size w W1 := by rw [hW1]; exact below1 w _
  have z1 := hb1.size
  have hcall := watch_any (c := c) (ca := ca) hp hv hs h3 hl12 ht hix W1 ((hn.below hb1 (Nat.le_refl _)).more z1) ((hsr.below hb1 (Nat.le_refl _)).more z1)
  have hF := pull_fine hp hs (fu := fun s => s.M l src + 1) ht
  have hG := pull_grow (src := src) hp (fu := fun s => s.M l src + 1) ht
  have h12 : ∀ r ∈ src, r.length ≤ 12 := fun r hr => (src_rows hs).2 r hr
  have hik : inR (k : Int) 0 200 = true := by simp [inR]; omega
  have HW1 := Lib.hid hW1
  have Hb1 := Lib.hid hb1
  have Hcall := Lib.hid hcall
  have HF := Lib.hid hF
  have HG := Lib.hid hG
  have H12 := Lib.hid h12
  have Hik := Lib.hid hik
  clear hW1 hb1 hcall hF hG h12 hik hn hsr hp hv hs ht hix
  refine (callsIn_wide (n := 5)).1 ?_
  refine callsIn_of_wp_marks Try.func69 rfl trivial ?_ rfl
  simp only [Try.ntmps69, List.size_toArray, List.length_cons, List.length_nil, Nat.reduceAdd, Nat.reduceSub, Array.replicate_succ, Array.replicate_zero, List.push_toArray, List.append_toArray, List.nil_append, List.cons_append]
  refine wpIn_wide.2 ?_
  go_wp2_with fail
  rw [← HW1.out]
  refine Hcall.out.mono ?_
  rintro e w2 ⟨wb, rfl, ⟨rb, cb, kf, lb, gb, hb, eb, w1, eg, pu, hwat⟩, hb2⟩
  have Heg := Lib.hid eg
  have Hpu := Lib.hid pu
  have Hwat := Lib.hid hwat
  have Hb2 := Lib.hid (Hb1.out.trans (hb2.mono z1))
  have z2 := hb2.size
  have lrb : rb < w2.heap.size := RS.ltp hwat.iw
  have lcb : cb < w2.heap.size := RS.ltc hwat.iw
  have lwb := hwat.wr.bx.lt
  have lgb := hwat.wr.g.lt
  have lhb := hwat.wr.h.lt
  have leb := hwat.wr.e.lt
  have lw1 : w1.heap.size ≤ w2.heap.size := hwat.fr.size
  have n1 : W1.heap.size ≤ rb := RS.lop hwat.iw
  have n2 : W1.heap.size ≤ cb := RS.loc hwat.iw
  have n3 := hwat.b1.1
  have n4 := hwat.b2.1
  have n5 := hwat.b3.1
  have n6 := hwat.b4.1
  clear eg pu hwat hb2
  go_wp2_with fail
  refine (within_any (k : Int) 0 200 _).mono ?_
  rintro e w2' ⟨rfl, rfl⟩
  rw [Hik.out]
  go_wp2_with fail
  refine (callsIn_wide (n := 5)).1 ?_
  refine (callsIn_wide.2 (pulledM_in _ _ (k : Int) _)).mono ?_
  rintro e w' ⟨rfl, rfl⟩
  go_wp2_with fail
  obtain ⟨W0, hW0⟩ : ∃ W0, (w2.alloc (.cells #[.func (.func 90) #[.pointer (some ⟨wb, 0, none⟩)] #[]] 111)).alloc (.cells #[.int .i64 (k : Int)] 3) = W0 := ⟨_, rfl⟩
  have hz0 : W0.heap.size = w2.heap.size + 2 := by rw [← hW0]; simp
  have hb0 : Below w2.heap.size w2 W0 := by rw [← hW0]; exact below2 _ _ _
  have k0 : Bk W0 w2.heap.size 111 [.func (.func 90) #[.pointer (some ⟨wb, 0, none⟩)] #[]] := by rw [← hW0]; exact (Bk.new w2 _ [_]).alloc _
  have k1 : Bk W0 (w2.heap.size + 1) 3 [.int .i64 (k : Int)] := by
    rw [← hW0]
    have := Bk.new (w2.alloc (.cells #[.func (.func 90) #[.pointer (some ⟨wb, 0, none⟩)] #[]] 111)) 3 [.int .i64 (k : Int)]
    simpa using this
  rw [hW0]
  clear hW0
  refine (wpIn_wide (n := 5)).1 ?_
  refine wpIn_rangeFunc_free (F := Fence.wide) (n := 5) rfl (by omega) (gf := 104) (lb := #[.pointer (some ⟨w2.heap.size + 1, 0, none⟩), .pointer (some ⟨w2.heap.size, 0, none⟩)]) rfl trivial (enters_of Try.func104 (by kernel_rfl) rfl)
    (encs := fun v : Int => #[.int .i64 v]) (fun _ => rfl)
    (fun v : Int => { tmps := #[.agg #[.slice A l.length c], .slice As 3 ca, .int .i64 (k : Int), .pointer (some ⟨w.heap.size, 0, none⟩), undef, undef, .pointer none, .pointer (some ⟨wb, 0, none⟩), .agg #[.slice A l.length c], .slice As 3 ca, .pointer (some ⟨wb, 0, none⟩), .pointer (some ⟨wb, 0, none⟩), .bool false, .bool false, .int .i64 (k : Int), .bool true, .bool false, .bool false, .pointer (some ⟨wb, 0, none⟩), .func (.func 90) #[.pointer (some ⟨wb, 0, none⟩)] #[], .int .i64 (k : Int), .func (.func 104) #[] #[.pointer (some ⟨w2.heap.size + 1, 0, none⟩), .pointer (some ⟨w2.heap.size, 0, none⟩)], .int .i64 v, undef], defers := [] }) ?assign ?iter
  case assign =>
    intro l' x W K hK
    gi_wp2
    simpa using hK
  case iter =>
    intro lr D Wd Rdy Dn hD hl hz1' hbd hr1 hkind hst hstd hyld
    rw [hz0] at hD hl hz1'
    have HY := Lib.hid hyld
    have HS := Lib.hid hst
    have HK := Lib.hid hkind
    clear hyld hst hstd hkind
    have hb0d : Below w2.heap.size w2 Wd := hb0.trans (hbd.mono hb0.size)
    refine (pulledM1_in (f := pull src (fun s => s.M l src + 1) t) 90 (.pointer (some ⟨wb, 0, none⟩)) (enters_of Try.func90 (by kernel_rfl) rfl) k (by omega) lr (w2.heap.size + 1) w2.heap.size
      (fun pre s W' => WtJ W1.heap.size rb cb l.length l src w1 wb gb hb eb (.func (.func kf) #[] lb) w w2.heap.size k pre s W' ∧ Rdy W') ?hJ ?hC ?hY (newPS l.length) Wd ?h0).mono ?done
    case hJ =>
      rintro pre s W' ⟨h, hrd⟩
      exact ⟨h.num.cell 0, h.pl.cell 0⟩
    case hC =>
      rintro pre s W' ⟨h, hrd⟩
      obtain ⟨⟨ob, hob, hoc⟩, hDd⟩ := HK.out _ hrd
      refine (wpull_any HF.out HG.out Heg.out Hpu.out H12 s W' h.wat).mono ?_
      rintro e W'' ⟨rfl, hw', hfp⟩
      refine ⟨rfl, ⟨hw', hfp.bk h.pl (by decide) (by omega) (by omega) (by omega) (by omega) (by omega) (by omega), hfp.bk h.num (by decide) (by omega) (by omega) (by omega) (by omega) (by omega) (by omega), h.bl.trans ((hfp.below (by omega) (by omega) (by omega) (by omega) (by omega) (by omega) (by have := RS.ltp h.wat.iw; omega)).mono z1), h.le⟩, ?_⟩
      exact HS.out _ _ hrd (hfp.far_obj hob hoc (by omega) (by omega) (by omega) (by omega) (by omega) (by omega)) (hfp.far_obj hDd rfl (by omega) (by omega) (by omega) (by omega) (by omega) (by omega))
    case h0 =>
      exact ⟨⟨Hwat.out.below hb0d, k0.below hbd k0.lt, k1.below hbd k1.lt, Hb2.out.trans (hb0d.mono (Nat.le_trans z1 z2)), Nat.zero_le _⟩, hr1⟩
    case hY =>
      rintro pre s2 W' v ⟨h, hrd⟩ hlt
      obtain ⟨hkl, hkD⟩ := HK.out _ hrd
      refine HY.out v W' _ hrd fun ob hob hlo hDo => ?_
      gi_wp2
      refine ⟨rfl, rfl, fun o2 ho2 hrd2 => ⟨rfl, ?_, hrd2⟩⟩
      have hkl2 : ∃ q : Obj, (W'.putObj lr ob).heap[lr]? = some q ∧ q.isCells = false := ⟨ob, hlo, hob⟩
      refine ⟨(h.wat.put_obj hkl (by omega) ob).put_obj hkl2 (by omega) o2, (h.pl.putO hkl ob).putO hkl2 o2, (h.num.putO hkl ob).putO hkl2 o2, ?_, by rw [List.length_append]; simp; omega⟩
      exact ⟨h.bl.os, h.bl.tape, h.bl.output, by rw [World.putObj_size, World.putObj_size]; exact h.bl.size, fun b hb => (World.putObj_heap_other (by omega)).trans ((World.putObj_heap_other (by omega)).trans (h.bl.block b hb))⟩
    case done =>
      rintro e W' ⟨hv, h, hrd⟩
      refine ⟨hv, .inl ⟨hrd, fun ob hob hDo => ?_⟩⟩
      obtain ⟨hkl, hkD⟩ := HK.out _ hrd
      obtain ⟨pre, hpre⟩ : ∃ pre, (runP (pull src (fun s => s.M l src + 1) t) k (newPS l.length)).1 = pre := ⟨_, rfl⟩
      obtain ⟨se, hse⟩ : ∃ se, (runP (pull src (fun s => s.M l src + 1) t) k (newPS l.length)).2 = se := ⟨_, rfl⟩
      rw [hpre, hse] at h
      have hres : runP (pull src (fun s => s.M l src + 1) t) k (newPS l.length) = (pre, se) := by rw [← hpre, ← hse]
      have watb := h.wat.put_obj hkl (by omega) ob
      have blb : Below w.heap.size w (W'.putObj lr ob) := ⟨h.bl.os, h.bl.tape, h.bl.output, by rw [World.putObj_size]; exact h.bl.size, fun b hb => (World.putObj_heap_other (by omega)).trans (h.bl.block b hb)⟩
      obtain ⟨W2, hW2⟩ : ∃ W2, W'.putObj lr ob = W2 := ⟨_, rfl⟩
      rw [hW2] at watb blb hDo ⊢
      have Hwatb := Lib.hid watb
      have Hblb := Lib.hid blb
      have Hdo := Lib.hid hDo
      have Hres := Lib.hid hres
      have HD := Lib.hid hD
      clear hl hz1' hbd hr1 hb0 hb0d k0 k1 hz0 hD hkl hkD hDo hres hW2 hpre hse h hrd hv watb blb hob
      go_wp2_with fail
      have hD := HD.out
      refine ⟨by simp, .inl ⟨_, _, rfl, run_takeDeferred (b := D) (ds := []) Hdo.out, ?_⟩⟩
      refine ⟨.pointer (some ⟨wb, 0, none⟩), by simp [results, Try.results69, go_sem], wb, rfl, ⟨W1.heap.size, rb, cb, gb, hb, eb, _, w1, pre, se, z1, Hres.out, Hwatb.out.put_obj ⟨_, Hdo.out, rfl⟩ (by omega) _⟩, ?_⟩
      exact ⟨Hblb.out.os, Hblb.out.tape, Hblb.out.output, by rw [World.putObj_size]; exact Hblb.out.size, fun b hb => (World.putObj_heap_other (by omega)).trans (Hblb.out.block b hb)⟩

end Go.Proofs.Ytjhdjfobbgfpfaa
