/- Contracts of the functions on slices of nodes: copied, compared, counted. -/
import Derived.Test.YtkjhncohanfciaaNodeA
import Derived.Test.YtkjhncohanfciaaNodeM
namespace Go.Proofs.Ytkjhncohanfciaa
open Go.RowKit

theorem Try.infoNode : (Try.prog.info? 69).map (fun i => (i.zero, i.size, i.bytes)) = some (some (.agg #[.int .i64 0, .int .i64 0, .int .i64 0, .int .i64 0, .int .i64 0]), 5, 40) := by kernel_rfl

set_option maxHeartbeats 400000 in
theorem toNodeS_any (A : Option Addr) (c : Nat) (l : List Nd) (w : World) (B : Nat) (h : RdN w B A l) (hB : B ≤ w.heap.size) (hn : l.length ≤ 1048576) :
    Calls Try.prog 37 #[.slice A l.length c] w fun e w' => e = .returned (.slice (some ⟨w.heap.size, 0, none⟩) l.length l.length) ∧ Bk w' w.heap.size 69 (nds l) ∧ Below w.heap.size w w' := by
  have hmk := run_make_nodes (P := Try.prog) 30 69 Try.underlying30 Try.infoNode l.length hn
  go_enter Try.func37, Try.ntmps37
  go_wp2
  clear hmk
  go_loopw [4] (fun i wr => ∃ k : Nat, k ≤ l.length ∧ i = .int .i64 k ∧ Bk wr w.heap.size 69 (nds (l.take k ++ zeros (l.length - k))) ∧ Below w.heap.size w wr) (fun i _ => l.length - (intOf i).toNat)
  case atStart => exact ⟨0, Nat.zero_le _, rfl, by simpa using Bk.new w 69 (nds (zeros l.length)), (Below.refl _ _).alloc (Nat.le_refl _) _⟩
  case round =>
    obtain ⟨k, hk, rfl, hbk, hbl⟩ := hrel
    by_cases hlt : k < l.length
    · obtain ⟨b, o, x, rfl, hbB, hx, hc⟩ := (h.below hbl hB).at_ hlt
      obtain ⟨c0, c1, c2, c3, c4⟩ := hc
      have hgl := hbk.lt
      obtain ⟨u0, u1, u2, u3, u4, hold⟩ := hbk.old5 (o := k * 5) (by simp [nds_len, zeros]; omega)
      have Hold := Lib.hid hold
      have Hbl := Lib.hid hbl
      have Hx := Lib.hid hx
      have Hbk := Lib.hid hbk
      have hsz := hbl.size
      clear hx h hbk hbl hold
      go_wp2_with (go_at_call 58; refine (toNode_any x _).mono ?_; rintro e w1 ⟨rfl, hb2⟩; obtain ⟨d0, d1, d2, d3, d4, f0, f1, f2, f3, f4⟩ := Hold.out.below hb2 hgl; have Hb2 := Lib.hid hb2; clear hb2)
      go_roundw
      case rel => exact ⟨k + 1, by omega, by go_num, fill_nodes (Hbk.out.below Hb2.out hgl) Hx.out, below_five (Hbl.out.trans (Hb2.out.mono hsz)) (Nat.le_refl _) _ _ _ _ _⟩
      case measure => simp [intOf]; omega
    · obtain rfl : k = l.length := by omega
      have hbk2 : Bk wr w.heap.size 69 (nds l) := by simpa [zeros] using hbk
      have Hbk := Lib.hid hbk2
      clear hbk hbk2
      go_wp2
      go_ret
      exact ⟨rfl, Hbk.out, hbl⟩

set_option maxHeartbeats 400000 in
theorem toPipe_any (A : Option Addr) (c : Nat) (l : List Nd) (w : World) (B : Nat) (h : RdN w B A l) (hB : B ≤ w.heap.size) (hn : l.length ≤ 1048576) :
    Calls Try.prog 12 #[.agg #[.slice A l.length c]] w fun e w' => ∃ g, e = .returned (.agg #[.slice (some ⟨g, 0, none⟩) l.length l.length]) ∧ w.heap.size ≤ g ∧ Bk w' g 69 (nds l) ∧ Below w.heap.size w w' := by
  go_enter Try.func12, Try.ntmps12
  have Hh := Lib.hid h
  clear h
  go_wp2_with fail
  have hB0 := (((Below.refl w.heap.size w).alloc (Nat.le_refl _) (.cells #[.slice A l.length c] 24)).alloc (by simp) (.cells #[.slice none 0 0] 32)).alloc (by simp; omega) (.cells #[.slice none 0 0] 32)
  refine (toNodeS_any A c l _ B (Hh.out.below hB0 hB) (by simp; omega) hn).mono ?_
  rintro e w1 ⟨rfl, hb1, hb2⟩
  simp only [World.size_alloc] at hb1 hb2
  have d1 : w1.cell? ⟨w.heap.size + 1, 0, none⟩ = some (.slice none 0 0) := (hb2.cell (p := ⟨w.heap.size + 1, 0, none⟩) (by simp)).trans (by simp [go_sem])
  have f1 : w1.frozen? ⟨w.heap.size + 1, 0, none⟩ = false := (hb2.frozen (p := ⟨w.heap.size + 1, 0, none⟩) (by simp)).trans (by simp [go_sem])
  have d2 : w1.cell? ⟨w.heap.size + 2, 0, none⟩ = some (.slice none 0 0) := (hb2.cell (p := ⟨w.heap.size + 2, 0, none⟩) (by simp)).trans (by simp [go_sem])
  have f2 : w1.frozen? ⟨w.heap.size + 2, 0, none⟩ = false := (hb2.frozen (p := ⟨w.heap.size + 2, 0, none⟩) (by simp)).trans (by simp [go_sem])
  have Hb1 := Lib.hid hb1
  have Hb2 := Lib.hid hb2
  have HB0 := Lib.hid hB0
  clear hb1 hb2 hB0
  go_wp2
  refine bodyPost_ret (v := .agg #[.slice (some ⟨w.heap.size + 3, 0, none⟩) l.length l.length]) (by simp [results, Try.results12, go_sem, d1]) rfl ⟨_, rfl, by omega, ?_, ?_⟩
  · exact (Hb1.out.far (by show w.heap.size + 1 + 1 + 1 ≠ w.heap.size + 2; omega) _).far (by show w.heap.size + 1 + 1 + 1 ≠ w.heap.size + 1; omega) _
  · exact ((HB0.out.trans (Hb2.out.mono (by omega))).setCell (by show w.heap.size ≤ w.heap.size + 2; omega) _).setCell (by show w.heap.size ≤ w.heap.size + 1; omega) _

set_option maxHeartbeats 400000 in
theorem szNodeS_any (A : Option Addr) (n c : Nat) (left : Int) (w : World) (h0 : 0 ≤ left) (h1 : left ≤ 1048576) (hn : n ≤ maxLen) :
    Calls Try.prog 33 #[.slice A n c, .int .i64 left] w fun e w' => e = .returned (.int .i64 (szLeft left n)) ∧ w = w' := by
  unfold maxLen at hn
  by_cases h : left < n
  · rw [szLeft_no h]
    go_enter Try.func33, Try.ntmps33
    go_wp2
    go_ret
    exact ⟨rfl, rfl⟩
  · rw [szLeft_yes h]
    go_enter Try.func33, Try.ntmps33
    go_wp2
    go_ret
    exact ⟨rfl, rfl⟩

set_option maxHeartbeats 400000 in
theorem szPipe_any (A : Option Addr) (n c : Nat) (left : Int) (w : World) (h0 : 0 ≤ left) (h1 : left ≤ 1048576) (hn : n ≤ maxLen) :
    Calls Try.prog 9 #[.agg #[.slice A n c], .int .i64 left] w fun e w' => e = .returned (.int .i64 (szLeft left n)) ∧ Below w.heap.size w w' := by
  by_cases h : left < n
  · have hz := szLeft_no h
    have Hz := Lib.hid hz
    clear hz
    go_enter Try.func9, Try.ntmps9
    go_wp2_with (go_at_call 33; refine (szNodeS_any _ _ _ _ _ h0 h1 hn).mono ?_; rintro e w1 ⟨rfl, rfl⟩; rw [Hz.out])
    go_ret
    exact ⟨ret_int Hz.out.symm, (Below.refl _ _).alloc (Nat.le_refl _) _⟩
  · have hz := szLeft_yes h
    have Hz := Lib.hid hz
    clear hz
    go_enter Try.func9, Try.ntmps9
    go_wp2_with (go_at_call 33; refine (szNodeS_any _ _ _ _ _ h0 h1 hn).mono ?_; rintro e w1 ⟨rfl, rfl⟩; rw [Hz.out])
    go_ret
    exact ⟨ret_int Hz.out.symm, (Below.refl _ _).alloc (Nat.le_refl _) _⟩

end Go.Proofs.Ytkjhncohanfciaa
