/- Contracts of the functions that copy lists of numbers into new memory, compare them, and count them. -/
import Derived.Test.YtjkieedomljelaaSrcA
import Derived.Deep.QuietTactic
import Derived.BigQuiet
namespace Go.Proofs.Ytjkieedomljelaa
open Go.RowKit

theorem Try.infoInt : (Try.prog.info? 3).map (fun i => (i.zero, i.size, i.bytes)) = some (some (.int .i64 0), 1, 8) := by kernel_rfl
theorem Try.infoInts : (Try.prog.info? 22).map (fun i => (i.zero, i.size, i.bytes)) = some (some (.slice none 0 0), 1, 24) := by kernel_rfl

set_option maxHeartbeats 400000 in
theorem eqIntS_any (A1 A2 : Option Addr) (c1 c2 : Nat) (l1 l2 : List Int) (w : World) (B : Nat) (h1 : RdI w B A1 l1) (h2 : RdI w B A2 l2) (n1 : l1.length ≤ 1048576) :
    Calls Try.prog 27 #[.slice A1 l1.length c1, .slice A2 l2.length c2] w fun e w' => e = .returned (.bool (decide (l1 = l2))) ∧ Same w w' := by
  by_cases hl : l1.length = l2.length
  · have hb' : (l1.length != l2.length) = false := by simp [hl]
    have Hl := Lib.hid hl
    clear hl
    go_enter Try.func27, Try.ntmps27
    go_wp2
    go_loopw [5] (fun i wr => ∃ k : Nat, k ≤ l1.length ∧ i = .int .i64 k ∧ l1.take k = l2.take k ∧ Same w wr) (fun i _ => l1.length - (intOf i).toNat)
    case atStart => exact ⟨0, Nat.zero_le _, rfl, by simp, Same.refl _⟩
    case round =>
      obtain ⟨k, hk, rfl, hall, hs⟩ := hrel
      have Hall := Lib.hid hall
      clear hall
      by_cases hlt : k < l1.length
      · have hlt2 : k < l2.length := by rw [← Hl.out]; exact hlt
        obtain ⟨ad, x, rfl, hx, hc⟩ := (h1.same hs).at_ hlt
        obtain ⟨ad2, y, rfl, hy, hc2⟩ := (h2.same hs).at_ hlt2
        have Hx := Lib.hid hx
        have Hy := Lib.hid hy
        have Hs := Lib.hid hs
        clear hx hy h1 h2 hs
        by_cases hxy : x = y
        · subst hxy
          go_wp2
          go_quiet (fail)
          all_goals go_wp2
          go_roundw
          case rel => exact ⟨k + 1, by omega, by go_num, take_eq_succ Hall.out Hx.out Hy.out, Hs.out.drewN _⟩
          case measure => simp [intOf]; omega
        · have hb2 : (x != y) = true := by simp [hxy]
          have Hxy : Hid (¬ x = y) := hxy
          clear hxy
          go_wp2
          go_quiet (fail)
          all_goals go_wp2
          go_ret
          exact ⟨ret_bool (decide_eq_false (ne_of_get Hx.out Hy.out Hxy.out)).symm, Hs.out.drewN _⟩
      · go_wp2
        go_ret
        exact ⟨ret_bool (decide_eq_true (eq_of_take (by omega) (by rw [← Hl.out]; omega) Hall.out)).symm, hs⟩
  · have hb' : (l1.length != l2.length) = true := by simp [hl]
    have Hl : Hid (¬ l1.length = l2.length) := hl
    clear hl
    go_enter Try.func27, Try.ntmps27
    go_wp2
    go_ret
    exact ⟨ret_bool (by rw [decide_eq_false]; intro e; exact Hl.out (by rw [e])), Same.refl _⟩

/-- The same, met inside a region that draws its order. -/
theorem eqIntS_q {A1 A2 : Option Addr} {c1 c2 : Nat} {l1 l2 : List Int} {w : World} {B n : Nat} {b : Bool} (h1 : RdI w B A1 l1) (h2 : RdI w B A2 l2) (n1 : l1.length ≤ 1048576) (hb : Hid (decide (l1 = l2) = b)) :
    Calls Try.prog 27 #[.slice A1 l1.length c1, .slice A2 l2.length c2] (w.drewN n) fun e w' => e = .returned (.bool b) ∧ ∃ m, w' = w.drewN m :=
  Calls.quiet_of ((eqIntS_any A1 A2 c1 c2 l1 l2 (w.drewN n) B (h1.drewN n) (h2.drewN n) n1).mono fun _ _ ⟨he, hs⟩ => ⟨by rw [he, hb.out], hs⟩)

theorem bk_made (w : World) (t : TypeId) (l : List Int) (z : Value) {n : Nat} : Bk (w.alloc (.cells (madeCells #[z] n) t)) w.heap.size t (ints (l.take 0) ++ List.replicate (n - 0) z) := by
  have e : madeCells #[z] n = (List.replicate n z).toArray := by rw [← toList_madeCells_one]
  rw [e]
  have h := Bk.new w t (List.replicate n z)
  simpa [ints] using h
theorem fill_ints {w : World} {g k n : Nat} {t : TypeId} {l : List Int} {x : Int} (h : Bk w g t (ints (l.take k) ++ List.replicate (n - k) (.int .i64 0))) (hx : l[k]? = some x) (hk : k < n) :
    Bk (w.setCell ⟨g, k, none⟩ (.int .i64 x)) g t (ints (l.take (k + 1)) ++ List.replicate (n - (k + 1)) (.int .i64 0)) := by
  have h2 := h.set_ k (.int .i64 x)
  have hl : k < l.length := (List.getElem?_eq_some_iff.1 hx).1
  rw [fill_set _ _ _ (by simp [ints]; omega) hk] at h2
  rw [take_succ_of hx]
  simpa [ints] using h2

set_option maxHeartbeats 400000 in
theorem toIntS_any (A : Option Addr) (c : Nat) (l : List Int) (w : World) (B : Nat) (h : RdI w B A l) (hB : B ≤ w.heap.size) (hn : l.length ≤ 1048576) :
    Calls Try.prog 25 #[.slice A l.length c] w fun e w' => e = .returned (.slice (some ⟨w.heap.size, 0, none⟩) l.length l.length) ∧ Bk w' w.heap.size 3 (ints l) ∧ Below w.heap.size w w' := by
  have hmk := run_make_row' (P := Try.prog) 22 3 (.int .i64 0) 8 Try.underlying22 Try.infoInt rfl .i64 .i64 l.length (by omega) (by omega)
  go_enter Try.func25, Try.ntmps25
  go_wp2
  clear hmk
  go_loopw [4] (fun i wr => ∃ k : Nat, k ≤ l.length ∧ i = .int .i64 k ∧ Bk wr w.heap.size 3 (ints (l.take k) ++ List.replicate (l.length - k) (.int .i64 0)) ∧ Below w.heap.size w wr) (fun i _ => l.length - (intOf i).toNat)
  case atStart => exact ⟨0, Nat.zero_le _, rfl, bk_made _ _ _ _, (Below.refl _ _).alloc (Nat.le_refl _) _⟩
  case round =>
    obtain ⟨k, hk, rfl, hbk, hbl⟩ := hrel
    have Hbl := Lib.hid hbl
    clear hbl
    by_cases hlt : k < l.length
    · obtain ⟨ad, x, rfl, hx, hc⟩ := (h.below Hbl.out hB).at_ hlt
      have hold : ∃ u, wr.cell? ⟨w.heap.size, k, none⟩ = some u := by
        rw [hbk.cell]; exact get_of_lt _ (by simp [ints]; omega)
      obtain ⟨u, hu⟩ := hold
      have hf := hbk.free k
      have Hx := Lib.hid hx
      have Hbk := Lib.hid hbk
      clear hx h hbk
      go_wp2
      go_roundw
      case rel => exact ⟨k + 1, by omega, by go_num, fill_ints Hbk.out Hx.out hlt, Hbl.out.setCell (Nat.le_refl _) _⟩
      case measure => simp [intOf]; omega
    · go_wp2
      go_ret
      obtain rfl : k = l.length := by omega
      exact ⟨rfl, by simpa using hbk, Hbl.out⟩

end Go.Proofs.Ytjkieedomljelaa
