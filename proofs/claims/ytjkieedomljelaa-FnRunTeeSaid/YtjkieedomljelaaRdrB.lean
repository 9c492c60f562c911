/- The reader: one of some numbers, a new reader; what is drawn for FairTurns; equal lists. -/
import Derived.Test.YtjkieedomljelaaRdr
import Derived.Test.YtjkieedomljelaaCopy
namespace Go.Proofs.Ytjkieedomljelaa
open Go.RowKit Go.Deep

set_option maxRecDepth 100000 in
set_option maxHeartbeats 3200000 in
theorem one_any (rb : Nat) (A : Option Addr) (l : List Nat) (c p g c2 : Nat) (ls : List Int) (w : World) (h : RdrAt w rb A l c p) (hu : RdU w rb A l) (hl : l.length ≤ 2000) (hp : p ≤ 1048576) (hg : Bk w g 3 (ints ls)) (hne : g ≠ rb) (h0 : 0 < ls.length) (h1 : ls.length ≤ 1048576) :
    Calls Try.prog 86 #[.pointer (some ⟨rb, 0, none⟩), .slice (some ⟨g, 0, none⟩) ls.length c2] w fun e w' => ∃ x : Int, e = .returned (.int .i64 x) ∧ x ∈ ls ∧ RdrAt w' rb A l c (p + 1) ∧ Chg rb (rb + 1) w w' := by
  have H := Lib.hid h
  have Hu := Lib.hid hu
  have Hg := Lib.hid hg
  have hgl := hg.lt
  clear h hu hg
  go_enter Try.func86, Try.ntmps86
  go_wp2_with fail
  refine (pick_any rb A l c p ls.length w H.out Hu.out hl hp (by omega)).mono ?_
  rintro e w1 ⟨x, rfl, ⟨hx0, hx1, _⟩, hr, hc⟩
  have hx2 := hx1 (by omega)
  obtain ⟨k, rfl⟩ : ∃ k : Nat, x = k := ⟨x.toNat, by omega⟩
  obtain ⟨y, hy⟩ := get_of_lt ls (k := k) (by omega)
  have hgc : Bk w1 g 3 (ints ls) := (hc.block g hgl (by omega)).trans Hg.out
  have cy : w1.cell? ⟨g, k, none⟩ = some (.int .i64 y) := by rw [hgc.cell, ints_get, hy]; rfl
  have hkl : k < ls.length := by omega
  have Hr := Lib.hid hr
  have Hc := Lib.hid hc
  have Hy := Lib.hid hy
  clear hr hc hy hgc hx0 hx1
  go_wp2_with fail
  go_ret
  exact ⟨y, rfl, List.mem_of_getElem? Hy.out, Hr.out, Hc.out⟩

/-- A new reader, that has drawn nothing. -/
def NewRdr (A : Option Addr) (w : World) (e : Ending) (w' : World) : Prop := ∃ (l' : List Nat) (c' : Nat), e = .returned (.pointer (some ⟨w.heap.size, 0, none⟩)) ∧ l'.length ≤ 2000 ∧ RdU w' w.heap.size A l' ∧ RdrAt w' w.heap.size A l' c' 0 ∧ Below w.heap.size w w'

set_option maxRecDepth 100000 in
set_option maxHeartbeats 3200000 in
theorem newReader_any (A : Option Addr) (c : Nat) (l : List Nat) (w : World) (B : Nat) (h : RdU w B A l) (hB : B ≤ w.heap.size) (hl : l.length ≤ maxLen) (hc : l.length ≤ c) :
    Calls Try.prog 76 #[.slice A l.length c] w (NewRdr A w) := by
  have H := Lib.hid h
  unfold maxLen at hl
  clear h
  by_cases hlong : 2000 < l.length
  · have hl1 : (2000 : Int) < l.length := by omega
    have hl2 : (2000 : Int) ≤ c := by omega
    have hl3 : 2000 ≤ c := by omega
    have hc0 : ¬ c = 0 := by omega
    go_enter Try.func76, Try.ntmps76
    go_wp2_with fail
    refine bodyPost_ret (v := .pointer (some ⟨w.heap.size, 0, none⟩)) (by simp [results, Try.results76, go_sem]) rfl ?_
    have hb : Below w.heap.size w (w.alloc (.cells #[.slice A 2000 c, .int .i64 0] 91)) := (Below.refl _ _).alloc (Nat.le_refl _) _
    have ht : (l.take 2000).length = 2000 := by rw [List.length_take]; omega
    refine ⟨l.take 2000, c, rfl, by omega, ((H.out.below hb hB).take 2000).more hB, ?_, hb⟩
    unfold RdrAt
    rw [ht]
    exact Bk.new w _ [_, _]
  · have hl1 : ¬ (2000 : Int) < l.length := by omega
    go_enter Try.func76, Try.ntmps76
    go_wp2_with fail
    refine bodyPost_ret (v := .pointer (some ⟨w.heap.size, 0, none⟩)) (by simp [results, Try.results76, go_sem]) rfl ?_
    have hb : Below w.heap.size w (w.alloc (.cells #[.slice A l.length c, .int .i64 0] 91)) := (Below.refl _ _).alloc (Nat.le_refl _) _
    exact ⟨l, c, rfl, by omega, (H.out.below hb hB).more hB, Bk.new w _ [_, _], hb⟩

set_option maxHeartbeats 400000 in
theorem equalInts_any (A1 A2 : Option Addr) (c1 c2 : Nat) (l1 l2 : List Int) (w : World) (B : Nat) (h1 : RdI w B A1 l1) (h2 : RdI w B A2 l2) (n1 : l1.length ≤ 1048576) :
    Calls Try.prog 46 #[.slice A1 l1.length c1, .slice A2 l2.length c2] w fun e w' => e = .returned (.bool (decide (l1 = l2))) ∧ Same w w' := by
  by_cases hl : l1.length = l2.length
  · have hb' : (l1.length != l2.length) = false := by simp [hl]
    have Hl := Lib.hid hl
    clear hl
    go_enter Try.func46, Try.ntmps46
    go_wp2
    go_loopw [5] (fun i wr => ∃ k : Nat, k ≤ l1.length ∧ i = .int .i64 k ∧ l1.take k = l2.take k ∧ Same w wr) (fun i _ => l1.length - (intOf i).toNat)
    case atStart => exact ⟨0, Nat.zero_le _, rfl, by simp, Same.refl _⟩
    case round =>
      obtain ⟨k, hk, rfl, hall, hs⟩ := hrel
      have Hall := Lib.hid hall
      clear hall
      by_cases hlt : k < l1.length
      · have hlt2 : k < l2.length := by rw [← Hl.out]; exact hlt
        obtain ⟨ad, x, rfl, hx, hc⟩ := (h1.same hs).at_ hlt
        obtain ⟨ad2, y, rfl, hy, hc2⟩ := (h2.same hs).at_ hlt2
        have Hx := Lib.hid hx
        have Hy := Lib.hid hy
        have Hs := Lib.hid hs
        clear hx hy h1 h2 hs
        by_cases hxy : x = y
        · subst hxy
          go_wp2
          go_quiet (fail)
          all_goals go_wp2
          go_roundw
          case rel => exact ⟨k + 1, by omega, by go_num, take_eq_succ Hall.out Hx.out Hy.out, Hs.out.drewN _⟩
          case measure => simp [intOf]; omega
        · have hb2 : (x != y) = true := by simp [hxy]
          have Hxy : Hid (¬ x = y) := hxy
          clear hxy
          go_wp2
          go_quiet (fail)
          all_goals go_wp2
          go_ret
          exact ⟨ret_bool (decide_eq_false (ne_of_get Hx.out Hy.out Hxy.out)).symm, Hs.out.drewN _⟩
      · go_wp2
        go_ret
        exact ⟨ret_bool (decide_eq_true (eq_of_take (by omega) (by rw [← Hl.out]; omega) Hall.out)).symm, hs⟩
  · have hb' : (l1.length != l2.length) = true := by simp [hl]
    have Hl : Hid (¬ l1.length = l2.length) := hl
    clear hl
    go_enter Try.func46, Try.ntmps46
    go_wp2
    go_ret
    exact ⟨ret_bool (by rw [decide_eq_false]; intro e; exact Hl.out (by rw [e])), Same.refl _⟩


end Go.Proofs.Ytjkieedomljelaa
