/- The reader: one of some numbers, a new reader; what is drawn for FairTurns; equal lists. -/
import Derived.Test.YtebnpddgbmckcaaRdr
import Derived.Test.YtebnpddgbmckcaaCopy
namespace Go.Proofs.Ytebnpddgbmckcaa
open Go.RowKit Go.Deep

set_option maxRecDepth 100000 in
set_option maxHeartbeats 3200000 in
theorem one_any (rb : Nat) (A : Option Addr) (l : List Nat) (c p g c2 : Nat) (ls : List Int) (w : World) (h : RdrAt w rb A l c p) (hu : RdU w rb A l) (hl : l.length ≤ 2000) (hp : p ≤ 1048576) (hg : Bk w g 3 (ints ls)) (hne : g ≠ rb) (h0 : 0 < ls.length) (h1 : ls.length ≤ 1048576) :
    Calls Try.prog 60 #[.pointer (some ⟨rb, 0, none⟩), .slice (some ⟨g, 0, none⟩) ls.length c2] w fun e w' => ∃ x : Int, e = .returned (.int .i64 x) ∧ x ∈ ls ∧ RdrAt w' rb A l c (p + 1) ∧ Chg rb (rb + 1) w w' := by
  have H := Lib.hid h
  have Hu := Lib.hid hu
  have Hg := Lib.hid hg
  have hgl := hg.lt
  clear h hu hg
  go_enter Try.func60, Try.ntmps60
  go_wp2_with fail
  refine (pick_any rb A l c p ls.length w H.out Hu.out hl hp (by omega)).mono ?_
  rintro e w1 ⟨x, rfl, ⟨hx0, hx1, _⟩, hr, hc⟩
  have hx2 := hx1 (by omega)
  obtain ⟨k, rfl⟩ : ∃ k : Nat, x = k := ⟨x.toNat, by omega⟩
  obtain ⟨y, hy⟩ := get_of_lt ls (k := k) (by omega)
  have hgc : Bk w1 g 3 (ints ls) := (hc.block g hgl (by omega)).trans Hg.out
  have cy : w1.cell? ⟨g, k, none⟩ = some (.int .i64 y) := by rw [hgc.cell, ints_get, hy]; rfl
  have hkl : k < ls.length := by omega
  have Hr := Lib.hid hr
  have Hc := Lib.hid hc
  have Hy := Lib.hid hy
  clear hr hc hy hgc hx0 hx1
  go_wp2_with fail
  go_ret
  exact ⟨y, rfl, List.mem_of_getElem? Hy.out, Hr.out, Hc.out⟩

/-- A new reader, that has drawn nothing. -/
def NewRdr (A : Option Addr) (w : World) (e : Ending) (w' : World) : Prop := ∃ (l' : List Nat) (c' : Nat), e = .returned (.pointer (some ⟨w.heap.size, 0, none⟩)) ∧ l'.length ≤ 2000 ∧ RdU w' w.heap.size A l' ∧ RdrAt w' w.heap.size A l' c' 0 ∧ Below w.heap.size w w'

set_option maxRecDepth 100000 in
set_option maxHeartbeats 3200000 in
theorem newReader_any (A : Option Addr) (c : Nat) (l : List Nat) (w : World) (B : Nat) (h : RdU w B A l) (hB : B ≤ w.heap.size) (hl : l.length ≤ maxLen) (hc : l.length ≤ c) :
    Calls Try.prog 49 #[.slice A l.length c] w (NewRdr A w) := by
  have H := Lib.hid h
  unfold maxLen at hl
  clear h
  by_cases hlong : 2000 < l.length
  · have hl1 : (2000 : Int) < l.length := by omega
    have hl2 : (2000 : Int) ≤ c := by omega
    have hl3 : 2000 ≤ c := by omega
    have hc0 : ¬ c = 0 := by omega
    go_enter Try.func49, Try.ntmps49
    go_wp2_with fail
    refine bodyPost_ret (v := .pointer (some ⟨w.heap.size, 0, none⟩)) (by simp [results, Try.results49, go_sem]) rfl ?_
    have hb : Below w.heap.size w (w.alloc (.cells #[.slice A 2000 c, .int .i64 0] 88)) := (Below.refl _ _).alloc (Nat.le_refl _) _
    have ht : (l.take 2000).length = 2000 := by rw [List.length_take]; omega
    refine ⟨l.take 2000, c, rfl, by omega, ((H.out.below hb hB).take 2000).more hB, ?_, hb⟩
    unfold RdrAt
    rw [ht]
    exact Bk.new w _ [_, _]
  · have hl1 : ¬ (2000 : Int) < l.length := by omega
    go_enter Try.func49, Try.ntmps49
    go_wp2_with fail
    refine bodyPost_ret (v := .pointer (some ⟨w.heap.size, 0, none⟩)) (by simp [results, Try.results49, go_sem]) rfl ?_
    have hb : Below w.heap.size w (w.alloc (.cells #[.slice A l.length c, .int .i64 0] 88)) := (Below.refl _ _).alloc (Nat.le_refl _) _
    exact ⟨l, c, rfl, by omega, (H.out.below hb hB).more hB, Bk.new w _ [_, _], hb⟩

set_option maxRecDepth 100000 in
set_option maxHeartbeats 6400000 in
theorem drawFair_any (A : Option Addr) (c : Nat) (l : List Nat) (w : World) (B : Nat) (h : RdU w B A l) (hB : B ≤ w.heap.size) (hl : l.length ≤ maxLen) (hc : l.length ≤ c) :
    Calls Try.prog 22 #[.slice A l.length c] w fun e w' => ∃ a b : Int, e = .returned (.tuple #[.int .i64 a, .int .i64 b]) ∧ Below w.heap.size w w' := by
  have H := Lib.hid h
  clear h
  go_enter Try.func22, Try.ntmps22
  go_wp2_with fail
  refine (newReader_any A c l w B H.out hB hl hc).mono ?_
  rintro e w1 ⟨l', c', rfl, hl2, hu, hr, hb⟩
  have hrl := Bk.lt hr
  have Hu := Lib.hid hu
  have Hr := Lib.hid hr
  have Hb := Lib.hid hb
  clear hu hr hb
  go_wp2_with fail
  obtain ⟨V1, hV1⟩ : ∃ W : World, W = w1.alloc (.cells #[.int .i64 2, .int .i64 3, .int .i64 1, .int .i64 4, .int .i64 0, .int .i64 5] 3) := ⟨_, rfl⟩
  have hbV1 : Below w1.heap.size w1 V1 := by rw [hV1]; exact (Below.refl _ _).alloc (Nat.le_refl _) _
  have hgV1 : Bk V1 w1.heap.size 3 (ints [2, 3, 1, 4, 0, 5]) := by rw [hV1]; exact Bk.new w1 _ (ints [2, 3, 1, 4, 0, 5])
  have hzV1 := hbV1.size
  have hrV1 := Bk.below Hr.out hbV1 hrl
  have huV1 := Hu.out.below hbV1 (Nat.le_of_lt hrl)
  have hwv : w.heap.size ≤ V1.heap.size := by omega
  rw [← hV1]
  refine (one_any w.heap.size A l' c' 0 w1.heap.size 6 [2, 3, 1, 4, 0, 5] V1 hrV1 huV1 hl2 (by decide) hgV1 (by omega) (by decide) (by decide)).mono ?_
  rintro e w2 ⟨x1, rfl, _, hr2, hc2⟩
  replace Hr := Lib.hid hr2
  replace hrl := Bk.lt hr2
  replace Hu := Lib.hid (huV1.chg hc2 (Nat.le_refl _) hwv)
  replace Hb := Lib.hid (hc2.below_ (Hb.out.trans (hbV1.mono (by have := Hb.out.size; omega))) (Nat.le_refl _) hwv)
  clear hwv hV1 hbV1 hgV1 hzV1 hrV1 huV1 hr2 hc2
  go_wp2_with fail
  obtain ⟨V2, hV2⟩ : ∃ W : World, W = w2.alloc (.cells #[.int .i64 3, .int .i64 1, .int .i64 12, .int .i64 5, .int .i64 0, .int .i64 13] 3) := ⟨_, rfl⟩
  have hbV2 : Below w2.heap.size w2 V2 := by rw [hV2]; exact (Below.refl _ _).alloc (Nat.le_refl _) _
  have hgV2 : Bk V2 w2.heap.size 3 (ints [3, 1, 12, 5, 0, 13]) := by rw [hV2]; exact Bk.new w2 _ (ints [3, 1, 12, 5, 0, 13])
  have hzV2 := hbV2.size
  have hrV2 := Bk.below Hr.out hbV2 hrl
  have huV2 := Hu.out.below hbV2 (Nat.le_of_lt hrl)
  have hwv : w.heap.size ≤ V2.heap.size := by omega
  rw [← hV2]
  refine (one_any w.heap.size A l' c' 1 w2.heap.size 6 [3, 1, 12, 5, 0, 13] V2 hrV2 huV2 hl2 (by decide) hgV2 (by omega) (by decide) (by decide)).mono ?_
  rintro e w3 ⟨x2, rfl, _, hr3, hc3⟩
  replace Hr := Lib.hid hr3
  replace hrl := Bk.lt hr3
  replace Hu := Lib.hid (huV2.chg hc3 (Nat.le_refl _) hwv)
  replace Hb := Lib.hid (hc3.below_ (Hb.out.trans (hbV2.mono (by have := Hb.out.size; omega))) (Nat.le_refl _) hwv)
  clear hwv hV2 hbV2 hgV2 hzV2 hrV2 huV2 hr3 hc3
  go_wp2_with fail
  refine bodyPost_ret (v := .tuple #[.int .i64 x1, .int .i64 x2]) (by simp [results, Try.results22, go_sem]) rfl ⟨x1, x2, rfl, Hb.out⟩

set_option maxHeartbeats 400000 in
theorem equalInts_any (A1 A2 : Option Addr) (c1 c2 : Nat) (l1 l2 : List Int) (w : World) (B : Nat) (h1 : RdI w B A1 l1) (h2 : RdI w B A2 l2) (n1 : l1.length ≤ 1048576) :
    Calls Try.prog 24 #[.slice A1 l1.length c1, .slice A2 l2.length c2] w fun e w' => e = .returned (.bool (decide (l1 = l2))) ∧ Same w w' := by
  by_cases hl : l1.length = l2.length
  · have hb' : (l1.length != l2.length) = false := by simp [hl]
    have Hl := Lib.hid hl
    clear hl
    go_enter Try.func24, Try.ntmps24
    go_wp2
    go_loopw [5] (fun i wr => ∃ k : Nat, k ≤ l1.length ∧ i = .int .i64 k ∧ l1.take k = l2.take k ∧ Same w wr) (fun i _ => l1.length - (intOf i).toNat)
    case atStart => exact ⟨0, Nat.zero_le _, rfl, by simp, Same.refl _⟩
    case round =>
      obtain ⟨k, hk, rfl, hall, hs⟩ := hrel
      have Hall := Lib.hid hall
      clear hall
      by_cases hlt : k < l1.length
      · have hlt2 : k < l2.length := by rw [← Hl.out]; exact hlt
        obtain ⟨ad, x, rfl, hx, hc⟩ := (h1.same hs).at_ hlt
        obtain ⟨ad2, y, rfl, hy, hc2⟩ := (h2.same hs).at_ hlt2
        have Hx := Lib.hid hx
        have Hy := Lib.hid hy
        have Hs := Lib.hid hs
        clear hx hy h1 h2 hs
        by_cases hxy : x = y
        · subst hxy
          go_wp2
          go_quiet (fail)
          all_goals go_wp2
          go_roundw
          case rel => exact ⟨k + 1, by omega, by go_num, take_eq_succ Hall.out Hx.out Hy.out, Hs.out.drewN _⟩
          case measure => simp [intOf]; omega
        · have hb2 : (x != y) = true := by simp [hxy]
          have Hxy : Hid (¬ x = y) := hxy
          clear hxy
          go_wp2
          go_quiet (fail)
          all_goals go_wp2
          go_ret
          exact ⟨ret_bool (decide_eq_false (ne_of_get Hx.out Hy.out Hxy.out)).symm, Hs.out.drewN _⟩
      · go_wp2
        go_ret
        exact ⟨ret_bool (decide_eq_true (eq_of_take (by omega) (by rw [← Hl.out]; omega) Hall.out)).symm, hs⟩
  · have hb' : (l1.length != l2.length) = true := by simp [hl]
    have Hl : Hid (¬ l1.length = l2.length) := hl
    clear hl
    go_enter Try.func24, Try.ntmps24
    go_wp2
    go_ret
    exact ⟨ret_bool (by rw [decide_eq_false]; intro e; exact Hl.out (by rw [e])), Same.refl _⟩


end Go.Proofs.Ytebnpddgbmckcaa
