/- The reader: one of some numbers, a new reader; what is drawn for FairTurns; equal lists. -/
import Derived.Test.YtkkgpddpplokfaaRdr
import Derived.Test.YtkkgpddpplokfaaCopy
namespace Go.Proofs.Ytkkgpddpplokfaa
open Go.RowKit Go.Deep

set_option maxRecDepth 100000 in
set_option maxHeartbeats 3200000 in
theorem one_any (rb : Nat) (A : Option Addr) (l : List Nat) (c p g c2 : Nat) (ls : List Int) (w : World) (h : RdrAt w rb A l c p) (hu : RdU w rb A l) (hl : l.length ≤ 2000) (hp : p ≤ 1048576) (hg : Bk w g 3 (ints ls)) (hne : g ≠ rb) (h0 : 0 < ls.length) (h1 : ls.length ≤ 1048576) :
    Calls Try.prog 82 #[.pointer (some ⟨rb, 0, none⟩), .slice (some ⟨g, 0, none⟩) ls.length c2] w fun e w' => ∃ x : Int, e = .returned (.int .i64 x) ∧ x ∈ ls ∧ RdrAt w' rb A l c (p + 1) ∧ Chg rb (rb + 1) w w' := by
  have H := Lib.hid h
  have Hu := Lib.hid hu
  have Hg := Lib.hid hg
  have hgl := hg.lt
  clear h hu hg
  go_enter Try.func82, Try.ntmps82
  go_wp2_with fail
  refine (pick_any rb A l c p ls.length w H.out Hu.out hl hp (by omega)).mono ?_
  rintro e w1 ⟨x, rfl, ⟨hx0, hx1, _⟩, hr, hc⟩
  have hx2 := hx1 (by omega)
  obtain ⟨k, rfl⟩ : ∃ k : Nat, x = k := ⟨x.toNat, by omega⟩
  obtain ⟨y, hy⟩ := get_of_lt ls (k := k) (by omega)
  have hgc : Bk w1 g 3 (ints ls) := (hc.block g hgl (by omega)).trans Hg.out
  have cy : w1.cell? ⟨g, k, none⟩ = some (.int .i64 y) := by rw [hgc.cell, ints_get, hy]; rfl
  have hkl : k < ls.length := by omega
  have Hr := Lib.hid hr
  have Hc := Lib.hid hc
  have Hy := Lib.hid hy
  clear hr hc hy hgc hx0 hx1
  go_wp2_with fail
  go_ret
  exact ⟨y, rfl, List.mem_of_getElem? Hy.out, Hr.out, Hc.out⟩

/-- A new reader, that has drawn nothing. -/
def NewRdr (A : Option Addr) (w : World) (e : Ending) (w' : World) : Prop := ∃ (l' : List Nat) (c' : Nat), e = .returned (.pointer (some ⟨w.heap.size, 0, none⟩)) ∧ l'.length ≤ 2000 ∧ RdU w' w.heap.size A l' ∧ RdrAt w' w.heap.size A l' c' 0 ∧ Below w.heap.size w w'

set_option maxRecDepth 100000 in
set_option maxHeartbeats 3200000 in
theorem newReader_any (A : Option Addr) (c : Nat) (l : List Nat) (w : World) (B : Nat) (h : RdU w B A l) (hB : B ≤ w.heap.size) (hl : l.length ≤ maxLen) (hc : l.length ≤ c) :
    Calls Try.prog 79 #[.slice A l.length c] w (NewRdr A w) := by
  have H := Lib.hid h
  unfold maxLen at hl
  clear h
  by_cases hlong : 2000 < l.length
  · have hl1 : (2000 : Int) < l.length := by omega
    have hl2 : (2000 : Int) ≤ c := by omega
    have hl3 : 2000 ≤ c := by omega
    have hc0 : ¬ c = 0 := by omega
    go_enter Try.func79, Try.ntmps79
    go_wp2_with fail
    refine bodyPost_ret (v := .pointer (some ⟨w.heap.size, 0, none⟩)) (by simp [results, Try.results79, go_sem]) rfl ?_
    have hb : Below w.heap.size w (w.alloc (.cells #[.slice A 2000 c, .int .i64 0] 126)) := (Below.refl _ _).alloc (Nat.le_refl _) _
    have ht : (l.take 2000).length = 2000 := by rw [List.length_take]; omega
    refine ⟨l.take 2000, c, rfl, by omega, ((H.out.below hb hB).take 2000).more hB, ?_, hb⟩
    unfold RdrAt
    rw [ht]
    exact Bk.new w _ [_, _]
  · have hl1 : ¬ (2000 : Int) < l.length := by omega
    go_enter Try.func79, Try.ntmps79
    go_wp2_with fail
    refine bodyPost_ret (v := .pointer (some ⟨w.heap.size, 0, none⟩)) (by simp [results, Try.results79, go_sem]) rfl ?_
    have hb : Below w.heap.size w (w.alloc (.cells #[.slice A l.length c, .int .i64 0] 126)) := (Below.refl _ _).alloc (Nat.le_refl _) _
    exact ⟨l, c, rfl, by omega, (H.out.below hb hB).more hB, Bk.new w _ [_, _], hb⟩

end Go.Proofs.Ytkkgpddpplokfaa
