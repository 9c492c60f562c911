/- Contracts: how deep the node i is (the reference); the tree of the node i (the program). -/
import Derived.Test.YtkjhncohanfciaaPipeS
import Derived.Test.YtkjhncohanfciaaTree
namespace Go.Proofs.Ytkjhncohanfciaa
open Go.RowKit Go.Sort

/-- The cells of a node. -/
def five (x : Nd) : Array Value := #[.int .i64 x.k, .int .i64 x.a, .int .i64 x.b, .int .i64 x.n, .int .i64 x.m]

set_option maxHeartbeats 1600000 in
theorem deep_any {l : List Nd} {i : Nat} {t : T} (ht : IsTree l i t) : ∀ (A : Option Addr) (c : Nat) (w : World) (B : Nat), RdN w B A l → B ≤ w.heap.size → l.length ≤ 1048576 →
    Calls Try.prog 46 #[.agg #[.slice A l.length c], .int .i64 i] w fun e w' => e = .returned (.int .i64 (t.depth : Nat)) ∧ Below w.heap.size w w' := by
  induction ht with
  | @leaf i x hx ha h1 h2 =>
    intro A c w B h hB hn
    have hlt : i < l.length := (List.getElem?_eq_some_iff.1 hx).1
    have hb0 := (Below.refl w.heap.size w).alloc (Nat.le_refl _) (.cells #[.slice A l.length c] 32)
    obtain ⟨b, o, y, rfl, hbB, hy, hc⟩ := (h.below hb0 hB).at_ hlt
    obtain rfl := Option.some.inj (hx.symm.trans hy)
    obtain ⟨c0, c1, c2, c3, c4⟩ := hc
    rw [h1] at c1
    rw [h2] at c2
    clear hx hy ha h h1 h2 hb0
    go_enter Try.func46, Try.ntmps46
    go_wp2_with fail
    go_ret
    exact ⟨by simp [T.depth], ((Below.refl _ _).alloc (Nat.le_refl _) _).alloc (by simp) _⟩
  | @stem i j x t hx ha h1 hj h2 ht ih =>
    intro A c w B h hB hn
    have hlt : i < l.length := (List.getElem?_eq_some_iff.1 hx).1
    have hd := ht.depth_le
    have hb0 := (Below.refl w.heap.size w).alloc (Nat.le_refl _) (.cells #[.slice A l.length c] 32)
    obtain ⟨b, o, y, rfl, hbB, hy, hc⟩ := (h.below hb0 hB).at_ hlt
    obtain rfl := Option.some.inj (hx.symm.trans hy)
    obtain ⟨c0, c1, c2, c3, c4⟩ := hc
    rw [h1] at c1
    rw [h2] at c2
    have Hh := Lib.hid h
    have Hi := Lib.hid (fun W' B' hW hB' => ih (some ⟨b, o, none⟩) c W' B' hW hB' hn)
    clear hx hy ha h h1 h2 hb0 ih ht
    go_enter Try.func46, Try.ntmps46
    obtain ⟨W2, hW2⟩ : ∃ W2 : World, W2 = (w.alloc (.cells #[.slice (some ⟨b, o, none⟩) l.length c] 32)).alloc (.cells #[.int .i64 x.k, .int .i64 (j : Int), .int .i64 (-1), .int .i64 x.n, .int .i64 x.m] 69) := ⟨_, rfl⟩
    have hb2 : Below w.heap.size w W2 := by rw [hW2]; exact ((Below.refl _ _).alloc (Nat.le_refl _) _).alloc (by simp) _
    have hbox : Bk W2 w.heap.size 32 [.slice (some ⟨b, o, none⟩) l.length c] := by rw [hW2]; exact (Bk.new _ _ [_]).alloc _
    have hnode : Bk W2 (w.heap.size + 1) 69 [.int .i64 x.k, .int .i64 (j : Int), .int .i64 (-1), .int .i64 x.n, .int .i64 x.m] := by
      rw [hW2]
      have := Bk.new (w.alloc (.cells #[.slice (some ⟨b, o, none⟩) l.length c] 32)) 69 [.int .i64 x.k, .int .i64 (j : Int), .int .i64 (-1), .int .i64 x.n, .int .i64 x.m]
      simpa using this
    have HW2 := Lib.hid hW2
    have Hb2 := Lib.hid hb2
    have Hbox := Lib.hid hbox
    have Hnode := Lib.hid hnode
    have hz2 := hb2.size
    clear hW2 hb2 hbox hnode
    go_wp2_with fail
    rw [← HW2.out]
    refine (Hi.out W2 B (Hh.out.below Hb2.out hB) (by omega)).mono ?_
    rintro e w3 ⟨rfl, hb3⟩
    have Hb3 := Lib.hid (Hb2.out.trans (hb3.mono hz2))
    have d2 : w3.cell? ⟨w.heap.size + 1, 2, none⟩ = some (.int .i64 (-1)) := (Hnode.out.below hb3 Hnode.out.lt).cell 2
    clear hb3
    go_wp2_with fail
    go_ret
    exact ⟨ret_int (by simp [T.depth]; omega), Hb3.out⟩
  | @fork i j j2 x ta tb hx ha h1 hj h2 hj2 hta htb iha ihb =>
    intro A c w B h hB hn
    have hlt : i < l.length := (List.getElem?_eq_some_iff.1 hx).1
    have hda := hta.depth_le
    have hdb := htb.depth_le
    have hb0 := (Below.refl w.heap.size w).alloc (Nat.le_refl _) (.cells #[.slice A l.length c] 32)
    obtain ⟨b, o, y, rfl, hbB, hy, hc⟩ := (h.below hb0 hB).at_ hlt
    obtain rfl := Option.some.inj (hx.symm.trans hy)
    obtain ⟨c0, c1, c2, c3, c4⟩ := hc
    rw [h1] at c1
    rw [h2] at c2
    have Hh := Lib.hid h
    have Hi := Lib.hid (fun W' B' hW hB' => iha (some ⟨b, o, none⟩) c W' B' hW hB' hn)
    have Hi2 := Lib.hid (fun W' B' hW hB' => ihb (some ⟨b, o, none⟩) c W' B' hW hB' hn)
    clear hx hy ha h h1 h2 hb0 iha ihb hta htb
    go_enter Try.func46, Try.ntmps46
    obtain ⟨W2, hW2⟩ : ∃ W2 : World, W2 = (w.alloc (.cells #[.slice (some ⟨b, o, none⟩) l.length c] 32)).alloc (.cells #[.int .i64 x.k, .int .i64 (j : Int), .int .i64 (j2 : Int), .int .i64 x.n, .int .i64 x.m] 69) := ⟨_, rfl⟩
    have hb2 : Below w.heap.size w W2 := by rw [hW2]; exact ((Below.refl _ _).alloc (Nat.le_refl _) _).alloc (by simp) _
    have hbox : Bk W2 w.heap.size 32 [.slice (some ⟨b, o, none⟩) l.length c] := by rw [hW2]; exact (Bk.new _ _ [_]).alloc _
    have hnode : Bk W2 (w.heap.size + 1) 69 [.int .i64 x.k, .int .i64 (j : Int), .int .i64 (j2 : Int), .int .i64 x.n, .int .i64 x.m] := by
      rw [hW2]
      have := Bk.new (w.alloc (.cells #[.slice (some ⟨b, o, none⟩) l.length c] 32)) 69 [.int .i64 x.k, .int .i64 (j : Int), .int .i64 (j2 : Int), .int .i64 x.n, .int .i64 x.m]
      simpa using this
    have HW2 := Lib.hid hW2
    have Hb2 := Lib.hid hb2
    have Hbox := Lib.hid hbox
    have Hnode := Lib.hid hnode
    have hz2 := hb2.size
    clear hW2 hb2 hbox hnode
    go_wp2_with fail
    rw [← HW2.out]
    refine (Hi.out W2 B (Hh.out.below Hb2.out hB) (by omega)).mono ?_
    rintro e w3 ⟨rfl, hb3⟩
    have Hb3 := Lib.hid (Hb2.out.trans (hb3.mono hz2))
    have Hbox3 := Lib.hid (Hbox.out.below hb3 Hbox.out.lt)
    have d2 : w3.cell? ⟨w.heap.size + 1, 2, none⟩ = some (.int .i64 (j2 : Int)) := (Hnode.out.below hb3 Hnode.out.lt).cell 2
    have e2 : w3.cell? ⟨w.heap.size, 0, none⟩ = some (.slice (some ⟨b, o, none⟩) l.length c) := Hbox3.out.cell 0
    have hz3 := Hb3.out.size
    clear hb3
    go_wp2_with fail
    refine (Hi2.out w3 B (Hh.out.below Hb3.out hB) (by omega)).mono ?_
    rintro e w4 ⟨rfl, hb4⟩
    have Hb4 := Lib.hid (Hb3.out.trans (hb4.mono hz3))
    clear hb4
    go_wp2_with fail
    all_goals
      go_ret
      exact ⟨ret_int (by simp [T.depth]; omega), Hb4.out⟩

end Go.Proofs.Ytkjhncohanfciaa
