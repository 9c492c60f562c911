/- ValidCode, both sides. -/
import Derived.Test.YtkkgpddpplokfaaGenA
import Derived.Deep.DeepMust
namespace Go.Proofs.Ytkkgpddpplokfaa
open Go.RowKit Go.Deep

theorem all_takeS {l : List Od} {f : Od → Bool} {k : Nat} {x : Od} (h : (l.take k).all f = true) (hx : l[k]? = some x) (hf : f x = true) : (l.take (k + 1)).all f = true := by
  rw [take_succ_of hx, List.all_append, h, Bool.true_and, List.all_cons, hf]
  rfl
theorem all_no {l : List Od} {f : Od → Bool} {k : Nat} {x : Od} (hx : l[k]? = some x) (hf : f x = false) : l.all f = false := by
  rw [← Bool.not_eq_true, List.all_eq_true]
  intro h
  rw [h x (List.mem_of_getElem? hx)] at hf
  cases hf

set_option maxHeartbeats 1600000 in
/-- The function that tells the orders that are not valid. -/
theorem badFn_any (A : Option Addr) (c : Nat) (l : List Od) (pb : Nat) (x : Od) (w : World) (hp : Bk w pb 25 [.slice A l.length c]) (hn : l.length ≤ 1048576) :
    Calls Try.prog 58 #[.agg #[.int .i64 x.k, .int .i64 x.n, .int .i64 x.m], .pointer (some ⟨pb, 0, none⟩)] w fun e w' => e = .returned (.bool (!odOk l.length x)) ∧ Below w.heap.size w w' := by
  have c0 := hp.cell 0
  have hlt := hp.lt
  have hne : w.heap.size ≠ pb := by omega
  have hne2 : pb ≠ w.heap.size := by omega
  have Hn := Lib.hid hn
  go_enter Try.func58, Try.ntmps58
  go_wp2_with fail
  refine (implvalidOrder_any x l.length _ (by omega) (by have := Hn.out; omega)).mono ?_
  rintro e w1 ⟨rfl, hb1⟩
  have Hb1 := Lib.hid hb1
  clear hb1
  go_wp2_with fail
  go_ret
  exact ⟨rfl, ((Below.refl _ _).alloc (Nat.le_refl _) _).trans (Hb1.out.mono (by simp))⟩

set_option maxRecDepth 100000 in
set_option maxHeartbeats 3200000 in
theorem indexBad_any (A : Option Addr) (c : Nat) (l : List Od) (pb : Nat) (w : World) (B : Nat) (h : RdOd w B A l) (hB : B ≤ w.heap.size) (hn : l.length ≤ 1048576) (hp : Bk w pb 25 [.slice A l.length c]) :
    Calls Try.prog 84 #[.slice A l.length c, .func (.func 58) #[] #[.pointer (some ⟨pb, 0, none⟩)]] w fun e w' => ∃ r : Int, e = .returned (.int .i64 r) ∧ decide (0 ≤ r) = (!l.all (odOk l.length)) ∧ Below w.heap.size w w' := by
  have H := Lib.hid h
  have Hp := Lib.hid hp
  have hlt0 := hp.lt
  clear h hp
  go_enter Try.func84, Try.ntmps84
  go_wp2_with fail
  go_loopw [8] (fun iv wr => ∃ k : Nat, k ≤ l.length ∧ iv = .int .i64 k ∧ Hid ((l.take k).all (odOk l.length) = true) ∧ Hid (Below w.heap.size w wr)) (fun iv _ => (l.length - intOf iv).toNat)
  case atStart => exact ⟨0, Nat.zero_le _, rfl, Lib.hid rfl, Lib.hid (Below.refl _ _)⟩
  case round =>
    obtain ⟨k, hk, rfl, Ha, Hb⟩ := hrel
    by_cases hlt : k < l.length
    · obtain ⟨b, o, x, hA, hbB, hx, hat⟩ := (H.out.below Hb.out hB).at_ hlt
      have Hx := Lib.hid hx
      have HA := Lib.hid hA
      rw [hA]
      obtain ⟨c0, c1, c2⟩ := hat
      clear hx hA
      go_wp2_with fail
      have hpw : Bk wr pb 25 [.slice A l.length c] := Hp.out.below Hb.out hlt0
      refine (badFn_any A c l pb x wr hpw hn).mono ?_
      rintro e w2 ⟨rfl, hb2⟩
      have Hb2 := Lib.hid (Hb.out.trans (hb2.mono Hb.out.size))
      clear hb2 hpw
      cases hv : odOk l.length x
      · have Hv := Lib.hid hv
        go_wp2_with fail
        go_ret
        exact ⟨_, rfl, by rw [all_no Hx.out Hv.out, decide_eq_true (by omega)]; rfl, Hb2.out⟩
      · have Hv := Lib.hid hv
        go_wp2_with fail
        go_roundw
        case rel => exact ⟨k + 1, by omega, by go_num, Lib.hid (all_takeS Ha.out Hx.out Hv.out), Hb2⟩
        case measure => simp [intOf]; omega
    · obtain rfl : k = l.length := by omega
      have Ha2 : Hid (l.all (odOk l.length) = true) := Lib.hid (by have := Ha.out; rwa [List.take_length] at this)
      go_wp2_with fail
      go_ret
      exact ⟨_, rfl, by rw [Ha2.out]; rfl, Hb.out⟩

set_option maxHeartbeats 1600000 in
theorem hasBad_any (A : Option Addr) (c : Nat) (l : List Od) (pb : Nat) (w : World) (B : Nat) (h : RdOd w B A l) (hB : B ≤ w.heap.size) (hn : l.length ≤ 1048576) (hp : Bk w pb 25 [.slice A l.length c]) :
    Calls Try.prog 57 #[.slice A l.length c, .func (.func 58) #[] #[.pointer (some ⟨pb, 0, none⟩)]] w fun e w' => e = .returned (.bool (!l.all (odOk l.length))) ∧ Below w.heap.size w w' := by
  go_enter Try.func57, Try.ntmps57
  go_wp2_with fail
  refine (indexBad_any A c l pb w B h hB hn hp).mono ?_
  rintro e w1 ⟨r, rfl, hr, hb⟩
  have Hb := Lib.hid hb
  have Hr := Lib.hid hr
  clear hb hr
  go_wp2_with fail
  go_ret
  exact ⟨ret_bool Hr.out, Hb.out⟩

set_option maxHeartbeats 1600000 in
theorem implValidCode_any (A : Option Addr) (c : Nat) (l : List Od) (w : World) (B : Nat) (h : RdOd w B A l) (hB : B ≤ w.heap.size) (hn : l.length ≤ 1048576) :
    Calls Try.prog 18 #[.slice A l.length c] w fun e w' => e = .returned (.bool (codeOk l)) ∧ Below w.heap.size w w' := by
  by_cases h10 : l.length ≤ 10
  rotate_left
  · have hgi : ¬ (l.length : Int) ≤ 10 := by omega
    have Hno : Hid (codeOk l = false) := Lib.hid (by unfold codeOk; rw [decide_eq_false h10, Bool.and_false])
    clear h10
    go_enter Try.func18, Try.ntmps18
    go_wp2_with fail
    go_ret
    exact ⟨ret_bool Hno.out.symm, (Below.refl _ _).alloc (Nat.le_refl _) _⟩
  have hgi : (l.length : Int) ≤ 10 := by omega
  have Hyes : Hid (codeOk l = l.all (odOk l.length)) := Lib.hid (by unfold codeOk; rw [decide_eq_true h10, Bool.and_true])
  have H := Lib.hid h
  clear h
  go_enter Try.func18, Try.ntmps18
  go_wp2_with fail
  have hb0 : Below w.heap.size w (w.alloc (.cells #[.slice A l.length c] 25)) := (Below.refl _ _).alloc (Nat.le_refl _) _
  refine (hasBad_any A c l w.heap.size _ B (H.out.below hb0 hB) (Nat.le_trans hB hb0.size) hn (Bk.new w _ [_])).mono ?_
  rintro e w1 ⟨rfl, hb1⟩
  have Hb1 := Lib.hid (hb0.trans (hb1.mono (by simp)))
  clear hb0 hb1
  go_wp2_with fail
  go_ret
  exact ⟨ret_bool Hyes.out.symm, Hb1.out⟩

set_option maxRecDepth 100000 in
set_option maxHeartbeats 3200000 in
theorem specvalidCode_any (A : Option Addr) (c : Nat) (l : List Od) (w : World) (B : Nat) (h : RdOd w B A l) (hB : B ≤ w.heap.size) (hn : l.length ≤ 1048576) :
    Calls Try.prog 55 #[.slice A l.length c] w fun e w' => e = .returned (.bool (codeOk l)) ∧ Below w.heap.size w w' := by
  have H := Lib.hid h
  clear h
  go_enter Try.func55, Try.ntmps55
  go_wp2_with fail
  go_loopw [3] (fun iv wr => ∃ k : Nat, k ≤ l.length ∧ iv = .int .i64 k ∧ Hid ((l.take k).all (odOk l.length) = true) ∧ Hid (Below w.heap.size w wr)) (fun iv _ => (l.length - intOf iv).toNat)
  case atStart => exact ⟨0, Nat.zero_le _, rfl, Lib.hid rfl, Lib.hid (Below.refl _ _)⟩
  case round =>
    obtain ⟨k, hk, rfl, Ha, Hb⟩ := hrel
    by_cases hlt : k < l.length
    · obtain ⟨b, o, x, hA, hbB, hx, hat⟩ := (H.out.below Hb.out hB).at_ hlt
      have Hx := Lib.hid hx
      have HA := Lib.hid hA
      rw [hA]
      obtain ⟨c0, c1, c2⟩ := hat
      clear hx hA
      go_wp2_with fail
      refine (specvalidOrder_any x l.length wr (by omega) (by omega)).mono ?_
      rintro e w2 ⟨rfl, hb2⟩
      have Hb2 := Lib.hid (Hb.out.trans (hb2.mono Hb.out.size))
      clear hb2
      cases hv : odOk l.length x
      · have Hv := Lib.hid hv
        go_wp2_with fail
        go_ret
        exact ⟨ret_bool (by unfold codeOk; rw [all_no Hx.out Hv.out]; rfl), Hb2.out⟩
      · have Hv := Lib.hid hv
        go_wp2_with fail
        go_roundw
        case rel => exact ⟨k + 1, by omega, by go_num, Lib.hid (all_takeS Ha.out Hx.out Hv.out), Hb2⟩
        case measure => simp [intOf]; omega
    · obtain rfl : k = l.length := by omega
      have Ha2 : Hid (l.all (odOk l.length) = true) := Lib.hid (by have := Ha.out; rwa [List.take_length] at this)
      have Hyes : Hid (codeOk l = decide ((l.length : Int) ≤ 10)) := Lib.hid (by unfold codeOk; rw [Ha2.out, Bool.true_and]; exact decide_eq_decide.2 (by omega))
      go_wp2_with fail
      go_ret
      exact ⟨ret_bool Hyes.out.symm, Hb.out⟩

set_option maxHeartbeats 400000 in
theorem specValidCode_any (A : Option Addr) (c : Nat) (l : List Od) (w : World) (B : Nat) (h : RdOd w B A l) (hB : B ≤ w.heap.size) (hn : l.length ≤ 1048576) :
    Calls Try.prog 16 #[.slice A l.length c] w fun e w' => e = .returned (.bool (codeOk l)) ∧ Below w.heap.size w w' := by
  go_enter Try.func16, Try.ntmps16
  go_wp2_with fail
  refine (specvalidCode_any A c l w B h hB hn).mono ?_
  rintro e w1 ⟨rfl, hb⟩
  have Hb := Lib.hid hb
  clear hb
  go_wp2_with fail
  go_ret
  exact ⟨rfl, Hb.out⟩

end Go.Proofs.Ytkkgpddpplokfaa
