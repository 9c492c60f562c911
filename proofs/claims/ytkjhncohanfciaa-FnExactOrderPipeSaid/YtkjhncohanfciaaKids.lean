/- Contracts: whether a node has earlier nodes below it (the reference); marking the nodes below (the program). -/
import Derived.Test.YtkjhncohanfciaaKinds
import Derived.Test.YtkjhncohanfciaaPipeM
import Derived.Test.YtkjhncohanfciaaNodeM
namespace Go.Proofs.Ytkjhncohanfciaa
open Go.RowKit

set_option maxHeartbeats 800000 in
theorem specKids_any (x : Nd) (i : Nat) (w : World) (hi : i ≤ 1048576) :
    Calls Try.prog 69 #[.agg #[.int .i64 x.k, .int .i64 x.a, .int .i64 x.b, .int .i64 x.n, .int .i64 x.m], .int .i64 i] w fun e w' => e = .returned (.bool (kidsOk x i)) ∧ Below w.heap.size w w' := by
  rcases arity_cases x.k with ha | ha | ha | ha
  · have Ha := Lib.hid ha
    clear ha
    cases h1 : (x.a == -1)
    · go_enter Try.func69, Try.ntmps69
      go_wp2_with (go_at_call 53; refine (arity_any _ _).mono ?_; rintro e w1 ⟨rfl, rfl⟩; rw [Ha.out])
      go_ret
      exact ⟨ret_bool (by simp [kidsOk, Ha.out, h1]), (Below.refl _ _).alloc (Nat.le_refl _) _⟩
    · cases h2 : (x.b == -1)
      all_goals
        go_enter Try.func69, Try.ntmps69
        go_wp2_with (go_at_call 53; refine (arity_any _ _).mono ?_; rintro e w1 ⟨rfl, rfl⟩; rw [Ha.out])
        go_ret
        exact ⟨ret_bool (by simp [kidsOk, Ha.out, h1, h2]), (Below.refl _ _).alloc (Nat.le_refl _) _⟩
  · have Ha := Lib.hid ha
    clear ha
    cases h1 : inR x.a 0 ((i : Int) - 1)
    · have H1 := Lib.hid h1
      clear h1
      go_enter Try.func69, Try.ntmps69
      go_wp2_with (first | (go_at_call 53; refine (arity_any _ _).mono ?_; rintro e w1 ⟨rfl, rfl⟩; rw [Ha.out]) | (go_at_call 50; refine (specInR_any _ _ _ _).mono ?_; rintro e w1 ⟨rfl, rfl⟩; rw [H1.out]))
      go_ret
      exact ⟨ret_bool (by simp [kidsOk, Ha.out, H1.out]), (Below.refl _ _).alloc (Nat.le_refl _) _⟩
    · have H1 := Lib.hid h1
      clear h1
      cases h2 : (x.b == -1)
      all_goals
        go_enter Try.func69, Try.ntmps69
        go_wp2_with (first | (go_at_call 53; refine (arity_any _ _).mono ?_; rintro e w1 ⟨rfl, rfl⟩; rw [Ha.out]) | (go_at_call 50; refine (specInR_any _ _ _ _).mono ?_; rintro e w1 ⟨rfl, rfl⟩; rw [H1.out]))
        go_ret
        exact ⟨ret_bool (by simp [kidsOk, Ha.out, H1.out, h2]), (Below.refl _ _).alloc (Nat.le_refl _) _⟩
  · have Ha := Lib.hid ha
    clear ha
    cases h1 : inR x.a 0 ((i : Int) - 1)
    · have H1 := Lib.hid h1
      clear h1
      go_enter Try.func69, Try.ntmps69
      go_wp2_with (first | (go_at_call 53; refine (arity_any _ _).mono ?_; rintro e w1 ⟨rfl, rfl⟩; rw [Ha.out]) | (go_at_call 50; refine (specInR_any _ _ _ _).mono ?_; rintro e w1 ⟨rfl, rfl⟩; rw [H1.out]))
      go_ret
      exact ⟨ret_bool (by simp [kidsOk, Ha.out, H1.out]), (Below.refl _ _).alloc (Nat.le_refl _) _⟩
    · have H1 := Lib.hid h1
      clear h1
      cases h2 : inR x.b 0 ((i : Int) - 1)
      · have H2 := Lib.hid h2
        clear h2
        go_enter Try.func69, Try.ntmps69
        go_wp2_with fail
        refine (arity_any _ _).mono ?_
        rintro e w1 ⟨rfl, rfl⟩
        rw [Ha.out]
        go_wp2_with fail
        refine (specInR_any _ _ _ _).mono ?_
        rintro e w1 ⟨rfl, rfl⟩
        rw [H1.out]
        go_wp2_with fail
        refine (specInR_any _ _ _ _).mono ?_
        rintro e w1 ⟨rfl, rfl⟩
        rw [H2.out]
        go_wp2_with fail
        go_ret
        exact ⟨ret_bool (by simp [kidsOk, Ha.out, H1.out, H2.out]), (Below.refl _ _).alloc (Nat.le_refl _) _⟩
      · have H2 := Lib.hid h2
        clear h2
        cases h3 : (x.a != x.b)
        all_goals
          go_enter Try.func69, Try.ntmps69
          go_wp2_with fail
          refine (arity_any _ _).mono ?_
          rintro e w1 ⟨rfl, rfl⟩
          rw [Ha.out]
          go_wp2_with fail
          refine (specInR_any _ _ _ _).mono ?_
          rintro e w1 ⟨rfl, rfl⟩
          rw [H1.out]
          go_wp2_with fail
          refine (specInR_any _ _ _ _).mono ?_
          rintro e w1 ⟨rfl, rfl⟩
          rw [H2.out]
          go_wp2_with fail
          go_ret
          exact ⟨ret_bool (by simp [kidsOk, Ha.out, H1.out, H2.out, h3]), (Below.refl _ _).alloc (Nat.le_refl _) _⟩
  · have Ha := Lib.hid ha
    clear ha
    go_enter Try.func69, Try.ntmps69
    go_wp2_with (go_at_call 53; refine (arity_any _ _).mono ?_; rintro e w1 ⟨rfl, rfl⟩; rw [Ha.out])
    go_ret
    exact ⟨ret_bool (by simp [kidsOk, Ha.out]), (Below.refl _ _).alloc (Nat.le_refl _) _⟩

/-- The cells of a list of yes and no. -/
def bls (l : List Bool) : List Value := l.map Value.bool
theorem bls_get (l : List Bool) (k : Nat) : (bls l)[k]? = l[k]?.map Value.bool := by simp [bls]
theorem bls_set (l : List Bool) (k : Nat) (v : Bool) : (bls l).set k (.bool v) = bls (l.set k v) := by simp [bls, List.map_set]

theorem claim_out (g i n : Nat) (at_ : Int) (w : World) (hi : i ≤ 1048576) (h : Hid (inR at_ 0 ((i : Int) - 1) = false)) :
    Calls Try.prog 79 #[.slice (some ⟨g, 0, none⟩) i n, .int .i64 at_] w fun e w' => e = .returned (.bool false) ∧ w = w' := by
  go_enter Try.func79, Try.ntmps79
  go_wp2_with (go_at_call 59; refine (within_any _ _ _ _).mono ?_; rintro e w1 ⟨rfl, rfl⟩; rw [h.out])
  go_ret
  exact ⟨rfl, rfl⟩

/-- Only block g, and what is new, is another one. -/
theorem grown_new (w : World) (o : Obj) (row : Option Nat) : w.grownBy (w.alloc o) row := World.grownBy_alloc w o row
theorem grown_set {a w : World} {g : Nat} (h : a.grownBy w (some g)) (i : Nat) (u : Value) : a.grownBy (w.setCell ⟨g, i, none⟩ u) (some g) :=
  ⟨h.os, h.tape, h.output, by simpa [World.setCell] using h.size, fun j hj hne => (Below.heap_setCell w ⟨g, i, none⟩ u j (by rintro rfl; exact hne rfl)).trans (h.block j hj hne)⟩
theorem grown_trans {a w v : World} {row : Option Nat} (h : a.grownBy w row) (k : w.grownBy v row) : a.grownBy v row :=
  ⟨k.os.trans h.os, k.tape.trans h.tape, k.output.trans h.output, Nat.le_trans h.size k.size, fun j hj hne => (k.block j (Nat.lt_of_lt_of_le hj h.size) hne).trans (h.block j hj hne)⟩
theorem below_grown {a w : World} (h : Below a.heap.size a w) (row : Option Nat) : a.grownBy w row := ⟨h.os, h.tape, h.output, h.size, fun j hj _ => h.block j hj⟩

set_option maxHeartbeats 400000 in
theorem claim_free (g i n at_ : Nat) (us : List Bool) (w : World) (hi : i ≤ 1048576) (hat : at_ < i) (hb : Hid (Bk w g 4 (bls us))) (hu : Hid (us[at_]? = some false)) :
    Calls Try.prog 79 #[.slice (some ⟨g, 0, none⟩) i n, .int .i64 at_] w fun e w' => e = .returned (.bool true) ∧ Bk w' g 4 (bls (us.set at_ true)) ∧ w.grownBy w' (some g) := by
  have hin : Hid (inR (at_ : Int) 0 ((i : Int) - 1) = true) := inR_yes (by omega) (by omega)
  have hc : w.cell? ⟨g, at_, none⟩ = some (.bool false) := by rw [hb.out.cell, bls_get, hu.out]; rfl
  have hf := hb.out.free at_
  go_enter Try.func79, Try.ntmps79
  go_wp2_with (go_at_call 59; refine (within_any _ _ _ _).mono ?_; rintro e w1 ⟨rfl, rfl⟩; rw [hin.out])
  go_ret
  exact ⟨rfl, by rw [← bls_set]; exact hb.out.set_ _ _, grown_set (World.grownBy.refl _ _) _ _⟩

set_option maxHeartbeats 400000 in
theorem claim_taken (g i n at_ : Nat) (us : List Bool) (w : World) (hi : i ≤ 1048576) (hat : at_ < i) (hb : Hid (Bk w g 4 (bls us))) (hu : Hid (us[at_]? = some true)) :
    Calls Try.prog 79 #[.slice (some ⟨g, 0, none⟩) i n, .int .i64 at_] w fun e w' => e = .returned (.bool false) ∧ w = w' := by
  have hin : Hid (inR (at_ : Int) 0 ((i : Int) - 1) = true) := inR_yes (by omega) (by omega)
  have hc : w.cell? ⟨g, at_, none⟩ = some (.bool true) := by rw [hb.out.cell, bls_get, hu.out]; rfl
  go_enter Try.func79, Try.ntmps79
  go_wp2_with (go_at_call 59; refine (within_any _ _ _ _).mono ?_; rintro e w1 ⟨rfl, rfl⟩; rw [hin.out])
  go_ret
  exact ⟨rfl, rfl⟩

theorem free_of {us : List Bool} {j i : Nat} (hj : j < i) (hi : i ≤ us.length) : us[j]? = some true ∨ us[j]? = some false := by
  obtain ⟨b, hb⟩ := get_of_lt us (k := j) (by omega)
  cases b
  · exact .inr hb
  · exact .inl hb

/-- What is known behind the marking of the nodes below x. -/
def Placed (w w' : World) (g : Nat) (us : List Bool) (x : Nd) (b : Bool) : Prop := w.grownBy w' (some g) ∧ (b = true → Bk w' g 4 (bls (marked x us)))

set_option maxHeartbeats 1600000 in
theorem places_any (k a b n m : Int) (g i c : Nat) (us : List Bool) (w : World) (hi : i ≤ 1048576) (hiu : i ≤ us.length) (hb : Bk w g 4 (bls us)) :
    Calls Try.prog 61 #[.agg #[.int .i64 k, .int .i64 a, .int .i64 b, .int .i64 n, .int .i64 m], .slice (some ⟨g, 0, none⟩) i c] w
      fun e w' => e = .returned (.bool (placesOk ⟨k, a, b, n, m⟩ us i)) ∧ Placed w w' g us ⟨k, a, b, n, m⟩ (placesOk ⟨k, a, b, n, m⟩ us i) := by
  obtain ⟨o, ho⟩ : ∃ o : Obj, o = .cells #[.int .i64 k, .int .i64 a, .int .i64 b, .int .i64 n, .int .i64 m] 69 := ⟨_, rfl⟩
  have hb1 := hb.alloc o
  have hg1 := grown_new w o (some g)
  have hgw : g ≠ w.heap.size := Nat.ne_of_lt hb.lt
  subst ho
  have Hb1 := Lib.hid hb1
  have Hg1 := Lib.hid hg1
  clear hb1 hg1
  rcases arity_cases k with ha | ha | ha | ha
  · have Ha := Lib.hid ha
    have Hb := Lib.hid hb
    clear ha hb
    cases h1 : (a == -1)
    · go_enter Try.func61, Try.ntmps61
      go_wp2_with (go_at_call 54; refine (nodesBelow_any _ _).mono ?_; rintro e w1 ⟨rfl, rfl⟩; rw [Ha.out])
      go_ret
      have e : placesOk ⟨k, a, b, n, m⟩ us i = false := by simp [placesOk, Ha.out, h1]
      rw [e]
      exact ⟨rfl, Hg1.out, fun h => by cases h⟩
    · cases h2 : (b == -1)
      all_goals
        go_enter Try.func61, Try.ntmps61
        go_wp2_with (go_at_call 54; refine (nodesBelow_any _ _).mono ?_; rintro e w1 ⟨rfl, rfl⟩; rw [Ha.out])
        go_ret
      · have e : placesOk ⟨k, a, b, n, m⟩ us i = false := by simp [placesOk, Ha.out, h1, h2]
        rw [e]
        exact ⟨rfl, Hg1.out, fun h => by cases h⟩
      · have e : placesOk ⟨k, a, b, n, m⟩ us i = true := by simp [placesOk, Ha.out, h1, h2]
        rw [e]
        exact ⟨rfl, Hg1.out, fun _ => by simpa [marked, Ha.out] using Hb1.out⟩
  · have Ha := Lib.hid ha
    have Hb := Lib.hid hb
    clear ha hb
    cases h1 : inR a 0 ((i : Int) - 1)
    · have H1 := Lib.hid h1
      clear h1
      go_enter Try.func61, Try.ntmps61
      go_wp2_with (first | (go_at_call 54; refine (nodesBelow_any _ _).mono ?_; rintro e w1 ⟨rfl, rfl⟩; rw [Ha.out]) | (go_at_call 79; refine (claim_out _ _ _ _ _ hi H1).mono ?_; rintro e w1 ⟨rfl, rfl⟩))
      go_ret
      have e : placesOk ⟨k, a, b, n, m⟩ us i = false := by simp [placesOk, Ha.out, H1.out]
      rw [e]
      exact ⟨rfl, Hg1.out, fun h => by cases h⟩
    · obtain ⟨h1a, h1b⟩ := inR_iff.1 h1
      have H1 := Lib.hid h1
      clear h1
      obtain ⟨a', rfl⟩ := Int.eq_ofNat_of_zero_le h1a
      have hai : a' < i := by omega
      rcases free_of hai hiu with hu | hu
      · have Hu := Lib.hid hu
        clear hu
        go_enter Try.func61, Try.ntmps61
        go_wp2_with (first | (go_at_call 54; refine (nodesBelow_any _ _).mono ?_; rintro e w1 ⟨rfl, rfl⟩; rw [Ha.out]) | (go_at_call 79; refine (claim_taken _ _ _ _ _ _ hi hai Hb1 Hu).mono ?_; rintro e w1 ⟨rfl, rfl⟩))
        go_ret
        have e : placesOk ⟨k, a', b, n, m⟩ us i = false := by simp [placesOk, Ha.out, Hu.out]
        rw [e]
        exact ⟨rfl, Hg1.out, fun h => by cases h⟩
      · have Hu := Lib.hid hu
        clear hu
        cases h2 : (b == -1)
        all_goals
          go_enter Try.func61, Try.ntmps61
          go_wp2_with (first | (go_at_call 54; refine (nodesBelow_any _ _).mono ?_; rintro e w1 ⟨rfl, rfl⟩; rw [Ha.out]) | (go_at_call 79; refine (claim_free _ _ _ _ _ _ hi hai Hb1 Hu).mono ?_; rintro e w1 ⟨rfl, hb2, hg2⟩; have d2 : w1.cell? ⟨w.heap.size, 2, none⟩ = some (.int .i64 b) := hg2.cell (by simp [go_sem]) (by simpa using Ne.symm hgw); have Hb2 := Lib.hid hb2; have Hg2 := Lib.hid hg2; clear hb2 hg2))
          go_ret
        · have e : placesOk ⟨k, a', b, n, m⟩ us i = false := by simp [placesOk, Ha.out, h2]
          rw [e]
          exact ⟨rfl, grown_trans Hg1.out Hg2.out, fun h => by cases h⟩
        · have e : placesOk ⟨k, a', b, n, m⟩ us i = true := by simp [placesOk, Ha.out, H1.out, Hu.out, h2]
          rw [e]
          exact ⟨rfl, grown_trans Hg1.out Hg2.out, fun _ => by simpa [marked, Ha.out] using Hb2.out⟩
  · have Ha := Lib.hid ha
    have Hb := Lib.hid hb
    clear ha hb
    cases h1 : inR a 0 ((i : Int) - 1)
    · have H1 := Lib.hid h1
      clear h1
      go_enter Try.func61, Try.ntmps61
      go_wp2_with (first | (go_at_call 54; refine (nodesBelow_any _ _).mono ?_; rintro e w1 ⟨rfl, rfl⟩; rw [Ha.out]) | (go_at_call 79; refine (claim_out _ _ _ _ _ hi H1).mono ?_; rintro e w1 ⟨rfl, rfl⟩))
      go_ret
      have e : placesOk ⟨k, a, b, n, m⟩ us i = false := by simp [placesOk, Ha.out, H1.out]
      rw [e]
      exact ⟨rfl, Hg1.out, fun h => by cases h⟩
    · obtain ⟨h1a, h1b⟩ := inR_iff.1 h1
      have H1 := Lib.hid h1
      clear h1
      obtain ⟨a', rfl⟩ := Int.eq_ofNat_of_zero_le h1a
      have hai : a' < i := by omega
      rcases free_of hai hiu with hu | hu
      · have Hu := Lib.hid hu
        clear hu
        go_enter Try.func61, Try.ntmps61
        go_wp2_with (first | (go_at_call 54; refine (nodesBelow_any _ _).mono ?_; rintro e w1 ⟨rfl, rfl⟩; rw [Ha.out]) | (go_at_call 79; refine (claim_taken _ _ _ _ _ _ hi hai Hb1 Hu).mono ?_; rintro e w1 ⟨rfl, rfl⟩))
        go_ret
        have e : placesOk ⟨k, a', b, n, m⟩ us i = false := by simp [placesOk, Ha.out, Hu.out]
        rw [e]
        exact ⟨rfl, Hg1.out, fun h => by cases h⟩
      · have Hu := Lib.hid hu
        clear hu
        go_enter Try.func61, Try.ntmps61
        go_wp2_with fail
        refine (nodesBelow_any _ _).mono ?_
        rintro e w1 ⟨rfl, rfl⟩
        rw [Ha.out]
        go_wp2_with fail
        refine (claim_free _ _ _ _ _ _ hi hai Hb1 Hu).mono ?_
        rintro e w1 ⟨rfl, hb2, hg2⟩
        have d2 : w1.cell? ⟨w.heap.size, 2, none⟩ = some (.int .i64 b) := hg2.cell (by simp [go_sem]) (by simpa using Ne.symm hgw)
        have Hb2 := Lib.hid hb2
        have Hg2 := Lib.hid hg2
        clear hb2 hg2
        go_wp2_with fail
        cases h2 : inR b 0 ((i : Int) - 1)
        · have H2 := Lib.hid h2
          clear h2
          refine (claim_out _ _ _ _ _ hi H2).mono ?_
          rintro e w2 ⟨rfl, rfl⟩
          go_wp2_with fail
          go_ret
          have e : placesOk ⟨k, a', b, n, m⟩ us i = false := by simp [placesOk, Ha.out, H2.out]
          rw [e]
          exact ⟨rfl, grown_trans Hg1.out Hg2.out, fun h => by cases h⟩
        · obtain ⟨h2a, h2b⟩ := inR_iff.1 h2
          have H2 := Lib.hid h2
          clear h2
          obtain ⟨b', rfl⟩ := Int.eq_ofNat_of_zero_le h2a
          have hbi : b' < i := by omega
          rcases free_of (us := us.set a' true) hbi (by rw [List.length_set]; exact hiu) with hv | hv
          · have Hv := Lib.hid hv
            clear hv
            refine (claim_taken _ _ _ _ _ _ hi hbi Hb2 Hv).mono ?_
            rintro e w2 ⟨rfl, rfl⟩
            go_wp2_with fail
            go_ret
            have e : placesOk ⟨k, a', b', n, m⟩ us i = false := by simp [placesOk, Ha.out, Hv.out]
            rw [e]
            exact ⟨rfl, grown_trans Hg1.out Hg2.out, fun h => by cases h⟩
          · have Hv := Lib.hid hv
            clear hv
            refine (claim_free _ _ _ _ _ _ hi hbi Hb2 Hv).mono ?_
            rintro e w2 ⟨rfl, hb3, hg3⟩
            have Hb3 := Lib.hid hb3
            have Hg3 := Lib.hid hg3
            clear hb3 hg3
            go_wp2_with fail
            go_ret
            have e : placesOk ⟨k, a', b', n, m⟩ us i = true := by simp [placesOk, Ha.out, H1.out, Hu.out, H2.out, Hv.out]
            rw [e]
            exact ⟨rfl, grown_trans (grown_trans Hg1.out Hg2.out) Hg3.out, fun _ => by simpa [marked, Ha.out] using Hb3.out⟩
  · have Ha := Lib.hid ha
    clear ha
    go_enter Try.func61, Try.ntmps61
    go_wp2_with (go_at_call 54; refine (nodesBelow_any _ _).mono ?_; rintro e w1 ⟨rfl, rfl⟩; rw [Ha.out])
    go_ret
    have e : placesOk ⟨k, a, b, n, m⟩ us i = false := by simp [placesOk, Ha.out]
    rw [e]
    exact ⟨rfl, Hg1.out, fun h => by cases h⟩

end Go.Proofs.Ytkjhncohanfciaa
