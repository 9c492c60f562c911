/- Turns of all readers, by the program and by the reference. -/
import Derived.Test.YtjkieedomljelaaTee
import Derived.Test.YtjkieedomljelaaOwnV
import Derived.Test.YtjkieedomljelaaPost
import Derived.Deep.DeepMust
namespace Go.Proofs.Ytjkieedomljelaa
open Go.RowKit Go.Deep

/-- The first k turns of r readers. -/
def fairL (r k : Nat) : List Int := (List.range k).map fun i : Nat => ((i % r : Nat) : Int)
theorem fairL_len (r k : Nat) : (fairL r k).length = k := by simp [fairL]
theorem fairL_get {r n k : Nat} (h : k < n) : (fairL r n)[k]? = some ((k % r : Nat) : Int) := by simp [fairL, h]
theorem fairL_succ (r k : Nat) : fairL r (k + 1) = fairL r k ++ [((k % r : Nat) : Int)] := by simp [fairL, List.range_succ]
/-- What FairTurns gives. -/
def fairQ (a b : Int) : List Int := if inR a 1 4 && inR b 1 12 then fairL a.toNat (a.toNat * b.toNat) else []
theorem fairQ_len (a b : Int) : (fairQ a b).length ≤ 48 := by
  unfold fairQ
  split
  · rename_i h
    rw [Bool.and_eq_true, inR_iff, inR_iff] at h
    rw [fairL_len]
    have h1 : a.toNat ≤ 4 := by omega
    have h2 : b.toNat ≤ 12 := by omega
    exact Nat.mul_le_mul h1 h2
  · simp

set_option maxHeartbeats 3200000 in
theorem implFairTurns_any (a b : Int) (w : World) (q : List Int) (hq : Hid (fairQ a b = q)) :
    Calls Try.prog 55 #[.int .i64 a, .int .i64 b] w fun e w' => ∃ A c, e = .returned (.slice A q.length c) ∧ OwnI w' w.heap.size w'.heap.size A q ∧ Below w.heap.size w w' := by
  cases h1 : inR a 1 4
  · have hn : q = [] := by rw [← hq.out]; simp [fairQ, h1]
    subst hn
    have H1 := Lib.hid h1
    clear h1 hq
    go_enter Try.func55, Try.ntmps55
    go_wp2_with fail
    refine (within_any _ _ _ _).mono ?_
    rintro e w1 ⟨rfl, rfl⟩
    rw [H1.out]
    go_wp2_with fail
    go_ret
    first | exact ⟨none, 0, rfl, fun h => absurd h (by simp), Below.refl _ _⟩ | exact ⟨none, ⟨0, rfl⟩, fun h => absurd h (by simp), Below.refl _ _⟩
  cases h2 : inR b 1 12
  · have hn : q = [] := by rw [← hq.out]; simp [fairQ, h2]
    subst hn
    have H1 := Lib.hid h1
    have H2 := Lib.hid h2
    clear h1 h2 hq
    go_enter Try.func55, Try.ntmps55
    go_wp2_with fail
    refine (within_any _ _ _ _).mono ?_
    rintro e w1 ⟨rfl, rfl⟩
    rw [H1.out]
    go_wp2_with fail
    refine (within_any _ _ _ _).mono ?_
    rintro e w1 ⟨rfl, rfl⟩
    rw [H2.out]
    go_wp2_with fail
    go_ret
    first | exact ⟨none, 0, rfl, fun h => absurd h (by simp), Below.refl _ _⟩ | exact ⟨none, ⟨0, rfl⟩, fun h => absurd h (by simp), Below.refl _ _⟩
  obtain ⟨ha0, ha1⟩ := inR_iff.1 h1
  obtain ⟨hb0, hb1⟩ := inR_iff.1 h2
  obtain ⟨r, rfl⟩ : ∃ r : Nat, a = r := ⟨a.toNat, by omega⟩
  obtain ⟨n, rfl⟩ : ∃ n : Nat, b = n := ⟨b.toNat, by omega⟩
  have hn : q = fairL r (r * n) := by rw [← hq.out]; simp [fairQ, h1, h2]
  subst hn
  have H1 := Lib.hid h1
  have H2 := Lib.hid h2
  have hr0 : 1 ≤ r := by omega
  have hr1 : r ≤ 4 := by omega
  have hn0 : 1 ≤ n := by omega
  have hn1 : n ≤ 12 := by omega
  have hm : r * n ≤ 48 := Nat.mul_le_mul hr1 hn1
  clear h1 h2 hq
  go_enter Try.func55, Try.ntmps55
  go_wp2_with fail
  refine (within_any _ _ _ _).mono ?_
  rintro e w1 ⟨rfl, rfl⟩
  rw [H1.out]
  go_wp2_with fail
  refine (within_any _ _ _ _).mono ?_
  rintro e w1 ⟨rfl, rfl⟩
  rw [H2.out]
  have He := Lib.hid (OwnJ.nil_ w w.heap.size)
  go_wp2_with fail
  go_loopw [5, 16] (fun sl i wr => ∃ j : Nat, j ≤ n ∧ i = .int .i64 j ∧ (∃ R cR, sl = .slice R (r * j) cR ∧ OwnJ wr w.heap.size R cR (fairL r (r * j))) ∧ Below w.heap.size w wr) (fun _ i _ => n - (intOf i).toNat)
  case atStart => exact ⟨0, by omega, rfl, ⟨_, _, rfl, He.out⟩, Below.refl _ _⟩
  case round =>
    obtain ⟨j, hj, rfl, ⟨R0, cR0, rfl, ho0⟩, hbw0⟩ := hrel
    have Ho0 := Lib.hid ho0
    have Hbw0 := Lib.hid hbw0
    clear ho0 hbw0
    by_cases hlt : j < n
    · have hmj : r * j + r ≤ r * n := by rw [← Nat.mul_succ]; exact Nat.mul_le_mul (Nat.le_refl r) hlt
      obtain ⟨p, hp⟩ : ∃ p, p = r * j := ⟨_, rfl⟩
      have Hp := Lib.hid hp
      rw [← hp] at hmj
      have hmj2 : p + r ≤ 48 := by omega
      rw [← hp] at Ho0
      rw [← hp]
      clear hp hmj
      go_wp2_with fail
      go_loopw [5, 19] (fun sl i wr => ∃ c : Nat, c ≤ r ∧ i = .int .i64 c ∧ (∃ R cR, sl = .slice R (p + c) cR ∧ OwnJ wr w.heap.size R cR (fairL r (p + c))) ∧ Below w.heap.size w wr) (fun _ i _ => r - (intOf i).toNat)
      case atStart => exact ⟨0, by omega, rfl, ⟨_, _, rfl, Ho0.out⟩, Hbw0.out⟩
      case round =>
        obtain ⟨c, hc, rfl, ⟨R, cR, rfl, ho⟩, hbw⟩ := hrel
        have Ho := Lib.hid ho
        have Hbw := Lib.hid hbw
        clear ho hbw
        by_cases hlc : c < r
        · obtain ⟨x, hx⟩ : ∃ x : Int, x = (c : Int) := ⟨_, rfl⟩
          have hxm : (((p + c) % r : Nat) : Int) = (c : Int) := by rw [Hp.out, Nat.mul_add_mod, Nat.mod_eq_of_lt hlc]
          have Hx := Lib.hid hxm
          obtain ⟨k, hk⟩ : ∃ k, k = p + c := ⟨_, rfl⟩
          have Hm0 : Hid ((fairL r (p + c)).length = p + c) := fairL_len r (p + c)
          clear hx x hxm hk k
          go_wp2_with (at_builtin; go_must (refine wpList_append_int rfl _ _ rfl w.heap.size R cR _ (c : Int) (p + c) Hm0.out rfl Ho.out _ rfl rfl (by omega) Hbw.out.size ?_; intro R2 c2' w2 ho2 hg2); have hbb := (Hbw.out.alloc (Nat.le_trans (Nat.le_refl _) Hbw.out.size) _).grown hg2 (by have := Hbw.out.size; simp; omega) (fun g hg => (Ho.out.row_lt g hg).1); have Hbb := Lib.hid hbb; have Ho2 := Lib.hid ho2; clear ho2 hg2 hbb)

          go_roundw
          case rel => exact ⟨c + 1, by omega, by go_num, ⟨_, _, rfl, by rw [← Nat.add_assoc, fairL_succ, Hx.out]; exact Ho2.out⟩, Hbb.out⟩
          case measure => simp [intOf]; omega
        · obtain rfl : c = r := by omega
          go_wp2
          go_roundw
          case rel => exact ⟨j + 1, by omega, by go_num, ⟨_, _, by rw [Nat.mul_succ, ← Hp.out], by rw [Nat.mul_succ, ← Hp.out]; exact Ho.out⟩, Hbw.out⟩
          case measure => simp [intOf]; omega
    · obtain rfl : j = n := by omega
      go_wp2
      go_ret
      first | exact ⟨R0, cR0, ret_slice (fairL_len r _).symm, Ho0.out.ownI, Hbw0.out⟩ | exact ⟨R0, ⟨cR0, ret_slice (fairL_len r _).symm⟩, Ho0.out.ownI, Hbw0.out⟩

end Go.Proofs.Ytjkieedomljelaa
