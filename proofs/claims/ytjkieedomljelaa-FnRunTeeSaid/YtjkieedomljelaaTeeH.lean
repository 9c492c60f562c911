/- What a tee must hold, by the program and by the reference. -/
import Derived.Test.YtjkieedomljelaaTeeV
import Derived.Test.YtjkieedomljelaaApp
import Derived.Deep.Slices
namespace Go.Proofs.Ytjkieedomljelaa
open Go.RowKit Go.Deep

def lowStep (x : Int) (p : Int × Bool) : Int := if p.2 then min x p.1 else x
/-- The least place of the first k readers that are open. -/
def lowF (t : Te) (k : Nat) : Int := ((t.pl.zip t.op).take k).foldl lowStep t.fd
def lowT (t : Te) : Int := lowF t t.pl.length
def heldT (t : Te) : List Int := (t.it.drop (lowT t).toNat).take (t.fd.toNat - (lowT t).toNat)
theorem zip_at {t : Te} {k : Nat} {p : Int} {o : Bool} (hp : t.pl[k]? = some p) (ho : t.op[k]? = some o) : (t.pl.zip t.op)[k]? = some (p, o) := by
  rw [List.getElem?_zip_eq_some]; exact ⟨hp, ho⟩
theorem lowF_succ {t : Te} {k : Nat} {p : Int} {o : Bool} (hp : t.pl[k]? = some p) (ho : t.op[k]? = some o) : lowF t (k + 1) = if o then min (lowF t k) p else lowF t k := by
  unfold lowF
  rw [take_succ_of (zip_at hp ho), List.foldl_append]
  rfl
theorem lowF_zero (t : Te) : lowF t 0 = t.fd := by simp [lowF]
theorem allB_at {l : List Int} {lo hi x : Int} {k : Nat} (h : allB l lo hi = true) (hx : l[k]? = some x) : lo ≤ x ∧ x ≤ hi := by
  have := List.all_eq_true.1 h x (List.mem_of_getElem? hx)
  exact inR_iff.1 this
theorem lowF_range {t : Te} (h : TeeOk t) : ∀ k, k ≤ t.pl.length → 0 ≤ lowF t k ∧ lowF t k ≤ t.fd
  | 0, _ => by rw [lowF_zero]; exact ⟨h.fed0, Int.le_refl _⟩
  | k + 1, hk => by
    obtain ⟨p, hp⟩ := get_of_lt t.pl (k := k) (by omega)
    obtain ⟨o, ho⟩ := get_of_lt t.op (k := k) (by have := h.open_; omega)
    have ih := lowF_range h k (by omega)
    have := allB_at h.places hp
    rw [lowF_succ hp ho]
    cases o
    · exact ih
    · simp only [if_true]
      omega

theorem RdI.cut {w : World} {B : Nat} {A : Option Addr} {l : List Int} (h : RdI w B A l) (n m : Nat) : RdI w B (A.map fun x => x.add n) ((l.drop n).take m) := fun hn => by
  rw [List.length_take, List.length_drop] at hn
  obtain ⟨ad, rfl, hb, hc⟩ := h (by omega)
  refine ⟨ad.add n, rfl, by rw [add_block]; exact hb, fun k x hx => ?_⟩
  have hk : k < m := by have := (List.getElem?_eq_some_iff.1 hx).1; rw [List.length_take] at this; omega
  rw [List.getElem?_take_of_lt hk, List.getElem?_drop] at hx
  rw [Go.Deep.add_add]
  exact hc _ x hx

set_option maxHeartbeats 3200000 in
theorem implheld_any (r : Tr) (t : Te) (w : World) (B : Nat) (h : RdT w B r t) (hB : B ≤ w.heap.size) (hv : TeeOk t) (hc1 : t.it.length ≤ r.c1) :
    Calls Try.prog 85 #[.agg #[.slice r.a1 t.it.length r.c1, .int .i64 t.fd, .slice r.a2 t.pl.length r.c2, .slice r.a3 t.op.length r.c3]] w fun e w' => ∃ A c, e = .returned (.slice A (heldT t).length c) ∧ RdI w' B A (heldT t) ∧ Below w.heap.size w w' := by
  obtain ⟨W0, hW0⟩ : ∃ W : World, W = w.alloc (.cells #[.slice r.a1 t.it.length r.c1, .int .i64 t.fd, .slice r.a2 t.pl.length r.c2, .slice r.a3 t.op.length r.c3] 27) := ⟨_, rfl⟩
  have hb0 : Below w.heap.size w W0 := by rw [hW0]; exact (Below.refl _ _).alloc (Nat.le_refl _) _
  have ba : Bk W0 w.heap.size 27 [.slice r.a1 t.it.length r.c1, .int .i64 t.fd, .slice r.a2 t.pl.length r.c2, .slice r.a3 t.op.length r.c3] := by rw [hW0]; exact Bk.new _ _ [.slice r.a1 t.it.length r.c1, .int .i64 t.fd, .slice r.a2 t.pl.length r.c2, .slice r.a3 t.op.length r.c3]
  have H := Lib.hid (h.below hb0 hB)
  have Hb0 := Lib.hid hb0
  have HW0 := Lib.hid hW0
  obtain ⟨ca0, ca1, ca2, ca3⟩ := ba.cellsT
  have Hv := Lib.hid hv
  obtain ⟨n, hn⟩ : ∃ n, n = t.op.length := ⟨_, rfl⟩
  have Hn := Lib.hid hn
  have hn4 : n ≤ 4 := by have := hv.open_; have := hv.many1; omega
  have hnp : t.pl.length = n := by have := hv.open_; omega
  have Hnp := Lib.hid hnp
  have hc1' := Lib.hid hc1
  rw [← hn] at ca3
  clear h hb0 hv hn hnp hc1 hW0 ba
  go_enter Try.func85, Try.ntmps85
  go_wp2
  rw [← HW0.out, ← Hn.out]
  go_loop [3, 11] (fun f i => ∃ k : Nat, k ≤ n ∧ i = .int .i64 k ∧ ∃ m : Int, m = lowF t k ∧ f = .int .i64 m) (fun _ i => n - (intOf i).toNat)
  case atStart => exact ⟨0, Nat.zero_le _, rfl, t.fd, (lowF_zero t).symm, rfl⟩
  case round =>
    obtain ⟨k, hk, rfl, m, hm, rfl⟩ := hrel
    have Hm := Lib.hid hm
    have hmr := lowF_range Hv.out k (by rw [Hnp.out]; exact hk)
    rw [← hm] at hmr
    have hf1 := Hv.out.fed1
    have hf2 := Hv.out.len
    have hm0 : 0 ≤ m := hmr.1
    have hm1 : m ≤ 12 := by omega
    clear hm
    by_cases hlt : k < n
    · obtain ⟨ad3, o, hA3, ho, hc3⟩ := H.out.op.at_ (k := k) (by rw [← Hn.out]; exact hlt)
      obtain ⟨ad2, p, hA2, hp, hc2⟩ := H.out.pl.at_ (k := k) (by rw [Hnp.out]; exact hlt)
      have hpr := allB_at Hv.out.places hp
      have hsucc := lowF_succ hp ho
      have Ho := Lib.hid ho
      have Hp := Lib.hid hp
      have Hs := Lib.hid hsucc
      clear ho hp hsucc hmr
      have hltp : k < t.pl.length := by rw [Hnp.out]; exact hlt
      cases o
      · go_wp2
        go_round
        case rel => exact ⟨k + 1, by omega, by go_num, m, by rw [Hs.out, Hm.out]; rfl, rfl⟩
        case measure => simp [intOf]; omega
      · by_cases hpm : p < m
        · have hmin : min m p = p := by omega
          go_wp2
          go_round
          case rel => exact ⟨k + 1, by omega, by go_num, p, by rw [Hs.out, ← Hm.out]; simp only [if_true]; omega, rfl⟩
          case measure => simp [intOf]; omega
        · have hmin : min m p = m := by omega
          go_wp2
          go_round
          case rel => exact ⟨k + 1, by omega, by go_num, m, by rw [Hs.out, ← Hm.out]; simp only [if_true]; omega, rfl⟩
          case measure => simp [intOf]; omega
    · obtain rfl : k = n := by omega
      have Hlow : Hid (m = lowT t) := by
        unfold lowT
        rw [Hnp.out]
        exact Hm.out
      obtain ⟨lw, rfl⟩ : ∃ lw : Nat, m = lw := ⟨m.toNat, by omega⟩
      obtain ⟨f, hf⟩ : ∃ f : Nat, t.fd = f := ⟨t.fd.toNat, by have := Hv.out.fed0; omega⟩
      have Hf := Lib.hid hf
      rw [hf] at hmr hf1 ca1
      rw [hf]
      have hl1 : (0 : Int) ≤ lw := by omega
      have hl2 : (lw : Int) ≤ f := by omega
      have hl3 : (f : Int) ≤ r.c1 := by have := hc1'.out; omega
      have hlc : lw ≤ r.c1 := by omega
      clear hmr hf hf1 hf2
      have hA0 := H.out.it
      have hh : heldT t = (t.it.drop lw).take (f - lw) := by
        unfold heldT
        rw [← Hlow.out, Hf.out, Int.toNat_natCast, Int.toNat_natCast]
      have Hh := Lib.hid hh
      clear hh
      have hlen : (heldT t).length = f - lw := by
        rw [Hh.out, List.length_take, List.length_drop]
        have := Hv.out.fed1
        rw [Hf.out] at this
        omega
      have Hlen := Lib.hid hlen
      have HA0 := Lib.hid hA0
      clear hA0 hlen
      by_cases hlw : lw = r.c1
      · go_wp2
        go_ret
        exact ⟨r.a1, ⟨0, ret_slice (by rw [Hlen.out, hlw])⟩, fun hn => absurd hn (by rw [Hlen.out]; omega), Hb0.out⟩
      · go_wp2
        go_ret
        exact ⟨_, ⟨_, ret_slice Hlen.out.symm⟩, by rw [Hh.out]; exact HA0.out.cut lw _, Hb0.out⟩

/-- The items that HeldItems gives. -/
def heldOr (t : Te) : List Int := if teeOk t then heldT t else []
theorem heldT_len {t : Te} (h : TeeOk t) : (heldT t).length ≤ 12 := by
  unfold heldT
  rw [List.length_take, List.length_drop]
  have := h.len
  omega
theorem heldOr_len (t : Te) : (heldOr t).length ≤ 12 := by
  unfold heldOr
  split
  · exact heldT_len (teeOk_iff.1 (by assumption))
  · simp

set_option maxHeartbeats 3200000 in
theorem implHeldItems_any (r : Tr) (t : Te) (w : World) (B : Nat) (h : RdT w B r t) (hB : B ≤ w.heap.size) (n1 : t.it.length ≤ 1048576) (n2 : t.pl.length ≤ 1048576) (n3 : t.op.length ≤ 1048576) (hc1 : t.it.length ≤ r.c1) :
    Calls Try.prog 43 #[.agg #[.slice r.a1 t.it.length r.c1, .int .i64 t.fd, .slice r.a2 t.pl.length r.c2, .slice r.a3 t.op.length r.c3]] w fun e w' => ∃ A c, e = .returned (.slice A (heldOr t).length c) ∧ OwnI w' w.heap.size w'.heap.size A (heldOr t) ∧ Below w.heap.size w w' := by
  obtain ⟨W0, hW0⟩ : ∃ W : World, W = w.alloc (.cells #[.slice r.a1 t.it.length r.c1, .int .i64 t.fd, .slice r.a2 t.pl.length r.c2, .slice r.a3 t.op.length r.c3] 27) := ⟨_, rfl⟩
  have hb0 : Below w.heap.size w W0 := by rw [hW0]; exact (Below.refl _ _).alloc (Nat.le_refl _) _
  have ba : Bk W0 w.heap.size 27 [.slice r.a1 t.it.length r.c1, .int .i64 t.fd, .slice r.a2 t.pl.length r.c2, .slice r.a3 t.op.length r.c3] := by rw [hW0]; exact Bk.new _ _ [.slice r.a1 t.it.length r.c1, .int .i64 t.fd, .slice r.a2 t.pl.length r.c2, .slice r.a3 t.op.length r.c3]
  have hs0 : W0.heap.size = w.heap.size + 1 := by rw [hW0]; simp
  have H := Lib.hid (h.below hb0 hB)
  have Hb0 := Lib.hid hb0
  have HW0 := Lib.hid hW0
  have Ba := Lib.hid ba
  have Hs0 := Lib.hid hs0
  have hcap := Lib.hid hc1
  clear h hc1 hb0 hW0 ba hs0
  cases hv : teeOk t
  · have hq : heldOr t = [] := by simp [heldOr, hv]
    have Hv := Lib.hid hv
    clear hv
    rw [hq]
    clear hq
    go_enter Try.func43, Try.ntmps43
    go_wp2_with fail
    rw [← HW0.out]
    have hs0 := Hs0.out
    refine (implValidTee_any r t W0 B H.out (by omega) n1 n2 n3).mono ?_
    rintro e w1 ⟨rfl, hb1⟩
    rw [Hv.out]
    have Hb1 := Lib.hid (Hb0.out.trans (hb1.mono (by omega)))
    clear hb1 hs0
    go_wp2_with fail
    go_ret
    first | exact ⟨none, 0, rfl, fun h => absurd h (by simp), Hb1.out⟩ | exact ⟨none, ⟨0, rfl⟩, fun h => absurd h (by simp), Hb1.out⟩
  · have hq : heldOr t = heldT t := by simp [heldOr, hv]
    have Hv := Lib.hid hv
    have ht := heldT_len (teeOk_iff.1 hv)
    clear hv
    rw [hq]
    clear hq
    go_enter Try.func43, Try.ntmps43
    go_wp2_with fail
    rw [← HW0.out]
    have hs0 := Hs0.out
    refine (implValidTee_any r t W0 B H.out (by omega) n1 n2 n3).mono ?_
    rintro e w1 ⟨rfl, hb1⟩
    rw [Hv.out]
    have Hb1 := Lib.hid (Hb0.out.trans (hb1.mono (by omega)))
    have H1 := Lib.hid (H.out.below hb1 (by omega))
    have hz1 := hb1.size
    have Ba1 := Lib.hid (Ba.out.below hb1 (by omega))
    clear hb1
    obtain ⟨ca0, ca1, ca2, ca3⟩ := Ba1.out.cellsT
    clear hs0
    go_wp2_with fail
    have hs0 := Hs0.out
    refine (implheld_any r t w1 B H1.out (by omega) (teeOk_iff.1 Hv.out) hcap.out).mono ?_
    rintro e w2 ⟨A, c, rfl, hrd, hb2⟩
    have Hb2 := Lib.hid (Hb1.out.trans (hb2.mono (by omega)))
    have hz2 := hb2.size
    have Hrd := Lib.hid hrd
    clear hb2 hrd hs0
    go_wp2_with fail
    have hs0 := Hs0.out
    refine (cloneI_any A c (heldT t) w2 B Hrd.out (by omega) (by omega)).mono ?_
    rintro e w3 ⟨R, cR, rfl, ho, hb3⟩
    have Hb3 := Lib.hid (Hb2.out.trans (hb3.mono (by omega)))
    have Ho := Lib.hid (ho.ownI)
    clear hb3 ho
    go_wp2_with fail
    go_ret
    have hs0 := Hs0.out
    first | exact ⟨R, cR, rfl, Ho.out.wide (by omega) (Nat.le_refl _), Hb3.out⟩ | exact ⟨R, ⟨cR, rfl⟩, Ho.out.wide (by omega) (Nat.le_refl _), Hb3.out⟩

set_option maxHeartbeats 3200000 in
theorem speclowest_any (r : Tr) (t : Te) (w : World) (B : Nat) (h : RdT w B r t) (hB : B ≤ w.heap.size) (hv : TeeOk t) :
    Calls Try.prog 73 #[.agg #[.slice r.a1 t.it.length r.c1, .int .i64 t.fd, .slice r.a2 t.pl.length r.c2, .slice r.a3 t.op.length r.c3]] w fun e w' => e = .returned (.int .i64 (lowT t)) ∧ Below w.heap.size w w' := by
  obtain ⟨W0, hW0⟩ : ∃ W : World, W = w.alloc (.cells #[.slice r.a1 t.it.length r.c1, .int .i64 t.fd, .slice r.a2 t.pl.length r.c2, .slice r.a3 t.op.length r.c3] 27) := ⟨_, rfl⟩
  have hb0 : Below w.heap.size w W0 := by rw [hW0]; exact (Below.refl _ _).alloc (Nat.le_refl _) _
  have ba : Bk W0 w.heap.size 27 [.slice r.a1 t.it.length r.c1, .int .i64 t.fd, .slice r.a2 t.pl.length r.c2, .slice r.a3 t.op.length r.c3] := by rw [hW0]; exact Bk.new _ _ [.slice r.a1 t.it.length r.c1, .int .i64 t.fd, .slice r.a2 t.pl.length r.c2, .slice r.a3 t.op.length r.c3]
  have hs0 : W0.heap.size = w.heap.size + 1 := by rw [hW0]; simp
  have H := Lib.hid (h.below hb0 hB)
  have Hb0 := Lib.hid hb0
  have HW0 := Lib.hid hW0
  have Ba := Lib.hid ba
  have Hs0 := Lib.hid hs0
  have Hv := Lib.hid hv
  obtain ⟨n, hn⟩ : ∃ n, n = t.pl.length := ⟨_, rfl⟩
  have Hn := Lib.hid hn
  have hn4 : n ≤ 4 := by have := hv.many1; omega
  have hno : t.op.length = n := by have := hv.open_; omega
  have Hno := Lib.hid hno
  obtain ⟨ca0, ca1, ca2, ca3⟩ := ba.cellsT
  clear h hb0 hv hno hW0 ba hs0
  go_enter Try.func73, Try.ntmps73
  go_wp2
  rw [← HW0.out]
  go_loop [3, 4] (fun f i => ∃ k : Nat, k ≤ t.pl.length ∧ i = .int .i64 k ∧ ∃ m : Int, m = lowF t k ∧ f = .int .i64 m) (fun _ i => t.pl.length - (intOf i).toNat)
  case atStart => exact ⟨0, Nat.zero_le _, rfl, t.fd, (lowF_zero t).symm, rfl⟩
  case round =>
    obtain ⟨k, hk, rfl, m, hm, rfl⟩ := hrel
    have Hm := Lib.hid hm
    have hmr := lowF_range Hv.out k hk
    rw [← hm] at hmr
    have hf1 := Hv.out.fed1
    have hf2 := Hv.out.len
    have hm0 : 0 ≤ m := hmr.1
    have hm1 : m ≤ 12 := by omega
    clear hm
    by_cases hlt : k < t.pl.length
    · have hlt2 : k < t.op.length := by rw [Hno.out, Hn.out]; exact hlt
      obtain ⟨ad3, o, hA3, ho, hc3⟩ := H.out.op.at_ hlt2
      obtain ⟨ad2, p, hA2, hp, hc2⟩ := H.out.pl.at_ hlt
      have hpr := allB_at Hv.out.places hp
      have hsucc := lowF_succ hp ho
      have Ho := Lib.hid ho
      have Hp := Lib.hid hp
      have Hs := Lib.hid hsucc
      clear ho hp hsucc hmr
      cases o
      · go_wp2
        go_round
        case rel => exact ⟨k + 1, by omega, by go_num, m, by rw [Hs.out, Hm.out]; rfl, rfl⟩
        case measure => simp [intOf]; omega
      · by_cases hpm : p < m
        · have hmin : min m p = p := by omega
          go_wp2
          go_round
          case rel => exact ⟨k + 1, by omega, by go_num, p, by rw [Hs.out, ← Hm.out]; simp only [if_true]; omega, rfl⟩
          case measure => simp [intOf]; omega
        · have hmin : min m p = m := by omega
          go_wp2
          go_round
          case rel => exact ⟨k + 1, by omega, by go_num, m, by rw [Hs.out, ← Hm.out]; simp only [if_true]; omega, rfl⟩
          case measure => simp [intOf]; omega
    · obtain rfl : k = t.pl.length := by omega
      go_wp2
      go_ret
      exact ⟨ret_int Hm.out, Hb0.out⟩

set_option maxHeartbeats 3200000 in
theorem specHeldItems_any (r : Tr) (t : Te) (w : World) (B : Nat) (h : RdT w B r t) (hB : B ≤ w.heap.size) (n1 : t.it.length ≤ 1048576) (n2 : t.pl.length ≤ 1048576) (n3 : t.op.length ≤ 1048576) (hc1 : t.it.length ≤ r.c1) :
    Calls Try.prog 47 #[.agg #[.slice r.a1 t.it.length r.c1, .int .i64 t.fd, .slice r.a2 t.pl.length r.c2, .slice r.a3 t.op.length r.c3]] w fun e w' => ∃ A c, e = .returned (.slice A (heldOr t).length c) ∧ OwnI w' w.heap.size w'.heap.size A (heldOr t) ∧ Below w.heap.size w w' := by
  obtain ⟨W0, hW0⟩ : ∃ W : World, W = w.alloc (.cells #[.slice r.a1 t.it.length r.c1, .int .i64 t.fd, .slice r.a2 t.pl.length r.c2, .slice r.a3 t.op.length r.c3] 27) := ⟨_, rfl⟩
  have hb0 : Below w.heap.size w W0 := by rw [hW0]; exact (Below.refl _ _).alloc (Nat.le_refl _) _
  have ba : Bk W0 w.heap.size 27 [.slice r.a1 t.it.length r.c1, .int .i64 t.fd, .slice r.a2 t.pl.length r.c2, .slice r.a3 t.op.length r.c3] := by rw [hW0]; exact Bk.new _ _ [.slice r.a1 t.it.length r.c1, .int .i64 t.fd, .slice r.a2 t.pl.length r.c2, .slice r.a3 t.op.length r.c3]
  have hs0 : W0.heap.size = w.heap.size + 1 := by rw [hW0]; simp
  have H := Lib.hid (h.below hb0 hB)
  have Hb0 := Lib.hid hb0
  have HW0 := Lib.hid hW0
  have Ba := Lib.hid ba
  have Hs0 := Lib.hid hs0
  have hcap := Lib.hid hc1
  clear h hc1 hb0 hW0 ba hs0
  cases hv : teeOk t
  · have hq : heldOr t = [] := by simp [heldOr, hv]
    have Hv := Lib.hid hv
    clear hv
    rw [hq]
    clear hq
    go_enter Try.func47, Try.ntmps47
    go_wp2_with fail
    rw [← HW0.out]
    have hs0 := Hs0.out
    refine (specvalidTee_any r t W0 B H.out (by omega) n1 n2 n3).mono ?_
    rintro e w1 ⟨rfl, hb1⟩
    rw [Hv.out]
    have Hb1 := Lib.hid (Hb0.out.trans (hb1.mono (by omega)))
    clear hb1 hs0
    go_wp2_with fail
    go_ret
    first | exact ⟨none, 0, rfl, fun h => absurd h (by simp), Hb1.out⟩ | exact ⟨none, ⟨0, rfl⟩, fun h => absurd h (by simp), Hb1.out⟩
  · have hq : heldOr t = heldT t := by simp [heldOr, hv]
    have Hv := Lib.hid hv
    have ht := heldT_len (teeOk_iff.1 hv)
    clear hv
    rw [hq]
    clear hq
    go_enter Try.func47, Try.ntmps47
    go_wp2_with fail
    rw [← HW0.out]
    have hs0 := Hs0.out
    refine (specvalidTee_any r t W0 B H.out (by omega) n1 n2 n3).mono ?_
    rintro e w1 ⟨rfl, hb1⟩
    rw [Hv.out]
    have Hb1 := Lib.hid (Hb0.out.trans (hb1.mono (by omega)))
    have H1 := Lib.hid (H.out.below hb1 (by omega))
    have hz1 := hb1.size
    have Ba1 := Lib.hid (Ba.out.below hb1 (by omega))
    clear hb1
    obtain ⟨ca0, ca1, ca2, ca3⟩ := Ba1.out.cellsT
    clear hs0
    have hmr := lowF_range (teeOk_iff.1 Hv.out) t.pl.length (Nat.le_refl _)
    have hok := teeOk_iff.1 Hv.out
    obtain ⟨f, hf⟩ : ∃ f : Nat, t.fd = f := ⟨t.fd.toNat, by have := hok.fed0; omega⟩
    obtain ⟨lw, hlw⟩ : ∃ lw : Nat, lowT t = lw := ⟨(lowT t).toNat, by have := hmr.1; unfold lowT; omega⟩
    have hf1 := hok.fed1
    rw [show lowF t t.pl.length = lowT t from rfl, hlw, hf] at hmr
    rw [hf] at hf1
    have hl1 : (0 : Int) ≤ lw := by omega
    have hl2 : (lw : Int) ≤ f := by omega
    have hl3 : (f : Int) ≤ r.c1 := by have := hcap.out; omega
    have hlc : lw ≤ r.c1 := by omega
    have hh : heldT t = (t.it.drop lw).take (f - lw) := by
      unfold heldT
      rw [hlw, hf, Int.toNat_natCast, Int.toNat_natCast]
    have hlen : (heldT t).length = f - lw := by
      rw [hh, List.length_take, List.length_drop]
      omega
    have hs0 := Hs0.out
    have HL : Hid (∀ W, Below w1.heap.size w1 W → Calls Try.prog 73 #[.agg #[.slice r.a1 t.it.length r.c1, .int .i64 (f : Int), .slice r.a2 t.pl.length r.c2, .slice r.a3 t.op.length r.c3]] W fun e w' => e = .returned (.int .i64 (lw : Int)) ∧ Below W.heap.size W w') := Lib.hid (fun W hb => by
      have := speclowest_any r t W B (H1.out.below hb (by omega)) (by have := hb.size; omega) hok
      rwa [hf, hlw] at this)
    have HC : Hid (∀ W A' c', Below w1.heap.size w1 W → RdI W B A' (heldT t) → Calls Try.prog 87 #[.slice A' (f - lw) c'] W fun e w' => ∃ R cR, e = .returned (.slice R (f - lw) cR) ∧ OwnV w' W.heap.size R cR (heldT t) ∧ Below W.heap.size W w') := Lib.hid (fun W A' c' hb hr => by
      have := specCopyIntsA A' c' (heldT t) W B hr (by have := hb.size; omega) (by omega)
      rwa [hlen] at this)
    have HR : Hid (∀ W, Below w1.heap.size w1 W → RdI W B (r.a1.map fun x => x.add lw) (heldT t) ∧ (lw = r.c1 → RdI W B r.a1 (heldT t))) := Lib.hid (fun W hb => ⟨by
      rw [hh]
      exact ((H1.out.below hb (by omega)).it.cut lw _), fun e h => by omega⟩)
    have Hlen := Lib.hid hlen
    have HS : Hid (∀ W', Below w1.heap.size w1 W' → W'.cell? ⟨w.heap.size, 0, none⟩ = some (.slice r.a1 t.it.length r.c1) ∧ W'.cell? ⟨w.heap.size, 1, none⟩ = some (.int .i64 (f : Int)) ∧ W'.cell? ⟨w.heap.size, 2, none⟩ = some (.slice r.a2 t.pl.length r.c2) ∧ W'.cell? ⟨w.heap.size, 3, none⟩ = some (.slice r.a3 t.op.length r.c3)) := Lib.hid (fun W' hb => by
      have := (Ba1.out.below hb Ba1.out.lt).cellsT
      rwa [hf] at this)
    have hsz0 := heldT_len hok
    rw [hlen] at hsz0
    rw [hf] at ca1
    rw [hf]
    have hle1 : w.heap.size < w1.heap.size := by omega
    clear hmr hok hf hlw hf1 hh hlen hs0 ht
    by_cases hlast : r.c1 = lw
    · subst hlast
      go_wp2_with fail
      go_region_held3 (fun w' => w'.cell? ⟨w.heap.size, 0, none⟩ = some (.slice r.a1 t.it.length r.c1) ∧ w'.cell? ⟨w.heap.size, 1, none⟩ = some (.int .i64 (f : Int)) ∧ w'.cell? ⟨w.heap.size, 2, none⟩ = some (.slice r.a2 t.pl.length r.c2) ∧ w'.cell? ⟨w.heap.size, 3, none⟩ = some (.slice r.a3 t.op.length r.c3))
        (go_keep)
        (first
          | (
            go_at_call 73
            refine (HL.out _ ((Below.refl _ _).drew)).mono ?_
            rintro e w2 ⟨rfl, hb2z⟩
            have hb2 : Below w1.heap.size w1 w2 := ((Below.refl w1.heap.size w1).drew).trans (hb2z.mono (by simp))
            have ks2 := HS.out _ hb2
            have hz2 := hb2.size
            clear hb2z)
          | (
            go_at_call 87
            refine (HC.out _ _ _ hb2 ((HR.out _ hb2).2 (by first | trivial | rfl))).mono ?_
            rintro e w3 ⟨R, cR, rfl, ho, hb3⟩
            have ks3 := HS.out _ (hb2.trans (hb3.mono hz2))
            have Hb3 := Lib.hid (Hb1.out.trans ((hb2.trans (hb3.mono hz2)).mono (by omega)))
            have Ho := Lib.hid (ho.ownI.wide (lo2 := w.heap.size) (hi2 := w3.heap.size) (by omega) (Nat.le_refl _))
            clear hb3 ho))
      go_wp2_with fail
      go_ret
      first | exact ⟨R, cR, ret_slice Hlen.out.symm, Ho.out, Hb3.out⟩ | exact ⟨R, ⟨cR, ret_slice Hlen.out.symm⟩, Ho.out, Hb3.out⟩
    · have hlast2 : ¬ lw = r.c1 := fun e => hlast e.symm
      go_wp2_with fail
      go_region_held3 (fun w' => w'.cell? ⟨w.heap.size, 0, none⟩ = some (.slice r.a1 t.it.length r.c1) ∧ w'.cell? ⟨w.heap.size, 1, none⟩ = some (.int .i64 (f : Int)) ∧ w'.cell? ⟨w.heap.size, 2, none⟩ = some (.slice r.a2 t.pl.length r.c2) ∧ w'.cell? ⟨w.heap.size, 3, none⟩ = some (.slice r.a3 t.op.length r.c3))
        (go_keep)
        (first
          | (
            go_at_call 73
            refine (HL.out _ ((Below.refl _ _).drew)).mono ?_
            rintro e w2 ⟨rfl, hb2z⟩
            have hb2 : Below w1.heap.size w1 w2 := ((Below.refl w1.heap.size w1).drew).trans (hb2z.mono (by simp))
            have ks2 := HS.out _ hb2
            have hz2 := hb2.size
            clear hb2z)
          | (
            go_at_call 87
            refine (HC.out _ _ _ hb2 (HR.out _ hb2).1).mono ?_
            rintro e w3 ⟨R, cR, rfl, ho, hb3⟩
            have ks3 := HS.out _ (hb2.trans (hb3.mono hz2))
            have Hb3 := Lib.hid (Hb1.out.trans ((hb2.trans (hb3.mono hz2)).mono (by omega)))
            have Ho := Lib.hid (ho.ownI.wide (lo2 := w.heap.size) (hi2 := w3.heap.size) (by omega) (Nat.le_refl _))
            clear hb3 ho))
      go_wp2_with fail
      go_ret
      first | exact ⟨R, cR, ret_slice Hlen.out.symm, Ho.out, Hb3.out⟩ | exact ⟨R, ⟨cR, ret_slice Hlen.out.symm⟩, Ho.out, Hb3.out⟩

theorem implHeldItems_q (r : Tr) (t : Te) (w : World) (B : Nat) (h : RdT w B r t) (hB : B ≤ w.heap.size) (n1 : t.it.length ≤ 1048576) (n2 : t.pl.length ≤ 1048576) (n3 : t.op.length ≤ 1048576) (hc1 : t.it.length ≤ r.c1) (q : List Int) (hq : Hid (heldOr t = q)) :
    Calls Try.prog 43 #[.agg #[.slice r.a1 t.it.length r.c1, .int .i64 t.fd, .slice r.a2 t.pl.length r.c2, .slice r.a3 t.op.length r.c3]] w fun e w' => ∃ A c, e = .returned (.slice A q.length c) ∧ OwnI w' w.heap.size w'.heap.size A q ∧ Below w.heap.size w w' :=
  hq.out ▸ implHeldItems_any r t w B h hB n1 n2 n3 hc1

theorem specHeldItems_q (r : Tr) (t : Te) (w : World) (B : Nat) (h : RdT w B r t) (hB : B ≤ w.heap.size) (n1 : t.it.length ≤ 1048576) (n2 : t.pl.length ≤ 1048576) (n3 : t.op.length ≤ 1048576) (hc1 : t.it.length ≤ r.c1) (q : List Int) (hq : Hid (heldOr t = q)) :
    Calls Try.prog 47 #[.agg #[.slice r.a1 t.it.length r.c1, .int .i64 t.fd, .slice r.a2 t.pl.length r.c2, .slice r.a3 t.op.length r.c3]] w fun e w' => ∃ A c, e = .returned (.slice A q.length c) ∧ OwnI w' w.heap.size w'.heap.size A q ∧ Below w.heap.size w w' :=
  hq.out ▸ specHeldItems_any r t w B h hB n1 n2 n3 hc1

end Go.Proofs.Ytjkieedomljelaa
