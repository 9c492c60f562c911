/- The reader that draws numbers from a code: what it gives is in its range. -/
import Derived.Test.YtjkieedomljelaaBoo
import Derived.Test.YtjkieedomljelaaPost
import Derived.Laws.Bits64
import Derived.Deep.QuietTactic
import Derived.Deep.RegionHeld3
namespace Go.Proofs.Ytjkieedomljelaa
open Go.RowKit Go.Deep

/-- The slice at A reads as the bytes l, below block B. -/
def RdU (w : World) (B : Nat) (A : Option Addr) (l : List Nat) : Prop :=
  0 < l.length → ∃ ad, A = some ad ∧ ad.block < B ∧ ∀ (k : Nat) (x : Nat), l[k]? = some x → w.cell? (ad.add k) = some (.int .u8 (x : Int)) ∧ x < 256
section
variable {w w' : World} {B B' : Nat} {A : Option Addr} {l : List Nat}
theorem RdU.at_ (h : RdU w B A l) {k : Nat} (hk : k < l.length) : ∃ ad x, A = some ad ∧ l[k]? = some x ∧ w.cell? (ad.add k) = some (.int .u8 (x : Int)) ∧ x < 256 := by
  obtain ⟨ad, e, _, hc⟩ := h (by omega)
  obtain ⟨x, hx⟩ := get_of_lt l hk
  exact ⟨ad, x, e, hx, (hc k x hx).1, (hc k x hx).2⟩
theorem RdU.keep (h : RdU w B A l) (hk : ∀ p : Addr, p.block < B → w'.cell? p = w.cell? p) : RdU w' B A l := fun hn => by
  obtain ⟨ad, e, hb, hc⟩ := h hn
  exact ⟨ad, e, hb, fun k x hx => ⟨(hk _ (by rw [add_block]; exact hb)).trans (hc k x hx).1, (hc k x hx).2⟩⟩
theorem RdU.more (h : RdU w B A l) (hB : B ≤ B') : RdU w B' A l := fun hn => by
  obtain ⟨ad, e, hb, hc⟩ := h hn
  exact ⟨ad, e, by omega, hc⟩
theorem RdU.below {C : Nat} (h : RdU w B A l) (hb : Below C w w') (hC : B ≤ C) : RdU w' B A l := h.keep fun _ hp => hb.cell (by omega)
theorem RdU.same (h : RdU w B A l) (s : Same w w') : RdU w' B A l := h.below (s.below B) (Nat.le_refl _)
theorem RdU.take (h : RdU w B A l) (n : Nat) : RdU w B A (l.take n) := fun hn => by
  obtain ⟨ad, e, hb, hc⟩ := h (by rw [List.length_take] at hn; omega)
  refine ⟨ad, e, hb, fun k x hx => ?_⟩
  have hk : k < n := by have := (List.getElem?_eq_some_iff.1 hx).1; rw [List.length_take] at this; omega
  rw [List.getElem?_take_of_lt hk] at hx
  exact hc k x hx
theorem RdU.chg {lo hi : Nat} (h : RdU w B A l) (c : Chg lo hi w w') (hl : B ≤ lo) (hB : B ≤ w.heap.size) : RdU w' B A l := h.keep fun p hp => World.cell?_of_block (c.block _ (by omega) (.inl (by omega)))
end

theorem xor_i64 (a b : Nat) (ha : a < 4611686018427387904) (hb : b < 4611686018427387904) : ∃ y : Nat, bits .xor .i64 (a : Int) (b : Int) = (y : Int) ∧ y < 4611686018427387904 := by
  have hx : a ^^^ b < 2 ^ 62 := Nat.xor_lt_two_pow (by omega) (by omega)
  have h1 : (BitVec.ofInt 64 (a : Int)).toNat = a := by
    rw [BitVec.ofInt_natCast, BitVec.toNat_ofNat]; exact Nat.mod_eq_of_lt (by omega)
  have h2 : (BitVec.ofInt 64 (b : Int)).toNat = b := by
    rw [BitVec.ofInt_natCast, BitVec.toNat_ofNat]; exact Nat.mod_eq_of_lt (by omega)
  refine ⟨a ^^^ b, ?_, by omega⟩
  show IntKind.i64.wrap ((BitVec.ofInt 64 (a : Int) ^^^ BitVec.ofInt 64 (b : Int)).toNat : Int) = _
  rw [BitVec.toNat_xor, h1, h2]
  exact IntWalk.i64_in _ (by omega)

/-- A reader: its code, and how many numbers were drawn. -/
def RdrAt (w : World) (rb : Nat) (A : Option Addr) (l : List Nat) (c : Nat) (p : Nat) : Prop := Bk w rb 91 [.slice A l.length c, .int .i64 (p : Int)]
def InP (m x : Int) : Prop := 0 ≤ x ∧ (1 ≤ m → x < m) ∧ (m < 1 → x = 0)

set_option maxRecDepth 100000 in
set_option maxHeartbeats 6400000 in
theorem pick_any (rb : Nat) (A : Option Addr) (l : List Nat) (c p : Nat) (m : Int) (w : World) (h : RdrAt w rb A l c p) (hu : RdU w rb A l) (hl : l.length ≤ 2000) (hp : p ≤ 1048576) (hm : m ≤ 1048576) :
    Calls Try.prog 91 #[.pointer (some ⟨rb, 0, none⟩), .int .i64 m] w fun e w' => ∃ x : Int, e = .returned (.int .i64 x) ∧ InP m x ∧ RdrAt w' rb A l c (p + 1) ∧ Chg rb (rb + 1) w w' := by
  obtain ⟨n, hn⟩ : ∃ n, n = l.length := ⟨_, rfl⟩
  have c0 : w.cell? ⟨rb, 0, none⟩ = some (.slice A n c) := by rw [hn]; exact h.cell 0
  have c1 : w.cell? ⟨rb, 1, none⟩ = some (.int .i64 (p : Int)) := h.cell 1
  have f1 := Bk.free h 1
  have hw1 : IntKind.i64.wrap ((p : Int) + 1) = (p : Int) + 1 := IntWalk.i64_in _ (by omega)
  obtain ⟨V, hV⟩ : ∃ V : World, V = w.setCell ⟨rb, 1, none⟩ (.int .i64 ((p : Int) + 1)) := ⟨_, rfl⟩
  have hbk : RdrAt V rb A l c (p + 1) := by
    have := Bk.set_ h 1 (.int .i64 ((p : Int) + 1))
    rw [hV]
    exact this
  have hch : Chg rb (rb + 1) w V := by rw [hV]; exact (Chg.refl _ _ _).set (Nat.le_refl _) (by omega) _ _
  have Hn := Lib.hid hn
  have Hbk := Lib.hid hbk
  have Hch := Lib.hid hch
  have HuV := Lib.hid (hu.chg hch (Nat.le_refl _) (Nat.le_of_lt (Bk.lt h)))
  have HV := Lib.hid hV
  have hn2 : n ≤ 2000 := by omega
  clear h hu hn hbk hch hV hl
  by_cases hm1 : m < 1
  · go_enter Try.func91, Try.ntmps91
    go_wp2_with fail
    go_ret
    rw [← HV.out]
    exact ⟨0, rfl, ⟨Int.le_refl _, fun h => by omega, fun _ => rfl⟩, Hbk.out, Hch.out⟩
  obtain ⟨mn, rfl⟩ : ∃ mn : Nat, m = mn := ⟨m.toNat, by omega⟩
  have hmn : 1 ≤ mn := by omega
  have hmz : ¬ (mn : Int) = 0 := by omega
  by_cases hn0 : n = 0
  · subst hn0
    go_enter Try.func91, Try.ntmps91
    go_wp2_with fail
    go_ret
    rw [← HV.out]
    exact ⟨0, rfl, ⟨Int.le_refl _, fun h => by omega, fun _ => rfl⟩, Hbk.out, Hch.out⟩
  have hnz : ¬ (n : Int) = 0 := by omega
  have hnp : 0 < n := by omega
  by_cases hpn : p < n
  · obtain ⟨ad, x, hA, hx, hc, hx8⟩ := HuV.out.at_ (k := p) (by rw [← Hn.out]; exact hpn)
    rw [HV.out] at hc
    have hy := Nat.mod_lt x (show 0 < mn by omega)
    obtain ⟨y, hyy⟩ : ∃ y, y = x % mn := ⟨_, rfl⟩
    have hr1 : Int.tmod (x : Int) (mn : Int) = (y : Int) := by rw [hyy]; rfl
    have hr2 : (x : Int) % (mn : Int) = (y : Int) := by rw [hyy]; exact (Int.natCast_emod _ _).symm
    have hx9 : (x : Int) < 256 := by omega
    rw [← hyy] at hy
    subst hA
    clear hx hyy hx8
    go_enter Try.func91, Try.ntmps91
    go_wp2_with fail
    go_ret
    rw [← HV.out]
    exact ⟨(y : Int), rfl, ⟨by omega, fun _ => by omega, fun h => by omega⟩, Hbk.out, Hch.out⟩
  · obtain ⟨j1, hj1⟩ : ∃ j, j = p % n := ⟨_, rfl⟩
    obtain ⟨j2, hj2⟩ : ∃ j, j = (p * 7 + 3) % n := ⟨_, rfl⟩
    obtain ⟨d, hd⟩ : ∃ d, d = p / n := ⟨_, rfl⟩
    have hl1 : j1 < n := by rw [hj1]; exact Nat.mod_lt _ hnp
    have hl2 : j2 < n := by rw [hj2]; exact Nat.mod_lt _ hnp
    have hdp : d ≤ 1048576 := by rw [hd]; exact Nat.le_trans (Nat.div_le_self _ _) hp
    obtain ⟨ad, x1, hA, hx1, hc1, hb1⟩ := HuV.out.at_ (k := j1) (by rw [← Hn.out]; exact hl1)
    obtain ⟨ad', x2, hA', hx2, hc2, hb2⟩ := HuV.out.at_ (k := j2) (by rw [← Hn.out]; exact hl2)
    obtain rfl : ad = ad' := Option.some.inj (hA.symm.trans hA')
    have e1 : Int.tmod (p : Int) (n : Int) = (j1 : Int) := by rw [hj1]; rfl
    have e2 : (p : Int) % (n : Int) = (j1 : Int) := by rw [hj1]; exact (Int.natCast_emod _ _).symm
    have e3 : Int.tmod ((p : Int) * 7 + 3) (n : Int) = (j2 : Int) := by rw [hj2]; rfl
    have e4 : ((p : Int) * 7 + 3) % (n : Int) = (j2 : Int) := by rw [hj2]; exact (Int.natCast_emod _ _).symm
    have e5 : Int.tdiv (p : Int) (n : Int) = (d : Int) := by rw [hd]; rfl
    have e6 : (p : Int) / (n : Int) = (d : Int) := by rw [hd]; exact (Int.natCast_ediv _ _).symm
    have hb3 : (x1 : Int) < 256 := by omega
    have hb4 : (x2 : Int) < 256 := by omega
    have k1 : IntKind.i64.wrap ((p : Int) * 7) = (p : Int) * 7 := IntWalk.i64_in _ (by omega)
    have k2 : IntKind.i64.wrap ((p : Int) * 7 + 3) = (p : Int) * 7 + 3 := IntWalk.i64_in _ (by omega)
    have k3 : IntKind.i64.wrap ((x1 : Int) * 131) = (x1 : Int) * 131 := IntWalk.i64_in _ (by omega)
    have k4 : IntKind.i64.wrap ((x2 : Int) * 1117) = (x2 : Int) * 1117 := IntWalk.i64_in _ (by omega)
    have k5 : IntKind.i64.wrap ((x1 : Int) * 131 + (x2 : Int) * 1117) = (x1 : Int) * 131 + (x2 : Int) * 1117 := IntWalk.i64_in _ (by omega)
    have k6 : IntKind.i64.wrap ((p : Int) * 29) = (p : Int) * 29 := IntWalk.i64_in _ (by omega)
    have k7 : IntKind.i64.wrap ((x1 : Int) * 131 + (x2 : Int) * 1117 + (p : Int) * 29) = (x1 : Int) * 131 + (x2 : Int) * 1117 + (p : Int) * 29 := IntWalk.i64_in _ (by omega)
    have k8 : IntKind.i64.wrap ((d : Int) * 53) = (d : Int) * 53 := IntWalk.i64_in _ (by omega)
    obtain ⟨z, hz⟩ : ∃ z : Nat, z = x1 * 131 + x2 * 1117 + p * 29 + d * 53 := ⟨_, rfl⟩
    have k9 : (x1 : Int) * 131 + (x2 : Int) * 1117 + (p : Int) * 29 + (d : Int) * 53 = (z : Int) := by omega
    have hzb : z ≤ 4294967296 := by omega
    obtain ⟨y, hy, hyb⟩ := xor_i64 z (z / 64) (by omega) (by omega)
    have k10 : Int.tdiv (z : Int) 64 = ((z / 64 : Nat) : Int) := rfl
    have k11 : (z : Int) / 64 = ((z / 64 : Nat) : Int) := by omega
    obtain ⟨zd, hzd⟩ : ∃ zd, zd = z / 64 := ⟨_, rfl⟩
    rw [← hzd] at hy k10 k11
    obtain ⟨q, hq⟩ : ∃ q, q = y % mn := ⟨_, rfl⟩
    have k12 : Int.tmod (y : Int) (mn : Int) = (q : Int) := by rw [hq]; rfl
    have k13 : (y : Int) % (mn : Int) = (q : Int) := by rw [hq]; exact (Int.natCast_emod _ _).symm
    have hql : q < mn := by rw [hq]; exact Nat.mod_lt _ (by omega)
    rw [HV.out] at hc1 hc2
    have Hhid : True := trivial
    subst hA
    clear hj1 hj2 hd hx1 hx2 hA' hb1 hb2 hz hq hzd Hhid
    go_enter Try.func91, Try.ntmps91
    go_wp2_with fail
    go_quiet (fail)
    all_goals go_wp2_with fail
    go_ret
    rw [← HV.out]
    exact ⟨(q : Int), rfl, ⟨by omega, fun _ => by omega, fun h => by omega⟩, Bk.drewN Hbk.out _, Hch.out.trans (Chg.of_below (Same.below ⟨_, rfl⟩ _))⟩

end Go.Proofs.Ytjkieedomljelaa
