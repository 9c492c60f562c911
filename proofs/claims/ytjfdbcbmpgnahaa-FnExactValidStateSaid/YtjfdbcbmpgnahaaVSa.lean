/- Contracts: whether a state is one of a pipe and sources, told by the reference and by the program. -/
import Derived.Test.YtjfdbcbmpgnahaaNew
import Derived.Test.YtjfdbcbmpgnahaaSrcB
import Derived.Test.YtjfdbcbmpgnahaaDepth
import Derived.Deep.RegionHeld3
namespace Go.Proofs.Ytjfdbcbmpgnahaa
open Go.RowKit

/-- The greatest count of a node. -/
def mostOf (x : Nd) (src : List (List Int)) : Int :=
  if x.k = 0 then ((src.getD x.n.toNat []).length : Int) else if x.k = 3 then x.n else if x.k = 4 then x.n else if x.k = 6 then 1 else if x.k = 10 then 1 else if x.k = 11 then 99 else 0
/-- Whether a cell can be that of a node. -/
def cellOk (src : List (List Int)) (p : Nd × Cl) : Bool := inR p.2.n 0 (mostOf p.1 src) && (inR p.2.l 0 99 && inR p.2.r 0 99)
/-- Whether there are a cell for each node, and each one can be that. -/
def cellsOk (l : List Nd) (src : List (List Int)) (cs : List Cl) : Bool := decide (cs.length = l.length) && (l.zip cs).all (cellOk src)
def stateOk (l : List Nd) (src : List (List Int)) (cs : List Cl) : Bool := pipeOk l && (srcOk src && cellsOk l src cs)
theorem zip_get {l : List Nd} {cs : List Cl} {k : Nat} {x : Nd} {c : Cl} (hx : l[k]? = some x) (hc : cs[k]? = some c) : (l.zip cs)[k]? = some (x, c) := by
  rw [List.getElem?_zip_eq_some]; exact ⟨hx, hc⟩
theorem src_rows {src : List (List Int)} (h : srcOk src = true) : src.length = 3 ∧ ∀ r ∈ src, r.length ≤ 12 := by
  simp only [srcOk, Bool.and_eq_true, decide_eq_true_eq, List.all_eq_true, rowOk] at h
  exact ⟨h.2, fun r hr => (h.1 r hr).1⟩
theorem mostOf_bd {x : Nd} {src : List (List Int)} (h : srcOk src = true) (hn : numsOk x = true) : 0 ≤ mostOf x src ∧ mostOf x src ≤ 1000 := by
  obtain ⟨h3, hr⟩ := src_rows h
  unfold mostOf
  split
  · rename_i hk
    refine ⟨by omega, ?_⟩
    have : (src.getD x.n.toNat []).length ≤ 12 := by
      rw [List.getD_eq_getElem?_getD]
      cases e : src[x.n.toNat]? with
      | none => simp
      | some r => exact hr r (List.mem_of_getElem? e)
    omega
  · split
    · rename_i hk; simp [numsOk, hk, inR] at hn; omega
    · split
      · rename_i hk; simp [numsOk, hk, inR] at hn; omega
      · split
        · omega
        · split
          · omega
          · split <;> omega

set_option maxHeartbeats 3200000 in
theorem specMost_any (x : Nd) (As : Option Addr) (cs : Nat) (src : List (List Int)) (w : World) (B : Nat) (hs : RdR w B As src) (hB : B ≤ w.heap.size) (hn : src.length ≤ 1048576) (hm : Hid (∀ r ∈ src, r.length ≤ 1048576)) (hk : Hid (x.k = 0 → ∃ s : Nat, x.n = (s : Int) ∧ s < src.length)) :
    Calls Try.prog 111 #[.agg #[.int .i64 x.k, .int .i64 x.a, .int .i64 x.b, .int .i64 x.n, .int .i64 x.m], .slice As src.length cs] w fun e w' => e = .returned (.int .i64 (mostOf x src)) ∧ Below w.heap.size w w' := by
  obtain ⟨k, a, b, n, m⟩ := x
  rcases kinds k with (rfl | rfl | rfl | rfl | rfl | rfl | rfl | rfl | rfl | rfl | rfl | rfl | rfl | rfl) | ⟨e0, e1, e2, e3, e4, e5, e6, e7, e8, e9, e10, e11, e12, e13⟩
  · obtain ⟨s, hs1, hs2⟩ := hk.out rfl
    simp only at hs1
    subst hs1
    obtain ⟨ad, e, hab, hall⟩ := hs (by omega)
    subst e
    obtain ⟨r, hr⟩ := get_of_lt src hs2
    obtain ⟨Ar, cr, hcell, _⟩ := hall s r hr
    have had : (ad.add s).block < w.heap.size := by rw [add_block]; omega
    have hrl : r.length ≤ 1048576 := hm.out r (List.mem_of_getElem? hr)
    have Hr := Lib.hid hr
    clear hall hr hs
    go_enter Try.func111, Try.ntmps111
    go_wp2
    go_ret
    exact ⟨ret_int (by simp [mostOf, List.getD_eq_getElem?_getD, Hr.out]), (Below.refl _ _).alloc (Nat.le_refl _) _⟩
  iterate 13
    · clear hs hm hk
      go_enter Try.func111, Try.ntmps111
      go_wp2
      go_ret
      exact ⟨ret_int (by simp [mostOf]), (Below.refl _ _).alloc (Nat.le_refl _) _⟩
  · have hz : mostOf ⟨k, a, b, n, m⟩ src = 0 := by
      simp only [beq_eq_false_iff_ne] at e0 e3 e4 e6 e10 e11
      simp [mostOf, e0, e3, e4, e6, e10, e11]
    have Hz := Lib.hid hz
    clear hs hm hk hz
    go_enter Try.func111, Try.ntmps111
    go_wp2
    go_ret
    exact ⟨ret_int Hz.out.symm, (Below.refl _ _).alloc (Nat.le_refl _) _⟩

set_option maxHeartbeats 3200000 in
theorem implMost_any (x : Nd) (As : Option Addr) (cs : Nat) (src : List (List Int)) (w : World) (B : Nat) (hs : RdR w B As src) (hB : B ≤ w.heap.size) (hn : src.length ≤ 1048576) (hm : Hid (∀ r ∈ src, r.length ≤ 1048576)) (hk : Hid (x.k = 0 → ∃ s : Nat, x.n = (s : Int) ∧ s < src.length)) :
    Calls Try.prog 83 #[.agg #[.int .i64 x.k, .int .i64 x.a, .int .i64 x.b, .int .i64 x.n, .int .i64 x.m], .slice As src.length cs] w fun e w' => e = .returned (.int .i64 (mostOf x src)) ∧ Below w.heap.size w w' := by
  obtain ⟨k, a, b, n, m⟩ := x
  rcases kinds k with (rfl | rfl | rfl | rfl | rfl | rfl | rfl | rfl | rfl | rfl | rfl | rfl | rfl | rfl) | ⟨e0, e1, e2, e3, e4, e5, e6, e7, e8, e9, e10, e11, e12, e13⟩
  · obtain ⟨s, hs1, hs2⟩ := hk.out rfl
    simp only at hs1
    subst hs1
    obtain ⟨ad, e, hab, hall⟩ := hs (by omega)
    subst e
    obtain ⟨r, hr⟩ := get_of_lt src hs2
    obtain ⟨Ar, cr, hcell, _⟩ := hall s r hr
    have had : (ad.add s).block < w.heap.size := by rw [add_block]; omega
    have hrl : r.length ≤ 1048576 := hm.out r (List.mem_of_getElem? hr)
    have Hr := Lib.hid hr
    clear hall hr hs
    go_enter Try.func83, Try.ntmps83
    go_wp2
    go_ret
    exact ⟨ret_int (by simp [mostOf, List.getD_eq_getElem?_getD, Hr.out]), (Below.refl _ _).alloc (Nat.le_refl _) _⟩
  iterate 13
    · clear hs hm hk
      go_enter Try.func83, Try.ntmps83
      go_wp2
      go_ret
      exact ⟨ret_int (by simp [mostOf]), (Below.refl _ _).alloc (Nat.le_refl _) _⟩
  · have hz : mostOf ⟨k, a, b, n, m⟩ src = 0 := by
      simp only [beq_eq_false_iff_ne] at e0 e3 e4 e6 e10 e11
      simp [mostOf, e0, e3, e4, e6, e10, e11]
    have Hz := Lib.hid hz
    clear hs hm hk hz
    go_enter Try.func83, Try.ntmps83
    go_wp2
    go_ret
    exact ⟨ret_int Hz.out.symm, (Below.refl _ _).alloc (Nat.le_refl _) _⟩

end Go.Proofs.Ytjfdbcbmpgnahaa
