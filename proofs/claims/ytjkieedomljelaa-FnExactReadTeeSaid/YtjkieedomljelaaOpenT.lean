/- Arguments that came in, opened: a tee. -/
import Derived.Test.YtjkieedomljelaaTee
import Derived.Test.YtjkieedomljelaaOpenI
import Derived.ProofKit
import Derived.OpenShut
import Derived.ChangeOld
import Derived.ChangeArms
import Derived.Deep.Slices
import Derived.Deep.Fields
import Derived.Deep.Grids
namespace Go.Proofs.Ytjkieedomljelaa
open Go.ChangeShapes Go.WideShapes Go.ChangeAt Go.RowKit Go.Deep

section
variable {H : Type} {enc : TypeId × Value → H} {P : Program} {W : World}
theorem open_flags {t e : TypeId} {A : Option Addr} {len cap : Nat} {d : DataW H} {p : List MemPlace} (ht : P.underlying t = some (.slice e)) (he : P.underlying e = some .bool) (ce : P.cellsOf e = 1)
    (h0 : DataW.Trod enc P W 0 (fun _ => true) true t (.slice A len cap) d p) :
    ∃ l : List Bool, l.length = len ∧ len ≤ maxLen ∧ RdB W W.heap.size A l := by
  obtain ⟨fuel, hf⟩ := h0
  rcases open_bools ht he ce hf with ⟨hcs, _⟩ | ⟨a, l, c, zs, hcs, _, hl, hm, _, hcell⟩
  · simp [Value.cells] at hcs
    obtain ⟨rfl, rfl, rfl⟩ := hcs
    exact ⟨[], rfl, Nat.zero_le _, fun h => absurd h (by simp)⟩
  · simp [Value.cells] at hcs
    obtain ⟨rfl, rfl, rfl⟩ := hcs
    refine ⟨(List.range len).map zs, by simp, by omega, fun hn => ?_⟩
    simp at hn
    refine ⟨a, rfl, by have := World.block_lt_of_cell? _ _ (hcell 0 (by omega)); rwa [add_block] at this, fun k x hx => ?_⟩
    have hk : k < len := by have := (List.getElem?_eq_some_iff.1 hx).1; simpa using this
    simp [hk] at hx
    subst hx
    exact hcell k (by omega)

theorem slice_cell {t e : TypeId} {fuel : Nat} {c : Value} {x : DataW H × List MemPlace} (ht : P.underlying t = some (.slice e)) (h : DataW.trod enc P W 0 (fun _ => true) true fuel t [c] = some x) :
    ∃ A len cap, c = .slice A len cap ∧ DataW.Trod enc P W 0 (fun _ => true) true t (.slice A len cap) x.1 x.2 := by
  rcases open_slice ht h with ⟨hcs, _⟩ | ⟨a, l, c', _, _, _, _, hcs, _⟩
  · simp at hcs
    subst hcs
    exact ⟨none, 0, 0, rfl, fuel, h⟩
  · simp at hcs
    subst hcs
    exact ⟨some a, l, c', rfl, fuel, h⟩

theorem open_tee {r : Reach} {b0 : Nat} {tp ti q tb qb : TypeId} {fs : Array Field} {v : Value} {d : DataW H} {p : List MemPlace} (hp : P.underlying tp = some (.struct fs)) (ho : oneCellFields P fs = true) (hall : fs.toList.map (·.type) = [ti, q, ti, tb]) (hc : P.cellsOf tp = 4)
    (hti : P.underlying ti = some (.slice q)) (hq : P.underlying q = some (.int .i64)) (cq : P.cellsOf q = 1) (htb : P.underlying tb = some (.slice qb)) (hqb : P.underlying qb = some .bool) (cqb : P.cellsOf qb = 1)
    (hval : Value.okWide P W r b0 tp v) (h : DataW.Trod enc P W 0 (fun _ => true) true tp v d p) :
    ∃ (r : Tr) (t : Te), v = .agg #[.slice r.a1 t.it.length r.c1, .int .i64 t.fd, .slice r.a2 t.pl.length r.c2, .slice r.a3 t.op.length r.c3] ∧ RdT W W.heap.size r t ∧ t.it.length ≤ maxLen ∧ t.pl.length ≤ maxLen ∧ t.op.length ≤ maxLen := by
  obtain ⟨cs, rfl, hsz⟩ := okWide_struct hp hval
  rw [hc] at hsz
  obtain ⟨c0, c1, c2, c3, rfl⟩ : ∃ c0 c1 c2 c3, cs = #[c0, c1, c2, c3] := by
    obtain ⟨m⟩ := cs
    match m, hsz with
    | [c0, c1, c2, c3], _ => exact ⟨c0, c1, c2, c3, rfl⟩
  have h4 : fs.size = 4 := by have := congrArg List.length hall; simpa using this
  obtain ⟨fuel, hf⟩ := h
  obtain ⟨xs, n, _, _, hl, hxl, hg⟩ := DataW.trod_struct hp hf
  have tyat : ∀ (j : Nat) (t : TypeId) (c : Value), [ti, q, ti, tb][j]? = some t → [c0, c1, c2, c3][j]? = some c → ∃ z, DataW.trod enc P W 0 (fun _ => true) true n t [c] = some z := fun j t c hjt hjc => by
    have hj : j < fs.size := by rw [h4]; have := (List.getElem?_eq_some_iff.1 hjt).1; simpa using this
    have hjf : fs[j]? = some (fs[j]'hj) := Array.getElem?_eq_getElem hj
    obtain ⟨ho1, hk⟩ := hone_of ho j _ hjf
    have ht : (fs[j]'hj).type = t := by
      rw [← hall] at hjt
      simp at hjt
      obtain ⟨y, hy1, hy2⟩ := hjt
      rw [hjf] at hy1
      rw [Option.some.inj hy1]
      exact hy2
    have h1 := hg j _ hjf
    rw [ho1, hk, ht] at h1
    have hcs : ((Value.cells (.agg #[c0, c1, c2, c3])).toList.drop j).take 1 = [c] := by
      simp only [Value.cells]
      have hj4 : j < 4 := by omega
      match j, hj4 with
      | 0, _ => simpa using hjc
      | 1, _ => simpa using hjc
      | 2, _ => simpa using hjc
      | 3, _ => simpa using hjc
    rw [hcs] at h1
    exact ⟨_, h1.trans (List.getElem?_eq_getElem (by omega))⟩
  obtain ⟨z0, hz0⟩ := tyat 0 ti c0 rfl rfl
  obtain ⟨z1, hz1⟩ := tyat 1 q c1 rfl rfl
  obtain ⟨z2, hz2⟩ := tyat 2 ti c2 rfl rfl
  obtain ⟨z3, hz3⟩ := tyat 3 tb c3 rfl rfl
  obtain ⟨A1, len1, cap1, rfl, k1⟩ := slice_cell hti hz0
  obtain ⟨A2, len2, cap2, rfl, k2⟩ := slice_cell hti hz2
  obtain ⟨A3, len3, cap3, rfl, k3⟩ := slice_cell htb hz3
  obtain ⟨fd, hfd, _, _⟩ := DataW.trod_int hq hz1
  obtain rfl : c1 = .int .i64 fd := by simpa using hfd
  obtain ⟨l1, rfl, m1, r1⟩ := open_nums hti hq cq k1
  obtain ⟨l2, rfl, m2, r2⟩ := open_nums hti hq cq k2
  obtain ⟨l3, rfl, m3, r3⟩ := open_flags htb hqb cqb k3
  exact ⟨⟨A1, cap1, A2, cap2, A3, cap3⟩, ⟨l1, fd, l2, l3⟩, rfl, ⟨r1, r2, r3⟩, m1, m2, m3⟩
end

end Go.Proofs.Ytjkieedomljelaa
