/- Arguments that came in, opened: records of 6 fields. -/
import Derived.Test.YtjfdbcbmpgnahaaClM
import Derived.ProofKit
import Derived.OpenShut
import Derived.ChangeOld
import Derived.ChangeArms
import Derived.Deep.Slices
import Derived.Deep.Fields
namespace Go.Proofs.Ytjfdbcbmpgnahaa
open Go.ChangeShapes Go.WideShapes Go.ChangeAt Go.RowKit Go.Deep

section
variable {H : Type} {enc : TypeId × Value → H} {P : Program} {W : World}
theorem cells_Cl {e q qb : TypeId} {fs : Array Field} {fuel : Nat} {cs : List Value} {x : DataW H × List MemPlace} (he : P.underlying e = some (.struct fs)) (hone : oneCellFields P fs = true) (hall : fs.toList.map (·.type) = [q, q, q, qb, qb, qb])
    (hq : P.underlying q = some (.int .i64)) (hqb : P.underlying qb = some .bool) (ce : P.cellsOf e = 6) (h : DataW.trod enc P W 0 (fun _ => true) true fuel e cs = some x) :
    ∃ x : Cl, cs = [.int .i64 x.n, .int .i64 x.l, .int .i64 x.r, .bool x.hl, .bool x.hr, .bool x.d] := by
  have h5 : fs.size = 6 := by have := congrArg List.length hall; simpa using this
  obtain ⟨xs, n, _, _, hl, hxl, hf⟩ := DataW.trod_struct he h
  rw [ce] at hl
  have tyat : ∀ (j : Nat) (t : TypeId), [q, q, q, qb, qb, qb][j]? = some t → ∃ z, DataW.trod enc P W 0 (fun _ => true) true n t ((cs.drop j).take 1) = some z := fun j t hjt => by
    have hj : j < fs.size := by rw [h5]; have := (List.getElem?_eq_some_iff.1 hjt).1; simpa using this
    have hjf : fs[j]? = some (fs[j]'hj) := Array.getElem?_eq_getElem hj
    obtain ⟨ho, hk⟩ := hone_of hone j _ hjf
    have ht : (fs[j]'hj).type = t := by
      rw [← hall] at hjt
      simp at hjt
      obtain ⟨y, hy1, hy2⟩ := hjt
      rw [hjf] at hy1
      rw [Option.some.inj hy1]
      exact hy2
    have h1 := hf j _ hjf
    rw [ho, hk, ht] at h1
    exact ⟨_, h1.trans (List.getElem?_eq_getElem (by omega))⟩
  obtain ⟨v0, h0⟩ : ∃ v : Int, cs[0]? = some (.int .i64 v) := by
    obtain ⟨z, hz⟩ := tyat 0 q rfl
    obtain ⟨v, hv, _, _⟩ := DataW.trod_int hq hz
    refine ⟨v, ?_⟩
    have : ((cs.drop 0).take 1)[0]? = some (.int .i64 v) := by rw [hv]; rfl
    simpa using this
  obtain ⟨v1, h1⟩ : ∃ v : Int, cs[1]? = some (.int .i64 v) := by
    obtain ⟨z, hz⟩ := tyat 1 q rfl
    obtain ⟨v, hv, _, _⟩ := DataW.trod_int hq hz
    refine ⟨v, ?_⟩
    have : ((cs.drop 1).take 1)[0]? = some (.int .i64 v) := by rw [hv]; rfl
    simpa using this
  obtain ⟨v2, h2⟩ : ∃ v : Int, cs[2]? = some (.int .i64 v) := by
    obtain ⟨z, hz⟩ := tyat 2 q rfl
    obtain ⟨v, hv, _, _⟩ := DataW.trod_int hq hz
    refine ⟨v, ?_⟩
    have : ((cs.drop 2).take 1)[0]? = some (.int .i64 v) := by rw [hv]; rfl
    simpa using this
  obtain ⟨v3, h3⟩ : ∃ v : Bool, cs[3]? = some (.bool v) := by
    obtain ⟨z, hz⟩ := tyat 3 qb rfl
    obtain ⟨v, hv, _⟩ := DataW.trod_bool hqb hz
    refine ⟨v, ?_⟩
    have : ((cs.drop 3).take 1)[0]? = some (.bool v) := by rw [hv]; rfl
    simpa using this
  obtain ⟨v4, h4⟩ : ∃ v : Bool, cs[4]? = some (.bool v) := by
    obtain ⟨z, hz⟩ := tyat 4 qb rfl
    obtain ⟨v, hv, _⟩ := DataW.trod_bool hqb hz
    refine ⟨v, ?_⟩
    have : ((cs.drop 4).take 1)[0]? = some (.bool v) := by rw [hv]; rfl
    simpa using this
  obtain ⟨v5, h5⟩ : ∃ v : Bool, cs[5]? = some (.bool v) := by
    obtain ⟨z, hz⟩ := tyat 5 qb rfl
    obtain ⟨v, hv, _⟩ := DataW.trod_bool hqb hz
    refine ⟨v, ?_⟩
    have : ((cs.drop 5).take 1)[0]? = some (.bool v) := by rw [hv]; rfl
    simpa using this
  refine ⟨⟨v0, v1, v2, v3, v4, v5⟩, ?_⟩
  apply List.ext_getElem?
  intro i
  match i with
  | 0 => rw [h0]; rfl
  | 1 => rw [h1]; rfl
  | 2 => rw [h2]; rfl
  | 3 => rw [h3]; rfl
  | 4 => rw [h4]; rfl
  | 5 => rw [h5]; rfl
  | i + 6 => rw [List.getElem?_eq_none (by omega), List.getElem?_eq_none (by simp)]

theorem open_rowsCl {t e q qb : TypeId} {fs : Array Field} {A : Option Addr} {len cap fuel : Nat} {x : DataW H × List MemPlace} (ht : P.underlying t = some (.slice e)) (he : P.underlying e = some (.struct fs)) (hone : oneCellFields P fs = true)
    (hall : fs.toList.map (·.type) = [q, q, q, qb, qb, qb]) (hq : P.underlying q = some (.int .i64)) (hqb : P.underlying qb = some .bool) (ce : P.cellsOf e = 6) (h : DataW.trod enc P W 0 (fun _ => true) true fuel t [.slice A len cap] = some x) :
    ∃ l : List Cl, l.length = len ∧ len ≤ maxLen ∧ RdCl W W.heap.size A l := by
  rcases open_slice ht h with ⟨hcs, _⟩ | ⟨a, l, c, m, n, D, Pl, hcs, _, hl, hm, hmm, _, hr⟩
  · simp at hcs
    obtain ⟨rfl, rfl, rfl⟩ := hcs
    exact ⟨[], rfl, Nat.zero_le _, fun h => absurd h (by simp)⟩
  · simp at hcs
    obtain ⟨rfl, rfl, rfl⟩ := hcs
    simp only [if_true] at hmm
    subst hmm
    have each : ∀ i, i < len → ∃ x : Cl, W.cell? (a.add (i * 6)) = some (.int .i64 x.n) ∧ W.cell? ((a.add (i * 6)).add 1) = some (.int .i64 x.l) ∧ W.cell? ((a.add (i * 6)).add 2) = some (.int .i64 x.r) ∧ W.cell? ((a.add (i * 6)).add 3) = some (.bool x.hl) ∧ W.cell? ((a.add (i * 6)).add 4) = some (.bool x.hr) ∧ W.cell? ((a.add (i * 6)).add 5) = some (.bool x.d) := fun i hi => by
      obtain ⟨cs', hc, htr⟩ := hr i (by omega)
      rw [ce] at hc
      obtain ⟨x, rfl⟩ := cells_Cl he hone hall hq hqb ce htr
      obtain ⟨_, _, hat⟩ := World.cells?_some hc
      exact ⟨x, by simpa [Addr.add] using hat 0 (by omega), by simpa using hat 1 (by omega), by simpa using hat 2 (by omega), by simpa using hat 3 (by omega), by simpa using hat 4 (by omega), by simpa using hat 5 (by omega)⟩
    have : Inhabited Cl := ⟨zeroCl⟩
    obtain ⟨f, hf⟩ := choose_lt each
    refine ⟨(List.range len).map f, by simp, by omega, fun hn => ?_⟩
    simp at hn
    have h00 := (hf 0 hn).1
    have hsp := World.cell?_spot h00
    have hbl := World.block_lt_of_cell? _ _ h00
    obtain ⟨b, o, s⟩ := a
    have hs : s = none := by simpa [Addr.add] using hsp
    subst hs
    refine ⟨b, o, rfl, by simpa [Addr.add] using hbl, fun k x hk => ?_⟩
    have hkl : k < len := by simpa using (List.getElem?_eq_some_iff.1 hk).1
    simp [hkl] at hk
    subst hk
    obtain ⟨c0, c1, c2, c3, c4, c5⟩ := hf k hkl
    have e : ∀ j, (⟨b, o, none⟩ : Addr).add j = ⟨b, o + j, none⟩ := fun j => by
      unfold Addr.add
      split
      · rename_i h; subst h; rfl
      · rfl
    rw [e] at c0 c1 c2 c3 c4 c5
    have e2 : ∀ j, (⟨b, o + k * 6, none⟩ : Addr).add j = ⟨b, o + k * 6 + j, none⟩ := fun j => by
      unfold Addr.add
      split
      · rename_i h; subst h; rfl
      · rfl
    rw [e2] at c1 c2 c3 c4 c5
    exact ⟨c0, c1, c2, c3, c4, c5⟩

theorem open_state {r : Reach} {b0 : Nat} {tp t e q qb : TypeId} {f0 : Field} {fs : Array Field} {v : Value} {d : DataW H} {p : List MemPlace} (hp : P.underlying tp = some (.struct #[f0])) (ho : oneCellFields P #[f0] = true) (hft : f0.type = t) (hc : P.cellsOf tp = 1)
    (ht : P.underlying t = some (.slice e)) (he : P.underlying e = some (.struct fs)) (hone : oneCellFields P fs = true)
    (hall : fs.toList.map (·.type) = [q, q, q, qb, qb, qb]) (hq : P.underlying q = some (.int .i64)) (hqb : P.underlying qb = some .bool) (ce : P.cellsOf e = 6) (hval : Value.okWide P W r b0 tp v) (h : DataW.Trod enc P W 0 (fun _ => true) true tp v d p) :
    ∃ (A : Option Addr) (len cap : Nat) (l : List Cl), v = .agg #[.slice A len cap] ∧ l.length = len ∧ len ≤ maxLen ∧ RdCl W W.heap.size A l := by
  obtain ⟨cs, rfl, hsz⟩ := okWide_struct hp hval
  rw [hc] at hsz
  obtain ⟨c0, rfl⟩ : ∃ c0, cs = #[c0] := by
    obtain ⟨m⟩ := cs
    match m, hsz with
    | [c0], _ => exact ⟨c0, rfl⟩
  obtain ⟨fuel, hf⟩ := h
  obtain ⟨xs, n, _, _, _, hxl, hg⟩ := DataW.trod_struct hp hf
  obtain ⟨o0, k0⟩ := hone_of ho 0 f0 rfl
  have h1 := hg 0 f0 rfl
  rw [hft] at h1 k0
  simp [Value.cells, o0, k0] at h1
  have hx : xs[0]? = some (xs[0]'(by simp [hxl])) := List.getElem?_eq_getElem _
  rw [hx] at h1
  rcases open_slice ht h1 with ⟨hcs, _⟩ | ⟨a, l, c, _, _, _, _, hcs, _⟩
  · simp at hcs
    subst hcs
    obtain ⟨l, h2, h3, h4⟩ := open_rowsCl ht he hone hall hq hqb ce h1
    exact ⟨_, _, _, l, rfl, h2, h3, h4⟩
  · simp at hcs
    subst hcs
    obtain ⟨l, h2, h3, h4⟩ := open_rowsCl ht he hone hall hq hqb ce h1
    exact ⟨_, _, _, l, rfl, h2, h3, h4⟩
end

end Go.Proofs.Ytjfdbcbmpgnahaa
