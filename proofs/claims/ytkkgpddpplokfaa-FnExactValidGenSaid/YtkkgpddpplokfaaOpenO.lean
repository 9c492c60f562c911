/- Arguments that came in, opened: records of 3 fields. -/
import Derived.Test.YtkkgpddpplokfaaOdM
import Derived.ProofKit
import Derived.OpenShut
import Derived.ChangeOld
import Derived.ChangeArms
import Derived.Deep.Slices
import Derived.Deep.Fields
namespace Go.Proofs.Ytkkgpddpplokfaa
open Go.ChangeShapes Go.WideShapes Go.ChangeAt Go.RowKit Go.Deep

section
variable {H : Type} {enc : TypeId × Value → H} {P : Program} {W : World}
theorem cells_Od {e q : TypeId} {fs : Array Field} {fuel : Nat} {cs : List Value} {x : DataW H × List MemPlace} (he : P.underlying e = some (.struct fs)) (hone : oneCellFields P fs = true) (hall : fs.toList.map (·.type) = [q, q, q])
    (hq : P.underlying q = some (.int .i64)) (ce : P.cellsOf e = 3) (h : DataW.trod enc P W 0 (fun _ => true) true fuel e cs = some x) :
    ∃ x : Od, cs = [.int .i64 x.k, .int .i64 x.n, .int .i64 x.m] := by
  have h5 : fs.size = 3 := by have := congrArg List.length hall; simpa using this
  obtain ⟨xs, n, _, _, hl, hxl, hf⟩ := DataW.trod_struct he h
  rw [ce] at hl
  have tyat : ∀ (j : Nat) (t : TypeId), [q, q, q][j]? = some t → ∃ z, DataW.trod enc P W 0 (fun _ => true) true n t ((cs.drop j).take 1) = some z := fun j t hjt => by
    have hj : j < fs.size := by rw [h5]; have := (List.getElem?_eq_some_iff.1 hjt).1; simpa using this
    have hjf : fs[j]? = some (fs[j]'hj) := Array.getElem?_eq_getElem hj
    obtain ⟨ho, hk⟩ := hone_of hone j _ hjf
    have ht : (fs[j]'hj).type = t := by
      rw [← hall] at hjt
      simp at hjt
      obtain ⟨y, hy1, hy2⟩ := hjt
      rw [hjf] at hy1
      rw [Option.some.inj hy1]
      exact hy2
    have h1 := hf j _ hjf
    rw [ho, hk, ht] at h1
    exact ⟨_, h1.trans (List.getElem?_eq_getElem (by omega))⟩
  obtain ⟨v0, h0⟩ : ∃ v : Int, cs[0]? = some (.int .i64 v) := by
    obtain ⟨z, hz⟩ := tyat 0 q rfl
    obtain ⟨v, hv, _, _⟩ := DataW.trod_int hq hz
    refine ⟨v, ?_⟩
    have : ((cs.drop 0).take 1)[0]? = some (.int .i64 v) := by rw [hv]; rfl
    simpa using this
  obtain ⟨v1, h1⟩ : ∃ v : Int, cs[1]? = some (.int .i64 v) := by
    obtain ⟨z, hz⟩ := tyat 1 q rfl
    obtain ⟨v, hv, _, _⟩ := DataW.trod_int hq hz
    refine ⟨v, ?_⟩
    have : ((cs.drop 1).take 1)[0]? = some (.int .i64 v) := by rw [hv]; rfl
    simpa using this
  obtain ⟨v2, h2⟩ : ∃ v : Int, cs[2]? = some (.int .i64 v) := by
    obtain ⟨z, hz⟩ := tyat 2 q rfl
    obtain ⟨v, hv, _, _⟩ := DataW.trod_int hq hz
    refine ⟨v, ?_⟩
    have : ((cs.drop 2).take 1)[0]? = some (.int .i64 v) := by rw [hv]; rfl
    simpa using this
  refine ⟨⟨v0, v1, v2⟩, ?_⟩
  apply List.ext_getElem?
  intro i
  match i with
  | 0 => rw [h0]; rfl
  | 1 => rw [h1]; rfl
  | 2 => rw [h2]; rfl
  | i + 3 => rw [List.getElem?_eq_none (by omega), List.getElem?_eq_none (by simp)]

theorem open_rowsOd {t e q : TypeId} {fs : Array Field} {A : Option Addr} {len cap fuel : Nat} {x : DataW H × List MemPlace} (ht : P.underlying t = some (.slice e)) (he : P.underlying e = some (.struct fs)) (hone : oneCellFields P fs = true)
    (hall : fs.toList.map (·.type) = [q, q, q]) (hq : P.underlying q = some (.int .i64)) (ce : P.cellsOf e = 3) (h : DataW.trod enc P W 0 (fun _ => true) true fuel t [.slice A len cap] = some x) :
    ∃ l : List Od, l.length = len ∧ len ≤ maxLen ∧ RdOd W W.heap.size A l := by
  rcases open_slice ht h with ⟨hcs, _⟩ | ⟨a, l, c, m, n, D, Pl, hcs, _, hl, hm, hmm, _, hr⟩
  · simp at hcs
    obtain ⟨rfl, rfl, rfl⟩ := hcs
    exact ⟨[], rfl, Nat.zero_le _, fun h => absurd h (by simp)⟩
  · simp at hcs
    obtain ⟨rfl, rfl, rfl⟩ := hcs
    simp only [if_true] at hmm
    subst hmm
    have each : ∀ i, i < len → ∃ x : Od, W.cell? (a.add (i * 3)) = some (.int .i64 x.k) ∧ W.cell? ((a.add (i * 3)).add 1) = some (.int .i64 x.n) ∧ W.cell? ((a.add (i * 3)).add 2) = some (.int .i64 x.m) := fun i hi => by
      obtain ⟨cs', hc, htr⟩ := hr i (by omega)
      rw [ce] at hc
      obtain ⟨x, rfl⟩ := cells_Od he hone hall hq ce htr
      obtain ⟨_, _, hat⟩ := World.cells?_some hc
      exact ⟨x, by simpa [Addr.add] using hat 0 (by omega), by simpa using hat 1 (by omega), by simpa using hat 2 (by omega)⟩
    have : Inhabited Od := ⟨zeroOd⟩
    obtain ⟨f, hf⟩ := choose_lt each
    refine ⟨(List.range len).map f, by simp, by omega, fun hn => ?_⟩
    simp at hn
    have h00 := (hf 0 hn).1
    have hsp := World.cell?_spot h00
    have hbl := World.block_lt_of_cell? _ _ h00
    obtain ⟨b, o, s⟩ := a
    have hs : s = none := by simpa [Addr.add] using hsp
    subst hs
    refine ⟨b, o, rfl, by simpa [Addr.add] using hbl, fun k x hk => ?_⟩
    have hkl : k < len := by simpa using (List.getElem?_eq_some_iff.1 hk).1
    simp [hkl] at hk
    subst hk
    obtain ⟨c0, c1, c2⟩ := hf k hkl
    have e : ∀ j, (⟨b, o, none⟩ : Addr).add j = ⟨b, o + j, none⟩ := fun j => by
      unfold Addr.add
      split
      · rename_i h; subst h; rfl
      · rfl
    rw [e] at c0 c1 c2
    have e2 : ∀ j, (⟨b, o + k * 3, none⟩ : Addr).add j = ⟨b, o + k * 3 + j, none⟩ := fun j => by
      unfold Addr.add
      split
      · rename_i h; subst h; rfl
      · rfl
    rw [e2] at c1 c2
    exact ⟨c0, c1, c2⟩

theorem open_oneOd {r : Reach} {b0 : Nat} {e q : TypeId} {fs : Array Field} {v : Value} {d : DataW H} {p : List MemPlace} (he : P.underlying e = some (.struct fs)) (hone : oneCellFields P fs = true)
    (hall : fs.toList.map (·.type) = [q, q, q]) (hq : P.underlying q = some (.int .i64)) (ce : P.cellsOf e = 3) (hval : Value.okWide P W r b0 e v) (h : DataW.Trod enc P W 0 (fun _ => true) true e v d p) :
    ∃ x : Od, v = .agg #[.int .i64 x.k, .int .i64 x.n, .int .i64 x.m] := by
  obtain ⟨cs, rfl, _⟩ := okWide_struct he hval
  obtain ⟨fuel, hf⟩ := h
  obtain ⟨x, e1⟩ := cells_Od he hone hall hq ce hf
  obtain ⟨l⟩ := cs
  have e2 : l = [.int .i64 x.k, .int .i64 x.n, .int .i64 x.m] := by simpa [Value.cells] using e1
  subst e2
  exact ⟨x, rfl⟩

theorem open_manyOd {t e q : TypeId} {fs : Array Field} {A : Option Addr} {len cap : Nat} {d : DataW H} {p : List MemPlace} (ht : P.underlying t = some (.slice e)) (he : P.underlying e = some (.struct fs)) (hone : oneCellFields P fs = true)
    (hall : fs.toList.map (·.type) = [q, q, q]) (hq : P.underlying q = some (.int .i64)) (ce : P.cellsOf e = 3) (h : DataW.Trod enc P W 0 (fun _ => true) true t (.slice A len cap) d p) :
    ∃ l : List Od, l.length = len ∧ len ≤ maxLen ∧ RdOd W W.heap.size A l := by
  obtain ⟨fuel, hf⟩ := h
  exact open_rowsOd ht he hone hall hq ce (by simpa [Value.cells] using hf)
end

end Go.Proofs.Ytkkgpddpplokfaa
