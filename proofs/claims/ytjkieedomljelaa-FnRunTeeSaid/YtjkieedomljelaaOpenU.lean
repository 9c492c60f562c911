/- An argument that is a slice of bytes, opened. -/
import Derived.Test.YtjkieedomljelaaOpen
import Derived.Test.YtjkieedomljelaaRdr
namespace Go.Proofs.Ytjkieedomljelaa
open Go.ChangeShapes Go.WideShapes Go.ChangeAt Go.RowKit Go.Deep

section
variable {H : Type} {enc : TypeId × Value → H} {P : Program} {W : World}
theorem open_u8s {t e : TypeId} {A : Option Addr} {len cap : Nat} {d : DataW H} {p : List MemPlace} (ht : P.underlying t = some (.slice e)) (he : P.underlying e = some (.int .u8)) (ce : P.cellsOf e = 1)
    (h0 : DataW.Trod enc P W 0 (fun _ => true) true t (.slice A len cap) d p) :
    ∃ l : List Nat, l.length = len ∧ len ≤ maxLen ∧ len ≤ cap ∧ RdU W W.heap.size A l := by
  obtain ⟨fuel, hf⟩ := h0
  rcases open_ints ht he ce hf with ⟨hcs, _⟩ | ⟨a, l, c, zs, hcs, _, hl, hm, hz, _, hcell, hwf⟩
  · simp [Value.cells] at hcs
    obtain ⟨rfl, rfl, rfl⟩ := hcs
    exact ⟨[], rfl, Nat.zero_le _, Nat.le_refl _, fun h => absurd h (by simp)⟩
  · simp [Value.cells] at hcs
    obtain ⟨rfl, rfl, rfl⟩ := hcs
    simp at hz
    refine ⟨(zs.take len).map Int.toNat, by simp; omega, by omega, hl, fun hn => ?_⟩
    simp at hn
    refine ⟨a, rfl, by have := World.block_lt_of_cell? _ _ (hcell 0 (by omega)); rwa [add_block] at this, fun k x hx => ?_⟩
    have hk : k < len := by have := (List.getElem?_eq_some_iff.1 hx).1; simp at this; omega
    obtain ⟨z, hzk⟩ := get_of_lt zs (k := k) (by omega)
    rw [List.getElem?_map, List.getElem?_take_of_lt hk, hzk] at hx
    obtain rfl := Option.some.inj hx
    have hw := hwf z (List.mem_of_getElem? hzk)
    have hw2 : 0 ≤ z ∧ z < 256 := by
      have hmin : IntKind.min .u8 = 0 := by decide
      have hmax : IntKind.max .u8 = 255 := by decide
      simp only [Lit.wf, Bool.and_eq_true, decide_eq_true_eq, hmin, hmax] at hw
      omega
    rw [hcell k (by omega)]
    refine ⟨by simp [List.getD, hzk, Int.toNat_of_nonneg hw2.1], by omega⟩
end

end Go.Proofs.Ytjkieedomljelaa
