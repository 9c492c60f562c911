/- An argument that is one node, opened. -/
import Derived.Test.YtggaahblhdphaaaOpenN
namespace Go.Proofs.Ytggaahblhdphaaa
open Go.ChangeShapes Go.WideShapes Go.ChangeAt Go.RowKit Go.Deep

section
variable {H : Type} {enc : TypeId × Value → H} {P : Program} {W : World}
theorem open_node {r : Reach} {b0 : Nat} {e q : TypeId} {fs : Array Field} {v : Value} {d : DataW H} {p : List MemPlace} (he : P.underlying e = some (.struct fs)) (h5 : fs.size = 5) (hone : oneCellFields P fs = true)
    (hall : fs.all (fun f => f.type == q) = true) (hq : P.underlying q = some (.int .i64)) (ce : P.cellsOf e = 5) (hval : Value.okWide P W r b0 e v) (h : DataW.Trod enc P W 0 (fun _ => true) true e v d p) :
    ∃ x : Nd, v = .agg #[.int .i64 x.k, .int .i64 x.a, .int .i64 x.b, .int .i64 x.n, .int .i64 x.m] := by
  obtain ⟨cs, rfl, _⟩ := okWide_struct he hval
  obtain ⟨fuel, hf⟩ := h
  obtain ⟨k, a, b, n, m, e1⟩ := five_cells he h5 hone hall hq ce hf
  obtain ⟨l⟩ := cs
  have e2 : l = [.int .i64 k, .int .i64 a, .int .i64 b, .int .i64 n, .int .i64 m] := by simpa [Value.cells] using e1
  subst e2
  exact ⟨⟨k, a, b, n, m⟩, rfl⟩
end

end Go.Proofs.Ytggaahblhdphaaa
