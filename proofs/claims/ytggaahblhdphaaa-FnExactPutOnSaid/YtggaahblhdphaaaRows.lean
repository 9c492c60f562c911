/-
  No cell of these rows narrows 'for every input' (looked for: loops, veiled, ifaces, maps, wideKeys, modest, calm, conditions, laid).
  DERIVED. THE GIVEN ROWS OF THIS SEAT. 12 by the template 'for every input the law returns true; each argument reads behind the call as it read before'; 0 by the template 'total and deterministic' (their statements: YtggaahblhdphaaaTotals.lean).
  GIVEN WITH THE SEED: the statements are not yours to turn. If you find one false, say at which input.
  Laid BY PROGRAM, IN A SANDBOX (cutbox-rows.mjs): the forced cells as the released guide's own fill.sh prints them over the translation b82ebc894d3bd1c4… (all of the seat's roots in one cut). By AI agents, Wed Nov 11 2026. No macro, syntax, notation, axiom, sorry.
-/
import Derived.Test.YtggaahblhdphaaaChecked
import GoSem.Claim
import GoSem.ClaimJoined
import GoSem.ClaimMapViews
import Derived.JoinedTies
import Derived.KernelRfl
namespace Go.Proofs.Ytggaahblhdphaaa
/- THE CELL 'sum', in the pinned program and in every row, IS THE sha256 OF THE DUMP (.gsa) THAT YtggaahblhdphaaaProg.lean LOADS. Nothing in Lean hashes anything: it is a label: what it is worth is what the hold of that sum in a sandbox is worth. -/
noncomputable def Try.pinned : Pinned := { name := "ytggaahblhdphaaa", sum := "b82ebc894d3bd1c42a315b19a8b5e0849932797081742107ff2ba9f4ba84bf44", checked := Try.checked }
namespace Rows
def none {H : Type} : Left H := { results := [], args := [] }

/-- 'laws.FnExactValidSources': WHATEVER THE INPUT: true; the input reads as it did. -/
def fnExactValidSourcesSpec : ChangeSpec := { name := "fnExactValidSources", fn := fun _ => fun
  | [d] => { results := [.lit (.bool true)], args := [d] }
  | _ => none }
def fnExactValidSourcesRow : OpenClaim := { program := "ytggaahblhdphaaa", sum := "b82ebc894d3bd1c42a315b19a8b5e0849932797081742107ff2ba9f4ba84bf44", func := "loop.example/pullstreams/laws.FnExactValidSources", spec := "fnExactValidSources", apart := false }
def FnExactValidSourcesSaid : Prop := fnExactValidSourcesRow.holds Try.pinned (OpenSpec.ofChange fnExactValidSourcesSpec)

/-- ITS FALSE NEIGHBOUR: 'it returns false'. Refute it at one input. -/
def fnExactValidSourcesWrong : ChangeSpec := { name := "fnExactValidSources", fn := fun _ => fun
  | [d] => { results := [.lit (.bool false)], args := [d] }
  | _ => none }
def FnExactValidSourcesWrongFalsely : Prop := fnExactValidSourcesRow.holds Try.pinned (OpenSpec.ofChange fnExactValidSourcesWrong)

/-- 'laws.FnExactValidPipe': WHATEVER THE INPUT: true; the input reads as it did. -/
def fnExactValidPipeSpec : ChangeSpec := { name := "fnExactValidPipe", fn := fun _ => fun
  | [d] => { results := [.lit (.bool true)], args := [d] }
  | _ => none }
def fnExactValidPipeRow : OpenClaim := { program := "ytggaahblhdphaaa", sum := "b82ebc894d3bd1c42a315b19a8b5e0849932797081742107ff2ba9f4ba84bf44", func := "loop.example/pullstreams/laws.FnExactValidPipe", spec := "fnExactValidPipe", apart := false }
def FnExactValidPipeSaid : Prop := fnExactValidPipeRow.holds Try.pinned (OpenSpec.ofChange fnExactValidPipeSpec)

/-- ITS FALSE NEIGHBOUR: 'it returns false'. Refute it at one input. -/
def fnExactValidPipeWrong : ChangeSpec := { name := "fnExactValidPipe", fn := fun _ => fun
  | [d] => { results := [.lit (.bool false)], args := [d] }
  | _ => none }
def FnExactValidPipeWrongFalsely : Prop := fnExactValidPipeRow.holds Try.pinned (OpenSpec.ofChange fnExactValidPipeWrong)

/-- 'laws.FnExactListOf': WHATEVER THE INPUT: true; the input reads as it did. -/
def fnExactListOfSpec : ChangeSpec := { name := "fnExactListOf", fn := fun _ => fun
  | [d1, d2] => { results := [.lit (.bool true)], args := [d1, d2] }
  | _ => none }
def fnExactListOfRow : OpenClaim := { program := "ytggaahblhdphaaa", sum := "b82ebc894d3bd1c42a315b19a8b5e0849932797081742107ff2ba9f4ba84bf44", func := "loop.example/pullstreams/laws.FnExactListOf", spec := "fnExactListOf", unfollowed := true, recurses := true, apart := false }
def FnExactListOfSaid : Prop := fnExactListOfRow.holds Try.pinned (OpenSpec.ofChange fnExactListOfSpec)

/-- ITS FALSE NEIGHBOUR: 'it returns false'. Refute it at one input. -/
def fnExactListOfWrong : ChangeSpec := { name := "fnExactListOf", fn := fun _ => fun
  | [d1, d2] => { results := [.lit (.bool false)], args := [d1, d2] }
  | _ => none }
def FnExactListOfWrongFalsely : Prop := fnExactListOfRow.holds Try.pinned (OpenSpec.ofChange fnExactListOfWrong)

/-- 'laws.FnExactLengthOf': WHATEVER THE INPUT: true; the input reads as it did. -/
def fnExactLengthOfSpec : ChangeSpec := { name := "fnExactLengthOf", fn := fun _ => fun
  | [d1, d2] => { results := [.lit (.bool true)], args := [d1, d2] }
  | _ => none }
def fnExactLengthOfRow : OpenClaim := { program := "ytggaahblhdphaaa", sum := "b82ebc894d3bd1c42a315b19a8b5e0849932797081742107ff2ba9f4ba84bf44", func := "loop.example/pullstreams/laws.FnExactLengthOf", spec := "fnExactLengthOf", unfollowed := true, recurses := true, apart := false }
def FnExactLengthOfSaid : Prop := fnExactLengthOfRow.holds Try.pinned (OpenSpec.ofChange fnExactLengthOfSpec)

/-- ITS FALSE NEIGHBOUR: 'it returns false'. Refute it at one input. -/
def fnExactLengthOfWrong : ChangeSpec := { name := "fnExactLengthOf", fn := fun _ => fun
  | [d1, d2] => { results := [.lit (.bool false)], args := [d1, d2] }
  | _ => none }
def FnExactLengthOfWrongFalsely : Prop := fnExactLengthOfRow.holds Try.pinned (OpenSpec.ofChange fnExactLengthOfWrong)

/-- 'laws.FnExactSourcesOf': WHATEVER THE INPUT: true; the input reads as it did. -/
def fnExactSourcesOfSpec : ChangeSpec := { name := "fnExactSourcesOf", fn := fun _ => fun
  | [d] => { results := [.lit (.bool true)], args := [d] }
  | _ => none }
def fnExactSourcesOfRow : OpenClaim := { program := "ytggaahblhdphaaa", sum := "b82ebc894d3bd1c42a315b19a8b5e0849932797081742107ff2ba9f4ba84bf44", func := "loop.example/pullstreams/laws.FnExactSourcesOf", spec := "fnExactSourcesOf", recurses := true, apart := false }
def FnExactSourcesOfSaid : Prop := fnExactSourcesOfRow.holds Try.pinned (OpenSpec.ofChange fnExactSourcesOfSpec)

/-- ITS FALSE NEIGHBOUR: 'it returns false'. Refute it at one input. -/
def fnExactSourcesOfWrong : ChangeSpec := { name := "fnExactSourcesOf", fn := fun _ => fun
  | [d] => { results := [.lit (.bool false)], args := [d] }
  | _ => none }
def FnExactSourcesOfWrongFalsely : Prop := fnExactSourcesOfRow.holds Try.pinned (OpenSpec.ofChange fnExactSourcesOfWrong)

/-- 'laws.FnExactIsLine': WHATEVER THE INPUT: true; the input reads as it did. -/
def fnExactIsLineSpec : ChangeSpec := { name := "fnExactIsLine", fn := fun _ => fun
  | [d] => { results := [.lit (.bool true)], args := [d] }
  | _ => none }
def fnExactIsLineRow : OpenClaim := { program := "ytggaahblhdphaaa", sum := "b82ebc894d3bd1c42a315b19a8b5e0849932797081742107ff2ba9f4ba84bf44", func := "loop.example/pullstreams/laws.FnExactIsLine", spec := "fnExactIsLine", apart := false }
def FnExactIsLineSaid : Prop := fnExactIsLineRow.holds Try.pinned (OpenSpec.ofChange fnExactIsLineSpec)

/-- ITS FALSE NEIGHBOUR: 'it returns false'. Refute it at one input. -/
def fnExactIsLineWrong : ChangeSpec := { name := "fnExactIsLine", fn := fun _ => fun
  | [d] => { results := [.lit (.bool false)], args := [d] }
  | _ => none }
def FnExactIsLineWrongFalsely : Prop := fnExactIsLineRow.holds Try.pinned (OpenSpec.ofChange fnExactIsLineWrong)

/-- 'laws.FnExactDepthOf': WHATEVER THE INPUT: true; the input reads as it did. -/
def fnExactDepthOfSpec : ChangeSpec := { name := "fnExactDepthOf", fn := fun _ => fun
  | [d] => { results := [.lit (.bool true)], args := [d] }
  | _ => none }
def fnExactDepthOfRow : OpenClaim := { program := "ytggaahblhdphaaa", sum := "b82ebc894d3bd1c42a315b19a8b5e0849932797081742107ff2ba9f4ba84bf44", func := "loop.example/pullstreams/laws.FnExactDepthOf", spec := "fnExactDepthOf", unfollowed := true, recurses := true, apart := false }
def FnExactDepthOfSaid : Prop := fnExactDepthOfRow.holds Try.pinned (OpenSpec.ofChange fnExactDepthOfSpec)

/-- ITS FALSE NEIGHBOUR: 'it returns false'. Refute it at one input. -/
def fnExactDepthOfWrong : ChangeSpec := { name := "fnExactDepthOf", fn := fun _ => fun
  | [d] => { results := [.lit (.bool false)], args := [d] }
  | _ => none }
def FnExactDepthOfWrongFalsely : Prop := fnExactDepthOfRow.holds Try.pinned (OpenSpec.ofChange fnExactDepthOfWrong)

/-- 'laws.FnExactOrderPipe': WHATEVER THE INPUT: true; the input reads as it did. -/
def fnExactOrderPipeSpec : ChangeSpec := { name := "fnExactOrderPipe", fn := fun _ => fun
  | [d] => { results := [.lit (.bool true)], args := [d] }
  | _ => none }
def fnExactOrderPipeRow : OpenClaim := { program := "ytggaahblhdphaaa", sum := "b82ebc894d3bd1c42a315b19a8b5e0849932797081742107ff2ba9f4ba84bf44", func := "loop.example/pullstreams/laws.FnExactOrderPipe", spec := "fnExactOrderPipe", unfollowed := true, recurses := true, apart := false }
def FnExactOrderPipeSaid : Prop := fnExactOrderPipeRow.holds Try.pinned (OpenSpec.ofChange fnExactOrderPipeSpec)

/-- ITS FALSE NEIGHBOUR: 'it returns false'. Refute it at one input. -/
def fnExactOrderPipeWrong : ChangeSpec := { name := "fnExactOrderPipe", fn := fun _ => fun
  | [d] => { results := [.lit (.bool false)], args := [d] }
  | _ => none }
def FnExactOrderPipeWrongFalsely : Prop := fnExactOrderPipeRow.holds Try.pinned (OpenSpec.ofChange fnExactOrderPipeWrong)

/-- 'laws.FnExactPartOf': WHATEVER THE INPUT: true; the input reads as it did. -/
def fnExactPartOfSpec : ChangeSpec := { name := "fnExactPartOf", fn := fun _ => fun
  | [d1, d2] => { results := [.lit (.bool true)], args := [d1, d2] }
  | _ => none }
def fnExactPartOfRow : OpenClaim := { program := "ytggaahblhdphaaa", sum := "b82ebc894d3bd1c42a315b19a8b5e0849932797081742107ff2ba9f4ba84bf44", func := "loop.example/pullstreams/laws.FnExactPartOf", spec := "fnExactPartOf", unfollowed := true, recurses := true, apart := false }
def FnExactPartOfSaid : Prop := fnExactPartOfRow.holds Try.pinned (OpenSpec.ofChange fnExactPartOfSpec)

/-- ITS FALSE NEIGHBOUR: 'it returns false'. Refute it at one input. -/
def fnExactPartOfWrong : ChangeSpec := { name := "fnExactPartOf", fn := fun _ => fun
  | [d1, d2] => { results := [.lit (.bool false)], args := [d1, d2] }
  | _ => none }
def FnExactPartOfWrongFalsely : Prop := fnExactPartOfRow.holds Try.pinned (OpenSpec.ofChange fnExactPartOfWrong)

/-- 'laws.FnExactMoveSources': WHATEVER THE INPUT: true; the input reads as it did. -/
def fnExactMoveSourcesSpec : ChangeSpec := { name := "fnExactMoveSources", fn := fun _ => fun
  | [d1, d2] => { results := [.lit (.bool true)], args := [d1, d2] }
  | _ => none }
def fnExactMoveSourcesRow : OpenClaim := { program := "ytggaahblhdphaaa", sum := "b82ebc894d3bd1c42a315b19a8b5e0849932797081742107ff2ba9f4ba84bf44", func := "loop.example/pullstreams/laws.FnExactMoveSources", spec := "fnExactMoveSources", apart := false }
def FnExactMoveSourcesSaid : Prop := fnExactMoveSourcesRow.holds Try.pinned (OpenSpec.ofChange fnExactMoveSourcesSpec)

/-- ITS FALSE NEIGHBOUR: 'it returns false'. Refute it at one input. -/
def fnExactMoveSourcesWrong : ChangeSpec := { name := "fnExactMoveSources", fn := fun _ => fun
  | [d1, d2] => { results := [.lit (.bool false)], args := [d1, d2] }
  | _ => none }
def FnExactMoveSourcesWrongFalsely : Prop := fnExactMoveSourcesRow.holds Try.pinned (OpenSpec.ofChange fnExactMoveSourcesWrong)

/-- 'laws.FnExactJoinPipes': WHATEVER THE INPUT: true; the input reads as it did. -/
def fnExactJoinPipesSpec : ChangeSpec := { name := "fnExactJoinPipes", fn := fun _ => fun
  | [d1, d2, d3] => { results := [.lit (.bool true)], args := [d1, d2, d3] }
  | _ => none }
def fnExactJoinPipesRow : OpenClaim := { program := "ytggaahblhdphaaa", sum := "b82ebc894d3bd1c42a315b19a8b5e0849932797081742107ff2ba9f4ba84bf44", func := "loop.example/pullstreams/laws.FnExactJoinPipes", spec := "fnExactJoinPipes", unfollowed := true, recurses := true, apart := false }
def FnExactJoinPipesSaid : Prop := fnExactJoinPipesRow.holds Try.pinned (OpenSpec.ofChange fnExactJoinPipesSpec)

/-- ITS FALSE NEIGHBOUR: 'it returns false'. Refute it at one input. -/
def fnExactJoinPipesWrong : ChangeSpec := { name := "fnExactJoinPipes", fn := fun _ => fun
  | [d1, d2, d3] => { results := [.lit (.bool false)], args := [d1, d2, d3] }
  | _ => none }
def FnExactJoinPipesWrongFalsely : Prop := fnExactJoinPipesRow.holds Try.pinned (OpenSpec.ofChange fnExactJoinPipesWrong)

/-- 'laws.FnExactPutOn': WHATEVER THE INPUT: true; the input reads as it did. -/
def fnExactPutOnSpec : ChangeSpec := { name := "fnExactPutOn", fn := fun _ => fun
  | [d1, d2] => { results := [.lit (.bool true)], args := [d1, d2] }
  | _ => none }
def fnExactPutOnRow : OpenClaim := { program := "ytggaahblhdphaaa", sum := "b82ebc894d3bd1c42a315b19a8b5e0849932797081742107ff2ba9f4ba84bf44", func := "loop.example/pullstreams/laws.FnExactPutOn", spec := "fnExactPutOn", apart := false }
def FnExactPutOnSaid : Prop := fnExactPutOnRow.holds Try.pinned (OpenSpec.ofChange fnExactPutOnSpec)

/-- ITS FALSE NEIGHBOUR: 'it returns false'. Refute it at one input. -/
def fnExactPutOnWrong : ChangeSpec := { name := "fnExactPutOn", fn := fun _ => fun
  | [d1, d2] => { results := [.lit (.bool false)], args := [d1, d2] }
  | _ => none }
def FnExactPutOnWrongFalsely : Prop := fnExactPutOnRow.holds Try.pinned (OpenSpec.ofChange fnExactPutOnWrong)

/- THE SECOND FORM. 'bulk': how many values and letters a reading holds, each counted each time it is reached (what is shared counts as often as it is met; a slice's spare places count too). A statement '..UptoSaid' is the law's where the arguments, and the package variables that the reading takes, are together of bulk at most 1048576: NARROWER than '..Said'. Prove '..Said' where nothing that the law and all that it calls make is longer than what came in: it says more and counts as full. Else prove '..UptoSaid'. A law counts once. -/
mutual
def uptoBulk {H : Type} : DataW H → Nat
  | .lit (.string bytes) => bytes.length + 1
  | .lit _ => 1
  | .nil => 1
  | .ptr d => uptoBulk d + 1
  | .slice elems spare => uptoBulkAll elems + uptoBulkAll spare + 1
  | .agg parts => uptoBulkAll parts + 1
  | .iface _ d => uptoBulk d + 1
  | .map entries => uptoBulkEntries entries + 1
  | .held _ => 1
def uptoBulkAll {H : Type} : List (DataW H) → Nat
  | [] => 0
  | d :: r => uptoBulk d + uptoBulkAll r
def uptoBulkEntries {H : Type} : List (Lit × DataW H) → Nat
  | [] => 0
  | x :: r => uptoBulkEntry x + uptoBulkEntries r
def uptoBulkEntry {H : Type} : Lit × DataW H → Nat
  | (.string bytes, d) => bytes.length + uptoBulk d + 1
  | (_, d) => uptoBulk d + 1
 end
def uptoSmall : (H : Type) → List (DataW H) → Bool := fun _ ds => decide (uptoBulkAll ds ≤ 1048576)
def OpenSpec.upto (s : _root_.Go.ChangeSpec) : _root_.Go.OpenSpec := { _root_.Go.OpenSpec.ofChange s with cond := some uptoSmall }

/-- 'laws.FnExactValidSources', WHERE WHAT IT READS IS OF BULK AT MOST 1048576: true; the input reads as it did. -/
def fnExactValidSourcesUptoRow : OpenClaim := { program := "ytggaahblhdphaaa", sum := "b82ebc894d3bd1c42a315b19a8b5e0849932797081742107ff2ba9f4ba84bf44", func := "loop.example/pullstreams/laws.FnExactValidSources", spec := "fnExactValidSources", apart := false, narrowed := true }
def FnExactValidSourcesUptoSaid : Prop := fnExactValidSourcesUptoRow.holds Try.pinned (OpenSpec.upto fnExactValidSourcesSpec)

/-- 'laws.FnExactValidPipe', WHERE WHAT IT READS IS OF BULK AT MOST 1048576: true; the input reads as it did. -/
def fnExactValidPipeUptoRow : OpenClaim := { program := "ytggaahblhdphaaa", sum := "b82ebc894d3bd1c42a315b19a8b5e0849932797081742107ff2ba9f4ba84bf44", func := "loop.example/pullstreams/laws.FnExactValidPipe", spec := "fnExactValidPipe", apart := false, narrowed := true }
def FnExactValidPipeUptoSaid : Prop := fnExactValidPipeUptoRow.holds Try.pinned (OpenSpec.upto fnExactValidPipeSpec)

/-- 'laws.FnExactListOf', WHERE WHAT IT READS IS OF BULK AT MOST 1048576: true; the input reads as it did. -/
def fnExactListOfUptoRow : OpenClaim := { program := "ytggaahblhdphaaa", sum := "b82ebc894d3bd1c42a315b19a8b5e0849932797081742107ff2ba9f4ba84bf44", func := "loop.example/pullstreams/laws.FnExactListOf", spec := "fnExactListOf", unfollowed := true, recurses := true, apart := false, narrowed := true }
def FnExactListOfUptoSaid : Prop := fnExactListOfUptoRow.holds Try.pinned (OpenSpec.upto fnExactListOfSpec)

/-- 'laws.FnExactLengthOf', WHERE WHAT IT READS IS OF BULK AT MOST 1048576: true; the input reads as it did. -/
def fnExactLengthOfUptoRow : OpenClaim := { program := "ytggaahblhdphaaa", sum := "b82ebc894d3bd1c42a315b19a8b5e0849932797081742107ff2ba9f4ba84bf44", func := "loop.example/pullstreams/laws.FnExactLengthOf", spec := "fnExactLengthOf", unfollowed := true, recurses := true, apart := false, narrowed := true }
def FnExactLengthOfUptoSaid : Prop := fnExactLengthOfUptoRow.holds Try.pinned (OpenSpec.upto fnExactLengthOfSpec)

/-- 'laws.FnExactSourcesOf', WHERE WHAT IT READS IS OF BULK AT MOST 1048576: true; the input reads as it did. -/
def fnExactSourcesOfUptoRow : OpenClaim := { program := "ytggaahblhdphaaa", sum := "b82ebc894d3bd1c42a315b19a8b5e0849932797081742107ff2ba9f4ba84bf44", func := "loop.example/pullstreams/laws.FnExactSourcesOf", spec := "fnExactSourcesOf", recurses := true, apart := false, narrowed := true }
def FnExactSourcesOfUptoSaid : Prop := fnExactSourcesOfUptoRow.holds Try.pinned (OpenSpec.upto fnExactSourcesOfSpec)

/-- 'laws.FnExactIsLine', WHERE WHAT IT READS IS OF BULK AT MOST 1048576: true; the input reads as it did. -/
def fnExactIsLineUptoRow : OpenClaim := { program := "ytggaahblhdphaaa", sum := "b82ebc894d3bd1c42a315b19a8b5e0849932797081742107ff2ba9f4ba84bf44", func := "loop.example/pullstreams/laws.FnExactIsLine", spec := "fnExactIsLine", apart := false, narrowed := true }
def FnExactIsLineUptoSaid : Prop := fnExactIsLineUptoRow.holds Try.pinned (OpenSpec.upto fnExactIsLineSpec)

/-- 'laws.FnExactDepthOf', WHERE WHAT IT READS IS OF BULK AT MOST 1048576: true; the input reads as it did. -/
def fnExactDepthOfUptoRow : OpenClaim := { program := "ytggaahblhdphaaa", sum := "b82ebc894d3bd1c42a315b19a8b5e0849932797081742107ff2ba9f4ba84bf44", func := "loop.example/pullstreams/laws.FnExactDepthOf", spec := "fnExactDepthOf", unfollowed := true, recurses := true, apart := false, narrowed := true }
def FnExactDepthOfUptoSaid : Prop := fnExactDepthOfUptoRow.holds Try.pinned (OpenSpec.upto fnExactDepthOfSpec)

/-- 'laws.FnExactOrderPipe', WHERE WHAT IT READS IS OF BULK AT MOST 1048576: true; the input reads as it did. -/
def fnExactOrderPipeUptoRow : OpenClaim := { program := "ytggaahblhdphaaa", sum := "b82ebc894d3bd1c42a315b19a8b5e0849932797081742107ff2ba9f4ba84bf44", func := "loop.example/pullstreams/laws.FnExactOrderPipe", spec := "fnExactOrderPipe", unfollowed := true, recurses := true, apart := false, narrowed := true }
def FnExactOrderPipeUptoSaid : Prop := fnExactOrderPipeUptoRow.holds Try.pinned (OpenSpec.upto fnExactOrderPipeSpec)

/-- 'laws.FnExactPartOf', WHERE WHAT IT READS IS OF BULK AT MOST 1048576: true; the input reads as it did. -/
def fnExactPartOfUptoRow : OpenClaim := { program := "ytggaahblhdphaaa", sum := "b82ebc894d3bd1c42a315b19a8b5e0849932797081742107ff2ba9f4ba84bf44", func := "loop.example/pullstreams/laws.FnExactPartOf", spec := "fnExactPartOf", unfollowed := true, recurses := true, apart := false, narrowed := true }
def FnExactPartOfUptoSaid : Prop := fnExactPartOfUptoRow.holds Try.pinned (OpenSpec.upto fnExactPartOfSpec)

/-- 'laws.FnExactMoveSources', WHERE WHAT IT READS IS OF BULK AT MOST 1048576: true; the input reads as it did. -/
def fnExactMoveSourcesUptoRow : OpenClaim := { program := "ytggaahblhdphaaa", sum := "b82ebc894d3bd1c42a315b19a8b5e0849932797081742107ff2ba9f4ba84bf44", func := "loop.example/pullstreams/laws.FnExactMoveSources", spec := "fnExactMoveSources", apart := false, narrowed := true }
def FnExactMoveSourcesUptoSaid : Prop := fnExactMoveSourcesUptoRow.holds Try.pinned (OpenSpec.upto fnExactMoveSourcesSpec)

/-- 'laws.FnExactJoinPipes', WHERE WHAT IT READS IS OF BULK AT MOST 1048576: true; the input reads as it did. -/
def fnExactJoinPipesUptoRow : OpenClaim := { program := "ytggaahblhdphaaa", sum := "b82ebc894d3bd1c42a315b19a8b5e0849932797081742107ff2ba9f4ba84bf44", func := "loop.example/pullstreams/laws.FnExactJoinPipes", spec := "fnExactJoinPipes", unfollowed := true, recurses := true, apart := false, narrowed := true }
def FnExactJoinPipesUptoSaid : Prop := fnExactJoinPipesUptoRow.holds Try.pinned (OpenSpec.upto fnExactJoinPipesSpec)

/-- 'laws.FnExactPutOn', WHERE WHAT IT READS IS OF BULK AT MOST 1048576: true; the input reads as it did. -/
def fnExactPutOnUptoRow : OpenClaim := { program := "ytggaahblhdphaaa", sum := "b82ebc894d3bd1c42a315b19a8b5e0849932797081742107ff2ba9f4ba84bf44", func := "loop.example/pullstreams/laws.FnExactPutOn", spec := "fnExactPutOn", apart := false, narrowed := true }
def FnExactPutOnUptoSaid : Prop := fnExactPutOnUptoRow.holds Try.pinned (OpenSpec.upto fnExactPutOnSpec)

end Rows
end Go.Proofs.Ytggaahblhdphaaa
