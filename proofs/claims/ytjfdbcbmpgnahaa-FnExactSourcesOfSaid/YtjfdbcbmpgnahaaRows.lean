/-
  No cell of these rows narrows 'for every input' (looked for: loops, veiled, ifaces, maps, wideKeys, modest, calm, conditions, laid).
  DERIVED. THE GIVEN ROWS OF THIS SEAT. 11 by the template 'for every input the law returns true; each argument reads behind the call as it read before'; 0 by the template 'total and deterministic' (their statements: YtjfdbcbmpgnahaaTotals.lean).
  GIVEN WITH THE SEED: the statements are not yours to turn. If you find one false, say at which input.
  Laid BY PROGRAM, IN A SANDBOX (cutbox-rows.mjs): the forced cells as the released guide's own fill.sh prints them over the translation 9db48c0c0a5c335f… (all of the seat's roots in one cut). By AI agents, Wed Nov 11 2026. No macro, syntax, notation, axiom, sorry.
-/
import Derived.Test.YtjfdbcbmpgnahaaChecked
import GoSem.Claim
import GoSem.ClaimJoined
import GoSem.ClaimMapViews
import Derived.JoinedTies
import Derived.KernelRfl
namespace Go.Proofs.Ytjfdbcbmpgnahaa
/- THE CELL 'sum', in the pinned program and in every row, IS THE sha256 OF THE DUMP (.gsa) THAT YtjfdbcbmpgnahaaProg.lean LOADS. Nothing in Lean hashes anything: it is a label: what it is worth is what the hold of that sum in a sandbox is worth. -/
noncomputable def Try.pinned : Pinned := { name := "ytjfdbcbmpgnahaa", sum := "9db48c0c0a5c335f12f4c5d49e687f353c726bac12a571d4be2dec3e88ae3f94", checked := Try.checked }
namespace Rows
def none {H : Type} : Left H := { results := [], args := [] }

/-- 'laws.FnExactListOf': WHATEVER THE INPUT: true; the input reads as it did. -/
def fnExactListOfSpec : ChangeSpec := { name := "fnExactListOf", fn := fun _ => fun
  | [d1, d2] => { results := [.lit (.bool true)], args := [d1, d2] }
  | _ => none }
def fnExactListOfRow : OpenClaim := { program := "ytjfdbcbmpgnahaa", sum := "9db48c0c0a5c335f12f4c5d49e687f353c726bac12a571d4be2dec3e88ae3f94", func := "loop.example/pullstreams/laws.FnExactListOf", spec := "fnExactListOf", unfollowed := true, recurses := true, apart := false }
def FnExactListOfSaid : Prop := fnExactListOfRow.holds Try.pinned (OpenSpec.ofChange fnExactListOfSpec)

/-- ITS FALSE NEIGHBOUR: 'it returns false'. Refute it at one input. -/
def fnExactListOfWrong : ChangeSpec := { name := "fnExactListOf", fn := fun _ => fun
  | [d1, d2] => { results := [.lit (.bool false)], args := [d1, d2] }
  | _ => none }
def FnExactListOfWrongFalsely : Prop := fnExactListOfRow.holds Try.pinned (OpenSpec.ofChange fnExactListOfWrong)

/-- 'laws.FnExactLengthOf': WHATEVER THE INPUT: true; the input reads as it did. -/
def fnExactLengthOfSpec : ChangeSpec := { name := "fnExactLengthOf", fn := fun _ => fun
  | [d1, d2] => { results := [.lit (.bool true)], args := [d1, d2] }
  | _ => none }
def fnExactLengthOfRow : OpenClaim := { program := "ytjfdbcbmpgnahaa", sum := "9db48c0c0a5c335f12f4c5d49e687f353c726bac12a571d4be2dec3e88ae3f94", func := "loop.example/pullstreams/laws.FnExactLengthOf", spec := "fnExactLengthOf", unfollowed := true, recurses := true, apart := false }
def FnExactLengthOfSaid : Prop := fnExactLengthOfRow.holds Try.pinned (OpenSpec.ofChange fnExactLengthOfSpec)

/-- ITS FALSE NEIGHBOUR: 'it returns false'. Refute it at one input. -/
def fnExactLengthOfWrong : ChangeSpec := { name := "fnExactLengthOf", fn := fun _ => fun
  | [d1, d2] => { results := [.lit (.bool false)], args := [d1, d2] }
  | _ => none }
def FnExactLengthOfWrongFalsely : Prop := fnExactLengthOfRow.holds Try.pinned (OpenSpec.ofChange fnExactLengthOfWrong)

/-- 'laws.FnExactSourcesOf': WHATEVER THE INPUT: true; the input reads as it did. -/
def fnExactSourcesOfSpec : ChangeSpec := { name := "fnExactSourcesOf", fn := fun _ => fun
  | [d] => { results := [.lit (.bool true)], args := [d] }
  | _ => none }
def fnExactSourcesOfRow : OpenClaim := { program := "ytjfdbcbmpgnahaa", sum := "9db48c0c0a5c335f12f4c5d49e687f353c726bac12a571d4be2dec3e88ae3f94", func := "loop.example/pullstreams/laws.FnExactSourcesOf", spec := "fnExactSourcesOf", recurses := true, apart := false }
def FnExactSourcesOfSaid : Prop := fnExactSourcesOfRow.holds Try.pinned (OpenSpec.ofChange fnExactSourcesOfSpec)

/-- ITS FALSE NEIGHBOUR: 'it returns false'. Refute it at one input. -/
def fnExactSourcesOfWrong : ChangeSpec := { name := "fnExactSourcesOf", fn := fun _ => fun
  | [d] => { results := [.lit (.bool false)], args := [d] }
  | _ => none }
def FnExactSourcesOfWrongFalsely : Prop := fnExactSourcesOfRow.holds Try.pinned (OpenSpec.ofChange fnExactSourcesOfWrong)

/-- 'laws.FnExactMoveSources': WHATEVER THE INPUT: true; the input reads as it did. -/
def fnExactMoveSourcesSpec : ChangeSpec := { name := "fnExactMoveSources", fn := fun _ => fun
  | [d1, d2] => { results := [.lit (.bool true)], args := [d1, d2] }
  | _ => none }
def fnExactMoveSourcesRow : OpenClaim := { program := "ytjfdbcbmpgnahaa", sum := "9db48c0c0a5c335f12f4c5d49e687f353c726bac12a571d4be2dec3e88ae3f94", func := "loop.example/pullstreams/laws.FnExactMoveSources", spec := "fnExactMoveSources", apart := false }
def FnExactMoveSourcesSaid : Prop := fnExactMoveSourcesRow.holds Try.pinned (OpenSpec.ofChange fnExactMoveSourcesSpec)

/-- ITS FALSE NEIGHBOUR: 'it returns false'. Refute it at one input. -/
def fnExactMoveSourcesWrong : ChangeSpec := { name := "fnExactMoveSources", fn := fun _ => fun
  | [d1, d2] => { results := [.lit (.bool false)], args := [d1, d2] }
  | _ => none }
def FnExactMoveSourcesWrongFalsely : Prop := fnExactMoveSourcesRow.holds Try.pinned (OpenSpec.ofChange fnExactMoveSourcesWrong)

/-- 'laws.FnExactJoinPipes': WHATEVER THE INPUT: true; the input reads as it did. -/
def fnExactJoinPipesSpec : ChangeSpec := { name := "fnExactJoinPipes", fn := fun _ => fun
  | [d1, d2, d3] => { results := [.lit (.bool true)], args := [d1, d2, d3] }
  | _ => none }
def fnExactJoinPipesRow : OpenClaim := { program := "ytjfdbcbmpgnahaa", sum := "9db48c0c0a5c335f12f4c5d49e687f353c726bac12a571d4be2dec3e88ae3f94", func := "loop.example/pullstreams/laws.FnExactJoinPipes", spec := "fnExactJoinPipes", unfollowed := true, recurses := true, apart := false }
def FnExactJoinPipesSaid : Prop := fnExactJoinPipesRow.holds Try.pinned (OpenSpec.ofChange fnExactJoinPipesSpec)

/-- ITS FALSE NEIGHBOUR: 'it returns false'. Refute it at one input. -/
def fnExactJoinPipesWrong : ChangeSpec := { name := "fnExactJoinPipes", fn := fun _ => fun
  | [d1, d2, d3] => { results := [.lit (.bool false)], args := [d1, d2, d3] }
  | _ => none }
def FnExactJoinPipesWrongFalsely : Prop := fnExactJoinPipesRow.holds Try.pinned (OpenSpec.ofChange fnExactJoinPipesWrong)

/-- 'laws.FnExactValidState': WHATEVER THE INPUT: true; the input reads as it did. -/
def fnExactValidStateSpec : ChangeSpec := { name := "fnExactValidState", fn := fun _ => fun
  | [d1, d2, d3] => { results := [.lit (.bool true)], args := [d1, d2, d3] }
  | _ => none }
def fnExactValidStateRow : OpenClaim := { program := "ytjfdbcbmpgnahaa", sum := "9db48c0c0a5c335f12f4c5d49e687f353c726bac12a571d4be2dec3e88ae3f94", func := "loop.example/pullstreams/laws.FnExactValidState", spec := "fnExactValidState", apart := false }
def FnExactValidStateSaid : Prop := fnExactValidStateRow.holds Try.pinned (OpenSpec.ofChange fnExactValidStateSpec)

/-- ITS FALSE NEIGHBOUR: 'it returns false'. Refute it at one input. -/
def fnExactValidStateWrong : ChangeSpec := { name := "fnExactValidState", fn := fun _ => fun
  | [d1, d2, d3] => { results := [.lit (.bool false)], args := [d1, d2, d3] }
  | _ => none }
def FnExactValidStateWrongFalsely : Prop := fnExactValidStateRow.holds Try.pinned (OpenSpec.ofChange fnExactValidStateWrong)

/-- 'laws.FnExactNewState': WHATEVER THE INPUT: true; the input reads as it did. -/
def fnExactNewStateSpec : ChangeSpec := { name := "fnExactNewState", fn := fun _ => fun
  | [d] => { results := [.lit (.bool true)], args := [d] }
  | _ => none }
def fnExactNewStateRow : OpenClaim := { program := "ytjfdbcbmpgnahaa", sum := "9db48c0c0a5c335f12f4c5d49e687f353c726bac12a571d4be2dec3e88ae3f94", func := "loop.example/pullstreams/laws.FnExactNewState", spec := "fnExactNewState", apart := false }
def FnExactNewStateSaid : Prop := fnExactNewStateRow.holds Try.pinned (OpenSpec.ofChange fnExactNewStateSpec)

/-- ITS FALSE NEIGHBOUR: 'it returns false'. Refute it at one input. -/
def fnExactNewStateWrong : ChangeSpec := { name := "fnExactNewState", fn := fun _ => fun
  | [d] => { results := [.lit (.bool false)], args := [d] }
  | _ => none }
def FnExactNewStateWrongFalsely : Prop := fnExactNewStateRow.holds Try.pinned (OpenSpec.ofChange fnExactNewStateWrong)

/-- 'laws.FnExactFirstItems': WHATEVER THE INPUT: true; the input reads as it did. -/
def fnExactFirstItemsSpec : ChangeSpec := { name := "fnExactFirstItems", fn := fun _ => fun
  | [d1, d2, d3] => { results := [.lit (.bool true)], args := [d1, d2, d3] }
  | _ => none }
def fnExactFirstItemsRow : OpenClaim := { program := "ytjfdbcbmpgnahaa", sum := "9db48c0c0a5c335f12f4c5d49e687f353c726bac12a571d4be2dec3e88ae3f94", func := "loop.example/pullstreams/laws.FnExactFirstItems", spec := "fnExactFirstItems", unfollowed := true, recurses := true, apart := false }
def FnExactFirstItemsSaid : Prop := fnExactFirstItemsRow.holds Try.pinned (OpenSpec.ofChange fnExactFirstItemsSpec)

/-- ITS FALSE NEIGHBOUR: 'it returns false'. Refute it at one input. -/
def fnExactFirstItemsWrong : ChangeSpec := { name := "fnExactFirstItems", fn := fun _ => fun
  | [d1, d2, d3] => { results := [.lit (.bool false)], args := [d1, d2, d3] }
  | _ => none }
def FnExactFirstItemsWrongFalsely : Prop := fnExactFirstItemsRow.holds Try.pinned (OpenSpec.ofChange fnExactFirstItemsWrong)

/-- 'laws.FnExactStateAfter': WHATEVER THE INPUT: true; the input reads as it did. -/
def fnExactStateAfterSpec : ChangeSpec := { name := "fnExactStateAfter", fn := fun _ => fun
  | [d1, d2, d3] => { results := [.lit (.bool true)], args := [d1, d2, d3] }
  | _ => none }
def fnExactStateAfterRow : OpenClaim := { program := "ytjfdbcbmpgnahaa", sum := "9db48c0c0a5c335f12f4c5d49e687f353c726bac12a571d4be2dec3e88ae3f94", func := "loop.example/pullstreams/laws.FnExactStateAfter", spec := "fnExactStateAfter", unfollowed := true, recurses := true, apart := false }
def FnExactStateAfterSaid : Prop := fnExactStateAfterRow.holds Try.pinned (OpenSpec.ofChange fnExactStateAfterSpec)

/-- ITS FALSE NEIGHBOUR: 'it returns false'. Refute it at one input. -/
def fnExactStateAfterWrong : ChangeSpec := { name := "fnExactStateAfter", fn := fun _ => fun
  | [d1, d2, d3] => { results := [.lit (.bool false)], args := [d1, d2, d3] }
  | _ => none }
def FnExactStateAfterWrongFalsely : Prop := fnExactStateAfterRow.holds Try.pinned (OpenSpec.ofChange fnExactStateAfterWrong)

/-- 'laws.FnExactPullsOf': WHATEVER THE INPUT: true; the input reads as it did. -/
def fnExactPullsOfSpec : ChangeSpec := { name := "fnExactPullsOf", fn := fun _ => fun
  | [d1, d2, d3] => { results := [.lit (.bool true)], args := [d1, d2, d3] }
  | _ => none }
def fnExactPullsOfRow : OpenClaim := { program := "ytjfdbcbmpgnahaa", sum := "9db48c0c0a5c335f12f4c5d49e687f353c726bac12a571d4be2dec3e88ae3f94", func := "loop.example/pullstreams/laws.FnExactPullsOf", spec := "fnExactPullsOf", unfollowed := true, recurses := true, apart := false }
def FnExactPullsOfSaid : Prop := fnExactPullsOfRow.holds Try.pinned (OpenSpec.ofChange fnExactPullsOfSpec)

/-- ITS FALSE NEIGHBOUR: 'it returns false'. Refute it at one input. -/
def fnExactPullsOfWrong : ChangeSpec := { name := "fnExactPullsOf", fn := fun _ => fun
  | [d1, d2, d3] => { results := [.lit (.bool false)], args := [d1, d2, d3] }
  | _ => none }
def FnExactPullsOfWrongFalsely : Prop := fnExactPullsOfRow.holds Try.pinned (OpenSpec.ofChange fnExactPullsOfWrong)

/-- 'laws.FnExactDrainAll': WHATEVER THE INPUT: true; the input reads as it did. -/
def fnExactDrainAllSpec : ChangeSpec := { name := "fnExactDrainAll", fn := fun _ => fun
  | [d1, d2] => { results := [.lit (.bool true)], args := [d1, d2] }
  | _ => none }
def fnExactDrainAllRow : OpenClaim := { program := "ytjfdbcbmpgnahaa", sum := "9db48c0c0a5c335f12f4c5d49e687f353c726bac12a571d4be2dec3e88ae3f94", func := "loop.example/pullstreams/laws.FnExactDrainAll", spec := "fnExactDrainAll", unfollowed := true, recurses := true, apart := false }
def FnExactDrainAllSaid : Prop := fnExactDrainAllRow.holds Try.pinned (OpenSpec.ofChange fnExactDrainAllSpec)

/-- ITS FALSE NEIGHBOUR: 'it returns false'. Refute it at one input. -/
def fnExactDrainAllWrong : ChangeSpec := { name := "fnExactDrainAll", fn := fun _ => fun
  | [d1, d2] => { results := [.lit (.bool false)], args := [d1, d2] }
  | _ => none }
def FnExactDrainAllWrongFalsely : Prop := fnExactDrainAllRow.holds Try.pinned (OpenSpec.ofChange fnExactDrainAllWrong)

/- THE SECOND FORM. 'bulk': how many values and letters a reading holds, each counted each time it is reached (what is shared counts as often as it is met; a slice's spare places count too). A statement '..UptoSaid' is the law's where the arguments, and the package variables that the reading takes, are together of bulk at most 1048576: NARROWER than '..Said'. Prove '..Said' where nothing that the law and all that it calls make is longer than what came in: it says more and counts as full. Else prove '..UptoSaid'. A law counts once. -/
mutual
def uptoBulk {H : Type} : DataW H → Nat
  | .lit (.string bytes) => bytes.length + 1
  | .lit _ => 1
  | .nil => 1
  | .ptr d => uptoBulk d + 1
  | .slice elems spare => uptoBulkAll elems + uptoBulkAll spare + 1
  | .agg parts => uptoBulkAll parts + 1
  | .iface _ d => uptoBulk d + 1
  | .map entries => uptoBulkEntries entries + 1
  | .held _ => 1
def uptoBulkAll {H : Type} : List (DataW H) → Nat
  | [] => 0
  | d :: r => uptoBulk d + uptoBulkAll r
def uptoBulkEntries {H : Type} : List (Lit × DataW H) → Nat
  | [] => 0
  | x :: r => uptoBulkEntry x + uptoBulkEntries r
def uptoBulkEntry {H : Type} : Lit × DataW H → Nat
  | (.string bytes, d) => bytes.length + uptoBulk d + 1
  | (_, d) => uptoBulk d + 1
 end
def uptoSmall : (H : Type) → List (DataW H) → Bool := fun _ ds => decide (uptoBulkAll ds ≤ 1048576)
def OpenSpec.upto (s : _root_.Go.ChangeSpec) : _root_.Go.OpenSpec := { _root_.Go.OpenSpec.ofChange s with cond := some uptoSmall }

/-- 'laws.FnExactListOf', WHERE WHAT IT READS IS OF BULK AT MOST 1048576: true; the input reads as it did. -/
def fnExactListOfUptoRow : OpenClaim := { program := "ytjfdbcbmpgnahaa", sum := "9db48c0c0a5c335f12f4c5d49e687f353c726bac12a571d4be2dec3e88ae3f94", func := "loop.example/pullstreams/laws.FnExactListOf", spec := "fnExactListOf", unfollowed := true, recurses := true, apart := false, narrowed := true }
def FnExactListOfUptoSaid : Prop := fnExactListOfUptoRow.holds Try.pinned (OpenSpec.upto fnExactListOfSpec)

/-- 'laws.FnExactLengthOf', WHERE WHAT IT READS IS OF BULK AT MOST 1048576: true; the input reads as it did. -/
def fnExactLengthOfUptoRow : OpenClaim := { program := "ytjfdbcbmpgnahaa", sum := "9db48c0c0a5c335f12f4c5d49e687f353c726bac12a571d4be2dec3e88ae3f94", func := "loop.example/pullstreams/laws.FnExactLengthOf", spec := "fnExactLengthOf", unfollowed := true, recurses := true, apart := false, narrowed := true }
def FnExactLengthOfUptoSaid : Prop := fnExactLengthOfUptoRow.holds Try.pinned (OpenSpec.upto fnExactLengthOfSpec)

/-- 'laws.FnExactSourcesOf', WHERE WHAT IT READS IS OF BULK AT MOST 1048576: true; the input reads as it did. -/
def fnExactSourcesOfUptoRow : OpenClaim := { program := "ytjfdbcbmpgnahaa", sum := "9db48c0c0a5c335f12f4c5d49e687f353c726bac12a571d4be2dec3e88ae3f94", func := "loop.example/pullstreams/laws.FnExactSourcesOf", spec := "fnExactSourcesOf", recurses := true, apart := false, narrowed := true }
def FnExactSourcesOfUptoSaid : Prop := fnExactSourcesOfUptoRow.holds Try.pinned (OpenSpec.upto fnExactSourcesOfSpec)

/-- 'laws.FnExactMoveSources', WHERE WHAT IT READS IS OF BULK AT MOST 1048576: true; the input reads as it did. -/
def fnExactMoveSourcesUptoRow : OpenClaim := { program := "ytjfdbcbmpgnahaa", sum := "9db48c0c0a5c335f12f4c5d49e687f353c726bac12a571d4be2dec3e88ae3f94", func := "loop.example/pullstreams/laws.FnExactMoveSources", spec := "fnExactMoveSources", apart := false, narrowed := true }
def FnExactMoveSourcesUptoSaid : Prop := fnExactMoveSourcesUptoRow.holds Try.pinned (OpenSpec.upto fnExactMoveSourcesSpec)

/-- 'laws.FnExactJoinPipes', WHERE WHAT IT READS IS OF BULK AT MOST 1048576: true; the input reads as it did. -/
def fnExactJoinPipesUptoRow : OpenClaim := { program := "ytjfdbcbmpgnahaa", sum := "9db48c0c0a5c335f12f4c5d49e687f353c726bac12a571d4be2dec3e88ae3f94", func := "loop.example/pullstreams/laws.FnExactJoinPipes", spec := "fnExactJoinPipes", unfollowed := true, recurses := true, apart := false, narrowed := true }
def FnExactJoinPipesUptoSaid : Prop := fnExactJoinPipesUptoRow.holds Try.pinned (OpenSpec.upto fnExactJoinPipesSpec)

/-- 'laws.FnExactValidState', WHERE WHAT IT READS IS OF BULK AT MOST 1048576: true; the input reads as it did. -/
def fnExactValidStateUptoRow : OpenClaim := { program := "ytjfdbcbmpgnahaa", sum := "9db48c0c0a5c335f12f4c5d49e687f353c726bac12a571d4be2dec3e88ae3f94", func := "loop.example/pullstreams/laws.FnExactValidState", spec := "fnExactValidState", apart := false, narrowed := true }
def FnExactValidStateUptoSaid : Prop := fnExactValidStateUptoRow.holds Try.pinned (OpenSpec.upto fnExactValidStateSpec)

/-- 'laws.FnExactNewState', WHERE WHAT IT READS IS OF BULK AT MOST 1048576: true; the input reads as it did. -/
def fnExactNewStateUptoRow : OpenClaim := { program := "ytjfdbcbmpgnahaa", sum := "9db48c0c0a5c335f12f4c5d49e687f353c726bac12a571d4be2dec3e88ae3f94", func := "loop.example/pullstreams/laws.FnExactNewState", spec := "fnExactNewState", apart := false, narrowed := true }
def FnExactNewStateUptoSaid : Prop := fnExactNewStateUptoRow.holds Try.pinned (OpenSpec.upto fnExactNewStateSpec)

/-- 'laws.FnExactFirstItems', WHERE WHAT IT READS IS OF BULK AT MOST 1048576: true; the input reads as it did. -/
def fnExactFirstItemsUptoRow : OpenClaim := { program := "ytjfdbcbmpgnahaa", sum := "9db48c0c0a5c335f12f4c5d49e687f353c726bac12a571d4be2dec3e88ae3f94", func := "loop.example/pullstreams/laws.FnExactFirstItems", spec := "fnExactFirstItems", unfollowed := true, recurses := true, apart := false, narrowed := true }
def FnExactFirstItemsUptoSaid : Prop := fnExactFirstItemsUptoRow.holds Try.pinned (OpenSpec.upto fnExactFirstItemsSpec)

/-- 'laws.FnExactStateAfter', WHERE WHAT IT READS IS OF BULK AT MOST 1048576: true; the input reads as it did. -/
def fnExactStateAfterUptoRow : OpenClaim := { program := "ytjfdbcbmpgnahaa", sum := "9db48c0c0a5c335f12f4c5d49e687f353c726bac12a571d4be2dec3e88ae3f94", func := "loop.example/pullstreams/laws.FnExactStateAfter", spec := "fnExactStateAfter", unfollowed := true, recurses := true, apart := false, narrowed := true }
def FnExactStateAfterUptoSaid : Prop := fnExactStateAfterUptoRow.holds Try.pinned (OpenSpec.upto fnExactStateAfterSpec)

/-- 'laws.FnExactPullsOf', WHERE WHAT IT READS IS OF BULK AT MOST 1048576: true; the input reads as it did. -/
def fnExactPullsOfUptoRow : OpenClaim := { program := "ytjfdbcbmpgnahaa", sum := "9db48c0c0a5c335f12f4c5d49e687f353c726bac12a571d4be2dec3e88ae3f94", func := "loop.example/pullstreams/laws.FnExactPullsOf", spec := "fnExactPullsOf", unfollowed := true, recurses := true, apart := false, narrowed := true }
def FnExactPullsOfUptoSaid : Prop := fnExactPullsOfUptoRow.holds Try.pinned (OpenSpec.upto fnExactPullsOfSpec)

/-- 'laws.FnExactDrainAll', WHERE WHAT IT READS IS OF BULK AT MOST 1048576: true; the input reads as it did. -/
def fnExactDrainAllUptoRow : OpenClaim := { program := "ytjfdbcbmpgnahaa", sum := "9db48c0c0a5c335f12f4c5d49e687f353c726bac12a571d4be2dec3e88ae3f94", func := "loop.example/pullstreams/laws.FnExactDrainAll", spec := "fnExactDrainAll", unfollowed := true, recurses := true, apart := false, narrowed := true }
def FnExactDrainAllUptoSaid : Prop := fnExactDrainAllUptoRow.holds Try.pinned (OpenSpec.upto fnExactDrainAllSpec)

end Rows
end Go.Proofs.Ytjfdbcbmpgnahaa
