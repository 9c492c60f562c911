/-
  No cell of these rows narrows 'for every input' (looked for: loops, veiled, ifaces, maps, wideKeys, modest, calm, conditions, laid).
  DERIVED. THE GIVEN ROWS OF THIS SEAT. 11 by the template 'for every input the law returns true; each argument reads behind the call as it read before'; 0 by the template 'total and deterministic' (their statements: YtjhdjfobbgfpfaaTotals.lean).
  GIVEN WITH THE SEED: the statements are not yours to turn. If you find one false, say at which input.
  Laid BY PROGRAM, IN A SANDBOX (cutbox-rows.mjs): the forced cells as the released guide's own fill.sh prints them over the translation 74a4150deb769674… (all of the seat's roots in one cut). By AI agents, Wed Nov 11 2026. No macro, syntax, notation, axiom, sorry.
-/
import Derived.Test.YtjhdjfobbgfpfaaChecked
import GoSem.Claim
import GoSem.ClaimJoined
import GoSem.ClaimMapViews
import Derived.JoinedTies
import Derived.KernelRfl
namespace Go.Proofs.Ytjhdjfobbgfpfaa
/- THE CELL 'sum', in the pinned program and in every row, IS THE sha256 OF THE DUMP (.gsa) THAT YtjhdjfobbgfpfaaProg.lean LOADS. Nothing in Lean hashes anything: it is a label: what it is worth is what the hold of that sum in a sandbox is worth. -/
noncomputable def Try.pinned : Pinned := { name := "ytjhdjfobbgfpfaa", sum := "74a4150deb76967465524679541ce183459b331efb45e7eb532aca6f776a8cd9", checked := Try.checked }
namespace Rows
def none {H : Type} : Left H := { results := [], args := [] }

/-- 'laws.FnExactFirstItems': WHATEVER THE INPUT: true; the input reads as it did. -/
def fnExactFirstItemsSpec : ChangeSpec := { name := "fnExactFirstItems", fn := fun _ => fun
  | [d1, d2, d3] => { results := [.lit (.bool true)], args := [d1, d2, d3] }
  | _ => none }
def fnExactFirstItemsRow : OpenClaim := { program := "ytjhdjfobbgfpfaa", sum := "74a4150deb76967465524679541ce183459b331efb45e7eb532aca6f776a8cd9", func := "loop.example/pullstreams/laws.FnExactFirstItems", spec := "fnExactFirstItems", unfollowed := true, recurses := true, apart := false }
def FnExactFirstItemsSaid : Prop := fnExactFirstItemsRow.holds Try.pinned (OpenSpec.ofChange fnExactFirstItemsSpec)

/-- ITS FALSE NEIGHBOUR: 'it returns false'. Refute it at one input. -/
def fnExactFirstItemsWrong : ChangeSpec := { name := "fnExactFirstItems", fn := fun _ => fun
  | [d1, d2, d3] => { results := [.lit (.bool false)], args := [d1, d2, d3] }
  | _ => none }
def FnExactFirstItemsWrongFalsely : Prop := fnExactFirstItemsRow.holds Try.pinned (OpenSpec.ofChange fnExactFirstItemsWrong)

/-- 'laws.FnExactStateAfter': WHATEVER THE INPUT: true; the input reads as it did. -/
def fnExactStateAfterSpec : ChangeSpec := { name := "fnExactStateAfter", fn := fun _ => fun
  | [d1, d2, d3] => { results := [.lit (.bool true)], args := [d1, d2, d3] }
  | _ => none }
def fnExactStateAfterRow : OpenClaim := { program := "ytjhdjfobbgfpfaa", sum := "74a4150deb76967465524679541ce183459b331efb45e7eb532aca6f776a8cd9", func := "loop.example/pullstreams/laws.FnExactStateAfter", spec := "fnExactStateAfter", unfollowed := true, recurses := true, apart := false }
def FnExactStateAfterSaid : Prop := fnExactStateAfterRow.holds Try.pinned (OpenSpec.ofChange fnExactStateAfterSpec)

/-- ITS FALSE NEIGHBOUR: 'it returns false'. Refute it at one input. -/
def fnExactStateAfterWrong : ChangeSpec := { name := "fnExactStateAfter", fn := fun _ => fun
  | [d1, d2, d3] => { results := [.lit (.bool false)], args := [d1, d2, d3] }
  | _ => none }
def FnExactStateAfterWrongFalsely : Prop := fnExactStateAfterRow.holds Try.pinned (OpenSpec.ofChange fnExactStateAfterWrong)

/-- 'laws.FnExactPullsOf': WHATEVER THE INPUT: true; the input reads as it did. -/
def fnExactPullsOfSpec : ChangeSpec := { name := "fnExactPullsOf", fn := fun _ => fun
  | [d1, d2, d3] => { results := [.lit (.bool true)], args := [d1, d2, d3] }
  | _ => none }
def fnExactPullsOfRow : OpenClaim := { program := "ytjhdjfobbgfpfaa", sum := "74a4150deb76967465524679541ce183459b331efb45e7eb532aca6f776a8cd9", func := "loop.example/pullstreams/laws.FnExactPullsOf", spec := "fnExactPullsOf", unfollowed := true, recurses := true, apart := false }
def FnExactPullsOfSaid : Prop := fnExactPullsOfRow.holds Try.pinned (OpenSpec.ofChange fnExactPullsOfSpec)

/-- ITS FALSE NEIGHBOUR: 'it returns false'. Refute it at one input. -/
def fnExactPullsOfWrong : ChangeSpec := { name := "fnExactPullsOf", fn := fun _ => fun
  | [d1, d2, d3] => { results := [.lit (.bool false)], args := [d1, d2, d3] }
  | _ => none }
def FnExactPullsOfWrongFalsely : Prop := fnExactPullsOfRow.holds Try.pinned (OpenSpec.ofChange fnExactPullsOfWrong)

/-- 'laws.FnExactDrainAll': WHATEVER THE INPUT: true; the input reads as it did. -/
def fnExactDrainAllSpec : ChangeSpec := { name := "fnExactDrainAll", fn := fun _ => fun
  | [d1, d2] => { results := [.lit (.bool true)], args := [d1, d2] }
  | _ => none }
def fnExactDrainAllRow : OpenClaim := { program := "ytjhdjfobbgfpfaa", sum := "74a4150deb76967465524679541ce183459b331efb45e7eb532aca6f776a8cd9", func := "loop.example/pullstreams/laws.FnExactDrainAll", spec := "fnExactDrainAll", unfollowed := true, recurses := true, apart := false }
def FnExactDrainAllSaid : Prop := fnExactDrainAllRow.holds Try.pinned (OpenSpec.ofChange fnExactDrainAllSpec)

/-- ITS FALSE NEIGHBOUR: 'it returns false'. Refute it at one input. -/
def fnExactDrainAllWrong : ChangeSpec := { name := "fnExactDrainAll", fn := fun _ => fun
  | [d1, d2] => { results := [.lit (.bool false)], args := [d1, d2] }
  | _ => none }
def FnExactDrainAllWrongFalsely : Prop := fnExactDrainAllRow.holds Try.pinned (OpenSpec.ofChange fnExactDrainAllWrong)

/-- 'laws.FnExactIsEnded': WHATEVER THE INPUT: true; the input reads as it did. -/
def fnExactIsEndedSpec : ChangeSpec := { name := "fnExactIsEnded", fn := fun _ => fun
  | [d1, d2, d3] => { results := [.lit (.bool true)], args := [d1, d2, d3] }
  | _ => none }
def fnExactIsEndedRow : OpenClaim := { program := "ytjhdjfobbgfpfaa", sum := "74a4150deb76967465524679541ce183459b331efb45e7eb532aca6f776a8cd9", func := "loop.example/pullstreams/laws.FnExactIsEnded", spec := "fnExactIsEnded", unfollowed := true, recurses := true, apart := false }
def FnExactIsEndedSaid : Prop := fnExactIsEndedRow.holds Try.pinned (OpenSpec.ofChange fnExactIsEndedSpec)

/-- ITS FALSE NEIGHBOUR: 'it returns false'. Refute it at one input. -/
def fnExactIsEndedWrong : ChangeSpec := { name := "fnExactIsEnded", fn := fun _ => fun
  | [d1, d2, d3] => { results := [.lit (.bool false)], args := [d1, d2, d3] }
  | _ => none }
def FnExactIsEndedWrongFalsely : Prop := fnExactIsEndedRow.holds Try.pinned (OpenSpec.ofChange fnExactIsEndedWrong)

/-- 'laws.FnExactDoneNodes': WHATEVER THE INPUT: true; the input reads as it did. -/
def fnExactDoneNodesSpec : ChangeSpec := { name := "fnExactDoneNodes", fn := fun _ => fun
  | [d1, d2, d3] => { results := [.lit (.bool true)], args := [d1, d2, d3] }
  | _ => none }
def fnExactDoneNodesRow : OpenClaim := { program := "ytjhdjfobbgfpfaa", sum := "74a4150deb76967465524679541ce183459b331efb45e7eb532aca6f776a8cd9", func := "loop.example/pullstreams/laws.FnExactDoneNodes", spec := "fnExactDoneNodes", unfollowed := true, recurses := true, apart := false }
def FnExactDoneNodesSaid : Prop := fnExactDoneNodesRow.holds Try.pinned (OpenSpec.ofChange fnExactDoneNodesSpec)

/-- ITS FALSE NEIGHBOUR: 'it returns false'. Refute it at one input. -/
def fnExactDoneNodesWrong : ChangeSpec := { name := "fnExactDoneNodes", fn := fun _ => fun
  | [d1, d2, d3] => { results := [.lit (.bool false)], args := [d1, d2, d3] }
  | _ => none }
def FnExactDoneNodesWrongFalsely : Prop := fnExactDoneNodesRow.holds Try.pinned (OpenSpec.ofChange fnExactDoneNodesWrong)

/-- 'laws.FnExactCountsAfter': WHATEVER THE INPUT: true; the input reads as it did. -/
def fnExactCountsAfterSpec : ChangeSpec := { name := "fnExactCountsAfter", fn := fun _ => fun
  | [d1, d2, d3] => { results := [.lit (.bool true)], args := [d1, d2, d3] }
  | _ => none }
def fnExactCountsAfterRow : OpenClaim := { program := "ytjhdjfobbgfpfaa", sum := "74a4150deb76967465524679541ce183459b331efb45e7eb532aca6f776a8cd9", func := "loop.example/pullstreams/laws.FnExactCountsAfter", spec := "fnExactCountsAfter", inPlace := ["sync/atomic.LoadInt64", "sync/atomic.AddInt64"], unfollowed := true, recurses := true, apart := false }
def FnExactCountsAfterSaid : Prop := fnExactCountsAfterRow.holds Try.pinned (OpenSpec.ofChange fnExactCountsAfterSpec)

/-- ITS FALSE NEIGHBOUR: 'it returns false'. Refute it at one input. -/
def fnExactCountsAfterWrong : ChangeSpec := { name := "fnExactCountsAfter", fn := fun _ => fun
  | [d1, d2, d3] => { results := [.lit (.bool false)], args := [d1, d2, d3] }
  | _ => none }
def FnExactCountsAfterWrongFalsely : Prop := fnExactCountsAfterRow.holds Try.pinned (OpenSpec.ofChange fnExactCountsAfterWrong)

/-- 'laws.FnExactTotalPulls': WHATEVER THE INPUT: true; the input reads as it did. -/
def fnExactTotalPullsSpec : ChangeSpec := { name := "fnExactTotalPulls", fn := fun _ => fun
  | [d1, d2, d3] => { results := [.lit (.bool true)], args := [d1, d2, d3] }
  | _ => none }
def fnExactTotalPullsRow : OpenClaim := { program := "ytjhdjfobbgfpfaa", sum := "74a4150deb76967465524679541ce183459b331efb45e7eb532aca6f776a8cd9", func := "loop.example/pullstreams/laws.FnExactTotalPulls", spec := "fnExactTotalPulls", inPlace := ["sync/atomic.LoadInt64", "sync/atomic.AddInt64"], unfollowed := true, recurses := true, apart := false }
def FnExactTotalPullsSaid : Prop := fnExactTotalPullsRow.holds Try.pinned (OpenSpec.ofChange fnExactTotalPullsSpec)

/-- ITS FALSE NEIGHBOUR: 'it returns false'. Refute it at one input. -/
def fnExactTotalPullsWrong : ChangeSpec := { name := "fnExactTotalPulls", fn := fun _ => fun
  | [d1, d2, d3] => { results := [.lit (.bool false)], args := [d1, d2, d3] }
  | _ => none }
def FnExactTotalPullsWrongFalsely : Prop := fnExactTotalPullsRow.holds Try.pinned (OpenSpec.ofChange fnExactTotalPullsWrong)

/-- 'laws.FnExactReachedBy': WHATEVER THE INPUT: true; the input reads as it did. -/
def fnExactReachedBySpec : ChangeSpec := { name := "fnExactReachedBy", fn := fun _ => fun
  | [d1, d2, d3] => { results := [.lit (.bool true)], args := [d1, d2, d3] }
  | _ => none }
def fnExactReachedByRow : OpenClaim := { program := "ytjhdjfobbgfpfaa", sum := "74a4150deb76967465524679541ce183459b331efb45e7eb532aca6f776a8cd9", func := "loop.example/pullstreams/laws.FnExactReachedBy", spec := "fnExactReachedBy", inPlace := ["sync/atomic.LoadInt64", "sync/atomic.AddInt64"], unfollowed := true, recurses := true, apart := false }
def FnExactReachedBySaid : Prop := fnExactReachedByRow.holds Try.pinned (OpenSpec.ofChange fnExactReachedBySpec)

/-- ITS FALSE NEIGHBOUR: 'it returns false'. Refute it at one input. -/
def fnExactReachedByWrong : ChangeSpec := { name := "fnExactReachedBy", fn := fun _ => fun
  | [d1, d2, d3] => { results := [.lit (.bool false)], args := [d1, d2, d3] }
  | _ => none }
def FnExactReachedByWrongFalsely : Prop := fnExactReachedByRow.holds Try.pinned (OpenSpec.ofChange fnExactReachedByWrong)

/-- 'laws.FnExactCutSources': WHATEVER THE INPUT: true; the input reads as it did. -/
def fnExactCutSourcesSpec : ChangeSpec := { name := "fnExactCutSources", fn := fun _ => fun
  | [d1, d2] => { results := [.lit (.bool true)], args := [d1, d2] }
  | _ => none }
def fnExactCutSourcesRow : OpenClaim := { program := "ytjhdjfobbgfpfaa", sum := "74a4150deb76967465524679541ce183459b331efb45e7eb532aca6f776a8cd9", func := "loop.example/pullstreams/laws.FnExactCutSources", spec := "fnExactCutSources", apart := false }
def FnExactCutSourcesSaid : Prop := fnExactCutSourcesRow.holds Try.pinned (OpenSpec.ofChange fnExactCutSourcesSpec)

/-- ITS FALSE NEIGHBOUR: 'it returns false'. Refute it at one input. -/
def fnExactCutSourcesWrong : ChangeSpec := { name := "fnExactCutSources", fn := fun _ => fun
  | [d1, d2] => { results := [.lit (.bool false)], args := [d1, d2] }
  | _ => none }
def FnExactCutSourcesWrongFalsely : Prop := fnExactCutSourcesRow.holds Try.pinned (OpenSpec.ofChange fnExactCutSourcesWrong)

/-- 'laws.FnExactPullTable': WHATEVER THE INPUT: true; the input reads as it did. -/
def fnExactPullTableSpec : ChangeSpec := { name := "fnExactPullTable", fn := fun _ => fun
  | [d1, d2] => { results := [.lit (.bool true)], args := [d1, d2] }
  | _ => none }
def fnExactPullTableRow : OpenClaim := { program := "ytjhdjfobbgfpfaa", sum := "74a4150deb76967465524679541ce183459b331efb45e7eb532aca6f776a8cd9", func := "loop.example/pullstreams/laws.FnExactPullTable", spec := "fnExactPullTable", inPlace := ["sync/atomic.LoadInt64", "sync/atomic.AddInt64"], unfollowed := true, recurses := true, apart := false }
def FnExactPullTableSaid : Prop := fnExactPullTableRow.holds Try.pinned (OpenSpec.ofChange fnExactPullTableSpec)

/-- ITS FALSE NEIGHBOUR: 'it returns false'. Refute it at one input. -/
def fnExactPullTableWrong : ChangeSpec := { name := "fnExactPullTable", fn := fun _ => fun
  | [d1, d2] => { results := [.lit (.bool false)], args := [d1, d2] }
  | _ => none }
def FnExactPullTableWrongFalsely : Prop := fnExactPullTableRow.holds Try.pinned (OpenSpec.ofChange fnExactPullTableWrong)

/- THE SECOND FORM. 'bulk': how many values and letters a reading holds, each counted each time it is reached (what is shared counts as often as it is met; a slice's spare places count too). A statement '..UptoSaid' is the law's where the arguments, and the package variables that the reading takes, are together of bulk at most 1048576: NARROWER than '..Said'. Prove '..Said' where nothing that the law and all that it calls make is longer than what came in: it says more and counts as full. Else prove '..UptoSaid'. A law counts once. -/
mutual
def uptoBulk {H : Type} : DataW H → Nat
  | .lit (.string bytes) => bytes.length + 1
  | .lit _ => 1
  | .nil => 1
  | .ptr d => uptoBulk d + 1
  | .slice elems spare => uptoBulkAll elems + uptoBulkAll spare + 1
  | .agg parts => uptoBulkAll parts + 1
  | .iface _ d => uptoBulk d + 1
  | .map entries => uptoBulkEntries entries + 1
  | .held _ => 1
def uptoBulkAll {H : Type} : List (DataW H) → Nat
  | [] => 0
  | d :: r => uptoBulk d + uptoBulkAll r
def uptoBulkEntries {H : Type} : List (Lit × DataW H) → Nat
  | [] => 0
  | x :: r => uptoBulkEntry x + uptoBulkEntries r
def uptoBulkEntry {H : Type} : Lit × DataW H → Nat
  | (.string bytes, d) => bytes.length + uptoBulk d + 1
  | (_, d) => uptoBulk d + 1
 end
def uptoSmall : (H : Type) → List (DataW H) → Bool := fun _ ds => decide (uptoBulkAll ds ≤ 1048576)
def OpenSpec.upto (s : _root_.Go.ChangeSpec) : _root_.Go.OpenSpec := { _root_.Go.OpenSpec.ofChange s with cond := some uptoSmall }

/-- 'laws.FnExactFirstItems', WHERE WHAT IT READS IS OF BULK AT MOST 1048576: true; the input reads as it did. -/
def fnExactFirstItemsUptoRow : OpenClaim := { program := "ytjhdjfobbgfpfaa", sum := "74a4150deb76967465524679541ce183459b331efb45e7eb532aca6f776a8cd9", func := "loop.example/pullstreams/laws.FnExactFirstItems", spec := "fnExactFirstItems", unfollowed := true, recurses := true, apart := false, narrowed := true }
def FnExactFirstItemsUptoSaid : Prop := fnExactFirstItemsUptoRow.holds Try.pinned (OpenSpec.upto fnExactFirstItemsSpec)

/-- 'laws.FnExactStateAfter', WHERE WHAT IT READS IS OF BULK AT MOST 1048576: true; the input reads as it did. -/
def fnExactStateAfterUptoRow : OpenClaim := { program := "ytjhdjfobbgfpfaa", sum := "74a4150deb76967465524679541ce183459b331efb45e7eb532aca6f776a8cd9", func := "loop.example/pullstreams/laws.FnExactStateAfter", spec := "fnExactStateAfter", unfollowed := true, recurses := true, apart := false, narrowed := true }
def FnExactStateAfterUptoSaid : Prop := fnExactStateAfterUptoRow.holds Try.pinned (OpenSpec.upto fnExactStateAfterSpec)

/-- 'laws.FnExactPullsOf', WHERE WHAT IT READS IS OF BULK AT MOST 1048576: true; the input reads as it did. -/
def fnExactPullsOfUptoRow : OpenClaim := { program := "ytjhdjfobbgfpfaa", sum := "74a4150deb76967465524679541ce183459b331efb45e7eb532aca6f776a8cd9", func := "loop.example/pullstreams/laws.FnExactPullsOf", spec := "fnExactPullsOf", unfollowed := true, recurses := true, apart := false, narrowed := true }
def FnExactPullsOfUptoSaid : Prop := fnExactPullsOfUptoRow.holds Try.pinned (OpenSpec.upto fnExactPullsOfSpec)

/-- 'laws.FnExactDrainAll', WHERE WHAT IT READS IS OF BULK AT MOST 1048576: true; the input reads as it did. -/
def fnExactDrainAllUptoRow : OpenClaim := { program := "ytjhdjfobbgfpfaa", sum := "74a4150deb76967465524679541ce183459b331efb45e7eb532aca6f776a8cd9", func := "loop.example/pullstreams/laws.FnExactDrainAll", spec := "fnExactDrainAll", unfollowed := true, recurses := true, apart := false, narrowed := true }
def FnExactDrainAllUptoSaid : Prop := fnExactDrainAllUptoRow.holds Try.pinned (OpenSpec.upto fnExactDrainAllSpec)

/-- 'laws.FnExactIsEnded', WHERE WHAT IT READS IS OF BULK AT MOST 1048576: true; the input reads as it did. -/
def fnExactIsEndedUptoRow : OpenClaim := { program := "ytjhdjfobbgfpfaa", sum := "74a4150deb76967465524679541ce183459b331efb45e7eb532aca6f776a8cd9", func := "loop.example/pullstreams/laws.FnExactIsEnded", spec := "fnExactIsEnded", unfollowed := true, recurses := true, apart := false, narrowed := true }
def FnExactIsEndedUptoSaid : Prop := fnExactIsEndedUptoRow.holds Try.pinned (OpenSpec.upto fnExactIsEndedSpec)

/-- 'laws.FnExactDoneNodes', WHERE WHAT IT READS IS OF BULK AT MOST 1048576: true; the input reads as it did. -/
def fnExactDoneNodesUptoRow : OpenClaim := { program := "ytjhdjfobbgfpfaa", sum := "74a4150deb76967465524679541ce183459b331efb45e7eb532aca6f776a8cd9", func := "loop.example/pullstreams/laws.FnExactDoneNodes", spec := "fnExactDoneNodes", unfollowed := true, recurses := true, apart := false, narrowed := true }
def FnExactDoneNodesUptoSaid : Prop := fnExactDoneNodesUptoRow.holds Try.pinned (OpenSpec.upto fnExactDoneNodesSpec)

/-- 'laws.FnExactCountsAfter', WHERE WHAT IT READS IS OF BULK AT MOST 1048576: true; the input reads as it did. -/
def fnExactCountsAfterUptoRow : OpenClaim := { program := "ytjhdjfobbgfpfaa", sum := "74a4150deb76967465524679541ce183459b331efb45e7eb532aca6f776a8cd9", func := "loop.example/pullstreams/laws.FnExactCountsAfter", spec := "fnExactCountsAfter", inPlace := ["sync/atomic.LoadInt64", "sync/atomic.AddInt64"], unfollowed := true, recurses := true, apart := false, narrowed := true }
def FnExactCountsAfterUptoSaid : Prop := fnExactCountsAfterUptoRow.holds Try.pinned (OpenSpec.upto fnExactCountsAfterSpec)

/-- 'laws.FnExactTotalPulls', WHERE WHAT IT READS IS OF BULK AT MOST 1048576: true; the input reads as it did. -/
def fnExactTotalPullsUptoRow : OpenClaim := { program := "ytjhdjfobbgfpfaa", sum := "74a4150deb76967465524679541ce183459b331efb45e7eb532aca6f776a8cd9", func := "loop.example/pullstreams/laws.FnExactTotalPulls", spec := "fnExactTotalPulls", inPlace := ["sync/atomic.LoadInt64", "sync/atomic.AddInt64"], unfollowed := true, recurses := true, apart := false, narrowed := true }
def FnExactTotalPullsUptoSaid : Prop := fnExactTotalPullsUptoRow.holds Try.pinned (OpenSpec.upto fnExactTotalPullsSpec)

/-- 'laws.FnExactReachedBy', WHERE WHAT IT READS IS OF BULK AT MOST 1048576: true; the input reads as it did. -/
def fnExactReachedByUptoRow : OpenClaim := { program := "ytjhdjfobbgfpfaa", sum := "74a4150deb76967465524679541ce183459b331efb45e7eb532aca6f776a8cd9", func := "loop.example/pullstreams/laws.FnExactReachedBy", spec := "fnExactReachedBy", inPlace := ["sync/atomic.LoadInt64", "sync/atomic.AddInt64"], unfollowed := true, recurses := true, apart := false, narrowed := true }
def FnExactReachedByUptoSaid : Prop := fnExactReachedByUptoRow.holds Try.pinned (OpenSpec.upto fnExactReachedBySpec)

/-- 'laws.FnExactCutSources', WHERE WHAT IT READS IS OF BULK AT MOST 1048576: true; the input reads as it did. -/
def fnExactCutSourcesUptoRow : OpenClaim := { program := "ytjhdjfobbgfpfaa", sum := "74a4150deb76967465524679541ce183459b331efb45e7eb532aca6f776a8cd9", func := "loop.example/pullstreams/laws.FnExactCutSources", spec := "fnExactCutSources", apart := false, narrowed := true }
def FnExactCutSourcesUptoSaid : Prop := fnExactCutSourcesUptoRow.holds Try.pinned (OpenSpec.upto fnExactCutSourcesSpec)

/-- 'laws.FnExactPullTable', WHERE WHAT IT READS IS OF BULK AT MOST 1048576: true; the input reads as it did. -/
def fnExactPullTableUptoRow : OpenClaim := { program := "ytjhdjfobbgfpfaa", sum := "74a4150deb76967465524679541ce183459b331efb45e7eb532aca6f776a8cd9", func := "loop.example/pullstreams/laws.FnExactPullTable", spec := "fnExactPullTable", inPlace := ["sync/atomic.LoadInt64", "sync/atomic.AddInt64"], unfollowed := true, recurses := true, apart := false, narrowed := true }
def FnExactPullTableUptoSaid : Prop := fnExactPullTableUptoRow.holds Try.pinned (OpenSpec.upto fnExactPullTableSpec)

end Rows
end Go.Proofs.Ytjhdjfobbgfpfaa
