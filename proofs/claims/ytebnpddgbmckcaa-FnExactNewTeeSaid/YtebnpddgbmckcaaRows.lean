/-
  No cell of these rows narrows 'for every input' (looked for: loops, veiled, ifaces, maps, wideKeys, modest, calm, conditions, laid).
  DERIVED. THE GIVEN ROWS OF THIS SEAT. 12 by the template 'for every input the law returns true; each argument reads behind the call as it read before'; 0 by the template 'total and deterministic' (their statements: YtebnpddgbmckcaaTotals.lean).
  GIVEN WITH THE SEED: the statements are not yours to turn. If you find one false, say at which input.
  Laid BY PROGRAM, IN A SANDBOX (cutbox-rows.mjs): the forced cells as the released guide's own fill.sh prints them over the translation 68e79ec97e258ac8… (all of the seat's roots in one cut). By AI agents, Wed Nov 11 2026. No macro, syntax, notation, axiom, sorry.
-/
import Derived.Test.YtebnpddgbmckcaaChecked
import GoSem.Claim
import GoSem.ClaimJoined
import GoSem.ClaimMapViews
import Derived.JoinedTies
import Derived.KernelRfl
namespace Go.Proofs.Ytebnpddgbmckcaa
/- THE CELL 'sum', in the pinned program and in every row, IS THE sha256 OF THE DUMP (.gsa) THAT YtebnpddgbmckcaaProg.lean LOADS. Nothing in Lean hashes anything: it is a label: what it is worth is what the hold of that sum in a sandbox is worth. -/
noncomputable def Try.pinned : Pinned := { name := "ytebnpddgbmckcaa", sum := "68e79ec97e258ac83eb867926ad368a97ee2c8d358ed5d15bdf4b05c30a42b9a", checked := Try.checked }
namespace Rows
def none {H : Type} : Left H := { results := [], args := [] }

/-- 'laws.FnNewTee': WHATEVER THE INPUT: true; the input reads as it did. -/
def fnNewTeeSpec : ChangeSpec := { name := "fnNewTee", fn := fun _ => fun
  | [d] => { results := [.lit (.bool true)], args := [d] }
  | _ => none }
def fnNewTeeRow : OpenClaim := { program := "ytebnpddgbmckcaa", sum := "68e79ec97e258ac83eb867926ad368a97ee2c8d358ed5d15bdf4b05c30a42b9a", func := "loop.example/pullstreams/laws.FnNewTee", spec := "fnNewTee", apart := false }
def FnNewTeeSaid : Prop := fnNewTeeRow.holds Try.pinned (OpenSpec.ofChange fnNewTeeSpec)

/-- ITS FALSE NEIGHBOUR: 'it returns false'. Refute it at one input. -/
def fnNewTeeWrong : ChangeSpec := { name := "fnNewTee", fn := fun _ => fun
  | [d] => { results := [.lit (.bool false)], args := [d] }
  | _ => none }
def FnNewTeeWrongFalsely : Prop := fnNewTeeRow.holds Try.pinned (OpenSpec.ofChange fnNewTeeWrong)

/-- 'laws.FnFairTurns': WHATEVER THE INPUT: true; the input reads as it did. -/
def fnFairTurnsSpec : ChangeSpec := { name := "fnFairTurns", fn := fun _ => fun
  | [d] => { results := [.lit (.bool true)], args := [d] }
  | _ => none }
def fnFairTurnsRow : OpenClaim := { program := "ytebnpddgbmckcaa", sum := "68e79ec97e258ac83eb867926ad368a97ee2c8d358ed5d15bdf4b05c30a42b9a", func := "loop.example/pullstreams/laws.FnFairTurns", spec := "fnFairTurns", apart := false }
def FnFairTurnsSaid : Prop := fnFairTurnsRow.holds Try.pinned (OpenSpec.ofChange fnFairTurnsSpec)

/-- ITS FALSE NEIGHBOUR: 'it returns false'. Refute it at one input. -/
def fnFairTurnsWrong : ChangeSpec := { name := "fnFairTurns", fn := fun _ => fun
  | [d] => { results := [.lit (.bool false)], args := [d] }
  | _ => none }
def FnFairTurnsWrongFalsely : Prop := fnFairTurnsRow.holds Try.pinned (OpenSpec.ofChange fnFairTurnsWrong)

/-- 'laws.FnExactValidTee': WHATEVER THE INPUT: true; the input reads as it did. -/
def fnExactValidTeeSpec : ChangeSpec := { name := "fnExactValidTee", fn := fun _ => fun
  | [d] => { results := [.lit (.bool true)], args := [d] }
  | _ => none }
def fnExactValidTeeRow : OpenClaim := { program := "ytebnpddgbmckcaa", sum := "68e79ec97e258ac83eb867926ad368a97ee2c8d358ed5d15bdf4b05c30a42b9a", func := "loop.example/pullstreams/laws.FnExactValidTee", spec := "fnExactValidTee", apart := false }
def FnExactValidTeeSaid : Prop := fnExactValidTeeRow.holds Try.pinned (OpenSpec.ofChange fnExactValidTeeSpec)

/-- ITS FALSE NEIGHBOUR: 'it returns false'. Refute it at one input. -/
def fnExactValidTeeWrong : ChangeSpec := { name := "fnExactValidTee", fn := fun _ => fun
  | [d] => { results := [.lit (.bool false)], args := [d] }
  | _ => none }
def FnExactValidTeeWrongFalsely : Prop := fnExactValidTeeRow.holds Try.pinned (OpenSpec.ofChange fnExactValidTeeWrong)

/-- 'laws.FnExactNewTee': WHATEVER THE INPUT: true; the input reads as it did. -/
def fnExactNewTeeSpec : ChangeSpec := { name := "fnExactNewTee", fn := fun _ => fun
  | [d1, d2] => { results := [.lit (.bool true)], args := [d1, d2] }
  | _ => none }
def fnExactNewTeeRow : OpenClaim := { program := "ytebnpddgbmckcaa", sum := "68e79ec97e258ac83eb867926ad368a97ee2c8d358ed5d15bdf4b05c30a42b9a", func := "loop.example/pullstreams/laws.FnExactNewTee", spec := "fnExactNewTee", apart := false }
def FnExactNewTeeSaid : Prop := fnExactNewTeeRow.holds Try.pinned (OpenSpec.ofChange fnExactNewTeeSpec)

/-- ITS FALSE NEIGHBOUR: 'it returns false'. Refute it at one input. -/
def fnExactNewTeeWrong : ChangeSpec := { name := "fnExactNewTee", fn := fun _ => fun
  | [d1, d2] => { results := [.lit (.bool false)], args := [d1, d2] }
  | _ => none }
def FnExactNewTeeWrongFalsely : Prop := fnExactNewTeeRow.holds Try.pinned (OpenSpec.ofChange fnExactNewTeeWrong)

/-- 'laws.FnExactReadTee': WHATEVER THE INPUT: true; the input reads as it did. -/
def fnExactReadTeeSpec : ChangeSpec := { name := "fnExactReadTee", fn := fun _ => fun
  | [d1, d2] => { results := [.lit (.bool true)], args := [d1, d2] }
  | _ => none }
def fnExactReadTeeRow : OpenClaim := { program := "ytebnpddgbmckcaa", sum := "68e79ec97e258ac83eb867926ad368a97ee2c8d358ed5d15bdf4b05c30a42b9a", func := "loop.example/pullstreams/laws.FnExactReadTee", spec := "fnExactReadTee", apart := false }
def FnExactReadTeeSaid : Prop := fnExactReadTeeRow.holds Try.pinned (OpenSpec.ofChange fnExactReadTeeSpec)

/-- ITS FALSE NEIGHBOUR: 'it returns false'. Refute it at one input. -/
def fnExactReadTeeWrong : ChangeSpec := { name := "fnExactReadTee", fn := fun _ => fun
  | [d1, d2] => { results := [.lit (.bool false)], args := [d1, d2] }
  | _ => none }
def FnExactReadTeeWrongFalsely : Prop := fnExactReadTeeRow.holds Try.pinned (OpenSpec.ofChange fnExactReadTeeWrong)

/-- 'laws.FnExactHeldItems': WHATEVER THE INPUT: true; the input reads as it did. -/
def fnExactHeldItemsSpec : ChangeSpec := { name := "fnExactHeldItems", fn := fun _ => fun
  | [d] => { results := [.lit (.bool true)], args := [d] }
  | _ => none }
def fnExactHeldItemsRow : OpenClaim := { program := "ytebnpddgbmckcaa", sum := "68e79ec97e258ac83eb867926ad368a97ee2c8d358ed5d15bdf4b05c30a42b9a", func := "loop.example/pullstreams/laws.FnExactHeldItems", spec := "fnExactHeldItems", apart := false }
def FnExactHeldItemsSaid : Prop := fnExactHeldItemsRow.holds Try.pinned (OpenSpec.ofChange fnExactHeldItemsSpec)

/-- ITS FALSE NEIGHBOUR: 'it returns false'. Refute it at one input. -/
def fnExactHeldItemsWrong : ChangeSpec := { name := "fnExactHeldItems", fn := fun _ => fun
  | [d] => { results := [.lit (.bool false)], args := [d] }
  | _ => none }
def FnExactHeldItemsWrongFalsely : Prop := fnExactHeldItemsRow.holds Try.pinned (OpenSpec.ofChange fnExactHeldItemsWrong)

/-- 'laws.FnExactCloseReader': WHATEVER THE INPUT: true; the input reads as it did. -/
def fnExactCloseReaderSpec : ChangeSpec := { name := "fnExactCloseReader", fn := fun _ => fun
  | [d1, d2] => { results := [.lit (.bool true)], args := [d1, d2] }
  | _ => none }
def fnExactCloseReaderRow : OpenClaim := { program := "ytebnpddgbmckcaa", sum := "68e79ec97e258ac83eb867926ad368a97ee2c8d358ed5d15bdf4b05c30a42b9a", func := "loop.example/pullstreams/laws.FnExactCloseReader", spec := "fnExactCloseReader", apart := false }
def FnExactCloseReaderSaid : Prop := fnExactCloseReaderRow.holds Try.pinned (OpenSpec.ofChange fnExactCloseReaderSpec)

/-- ITS FALSE NEIGHBOUR: 'it returns false'. Refute it at one input. -/
def fnExactCloseReaderWrong : ChangeSpec := { name := "fnExactCloseReader", fn := fun _ => fun
  | [d1, d2] => { results := [.lit (.bool false)], args := [d1, d2] }
  | _ => none }
def FnExactCloseReaderWrongFalsely : Prop := fnExactCloseReaderRow.holds Try.pinned (OpenSpec.ofChange fnExactCloseReaderWrong)

/-- 'laws.FnExactRunTee': WHATEVER THE INPUT: true; the input reads as it did. -/
def fnExactRunTeeSpec : ChangeSpec := { name := "fnExactRunTee", fn := fun _ => fun
  | [d1, d2, d3] => { results := [.lit (.bool true)], args := [d1, d2, d3] }
  | _ => none }
def fnExactRunTeeRow : OpenClaim := { program := "ytebnpddgbmckcaa", sum := "68e79ec97e258ac83eb867926ad368a97ee2c8d358ed5d15bdf4b05c30a42b9a", func := "loop.example/pullstreams/laws.FnExactRunTee", spec := "fnExactRunTee", apart := false }
def FnExactRunTeeSaid : Prop := fnExactRunTeeRow.holds Try.pinned (OpenSpec.ofChange fnExactRunTeeSpec)

/-- ITS FALSE NEIGHBOUR: 'it returns false'. Refute it at one input. -/
def fnExactRunTeeWrong : ChangeSpec := { name := "fnExactRunTee", fn := fun _ => fun
  | [d1, d2, d3] => { results := [.lit (.bool false)], args := [d1, d2, d3] }
  | _ => none }
def FnExactRunTeeWrongFalsely : Prop := fnExactRunTeeRow.holds Try.pinned (OpenSpec.ofChange fnExactRunTeeWrong)

/-- 'laws.FnExactTeeAfter': WHATEVER THE INPUT: true; the input reads as it did. -/
def fnExactTeeAfterSpec : ChangeSpec := { name := "fnExactTeeAfter", fn := fun _ => fun
  | [d1, d2, d3] => { results := [.lit (.bool true)], args := [d1, d2, d3] }
  | _ => none }
def fnExactTeeAfterRow : OpenClaim := { program := "ytebnpddgbmckcaa", sum := "68e79ec97e258ac83eb867926ad368a97ee2c8d358ed5d15bdf4b05c30a42b9a", func := "loop.example/pullstreams/laws.FnExactTeeAfter", spec := "fnExactTeeAfter", apart := false }
def FnExactTeeAfterSaid : Prop := fnExactTeeAfterRow.holds Try.pinned (OpenSpec.ofChange fnExactTeeAfterSpec)

/-- ITS FALSE NEIGHBOUR: 'it returns false'. Refute it at one input. -/
def fnExactTeeAfterWrong : ChangeSpec := { name := "fnExactTeeAfter", fn := fun _ => fun
  | [d1, d2, d3] => { results := [.lit (.bool false)], args := [d1, d2, d3] }
  | _ => none }
def FnExactTeeAfterWrongFalsely : Prop := fnExactTeeAfterRow.holds Try.pinned (OpenSpec.ofChange fnExactTeeAfterWrong)

/-- 'laws.FnExactMostHeld': WHATEVER THE INPUT: true; the input reads as it did. -/
def fnExactMostHeldSpec : ChangeSpec := { name := "fnExactMostHeld", fn := fun _ => fun
  | [d1, d2, d3] => { results := [.lit (.bool true)], args := [d1, d2, d3] }
  | _ => none }
def fnExactMostHeldRow : OpenClaim := { program := "ytebnpddgbmckcaa", sum := "68e79ec97e258ac83eb867926ad368a97ee2c8d358ed5d15bdf4b05c30a42b9a", func := "loop.example/pullstreams/laws.FnExactMostHeld", spec := "fnExactMostHeld", apart := false }
def FnExactMostHeldSaid : Prop := fnExactMostHeldRow.holds Try.pinned (OpenSpec.ofChange fnExactMostHeldSpec)

/-- ITS FALSE NEIGHBOUR: 'it returns false'. Refute it at one input. -/
def fnExactMostHeldWrong : ChangeSpec := { name := "fnExactMostHeld", fn := fun _ => fun
  | [d1, d2, d3] => { results := [.lit (.bool false)], args := [d1, d2, d3] }
  | _ => none }
def FnExactMostHeldWrongFalsely : Prop := fnExactMostHeldRow.holds Try.pinned (OpenSpec.ofChange fnExactMostHeldWrong)

/-- 'laws.FnExactReadBy': WHATEVER THE INPUT: true; the input reads as it did. -/
def fnExactReadBySpec : ChangeSpec := { name := "fnExactReadBy", fn := fun _ => fun
  | [d1, d2, d3, d4] => { results := [.lit (.bool true)], args := [d1, d2, d3, d4] }
  | _ => none }
def fnExactReadByRow : OpenClaim := { program := "ytebnpddgbmckcaa", sum := "68e79ec97e258ac83eb867926ad368a97ee2c8d358ed5d15bdf4b05c30a42b9a", func := "loop.example/pullstreams/laws.FnExactReadBy", spec := "fnExactReadBy", apart := false }
def FnExactReadBySaid : Prop := fnExactReadByRow.holds Try.pinned (OpenSpec.ofChange fnExactReadBySpec)

/-- ITS FALSE NEIGHBOUR: 'it returns false'. Refute it at one input. -/
def fnExactReadByWrong : ChangeSpec := { name := "fnExactReadBy", fn := fun _ => fun
  | [d1, d2, d3, d4] => { results := [.lit (.bool false)], args := [d1, d2, d3, d4] }
  | _ => none }
def FnExactReadByWrongFalsely : Prop := fnExactReadByRow.holds Try.pinned (OpenSpec.ofChange fnExactReadByWrong)

/-- 'laws.FnExactFairTurns': WHATEVER THE INPUT: true; the input reads as it did. -/
def fnExactFairTurnsSpec : ChangeSpec := { name := "fnExactFairTurns", fn := fun _ => fun
  | [d1, d2] => { results := [.lit (.bool true)], args := [d1, d2] }
  | _ => none }
def fnExactFairTurnsRow : OpenClaim := { program := "ytebnpddgbmckcaa", sum := "68e79ec97e258ac83eb867926ad368a97ee2c8d358ed5d15bdf4b05c30a42b9a", func := "loop.example/pullstreams/laws.FnExactFairTurns", spec := "fnExactFairTurns", apart := false }
def FnExactFairTurnsSaid : Prop := fnExactFairTurnsRow.holds Try.pinned (OpenSpec.ofChange fnExactFairTurnsSpec)

/-- ITS FALSE NEIGHBOUR: 'it returns false'. Refute it at one input. -/
def fnExactFairTurnsWrong : ChangeSpec := { name := "fnExactFairTurns", fn := fun _ => fun
  | [d1, d2] => { results := [.lit (.bool false)], args := [d1, d2] }
  | _ => none }
def FnExactFairTurnsWrongFalsely : Prop := fnExactFairTurnsRow.holds Try.pinned (OpenSpec.ofChange fnExactFairTurnsWrong)

/- THE SECOND FORM. 'bulk': how many values and letters a reading holds, each counted each time it is reached (what is shared counts as often as it is met; a slice's spare places count too). A statement '..UptoSaid' is the law's where the arguments, and the package variables that the reading takes, are together of bulk at most 1048576: NARROWER than '..Said'. Prove '..Said' where nothing that the law and all that it calls make is longer than what came in: it says more and counts as full. Else prove '..UptoSaid'. A law counts once. -/
mutual
def uptoBulk {H : Type} : DataW H → Nat
  | .lit (.string bytes) => bytes.length + 1
  | .lit _ => 1
  | .nil => 1
  | .ptr d => uptoBulk d + 1
  | .slice elems spare => uptoBulkAll elems + uptoBulkAll spare + 1
  | .agg parts => uptoBulkAll parts + 1
  | .iface _ d => uptoBulk d + 1
  | .map entries => uptoBulkEntries entries + 1
  | .held _ => 1
def uptoBulkAll {H : Type} : List (DataW H) → Nat
  | [] => 0
  | d :: r => uptoBulk d + uptoBulkAll r
def uptoBulkEntries {H : Type} : List (Lit × DataW H) → Nat
  | [] => 0
  | x :: r => uptoBulkEntry x + uptoBulkEntries r
def uptoBulkEntry {H : Type} : Lit × DataW H → Nat
  | (.string bytes, d) => bytes.length + uptoBulk d + 1
  | (_, d) => uptoBulk d + 1
 end
def uptoSmall : (H : Type) → List (DataW H) → Bool := fun _ ds => decide (uptoBulkAll ds ≤ 1048576)
def OpenSpec.upto (s : _root_.Go.ChangeSpec) : _root_.Go.OpenSpec := { _root_.Go.OpenSpec.ofChange s with cond := some uptoSmall }

/-- 'laws.FnNewTee', WHERE WHAT IT READS IS OF BULK AT MOST 1048576: true; the input reads as it did. -/
def fnNewTeeUptoRow : OpenClaim := { program := "ytebnpddgbmckcaa", sum := "68e79ec97e258ac83eb867926ad368a97ee2c8d358ed5d15bdf4b05c30a42b9a", func := "loop.example/pullstreams/laws.FnNewTee", spec := "fnNewTee", apart := false, narrowed := true }
def FnNewTeeUptoSaid : Prop := fnNewTeeUptoRow.holds Try.pinned (OpenSpec.upto fnNewTeeSpec)

/-- 'laws.FnFairTurns', WHERE WHAT IT READS IS OF BULK AT MOST 1048576: true; the input reads as it did. -/
def fnFairTurnsUptoRow : OpenClaim := { program := "ytebnpddgbmckcaa", sum := "68e79ec97e258ac83eb867926ad368a97ee2c8d358ed5d15bdf4b05c30a42b9a", func := "loop.example/pullstreams/laws.FnFairTurns", spec := "fnFairTurns", apart := false, narrowed := true }
def FnFairTurnsUptoSaid : Prop := fnFairTurnsUptoRow.holds Try.pinned (OpenSpec.upto fnFairTurnsSpec)

/-- 'laws.FnExactValidTee', WHERE WHAT IT READS IS OF BULK AT MOST 1048576: true; the input reads as it did. -/
def fnExactValidTeeUptoRow : OpenClaim := { program := "ytebnpddgbmckcaa", sum := "68e79ec97e258ac83eb867926ad368a97ee2c8d358ed5d15bdf4b05c30a42b9a", func := "loop.example/pullstreams/laws.FnExactValidTee", spec := "fnExactValidTee", apart := false, narrowed := true }
def FnExactValidTeeUptoSaid : Prop := fnExactValidTeeUptoRow.holds Try.pinned (OpenSpec.upto fnExactValidTeeSpec)

/-- 'laws.FnExactNewTee', WHERE WHAT IT READS IS OF BULK AT MOST 1048576: true; the input reads as it did. -/
def fnExactNewTeeUptoRow : OpenClaim := { program := "ytebnpddgbmckcaa", sum := "68e79ec97e258ac83eb867926ad368a97ee2c8d358ed5d15bdf4b05c30a42b9a", func := "loop.example/pullstreams/laws.FnExactNewTee", spec := "fnExactNewTee", apart := false, narrowed := true }
def FnExactNewTeeUptoSaid : Prop := fnExactNewTeeUptoRow.holds Try.pinned (OpenSpec.upto fnExactNewTeeSpec)

/-- 'laws.FnExactReadTee', WHERE WHAT IT READS IS OF BULK AT MOST 1048576: true; the input reads as it did. -/
def fnExactReadTeeUptoRow : OpenClaim := { program := "ytebnpddgbmckcaa", sum := "68e79ec97e258ac83eb867926ad368a97ee2c8d358ed5d15bdf4b05c30a42b9a", func := "loop.example/pullstreams/laws.FnExactReadTee", spec := "fnExactReadTee", apart := false, narrowed := true }
def FnExactReadTeeUptoSaid : Prop := fnExactReadTeeUptoRow.holds Try.pinned (OpenSpec.upto fnExactReadTeeSpec)

/-- 'laws.FnExactHeldItems', WHERE WHAT IT READS IS OF BULK AT MOST 1048576: true; the input reads as it did. -/
def fnExactHeldItemsUptoRow : OpenClaim := { program := "ytebnpddgbmckcaa", sum := "68e79ec97e258ac83eb867926ad368a97ee2c8d358ed5d15bdf4b05c30a42b9a", func := "loop.example/pullstreams/laws.FnExactHeldItems", spec := "fnExactHeldItems", apart := false, narrowed := true }
def FnExactHeldItemsUptoSaid : Prop := fnExactHeldItemsUptoRow.holds Try.pinned (OpenSpec.upto fnExactHeldItemsSpec)

/-- 'laws.FnExactCloseReader', WHERE WHAT IT READS IS OF BULK AT MOST 1048576: true; the input reads as it did. -/
def fnExactCloseReaderUptoRow : OpenClaim := { program := "ytebnpddgbmckcaa", sum := "68e79ec97e258ac83eb867926ad368a97ee2c8d358ed5d15bdf4b05c30a42b9a", func := "loop.example/pullstreams/laws.FnExactCloseReader", spec := "fnExactCloseReader", apart := false, narrowed := true }
def FnExactCloseReaderUptoSaid : Prop := fnExactCloseReaderUptoRow.holds Try.pinned (OpenSpec.upto fnExactCloseReaderSpec)

/-- 'laws.FnExactRunTee', WHERE WHAT IT READS IS OF BULK AT MOST 1048576: true; the input reads as it did. -/
def fnExactRunTeeUptoRow : OpenClaim := { program := "ytebnpddgbmckcaa", sum := "68e79ec97e258ac83eb867926ad368a97ee2c8d358ed5d15bdf4b05c30a42b9a", func := "loop.example/pullstreams/laws.FnExactRunTee", spec := "fnExactRunTee", apart := false, narrowed := true }
def FnExactRunTeeUptoSaid : Prop := fnExactRunTeeUptoRow.holds Try.pinned (OpenSpec.upto fnExactRunTeeSpec)

/-- 'laws.FnExactTeeAfter', WHERE WHAT IT READS IS OF BULK AT MOST 1048576: true; the input reads as it did. -/
def fnExactTeeAfterUptoRow : OpenClaim := { program := "ytebnpddgbmckcaa", sum := "68e79ec97e258ac83eb867926ad368a97ee2c8d358ed5d15bdf4b05c30a42b9a", func := "loop.example/pullstreams/laws.FnExactTeeAfter", spec := "fnExactTeeAfter", apart := false, narrowed := true }
def FnExactTeeAfterUptoSaid : Prop := fnExactTeeAfterUptoRow.holds Try.pinned (OpenSpec.upto fnExactTeeAfterSpec)

/-- 'laws.FnExactMostHeld', WHERE WHAT IT READS IS OF BULK AT MOST 1048576: true; the input reads as it did. -/
def fnExactMostHeldUptoRow : OpenClaim := { program := "ytebnpddgbmckcaa", sum := "68e79ec97e258ac83eb867926ad368a97ee2c8d358ed5d15bdf4b05c30a42b9a", func := "loop.example/pullstreams/laws.FnExactMostHeld", spec := "fnExactMostHeld", apart := false, narrowed := true }
def FnExactMostHeldUptoSaid : Prop := fnExactMostHeldUptoRow.holds Try.pinned (OpenSpec.upto fnExactMostHeldSpec)

/-- 'laws.FnExactReadBy', WHERE WHAT IT READS IS OF BULK AT MOST 1048576: true; the input reads as it did. -/
def fnExactReadByUptoRow : OpenClaim := { program := "ytebnpddgbmckcaa", sum := "68e79ec97e258ac83eb867926ad368a97ee2c8d358ed5d15bdf4b05c30a42b9a", func := "loop.example/pullstreams/laws.FnExactReadBy", spec := "fnExactReadBy", apart := false, narrowed := true }
def FnExactReadByUptoSaid : Prop := fnExactReadByUptoRow.holds Try.pinned (OpenSpec.upto fnExactReadBySpec)

/-- 'laws.FnExactFairTurns', WHERE WHAT IT READS IS OF BULK AT MOST 1048576: true; the input reads as it did. -/
def fnExactFairTurnsUptoRow : OpenClaim := { program := "ytebnpddgbmckcaa", sum := "68e79ec97e258ac83eb867926ad368a97ee2c8d358ed5d15bdf4b05c30a42b9a", func := "loop.example/pullstreams/laws.FnExactFairTurns", spec := "fnExactFairTurns", apart := false, narrowed := true }
def FnExactFairTurnsUptoSaid : Prop := fnExactFairTurnsUptoRow.holds Try.pinned (OpenSpec.upto fnExactFairTurnsSpec)

end Rows
end Go.Proofs.Ytebnpddgbmckcaa
