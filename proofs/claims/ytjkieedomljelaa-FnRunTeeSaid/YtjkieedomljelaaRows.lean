/-
  No cell of these rows narrows 'for every input' (looked for: loops, veiled, ifaces, maps, wideKeys, modest, calm, conditions, laid).
  DERIVED. THE GIVEN ROWS OF THIS SEAT. 14 by the template 'for every input the law returns true; each argument reads behind the call as it read before'; 0 by the template 'total and deterministic' (their statements: YtjkieedomljelaaTotals.lean).
  GIVEN WITH THE SEED: the statements are not yours to turn. If you find one false, say at which input.
  Laid BY PROGRAM, IN A SANDBOX (cutbox-rows.mjs): the forced cells as the released guide's own fill.sh prints them over the translation 07744b152b7d5470… (all of the seat's roots in one cut). By AI agents, Wed Nov 11 2026. No macro, syntax, notation, axiom, sorry.
-/
import Derived.Test.YtjkieedomljelaaChecked
import GoSem.Claim
import GoSem.ClaimJoined
import GoSem.ClaimMapViews
import Derived.JoinedTies
import Derived.KernelRfl
namespace Go.Proofs.Ytjkieedomljelaa
/- THE CELL 'sum', in the pinned program and in every row, IS THE sha256 OF THE DUMP (.gsa) THAT YtjkieedomljelaaProg.lean LOADS. Nothing in Lean hashes anything: it is a label: what it is worth is what the hold of that sum in a sandbox is worth. -/
noncomputable def Try.pinned : Pinned := { name := "ytjkieedomljelaa", sum := "07744b152b7d5470c265a0f6c6c260aaf04d0c3726bb127df3b34fc01e47e53d", checked := Try.checked }
namespace Rows
def none {H : Type} : Left H := { results := [], args := [] }

/-- 'laws.FnExactReadTee': WHATEVER THE INPUT: true; the input reads as it did. -/
def fnExactReadTeeSpec : ChangeSpec := { name := "fnExactReadTee", fn := fun _ => fun
  | [d1, d2] => { results := [.lit (.bool true)], args := [d1, d2] }
  | _ => none }
def fnExactReadTeeRow : OpenClaim := { program := "ytjkieedomljelaa", sum := "07744b152b7d5470c265a0f6c6c260aaf04d0c3726bb127df3b34fc01e47e53d", func := "loop.example/pullstreams/laws.FnExactReadTee", spec := "fnExactReadTee", apart := false }
def FnExactReadTeeSaid : Prop := fnExactReadTeeRow.holds Try.pinned (OpenSpec.ofChange fnExactReadTeeSpec)

/-- ITS FALSE NEIGHBOUR: 'it returns false'. Refute it at one input. -/
def fnExactReadTeeWrong : ChangeSpec := { name := "fnExactReadTee", fn := fun _ => fun
  | [d1, d2] => { results := [.lit (.bool false)], args := [d1, d2] }
  | _ => none }
def FnExactReadTeeWrongFalsely : Prop := fnExactReadTeeRow.holds Try.pinned (OpenSpec.ofChange fnExactReadTeeWrong)

/-- 'laws.FnExactRunTee': WHATEVER THE INPUT: true; the input reads as it did. -/
def fnExactRunTeeSpec : ChangeSpec := { name := "fnExactRunTee", fn := fun _ => fun
  | [d1, d2, d3] => { results := [.lit (.bool true)], args := [d1, d2, d3] }
  | _ => none }
def fnExactRunTeeRow : OpenClaim := { program := "ytjkieedomljelaa", sum := "07744b152b7d5470c265a0f6c6c260aaf04d0c3726bb127df3b34fc01e47e53d", func := "loop.example/pullstreams/laws.FnExactRunTee", spec := "fnExactRunTee", apart := false }
def FnExactRunTeeSaid : Prop := fnExactRunTeeRow.holds Try.pinned (OpenSpec.ofChange fnExactRunTeeSpec)

/-- ITS FALSE NEIGHBOUR: 'it returns false'. Refute it at one input. -/
def fnExactRunTeeWrong : ChangeSpec := { name := "fnExactRunTee", fn := fun _ => fun
  | [d1, d2, d3] => { results := [.lit (.bool false)], args := [d1, d2, d3] }
  | _ => none }
def FnExactRunTeeWrongFalsely : Prop := fnExactRunTeeRow.holds Try.pinned (OpenSpec.ofChange fnExactRunTeeWrong)

/-- 'laws.FnExactTeeAfter': WHATEVER THE INPUT: true; the input reads as it did. -/
def fnExactTeeAfterSpec : ChangeSpec := { name := "fnExactTeeAfter", fn := fun _ => fun
  | [d1, d2, d3] => { results := [.lit (.bool true)], args := [d1, d2, d3] }
  | _ => none }
def fnExactTeeAfterRow : OpenClaim := { program := "ytjkieedomljelaa", sum := "07744b152b7d5470c265a0f6c6c260aaf04d0c3726bb127df3b34fc01e47e53d", func := "loop.example/pullstreams/laws.FnExactTeeAfter", spec := "fnExactTeeAfter", apart := false }
def FnExactTeeAfterSaid : Prop := fnExactTeeAfterRow.holds Try.pinned (OpenSpec.ofChange fnExactTeeAfterSpec)

/-- ITS FALSE NEIGHBOUR: 'it returns false'. Refute it at one input. -/
def fnExactTeeAfterWrong : ChangeSpec := { name := "fnExactTeeAfter", fn := fun _ => fun
  | [d1, d2, d3] => { results := [.lit (.bool false)], args := [d1, d2, d3] }
  | _ => none }
def FnExactTeeAfterWrongFalsely : Prop := fnExactTeeAfterRow.holds Try.pinned (OpenSpec.ofChange fnExactTeeAfterWrong)

/-- 'laws.FnExactMostHeld': WHATEVER THE INPUT: true; the input reads as it did. -/
def fnExactMostHeldSpec : ChangeSpec := { name := "fnExactMostHeld", fn := fun _ => fun
  | [d1, d2, d3] => { results := [.lit (.bool true)], args := [d1, d2, d3] }
  | _ => none }
def fnExactMostHeldRow : OpenClaim := { program := "ytjkieedomljelaa", sum := "07744b152b7d5470c265a0f6c6c260aaf04d0c3726bb127df3b34fc01e47e53d", func := "loop.example/pullstreams/laws.FnExactMostHeld", spec := "fnExactMostHeld", apart := false }
def FnExactMostHeldSaid : Prop := fnExactMostHeldRow.holds Try.pinned (OpenSpec.ofChange fnExactMostHeldSpec)

/-- ITS FALSE NEIGHBOUR: 'it returns false'. Refute it at one input. -/
def fnExactMostHeldWrong : ChangeSpec := { name := "fnExactMostHeld", fn := fun _ => fun
  | [d1, d2, d3] => { results := [.lit (.bool false)], args := [d1, d2, d3] }
  | _ => none }
def FnExactMostHeldWrongFalsely : Prop := fnExactMostHeldRow.holds Try.pinned (OpenSpec.ofChange fnExactMostHeldWrong)

/-- 'laws.FnExactReadBy': WHATEVER THE INPUT: true; the input reads as it did. -/
def fnExactReadBySpec : ChangeSpec := { name := "fnExactReadBy", fn := fun _ => fun
  | [d1, d2, d3, d4] => { results := [.lit (.bool true)], args := [d1, d2, d3, d4] }
  | _ => none }
def fnExactReadByRow : OpenClaim := { program := "ytjkieedomljelaa", sum := "07744b152b7d5470c265a0f6c6c260aaf04d0c3726bb127df3b34fc01e47e53d", func := "loop.example/pullstreams/laws.FnExactReadBy", spec := "fnExactReadBy", apart := false }
def FnExactReadBySaid : Prop := fnExactReadByRow.holds Try.pinned (OpenSpec.ofChange fnExactReadBySpec)

/-- ITS FALSE NEIGHBOUR: 'it returns false'. Refute it at one input. -/
def fnExactReadByWrong : ChangeSpec := { name := "fnExactReadBy", fn := fun _ => fun
  | [d1, d2, d3, d4] => { results := [.lit (.bool false)], args := [d1, d2, d3, d4] }
  | _ => none }
def FnExactReadByWrongFalsely : Prop := fnExactReadByRow.holds Try.pinned (OpenSpec.ofChange fnExactReadByWrong)

/-- 'laws.FnValidTee': WHATEVER THE INPUT: true; the input reads as it did. -/
def fnValidTeeSpec : ChangeSpec := { name := "fnValidTee", fn := fun _ => fun
  | [d] => { results := [.lit (.bool true)], args := [d] }
  | _ => none }
def fnValidTeeRow : OpenClaim := { program := "ytjkieedomljelaa", sum := "07744b152b7d5470c265a0f6c6c260aaf04d0c3726bb127df3b34fc01e47e53d", func := "loop.example/pullstreams/laws.FnValidTee", spec := "fnValidTee", apart := false }
def FnValidTeeSaid : Prop := fnValidTeeRow.holds Try.pinned (OpenSpec.ofChange fnValidTeeSpec)

/-- ITS FALSE NEIGHBOUR: 'it returns false'. Refute it at one input. -/
def fnValidTeeWrong : ChangeSpec := { name := "fnValidTee", fn := fun _ => fun
  | [d] => { results := [.lit (.bool false)], args := [d] }
  | _ => none }
def FnValidTeeWrongFalsely : Prop := fnValidTeeRow.holds Try.pinned (OpenSpec.ofChange fnValidTeeWrong)

/-- 'laws.FnNewTee': WHATEVER THE INPUT: true; the input reads as it did. -/
def fnNewTeeSpec : ChangeSpec := { name := "fnNewTee", fn := fun _ => fun
  | [d] => { results := [.lit (.bool true)], args := [d] }
  | _ => none }
def fnNewTeeRow : OpenClaim := { program := "ytjkieedomljelaa", sum := "07744b152b7d5470c265a0f6c6c260aaf04d0c3726bb127df3b34fc01e47e53d", func := "loop.example/pullstreams/laws.FnNewTee", spec := "fnNewTee", apart := false }
def FnNewTeeSaid : Prop := fnNewTeeRow.holds Try.pinned (OpenSpec.ofChange fnNewTeeSpec)

/-- ITS FALSE NEIGHBOUR: 'it returns false'. Refute it at one input. -/
def fnNewTeeWrong : ChangeSpec := { name := "fnNewTee", fn := fun _ => fun
  | [d] => { results := [.lit (.bool false)], args := [d] }
  | _ => none }
def FnNewTeeWrongFalsely : Prop := fnNewTeeRow.holds Try.pinned (OpenSpec.ofChange fnNewTeeWrong)

/-- 'laws.FnReadTee': WHATEVER THE INPUT: true; the input reads as it did. -/
def fnReadTeeSpec : ChangeSpec := { name := "fnReadTee", fn := fun _ => fun
  | [d] => { results := [.lit (.bool true)], args := [d] }
  | _ => none }
def fnReadTeeRow : OpenClaim := { program := "ytjkieedomljelaa", sum := "07744b152b7d5470c265a0f6c6c260aaf04d0c3726bb127df3b34fc01e47e53d", func := "loop.example/pullstreams/laws.FnReadTee", spec := "fnReadTee", apart := false }
def FnReadTeeSaid : Prop := fnReadTeeRow.holds Try.pinned (OpenSpec.ofChange fnReadTeeSpec)

/-- ITS FALSE NEIGHBOUR: 'it returns false'. Refute it at one input. -/
def fnReadTeeWrong : ChangeSpec := { name := "fnReadTee", fn := fun _ => fun
  | [d] => { results := [.lit (.bool false)], args := [d] }
  | _ => none }
def FnReadTeeWrongFalsely : Prop := fnReadTeeRow.holds Try.pinned (OpenSpec.ofChange fnReadTeeWrong)

/-- 'laws.FnHeldItems': WHATEVER THE INPUT: true; the input reads as it did. -/
def fnHeldItemsSpec : ChangeSpec := { name := "fnHeldItems", fn := fun _ => fun
  | [d] => { results := [.lit (.bool true)], args := [d] }
  | _ => none }
def fnHeldItemsRow : OpenClaim := { program := "ytjkieedomljelaa", sum := "07744b152b7d5470c265a0f6c6c260aaf04d0c3726bb127df3b34fc01e47e53d", func := "loop.example/pullstreams/laws.FnHeldItems", spec := "fnHeldItems", apart := false }
def FnHeldItemsSaid : Prop := fnHeldItemsRow.holds Try.pinned (OpenSpec.ofChange fnHeldItemsSpec)

/-- ITS FALSE NEIGHBOUR: 'it returns false'. Refute it at one input. -/
def fnHeldItemsWrong : ChangeSpec := { name := "fnHeldItems", fn := fun _ => fun
  | [d] => { results := [.lit (.bool false)], args := [d] }
  | _ => none }
def FnHeldItemsWrongFalsely : Prop := fnHeldItemsRow.holds Try.pinned (OpenSpec.ofChange fnHeldItemsWrong)

/-- 'laws.FnCloseReader': WHATEVER THE INPUT: true; the input reads as it did. -/
def fnCloseReaderSpec : ChangeSpec := { name := "fnCloseReader", fn := fun _ => fun
  | [d] => { results := [.lit (.bool true)], args := [d] }
  | _ => none }
def fnCloseReaderRow : OpenClaim := { program := "ytjkieedomljelaa", sum := "07744b152b7d5470c265a0f6c6c260aaf04d0c3726bb127df3b34fc01e47e53d", func := "loop.example/pullstreams/laws.FnCloseReader", spec := "fnCloseReader", apart := false }
def FnCloseReaderSaid : Prop := fnCloseReaderRow.holds Try.pinned (OpenSpec.ofChange fnCloseReaderSpec)

/-- ITS FALSE NEIGHBOUR: 'it returns false'. Refute it at one input. -/
def fnCloseReaderWrong : ChangeSpec := { name := "fnCloseReader", fn := fun _ => fun
  | [d] => { results := [.lit (.bool false)], args := [d] }
  | _ => none }
def FnCloseReaderWrongFalsely : Prop := fnCloseReaderRow.holds Try.pinned (OpenSpec.ofChange fnCloseReaderWrong)

/-- 'laws.FnRunTee': WHATEVER THE INPUT: true; the input reads as it did. -/
def fnRunTeeSpec : ChangeSpec := { name := "fnRunTee", fn := fun _ => fun
  | [d] => { results := [.lit (.bool true)], args := [d] }
  | _ => none }
def fnRunTeeRow : OpenClaim := { program := "ytjkieedomljelaa", sum := "07744b152b7d5470c265a0f6c6c260aaf04d0c3726bb127df3b34fc01e47e53d", func := "loop.example/pullstreams/laws.FnRunTee", spec := "fnRunTee", apart := false }
def FnRunTeeSaid : Prop := fnRunTeeRow.holds Try.pinned (OpenSpec.ofChange fnRunTeeSpec)

/-- ITS FALSE NEIGHBOUR: 'it returns false'. Refute it at one input. -/
def fnRunTeeWrong : ChangeSpec := { name := "fnRunTee", fn := fun _ => fun
  | [d] => { results := [.lit (.bool false)], args := [d] }
  | _ => none }
def FnRunTeeWrongFalsely : Prop := fnRunTeeRow.holds Try.pinned (OpenSpec.ofChange fnRunTeeWrong)

/-- 'laws.FnTeeAfter': WHATEVER THE INPUT: true; the input reads as it did. -/
def fnTeeAfterSpec : ChangeSpec := { name := "fnTeeAfter", fn := fun _ => fun
  | [d] => { results := [.lit (.bool true)], args := [d] }
  | _ => none }
def fnTeeAfterRow : OpenClaim := { program := "ytjkieedomljelaa", sum := "07744b152b7d5470c265a0f6c6c260aaf04d0c3726bb127df3b34fc01e47e53d", func := "loop.example/pullstreams/laws.FnTeeAfter", spec := "fnTeeAfter", apart := false }
def FnTeeAfterSaid : Prop := fnTeeAfterRow.holds Try.pinned (OpenSpec.ofChange fnTeeAfterSpec)

/-- ITS FALSE NEIGHBOUR: 'it returns false'. Refute it at one input. -/
def fnTeeAfterWrong : ChangeSpec := { name := "fnTeeAfter", fn := fun _ => fun
  | [d] => { results := [.lit (.bool false)], args := [d] }
  | _ => none }
def FnTeeAfterWrongFalsely : Prop := fnTeeAfterRow.holds Try.pinned (OpenSpec.ofChange fnTeeAfterWrong)

/-- 'laws.FnMostHeld': WHATEVER THE INPUT: true; the input reads as it did. -/
def fnMostHeldSpec : ChangeSpec := { name := "fnMostHeld", fn := fun _ => fun
  | [d] => { results := [.lit (.bool true)], args := [d] }
  | _ => none }
def fnMostHeldRow : OpenClaim := { program := "ytjkieedomljelaa", sum := "07744b152b7d5470c265a0f6c6c260aaf04d0c3726bb127df3b34fc01e47e53d", func := "loop.example/pullstreams/laws.FnMostHeld", spec := "fnMostHeld", apart := false }
def FnMostHeldSaid : Prop := fnMostHeldRow.holds Try.pinned (OpenSpec.ofChange fnMostHeldSpec)

/-- ITS FALSE NEIGHBOUR: 'it returns false'. Refute it at one input. -/
def fnMostHeldWrong : ChangeSpec := { name := "fnMostHeld", fn := fun _ => fun
  | [d] => { results := [.lit (.bool false)], args := [d] }
  | _ => none }
def FnMostHeldWrongFalsely : Prop := fnMostHeldRow.holds Try.pinned (OpenSpec.ofChange fnMostHeldWrong)

/-- 'laws.FnReadBy': WHATEVER THE INPUT: true; the input reads as it did. -/
def fnReadBySpec : ChangeSpec := { name := "fnReadBy", fn := fun _ => fun
  | [d] => { results := [.lit (.bool true)], args := [d] }
  | _ => none }
def fnReadByRow : OpenClaim := { program := "ytjkieedomljelaa", sum := "07744b152b7d5470c265a0f6c6c260aaf04d0c3726bb127df3b34fc01e47e53d", func := "loop.example/pullstreams/laws.FnReadBy", spec := "fnReadBy", apart := false }
def FnReadBySaid : Prop := fnReadByRow.holds Try.pinned (OpenSpec.ofChange fnReadBySpec)

/-- ITS FALSE NEIGHBOUR: 'it returns false'. Refute it at one input. -/
def fnReadByWrong : ChangeSpec := { name := "fnReadBy", fn := fun _ => fun
  | [d] => { results := [.lit (.bool false)], args := [d] }
  | _ => none }
def FnReadByWrongFalsely : Prop := fnReadByRow.holds Try.pinned (OpenSpec.ofChange fnReadByWrong)

/- THE SECOND FORM. 'bulk': how many values and letters a reading holds, each counted each time it is reached (what is shared counts as often as it is met; a slice's spare places count too). A statement '..UptoSaid' is the law's where the arguments, and the package variables that the reading takes, are together of bulk at most 1048576: NARROWER than '..Said'. Prove '..Said' where nothing that the law and all that it calls make is longer than what came in: it says more and counts as full. Else prove '..UptoSaid'. A law counts once. -/
mutual
def uptoBulk {H : Type} : DataW H → Nat
  | .lit (.string bytes) => bytes.length + 1
  | .lit _ => 1
  | .nil => 1
  | .ptr d => uptoBulk d + 1
  | .slice elems spare => uptoBulkAll elems + uptoBulkAll spare + 1
  | .agg parts => uptoBulkAll parts + 1
  | .iface _ d => uptoBulk d + 1
  | .map entries => uptoBulkEntries entries + 1
  | .held _ => 1
def uptoBulkAll {H : Type} : List (DataW H) → Nat
  | [] => 0
  | d :: r => uptoBulk d + uptoBulkAll r
def uptoBulkEntries {H : Type} : List (Lit × DataW H) → Nat
  | [] => 0
  | x :: r => uptoBulkEntry x + uptoBulkEntries r
def uptoBulkEntry {H : Type} : Lit × DataW H → Nat
  | (.string bytes, d) => bytes.length + uptoBulk d + 1
  | (_, d) => uptoBulk d + 1
 end
def uptoSmall : (H : Type) → List (DataW H) → Bool := fun _ ds => decide (uptoBulkAll ds ≤ 1048576)
def OpenSpec.upto (s : _root_.Go.ChangeSpec) : _root_.Go.OpenSpec := { _root_.Go.OpenSpec.ofChange s with cond := some uptoSmall }

/-- 'laws.FnExactReadTee', WHERE WHAT IT READS IS OF BULK AT MOST 1048576: true; the input reads as it did. -/
def fnExactReadTeeUptoRow : OpenClaim := { program := "ytjkieedomljelaa", sum := "07744b152b7d5470c265a0f6c6c260aaf04d0c3726bb127df3b34fc01e47e53d", func := "loop.example/pullstreams/laws.FnExactReadTee", spec := "fnExactReadTee", apart := false, narrowed := true }
def FnExactReadTeeUptoSaid : Prop := fnExactReadTeeUptoRow.holds Try.pinned (OpenSpec.upto fnExactReadTeeSpec)

/-- 'laws.FnExactRunTee', WHERE WHAT IT READS IS OF BULK AT MOST 1048576: true; the input reads as it did. -/
def fnExactRunTeeUptoRow : OpenClaim := { program := "ytjkieedomljelaa", sum := "07744b152b7d5470c265a0f6c6c260aaf04d0c3726bb127df3b34fc01e47e53d", func := "loop.example/pullstreams/laws.FnExactRunTee", spec := "fnExactRunTee", apart := false, narrowed := true }
def FnExactRunTeeUptoSaid : Prop := fnExactRunTeeUptoRow.holds Try.pinned (OpenSpec.upto fnExactRunTeeSpec)

/-- 'laws.FnExactTeeAfter', WHERE WHAT IT READS IS OF BULK AT MOST 1048576: true; the input reads as it did. -/
def fnExactTeeAfterUptoRow : OpenClaim := { program := "ytjkieedomljelaa", sum := "07744b152b7d5470c265a0f6c6c260aaf04d0c3726bb127df3b34fc01e47e53d", func := "loop.example/pullstreams/laws.FnExactTeeAfter", spec := "fnExactTeeAfter", apart := false, narrowed := true }
def FnExactTeeAfterUptoSaid : Prop := fnExactTeeAfterUptoRow.holds Try.pinned (OpenSpec.upto fnExactTeeAfterSpec)

/-- 'laws.FnExactMostHeld', WHERE WHAT IT READS IS OF BULK AT MOST 1048576: true; the input reads as it did. -/
def fnExactMostHeldUptoRow : OpenClaim := { program := "ytjkieedomljelaa", sum := "07744b152b7d5470c265a0f6c6c260aaf04d0c3726bb127df3b34fc01e47e53d", func := "loop.example/pullstreams/laws.FnExactMostHeld", spec := "fnExactMostHeld", apart := false, narrowed := true }
def FnExactMostHeldUptoSaid : Prop := fnExactMostHeldUptoRow.holds Try.pinned (OpenSpec.upto fnExactMostHeldSpec)

/-- 'laws.FnExactReadBy', WHERE WHAT IT READS IS OF BULK AT MOST 1048576: true; the input reads as it did. -/
def fnExactReadByUptoRow : OpenClaim := { program := "ytjkieedomljelaa", sum := "07744b152b7d5470c265a0f6c6c260aaf04d0c3726bb127df3b34fc01e47e53d", func := "loop.example/pullstreams/laws.FnExactReadBy", spec := "fnExactReadBy", apart := false, narrowed := true }
def FnExactReadByUptoSaid : Prop := fnExactReadByUptoRow.holds Try.pinned (OpenSpec.upto fnExactReadBySpec)

/-- 'laws.FnValidTee', WHERE WHAT IT READS IS OF BULK AT MOST 1048576: true; the input reads as it did. -/
def fnValidTeeUptoRow : OpenClaim := { program := "ytjkieedomljelaa", sum := "07744b152b7d5470c265a0f6c6c260aaf04d0c3726bb127df3b34fc01e47e53d", func := "loop.example/pullstreams/laws.FnValidTee", spec := "fnValidTee", apart := false, narrowed := true }
def FnValidTeeUptoSaid : Prop := fnValidTeeUptoRow.holds Try.pinned (OpenSpec.upto fnValidTeeSpec)

/-- 'laws.FnNewTee', WHERE WHAT IT READS IS OF BULK AT MOST 1048576: true; the input reads as it did. -/
def fnNewTeeUptoRow : OpenClaim := { program := "ytjkieedomljelaa", sum := "07744b152b7d5470c265a0f6c6c260aaf04d0c3726bb127df3b34fc01e47e53d", func := "loop.example/pullstreams/laws.FnNewTee", spec := "fnNewTee", apart := false, narrowed := true }
def FnNewTeeUptoSaid : Prop := fnNewTeeUptoRow.holds Try.pinned (OpenSpec.upto fnNewTeeSpec)

/-- 'laws.FnReadTee', WHERE WHAT IT READS IS OF BULK AT MOST 1048576: true; the input reads as it did. -/
def fnReadTeeUptoRow : OpenClaim := { program := "ytjkieedomljelaa", sum := "07744b152b7d5470c265a0f6c6c260aaf04d0c3726bb127df3b34fc01e47e53d", func := "loop.example/pullstreams/laws.FnReadTee", spec := "fnReadTee", apart := false, narrowed := true }
def FnReadTeeUptoSaid : Prop := fnReadTeeUptoRow.holds Try.pinned (OpenSpec.upto fnReadTeeSpec)

/-- 'laws.FnHeldItems', WHERE WHAT IT READS IS OF BULK AT MOST 1048576: true; the input reads as it did. -/
def fnHeldItemsUptoRow : OpenClaim := { program := "ytjkieedomljelaa", sum := "07744b152b7d5470c265a0f6c6c260aaf04d0c3726bb127df3b34fc01e47e53d", func := "loop.example/pullstreams/laws.FnHeldItems", spec := "fnHeldItems", apart := false, narrowed := true }
def FnHeldItemsUptoSaid : Prop := fnHeldItemsUptoRow.holds Try.pinned (OpenSpec.upto fnHeldItemsSpec)

/-- 'laws.FnCloseReader', WHERE WHAT IT READS IS OF BULK AT MOST 1048576: true; the input reads as it did. -/
def fnCloseReaderUptoRow : OpenClaim := { program := "ytjkieedomljelaa", sum := "07744b152b7d5470c265a0f6c6c260aaf04d0c3726bb127df3b34fc01e47e53d", func := "loop.example/pullstreams/laws.FnCloseReader", spec := "fnCloseReader", apart := false, narrowed := true }
def FnCloseReaderUptoSaid : Prop := fnCloseReaderUptoRow.holds Try.pinned (OpenSpec.upto fnCloseReaderSpec)

/-- 'laws.FnRunTee', WHERE WHAT IT READS IS OF BULK AT MOST 1048576: true; the input reads as it did. -/
def fnRunTeeUptoRow : OpenClaim := { program := "ytjkieedomljelaa", sum := "07744b152b7d5470c265a0f6c6c260aaf04d0c3726bb127df3b34fc01e47e53d", func := "loop.example/pullstreams/laws.FnRunTee", spec := "fnRunTee", apart := false, narrowed := true }
def FnRunTeeUptoSaid : Prop := fnRunTeeUptoRow.holds Try.pinned (OpenSpec.upto fnRunTeeSpec)

/-- 'laws.FnTeeAfter', WHERE WHAT IT READS IS OF BULK AT MOST 1048576: true; the input reads as it did. -/
def fnTeeAfterUptoRow : OpenClaim := { program := "ytjkieedomljelaa", sum := "07744b152b7d5470c265a0f6c6c260aaf04d0c3726bb127df3b34fc01e47e53d", func := "loop.example/pullstreams/laws.FnTeeAfter", spec := "fnTeeAfter", apart := false, narrowed := true }
def FnTeeAfterUptoSaid : Prop := fnTeeAfterUptoRow.holds Try.pinned (OpenSpec.upto fnTeeAfterSpec)

/-- 'laws.FnMostHeld', WHERE WHAT IT READS IS OF BULK AT MOST 1048576: true; the input reads as it did. -/
def fnMostHeldUptoRow : OpenClaim := { program := "ytjkieedomljelaa", sum := "07744b152b7d5470c265a0f6c6c260aaf04d0c3726bb127df3b34fc01e47e53d", func := "loop.example/pullstreams/laws.FnMostHeld", spec := "fnMostHeld", apart := false, narrowed := true }
def FnMostHeldUptoSaid : Prop := fnMostHeldUptoRow.holds Try.pinned (OpenSpec.upto fnMostHeldSpec)

/-- 'laws.FnReadBy', WHERE WHAT IT READS IS OF BULK AT MOST 1048576: true; the input reads as it did. -/
def fnReadByUptoRow : OpenClaim := { program := "ytjkieedomljelaa", sum := "07744b152b7d5470c265a0f6c6c260aaf04d0c3726bb127df3b34fc01e47e53d", func := "loop.example/pullstreams/laws.FnReadBy", spec := "fnReadBy", apart := false, narrowed := true }
def FnReadByUptoSaid : Prop := fnReadByUptoRow.holds Try.pinned (OpenSpec.upto fnReadBySpec)

end Rows
end Go.Proofs.Ytjkieedomljelaa
