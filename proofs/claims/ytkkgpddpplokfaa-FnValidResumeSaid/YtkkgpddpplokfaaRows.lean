/-
  No cell of these rows narrows 'for every input' (looked for: loops, veiled, ifaces, maps, wideKeys, modest, calm, conditions, laid).
  DERIVED. THE GIVEN ROWS OF THIS SEAT. 12 by the template 'for every input the law returns true; each argument reads behind the call as it read before'; 0 by the template 'total and deterministic' (their statements: YtkkgpddpplokfaaTotals.lean).
  GIVEN WITH THE SEED: the statements are not yours to turn. If you find one false, say at which input.
  Laid BY PROGRAM, IN A SANDBOX (cutbox-rows.mjs): the forced cells as the released guide's own fill.sh prints them over the translation a420457099a295d1… (all of the seat's roots in one cut). By AI agents, Wed Nov 11 2026. No macro, syntax, notation, axiom, sorry.
-/
import Derived.Test.YtkkgpddpplokfaaChecked
import GoSem.Claim
import GoSem.ClaimJoined
import GoSem.ClaimMapViews
import Derived.JoinedTies
import Derived.KernelRfl
namespace Go.Proofs.Ytkkgpddpplokfaa
/- THE CELL 'sum', in the pinned program and in every row, IS THE sha256 OF THE DUMP (.gsa) THAT YtkkgpddpplokfaaProg.lean LOADS. Nothing in Lean hashes anything: it is a label: what it is worth is what the hold of that sum in a sandbox is worth. -/
noncomputable def Try.pinned : Pinned := { name := "ytkkgpddpplokfaa", sum := "a420457099a295d139f085cec8461f917ceba20007e5e6ab1c1fe723c0102304", checked := Try.checked }
namespace Rows
def none {H : Type} : Left H := { results := [], args := [] }

/-- 'laws.FnExactValidCode': WHATEVER THE INPUT: true; the input reads as it did. -/
def fnExactValidCodeSpec : ChangeSpec := { name := "fnExactValidCode", fn := fun _ => fun
  | [d] => { results := [.lit (.bool true)], args := [d] }
  | _ => none }
def fnExactValidCodeRow : OpenClaim := { program := "ytkkgpddpplokfaa", sum := "a420457099a295d139f085cec8461f917ceba20007e5e6ab1c1fe723c0102304", func := "loop.example/pullstreams/laws.FnExactValidCode", spec := "fnExactValidCode", unfollowed := true, recurses := true, leaving := true, apart := false }
def FnExactValidCodeSaid : Prop := fnExactValidCodeRow.holds Try.pinned (OpenSpec.ofChange fnExactValidCodeSpec)

/-- ITS FALSE NEIGHBOUR: 'it returns false'. Refute it at one input. -/
def fnExactValidCodeWrong : ChangeSpec := { name := "fnExactValidCode", fn := fun _ => fun
  | [d] => { results := [.lit (.bool false)], args := [d] }
  | _ => none }
def FnExactValidCodeWrongFalsely : Prop := fnExactValidCodeRow.holds Try.pinned (OpenSpec.ofChange fnExactValidCodeWrong)

/-- 'laws.FnExactValidGen': WHATEVER THE INPUT: true; the input reads as it did. -/
def fnExactValidGenSpec : ChangeSpec := { name := "fnExactValidGen", fn := fun _ => fun
  | [d1, d2] => { results := [.lit (.bool true)], args := [d1, d2] }
  | _ => none }
def fnExactValidGenRow : OpenClaim := { program := "ytkkgpddpplokfaa", sum := "a420457099a295d139f085cec8461f917ceba20007e5e6ab1c1fe723c0102304", func := "loop.example/pullstreams/laws.FnExactValidGen", spec := "fnExactValidGen", unfollowed := true, recurses := true, leaving := true, apart := false }
def FnExactValidGenSaid : Prop := fnExactValidGenRow.holds Try.pinned (OpenSpec.ofChange fnExactValidGenSpec)

/-- ITS FALSE NEIGHBOUR: 'it returns false'. Refute it at one input. -/
def fnExactValidGenWrong : ChangeSpec := { name := "fnExactValidGen", fn := fun _ => fun
  | [d1, d2] => { results := [.lit (.bool false)], args := [d1, d2] }
  | _ => none }
def FnExactValidGenWrongFalsely : Prop := fnExactValidGenRow.holds Try.pinned (OpenSpec.ofChange fnExactValidGenWrong)

/-- 'laws.FnExactNewGen': WHATEVER THE INPUT: true; the input reads as it did. -/
def fnExactNewGenSpec : ChangeSpec := { name := "fnExactNewGen", fn := fun _ => fun
  | [d] => { results := [.lit (.bool true)], args := [d] }
  | _ => none }
def fnExactNewGenRow : OpenClaim := { program := "ytkkgpddpplokfaa", sum := "a420457099a295d139f085cec8461f917ceba20007e5e6ab1c1fe723c0102304", func := "loop.example/pullstreams/laws.FnExactNewGen", spec := "fnExactNewGen", unfollowed := true, recurses := true, leaving := true, apart := false }
def FnExactNewGenSaid : Prop := fnExactNewGenRow.holds Try.pinned (OpenSpec.ofChange fnExactNewGenSpec)

/-- ITS FALSE NEIGHBOUR: 'it returns false'. Refute it at one input. -/
def fnExactNewGenWrong : ChangeSpec := { name := "fnExactNewGen", fn := fun _ => fun
  | [d] => { results := [.lit (.bool false)], args := [d] }
  | _ => none }
def FnExactNewGenWrongFalsely : Prop := fnExactNewGenRow.holds Try.pinned (OpenSpec.ofChange fnExactNewGenWrong)

/-- 'laws.FnExactValidResume': WHATEVER THE INPUT: true; the input reads as it did. -/
def fnExactValidResumeSpec : ChangeSpec := { name := "fnExactValidResume", fn := fun _ => fun
  | [d] => { results := [.lit (.bool true)], args := [d] }
  | _ => none }
def fnExactValidResumeRow : OpenClaim := { program := "ytkkgpddpplokfaa", sum := "a420457099a295d139f085cec8461f917ceba20007e5e6ab1c1fe723c0102304", func := "loop.example/pullstreams/laws.FnExactValidResume", spec := "fnExactValidResume", apart := false }
def FnExactValidResumeSaid : Prop := fnExactValidResumeRow.holds Try.pinned (OpenSpec.ofChange fnExactValidResumeSpec)

/-- ITS FALSE NEIGHBOUR: 'it returns false'. Refute it at one input. -/
def fnExactValidResumeWrong : ChangeSpec := { name := "fnExactValidResume", fn := fun _ => fun
  | [d] => { results := [.lit (.bool false)], args := [d] }
  | _ => none }
def FnExactValidResumeWrongFalsely : Prop := fnExactValidResumeRow.holds Try.pinned (OpenSpec.ofChange fnExactValidResumeWrong)

/-- 'laws.FnExactResumeGen': WHATEVER THE INPUT: true; the input reads as it did. -/
def fnExactResumeGenSpec : ChangeSpec := { name := "fnExactResumeGen", fn := fun _ => fun
  | [d1, d2, d3] => { results := [.lit (.bool true)], args := [d1, d2, d3] }
  | _ => none }
def fnExactResumeGenRow : OpenClaim := { program := "ytkkgpddpplokfaa", sum := "a420457099a295d139f085cec8461f917ceba20007e5e6ab1c1fe723c0102304", func := "loop.example/pullstreams/laws.FnExactResumeGen", spec := "fnExactResumeGen", inPlace := ["(*sync.WaitGroup).Add", "internal/race.ReleaseMerge", "internal/race.Disable", "internal/race.Enable", "internal/synctest.IsInBubble", "internal/synctest.Associate[sync.WaitGroup]", "sync.fatal", "sync/atomic.OrUint64", "sync/atomic.AddUint64", "internal/race.Read", "sync/atomic.LoadUint64", "sync/atomic.StoreUint64", "internal/synctest.Disassociate[sync.WaitGroup]", "sync.runtime_Semrelease", "(*sync.WaitGroup).Done", "(*sync.WaitGroup).Wait", "internal/race.Acquire", "internal/synctest.IsAssociated[sync.WaitGroup]", "sync/atomic.CompareAndSwapUint64", "internal/race.Write", "sync.runtime_SemacquireWaitGroup"], unfollowed := true, recurses := true, leaving := true, apart := false }
def FnExactResumeGenSaid : Prop := fnExactResumeGenRow.holds Try.pinned (OpenSpec.ofChange fnExactResumeGenSpec)

/-- ITS FALSE NEIGHBOUR: 'it returns false'. Refute it at one input. -/
def fnExactResumeGenWrong : ChangeSpec := { name := "fnExactResumeGen", fn := fun _ => fun
  | [d1, d2, d3] => { results := [.lit (.bool false)], args := [d1, d2, d3] }
  | _ => none }
def FnExactResumeGenWrongFalsely : Prop := fnExactResumeGenRow.holds Try.pinned (OpenSpec.ofChange fnExactResumeGenWrong)

/-- 'laws.FnExactRunGen': WHATEVER THE INPUT: true; the input reads as it did. -/
def fnExactRunGenSpec : ChangeSpec := { name := "fnExactRunGen", fn := fun _ => fun
  | [d1, d2] => { results := [.lit (.bool true)], args := [d1, d2] }
  | _ => none }
def fnExactRunGenRow : OpenClaim := { program := "ytkkgpddpplokfaa", sum := "a420457099a295d139f085cec8461f917ceba20007e5e6ab1c1fe723c0102304", func := "loop.example/pullstreams/laws.FnExactRunGen", spec := "fnExactRunGen", inPlace := ["(*sync.WaitGroup).Add", "internal/race.ReleaseMerge", "internal/race.Disable", "internal/race.Enable", "internal/synctest.IsInBubble", "internal/synctest.Associate[sync.WaitGroup]", "sync.fatal", "sync/atomic.OrUint64", "sync/atomic.AddUint64", "internal/race.Read", "sync/atomic.LoadUint64", "sync/atomic.StoreUint64", "internal/synctest.Disassociate[sync.WaitGroup]", "sync.runtime_Semrelease", "(*sync.WaitGroup).Done", "(*sync.WaitGroup).Wait", "internal/race.Acquire", "internal/synctest.IsAssociated[sync.WaitGroup]", "sync/atomic.CompareAndSwapUint64", "internal/race.Write", "sync.runtime_SemacquireWaitGroup"], unfollowed := true, recurses := true, leaving := true, apart := false }
def FnExactRunGenSaid : Prop := fnExactRunGenRow.holds Try.pinned (OpenSpec.ofChange fnExactRunGenSpec)

/-- ITS FALSE NEIGHBOUR: 'it returns false'. Refute it at one input. -/
def fnExactRunGenWrong : ChangeSpec := { name := "fnExactRunGen", fn := fun _ => fun
  | [d1, d2] => { results := [.lit (.bool false)], args := [d1, d2] }
  | _ => none }
def FnExactRunGenWrongFalsely : Prop := fnExactRunGenRow.holds Try.pinned (OpenSpec.ofChange fnExactRunGenWrong)

/-- 'laws.FnExactYieldsOf': WHATEVER THE INPUT: true; the input reads as it did. -/
def fnExactYieldsOfSpec : ChangeSpec := { name := "fnExactYieldsOf", fn := fun _ => fun
  | [d1, d2] => { results := [.lit (.bool true)], args := [d1, d2] }
  | _ => none }
def fnExactYieldsOfRow : OpenClaim := { program := "ytkkgpddpplokfaa", sum := "a420457099a295d139f085cec8461f917ceba20007e5e6ab1c1fe723c0102304", func := "loop.example/pullstreams/laws.FnExactYieldsOf", spec := "fnExactYieldsOf", inPlace := ["(*sync.WaitGroup).Add", "internal/race.ReleaseMerge", "internal/race.Disable", "internal/race.Enable", "internal/synctest.IsInBubble", "internal/synctest.Associate[sync.WaitGroup]", "sync.fatal", "sync/atomic.OrUint64", "sync/atomic.AddUint64", "internal/race.Read", "sync/atomic.LoadUint64", "sync/atomic.StoreUint64", "internal/synctest.Disassociate[sync.WaitGroup]", "sync.runtime_Semrelease", "(*sync.WaitGroup).Done", "(*sync.WaitGroup).Wait", "internal/race.Acquire", "internal/synctest.IsAssociated[sync.WaitGroup]", "sync/atomic.CompareAndSwapUint64", "internal/race.Write", "sync.runtime_SemacquireWaitGroup"], unfollowed := true, recurses := true, leaving := true, apart := false }
def FnExactYieldsOfSaid : Prop := fnExactYieldsOfRow.holds Try.pinned (OpenSpec.ofChange fnExactYieldsOfSpec)

/-- ITS FALSE NEIGHBOUR: 'it returns false'. Refute it at one input. -/
def fnExactYieldsOfWrong : ChangeSpec := { name := "fnExactYieldsOf", fn := fun _ => fun
  | [d1, d2] => { results := [.lit (.bool false)], args := [d1, d2] }
  | _ => none }
def FnExactYieldsOfWrongFalsely : Prop := fnExactYieldsOfRow.holds Try.pinned (OpenSpec.ofChange fnExactYieldsOfWrong)

/-- 'laws.FnExactEndOf': WHATEVER THE INPUT: true; the input reads as it did. -/
def fnExactEndOfSpec : ChangeSpec := { name := "fnExactEndOf", fn := fun _ => fun
  | [d] => { results := [.lit (.bool true)], args := [d] }
  | _ => none }
def fnExactEndOfRow : OpenClaim := { program := "ytkkgpddpplokfaa", sum := "a420457099a295d139f085cec8461f917ceba20007e5e6ab1c1fe723c0102304", func := "loop.example/pullstreams/laws.FnExactEndOf", spec := "fnExactEndOf", inPlace := ["(*sync.WaitGroup).Add", "internal/race.ReleaseMerge", "internal/race.Disable", "internal/race.Enable", "internal/synctest.IsInBubble", "internal/synctest.Associate[sync.WaitGroup]", "sync.fatal", "sync/atomic.OrUint64", "sync/atomic.AddUint64", "internal/race.Read", "sync/atomic.LoadUint64", "sync/atomic.StoreUint64", "internal/synctest.Disassociate[sync.WaitGroup]", "sync.runtime_Semrelease", "(*sync.WaitGroup).Done", "(*sync.WaitGroup).Wait", "internal/race.Acquire", "internal/synctest.IsAssociated[sync.WaitGroup]", "sync/atomic.CompareAndSwapUint64", "internal/race.Write", "sync.runtime_SemacquireWaitGroup"], unfollowed := true, recurses := true, leaving := true, apart := false }
def FnExactEndOfSaid : Prop := fnExactEndOfRow.holds Try.pinned (OpenSpec.ofChange fnExactEndOfSpec)

/-- ITS FALSE NEIGHBOUR: 'it returns false'. Refute it at one input. -/
def fnExactEndOfWrong : ChangeSpec := { name := "fnExactEndOf", fn := fun _ => fun
  | [d] => { results := [.lit (.bool false)], args := [d] }
  | _ => none }
def FnExactEndOfWrongFalsely : Prop := fnExactEndOfRow.holds Try.pinned (OpenSpec.ofChange fnExactEndOfWrong)

/-- 'laws.FnExactRunFrom': WHATEVER THE INPUT: true; the input reads as it did. -/
def fnExactRunFromSpec : ChangeSpec := { name := "fnExactRunFrom", fn := fun _ => fun
  | [d1, d2, d3] => { results := [.lit (.bool true)], args := [d1, d2, d3] }
  | _ => none }
def fnExactRunFromRow : OpenClaim := { program := "ytkkgpddpplokfaa", sum := "a420457099a295d139f085cec8461f917ceba20007e5e6ab1c1fe723c0102304", func := "loop.example/pullstreams/laws.FnExactRunFrom", spec := "fnExactRunFrom", inPlace := ["(*sync.WaitGroup).Add", "internal/race.ReleaseMerge", "internal/race.Disable", "internal/race.Enable", "internal/synctest.IsInBubble", "internal/synctest.Associate[sync.WaitGroup]", "sync.fatal", "sync/atomic.OrUint64", "sync/atomic.AddUint64", "internal/race.Read", "sync/atomic.LoadUint64", "sync/atomic.StoreUint64", "internal/synctest.Disassociate[sync.WaitGroup]", "sync.runtime_Semrelease", "(*sync.WaitGroup).Done", "(*sync.WaitGroup).Wait", "internal/race.Acquire", "internal/synctest.IsAssociated[sync.WaitGroup]", "sync/atomic.CompareAndSwapUint64", "internal/race.Write", "sync.runtime_SemacquireWaitGroup"], unfollowed := true, recurses := true, leaving := true, apart := false }
def FnExactRunFromSaid : Prop := fnExactRunFromRow.holds Try.pinned (OpenSpec.ofChange fnExactRunFromSpec)

/-- ITS FALSE NEIGHBOUR: 'it returns false'. Refute it at one input. -/
def fnExactRunFromWrong : ChangeSpec := { name := "fnExactRunFrom", fn := fun _ => fun
  | [d1, d2, d3] => { results := [.lit (.bool false)], args := [d1, d2, d3] }
  | _ => none }
def FnExactRunFromWrongFalsely : Prop := fnExactRunFromRow.holds Try.pinned (OpenSpec.ofChange fnExactRunFromWrong)

/-- 'laws.FnValidCode': WHATEVER THE INPUT: true; the input reads as it did. -/
def fnValidCodeSpec : ChangeSpec := { name := "fnValidCode", fn := fun _ => fun
  | [d] => { results := [.lit (.bool true)], args := [d] }
  | _ => none }
def fnValidCodeRow : OpenClaim := { program := "ytkkgpddpplokfaa", sum := "a420457099a295d139f085cec8461f917ceba20007e5e6ab1c1fe723c0102304", func := "loop.example/pullstreams/laws.FnValidCode", spec := "fnValidCode", unfollowed := true, recurses := true, leaving := true, apart := false }
def FnValidCodeSaid : Prop := fnValidCodeRow.holds Try.pinned (OpenSpec.ofChange fnValidCodeSpec)

/-- ITS FALSE NEIGHBOUR: 'it returns false'. Refute it at one input. -/
def fnValidCodeWrong : ChangeSpec := { name := "fnValidCode", fn := fun _ => fun
  | [d] => { results := [.lit (.bool false)], args := [d] }
  | _ => none }
def FnValidCodeWrongFalsely : Prop := fnValidCodeRow.holds Try.pinned (OpenSpec.ofChange fnValidCodeWrong)

/-- 'laws.FnValidResume': WHATEVER THE INPUT: true; the input reads as it did. -/
def fnValidResumeSpec : ChangeSpec := { name := "fnValidResume", fn := fun _ => fun
  | [d] => { results := [.lit (.bool true)], args := [d] }
  | _ => none }
def fnValidResumeRow : OpenClaim := { program := "ytkkgpddpplokfaa", sum := "a420457099a295d139f085cec8461f917ceba20007e5e6ab1c1fe723c0102304", func := "loop.example/pullstreams/laws.FnValidResume", spec := "fnValidResume", apart := false }
def FnValidResumeSaid : Prop := fnValidResumeRow.holds Try.pinned (OpenSpec.ofChange fnValidResumeSpec)

/-- ITS FALSE NEIGHBOUR: 'it returns false'. Refute it at one input. -/
def fnValidResumeWrong : ChangeSpec := { name := "fnValidResume", fn := fun _ => fun
  | [d] => { results := [.lit (.bool false)], args := [d] }
  | _ => none }
def FnValidResumeWrongFalsely : Prop := fnValidResumeRow.holds Try.pinned (OpenSpec.ofChange fnValidResumeWrong)

/-- 'laws.FnNewGen': WHATEVER THE INPUT: true; the input reads as it did. -/
def fnNewGenSpec : ChangeSpec := { name := "fnNewGen", fn := fun _ => fun
  | [d] => { results := [.lit (.bool true)], args := [d] }
  | _ => none }
def fnNewGenRow : OpenClaim := { program := "ytkkgpddpplokfaa", sum := "a420457099a295d139f085cec8461f917ceba20007e5e6ab1c1fe723c0102304", func := "loop.example/pullstreams/laws.FnNewGen", spec := "fnNewGen", inPlace := ["(*sync.WaitGroup).Add", "internal/race.ReleaseMerge", "internal/race.Disable", "internal/race.Enable", "internal/synctest.IsInBubble", "internal/synctest.Associate[sync.WaitGroup]", "sync.fatal", "sync/atomic.OrUint64", "sync/atomic.AddUint64", "internal/race.Read", "sync/atomic.LoadUint64", "sync/atomic.StoreUint64", "internal/synctest.Disassociate[sync.WaitGroup]", "sync.runtime_Semrelease", "(*sync.WaitGroup).Done", "(*sync.WaitGroup).Wait", "internal/race.Acquire", "internal/synctest.IsAssociated[sync.WaitGroup]", "sync/atomic.CompareAndSwapUint64", "internal/race.Write", "sync.runtime_SemacquireWaitGroup"], unfollowed := true, recurses := true, leaving := true, apart := false }
def FnNewGenSaid : Prop := fnNewGenRow.holds Try.pinned (OpenSpec.ofChange fnNewGenSpec)

/-- ITS FALSE NEIGHBOUR: 'it returns false'. Refute it at one input. -/
def fnNewGenWrong : ChangeSpec := { name := "fnNewGen", fn := fun _ => fun
  | [d] => { results := [.lit (.bool false)], args := [d] }
  | _ => none }
def FnNewGenWrongFalsely : Prop := fnNewGenRow.holds Try.pinned (OpenSpec.ofChange fnNewGenWrong)

/- THE SECOND FORM. 'bulk': how many values and letters a reading holds, each counted each time it is reached (what is shared counts as often as it is met; a slice's spare places count too). A statement '..UptoSaid' is the law's where the arguments, and the package variables that the reading takes, are together of bulk at most 1048576: NARROWER than '..Said'. Prove '..Said' where nothing that the law and all that it calls make is longer than what came in: it says more and counts as full. Else prove '..UptoSaid'. A law counts once. -/
mutual
def uptoBulk {H : Type} : DataW H → Nat
  | .lit (.string bytes) => bytes.length + 1
  | .lit _ => 1
  | .nil => 1
  | .ptr d => uptoBulk d + 1
  | .slice elems spare => uptoBulkAll elems + uptoBulkAll spare + 1
  | .agg parts => uptoBulkAll parts + 1
  | .iface _ d => uptoBulk d + 1
  | .map entries => uptoBulkEntries entries + 1
  | .held _ => 1
def uptoBulkAll {H : Type} : List (DataW H) → Nat
  | [] => 0
  | d :: r => uptoBulk d + uptoBulkAll r
def uptoBulkEntries {H : Type} : List (Lit × DataW H) → Nat
  | [] => 0
  | x :: r => uptoBulkEntry x + uptoBulkEntries r
def uptoBulkEntry {H : Type} : Lit × DataW H → Nat
  | (.string bytes, d) => bytes.length + uptoBulk d + 1
  | (_, d) => uptoBulk d + 1
 end
def uptoSmall : (H : Type) → List (DataW H) → Bool := fun _ ds => decide (uptoBulkAll ds ≤ 1048576)
def OpenSpec.upto (s : _root_.Go.ChangeSpec) : _root_.Go.OpenSpec := { _root_.Go.OpenSpec.ofChange s with cond := some uptoSmall }

/-- 'laws.FnExactValidCode', WHERE WHAT IT READS IS OF BULK AT MOST 1048576: true; the input reads as it did. -/
def fnExactValidCodeUptoRow : OpenClaim := { program := "ytkkgpddpplokfaa", sum := "a420457099a295d139f085cec8461f917ceba20007e5e6ab1c1fe723c0102304", func := "loop.example/pullstreams/laws.FnExactValidCode", spec := "fnExactValidCode", unfollowed := true, recurses := true, leaving := true, apart := false, narrowed := true }
def FnExactValidCodeUptoSaid : Prop := fnExactValidCodeUptoRow.holds Try.pinned (OpenSpec.upto fnExactValidCodeSpec)

/-- 'laws.FnExactValidGen', WHERE WHAT IT READS IS OF BULK AT MOST 1048576: true; the input reads as it did. -/
def fnExactValidGenUptoRow : OpenClaim := { program := "ytkkgpddpplokfaa", sum := "a420457099a295d139f085cec8461f917ceba20007e5e6ab1c1fe723c0102304", func := "loop.example/pullstreams/laws.FnExactValidGen", spec := "fnExactValidGen", unfollowed := true, recurses := true, leaving := true, apart := false, narrowed := true }
def FnExactValidGenUptoSaid : Prop := fnExactValidGenUptoRow.holds Try.pinned (OpenSpec.upto fnExactValidGenSpec)

/-- 'laws.FnExactNewGen', WHERE WHAT IT READS IS OF BULK AT MOST 1048576: true; the input reads as it did. -/
def fnExactNewGenUptoRow : OpenClaim := { program := "ytkkgpddpplokfaa", sum := "a420457099a295d139f085cec8461f917ceba20007e5e6ab1c1fe723c0102304", func := "loop.example/pullstreams/laws.FnExactNewGen", spec := "fnExactNewGen", unfollowed := true, recurses := true, leaving := true, apart := false, narrowed := true }
def FnExactNewGenUptoSaid : Prop := fnExactNewGenUptoRow.holds Try.pinned (OpenSpec.upto fnExactNewGenSpec)

/-- 'laws.FnExactValidResume', WHERE WHAT IT READS IS OF BULK AT MOST 1048576: true; the input reads as it did. -/
def fnExactValidResumeUptoRow : OpenClaim := { program := "ytkkgpddpplokfaa", sum := "a420457099a295d139f085cec8461f917ceba20007e5e6ab1c1fe723c0102304", func := "loop.example/pullstreams/laws.FnExactValidResume", spec := "fnExactValidResume", apart := false, narrowed := true }
def FnExactValidResumeUptoSaid : Prop := fnExactValidResumeUptoRow.holds Try.pinned (OpenSpec.upto fnExactValidResumeSpec)

/-- 'laws.FnExactResumeGen', WHERE WHAT IT READS IS OF BULK AT MOST 1048576: true; the input reads as it did. -/
def fnExactResumeGenUptoRow : OpenClaim := { program := "ytkkgpddpplokfaa", sum := "a420457099a295d139f085cec8461f917ceba20007e5e6ab1c1fe723c0102304", func := "loop.example/pullstreams/laws.FnExactResumeGen", spec := "fnExactResumeGen", inPlace := ["(*sync.WaitGroup).Add", "internal/race.ReleaseMerge", "internal/race.Disable", "internal/race.Enable", "internal/synctest.IsInBubble", "internal/synctest.Associate[sync.WaitGroup]", "sync.fatal", "sync/atomic.OrUint64", "sync/atomic.AddUint64", "internal/race.Read", "sync/atomic.LoadUint64", "sync/atomic.StoreUint64", "internal/synctest.Disassociate[sync.WaitGroup]", "sync.runtime_Semrelease", "(*sync.WaitGroup).Done", "(*sync.WaitGroup).Wait", "internal/race.Acquire", "internal/synctest.IsAssociated[sync.WaitGroup]", "sync/atomic.CompareAndSwapUint64", "internal/race.Write", "sync.runtime_SemacquireWaitGroup"], unfollowed := true, recurses := true, leaving := true, apart := false, narrowed := true }
def FnExactResumeGenUptoSaid : Prop := fnExactResumeGenUptoRow.holds Try.pinned (OpenSpec.upto fnExactResumeGenSpec)

/-- 'laws.FnExactRunGen', WHERE WHAT IT READS IS OF BULK AT MOST 1048576: true; the input reads as it did. -/
def fnExactRunGenUptoRow : OpenClaim := { program := "ytkkgpddpplokfaa", sum := "a420457099a295d139f085cec8461f917ceba20007e5e6ab1c1fe723c0102304", func := "loop.example/pullstreams/laws.FnExactRunGen", spec := "fnExactRunGen", inPlace := ["(*sync.WaitGroup).Add", "internal/race.ReleaseMerge", "internal/race.Disable", "internal/race.Enable", "internal/synctest.IsInBubble", "internal/synctest.Associate[sync.WaitGroup]", "sync.fatal", "sync/atomic.OrUint64", "sync/atomic.AddUint64", "internal/race.Read", "sync/atomic.LoadUint64", "sync/atomic.StoreUint64", "internal/synctest.Disassociate[sync.WaitGroup]", "sync.runtime_Semrelease", "(*sync.WaitGroup).Done", "(*sync.WaitGroup).Wait", "internal/race.Acquire", "internal/synctest.IsAssociated[sync.WaitGroup]", "sync/atomic.CompareAndSwapUint64", "internal/race.Write", "sync.runtime_SemacquireWaitGroup"], unfollowed := true, recurses := true, leaving := true, apart := false, narrowed := true }
def FnExactRunGenUptoSaid : Prop := fnExactRunGenUptoRow.holds Try.pinned (OpenSpec.upto fnExactRunGenSpec)

/-- 'laws.FnExactYieldsOf', WHERE WHAT IT READS IS OF BULK AT MOST 1048576: true; the input reads as it did. -/
def fnExactYieldsOfUptoRow : OpenClaim := { program := "ytkkgpddpplokfaa", sum := "a420457099a295d139f085cec8461f917ceba20007e5e6ab1c1fe723c0102304", func := "loop.example/pullstreams/laws.FnExactYieldsOf", spec := "fnExactYieldsOf", inPlace := ["(*sync.WaitGroup).Add", "internal/race.ReleaseMerge", "internal/race.Disable", "internal/race.Enable", "internal/synctest.IsInBubble", "internal/synctest.Associate[sync.WaitGroup]", "sync.fatal", "sync/atomic.OrUint64", "sync/atomic.AddUint64", "internal/race.Read", "sync/atomic.LoadUint64", "sync/atomic.StoreUint64", "internal/synctest.Disassociate[sync.WaitGroup]", "sync.runtime_Semrelease", "(*sync.WaitGroup).Done", "(*sync.WaitGroup).Wait", "internal/race.Acquire", "internal/synctest.IsAssociated[sync.WaitGroup]", "sync/atomic.CompareAndSwapUint64", "internal/race.Write", "sync.runtime_SemacquireWaitGroup"], unfollowed := true, recurses := true, leaving := true, apart := false, narrowed := true }
def FnExactYieldsOfUptoSaid : Prop := fnExactYieldsOfUptoRow.holds Try.pinned (OpenSpec.upto fnExactYieldsOfSpec)

/-- 'laws.FnExactEndOf', WHERE WHAT IT READS IS OF BULK AT MOST 1048576: true; the input reads as it did. -/
def fnExactEndOfUptoRow : OpenClaim := { program := "ytkkgpddpplokfaa", sum := "a420457099a295d139f085cec8461f917ceba20007e5e6ab1c1fe723c0102304", func := "loop.example/pullstreams/laws.FnExactEndOf", spec := "fnExactEndOf", inPlace := ["(*sync.WaitGroup).Add", "internal/race.ReleaseMerge", "internal/race.Disable", "internal/race.Enable", "internal/synctest.IsInBubble", "internal/synctest.Associate[sync.WaitGroup]", "sync.fatal", "sync/atomic.OrUint64", "sync/atomic.AddUint64", "internal/race.Read", "sync/atomic.LoadUint64", "sync/atomic.StoreUint64", "internal/synctest.Disassociate[sync.WaitGroup]", "sync.runtime_Semrelease", "(*sync.WaitGroup).Done", "(*sync.WaitGroup).Wait", "internal/race.Acquire", "internal/synctest.IsAssociated[sync.WaitGroup]", "sync/atomic.CompareAndSwapUint64", "internal/race.Write", "sync.runtime_SemacquireWaitGroup"], unfollowed := true, recurses := true, leaving := true, apart := false, narrowed := true }
def FnExactEndOfUptoSaid : Prop := fnExactEndOfUptoRow.holds Try.pinned (OpenSpec.upto fnExactEndOfSpec)

/-- 'laws.FnExactRunFrom', WHERE WHAT IT READS IS OF BULK AT MOST 1048576: true; the input reads as it did. -/
def fnExactRunFromUptoRow : OpenClaim := { program := "ytkkgpddpplokfaa", sum := "a420457099a295d139f085cec8461f917ceba20007e5e6ab1c1fe723c0102304", func := "loop.example/pullstreams/laws.FnExactRunFrom", spec := "fnExactRunFrom", inPlace := ["(*sync.WaitGroup).Add", "internal/race.ReleaseMerge", "internal/race.Disable", "internal/race.Enable", "internal/synctest.IsInBubble", "internal/synctest.Associate[sync.WaitGroup]", "sync.fatal", "sync/atomic.OrUint64", "sync/atomic.AddUint64", "internal/race.Read", "sync/atomic.LoadUint64", "sync/atomic.StoreUint64", "internal/synctest.Disassociate[sync.WaitGroup]", "sync.runtime_Semrelease", "(*sync.WaitGroup).Done", "(*sync.WaitGroup).Wait", "internal/race.Acquire", "internal/synctest.IsAssociated[sync.WaitGroup]", "sync/atomic.CompareAndSwapUint64", "internal/race.Write", "sync.runtime_SemacquireWaitGroup"], unfollowed := true, recurses := true, leaving := true, apart := false, narrowed := true }
def FnExactRunFromUptoSaid : Prop := fnExactRunFromUptoRow.holds Try.pinned (OpenSpec.upto fnExactRunFromSpec)

/-- 'laws.FnValidCode', WHERE WHAT IT READS IS OF BULK AT MOST 1048576: true; the input reads as it did. -/
def fnValidCodeUptoRow : OpenClaim := { program := "ytkkgpddpplokfaa", sum := "a420457099a295d139f085cec8461f917ceba20007e5e6ab1c1fe723c0102304", func := "loop.example/pullstreams/laws.FnValidCode", spec := "fnValidCode", unfollowed := true, recurses := true, leaving := true, apart := false, narrowed := true }
def FnValidCodeUptoSaid : Prop := fnValidCodeUptoRow.holds Try.pinned (OpenSpec.upto fnValidCodeSpec)

/-- 'laws.FnValidResume', WHERE WHAT IT READS IS OF BULK AT MOST 1048576: true; the input reads as it did. -/
def fnValidResumeUptoRow : OpenClaim := { program := "ytkkgpddpplokfaa", sum := "a420457099a295d139f085cec8461f917ceba20007e5e6ab1c1fe723c0102304", func := "loop.example/pullstreams/laws.FnValidResume", spec := "fnValidResume", apart := false, narrowed := true }
def FnValidResumeUptoSaid : Prop := fnValidResumeUptoRow.holds Try.pinned (OpenSpec.upto fnValidResumeSpec)

/-- 'laws.FnNewGen', WHERE WHAT IT READS IS OF BULK AT MOST 1048576: true; the input reads as it did. -/
def fnNewGenUptoRow : OpenClaim := { program := "ytkkgpddpplokfaa", sum := "a420457099a295d139f085cec8461f917ceba20007e5e6ab1c1fe723c0102304", func := "loop.example/pullstreams/laws.FnNewGen", spec := "fnNewGen", inPlace := ["(*sync.WaitGroup).Add", "internal/race.ReleaseMerge", "internal/race.Disable", "internal/race.Enable", "internal/synctest.IsInBubble", "internal/synctest.Associate[sync.WaitGroup]", "sync.fatal", "sync/atomic.OrUint64", "sync/atomic.AddUint64", "internal/race.Read", "sync/atomic.LoadUint64", "sync/atomic.StoreUint64", "internal/synctest.Disassociate[sync.WaitGroup]", "sync.runtime_Semrelease", "(*sync.WaitGroup).Done", "(*sync.WaitGroup).Wait", "internal/race.Acquire", "internal/synctest.IsAssociated[sync.WaitGroup]", "sync/atomic.CompareAndSwapUint64", "internal/race.Write", "sync.runtime_SemacquireWaitGroup"], unfollowed := true, recurses := true, leaving := true, apart := false, narrowed := true }
def FnNewGenUptoSaid : Prop := fnNewGenUptoRow.holds Try.pinned (OpenSpec.upto fnNewGenSpec)

end Rows
end Go.Proofs.Ytkkgpddpplokfaa
