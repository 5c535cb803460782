/-
  No cell of these rows narrows 'for every input' (looked for: loops, veiled, ifaces, maps, wideKeys, modest, calm, conditions, laid).
  DERIVED. THE GIVEN ROWS OF THIS SEAT. 9 by the template 'for every input the law returns true; each argument reads behind the call as it read before'; 0 by the template 'total and deterministic' (their statements: YtooegpebimpjcaaGreatTotals.lean).
  GIVEN WITH THE SEED: the statements are not yours to turn. If you find one false, say at which input.
  Laid BY PROGRAM, IN A SANDBOX (cutbox-rows.mjs): the forced cells as the released guide's own fill.sh prints them over the translation 32696ec9fafbac3e… (all of the seat's roots in one cut). By AI agents, Wed Nov 11 2026. No macro, syntax, notation, axiom, sorry.
-/
import Derived.Test.YtooegpebimpjcaaGreatChecked
import GoSem.Claim
import GoSem.ClaimJoined
import GoSem.ClaimMapViews
import Derived.JoinedTies
import Derived.KernelRfl
namespace Go.Proofs.YtooegpebimpjcaaGreat
/- THE CELL 'sum', in the pinned program and in every row, IS THE sha256 OF THE DUMP (.gsa) THAT YtooegpebimpjcaaGreatProg.lean LOADS. Nothing in Lean hashes anything: it is a label: what it is worth is what the hold of that sum in a sandbox is worth. -/
noncomputable def Tryz.pinned : Pinned := { name := "ytooegpebimpjcaagreat", sum := "32696ec9fafbac3eca7902fd81b5dcf3098fc7ea2db39d5622ab72b1f8a807a4", checked := Tryz.checked }
namespace Rows
def none {H : Type} : Left H := { results := [], args := [] }

/-- 'laws.FnExactWarpStep': WHATEVER THE INPUT: true; the input reads as it did. -/
def fnExactWarpStepSpec : ChangeSpec := { name := "fnExactWarpStep", fn := fun _ => fun
  | [d1, d2, d3] => { results := [.lit (.bool true)], args := [d1, d2, d3] }
  | _ => none }
def fnExactWarpStepRow : OpenClaim := { program := "ytooegpebimpjcaagreat", sum := "32696ec9fafbac3eca7902fd81b5dcf3098fc7ea2db39d5622ab72b1f8a807a4", func := "loop.example/g00709/laws.FnExactWarpStep", spec := "fnExactWarpStep", inPlace := ["(*internal/sync.Mutex).Lock", "internal/race.Disable", "sync/atomic.CompareAndSwapInt32", "internal/race.Enable", "internal/race.Acquire", "(*internal/sync.Mutex).lockSlow", "internal/sync.runtime_canSpin", "internal/sync.runtime_doSpin", "internal/sync.throw", "internal/sync.runtime_nanotime", "internal/sync.runtime_SemacquireMutex", "sync/atomic.AddInt32", "(*internal/sync.Mutex).Unlock", "internal/race.ReleaseMerge", "(*internal/sync.Mutex).unlockSlow", "internal/sync.fatal", "internal/sync.runtime_Semrelease"], unfollowed := true, recurses := true, apart := false }
def FnExactWarpStepSaid : Prop := fnExactWarpStepRow.holds Tryz.pinned (OpenSpec.ofChange fnExactWarpStepSpec)

/-- ITS FALSE NEIGHBOUR: 'it returns false'. Refute it at one input. -/
def fnExactWarpStepWrong : ChangeSpec := { name := "fnExactWarpStep", fn := fun _ => fun
  | [d1, d2, d3] => { results := [.lit (.bool false)], args := [d1, d2, d3] }
  | _ => none }
def FnExactWarpStepWrongFalsely : Prop := fnExactWarpStepRow.holds Tryz.pinned (OpenSpec.ofChange fnExactWarpStepWrong)

/-- 'laws.FnSubmit': WHATEVER THE INPUT: true; the input reads as it did. -/
def fnSubmitSpec : ChangeSpec := { name := "fnSubmit", fn := fun _ => fun
  | [d] => { results := [.lit (.bool true)], args := [d] }
  | _ => none }
def fnSubmitRow : OpenClaim := { program := "ytooegpebimpjcaagreat", sum := "32696ec9fafbac3eca7902fd81b5dcf3098fc7ea2db39d5622ab72b1f8a807a4", func := "loop.example/g00709/laws.FnSubmit", spec := "fnSubmit", unfollowed := true, recurses := true, apart := false }
def FnSubmitSaid : Prop := fnSubmitRow.holds Tryz.pinned (OpenSpec.ofChange fnSubmitSpec)

/-- ITS FALSE NEIGHBOUR: 'it returns false'. Refute it at one input. -/
def fnSubmitWrong : ChangeSpec := { name := "fnSubmit", fn := fun _ => fun
  | [d] => { results := [.lit (.bool false)], args := [d] }
  | _ => none }
def FnSubmitWrongFalsely : Prop := fnSubmitRow.holds Tryz.pinned (OpenSpec.ofChange fnSubmitWrong)

/-- 'laws.FnAligned': WHATEVER THE INPUT: true; the input reads as it did. -/
def fnAlignedSpec : ChangeSpec := { name := "fnAligned", fn := fun _ => fun
  | [d] => { results := [.lit (.bool true)], args := [d] }
  | _ => none }
def fnAlignedRow : OpenClaim := { program := "ytooegpebimpjcaagreat", sum := "32696ec9fafbac3eca7902fd81b5dcf3098fc7ea2db39d5622ab72b1f8a807a4", func := "loop.example/g00709/laws.FnAligned", spec := "fnAligned", inPlace := ["(*internal/sync.Mutex).Lock", "internal/race.Disable", "sync/atomic.CompareAndSwapInt32", "internal/race.Enable", "internal/race.Acquire", "(*internal/sync.Mutex).lockSlow", "internal/sync.runtime_canSpin", "internal/sync.runtime_doSpin", "internal/sync.throw", "internal/sync.runtime_nanotime", "internal/sync.runtime_SemacquireMutex", "sync/atomic.AddInt32", "(*internal/sync.Mutex).Unlock", "internal/race.ReleaseMerge", "(*internal/sync.Mutex).unlockSlow", "internal/sync.fatal", "internal/sync.runtime_Semrelease"], unfollowed := true, recurses := true, apart := false }
def FnAlignedSaid : Prop := fnAlignedRow.holds Tryz.pinned (OpenSpec.ofChange fnAlignedSpec)

/-- ITS FALSE NEIGHBOUR: 'it returns false'. Refute it at one input. -/
def fnAlignedWrong : ChangeSpec := { name := "fnAligned", fn := fun _ => fun
  | [d] => { results := [.lit (.bool false)], args := [d] }
  | _ => none }
def FnAlignedWrongFalsely : Prop := fnAlignedRow.holds Tryz.pinned (OpenSpec.ofChange fnAlignedWrong)

/-- 'laws.FnOneWord': WHATEVER THE INPUT: true; the input reads as it did. -/
def fnOneWordSpec : ChangeSpec := { name := "fnOneWord", fn := fun _ => fun
  | [d] => { results := [.lit (.bool true)], args := [d] }
  | _ => none }
def fnOneWordRow : OpenClaim := { program := "ytooegpebimpjcaagreat", sum := "32696ec9fafbac3eca7902fd81b5dcf3098fc7ea2db39d5622ab72b1f8a807a4", func := "loop.example/g00709/laws.FnOneWord", spec := "fnOneWord", inPlace := ["(*internal/sync.Mutex).Lock", "internal/race.Disable", "sync/atomic.CompareAndSwapInt32", "internal/race.Enable", "internal/race.Acquire", "(*internal/sync.Mutex).lockSlow", "internal/sync.runtime_canSpin", "internal/sync.runtime_doSpin", "internal/sync.throw", "internal/sync.runtime_nanotime", "internal/sync.runtime_SemacquireMutex", "sync/atomic.AddInt32", "(*internal/sync.Mutex).Unlock", "internal/race.ReleaseMerge", "(*internal/sync.Mutex).unlockSlow", "internal/sync.fatal", "internal/sync.runtime_Semrelease"], unfollowed := true, recurses := true, apart := false }
def FnOneWordSaid : Prop := fnOneWordRow.holds Tryz.pinned (OpenSpec.ofChange fnOneWordSpec)

/-- ITS FALSE NEIGHBOUR: 'it returns false'. Refute it at one input. -/
def fnOneWordWrong : ChangeSpec := { name := "fnOneWord", fn := fun _ => fun
  | [d] => { results := [.lit (.bool false)], args := [d] }
  | _ => none }
def FnOneWordWrongFalsely : Prop := fnOneWordRow.holds Tryz.pinned (OpenSpec.ofChange fnOneWordWrong)

/-- 'laws.FnExactMachDo': WHATEVER THE INPUT: true; the input reads as it did. -/
def fnExactMachDoSpec : ChangeSpec := { name := "fnExactMachDo", fn := fun _ => fun
  | [d1, d2] => { results := [.lit (.bool true)], args := [d1, d2] }
  | _ => none }
def fnExactMachDoRow : OpenClaim := { program := "ytooegpebimpjcaagreat", sum := "32696ec9fafbac3eca7902fd81b5dcf3098fc7ea2db39d5622ab72b1f8a807a4", func := "loop.example/g00709/laws.FnExactMachDo", spec := "fnExactMachDo", inPlace := ["(*internal/sync.Mutex).Lock", "internal/race.Disable", "sync/atomic.CompareAndSwapInt32", "internal/race.Enable", "internal/race.Acquire", "(*internal/sync.Mutex).lockSlow", "internal/sync.runtime_canSpin", "internal/sync.runtime_doSpin", "internal/sync.throw", "internal/sync.runtime_nanotime", "internal/sync.runtime_SemacquireMutex", "sync/atomic.AddInt32", "(*internal/sync.Mutex).Unlock", "internal/race.ReleaseMerge", "(*internal/sync.Mutex).unlockSlow", "internal/sync.fatal", "internal/sync.runtime_Semrelease"], unfollowed := true, recurses := true, apart := false }
def FnExactMachDoSaid : Prop := fnExactMachDoRow.holds Tryz.pinned (OpenSpec.ofChange fnExactMachDoSpec)

/-- ITS FALSE NEIGHBOUR: 'it returns false'. Refute it at one input. -/
def fnExactMachDoWrong : ChangeSpec := { name := "fnExactMachDo", fn := fun _ => fun
  | [d1, d2] => { results := [.lit (.bool false)], args := [d1, d2] }
  | _ => none }
def FnExactMachDoWrongFalsely : Prop := fnExactMachDoRow.holds Tryz.pinned (OpenSpec.ofChange fnExactMachDoWrong)

/-- 'laws.FnExactMachRun': WHATEVER THE INPUT: true; the input reads as it did. -/
def fnExactMachRunSpec : ChangeSpec := { name := "fnExactMachRun", fn := fun _ => fun
  | [d1, d2] => { results := [.lit (.bool true)], args := [d1, d2] }
  | _ => none }
def fnExactMachRunRow : OpenClaim := { program := "ytooegpebimpjcaagreat", sum := "32696ec9fafbac3eca7902fd81b5dcf3098fc7ea2db39d5622ab72b1f8a807a4", func := "loop.example/g00709/laws.FnExactMachRun", spec := "fnExactMachRun", inPlace := ["(*internal/sync.Mutex).Lock", "internal/race.Disable", "sync/atomic.CompareAndSwapInt32", "internal/race.Enable", "internal/race.Acquire", "(*internal/sync.Mutex).lockSlow", "internal/sync.runtime_canSpin", "internal/sync.runtime_doSpin", "internal/sync.throw", "internal/sync.runtime_nanotime", "internal/sync.runtime_SemacquireMutex", "sync/atomic.AddInt32", "(*internal/sync.Mutex).Unlock", "internal/race.ReleaseMerge", "(*internal/sync.Mutex).unlockSlow", "internal/sync.fatal", "internal/sync.runtime_Semrelease"], unfollowed := true, recurses := true, apart := false }
def FnExactMachRunSaid : Prop := fnExactMachRunRow.holds Tryz.pinned (OpenSpec.ofChange fnExactMachRunSpec)

/-- ITS FALSE NEIGHBOUR: 'it returns false'. Refute it at one input. -/
def fnExactMachRunWrong : ChangeSpec := { name := "fnExactMachRun", fn := fun _ => fun
  | [d1, d2] => { results := [.lit (.bool false)], args := [d1, d2] }
  | _ => none }
def FnExactMachRunWrongFalsely : Prop := fnExactMachRunRow.holds Tryz.pinned (OpenSpec.ofChange fnExactMachRunWrong)

/-- 'laws.FnExactOwners': WHATEVER THE INPUT: true; the input reads as it did. -/
def fnExactOwnersSpec : ChangeSpec := { name := "fnExactOwners", fn := fun _ => fun
  | [d] => { results := [.lit (.bool true)], args := [d] }
  | _ => none }
def fnExactOwnersRow : OpenClaim := { program := "ytooegpebimpjcaagreat", sum := "32696ec9fafbac3eca7902fd81b5dcf3098fc7ea2db39d5622ab72b1f8a807a4", func := "loop.example/g00709/laws.FnExactOwners", spec := "fnExactOwners", unfollowed := true, recurses := true, apart := false }
def FnExactOwnersSaid : Prop := fnExactOwnersRow.holds Tryz.pinned (OpenSpec.ofChange fnExactOwnersSpec)

/-- ITS FALSE NEIGHBOUR: 'it returns false'. Refute it at one input. -/
def fnExactOwnersWrong : ChangeSpec := { name := "fnExactOwners", fn := fun _ => fun
  | [d] => { results := [.lit (.bool false)], args := [d] }
  | _ => none }
def FnExactOwnersWrongFalsely : Prop := fnExactOwnersRow.holds Tryz.pinned (OpenSpec.ofChange fnExactOwnersWrong)

/-- 'laws.FnOwners': WHATEVER THE INPUT: true; the input reads as it did. -/
def fnOwnersSpec : ChangeSpec := { name := "fnOwners", fn := fun _ => fun
  | [d] => { results := [.lit (.bool true)], args := [d] }
  | _ => none }
def fnOwnersRow : OpenClaim := { program := "ytooegpebimpjcaagreat", sum := "32696ec9fafbac3eca7902fd81b5dcf3098fc7ea2db39d5622ab72b1f8a807a4", func := "loop.example/g00709/laws.FnOwners", spec := "fnOwners", inPlace := ["(*internal/sync.Mutex).Lock", "internal/race.Disable", "sync/atomic.CompareAndSwapInt32", "internal/race.Enable", "internal/race.Acquire", "(*internal/sync.Mutex).lockSlow", "internal/sync.runtime_canSpin", "internal/sync.runtime_doSpin", "internal/sync.throw", "internal/sync.runtime_nanotime", "internal/sync.runtime_SemacquireMutex", "sync/atomic.AddInt32", "(*internal/sync.Mutex).Unlock", "internal/race.ReleaseMerge", "(*internal/sync.Mutex).unlockSlow", "internal/sync.fatal", "internal/sync.runtime_Semrelease"], unfollowed := true, recurses := true, apart := false }
def FnOwnersSaid : Prop := fnOwnersRow.holds Tryz.pinned (OpenSpec.ofChange fnOwnersSpec)

/-- ITS FALSE NEIGHBOUR: 'it returns false'. Refute it at one input. -/
def fnOwnersWrong : ChangeSpec := { name := "fnOwners", fn := fun _ => fun
  | [d] => { results := [.lit (.bool false)], args := [d] }
  | _ => none }
def FnOwnersWrongFalsely : Prop := fnOwnersRow.holds Tryz.pinned (OpenSpec.ofChange fnOwnersWrong)

/-- 'laws.FnMachRun': WHATEVER THE INPUT: true; the input reads as it did. -/
def fnMachRunSpec : ChangeSpec := { name := "fnMachRun", fn := fun _ => fun
  | [d] => { results := [.lit (.bool true)], args := [d] }
  | _ => none }
def fnMachRunRow : OpenClaim := { program := "ytooegpebimpjcaagreat", sum := "32696ec9fafbac3eca7902fd81b5dcf3098fc7ea2db39d5622ab72b1f8a807a4", func := "loop.example/g00709/laws.FnMachRun", spec := "fnMachRun", inPlace := ["(*internal/sync.Mutex).Lock", "internal/race.Disable", "sync/atomic.CompareAndSwapInt32", "internal/race.Enable", "internal/race.Acquire", "(*internal/sync.Mutex).lockSlow", "internal/sync.runtime_canSpin", "internal/sync.runtime_doSpin", "internal/sync.throw", "internal/sync.runtime_nanotime", "internal/sync.runtime_SemacquireMutex", "sync/atomic.AddInt32", "(*internal/sync.Mutex).Unlock", "internal/race.ReleaseMerge", "(*internal/sync.Mutex).unlockSlow", "internal/sync.fatal", "internal/sync.runtime_Semrelease"], unfollowed := true, recurses := true, apart := false }
def FnMachRunSaid : Prop := fnMachRunRow.holds Tryz.pinned (OpenSpec.ofChange fnMachRunSpec)

/-- ITS FALSE NEIGHBOUR: 'it returns false'. Refute it at one input. -/
def fnMachRunWrong : ChangeSpec := { name := "fnMachRun", fn := fun _ => fun
  | [d] => { results := [.lit (.bool false)], args := [d] }
  | _ => none }
def FnMachRunWrongFalsely : Prop := fnMachRunRow.holds Tryz.pinned (OpenSpec.ofChange fnMachRunWrong)

/- THE SECOND FORM. 'bulk': how many values and letters a reading holds, each counted each time it is reached (what is shared counts as often as it is met; a slice's spare places count too). A statement '..UptoSaid' is the law's where the arguments, and the package variables that the reading takes, are together of bulk at most 1048576: NARROWER than '..Said'. Prove '..Said' where nothing that the law and all that it calls make is longer than what came in: it says more and counts as full. Else prove '..UptoSaid'. A law counts once. -/
mutual
def uptoBulk {H : Type} : DataW H → Nat
  | .lit (.string bytes) => bytes.length + 1
  | .lit _ => 1
  | .nil => 1
  | .ptr d => uptoBulk d + 1
  | .slice elems spare => uptoBulkAll elems + uptoBulkAll spare + 1
  | .agg parts => uptoBulkAll parts + 1
  | .iface _ d => uptoBulk d + 1
  | .map entries => uptoBulkEntries entries + 1
  | .held _ => 1
def uptoBulkAll {H : Type} : List (DataW H) → Nat
  | [] => 0
  | d :: r => uptoBulk d + uptoBulkAll r
def uptoBulkEntries {H : Type} : List (Lit × DataW H) → Nat
  | [] => 0
  | x :: r => uptoBulkEntry x + uptoBulkEntries r
def uptoBulkEntry {H : Type} : Lit × DataW H → Nat
  | (.string bytes, d) => bytes.length + uptoBulk d + 1
  | (_, d) => uptoBulk d + 1
 end
def uptoSmall : (H : Type) → List (DataW H) → Bool := fun _ ds => decide (uptoBulkAll ds ≤ 1048576)
def OpenSpec.upto (s : _root_.Go.ChangeSpec) : _root_.Go.OpenSpec := { _root_.Go.OpenSpec.ofChange s with cond := some uptoSmall }

/-- 'laws.FnExactWarpStep', WHERE WHAT IT READS IS OF BULK AT MOST 1048576: true; the input reads as it did. -/
def fnExactWarpStepUptoRow : OpenClaim := { program := "ytooegpebimpjcaagreat", sum := "32696ec9fafbac3eca7902fd81b5dcf3098fc7ea2db39d5622ab72b1f8a807a4", func := "loop.example/g00709/laws.FnExactWarpStep", spec := "fnExactWarpStep", inPlace := ["(*internal/sync.Mutex).Lock", "internal/race.Disable", "sync/atomic.CompareAndSwapInt32", "internal/race.Enable", "internal/race.Acquire", "(*internal/sync.Mutex).lockSlow", "internal/sync.runtime_canSpin", "internal/sync.runtime_doSpin", "internal/sync.throw", "internal/sync.runtime_nanotime", "internal/sync.runtime_SemacquireMutex", "sync/atomic.AddInt32", "(*internal/sync.Mutex).Unlock", "internal/race.ReleaseMerge", "(*internal/sync.Mutex).unlockSlow", "internal/sync.fatal", "internal/sync.runtime_Semrelease"], unfollowed := true, recurses := true, apart := false, narrowed := true }
def FnExactWarpStepUptoSaid : Prop := fnExactWarpStepUptoRow.holds Tryz.pinned (OpenSpec.upto fnExactWarpStepSpec)

/-- 'laws.FnSubmit', WHERE WHAT IT READS IS OF BULK AT MOST 1048576: true; the input reads as it did. -/
def fnSubmitUptoRow : OpenClaim := { program := "ytooegpebimpjcaagreat", sum := "32696ec9fafbac3eca7902fd81b5dcf3098fc7ea2db39d5622ab72b1f8a807a4", func := "loop.example/g00709/laws.FnSubmit", spec := "fnSubmit", unfollowed := true, recurses := true, apart := false, narrowed := true }
def FnSubmitUptoSaid : Prop := fnSubmitUptoRow.holds Tryz.pinned (OpenSpec.upto fnSubmitSpec)

/-- 'laws.FnAligned', WHERE WHAT IT READS IS OF BULK AT MOST 1048576: true; the input reads as it did. -/
def fnAlignedUptoRow : OpenClaim := { program := "ytooegpebimpjcaagreat", sum := "32696ec9fafbac3eca7902fd81b5dcf3098fc7ea2db39d5622ab72b1f8a807a4", func := "loop.example/g00709/laws.FnAligned", spec := "fnAligned", inPlace := ["(*internal/sync.Mutex).Lock", "internal/race.Disable", "sync/atomic.CompareAndSwapInt32", "internal/race.Enable", "internal/race.Acquire", "(*internal/sync.Mutex).lockSlow", "internal/sync.runtime_canSpin", "internal/sync.runtime_doSpin", "internal/sync.throw", "internal/sync.runtime_nanotime", "internal/sync.runtime_SemacquireMutex", "sync/atomic.AddInt32", "(*internal/sync.Mutex).Unlock", "internal/race.ReleaseMerge", "(*internal/sync.Mutex).unlockSlow", "internal/sync.fatal", "internal/sync.runtime_Semrelease"], unfollowed := true, recurses := true, apart := false, narrowed := true }
def FnAlignedUptoSaid : Prop := fnAlignedUptoRow.holds Tryz.pinned (OpenSpec.upto fnAlignedSpec)

/-- 'laws.FnOneWord', WHERE WHAT IT READS IS OF BULK AT MOST 1048576: true; the input reads as it did. -/
def fnOneWordUptoRow : OpenClaim := { program := "ytooegpebimpjcaagreat", sum := "32696ec9fafbac3eca7902fd81b5dcf3098fc7ea2db39d5622ab72b1f8a807a4", func := "loop.example/g00709/laws.FnOneWord", spec := "fnOneWord", inPlace := ["(*internal/sync.Mutex).Lock", "internal/race.Disable", "sync/atomic.CompareAndSwapInt32", "internal/race.Enable", "internal/race.Acquire", "(*internal/sync.Mutex).lockSlow", "internal/sync.runtime_canSpin", "internal/sync.runtime_doSpin", "internal/sync.throw", "internal/sync.runtime_nanotime", "internal/sync.runtime_SemacquireMutex", "sync/atomic.AddInt32", "(*internal/sync.Mutex).Unlock", "internal/race.ReleaseMerge", "(*internal/sync.Mutex).unlockSlow", "internal/sync.fatal", "internal/sync.runtime_Semrelease"], unfollowed := true, recurses := true, apart := false, narrowed := true }
def FnOneWordUptoSaid : Prop := fnOneWordUptoRow.holds Tryz.pinned (OpenSpec.upto fnOneWordSpec)

/-- 'laws.FnExactMachDo', WHERE WHAT IT READS IS OF BULK AT MOST 1048576: true; the input reads as it did. -/
def fnExactMachDoUptoRow : OpenClaim := { program := "ytooegpebimpjcaagreat", sum := "32696ec9fafbac3eca7902fd81b5dcf3098fc7ea2db39d5622ab72b1f8a807a4", func := "loop.example/g00709/laws.FnExactMachDo", spec := "fnExactMachDo", inPlace := ["(*internal/sync.Mutex).Lock", "internal/race.Disable", "sync/atomic.CompareAndSwapInt32", "internal/race.Enable", "internal/race.Acquire", "(*internal/sync.Mutex).lockSlow", "internal/sync.runtime_canSpin", "internal/sync.runtime_doSpin", "internal/sync.throw", "internal/sync.runtime_nanotime", "internal/sync.runtime_SemacquireMutex", "sync/atomic.AddInt32", "(*internal/sync.Mutex).Unlock", "internal/race.ReleaseMerge", "(*internal/sync.Mutex).unlockSlow", "internal/sync.fatal", "internal/sync.runtime_Semrelease"], unfollowed := true, recurses := true, apart := false, narrowed := true }
def FnExactMachDoUptoSaid : Prop := fnExactMachDoUptoRow.holds Tryz.pinned (OpenSpec.upto fnExactMachDoSpec)

/-- 'laws.FnExactMachRun', WHERE WHAT IT READS IS OF BULK AT MOST 1048576: true; the input reads as it did. -/
def fnExactMachRunUptoRow : OpenClaim := { program := "ytooegpebimpjcaagreat", sum := "32696ec9fafbac3eca7902fd81b5dcf3098fc7ea2db39d5622ab72b1f8a807a4", func := "loop.example/g00709/laws.FnExactMachRun", spec := "fnExactMachRun", inPlace := ["(*internal/sync.Mutex).Lock", "internal/race.Disable", "sync/atomic.CompareAndSwapInt32", "internal/race.Enable", "internal/race.Acquire", "(*internal/sync.Mutex).lockSlow", "internal/sync.runtime_canSpin", "internal/sync.runtime_doSpin", "internal/sync.throw", "internal/sync.runtime_nanotime", "internal/sync.runtime_SemacquireMutex", "sync/atomic.AddInt32", "(*internal/sync.Mutex).Unlock", "internal/race.ReleaseMerge", "(*internal/sync.Mutex).unlockSlow", "internal/sync.fatal", "internal/sync.runtime_Semrelease"], unfollowed := true, recurses := true, apart := false, narrowed := true }
def FnExactMachRunUptoSaid : Prop := fnExactMachRunUptoRow.holds Tryz.pinned (OpenSpec.upto fnExactMachRunSpec)

/-- 'laws.FnExactOwners', WHERE WHAT IT READS IS OF BULK AT MOST 1048576: true; the input reads as it did. -/
def fnExactOwnersUptoRow : OpenClaim := { program := "ytooegpebimpjcaagreat", sum := "32696ec9fafbac3eca7902fd81b5dcf3098fc7ea2db39d5622ab72b1f8a807a4", func := "loop.example/g00709/laws.FnExactOwners", spec := "fnExactOwners", unfollowed := true, recurses := true, apart := false, narrowed := true }
def FnExactOwnersUptoSaid : Prop := fnExactOwnersUptoRow.holds Tryz.pinned (OpenSpec.upto fnExactOwnersSpec)

/-- 'laws.FnOwners', WHERE WHAT IT READS IS OF BULK AT MOST 1048576: true; the input reads as it did. -/
def fnOwnersUptoRow : OpenClaim := { program := "ytooegpebimpjcaagreat", sum := "32696ec9fafbac3eca7902fd81b5dcf3098fc7ea2db39d5622ab72b1f8a807a4", func := "loop.example/g00709/laws.FnOwners", spec := "fnOwners", inPlace := ["(*internal/sync.Mutex).Lock", "internal/race.Disable", "sync/atomic.CompareAndSwapInt32", "internal/race.Enable", "internal/race.Acquire", "(*internal/sync.Mutex).lockSlow", "internal/sync.runtime_canSpin", "internal/sync.runtime_doSpin", "internal/sync.throw", "internal/sync.runtime_nanotime", "internal/sync.runtime_SemacquireMutex", "sync/atomic.AddInt32", "(*internal/sync.Mutex).Unlock", "internal/race.ReleaseMerge", "(*internal/sync.Mutex).unlockSlow", "internal/sync.fatal", "internal/sync.runtime_Semrelease"], unfollowed := true, recurses := true, apart := false, narrowed := true }
def FnOwnersUptoSaid : Prop := fnOwnersUptoRow.holds Tryz.pinned (OpenSpec.upto fnOwnersSpec)

/-- 'laws.FnMachRun', WHERE WHAT IT READS IS OF BULK AT MOST 1048576: true; the input reads as it did. -/
def fnMachRunUptoRow : OpenClaim := { program := "ytooegpebimpjcaagreat", sum := "32696ec9fafbac3eca7902fd81b5dcf3098fc7ea2db39d5622ab72b1f8a807a4", func := "loop.example/g00709/laws.FnMachRun", spec := "fnMachRun", inPlace := ["(*internal/sync.Mutex).Lock", "internal/race.Disable", "sync/atomic.CompareAndSwapInt32", "internal/race.Enable", "internal/race.Acquire", "(*internal/sync.Mutex).lockSlow", "internal/sync.runtime_canSpin", "internal/sync.runtime_doSpin", "internal/sync.throw", "internal/sync.runtime_nanotime", "internal/sync.runtime_SemacquireMutex", "sync/atomic.AddInt32", "(*internal/sync.Mutex).Unlock", "internal/race.ReleaseMerge", "(*internal/sync.Mutex).unlockSlow", "internal/sync.fatal", "internal/sync.runtime_Semrelease"], unfollowed := true, recurses := true, apart := false, narrowed := true }
def FnMachRunUptoSaid : Prop := fnMachRunUptoRow.holds Tryz.pinned (OpenSpec.upto fnMachRunSpec)

end Rows
end Go.Proofs.YtooegpebimpjcaaGreat
