/-
  No cell of these rows narrows 'for every input' (looked for: loops, veiled, ifaces, maps, wideKeys, modest, calm, conditions, laid).
  DERIVED. THE GIVEN ROWS OF THIS SEAT. 10 by the template 'for every input the law returns true; each argument reads behind the call as it read before'; 0 by the template 'total and deterministic' (their statements: YtomcdfaomfkmjaaTotals.lean).
  GIVEN WITH THE SEED: the statements are not yours to turn. If you find one false, say at which input.
  Laid BY PROGRAM, IN A SANDBOX (cutbox-rows.mjs): the forced cells as the released guide's own fill.sh prints them over the translation 7eaf54bad3ae30d9… (all of the seat's roots in one cut). By AI agents, Wed Nov 11 2026. No macro, syntax, notation, axiom, sorry.
-/
import Derived.Test.YtomcdfaomfkmjaaChecked
import GoSem.Claim
import GoSem.ClaimJoined
import GoSem.ClaimMapViews
import Derived.JoinedTies
import Derived.KernelRfl
namespace Go.Proofs.Ytomcdfaomfkmjaa
/- THE CELL 'sum', in the pinned program and in every row, IS THE sha256 OF THE DUMP (.gsa) THAT YtomcdfaomfkmjaaProg.lean LOADS. Nothing in Lean hashes anything: it is a label: what it is worth is what the hold of that sum in a sandbox is worth. -/
noncomputable def Try.pinned : Pinned := { name := "ytomcdfaomfkmjaa", sum := "7eaf54bad3ae30d953fe0c30bb3c242fbccbacf614ee435d053347c81848e9b1", checked := Try.checked }
namespace Rows
def none {H : Type} : Left H := { results := [], args := [] }

/-- 'laws.FnClaim': WHATEVER THE INPUT: true; the input reads as it did. -/
def fnClaimSpec : ChangeSpec := { name := "fnClaim", fn := fun _ => fun
  | [d] => { results := [.lit (.bool true)], args := [d] }
  | _ => none }
def fnClaimRow : OpenClaim := { program := "ytomcdfaomfkmjaa", sum := "7eaf54bad3ae30d953fe0c30bb3c242fbccbacf614ee435d053347c81848e9b1", func := "loop.example/g00709/laws.FnClaim", spec := "fnClaim", unfollowed := true, recurses := true, apart := false }
def FnClaimSaid : Prop := fnClaimRow.holds Try.pinned (OpenSpec.ofChange fnClaimSpec)

/-- ITS FALSE NEIGHBOUR: 'it returns false'. Refute it at one input. -/
def fnClaimWrong : ChangeSpec := { name := "fnClaim", fn := fun _ => fun
  | [d] => { results := [.lit (.bool false)], args := [d] }
  | _ => none }
def FnClaimWrongFalsely : Prop := fnClaimRow.holds Try.pinned (OpenSpec.ofChange fnClaimWrong)

/-- 'laws.FnRelease': WHATEVER THE INPUT: true; the input reads as it did. -/
def fnReleaseSpec : ChangeSpec := { name := "fnRelease", fn := fun _ => fun
  | [d] => { results := [.lit (.bool true)], args := [d] }
  | _ => none }
def fnReleaseRow : OpenClaim := { program := "ytomcdfaomfkmjaa", sum := "7eaf54bad3ae30d953fe0c30bb3c242fbccbacf614ee435d053347c81848e9b1", func := "loop.example/g00709/laws.FnRelease", spec := "fnRelease", unfollowed := true, recurses := true, apart := false }
def FnReleaseSaid : Prop := fnReleaseRow.holds Try.pinned (OpenSpec.ofChange fnReleaseSpec)

/-- ITS FALSE NEIGHBOUR: 'it returns false'. Refute it at one input. -/
def fnReleaseWrong : ChangeSpec := { name := "fnRelease", fn := fun _ => fun
  | [d] => { results := [.lit (.bool false)], args := [d] }
  | _ => none }
def FnReleaseWrongFalsely : Prop := fnReleaseRow.holds Try.pinned (OpenSpec.ofChange fnReleaseWrong)

/-- 'laws.FnHead': WHATEVER THE INPUT: true; the input reads as it did. -/
def fnHeadSpec : ChangeSpec := { name := "fnHead", fn := fun _ => fun
  | [d] => { results := [.lit (.bool true)], args := [d] }
  | _ => none }
def fnHeadRow : OpenClaim := { program := "ytomcdfaomfkmjaa", sum := "7eaf54bad3ae30d953fe0c30bb3c242fbccbacf614ee435d053347c81848e9b1", func := "loop.example/g00709/laws.FnHead", spec := "fnHead", unfollowed := true, recurses := true, apart := false }
def FnHeadSaid : Prop := fnHeadRow.holds Try.pinned (OpenSpec.ofChange fnHeadSpec)

/-- ITS FALSE NEIGHBOUR: 'it returns false'. Refute it at one input. -/
def fnHeadWrong : ChangeSpec := { name := "fnHead", fn := fun _ => fun
  | [d] => { results := [.lit (.bool false)], args := [d] }
  | _ => none }
def FnHeadWrongFalsely : Prop := fnHeadRow.holds Try.pinned (OpenSpec.ofChange fnHeadWrong)

/-- 'laws.FnExactRoom': WHATEVER THE INPUT: true; the input reads as it did. -/
def fnExactRoomSpec : ChangeSpec := { name := "fnExactRoom", fn := fun _ => fun
  | [d1, d2] => { results := [.lit (.bool true)], args := [d1, d2] }
  | _ => none }
def fnExactRoomRow : OpenClaim := { program := "ytomcdfaomfkmjaa", sum := "7eaf54bad3ae30d953fe0c30bb3c242fbccbacf614ee435d053347c81848e9b1", func := "loop.example/g00709/laws.FnExactRoom", spec := "fnExactRoom", unfollowed := true, recurses := true, apart := false }
def FnExactRoomSaid : Prop := fnExactRoomRow.holds Try.pinned (OpenSpec.ofChange fnExactRoomSpec)

/-- ITS FALSE NEIGHBOUR: 'it returns false'. Refute it at one input. -/
def fnExactRoomWrong : ChangeSpec := { name := "fnExactRoom", fn := fun _ => fun
  | [d1, d2] => { results := [.lit (.bool false)], args := [d1, d2] }
  | _ => none }
def FnExactRoomWrongFalsely : Prop := fnExactRoomRow.holds Try.pinned (OpenSpec.ofChange fnExactRoomWrong)

/-- 'laws.FnExactClaim': WHATEVER THE INPUT: true; the input reads as it did. -/
def fnExactClaimSpec : ChangeSpec := { name := "fnExactClaim", fn := fun _ => fun
  | [d1, d2, d3] => { results := [.lit (.bool true)], args := [d1, d2, d3] }
  | _ => none }
def fnExactClaimRow : OpenClaim := { program := "ytomcdfaomfkmjaa", sum := "7eaf54bad3ae30d953fe0c30bb3c242fbccbacf614ee435d053347c81848e9b1", func := "loop.example/g00709/laws.FnExactClaim", spec := "fnExactClaim", unfollowed := true, recurses := true, apart := false }
def FnExactClaimSaid : Prop := fnExactClaimRow.holds Try.pinned (OpenSpec.ofChange fnExactClaimSpec)

/-- ITS FALSE NEIGHBOUR: 'it returns false'. Refute it at one input. -/
def fnExactClaimWrong : ChangeSpec := { name := "fnExactClaim", fn := fun _ => fun
  | [d1, d2, d3] => { results := [.lit (.bool false)], args := [d1, d2, d3] }
  | _ => none }
def FnExactClaimWrongFalsely : Prop := fnExactClaimRow.holds Try.pinned (OpenSpec.ofChange fnExactClaimWrong)

/-- 'laws.FnExactRelease': WHATEVER THE INPUT: true; the input reads as it did. -/
def fnExactReleaseSpec : ChangeSpec := { name := "fnExactRelease", fn := fun _ => fun
  | [d1, d2] => { results := [.lit (.bool true)], args := [d1, d2] }
  | _ => none }
def fnExactReleaseRow : OpenClaim := { program := "ytomcdfaomfkmjaa", sum := "7eaf54bad3ae30d953fe0c30bb3c242fbccbacf614ee435d053347c81848e9b1", func := "loop.example/g00709/laws.FnExactRelease", spec := "fnExactRelease", apart := false }
def FnExactReleaseSaid : Prop := fnExactReleaseRow.holds Try.pinned (OpenSpec.ofChange fnExactReleaseSpec)

/-- ITS FALSE NEIGHBOUR: 'it returns false'. Refute it at one input. -/
def fnExactReleaseWrong : ChangeSpec := { name := "fnExactRelease", fn := fun _ => fun
  | [d1, d2] => { results := [.lit (.bool false)], args := [d1, d2] }
  | _ => none }
def FnExactReleaseWrongFalsely : Prop := fnExactReleaseRow.holds Try.pinned (OpenSpec.ofChange fnExactReleaseWrong)

/-- 'laws.FnExactBlockAt': WHATEVER THE INPUT: true; the input reads as it did. -/
def fnExactBlockAtSpec : ChangeSpec := { name := "fnExactBlockAt", fn := fun _ => fun
  | [d1, d2] => { results := [.lit (.bool true)], args := [d1, d2] }
  | _ => none }
def fnExactBlockAtRow : OpenClaim := { program := "ytomcdfaomfkmjaa", sum := "7eaf54bad3ae30d953fe0c30bb3c242fbccbacf614ee435d053347c81848e9b1", func := "loop.example/g00709/laws.FnExactBlockAt", spec := "fnExactBlockAt", apart := false }
def FnExactBlockAtSaid : Prop := fnExactBlockAtRow.holds Try.pinned (OpenSpec.ofChange fnExactBlockAtSpec)

/-- ITS FALSE NEIGHBOUR: 'it returns false'. Refute it at one input. -/
def fnExactBlockAtWrong : ChangeSpec := { name := "fnExactBlockAt", fn := fun _ => fun
  | [d1, d2] => { results := [.lit (.bool false)], args := [d1, d2] }
  | _ => none }
def FnExactBlockAtWrongFalsely : Prop := fnExactBlockAtRow.holds Try.pinned (OpenSpec.ofChange fnExactBlockAtWrong)

/-- 'laws.FnExactHeadWord': WHATEVER THE INPUT: true; the input reads as it did. -/
def fnExactHeadWordSpec : ChangeSpec := { name := "fnExactHeadWord", fn := fun _ => fun
  | [d] => { results := [.lit (.bool true)], args := [d] }
  | _ => none }
def fnExactHeadWordRow : OpenClaim := { program := "ytomcdfaomfkmjaa", sum := "7eaf54bad3ae30d953fe0c30bb3c242fbccbacf614ee435d053347c81848e9b1", func := "loop.example/g00709/laws.FnExactHeadWord", spec := "fnExactHeadWord", apart := false }
def FnExactHeadWordSaid : Prop := fnExactHeadWordRow.holds Try.pinned (OpenSpec.ofChange fnExactHeadWordSpec)

/-- ITS FALSE NEIGHBOUR: 'it returns false'. Refute it at one input. -/
def fnExactHeadWordWrong : ChangeSpec := { name := "fnExactHeadWord", fn := fun _ => fun
  | [d] => { results := [.lit (.bool false)], args := [d] }
  | _ => none }
def FnExactHeadWordWrongFalsely : Prop := fnExactHeadWordRow.holds Try.pinned (OpenSpec.ofChange fnExactHeadWordWrong)

/-- 'laws.FnExactHeldWord': WHATEVER THE INPUT: true; the input reads as it did. -/
def fnExactHeldWordSpec : ChangeSpec := { name := "fnExactHeldWord", fn := fun _ => fun
  | [] => { results := [.lit (.bool true)], args := [] }
  | _ => none }
def fnExactHeldWordRow : OpenClaim := { program := "ytomcdfaomfkmjaa", sum := "7eaf54bad3ae30d953fe0c30bb3c242fbccbacf614ee435d053347c81848e9b1", func := "loop.example/g00709/laws.FnExactHeldWord", spec := "fnExactHeldWord", apart := false }
def FnExactHeldWordSaid : Prop := fnExactHeldWordRow.holds Try.pinned (OpenSpec.ofChange fnExactHeldWordSpec)

/-- ITS FALSE NEIGHBOUR: 'it returns false'. Refute it at one input. -/
def fnExactHeldWordWrong : ChangeSpec := { name := "fnExactHeldWord", fn := fun _ => fun
  | [] => { results := [.lit (.bool false)], args := [] }
  | _ => none }
def FnExactHeldWordWrongFalsely : Prop := fnExactHeldWordRow.holds Try.pinned (OpenSpec.ofChange fnExactHeldWordWrong)

/-- 'laws.FnExactTakenWords': WHATEVER THE INPUT: true; the input reads as it did. -/
def fnExactTakenWordsSpec : ChangeSpec := { name := "fnExactTakenWords", fn := fun _ => fun
  | [d] => { results := [.lit (.bool true)], args := [d] }
  | _ => none }
def fnExactTakenWordsRow : OpenClaim := { program := "ytomcdfaomfkmjaa", sum := "7eaf54bad3ae30d953fe0c30bb3c242fbccbacf614ee435d053347c81848e9b1", func := "loop.example/g00709/laws.FnExactTakenWords", spec := "fnExactTakenWords", unfollowed := true, recurses := true, apart := false }
def FnExactTakenWordsSaid : Prop := fnExactTakenWordsRow.holds Try.pinned (OpenSpec.ofChange fnExactTakenWordsSpec)

/-- ITS FALSE NEIGHBOUR: 'it returns false'. Refute it at one input. -/
def fnExactTakenWordsWrong : ChangeSpec := { name := "fnExactTakenWords", fn := fun _ => fun
  | [d] => { results := [.lit (.bool false)], args := [d] }
  | _ => none }
def FnExactTakenWordsWrongFalsely : Prop := fnExactTakenWordsRow.holds Try.pinned (OpenSpec.ofChange fnExactTakenWordsWrong)

/- THE SECOND FORM. 'bulk': how many values and letters a reading holds, each counted each time it is reached (what is shared counts as often as it is met; a slice's spare places count too). A statement '..UptoSaid' is the law's where the arguments, and the package variables that the reading takes, are together of bulk at most 1048576: NARROWER than '..Said'. Prove '..Said' where nothing that the law and all that it calls make is longer than what came in: it says more and counts as full. Else prove '..UptoSaid'. A law counts once. -/
mutual
def uptoBulk {H : Type} : DataW H → Nat
  | .lit (.string bytes) => bytes.length + 1
  | .lit _ => 1
  | .nil => 1
  | .ptr d => uptoBulk d + 1
  | .slice elems spare => uptoBulkAll elems + uptoBulkAll spare + 1
  | .agg parts => uptoBulkAll parts + 1
  | .iface _ d => uptoBulk d + 1
  | .map entries => uptoBulkEntries entries + 1
  | .held _ => 1
def uptoBulkAll {H : Type} : List (DataW H) → Nat
  | [] => 0
  | d :: r => uptoBulk d + uptoBulkAll r
def uptoBulkEntries {H : Type} : List (Lit × DataW H) → Nat
  | [] => 0
  | x :: r => uptoBulkEntry x + uptoBulkEntries r
def uptoBulkEntry {H : Type} : Lit × DataW H → Nat
  | (.string bytes, d) => bytes.length + uptoBulk d + 1
  | (_, d) => uptoBulk d + 1
 end
def uptoSmall : (H : Type) → List (DataW H) → Bool := fun _ ds => decide (uptoBulkAll ds ≤ 1048576)
def OpenSpec.upto (s : _root_.Go.ChangeSpec) : _root_.Go.OpenSpec := { _root_.Go.OpenSpec.ofChange s with cond := some uptoSmall }

/-- 'laws.FnClaim', WHERE WHAT IT READS IS OF BULK AT MOST 1048576: true; the input reads as it did. -/
def fnClaimUptoRow : OpenClaim := { program := "ytomcdfaomfkmjaa", sum := "7eaf54bad3ae30d953fe0c30bb3c242fbccbacf614ee435d053347c81848e9b1", func := "loop.example/g00709/laws.FnClaim", spec := "fnClaim", unfollowed := true, recurses := true, apart := false, narrowed := true }
def FnClaimUptoSaid : Prop := fnClaimUptoRow.holds Try.pinned (OpenSpec.upto fnClaimSpec)

/-- 'laws.FnRelease', WHERE WHAT IT READS IS OF BULK AT MOST 1048576: true; the input reads as it did. -/
def fnReleaseUptoRow : OpenClaim := { program := "ytomcdfaomfkmjaa", sum := "7eaf54bad3ae30d953fe0c30bb3c242fbccbacf614ee435d053347c81848e9b1", func := "loop.example/g00709/laws.FnRelease", spec := "fnRelease", unfollowed := true, recurses := true, apart := false, narrowed := true }
def FnReleaseUptoSaid : Prop := fnReleaseUptoRow.holds Try.pinned (OpenSpec.upto fnReleaseSpec)

/-- 'laws.FnHead', WHERE WHAT IT READS IS OF BULK AT MOST 1048576: true; the input reads as it did. -/
def fnHeadUptoRow : OpenClaim := { program := "ytomcdfaomfkmjaa", sum := "7eaf54bad3ae30d953fe0c30bb3c242fbccbacf614ee435d053347c81848e9b1", func := "loop.example/g00709/laws.FnHead", spec := "fnHead", unfollowed := true, recurses := true, apart := false, narrowed := true }
def FnHeadUptoSaid : Prop := fnHeadUptoRow.holds Try.pinned (OpenSpec.upto fnHeadSpec)

/-- 'laws.FnExactRoom', WHERE WHAT IT READS IS OF BULK AT MOST 1048576: true; the input reads as it did. -/
def fnExactRoomUptoRow : OpenClaim := { program := "ytomcdfaomfkmjaa", sum := "7eaf54bad3ae30d953fe0c30bb3c242fbccbacf614ee435d053347c81848e9b1", func := "loop.example/g00709/laws.FnExactRoom", spec := "fnExactRoom", unfollowed := true, recurses := true, apart := false, narrowed := true }
def FnExactRoomUptoSaid : Prop := fnExactRoomUptoRow.holds Try.pinned (OpenSpec.upto fnExactRoomSpec)

/-- 'laws.FnExactClaim', WHERE WHAT IT READS IS OF BULK AT MOST 1048576: true; the input reads as it did. -/
def fnExactClaimUptoRow : OpenClaim := { program := "ytomcdfaomfkmjaa", sum := "7eaf54bad3ae30d953fe0c30bb3c242fbccbacf614ee435d053347c81848e9b1", func := "loop.example/g00709/laws.FnExactClaim", spec := "fnExactClaim", unfollowed := true, recurses := true, apart := false, narrowed := true }
def FnExactClaimUptoSaid : Prop := fnExactClaimUptoRow.holds Try.pinned (OpenSpec.upto fnExactClaimSpec)

/-- 'laws.FnExactRelease', WHERE WHAT IT READS IS OF BULK AT MOST 1048576: true; the input reads as it did. -/
def fnExactReleaseUptoRow : OpenClaim := { program := "ytomcdfaomfkmjaa", sum := "7eaf54bad3ae30d953fe0c30bb3c242fbccbacf614ee435d053347c81848e9b1", func := "loop.example/g00709/laws.FnExactRelease", spec := "fnExactRelease", apart := false, narrowed := true }
def FnExactReleaseUptoSaid : Prop := fnExactReleaseUptoRow.holds Try.pinned (OpenSpec.upto fnExactReleaseSpec)

/-- 'laws.FnExactBlockAt', WHERE WHAT IT READS IS OF BULK AT MOST 1048576: true; the input reads as it did. -/
def fnExactBlockAtUptoRow : OpenClaim := { program := "ytomcdfaomfkmjaa", sum := "7eaf54bad3ae30d953fe0c30bb3c242fbccbacf614ee435d053347c81848e9b1", func := "loop.example/g00709/laws.FnExactBlockAt", spec := "fnExactBlockAt", apart := false, narrowed := true }
def FnExactBlockAtUptoSaid : Prop := fnExactBlockAtUptoRow.holds Try.pinned (OpenSpec.upto fnExactBlockAtSpec)

/-- 'laws.FnExactHeadWord', WHERE WHAT IT READS IS OF BULK AT MOST 1048576: true; the input reads as it did. -/
def fnExactHeadWordUptoRow : OpenClaim := { program := "ytomcdfaomfkmjaa", sum := "7eaf54bad3ae30d953fe0c30bb3c242fbccbacf614ee435d053347c81848e9b1", func := "loop.example/g00709/laws.FnExactHeadWord", spec := "fnExactHeadWord", apart := false, narrowed := true }
def FnExactHeadWordUptoSaid : Prop := fnExactHeadWordUptoRow.holds Try.pinned (OpenSpec.upto fnExactHeadWordSpec)

/-- 'laws.FnExactHeldWord', WHERE WHAT IT READS IS OF BULK AT MOST 1048576: true; the input reads as it did. -/
def fnExactHeldWordUptoRow : OpenClaim := { program := "ytomcdfaomfkmjaa", sum := "7eaf54bad3ae30d953fe0c30bb3c242fbccbacf614ee435d053347c81848e9b1", func := "loop.example/g00709/laws.FnExactHeldWord", spec := "fnExactHeldWord", apart := false, narrowed := true }
def FnExactHeldWordUptoSaid : Prop := fnExactHeldWordUptoRow.holds Try.pinned (OpenSpec.upto fnExactHeldWordSpec)

/-- 'laws.FnExactTakenWords', WHERE WHAT IT READS IS OF BULK AT MOST 1048576: true; the input reads as it did. -/
def fnExactTakenWordsUptoRow : OpenClaim := { program := "ytomcdfaomfkmjaa", sum := "7eaf54bad3ae30d953fe0c30bb3c242fbccbacf614ee435d053347c81848e9b1", func := "loop.example/g00709/laws.FnExactTakenWords", spec := "fnExactTakenWords", unfollowed := true, recurses := true, apart := false, narrowed := true }
def FnExactTakenWordsUptoSaid : Prop := fnExactTakenWordsUptoRow.holds Try.pinned (OpenSpec.upto fnExactTakenWordsSpec)

end Rows
end Go.Proofs.Ytomcdfaomfkmjaa
