/-
  No cell of these rows narrows 'for every input' (looked for: loops, veiled, ifaces, maps, wideKeys, modest, calm, conditions, laid).
  DERIVED. THE GIVEN ROWS OF THIS SEAT. 9 by the template 'for every input the law returns true; each argument reads behind the call as it read before'; 0 by the template 'total and deterministic' (their statements: YtaidlmhenmlknaaTotals.lean).
  GIVEN WITH THE SEED: the statements are not yours to turn. If you find one false, say at which input.
  Laid BY PROGRAM, IN A SANDBOX (cutbox-rows.mjs): the forced cells as the released guide's own fill.sh prints them over the translation 075d812f48a3720c… (all of the seat's roots in one cut). By AI agents, Wed Nov 11 2026. No macro, syntax, notation, axiom, sorry.
-/
import Derived.Test.YtaidlmhenmlknaaChecked
import GoSem.Claim
import GoSem.ClaimJoined
import GoSem.ClaimMapViews
import Derived.JoinedTies
import Derived.KernelRfl
namespace Go.Proofs.Ytaidlmhenmlknaa
/- THE CELL 'sum', in the pinned program and in every row, IS THE sha256 OF THE DUMP (.gsa) THAT YtaidlmhenmlknaaProg.lean LOADS. Nothing in Lean hashes anything: it is a label: what it is worth is what the hold of that sum in a sandbox is worth. -/
noncomputable def Try.pinned : Pinned := { name := "ytaidlmhenmlknaa", sum := "075d812f48a3720c8c8462d1508eb62fb3a7bf67a908602c43dcd273131d9d4e", checked := Try.checked }
namespace Rows
def none {H : Type} : Left H := { results := [], args := [] }

/-- 'laws.FnClasses': WHATEVER THE INPUT: true; the input reads as it did. -/
def fnClassesSpec : ChangeSpec := { name := "fnClasses", fn := fun _ => fun
  | [d] => { results := [.lit (.bool true)], args := [d] }
  | _ => none }
def fnClassesRow : OpenClaim := { program := "ytaidlmhenmlknaa", sum := "075d812f48a3720c8c8462d1508eb62fb3a7bf67a908602c43dcd273131d9d4e", func := "loop.example/g00709/laws.FnClasses", spec := "fnClasses", apart := false }
def FnClassesSaid : Prop := fnClassesRow.holds Try.pinned (OpenSpec.ofChange fnClassesSpec)

/-- ITS FALSE NEIGHBOUR: 'it returns false'. Refute it at one input. -/
def fnClassesWrong : ChangeSpec := { name := "fnClasses", fn := fun _ => fun
  | [d] => { results := [.lit (.bool false)], args := [d] }
  | _ => none }
def FnClassesWrongFalsely : Prop := fnClassesRow.holds Try.pinned (OpenSpec.ofChange fnClassesWrong)

/-- 'laws.FnCtl': WHATEVER THE INPUT: true; the input reads as it did. -/
def fnCtlSpec : ChangeSpec := { name := "fnCtl", fn := fun _ => fun
  | [d] => { results := [.lit (.bool true)], args := [d] }
  | _ => none }
def fnCtlRow : OpenClaim := { program := "ytaidlmhenmlknaa", sum := "075d812f48a3720c8c8462d1508eb62fb3a7bf67a908602c43dcd273131d9d4e", func := "loop.example/g00709/laws.FnCtl", spec := "fnCtl", apart := false }
def FnCtlSaid : Prop := fnCtlRow.holds Try.pinned (OpenSpec.ofChange fnCtlSpec)

/-- ITS FALSE NEIGHBOUR: 'it returns false'. Refute it at one input. -/
def fnCtlWrong : ChangeSpec := { name := "fnCtl", fn := fun _ => fun
  | [d] => { results := [.lit (.bool false)], args := [d] }
  | _ => none }
def FnCtlWrongFalsely : Prop := fnCtlRow.holds Try.pinned (OpenSpec.ofChange fnCtlWrong)

/-- 'laws.FnExactClassSize': WHATEVER THE INPUT: true; the input reads as it did. -/
def fnExactClassSizeSpec : ChangeSpec := { name := "fnExactClassSize", fn := fun _ => fun
  | [d] => { results := [.lit (.bool true)], args := [d] }
  | _ => none }
def fnExactClassSizeRow : OpenClaim := { program := "ytaidlmhenmlknaa", sum := "075d812f48a3720c8c8462d1508eb62fb3a7bf67a908602c43dcd273131d9d4e", func := "loop.example/g00709/laws.FnExactClassSize", spec := "fnExactClassSize", apart := false }
def FnExactClassSizeSaid : Prop := fnExactClassSizeRow.holds Try.pinned (OpenSpec.ofChange fnExactClassSizeSpec)

/-- ITS FALSE NEIGHBOUR: 'it returns false'. Refute it at one input. -/
def fnExactClassSizeWrong : ChangeSpec := { name := "fnExactClassSize", fn := fun _ => fun
  | [d] => { results := [.lit (.bool false)], args := [d] }
  | _ => none }
def FnExactClassSizeWrongFalsely : Prop := fnExactClassSizeRow.holds Try.pinned (OpenSpec.ofChange fnExactClassSizeWrong)

/-- 'laws.FnExactPerPage': WHATEVER THE INPUT: true; the input reads as it did. -/
def fnExactPerPageSpec : ChangeSpec := { name := "fnExactPerPage", fn := fun _ => fun
  | [d] => { results := [.lit (.bool true)], args := [d] }
  | _ => none }
def fnExactPerPageRow : OpenClaim := { program := "ytaidlmhenmlknaa", sum := "075d812f48a3720c8c8462d1508eb62fb3a7bf67a908602c43dcd273131d9d4e", func := "loop.example/g00709/laws.FnExactPerPage", spec := "fnExactPerPage", apart := false }
def FnExactPerPageSaid : Prop := fnExactPerPageRow.holds Try.pinned (OpenSpec.ofChange fnExactPerPageSpec)

/-- ITS FALSE NEIGHBOUR: 'it returns false'. Refute it at one input. -/
def fnExactPerPageWrong : ChangeSpec := { name := "fnExactPerPage", fn := fun _ => fun
  | [d] => { results := [.lit (.bool false)], args := [d] }
  | _ => none }
def FnExactPerPageWrongFalsely : Prop := fnExactPerPageRow.holds Try.pinned (OpenSpec.ofChange fnExactPerPageWrong)

/-- 'laws.FnExactClassOf': WHATEVER THE INPUT: true; the input reads as it did. -/
def fnExactClassOfSpec : ChangeSpec := { name := "fnExactClassOf", fn := fun _ => fun
  | [d] => { results := [.lit (.bool true)], args := [d] }
  | _ => none }
def fnExactClassOfRow : OpenClaim := { program := "ytaidlmhenmlknaa", sum := "075d812f48a3720c8c8462d1508eb62fb3a7bf67a908602c43dcd273131d9d4e", func := "loop.example/g00709/laws.FnExactClassOf", spec := "fnExactClassOf", apart := false }
def FnExactClassOfSaid : Prop := fnExactClassOfRow.holds Try.pinned (OpenSpec.ofChange fnExactClassOfSpec)

/-- ITS FALSE NEIGHBOUR: 'it returns false'. Refute it at one input. -/
def fnExactClassOfWrong : ChangeSpec := { name := "fnExactClassOf", fn := fun _ => fun
  | [d] => { results := [.lit (.bool false)], args := [d] }
  | _ => none }
def FnExactClassOfWrongFalsely : Prop := fnExactClassOfRow.holds Try.pinned (OpenSpec.ofChange fnExactClassOfWrong)

/-- 'laws.FnExactChunksFor': WHATEVER THE INPUT: true; the input reads as it did. -/
def fnExactChunksForSpec : ChangeSpec := { name := "fnExactChunksFor", fn := fun _ => fun
  | [d] => { results := [.lit (.bool true)], args := [d] }
  | _ => none }
def fnExactChunksForRow : OpenClaim := { program := "ytaidlmhenmlknaa", sum := "075d812f48a3720c8c8462d1508eb62fb3a7bf67a908602c43dcd273131d9d4e", func := "loop.example/g00709/laws.FnExactChunksFor", spec := "fnExactChunksFor", apart := false }
def FnExactChunksForSaid : Prop := fnExactChunksForRow.holds Try.pinned (OpenSpec.ofChange fnExactChunksForSpec)

/-- ITS FALSE NEIGHBOUR: 'it returns false'. Refute it at one input. -/
def fnExactChunksForWrong : ChangeSpec := { name := "fnExactChunksFor", fn := fun _ => fun
  | [d] => { results := [.lit (.bool false)], args := [d] }
  | _ => none }
def FnExactChunksForWrongFalsely : Prop := fnExactChunksForRow.holds Try.pinned (OpenSpec.ofChange fnExactChunksForWrong)

/-- 'laws.FnExactCtlOk': WHATEVER THE INPUT: true; the input reads as it did. -/
def fnExactCtlOkSpec : ChangeSpec := { name := "fnExactCtlOk", fn := fun _ => fun
  | [d] => { results := [.lit (.bool true)], args := [d] }
  | _ => none }
def fnExactCtlOkRow : OpenClaim := { program := "ytaidlmhenmlknaa", sum := "075d812f48a3720c8c8462d1508eb62fb3a7bf67a908602c43dcd273131d9d4e", func := "loop.example/g00709/laws.FnExactCtlOk", spec := "fnExactCtlOk", apart := false }
def FnExactCtlOkSaid : Prop := fnExactCtlOkRow.holds Try.pinned (OpenSpec.ofChange fnExactCtlOkSpec)

/-- ITS FALSE NEIGHBOUR: 'it returns false'. Refute it at one input. -/
def fnExactCtlOkWrong : ChangeSpec := { name := "fnExactCtlOk", fn := fun _ => fun
  | [d] => { results := [.lit (.bool false)], args := [d] }
  | _ => none }
def FnExactCtlOkWrongFalsely : Prop := fnExactCtlOkRow.holds Try.pinned (OpenSpec.ofChange fnExactCtlOkWrong)

/-- 'laws.FnExactCtlPack': WHATEVER THE INPUT: true; the input reads as it did. -/
def fnExactCtlPackSpec : ChangeSpec := { name := "fnExactCtlPack", fn := fun _ => fun
  | [d] => { results := [.lit (.bool true)], args := [d] }
  | _ => none }
def fnExactCtlPackRow : OpenClaim := { program := "ytaidlmhenmlknaa", sum := "075d812f48a3720c8c8462d1508eb62fb3a7bf67a908602c43dcd273131d9d4e", func := "loop.example/g00709/laws.FnExactCtlPack", spec := "fnExactCtlPack", apart := false }
def FnExactCtlPackSaid : Prop := fnExactCtlPackRow.holds Try.pinned (OpenSpec.ofChange fnExactCtlPackSpec)

/-- ITS FALSE NEIGHBOUR: 'it returns false'. Refute it at one input. -/
def fnExactCtlPackWrong : ChangeSpec := { name := "fnExactCtlPack", fn := fun _ => fun
  | [d] => { results := [.lit (.bool false)], args := [d] }
  | _ => none }
def FnExactCtlPackWrongFalsely : Prop := fnExactCtlPackRow.holds Try.pinned (OpenSpec.ofChange fnExactCtlPackWrong)

/-- 'laws.FnExactCtlRead': WHATEVER THE INPUT: true; the input reads as it did. -/
def fnExactCtlReadSpec : ChangeSpec := { name := "fnExactCtlRead", fn := fun _ => fun
  | [d] => { results := [.lit (.bool true)], args := [d] }
  | _ => none }
def fnExactCtlReadRow : OpenClaim := { program := "ytaidlmhenmlknaa", sum := "075d812f48a3720c8c8462d1508eb62fb3a7bf67a908602c43dcd273131d9d4e", func := "loop.example/g00709/laws.FnExactCtlRead", spec := "fnExactCtlRead", apart := false }
def FnExactCtlReadSaid : Prop := fnExactCtlReadRow.holds Try.pinned (OpenSpec.ofChange fnExactCtlReadSpec)

/-- ITS FALSE NEIGHBOUR: 'it returns false'. Refute it at one input. -/
def fnExactCtlReadWrong : ChangeSpec := { name := "fnExactCtlRead", fn := fun _ => fun
  | [d] => { results := [.lit (.bool false)], args := [d] }
  | _ => none }
def FnExactCtlReadWrongFalsely : Prop := fnExactCtlReadRow.holds Try.pinned (OpenSpec.ofChange fnExactCtlReadWrong)

/- THE SECOND FORM. 'bulk': how many values and letters a reading holds, each counted each time it is reached (what is shared counts as often as it is met; a slice's spare places count too). A statement '..UptoSaid' is the law's where the arguments, and the package variables that the reading takes, are together of bulk at most 1048576: NARROWER than '..Said'. Prove '..Said' where nothing that the law and all that it calls make is longer than what came in: it says more and counts as full. Else prove '..UptoSaid'. A law counts once. -/
mutual
def uptoBulk {H : Type} : DataW H → Nat
  | .lit (.string bytes) => bytes.length + 1
  | .lit _ => 1
  | .nil => 1
  | .ptr d => uptoBulk d + 1
  | .slice elems spare => uptoBulkAll elems + uptoBulkAll spare + 1
  | .agg parts => uptoBulkAll parts + 1
  | .iface _ d => uptoBulk d + 1
  | .map entries => uptoBulkEntries entries + 1
  | .held _ => 1
def uptoBulkAll {H : Type} : List (DataW H) → Nat
  | [] => 0
  | d :: r => uptoBulk d + uptoBulkAll r
def uptoBulkEntries {H : Type} : List (Lit × DataW H) → Nat
  | [] => 0
  | x :: r => uptoBulkEntry x + uptoBulkEntries r
def uptoBulkEntry {H : Type} : Lit × DataW H → Nat
  | (.string bytes, d) => bytes.length + uptoBulk d + 1
  | (_, d) => uptoBulk d + 1
 end
def uptoSmall : (H : Type) → List (DataW H) → Bool := fun _ ds => decide (uptoBulkAll ds ≤ 1048576)
def OpenSpec.upto (s : _root_.Go.ChangeSpec) : _root_.Go.OpenSpec := { _root_.Go.OpenSpec.ofChange s with cond := some uptoSmall }

/-- 'laws.FnClasses', WHERE WHAT IT READS IS OF BULK AT MOST 1048576: true; the input reads as it did. -/
def fnClassesUptoRow : OpenClaim := { program := "ytaidlmhenmlknaa", sum := "075d812f48a3720c8c8462d1508eb62fb3a7bf67a908602c43dcd273131d9d4e", func := "loop.example/g00709/laws.FnClasses", spec := "fnClasses", apart := false, narrowed := true }
def FnClassesUptoSaid : Prop := fnClassesUptoRow.holds Try.pinned (OpenSpec.upto fnClassesSpec)

/-- 'laws.FnCtl', WHERE WHAT IT READS IS OF BULK AT MOST 1048576: true; the input reads as it did. -/
def fnCtlUptoRow : OpenClaim := { program := "ytaidlmhenmlknaa", sum := "075d812f48a3720c8c8462d1508eb62fb3a7bf67a908602c43dcd273131d9d4e", func := "loop.example/g00709/laws.FnCtl", spec := "fnCtl", apart := false, narrowed := true }
def FnCtlUptoSaid : Prop := fnCtlUptoRow.holds Try.pinned (OpenSpec.upto fnCtlSpec)

/-- 'laws.FnExactClassSize', WHERE WHAT IT READS IS OF BULK AT MOST 1048576: true; the input reads as it did. -/
def fnExactClassSizeUptoRow : OpenClaim := { program := "ytaidlmhenmlknaa", sum := "075d812f48a3720c8c8462d1508eb62fb3a7bf67a908602c43dcd273131d9d4e", func := "loop.example/g00709/laws.FnExactClassSize", spec := "fnExactClassSize", apart := false, narrowed := true }
def FnExactClassSizeUptoSaid : Prop := fnExactClassSizeUptoRow.holds Try.pinned (OpenSpec.upto fnExactClassSizeSpec)

/-- 'laws.FnExactPerPage', WHERE WHAT IT READS IS OF BULK AT MOST 1048576: true; the input reads as it did. -/
def fnExactPerPageUptoRow : OpenClaim := { program := "ytaidlmhenmlknaa", sum := "075d812f48a3720c8c8462d1508eb62fb3a7bf67a908602c43dcd273131d9d4e", func := "loop.example/g00709/laws.FnExactPerPage", spec := "fnExactPerPage", apart := false, narrowed := true }
def FnExactPerPageUptoSaid : Prop := fnExactPerPageUptoRow.holds Try.pinned (OpenSpec.upto fnExactPerPageSpec)

/-- 'laws.FnExactClassOf', WHERE WHAT IT READS IS OF BULK AT MOST 1048576: true; the input reads as it did. -/
def fnExactClassOfUptoRow : OpenClaim := { program := "ytaidlmhenmlknaa", sum := "075d812f48a3720c8c8462d1508eb62fb3a7bf67a908602c43dcd273131d9d4e", func := "loop.example/g00709/laws.FnExactClassOf", spec := "fnExactClassOf", apart := false, narrowed := true }
def FnExactClassOfUptoSaid : Prop := fnExactClassOfUptoRow.holds Try.pinned (OpenSpec.upto fnExactClassOfSpec)

/-- 'laws.FnExactChunksFor', WHERE WHAT IT READS IS OF BULK AT MOST 1048576: true; the input reads as it did. -/
def fnExactChunksForUptoRow : OpenClaim := { program := "ytaidlmhenmlknaa", sum := "075d812f48a3720c8c8462d1508eb62fb3a7bf67a908602c43dcd273131d9d4e", func := "loop.example/g00709/laws.FnExactChunksFor", spec := "fnExactChunksFor", apart := false, narrowed := true }
def FnExactChunksForUptoSaid : Prop := fnExactChunksForUptoRow.holds Try.pinned (OpenSpec.upto fnExactChunksForSpec)

/-- 'laws.FnExactCtlOk', WHERE WHAT IT READS IS OF BULK AT MOST 1048576: true; the input reads as it did. -/
def fnExactCtlOkUptoRow : OpenClaim := { program := "ytaidlmhenmlknaa", sum := "075d812f48a3720c8c8462d1508eb62fb3a7bf67a908602c43dcd273131d9d4e", func := "loop.example/g00709/laws.FnExactCtlOk", spec := "fnExactCtlOk", apart := false, narrowed := true }
def FnExactCtlOkUptoSaid : Prop := fnExactCtlOkUptoRow.holds Try.pinned (OpenSpec.upto fnExactCtlOkSpec)

/-- 'laws.FnExactCtlPack', WHERE WHAT IT READS IS OF BULK AT MOST 1048576: true; the input reads as it did. -/
def fnExactCtlPackUptoRow : OpenClaim := { program := "ytaidlmhenmlknaa", sum := "075d812f48a3720c8c8462d1508eb62fb3a7bf67a908602c43dcd273131d9d4e", func := "loop.example/g00709/laws.FnExactCtlPack", spec := "fnExactCtlPack", apart := false, narrowed := true }
def FnExactCtlPackUptoSaid : Prop := fnExactCtlPackUptoRow.holds Try.pinned (OpenSpec.upto fnExactCtlPackSpec)

/-- 'laws.FnExactCtlRead', WHERE WHAT IT READS IS OF BULK AT MOST 1048576: true; the input reads as it did. -/
def fnExactCtlReadUptoRow : OpenClaim := { program := "ytaidlmhenmlknaa", sum := "075d812f48a3720c8c8462d1508eb62fb3a7bf67a908602c43dcd273131d9d4e", func := "loop.example/g00709/laws.FnExactCtlRead", spec := "fnExactCtlRead", apart := false, narrowed := true }
def FnExactCtlReadUptoSaid : Prop := fnExactCtlReadUptoRow.holds Try.pinned (OpenSpec.upto fnExactCtlReadSpec)

end Rows
end Go.Proofs.Ytaidlmhenmlknaa
