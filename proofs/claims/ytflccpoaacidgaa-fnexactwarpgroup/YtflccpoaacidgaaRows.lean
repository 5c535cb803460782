/-
  No cell of these rows narrows 'for every input' (looked for: loops, veiled, ifaces, maps, wideKeys, modest, calm, conditions, laid).
  DERIVED. THE GIVEN ROWS OF THIS SEAT. 7 by the template 'for every input the law returns true; each argument reads behind the call as it read before'; 0 by the template 'total and deterministic' (their statements: YtflccpoaacidgaaTotals.lean).
  GIVEN WITH THE SEED: the statements are not yours to turn. If you find one false, say at which input.
  Laid BY PROGRAM, IN A SANDBOX (cutbox-rows.mjs): the forced cells as the released guide's own fill.sh prints them over the translation c4d7794d955371c4… (all of the seat's roots in one cut). By AI agents, Wed Nov 11 2026. No macro, syntax, notation, axiom, sorry.
-/
import Derived.Test.YtflccpoaacidgaaChecked
import GoSem.Claim
import GoSem.ClaimJoined
import GoSem.ClaimMapViews
import Derived.JoinedTies
import Derived.KernelRfl
namespace Go.Proofs.Ytflccpoaacidgaa
/- THE CELL 'sum', in the pinned program and in every row, IS THE sha256 OF THE DUMP (.gsa) THAT YtflccpoaacidgaaProg.lean LOADS. Nothing in Lean hashes anything: it is a label: what it is worth is what the hold of that sum in a sandbox is worth. -/
noncomputable def Try.pinned : Pinned := { name := "ytflccpoaacidgaa", sum := "c4d7794d955371c40d900e6d2a7ff0ea9a9e2dae1fc813a9ba88e247985b630f", checked := Try.checked }
namespace Rows
def none {H : Type} : Left H := { results := [], args := [] }

/-- 'laws.FnStarts': WHATEVER THE INPUT: true; the input reads as it did. -/
def fnStartsSpec : ChangeSpec := { name := "fnStarts", fn := fun _ => fun
  | [d] => { results := [.lit (.bool true)], args := [d] }
  | _ => none }
def fnStartsRow : OpenClaim := { program := "ytflccpoaacidgaa", sum := "c4d7794d955371c40d900e6d2a7ff0ea9a9e2dae1fc813a9ba88e247985b630f", func := "loop.example/g00709/laws.FnStarts", spec := "fnStarts", apart := false }
def FnStartsSaid : Prop := fnStartsRow.holds Try.pinned (OpenSpec.ofChange fnStartsSpec)

/-- ITS FALSE NEIGHBOUR: 'it returns false'. Refute it at one input. -/
def fnStartsWrong : ChangeSpec := { name := "fnStarts", fn := fun _ => fun
  | [d] => { results := [.lit (.bool false)], args := [d] }
  | _ => none }
def FnStartsWrongFalsely : Prop := fnStartsRow.holds Try.pinned (OpenSpec.ofChange fnStartsWrong)

/-- 'laws.FnExactReqOk': WHATEVER THE INPUT: true; the input reads as it did. -/
def fnExactReqOkSpec : ChangeSpec := { name := "fnExactReqOk", fn := fun _ => fun
  | [d] => { results := [.lit (.bool true)], args := [d] }
  | _ => none }
def fnExactReqOkRow : OpenClaim := { program := "ytflccpoaacidgaa", sum := "c4d7794d955371c40d900e6d2a7ff0ea9a9e2dae1fc813a9ba88e247985b630f", func := "loop.example/g00709/laws.FnExactReqOk", spec := "fnExactReqOk", apart := false }
def FnExactReqOkSaid : Prop := fnExactReqOkRow.holds Try.pinned (OpenSpec.ofChange fnExactReqOkSpec)

/-- ITS FALSE NEIGHBOUR: 'it returns false'. Refute it at one input. -/
def fnExactReqOkWrong : ChangeSpec := { name := "fnExactReqOk", fn := fun _ => fun
  | [d] => { results := [.lit (.bool false)], args := [d] }
  | _ => none }
def FnExactReqOkWrongFalsely : Prop := fnExactReqOkRow.holds Try.pinned (OpenSpec.ofChange fnExactReqOkWrong)

/-- 'laws.FnExactWarpNew': WHATEVER THE INPUT: true; the input reads as it did. -/
def fnExactWarpNewSpec : ChangeSpec := { name := "fnExactWarpNew", fn := fun _ => fun
  | [] => { results := [.lit (.bool true)], args := [] }
  | _ => none }
def fnExactWarpNewRow : OpenClaim := { program := "ytflccpoaacidgaa", sum := "c4d7794d955371c40d900e6d2a7ff0ea9a9e2dae1fc813a9ba88e247985b630f", func := "loop.example/g00709/laws.FnExactWarpNew", spec := "fnExactWarpNew", apart := false }
def FnExactWarpNewSaid : Prop := fnExactWarpNewRow.holds Try.pinned (OpenSpec.ofChange fnExactWarpNewSpec)

/-- ITS FALSE NEIGHBOUR: 'it returns false'. Refute it at one input. -/
def fnExactWarpNewWrong : ChangeSpec := { name := "fnExactWarpNew", fn := fun _ => fun
  | [] => { results := [.lit (.bool false)], args := [] }
  | _ => none }
def FnExactWarpNewWrongFalsely : Prop := fnExactWarpNewRow.holds Try.pinned (OpenSpec.ofChange fnExactWarpNewWrong)

/-- 'laws.FnExactWarpOk': WHATEVER THE INPUT: true; the input reads as it did. -/
def fnExactWarpOkSpec : ChangeSpec := { name := "fnExactWarpOk", fn := fun _ => fun
  | [d1, d2] => { results := [.lit (.bool true)], args := [d1, d2] }
  | _ => none }
def fnExactWarpOkRow : OpenClaim := { program := "ytflccpoaacidgaa", sum := "c4d7794d955371c40d900e6d2a7ff0ea9a9e2dae1fc813a9ba88e247985b630f", func := "loop.example/g00709/laws.FnExactWarpOk", spec := "fnExactWarpOk", unfollowed := true, recurses := true, apart := false }
def FnExactWarpOkSaid : Prop := fnExactWarpOkRow.holds Try.pinned (OpenSpec.ofChange fnExactWarpOkSpec)

/-- ITS FALSE NEIGHBOUR: 'it returns false'. Refute it at one input. -/
def fnExactWarpOkWrong : ChangeSpec := { name := "fnExactWarpOk", fn := fun _ => fun
  | [d1, d2] => { results := [.lit (.bool false)], args := [d1, d2] }
  | _ => none }
def FnExactWarpOkWrongFalsely : Prop := fnExactWarpOkRow.holds Try.pinned (OpenSpec.ofChange fnExactWarpOkWrong)

/-- 'laws.FnExactWarpSubmit': WHATEVER THE INPUT: true; the input reads as it did. -/
def fnExactWarpSubmitSpec : ChangeSpec := { name := "fnExactWarpSubmit", fn := fun _ => fun
  | [d1, d2] => { results := [.lit (.bool true)], args := [d1, d2] }
  | _ => none }
def fnExactWarpSubmitRow : OpenClaim := { program := "ytflccpoaacidgaa", sum := "c4d7794d955371c40d900e6d2a7ff0ea9a9e2dae1fc813a9ba88e247985b630f", func := "loop.example/g00709/laws.FnExactWarpSubmit", spec := "fnExactWarpSubmit", unfollowed := true, recurses := true, apart := false }
def FnExactWarpSubmitSaid : Prop := fnExactWarpSubmitRow.holds Try.pinned (OpenSpec.ofChange fnExactWarpSubmitSpec)

/-- ITS FALSE NEIGHBOUR: 'it returns false'. Refute it at one input. -/
def fnExactWarpSubmitWrong : ChangeSpec := { name := "fnExactWarpSubmit", fn := fun _ => fun
  | [d1, d2] => { results := [.lit (.bool false)], args := [d1, d2] }
  | _ => none }
def FnExactWarpSubmitWrongFalsely : Prop := fnExactWarpSubmitRow.holds Try.pinned (OpenSpec.ofChange fnExactWarpSubmitWrong)

/-- 'laws.FnExactWarpGroup': WHATEVER THE INPUT: true; the input reads as it did. -/
def fnExactWarpGroupSpec : ChangeSpec := { name := "fnExactWarpGroup", fn := fun _ => fun
  | [d] => { results := [.lit (.bool true)], args := [d] }
  | _ => none }
def fnExactWarpGroupRow : OpenClaim := { program := "ytflccpoaacidgaa", sum := "c4d7794d955371c40d900e6d2a7ff0ea9a9e2dae1fc813a9ba88e247985b630f", func := "loop.example/g00709/laws.FnExactWarpGroup", spec := "fnExactWarpGroup", unfollowed := true, recurses := true, apart := false }
def FnExactWarpGroupSaid : Prop := fnExactWarpGroupRow.holds Try.pinned (OpenSpec.ofChange fnExactWarpGroupSpec)

/-- ITS FALSE NEIGHBOUR: 'it returns false'. Refute it at one input. -/
def fnExactWarpGroupWrong : ChangeSpec := { name := "fnExactWarpGroup", fn := fun _ => fun
  | [d] => { results := [.lit (.bool false)], args := [d] }
  | _ => none }
def FnExactWarpGroupWrongFalsely : Prop := fnExactWarpGroupRow.holds Try.pinned (OpenSpec.ofChange fnExactWarpGroupWrong)

/-- 'laws.FnExactWarpStart': WHATEVER THE INPUT: true; the input reads as it did. -/
def fnExactWarpStartSpec : ChangeSpec := { name := "fnExactWarpStart", fn := fun _ => fun
  | [d1, d2, d3] => { results := [.lit (.bool true)], args := [d1, d2, d3] }
  | _ => none }
def fnExactWarpStartRow : OpenClaim := { program := "ytflccpoaacidgaa", sum := "c4d7794d955371c40d900e6d2a7ff0ea9a9e2dae1fc813a9ba88e247985b630f", func := "loop.example/g00709/laws.FnExactWarpStart", spec := "fnExactWarpStart", apart := false }
def FnExactWarpStartSaid : Prop := fnExactWarpStartRow.holds Try.pinned (OpenSpec.ofChange fnExactWarpStartSpec)

/-- ITS FALSE NEIGHBOUR: 'it returns false'. Refute it at one input. -/
def fnExactWarpStartWrong : ChangeSpec := { name := "fnExactWarpStart", fn := fun _ => fun
  | [d1, d2, d3] => { results := [.lit (.bool false)], args := [d1, d2, d3] }
  | _ => none }
def FnExactWarpStartWrongFalsely : Prop := fnExactWarpStartRow.holds Try.pinned (OpenSpec.ofChange fnExactWarpStartWrong)

/- THE SECOND FORM. 'bulk': how many values and letters a reading holds, each counted each time it is reached (what is shared counts as often as it is met; a slice's spare places count too). A statement '..UptoSaid' is the law's where the arguments, and the package variables that the reading takes, are together of bulk at most 1048576: NARROWER than '..Said'. Prove '..Said' where nothing that the law and all that it calls make is longer than what came in: it says more and counts as full. Else prove '..UptoSaid'. A law counts once. -/
mutual
def uptoBulk {H : Type} : DataW H → Nat
  | .lit (.string bytes) => bytes.length + 1
  | .lit _ => 1
  | .nil => 1
  | .ptr d => uptoBulk d + 1
  | .slice elems spare => uptoBulkAll elems + uptoBulkAll spare + 1
  | .agg parts => uptoBulkAll parts + 1
  | .iface _ d => uptoBulk d + 1
  | .map entries => uptoBulkEntries entries + 1
  | .held _ => 1
def uptoBulkAll {H : Type} : List (DataW H) → Nat
  | [] => 0
  | d :: r => uptoBulk d + uptoBulkAll r
def uptoBulkEntries {H : Type} : List (Lit × DataW H) → Nat
  | [] => 0
  | x :: r => uptoBulkEntry x + uptoBulkEntries r
def uptoBulkEntry {H : Type} : Lit × DataW H → Nat
  | (.string bytes, d) => bytes.length + uptoBulk d + 1
  | (_, d) => uptoBulk d + 1
 end
def uptoSmall : (H : Type) → List (DataW H) → Bool := fun _ ds => decide (uptoBulkAll ds ≤ 1048576)
def OpenSpec.upto (s : _root_.Go.ChangeSpec) : _root_.Go.OpenSpec := { _root_.Go.OpenSpec.ofChange s with cond := some uptoSmall }

/-- 'laws.FnStarts', WHERE WHAT IT READS IS OF BULK AT MOST 1048576: true; the input reads as it did. -/
def fnStartsUptoRow : OpenClaim := { program := "ytflccpoaacidgaa", sum := "c4d7794d955371c40d900e6d2a7ff0ea9a9e2dae1fc813a9ba88e247985b630f", func := "loop.example/g00709/laws.FnStarts", spec := "fnStarts", apart := false, narrowed := true }
def FnStartsUptoSaid : Prop := fnStartsUptoRow.holds Try.pinned (OpenSpec.upto fnStartsSpec)

/-- 'laws.FnExactReqOk', WHERE WHAT IT READS IS OF BULK AT MOST 1048576: true; the input reads as it did. -/
def fnExactReqOkUptoRow : OpenClaim := { program := "ytflccpoaacidgaa", sum := "c4d7794d955371c40d900e6d2a7ff0ea9a9e2dae1fc813a9ba88e247985b630f", func := "loop.example/g00709/laws.FnExactReqOk", spec := "fnExactReqOk", apart := false, narrowed := true }
def FnExactReqOkUptoSaid : Prop := fnExactReqOkUptoRow.holds Try.pinned (OpenSpec.upto fnExactReqOkSpec)

/-- 'laws.FnExactWarpNew', WHERE WHAT IT READS IS OF BULK AT MOST 1048576: true; the input reads as it did. -/
def fnExactWarpNewUptoRow : OpenClaim := { program := "ytflccpoaacidgaa", sum := "c4d7794d955371c40d900e6d2a7ff0ea9a9e2dae1fc813a9ba88e247985b630f", func := "loop.example/g00709/laws.FnExactWarpNew", spec := "fnExactWarpNew", apart := false, narrowed := true }
def FnExactWarpNewUptoSaid : Prop := fnExactWarpNewUptoRow.holds Try.pinned (OpenSpec.upto fnExactWarpNewSpec)

/-- 'laws.FnExactWarpOk', WHERE WHAT IT READS IS OF BULK AT MOST 1048576: true; the input reads as it did. -/
def fnExactWarpOkUptoRow : OpenClaim := { program := "ytflccpoaacidgaa", sum := "c4d7794d955371c40d900e6d2a7ff0ea9a9e2dae1fc813a9ba88e247985b630f", func := "loop.example/g00709/laws.FnExactWarpOk", spec := "fnExactWarpOk", unfollowed := true, recurses := true, apart := false, narrowed := true }
def FnExactWarpOkUptoSaid : Prop := fnExactWarpOkUptoRow.holds Try.pinned (OpenSpec.upto fnExactWarpOkSpec)

/-- 'laws.FnExactWarpSubmit', WHERE WHAT IT READS IS OF BULK AT MOST 1048576: true; the input reads as it did. -/
def fnExactWarpSubmitUptoRow : OpenClaim := { program := "ytflccpoaacidgaa", sum := "c4d7794d955371c40d900e6d2a7ff0ea9a9e2dae1fc813a9ba88e247985b630f", func := "loop.example/g00709/laws.FnExactWarpSubmit", spec := "fnExactWarpSubmit", unfollowed := true, recurses := true, apart := false, narrowed := true }
def FnExactWarpSubmitUptoSaid : Prop := fnExactWarpSubmitUptoRow.holds Try.pinned (OpenSpec.upto fnExactWarpSubmitSpec)

/-- 'laws.FnExactWarpGroup', WHERE WHAT IT READS IS OF BULK AT MOST 1048576: true; the input reads as it did. -/
def fnExactWarpGroupUptoRow : OpenClaim := { program := "ytflccpoaacidgaa", sum := "c4d7794d955371c40d900e6d2a7ff0ea9a9e2dae1fc813a9ba88e247985b630f", func := "loop.example/g00709/laws.FnExactWarpGroup", spec := "fnExactWarpGroup", unfollowed := true, recurses := true, apart := false, narrowed := true }
def FnExactWarpGroupUptoSaid : Prop := fnExactWarpGroupUptoRow.holds Try.pinned (OpenSpec.upto fnExactWarpGroupSpec)

/-- 'laws.FnExactWarpStart', WHERE WHAT IT READS IS OF BULK AT MOST 1048576: true; the input reads as it did. -/
def fnExactWarpStartUptoRow : OpenClaim := { program := "ytflccpoaacidgaa", sum := "c4d7794d955371c40d900e6d2a7ff0ea9a9e2dae1fc813a9ba88e247985b630f", func := "loop.example/g00709/laws.FnExactWarpStart", spec := "fnExactWarpStart", apart := false, narrowed := true }
def FnExactWarpStartUptoSaid : Prop := fnExactWarpStartUptoRow.holds Try.pinned (OpenSpec.upto fnExactWarpStartSpec)

end Rows
end Go.Proofs.Ytflccpoaacidgaa
