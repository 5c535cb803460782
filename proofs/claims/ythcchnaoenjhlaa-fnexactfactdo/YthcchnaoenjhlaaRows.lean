/-
  No cell of these rows narrows 'for every input' (looked for: loops, veiled, ifaces, maps, wideKeys, modest, calm, conditions, laid).
  DERIVED. THE GIVEN ROWS OF THIS SEAT. 6 by the template 'for every input the law returns true; each argument reads behind the call as it read before'; 0 by the template 'total and deterministic' (their statements: YthcchnaoenjhlaaTotals.lean).
  GIVEN WITH THE SEED: the statements are not yours to turn. If you find one false, say at which input.
  Laid BY PROGRAM, IN A SANDBOX (cutbox-rows.mjs): the forced cells as the released guide's own fill.sh prints them over the translation 344c9d4bc5e859f3… (all of the seat's roots in one cut). By AI agents, Wed Nov 11 2026. No macro, syntax, notation, axiom, sorry.
-/
import Derived.Test.YthcchnaoenjhlaaChecked
import GoSem.Claim
import GoSem.ClaimJoined
import GoSem.ClaimMapViews
import Derived.JoinedTies
import Derived.KernelRfl
namespace Go.Proofs.Ythcchnaoenjhlaa
/- THE CELL 'sum', in the pinned program and in every row, IS THE sha256 OF THE DUMP (.gsa) THAT YthcchnaoenjhlaaProg.lean LOADS. Nothing in Lean hashes anything: it is a label: what it is worth is what the hold of that sum in a sandbox is worth. -/
noncomputable def Try.pinned : Pinned := { name := "ythcchnaoenjhlaa", sum := "344c9d4bc5e859f3a6790a5a697dacf4be53a1ecfe015fe53a4fe02b8ac170e2", checked := Try.checked }
namespace Rows
def none {H : Type} : Left H := { results := [], args := [] }

/-- 'laws.FnExactFactOk': WHATEVER THE INPUT: true; the input reads as it did. -/
def fnExactFactOkSpec : ChangeSpec := { name := "fnExactFactOk", fn := fun _ => fun
  | [d] => { results := [.lit (.bool true)], args := [d] }
  | _ => none }
def fnExactFactOkRow : OpenClaim := { program := "ythcchnaoenjhlaa", sum := "344c9d4bc5e859f3a6790a5a697dacf4be53a1ecfe015fe53a4fe02b8ac170e2", func := "loop.example/g00709/laws.FnExactFactOk", spec := "fnExactFactOk", unfollowed := true, recurses := true, plainKeys := false, apart := false }
def FnExactFactOkSaid : Prop := fnExactFactOkRow.holds Try.pinned (OpenSpec.ofChange fnExactFactOkSpec)

/-- ITS FALSE NEIGHBOUR: 'it returns false'. Refute it at one input. -/
def fnExactFactOkWrong : ChangeSpec := { name := "fnExactFactOk", fn := fun _ => fun
  | [d] => { results := [.lit (.bool false)], args := [d] }
  | _ => none }
def FnExactFactOkWrongFalsely : Prop := fnExactFactOkRow.holds Try.pinned (OpenSpec.ofChange fnExactFactOkWrong)

/-- 'laws.FnExactFactDo': WHATEVER THE INPUT: true; the input reads as it did. -/
def fnExactFactDoSpec : ChangeSpec := { name := "fnExactFactDo", fn := fun _ => fun
  | [d1, d2] => { results := [.lit (.bool true)], args := [d1, d2] }
  | _ => none }
def fnExactFactDoRow : OpenClaim := { program := "ythcchnaoenjhlaa", sum := "344c9d4bc5e859f3a6790a5a697dacf4be53a1ecfe015fe53a4fe02b8ac170e2", func := "loop.example/g00709/laws.FnExactFactDo", spec := "fnExactFactDo", unfollowed := true, recurses := true, plainKeys := false, apart := false }
def FnExactFactDoSaid : Prop := fnExactFactDoRow.holds Try.pinned (OpenSpec.ofChange fnExactFactDoSpec)

/-- ITS FALSE NEIGHBOUR: 'it returns false'. Refute it at one input. -/
def fnExactFactDoWrong : ChangeSpec := { name := "fnExactFactDo", fn := fun _ => fun
  | [d1, d2] => { results := [.lit (.bool false)], args := [d1, d2] }
  | _ => none }
def FnExactFactDoWrongFalsely : Prop := fnExactFactDoRow.holds Try.pinned (OpenSpec.ofChange fnExactFactDoWrong)

/-- 'laws.FnExactFactsRun': WHATEVER THE INPUT: true; the input reads as it did. -/
def fnExactFactsRunSpec : ChangeSpec := { name := "fnExactFactsRun", fn := fun _ => fun
  | [d] => { results := [.lit (.bool true)], args := [d] }
  | _ => none }
def fnExactFactsRunRow : OpenClaim := { program := "ythcchnaoenjhlaa", sum := "344c9d4bc5e859f3a6790a5a697dacf4be53a1ecfe015fe53a4fe02b8ac170e2", func := "loop.example/g00709/laws.FnExactFactsRun", spec := "fnExactFactsRun", unfollowed := true, recurses := true, plainKeys := false, apart := false }
def FnExactFactsRunSaid : Prop := fnExactFactsRunRow.holds Try.pinned (OpenSpec.ofChange fnExactFactsRunSpec)

/-- ITS FALSE NEIGHBOUR: 'it returns false'. Refute it at one input. -/
def fnExactFactsRunWrong : ChangeSpec := { name := "fnExactFactsRun", fn := fun _ => fun
  | [d] => { results := [.lit (.bool false)], args := [d] }
  | _ => none }
def FnExactFactsRunWrongFalsely : Prop := fnExactFactsRunRow.holds Try.pinned (OpenSpec.ofChange fnExactFactsRunWrong)

/-- 'laws.FnExactAudit': WHATEVER THE INPUT: true; the input reads as it did. -/
def fnExactAuditSpec : ChangeSpec := { name := "fnExactAudit", fn := fun _ => fun
  | [d] => { results := [.lit (.bool true)], args := [d] }
  | _ => none }
def fnExactAuditRow : OpenClaim := { program := "ythcchnaoenjhlaa", sum := "344c9d4bc5e859f3a6790a5a697dacf4be53a1ecfe015fe53a4fe02b8ac170e2", func := "loop.example/g00709/laws.FnExactAudit", spec := "fnExactAudit", unfollowed := true, recurses := true, plainKeys := false, apart := false }
def FnExactAuditSaid : Prop := fnExactAuditRow.holds Try.pinned (OpenSpec.ofChange fnExactAuditSpec)

/-- ITS FALSE NEIGHBOUR: 'it returns false'. Refute it at one input. -/
def fnExactAuditWrong : ChangeSpec := { name := "fnExactAudit", fn := fun _ => fun
  | [d] => { results := [.lit (.bool false)], args := [d] }
  | _ => none }
def FnExactAuditWrongFalsely : Prop := fnExactAuditRow.holds Try.pinned (OpenSpec.ofChange fnExactAuditWrong)

/-- 'laws.FnExactAuditSum': WHATEVER THE INPUT: true; the input reads as it did. -/
def fnExactAuditSumSpec : ChangeSpec := { name := "fnExactAuditSum", fn := fun _ => fun
  | [d] => { results := [.lit (.bool true)], args := [d] }
  | _ => none }
def fnExactAuditSumRow : OpenClaim := { program := "ythcchnaoenjhlaa", sum := "344c9d4bc5e859f3a6790a5a697dacf4be53a1ecfe015fe53a4fe02b8ac170e2", func := "loop.example/g00709/laws.FnExactAuditSum", spec := "fnExactAuditSum", plainKeys := false, apart := false }
def FnExactAuditSumSaid : Prop := fnExactAuditSumRow.holds Try.pinned (OpenSpec.ofChange fnExactAuditSumSpec)

/-- ITS FALSE NEIGHBOUR: 'it returns false'. Refute it at one input. -/
def fnExactAuditSumWrong : ChangeSpec := { name := "fnExactAuditSum", fn := fun _ => fun
  | [d] => { results := [.lit (.bool false)], args := [d] }
  | _ => none }
def FnExactAuditSumWrongFalsely : Prop := fnExactAuditSumRow.holds Try.pinned (OpenSpec.ofChange fnExactAuditSumWrong)

/-- 'laws.FnExactAnswers': WHATEVER THE INPUT: true; the input reads as it did. -/
def fnExactAnswersSpec : ChangeSpec := { name := "fnExactAnswers", fn := fun _ => fun
  | [d1, d2, d3] => { results := [.lit (.bool true)], args := [d1, d2, d3] }
  | _ => none }
def fnExactAnswersRow : OpenClaim := { program := "ythcchnaoenjhlaa", sum := "344c9d4bc5e859f3a6790a5a697dacf4be53a1ecfe015fe53a4fe02b8ac170e2", func := "loop.example/g00709/laws.FnExactAnswers", spec := "fnExactAnswers", plainKeys := false, apart := false }
def FnExactAnswersSaid : Prop := fnExactAnswersRow.holds Try.pinned (OpenSpec.ofChange fnExactAnswersSpec)

/-- ITS FALSE NEIGHBOUR: 'it returns false'. Refute it at one input. -/
def fnExactAnswersWrong : ChangeSpec := { name := "fnExactAnswers", fn := fun _ => fun
  | [d1, d2, d3] => { results := [.lit (.bool false)], args := [d1, d2, d3] }
  | _ => none }
def FnExactAnswersWrongFalsely : Prop := fnExactAnswersRow.holds Try.pinned (OpenSpec.ofChange fnExactAnswersWrong)

/- THE SECOND FORM. 'bulk': how many values and letters a reading holds, each counted each time it is reached (what is shared counts as often as it is met; a slice's spare places count too). A statement '..UptoSaid' is the law's where the arguments, and the package variables that the reading takes, are together of bulk at most 1048576: NARROWER than '..Said'. Prove '..Said' where nothing that the law and all that it calls make is longer than what came in: it says more and counts as full. Else prove '..UptoSaid'. A law counts once. -/
mutual
def uptoBulk {H : Type} : DataW H → Nat
  | .lit (.string bytes) => bytes.length + 1
  | .lit _ => 1
  | .nil => 1
  | .ptr d => uptoBulk d + 1
  | .slice elems spare => uptoBulkAll elems + uptoBulkAll spare + 1
  | .agg parts => uptoBulkAll parts + 1
  | .iface _ d => uptoBulk d + 1
  | .map entries => uptoBulkEntries entries + 1
  | .held _ => 1
def uptoBulkAll {H : Type} : List (DataW H) → Nat
  | [] => 0
  | d :: r => uptoBulk d + uptoBulkAll r
def uptoBulkEntries {H : Type} : List (Lit × DataW H) → Nat
  | [] => 0
  | x :: r => uptoBulkEntry x + uptoBulkEntries r
def uptoBulkEntry {H : Type} : Lit × DataW H → Nat
  | (.string bytes, d) => bytes.length + uptoBulk d + 1
  | (_, d) => uptoBulk d + 1
 end
def uptoSmall : (H : Type) → List (DataW H) → Bool := fun _ ds => decide (uptoBulkAll ds ≤ 1048576)
def OpenSpec.upto (s : _root_.Go.ChangeSpec) : _root_.Go.OpenSpec := { _root_.Go.OpenSpec.ofChange s with cond := some uptoSmall }

/-- 'laws.FnExactFactOk', WHERE WHAT IT READS IS OF BULK AT MOST 1048576: true; the input reads as it did. -/
def fnExactFactOkUptoRow : OpenClaim := { program := "ythcchnaoenjhlaa", sum := "344c9d4bc5e859f3a6790a5a697dacf4be53a1ecfe015fe53a4fe02b8ac170e2", func := "loop.example/g00709/laws.FnExactFactOk", spec := "fnExactFactOk", unfollowed := true, recurses := true, plainKeys := false, apart := false, narrowed := true }
def FnExactFactOkUptoSaid : Prop := fnExactFactOkUptoRow.holds Try.pinned (OpenSpec.upto fnExactFactOkSpec)

/-- 'laws.FnExactFactDo', WHERE WHAT IT READS IS OF BULK AT MOST 1048576: true; the input reads as it did. -/
def fnExactFactDoUptoRow : OpenClaim := { program := "ythcchnaoenjhlaa", sum := "344c9d4bc5e859f3a6790a5a697dacf4be53a1ecfe015fe53a4fe02b8ac170e2", func := "loop.example/g00709/laws.FnExactFactDo", spec := "fnExactFactDo", unfollowed := true, recurses := true, plainKeys := false, apart := false, narrowed := true }
def FnExactFactDoUptoSaid : Prop := fnExactFactDoUptoRow.holds Try.pinned (OpenSpec.upto fnExactFactDoSpec)

/-- 'laws.FnExactFactsRun', WHERE WHAT IT READS IS OF BULK AT MOST 1048576: true; the input reads as it did. -/
def fnExactFactsRunUptoRow : OpenClaim := { program := "ythcchnaoenjhlaa", sum := "344c9d4bc5e859f3a6790a5a697dacf4be53a1ecfe015fe53a4fe02b8ac170e2", func := "loop.example/g00709/laws.FnExactFactsRun", spec := "fnExactFactsRun", unfollowed := true, recurses := true, plainKeys := false, apart := false, narrowed := true }
def FnExactFactsRunUptoSaid : Prop := fnExactFactsRunUptoRow.holds Try.pinned (OpenSpec.upto fnExactFactsRunSpec)

/-- 'laws.FnExactAudit', WHERE WHAT IT READS IS OF BULK AT MOST 1048576: true; the input reads as it did. -/
def fnExactAuditUptoRow : OpenClaim := { program := "ythcchnaoenjhlaa", sum := "344c9d4bc5e859f3a6790a5a697dacf4be53a1ecfe015fe53a4fe02b8ac170e2", func := "loop.example/g00709/laws.FnExactAudit", spec := "fnExactAudit", unfollowed := true, recurses := true, plainKeys := false, apart := false, narrowed := true }
def FnExactAuditUptoSaid : Prop := fnExactAuditUptoRow.holds Try.pinned (OpenSpec.upto fnExactAuditSpec)

/-- 'laws.FnExactAuditSum', WHERE WHAT IT READS IS OF BULK AT MOST 1048576: true; the input reads as it did. -/
def fnExactAuditSumUptoRow : OpenClaim := { program := "ythcchnaoenjhlaa", sum := "344c9d4bc5e859f3a6790a5a697dacf4be53a1ecfe015fe53a4fe02b8ac170e2", func := "loop.example/g00709/laws.FnExactAuditSum", spec := "fnExactAuditSum", plainKeys := false, apart := false, narrowed := true }
def FnExactAuditSumUptoSaid : Prop := fnExactAuditSumUptoRow.holds Try.pinned (OpenSpec.upto fnExactAuditSumSpec)

/-- 'laws.FnExactAnswers', WHERE WHAT IT READS IS OF BULK AT MOST 1048576: true; the input reads as it did. -/
def fnExactAnswersUptoRow : OpenClaim := { program := "ythcchnaoenjhlaa", sum := "344c9d4bc5e859f3a6790a5a697dacf4be53a1ecfe015fe53a4fe02b8ac170e2", func := "loop.example/g00709/laws.FnExactAnswers", spec := "fnExactAnswers", plainKeys := false, apart := false, narrowed := true }
def FnExactAnswersUptoSaid : Prop := fnExactAnswersUptoRow.holds Try.pinned (OpenSpec.upto fnExactAnswersSpec)

end Rows
end Go.Proofs.Ythcchnaoenjhlaa
