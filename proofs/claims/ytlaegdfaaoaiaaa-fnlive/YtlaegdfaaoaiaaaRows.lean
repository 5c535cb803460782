/-
  No cell of these rows narrows 'for every input' (looked for: loops, veiled, ifaces, maps, wideKeys, modest, calm, conditions, laid).
  DERIVED. THE GIVEN ROWS OF THIS SEAT. 7 by the template 'for every input the law returns true; each argument reads behind the call as it read before'; 0 by the template 'total and deterministic' (their statements: YtlaegdfaaoaiaaaTotals.lean).
  GIVEN WITH THE SEED: the statements are not yours to turn. If you find one false, say at which input.
  Laid BY PROGRAM, IN A SANDBOX (cutbox-rows.mjs): the forced cells as the released guide's own fill.sh prints them over the translation 005662d9e82f751e… (all of the seat's roots in one cut). By AI agents, Wed Nov 11 2026. No macro, syntax, notation, axiom, sorry.
-/
import Derived.Test.YtlaegdfaaoaiaaaChecked
import GoSem.Claim
import GoSem.ClaimJoined
import GoSem.ClaimMapViews
import Derived.JoinedTies
import Derived.KernelRfl
namespace Go.Proofs.Ytlaegdfaaoaiaaa
/- THE CELL 'sum', in the pinned program and in every row, IS THE sha256 OF THE DUMP (.gsa) THAT YtlaegdfaaoaiaaaProg.lean LOADS. Nothing in Lean hashes anything: it is a label: what it is worth is what the hold of that sum in a sandbox is worth. -/
noncomputable def Try.pinned : Pinned := { name := "ytlaegdfaaoaiaaa", sum := "005662d9e82f751e6a4ec89b191f77499b10daebdde0c383cb086074074023ed", checked := Try.checked }
namespace Rows
def none {H : Type} : Left H := { results := [], args := [] }

/-- 'laws.FnLive': WHATEVER THE INPUT: true; the input reads as it did. -/
def fnLiveSpec : ChangeSpec := { name := "fnLive", fn := fun _ => fun
  | [d] => { results := [.lit (.bool true)], args := [d] }
  | _ => none }
def fnLiveRow : OpenClaim := { program := "ytlaegdfaaoaiaaa", sum := "005662d9e82f751e6a4ec89b191f77499b10daebdde0c383cb086074074023ed", func := "loop.example/g00709/laws.FnLive", spec := "fnLive", unfollowed := true, recurses := true, plainKeys := false, apart := false }
def FnLiveSaid : Prop := fnLiveRow.holds Try.pinned (OpenSpec.ofChange fnLiveSpec)

/-- ITS FALSE NEIGHBOUR: 'it returns false'. Refute it at one input. -/
def fnLiveWrong : ChangeSpec := { name := "fnLive", fn := fun _ => fun
  | [d] => { results := [.lit (.bool false)], args := [d] }
  | _ => none }
def FnLiveWrongFalsely : Prop := fnLiveRow.holds Try.pinned (OpenSpec.ofChange fnLiveWrong)

/-- 'laws.FnExactLiveOk': WHATEVER THE INPUT: true; the input reads as it did. -/
def fnExactLiveOkSpec : ChangeSpec := { name := "fnExactLiveOk", fn := fun _ => fun
  | [d1, d2] => { results := [.lit (.bool true)], args := [d1, d2] }
  | _ => none }
def fnExactLiveOkRow : OpenClaim := { program := "ytlaegdfaaoaiaaa", sum := "005662d9e82f751e6a4ec89b191f77499b10daebdde0c383cb086074074023ed", func := "loop.example/g00709/laws.FnExactLiveOk", spec := "fnExactLiveOk", plainKeys := false, apart := false }
def FnExactLiveOkSaid : Prop := fnExactLiveOkRow.holds Try.pinned (OpenSpec.ofChange fnExactLiveOkSpec)

/-- ITS FALSE NEIGHBOUR: 'it returns false'. Refute it at one input. -/
def fnExactLiveOkWrong : ChangeSpec := { name := "fnExactLiveOk", fn := fun _ => fun
  | [d1, d2] => { results := [.lit (.bool false)], args := [d1, d2] }
  | _ => none }
def FnExactLiveOkWrongFalsely : Prop := fnExactLiveOkRow.holds Try.pinned (OpenSpec.ofChange fnExactLiveOkWrong)

/-- 'laws.FnExactLiveAdd': WHATEVER THE INPUT: true; the input reads as it did. -/
def fnExactLiveAddSpec : ChangeSpec := { name := "fnExactLiveAdd", fn := fun _ => fun
  | [d1, d2, d3] => { results := [.lit (.bool true)], args := [d1, d2, d3] }
  | _ => none }
def fnExactLiveAddRow : OpenClaim := { program := "ytlaegdfaaoaiaaa", sum := "005662d9e82f751e6a4ec89b191f77499b10daebdde0c383cb086074074023ed", func := "loop.example/g00709/laws.FnExactLiveAdd", spec := "fnExactLiveAdd", unfollowed := true, recurses := true, plainKeys := false, apart := false }
def FnExactLiveAddSaid : Prop := fnExactLiveAddRow.holds Try.pinned (OpenSpec.ofChange fnExactLiveAddSpec)

/-- ITS FALSE NEIGHBOUR: 'it returns false'. Refute it at one input. -/
def fnExactLiveAddWrong : ChangeSpec := { name := "fnExactLiveAdd", fn := fun _ => fun
  | [d1, d2, d3] => { results := [.lit (.bool false)], args := [d1, d2, d3] }
  | _ => none }
def FnExactLiveAddWrongFalsely : Prop := fnExactLiveAddRow.holds Try.pinned (OpenSpec.ofChange fnExactLiveAddWrong)

/-- 'laws.FnExactLiveCut': WHATEVER THE INPUT: true; the input reads as it did. -/
def fnExactLiveCutSpec : ChangeSpec := { name := "fnExactLiveCut", fn := fun _ => fun
  | [d1, d2, d3] => { results := [.lit (.bool true)], args := [d1, d2, d3] }
  | _ => none }
def fnExactLiveCutRow : OpenClaim := { program := "ytlaegdfaaoaiaaa", sum := "005662d9e82f751e6a4ec89b191f77499b10daebdde0c383cb086074074023ed", func := "loop.example/g00709/laws.FnExactLiveCut", spec := "fnExactLiveCut", unfollowed := true, recurses := true, plainKeys := false, apart := false }
def FnExactLiveCutSaid : Prop := fnExactLiveCutRow.holds Try.pinned (OpenSpec.ofChange fnExactLiveCutSpec)

/-- ITS FALSE NEIGHBOUR: 'it returns false'. Refute it at one input. -/
def fnExactLiveCutWrong : ChangeSpec := { name := "fnExactLiveCut", fn := fun _ => fun
  | [d1, d2, d3] => { results := [.lit (.bool false)], args := [d1, d2, d3] }
  | _ => none }
def FnExactLiveCutWrongFalsely : Prop := fnExactLiveCutRow.holds Try.pinned (OpenSpec.ofChange fnExactLiveCutWrong)

/-- 'laws.FnExactLiveFind': WHATEVER THE INPUT: true; the input reads as it did. -/
def fnExactLiveFindSpec : ChangeSpec := { name := "fnExactLiveFind", fn := fun _ => fun
  | [d1, d2, d3] => { results := [.lit (.bool true)], args := [d1, d2, d3] }
  | _ => none }
def fnExactLiveFindRow : OpenClaim := { program := "ytlaegdfaaoaiaaa", sum := "005662d9e82f751e6a4ec89b191f77499b10daebdde0c383cb086074074023ed", func := "loop.example/g00709/laws.FnExactLiveFind", spec := "fnExactLiveFind", plainKeys := false, apart := false }
def FnExactLiveFindSaid : Prop := fnExactLiveFindRow.holds Try.pinned (OpenSpec.ofChange fnExactLiveFindSpec)

/-- ITS FALSE NEIGHBOUR: 'it returns false'. Refute it at one input. -/
def fnExactLiveFindWrong : ChangeSpec := { name := "fnExactLiveFind", fn := fun _ => fun
  | [d1, d2, d3] => { results := [.lit (.bool false)], args := [d1, d2, d3] }
  | _ => none }
def FnExactLiveFindWrongFalsely : Prop := fnExactLiveFindRow.holds Try.pinned (OpenSpec.ofChange fnExactLiveFindWrong)

/-- 'laws.FnExactLiveFree': WHATEVER THE INPUT: true; the input reads as it did. -/
def fnExactLiveFreeSpec : ChangeSpec := { name := "fnExactLiveFree", fn := fun _ => fun
  | [d1, d2] => { results := [.lit (.bool true)], args := [d1, d2] }
  | _ => none }
def fnExactLiveFreeRow : OpenClaim := { program := "ytlaegdfaaoaiaaa", sum := "005662d9e82f751e6a4ec89b191f77499b10daebdde0c383cb086074074023ed", func := "loop.example/g00709/laws.FnExactLiveFree", spec := "fnExactLiveFree", plainKeys := false, apart := false }
def FnExactLiveFreeSaid : Prop := fnExactLiveFreeRow.holds Try.pinned (OpenSpec.ofChange fnExactLiveFreeSpec)

/-- ITS FALSE NEIGHBOUR: 'it returns false'. Refute it at one input. -/
def fnExactLiveFreeWrong : ChangeSpec := { name := "fnExactLiveFree", fn := fun _ => fun
  | [d1, d2] => { results := [.lit (.bool false)], args := [d1, d2] }
  | _ => none }
def FnExactLiveFreeWrongFalsely : Prop := fnExactLiveFreeRow.holds Try.pinned (OpenSpec.ofChange fnExactLiveFreeWrong)

/-- 'laws.FnExactLiveSum': WHATEVER THE INPUT: true; the input reads as it did. -/
def fnExactLiveSumSpec : ChangeSpec := { name := "fnExactLiveSum", fn := fun _ => fun
  | [d1, d2] => { results := [.lit (.bool true)], args := [d1, d2] }
  | _ => none }
def fnExactLiveSumRow : OpenClaim := { program := "ytlaegdfaaoaiaaa", sum := "005662d9e82f751e6a4ec89b191f77499b10daebdde0c383cb086074074023ed", func := "loop.example/g00709/laws.FnExactLiveSum", spec := "fnExactLiveSum", plainKeys := false, apart := false }
def FnExactLiveSumSaid : Prop := fnExactLiveSumRow.holds Try.pinned (OpenSpec.ofChange fnExactLiveSumSpec)

/-- ITS FALSE NEIGHBOUR: 'it returns false'. Refute it at one input. -/
def fnExactLiveSumWrong : ChangeSpec := { name := "fnExactLiveSum", fn := fun _ => fun
  | [d1, d2] => { results := [.lit (.bool false)], args := [d1, d2] }
  | _ => none }
def FnExactLiveSumWrongFalsely : Prop := fnExactLiveSumRow.holds Try.pinned (OpenSpec.ofChange fnExactLiveSumWrong)

/- THE SECOND FORM. 'bulk': how many values and letters a reading holds, each counted each time it is reached (what is shared counts as often as it is met; a slice's spare places count too). A statement '..UptoSaid' is the law's where the arguments, and the package variables that the reading takes, are together of bulk at most 1048576: NARROWER than '..Said'. Prove '..Said' where nothing that the law and all that it calls make is longer than what came in: it says more and counts as full. Else prove '..UptoSaid'. A law counts once. -/
mutual
def uptoBulk {H : Type} : DataW H → Nat
  | .lit (.string bytes) => bytes.length + 1
  | .lit _ => 1
  | .nil => 1
  | .ptr d => uptoBulk d + 1
  | .slice elems spare => uptoBulkAll elems + uptoBulkAll spare + 1
  | .agg parts => uptoBulkAll parts + 1
  | .iface _ d => uptoBulk d + 1
  | .map entries => uptoBulkEntries entries + 1
  | .held _ => 1
def uptoBulkAll {H : Type} : List (DataW H) → Nat
  | [] => 0
  | d :: r => uptoBulk d + uptoBulkAll r
def uptoBulkEntries {H : Type} : List (Lit × DataW H) → Nat
  | [] => 0
  | x :: r => uptoBulkEntry x + uptoBulkEntries r
def uptoBulkEntry {H : Type} : Lit × DataW H → Nat
  | (.string bytes, d) => bytes.length + uptoBulk d + 1
  | (_, d) => uptoBulk d + 1
 end
def uptoSmall : (H : Type) → List (DataW H) → Bool := fun _ ds => decide (uptoBulkAll ds ≤ 1048576)
def OpenSpec.upto (s : _root_.Go.ChangeSpec) : _root_.Go.OpenSpec := { _root_.Go.OpenSpec.ofChange s with cond := some uptoSmall }

/-- 'laws.FnLive', WHERE WHAT IT READS IS OF BULK AT MOST 1048576: true; the input reads as it did. -/
def fnLiveUptoRow : OpenClaim := { program := "ytlaegdfaaoaiaaa", sum := "005662d9e82f751e6a4ec89b191f77499b10daebdde0c383cb086074074023ed", func := "loop.example/g00709/laws.FnLive", spec := "fnLive", unfollowed := true, recurses := true, plainKeys := false, apart := false, narrowed := true }
def FnLiveUptoSaid : Prop := fnLiveUptoRow.holds Try.pinned (OpenSpec.upto fnLiveSpec)

/-- 'laws.FnExactLiveOk', WHERE WHAT IT READS IS OF BULK AT MOST 1048576: true; the input reads as it did. -/
def fnExactLiveOkUptoRow : OpenClaim := { program := "ytlaegdfaaoaiaaa", sum := "005662d9e82f751e6a4ec89b191f77499b10daebdde0c383cb086074074023ed", func := "loop.example/g00709/laws.FnExactLiveOk", spec := "fnExactLiveOk", plainKeys := false, apart := false, narrowed := true }
def FnExactLiveOkUptoSaid : Prop := fnExactLiveOkUptoRow.holds Try.pinned (OpenSpec.upto fnExactLiveOkSpec)

/-- 'laws.FnExactLiveAdd', WHERE WHAT IT READS IS OF BULK AT MOST 1048576: true; the input reads as it did. -/
def fnExactLiveAddUptoRow : OpenClaim := { program := "ytlaegdfaaoaiaaa", sum := "005662d9e82f751e6a4ec89b191f77499b10daebdde0c383cb086074074023ed", func := "loop.example/g00709/laws.FnExactLiveAdd", spec := "fnExactLiveAdd", unfollowed := true, recurses := true, plainKeys := false, apart := false, narrowed := true }
def FnExactLiveAddUptoSaid : Prop := fnExactLiveAddUptoRow.holds Try.pinned (OpenSpec.upto fnExactLiveAddSpec)

/-- 'laws.FnExactLiveCut', WHERE WHAT IT READS IS OF BULK AT MOST 1048576: true; the input reads as it did. -/
def fnExactLiveCutUptoRow : OpenClaim := { program := "ytlaegdfaaoaiaaa", sum := "005662d9e82f751e6a4ec89b191f77499b10daebdde0c383cb086074074023ed", func := "loop.example/g00709/laws.FnExactLiveCut", spec := "fnExactLiveCut", unfollowed := true, recurses := true, plainKeys := false, apart := false, narrowed := true }
def FnExactLiveCutUptoSaid : Prop := fnExactLiveCutUptoRow.holds Try.pinned (OpenSpec.upto fnExactLiveCutSpec)

/-- 'laws.FnExactLiveFind', WHERE WHAT IT READS IS OF BULK AT MOST 1048576: true; the input reads as it did. -/
def fnExactLiveFindUptoRow : OpenClaim := { program := "ytlaegdfaaoaiaaa", sum := "005662d9e82f751e6a4ec89b191f77499b10daebdde0c383cb086074074023ed", func := "loop.example/g00709/laws.FnExactLiveFind", spec := "fnExactLiveFind", plainKeys := false, apart := false, narrowed := true }
def FnExactLiveFindUptoSaid : Prop := fnExactLiveFindUptoRow.holds Try.pinned (OpenSpec.upto fnExactLiveFindSpec)

/-- 'laws.FnExactLiveFree', WHERE WHAT IT READS IS OF BULK AT MOST 1048576: true; the input reads as it did. -/
def fnExactLiveFreeUptoRow : OpenClaim := { program := "ytlaegdfaaoaiaaa", sum := "005662d9e82f751e6a4ec89b191f77499b10daebdde0c383cb086074074023ed", func := "loop.example/g00709/laws.FnExactLiveFree", spec := "fnExactLiveFree", plainKeys := false, apart := false, narrowed := true }
def FnExactLiveFreeUptoSaid : Prop := fnExactLiveFreeUptoRow.holds Try.pinned (OpenSpec.upto fnExactLiveFreeSpec)

/-- 'laws.FnExactLiveSum', WHERE WHAT IT READS IS OF BULK AT MOST 1048576: true; the input reads as it did. -/
def fnExactLiveSumUptoRow : OpenClaim := { program := "ytlaegdfaaoaiaaa", sum := "005662d9e82f751e6a4ec89b191f77499b10daebdde0c383cb086074074023ed", func := "loop.example/g00709/laws.FnExactLiveSum", spec := "fnExactLiveSum", plainKeys := false, apart := false, narrowed := true }
def FnExactLiveSumUptoSaid : Prop := fnExactLiveSumUptoRow.holds Try.pinned (OpenSpec.upto fnExactLiveSumSpec)

end Rows
end Go.Proofs.Ytlaegdfaaoaiaaa
