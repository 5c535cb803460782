/-
  No cell of these rows narrows 'for every input' (looked for: loops, veiled, ifaces, maps, wideKeys, modest, calm, conditions, laid).
  DERIVED. THE GIVEN ROWS OF THIS SEAT. 12 by the template 'for every input the law returns true; each argument reads behind the call as it read before'; 0 by the template 'total and deterministic' (their statements: YtffeaaabhekmhaaTotals.lean).
  GIVEN WITH THE SEED: the statements are not yours to turn. If you find one false, say at which input.
  Laid BY PROGRAM, IN A SANDBOX (cutbox-rows.mjs): the forced cells as the released guide's own fill.sh prints them over the translation 7515121a1d9c7146… (all of the seat's roots in one cut). By AI agents, Wed Nov 11 2026. No macro, syntax, notation, axiom, sorry.
-/
import Derived.Test.YtffeaaabhekmhaaChecked
import GoSem.Claim
import GoSem.ClaimJoined
import GoSem.ClaimMapViews
import Derived.JoinedTies
import Derived.KernelRfl
namespace Go.Proofs.Ytffeaaabhekmhaa
/- THE CELL 'sum', in the pinned program and in every row, IS THE sha256 OF THE DUMP (.gsa) THAT YtffeaaabhekmhaaProg.lean LOADS. Nothing in Lean hashes anything: it is a label: what it is worth is what the hold of that sum in a sandbox is worth. -/
noncomputable def Try.pinned : Pinned := { name := "ytffeaaabhekmhaa", sum := "7515121a1d9c71468a5519c4e9a3dbda91845d598d7605c08d5516d722528ebe", checked := Try.checked }
namespace Rows
def none {H : Type} : Left H := { results := [], args := [] }

/-- 'laws.FnBitsBack': WHATEVER THE INPUT: true; the input reads as it did. -/
def fnBitsBackSpec : ChangeSpec := { name := "fnBitsBack", fn := fun _ => fun
  | [d] => { results := [.lit (.bool true)], args := [d] }
  | _ => none }
def fnBitsBackRow : OpenClaim := { program := "ytffeaaabhekmhaa", sum := "7515121a1d9c71468a5519c4e9a3dbda91845d598d7605c08d5516d722528ebe", func := "loop.example/g00709/laws.FnBitsBack", spec := "fnBitsBack", unfollowed := true, recurses := true, apart := false }
def FnBitsBackSaid : Prop := fnBitsBackRow.holds Try.pinned (OpenSpec.ofChange fnBitsBackSpec)

/-- ITS FALSE NEIGHBOUR: 'it returns false'. Refute it at one input. -/
def fnBitsBackWrong : ChangeSpec := { name := "fnBitsBack", fn := fun _ => fun
  | [d] => { results := [.lit (.bool false)], args := [d] }
  | _ => none }
def FnBitsBackWrongFalsely : Prop := fnBitsBackRow.holds Try.pinned (OpenSpec.ofChange fnBitsBackWrong)

/-- 'laws.FnLow': WHATEVER THE INPUT: true; the input reads as it did. -/
def fnLowSpec : ChangeSpec := { name := "fnLow", fn := fun _ => fun
  | [d] => { results := [.lit (.bool true)], args := [d] }
  | _ => none }
def fnLowRow : OpenClaim := { program := "ytffeaaabhekmhaa", sum := "7515121a1d9c71468a5519c4e9a3dbda91845d598d7605c08d5516d722528ebe", func := "loop.example/g00709/laws.FnLow", spec := "fnLow", unfollowed := true, recurses := true, apart := false }
def FnLowSaid : Prop := fnLowRow.holds Try.pinned (OpenSpec.ofChange fnLowSpec)

/-- ITS FALSE NEIGHBOUR: 'it returns false'. Refute it at one input. -/
def fnLowWrong : ChangeSpec := { name := "fnLow", fn := fun _ => fun
  | [d] => { results := [.lit (.bool false)], args := [d] }
  | _ => none }
def FnLowWrongFalsely : Prop := fnLowRow.holds Try.pinned (OpenSpec.ofChange fnLowWrong)

/-- 'laws.FnLongestBits': WHATEVER THE INPUT: true; the input reads as it did. -/
def fnLongestBitsSpec : ChangeSpec := { name := "fnLongestBits", fn := fun _ => fun
  | [d] => { results := [.lit (.bool true)], args := [d] }
  | _ => none }
def fnLongestBitsRow : OpenClaim := { program := "ytffeaaabhekmhaa", sum := "7515121a1d9c71468a5519c4e9a3dbda91845d598d7605c08d5516d722528ebe", func := "loop.example/g00709/laws.FnLongestBits", spec := "fnLongestBits", unfollowed := true, recurses := true, apart := false }
def FnLongestBitsSaid : Prop := fnLongestBitsRow.holds Try.pinned (OpenSpec.ofChange fnLongestBitsSpec)

/-- ITS FALSE NEIGHBOUR: 'it returns false'. Refute it at one input. -/
def fnLongestBitsWrong : ChangeSpec := { name := "fnLongestBits", fn := fun _ => fun
  | [d] => { results := [.lit (.bool false)], args := [d] }
  | _ => none }
def FnLongestBitsWrongFalsely : Prop := fnLongestBitsRow.holds Try.pinned (OpenSpec.ofChange fnLongestBitsWrong)

/-- 'laws.FnExactOnes': WHATEVER THE INPUT: true; the input reads as it did. -/
def fnExactOnesSpec : ChangeSpec := { name := "fnExactOnes", fn := fun _ => fun
  | [d] => { results := [.lit (.bool true)], args := [d] }
  | _ => none }
def fnExactOnesRow : OpenClaim := { program := "ytffeaaabhekmhaa", sum := "7515121a1d9c71468a5519c4e9a3dbda91845d598d7605c08d5516d722528ebe", func := "loop.example/g00709/laws.FnExactOnes", spec := "fnExactOnes", unfollowed := true, recurses := true, apart := false }
def FnExactOnesSaid : Prop := fnExactOnesRow.holds Try.pinned (OpenSpec.ofChange fnExactOnesSpec)

/-- ITS FALSE NEIGHBOUR: 'it returns false'. Refute it at one input. -/
def fnExactOnesWrong : ChangeSpec := { name := "fnExactOnes", fn := fun _ => fun
  | [d] => { results := [.lit (.bool false)], args := [d] }
  | _ => none }
def FnExactOnesWrongFalsely : Prop := fnExactOnesRow.holds Try.pinned (OpenSpec.ofChange fnExactOnesWrong)

/-- 'laws.FnExactLowest': WHATEVER THE INPUT: true; the input reads as it did. -/
def fnExactLowestSpec : ChangeSpec := { name := "fnExactLowest", fn := fun _ => fun
  | [d] => { results := [.lit (.bool true)], args := [d] }
  | _ => none }
def fnExactLowestRow : OpenClaim := { program := "ytffeaaabhekmhaa", sum := "7515121a1d9c71468a5519c4e9a3dbda91845d598d7605c08d5516d722528ebe", func := "loop.example/g00709/laws.FnExactLowest", spec := "fnExactLowest", unfollowed := true, recurses := true, apart := false }
def FnExactLowestSaid : Prop := fnExactLowestRow.holds Try.pinned (OpenSpec.ofChange fnExactLowestSpec)

/-- ITS FALSE NEIGHBOUR: 'it returns false'. Refute it at one input. -/
def fnExactLowestWrong : ChangeSpec := { name := "fnExactLowest", fn := fun _ => fun
  | [d] => { results := [.lit (.bool false)], args := [d] }
  | _ => none }
def FnExactLowestWrongFalsely : Prop := fnExactLowestRow.holds Try.pinned (OpenSpec.ofChange fnExactLowestWrong)

/-- 'laws.FnExactHighest': WHATEVER THE INPUT: true; the input reads as it did. -/
def fnExactHighestSpec : ChangeSpec := { name := "fnExactHighest", fn := fun _ => fun
  | [d] => { results := [.lit (.bool true)], args := [d] }
  | _ => none }
def fnExactHighestRow : OpenClaim := { program := "ytffeaaabhekmhaa", sum := "7515121a1d9c71468a5519c4e9a3dbda91845d598d7605c08d5516d722528ebe", func := "loop.example/g00709/laws.FnExactHighest", spec := "fnExactHighest", unfollowed := true, recurses := true, apart := false }
def FnExactHighestSaid : Prop := fnExactHighestRow.holds Try.pinned (OpenSpec.ofChange fnExactHighestSpec)

/-- ITS FALSE NEIGHBOUR: 'it returns false'. Refute it at one input. -/
def fnExactHighestWrong : ChangeSpec := { name := "fnExactHighest", fn := fun _ => fun
  | [d] => { results := [.lit (.bool false)], args := [d] }
  | _ => none }
def FnExactHighestWrongFalsely : Prop := fnExactHighestRow.holds Try.pinned (OpenSpec.ofChange fnExactHighestWrong)

/-- 'laws.FnExactTakeLow': WHATEVER THE INPUT: true; the input reads as it did. -/
def fnExactTakeLowSpec : ChangeSpec := { name := "fnExactTakeLow", fn := fun _ => fun
  | [d1, d2] => { results := [.lit (.bool true)], args := [d1, d2] }
  | _ => none }
def fnExactTakeLowRow : OpenClaim := { program := "ytffeaaabhekmhaa", sum := "7515121a1d9c71468a5519c4e9a3dbda91845d598d7605c08d5516d722528ebe", func := "loop.example/g00709/laws.FnExactTakeLow", spec := "fnExactTakeLow", unfollowed := true, recurses := true, apart := false }
def FnExactTakeLowSaid : Prop := fnExactTakeLowRow.holds Try.pinned (OpenSpec.ofChange fnExactTakeLowSpec)

/-- ITS FALSE NEIGHBOUR: 'it returns false'. Refute it at one input. -/
def fnExactTakeLowWrong : ChangeSpec := { name := "fnExactTakeLow", fn := fun _ => fun
  | [d1, d2] => { results := [.lit (.bool false)], args := [d1, d2] }
  | _ => none }
def FnExactTakeLowWrongFalsely : Prop := fnExactTakeLowRow.holds Try.pinned (OpenSpec.ofChange fnExactTakeLowWrong)

/-- 'laws.FnExactFreeLow': WHATEVER THE INPUT: true; the input reads as it did. -/
def fnExactFreeLowSpec : ChangeSpec := { name := "fnExactFreeLow", fn := fun _ => fun
  | [d1, d2, d3] => { results := [.lit (.bool true)], args := [d1, d2, d3] }
  | _ => none }
def fnExactFreeLowRow : OpenClaim := { program := "ytffeaaabhekmhaa", sum := "7515121a1d9c71468a5519c4e9a3dbda91845d598d7605c08d5516d722528ebe", func := "loop.example/g00709/laws.FnExactFreeLow", spec := "fnExactFreeLow", unfollowed := true, recurses := true, apart := false }
def FnExactFreeLowSaid : Prop := fnExactFreeLowRow.holds Try.pinned (OpenSpec.ofChange fnExactFreeLowSpec)

/-- ITS FALSE NEIGHBOUR: 'it returns false'. Refute it at one input. -/
def fnExactFreeLowWrong : ChangeSpec := { name := "fnExactFreeLow", fn := fun _ => fun
  | [d1, d2, d3] => { results := [.lit (.bool false)], args := [d1, d2, d3] }
  | _ => none }
def FnExactFreeLowWrongFalsely : Prop := fnExactFreeLowRow.holds Try.pinned (OpenSpec.ofChange fnExactFreeLowWrong)

/-- 'laws.FnExactMaskOf': WHATEVER THE INPUT: true; the input reads as it did. -/
def fnExactMaskOfSpec : ChangeSpec := { name := "fnExactMaskOf", fn := fun _ => fun
  | [d] => { results := [.lit (.bool true)], args := [d] }
  | _ => none }
def fnExactMaskOfRow : OpenClaim := { program := "ytffeaaabhekmhaa", sum := "7515121a1d9c71468a5519c4e9a3dbda91845d598d7605c08d5516d722528ebe", func := "loop.example/g00709/laws.FnExactMaskOf", spec := "fnExactMaskOf", apart := false }
def FnExactMaskOfSaid : Prop := fnExactMaskOfRow.holds Try.pinned (OpenSpec.ofChange fnExactMaskOfSpec)

/-- ITS FALSE NEIGHBOUR: 'it returns false'. Refute it at one input. -/
def fnExactMaskOfWrong : ChangeSpec := { name := "fnExactMaskOf", fn := fun _ => fun
  | [d] => { results := [.lit (.bool false)], args := [d] }
  | _ => none }
def FnExactMaskOfWrongFalsely : Prop := fnExactMaskOfRow.holds Try.pinned (OpenSpec.ofChange fnExactMaskOfWrong)

/-- 'laws.FnExactBitList': WHATEVER THE INPUT: true; the input reads as it did. -/
def fnExactBitListSpec : ChangeSpec := { name := "fnExactBitList", fn := fun _ => fun
  | [d] => { results := [.lit (.bool true)], args := [d] }
  | _ => none }
def fnExactBitListRow : OpenClaim := { program := "ytffeaaabhekmhaa", sum := "7515121a1d9c71468a5519c4e9a3dbda91845d598d7605c08d5516d722528ebe", func := "loop.example/g00709/laws.FnExactBitList", spec := "fnExactBitList", unfollowed := true, recurses := true, apart := false }
def FnExactBitListSaid : Prop := fnExactBitListRow.holds Try.pinned (OpenSpec.ofChange fnExactBitListSpec)

/-- ITS FALSE NEIGHBOUR: 'it returns false'. Refute it at one input. -/
def fnExactBitListWrong : ChangeSpec := { name := "fnExactBitList", fn := fun _ => fun
  | [d] => { results := [.lit (.bool false)], args := [d] }
  | _ => none }
def FnExactBitListWrongFalsely : Prop := fnExactBitListRow.holds Try.pinned (OpenSpec.ofChange fnExactBitListWrong)

/-- 'laws.FnExactBitsOf': WHATEVER THE INPUT: true; the input reads as it did. -/
def fnExactBitsOfSpec : ChangeSpec := { name := "fnExactBitsOf", fn := fun _ => fun
  | [d] => { results := [.lit (.bool true)], args := [d] }
  | _ => none }
def fnExactBitsOfRow : OpenClaim := { program := "ytffeaaabhekmhaa", sum := "7515121a1d9c71468a5519c4e9a3dbda91845d598d7605c08d5516d722528ebe", func := "loop.example/g00709/laws.FnExactBitsOf", spec := "fnExactBitsOf", apart := false }
def FnExactBitsOfSaid : Prop := fnExactBitsOfRow.holds Try.pinned (OpenSpec.ofChange fnExactBitsOfSpec)

/-- ITS FALSE NEIGHBOUR: 'it returns false'. Refute it at one input. -/
def fnExactBitsOfWrong : ChangeSpec := { name := "fnExactBitsOf", fn := fun _ => fun
  | [d] => { results := [.lit (.bool false)], args := [d] }
  | _ => none }
def FnExactBitsOfWrongFalsely : Prop := fnExactBitsOfRow.holds Try.pinned (OpenSpec.ofChange fnExactBitsOfWrong)

/-- 'laws.FnExactLongest': WHATEVER THE INPUT: true; the input reads as it did. -/
def fnExactLongestSpec : ChangeSpec := { name := "fnExactLongest", fn := fun _ => fun
  | [d1, d2] => { results := [.lit (.bool true)], args := [d1, d2] }
  | _ => none }
def fnExactLongestRow : OpenClaim := { program := "ytffeaaabhekmhaa", sum := "7515121a1d9c71468a5519c4e9a3dbda91845d598d7605c08d5516d722528ebe", func := "loop.example/g00709/laws.FnExactLongest", spec := "fnExactLongest", unfollowed := true, recurses := true, apart := false }
def FnExactLongestSaid : Prop := fnExactLongestRow.holds Try.pinned (OpenSpec.ofChange fnExactLongestSpec)

/-- ITS FALSE NEIGHBOUR: 'it returns false'. Refute it at one input. -/
def fnExactLongestWrong : ChangeSpec := { name := "fnExactLongest", fn := fun _ => fun
  | [d1, d2] => { results := [.lit (.bool false)], args := [d1, d2] }
  | _ => none }
def FnExactLongestWrongFalsely : Prop := fnExactLongestRow.holds Try.pinned (OpenSpec.ofChange fnExactLongestWrong)

/- THE SECOND FORM. 'bulk': how many values and letters a reading holds, each counted each time it is reached (what is shared counts as often as it is met; a slice's spare places count too). A statement '..UptoSaid' is the law's where the arguments, and the package variables that the reading takes, are together of bulk at most 1048576: NARROWER than '..Said'. Prove '..Said' where nothing that the law and all that it calls make is longer than what came in: it says more and counts as full. Else prove '..UptoSaid'. A law counts once. -/
mutual
def uptoBulk {H : Type} : DataW H → Nat
  | .lit (.string bytes) => bytes.length + 1
  | .lit _ => 1
  | .nil => 1
  | .ptr d => uptoBulk d + 1
  | .slice elems spare => uptoBulkAll elems + uptoBulkAll spare + 1
  | .agg parts => uptoBulkAll parts + 1
  | .iface _ d => uptoBulk d + 1
  | .map entries => uptoBulkEntries entries + 1
  | .held _ => 1
def uptoBulkAll {H : Type} : List (DataW H) → Nat
  | [] => 0
  | d :: r => uptoBulk d + uptoBulkAll r
def uptoBulkEntries {H : Type} : List (Lit × DataW H) → Nat
  | [] => 0
  | x :: r => uptoBulkEntry x + uptoBulkEntries r
def uptoBulkEntry {H : Type} : Lit × DataW H → Nat
  | (.string bytes, d) => bytes.length + uptoBulk d + 1
  | (_, d) => uptoBulk d + 1
 end
def uptoSmall : (H : Type) → List (DataW H) → Bool := fun _ ds => decide (uptoBulkAll ds ≤ 1048576)
def OpenSpec.upto (s : _root_.Go.ChangeSpec) : _root_.Go.OpenSpec := { _root_.Go.OpenSpec.ofChange s with cond := some uptoSmall }

/-- 'laws.FnBitsBack', WHERE WHAT IT READS IS OF BULK AT MOST 1048576: true; the input reads as it did. -/
def fnBitsBackUptoRow : OpenClaim := { program := "ytffeaaabhekmhaa", sum := "7515121a1d9c71468a5519c4e9a3dbda91845d598d7605c08d5516d722528ebe", func := "loop.example/g00709/laws.FnBitsBack", spec := "fnBitsBack", unfollowed := true, recurses := true, apart := false, narrowed := true }
def FnBitsBackUptoSaid : Prop := fnBitsBackUptoRow.holds Try.pinned (OpenSpec.upto fnBitsBackSpec)

/-- 'laws.FnLow', WHERE WHAT IT READS IS OF BULK AT MOST 1048576: true; the input reads as it did. -/
def fnLowUptoRow : OpenClaim := { program := "ytffeaaabhekmhaa", sum := "7515121a1d9c71468a5519c4e9a3dbda91845d598d7605c08d5516d722528ebe", func := "loop.example/g00709/laws.FnLow", spec := "fnLow", unfollowed := true, recurses := true, apart := false, narrowed := true }
def FnLowUptoSaid : Prop := fnLowUptoRow.holds Try.pinned (OpenSpec.upto fnLowSpec)

/-- 'laws.FnLongestBits', WHERE WHAT IT READS IS OF BULK AT MOST 1048576: true; the input reads as it did. -/
def fnLongestBitsUptoRow : OpenClaim := { program := "ytffeaaabhekmhaa", sum := "7515121a1d9c71468a5519c4e9a3dbda91845d598d7605c08d5516d722528ebe", func := "loop.example/g00709/laws.FnLongestBits", spec := "fnLongestBits", unfollowed := true, recurses := true, apart := false, narrowed := true }
def FnLongestBitsUptoSaid : Prop := fnLongestBitsUptoRow.holds Try.pinned (OpenSpec.upto fnLongestBitsSpec)

/-- 'laws.FnExactOnes', WHERE WHAT IT READS IS OF BULK AT MOST 1048576: true; the input reads as it did. -/
def fnExactOnesUptoRow : OpenClaim := { program := "ytffeaaabhekmhaa", sum := "7515121a1d9c71468a5519c4e9a3dbda91845d598d7605c08d5516d722528ebe", func := "loop.example/g00709/laws.FnExactOnes", spec := "fnExactOnes", unfollowed := true, recurses := true, apart := false, narrowed := true }
def FnExactOnesUptoSaid : Prop := fnExactOnesUptoRow.holds Try.pinned (OpenSpec.upto fnExactOnesSpec)

/-- 'laws.FnExactLowest', WHERE WHAT IT READS IS OF BULK AT MOST 1048576: true; the input reads as it did. -/
def fnExactLowestUptoRow : OpenClaim := { program := "ytffeaaabhekmhaa", sum := "7515121a1d9c71468a5519c4e9a3dbda91845d598d7605c08d5516d722528ebe", func := "loop.example/g00709/laws.FnExactLowest", spec := "fnExactLowest", unfollowed := true, recurses := true, apart := false, narrowed := true }
def FnExactLowestUptoSaid : Prop := fnExactLowestUptoRow.holds Try.pinned (OpenSpec.upto fnExactLowestSpec)

/-- 'laws.FnExactHighest', WHERE WHAT IT READS IS OF BULK AT MOST 1048576: true; the input reads as it did. -/
def fnExactHighestUptoRow : OpenClaim := { program := "ytffeaaabhekmhaa", sum := "7515121a1d9c71468a5519c4e9a3dbda91845d598d7605c08d5516d722528ebe", func := "loop.example/g00709/laws.FnExactHighest", spec := "fnExactHighest", unfollowed := true, recurses := true, apart := false, narrowed := true }
def FnExactHighestUptoSaid : Prop := fnExactHighestUptoRow.holds Try.pinned (OpenSpec.upto fnExactHighestSpec)

/-- 'laws.FnExactTakeLow', WHERE WHAT IT READS IS OF BULK AT MOST 1048576: true; the input reads as it did. -/
def fnExactTakeLowUptoRow : OpenClaim := { program := "ytffeaaabhekmhaa", sum := "7515121a1d9c71468a5519c4e9a3dbda91845d598d7605c08d5516d722528ebe", func := "loop.example/g00709/laws.FnExactTakeLow", spec := "fnExactTakeLow", unfollowed := true, recurses := true, apart := false, narrowed := true }
def FnExactTakeLowUptoSaid : Prop := fnExactTakeLowUptoRow.holds Try.pinned (OpenSpec.upto fnExactTakeLowSpec)

/-- 'laws.FnExactFreeLow', WHERE WHAT IT READS IS OF BULK AT MOST 1048576: true; the input reads as it did. -/
def fnExactFreeLowUptoRow : OpenClaim := { program := "ytffeaaabhekmhaa", sum := "7515121a1d9c71468a5519c4e9a3dbda91845d598d7605c08d5516d722528ebe", func := "loop.example/g00709/laws.FnExactFreeLow", spec := "fnExactFreeLow", unfollowed := true, recurses := true, apart := false, narrowed := true }
def FnExactFreeLowUptoSaid : Prop := fnExactFreeLowUptoRow.holds Try.pinned (OpenSpec.upto fnExactFreeLowSpec)

/-- 'laws.FnExactMaskOf', WHERE WHAT IT READS IS OF BULK AT MOST 1048576: true; the input reads as it did. -/
def fnExactMaskOfUptoRow : OpenClaim := { program := "ytffeaaabhekmhaa", sum := "7515121a1d9c71468a5519c4e9a3dbda91845d598d7605c08d5516d722528ebe", func := "loop.example/g00709/laws.FnExactMaskOf", spec := "fnExactMaskOf", apart := false, narrowed := true }
def FnExactMaskOfUptoSaid : Prop := fnExactMaskOfUptoRow.holds Try.pinned (OpenSpec.upto fnExactMaskOfSpec)

/-- 'laws.FnExactBitList', WHERE WHAT IT READS IS OF BULK AT MOST 1048576: true; the input reads as it did. -/
def fnExactBitListUptoRow : OpenClaim := { program := "ytffeaaabhekmhaa", sum := "7515121a1d9c71468a5519c4e9a3dbda91845d598d7605c08d5516d722528ebe", func := "loop.example/g00709/laws.FnExactBitList", spec := "fnExactBitList", unfollowed := true, recurses := true, apart := false, narrowed := true }
def FnExactBitListUptoSaid : Prop := fnExactBitListUptoRow.holds Try.pinned (OpenSpec.upto fnExactBitListSpec)

/-- 'laws.FnExactBitsOf', WHERE WHAT IT READS IS OF BULK AT MOST 1048576: true; the input reads as it did. -/
def fnExactBitsOfUptoRow : OpenClaim := { program := "ytffeaaabhekmhaa", sum := "7515121a1d9c71468a5519c4e9a3dbda91845d598d7605c08d5516d722528ebe", func := "loop.example/g00709/laws.FnExactBitsOf", spec := "fnExactBitsOf", apart := false, narrowed := true }
def FnExactBitsOfUptoSaid : Prop := fnExactBitsOfUptoRow.holds Try.pinned (OpenSpec.upto fnExactBitsOfSpec)

/-- 'laws.FnExactLongest', WHERE WHAT IT READS IS OF BULK AT MOST 1048576: true; the input reads as it did. -/
def fnExactLongestUptoRow : OpenClaim := { program := "ytffeaaabhekmhaa", sum := "7515121a1d9c71468a5519c4e9a3dbda91845d598d7605c08d5516d722528ebe", func := "loop.example/g00709/laws.FnExactLongest", spec := "fnExactLongest", unfollowed := true, recurses := true, apart := false, narrowed := true }
def FnExactLongestUptoSaid : Prop := fnExactLongestUptoRow.holds Try.pinned (OpenSpec.upto fnExactLongestSpec)

end Rows
end Go.Proofs.Ytffeaaabhekmhaa
