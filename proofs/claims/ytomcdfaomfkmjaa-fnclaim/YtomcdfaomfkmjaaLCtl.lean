/- FnCtl: a control word is recovered from its encoding. Proved for every code. No condition. -/
import Derived.Test.YtomcdfaomfkmjaaDrawCtl2
import Derived.Test.YtomcdfaomfkmjaaOpenY
namespace Go.Proofs.Ytomcdfaomfkmjaa
open Go.ChangeShapes Go.WideShapes Go.ChangeAt Go.RowKit
set_option linter.unusedVariables false

theorem unpack {S K : Int} {M : Nat} {R : Int} (h : CtlGood S K M R) : (stOf (packV S K M R) : Int) = S ∧ (clOf (packV S K M R) : Int) = K ∧ mpOf (packV S K M R) = M ∧ (rnOf (packV S K M R) : Int) = R := by
  obtain ⟨g1, g2, g3, g4, g5, g6, g7⟩ := good_bounds h
  unfold stOf clOf mpOf rnOf packV
  omega
theorem good_pack {S K : Int} {M : Nat} {R : Int} (h : CtlGood S K M R) : GoodX (packA S K M R) ∧ readV (packA S K M R) = #[.int .i64 S, .int .i64 K, .int .u32 (M : Int), .int .i64 R] := by
  obtain ⟨e1, e2, e3, e4⟩ := unpack h
  rw [packA_good h]
  have hg : GoodX (packV S K M R) := by
    unfold GoodX
    rw [e1, e2, e3, e4]
    exact h
  refine ⟨hg, ?_⟩
  unfold readV readN
  simp only [if_pos hg]
  rw [e1, e2, e3, e4]
theorem repack (Y : Nat) : packV (stOf Y) (clOf Y) (mpOf Y) (rnOf Y) = Y := by
  unfold stOf clOf mpOf rnOf packV
  omega