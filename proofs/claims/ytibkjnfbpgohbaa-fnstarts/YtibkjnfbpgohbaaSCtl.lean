/- The contract of the model's CtlOk. -/
import Derived.Test.YtibkjnfbpgohbaaCtlM
import Derived.Deep.RegionHeld3
import Derived.BigQuiet
namespace Go.Proofs.Ytibkjnfbpgohbaa
open Go.RowKit

theorem dec_head {K : Int} {M : Nat} {R : Int} : decide (CtlGood 2 K M R) = decide (K = 0 ∧ M = 0 ∧ IsRun R) := decide_eq_decide.2 good_head
theorem below_drewN {b k : Nat} {w w' : World} (h : Below b w w') : Below b w (w'.drewN k) := h.trans ⟨rfl, rfl, rfl, Nat.le_refl _, fun _ _ => rfl⟩

end Go.Proofs.Ytibkjnfbpgohbaa
