/- The contract of the model's l03Row, alone. -/
import Derived.Test.YtooegpebimpjcaaBase
namespace Go.Proofs.Ytooegpebimpjcaa
open Go.RowKit

set_option maxHeartbeats 400000 in
theorem sRow8_any (A : Option Addr) (n c : Nat) (w : World) :
    Calls Try.prog 77 #[.slice A n c] w fun e w' => e = .returned (.bool (decide (n = 8))) ∧ w = w' := by
  by_cases h : n = 8
  · subst h
    go_enter Try.func77, Try.ntmps77
    go_wp2
    go_ret
    exact ⟨rfl, rfl⟩
  · have h' : ((n : Int) == 8) = false := by simp; omega
    rw [decide_eq_false h]
    clear h
    go_enter Try.func77, Try.ntmps77
    go_wp2
    go_ret
    exact ⟨rfl, rfl⟩

end Go.Proofs.Ytooegpebimpjcaa
