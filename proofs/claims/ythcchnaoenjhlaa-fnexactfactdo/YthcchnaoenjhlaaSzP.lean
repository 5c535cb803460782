/- The contract of the laws' szBlockS: it leaves how many elements may still come. -/
import Derived.Test.YthcchnaoenjhlaaOwnP
namespace Go.Proofs.Ythcchnaoenjhlaa
open Go.RowKit

theorem szP_yes (A : Option Addr) (n c : Nat) (w : World) (hn : n ≤ 1048576) : Calls Try.prog 12 #[.slice A n c, .int .i64 1048576] w fun e w' => e = .returned (.int .i64 (1048576 - n)) ∧ w = w' := by
  have h1 : ¬ (1048576 : Int) - (n : Int) < 0 := by omega
  go_enter Try.func12, Try.ntmps12
  go_wp2
  go_ret
  exact ⟨rfl, rfl⟩
theorem szP_no (A : Option Addr) (n c : Nat) (w : World) (hm : n ≤ maxLen) (hn : 1048576 < n) : Calls Try.prog 12 #[.slice A n c, .int .i64 1048576] w fun e w' => e = .returned (.int .i64 (-1)) ∧ w = w' := by
  unfold maxLen at hm
  have h1 : (1048576 : Int) - (n : Int) < 0 := by omega
  go_enter Try.func12, Try.ntmps12
  go_wp2
  go_ret
  exact ⟨rfl, rfl⟩

end Go.Proofs.Ythcchnaoenjhlaa
