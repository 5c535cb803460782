/- The contract of the program's isWarp. -/
import Derived.Test.YtibkjnfbpgohbaaBase
namespace Go.Proofs.Ytibkjnfbpgohbaa
open Go.RowKit

def IsWarp (id : Int) : Prop := 0 ≤ id ∧ id < 4
instance (id : Int) : Decidable (IsWarp id) := inferInstanceAs (Decidable (_ ∧ _))

set_option maxHeartbeats 400000 in
theorem isWarp_any (id : Int) (w : World) :
    Calls Try.prog 11 #[.int .i64 id] w fun e w' => e = .returned (.bool (decide (IsWarp id))) ∧ w = w' := by
  by_cases h0 : 0 ≤ id
  · by_cases h1 : id < 4
    · have hd : Hid (decide (IsWarp id) = true) := decide_eq_true ⟨h0, h1⟩
      go_enter Try.func11, Try.ntmps11
      go_wp2
      go_ret
      exact ⟨by rw [hd.out]; rfl, rfl⟩
    · have hd : Hid (decide (IsWarp id) = false) := decide_eq_false (fun h => h1 h.2)
      go_enter Try.func11, Try.ntmps11
      go_wp2
      go_ret
      exact ⟨by rw [hd.out]; rfl, rfl⟩
  · have hd : Hid (decide (IsWarp id) = false) := decide_eq_false (fun h => h0 h.1)
    go_enter Try.func11, Try.ntmps11
    go_wp2
    go_ret
    exact ⟨by rw [hd.out]; rfl, rfl⟩

end Go.Proofs.Ytibkjnfbpgohbaa
