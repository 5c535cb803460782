/- The contracts of the model's l03Mask, Leader, RankOf, NthLane. -/
import Derived.Test.YtooegpebimpjcaaSBits
import Derived.Test.YtooegpebimpjcaaLaneMath
namespace Go.Proofs.Ytooegpebimpjcaa
open Go.RowKit

set_option maxHeartbeats 400000 in
theorem sMask_any (X : Nat) (w : World) (hX : X < 4294967296) :
    Calls Try.prog 78 #[.int .u32 (X : Int)] w fun e w' => e = .returned (.bool (decide (X < 256))) ∧ Below w.heap.size w w' := by
  have HC := Lib.hid (sHighest_any X w hX)
  by_cases hx : X < 256
  · have h8 : highOf (onesTo X 32) < 8 := (high_mask hX).2 hx
    rw [decide_eq_true hx]
    generalize highOf (onesTo X 32) = y at *
    clear hX hx
    go_enter Try.func78, Try.ntmps78
    go_wp2_with fail
    refine HC.out.mono ?_
    rintro e w1 ⟨rfl, hb⟩
    have HB := Lib.hid hb
    clear hb
    go_wp2
    go_ret
    exact ⟨rfl, HB.out⟩
  · have h8 : ¬ highOf (onesTo X 32) < 8 := fun e => hx ((high_mask hX).1 e)
    rw [decide_eq_false hx]
    generalize highOf (onesTo X 32) = y at *
    clear hX hx
    go_enter Try.func78, Try.ntmps78
    go_wp2_with fail
    refine HC.out.mono ?_
    rintro e w1 ⟨rfl, hb⟩
    have HB := Lib.hid hb
    clear hb
    go_wp2
    go_ret
    exact ⟨by show Ending.returned (Value.bool (decide (y < 8))) = _; rw [decide_eq_false (by omega)], HB.out⟩

end Go.Proofs.Ytooegpebimpjcaa
