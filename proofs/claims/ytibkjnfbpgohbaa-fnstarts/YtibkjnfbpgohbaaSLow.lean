/- The contracts of the model's MaskOf, TakeLow and FreeLow. -/
import Derived.Test.YtibkjnfbpgohbaaSOf
namespace Go.Proofs.Ytibkjnfbpgohbaa
open Go.RowKit

/-- A width that a word has. -/
def IsWidth (n : Int) : Prop := 0 ≤ n ∧ n ≤ 32
instance (n : Int) : Decidable (IsWidth n) := inferInstanceAs (Decidable (0 ≤ n ∧ n ≤ 32))
/-- The mask of a width, and the free bits below it. -/
def maskV (n : Int) : Nat := if IsWidth n then 2 ^ n.toNat - 1 else 0
def freeV (X : Nat) (n : Int) : Nat := if IsWidth n then freeB X n.toNat else 0
theorem maskV_lt (n : Int) : maskV n < 4294967296 := by
  unfold maskV
  split
  · rename_i h
    have h1 : n.toNat ≤ 32 := by unfold IsWidth at h; omega
    have : 2 ^ n.toNat ≤ 2 ^ 32 := Nat.pow_le_pow_right (by omega) h1
    omega
  · omega
theorem freeV_and (X : Nat) (n : Int) : (4294967295 - X) &&& maskV n = freeV X n := by
  unfold maskV freeV freeB
  split
  · rfl
  · simp
theorem freeV_lt (X : Nat) (n : Int) : freeV X n < 4294967296 := by
  unfold freeV
  split
  · exact free_lt
  · omega
theorem ones_none (m : Nat) : onesTo 0 m = [] := by
  have := onesTo_stop (X := 0) (k := 0) (by simp) m (by omega)
  rw [this, onesTo_zero]
theorem ofA_take (X n : Nat) : ofA (ints ((onesTo X 32).take n)) = orL ((onesTo X 32).take n) := by unfold ofA; rw [bitsG_take]; rfl

theorem mask_next (k : Nat) : 2 ^ k - 1 ||| 2 ^ k = 2 ^ (k + 1) - 1 := by
  refine Nat.eq_of_testBit_eq fun j => ?_
  rw [Nat.testBit_or, Nat.testBit_two_pow_sub_one, Nat.testBit_two_pow, Nat.testBit_two_pow_sub_one, ← Bool.decide_or]
  refine decide_eq_decide.2 ?_
  omega

end Go.Proofs.Ytibkjnfbpgohbaa
