/- The contracts of the program's isWidth, MaskOf, FreeLow and BitsOf. -/
import Derived.Test.YtibkjnfbpgohbaaTake
import Derived.Test.YtibkjnfbpgohbaaSLow
namespace Go.Proofs.Ytibkjnfbpgohbaa
open Go.RowKit Go.Shelf

attribute [local go_sem] Oper.semAt_some

theorem mask_form {M : Nat} (h : M ≤ 32) : IntKind.u64.wrap (IntKind.u64.wrap (2 ^ M) - 1) % 4294967296 = ((2 ^ M - 1 : Nat) : Int) := by
  have h1 : 2 ^ M ≤ 2 ^ 32 := Nat.pow_le_pow_right (by omega) h
  have h2 : 0 < 2 ^ M := Nat.pow_pos (by omega)
  rw [pow_cast]
  generalize 2 ^ M = y at *
  simp only [IntKind.wrap, IntKind.bits, IntKind.signed]
  simp
  omega
theorem not_form {X : Nat} (h : X < 4294967296) : bits .xor .u32 IntKind.u32.max (X : Int) = ((4294967295 - X : Nat) : Int) := by
  have h1 := u32_xor_nat 4294967295 X (by omega) h
  have h2 : 4294967295 ^^^ X = 4294967295 - X := by
    have e : 4294967295 - X = 2 ^ 32 - (X + 1) := by omega
    rw [e]
    refine Nat.eq_of_testBit_eq fun j => ?_
    rw [Nat.testBit_xor, Nat.testBit_two_pow_sub_succ (by omega), show 4294967295 = 2 ^ 32 - 1 from rfl, Nat.testBit_two_pow_sub_one]
    by_cases hj : j < 32
    · simp [hj]
    · have h3 : X.testBit j = false := Nat.testBit_lt_two_pow (Nat.lt_of_lt_of_le h (Nat.pow_le_pow_right (n := 2) (by omega) (show 32 ≤ j by omega)))
      simp [hj, h3]
  rw [h2] at h1
  exact h1
theorem free_form {X : Nat} (h : X < 4294967296) (wd : Int) : bits .and .u32 (bits .xor .u32 IntKind.u32.max (X : Int)) (maskV wd : Int) = (freeV X wd : Int) := by
  rw [not_form h, u32_and_nat _ _ (by omega) (maskV_lt wd), freeV_and]

theorem or_bit {y j : Nat} (hy : y < 4294967296) (hj : j < 32) : bits .or .u32 (y : Int) (2 ^ j % 4294967296) = ((y ||| 2 ^ j : Nat) : Int) := by
  have h2 : 2 ^ j < 4294967296 := Nat.pow_lt_pow_right (n := 32) (by omega) hj
  have h := u32_or_nat y (2 ^ j) hy h2
  rw [← h, pow_cast]
  generalize 2 ^ j = z at *
  rw [Int.emod_eq_of_lt (by omega) (by omega)]

end Go.Proofs.Ytibkjnfbpgohbaa
