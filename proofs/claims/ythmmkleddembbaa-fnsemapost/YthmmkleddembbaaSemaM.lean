/- When a semaphore is valid, its word, its fields and what a change of one field leaves, in plain numbers. -/
import Derived.Test.YthmmkleddembbaaBitsW
namespace Go.Proofs.Ythmmkleddembbaa
open Go.RowKit

/-- A valid semaphore, its word, and the word or 0. -/
def SemaGood (C E R : Int) : Prop := (0 ≤ C ∧ C ≤ 1000) ∧ (0 ≤ E ∧ E ≤ 1000) ∧ (0 ≤ R ∧ R ≤ 1000) ∧ R ≤ C + E
instance (C E R : Int) : Decidable (SemaGood C E R) := inferInstanceAs (Decidable (_ ∧ _ ∧ _ ∧ _))
def packSV (C E R : Int) : Int := C + 1024 * E + 1048576 * R
def packS (C E R : Int) : Int := if SemaGood C E R then packSV C E R else 0
theorem packS_good {C E R : Int} (h : SemaGood C E R) : packS C E R = packSV C E R := if_pos h
theorem packS_bad {C E R : Int} (h : ¬ SemaGood C E R) : packS C E R = 0 := if_neg h
/-- The fields of a word. -/
def cOf (X : Nat) : Nat := X % 1024
def eOf (X : Nat) : Nat := X / 1024 % 1024
def rOf (X : Nat) : Nat := X / 1048576
def SGoodX (X : Nat) : Prop := SemaGood (cOf X) (eOf X) (rOf X)
instance (X : Nat) : Decidable (SGoodX X) := inferInstanceAs (Decidable (SemaGood _ _ _))
/-- A semaphore, if the condition holds, or the zero value. -/
def semaIf (q : Bool) (C E R : Int) : Array Value := if q then #[.int .i64 C, .int .i64 E, .int .i64 R] else #[.int .i64 0, .int .i64 0, .int .i64 0]
/-- A number of units. -/
def IsAmt (n : Int) : Prop := 1 ≤ n ∧ n ≤ 1000
instance (n : Int) : Decidable (IsAmt n) := inferInstanceAs (Decidable (_ ∧ _))

/-- One field of a word is set anew: what is under it and what is above stays. -/
theorem field_clear {s lo f hi k : Nat} (hlo : lo < 2 ^ s) (hf : f < 1024) (hX : lo + 2 ^ s * f + 2 ^ (s + 10) * hi < 4294967296)
    (hk : ∀ j, j < 32 → k.testBit j = (decide (j < s) || decide (s + 10 ≤ j))) :
    (lo + 2 ^ s * f + 2 ^ (s + 10) * hi) &&& k = lo + 2 ^ (s + 10) * hi := by
  have hp : (2 : Nat) ^ (s + 10) = 2 ^ s * 1024 := by rw [Nat.pow_add]
  have hl2 : lo < 2 ^ (s + 10) := by rw [hp]; omega
  have hl3 : lo + 2 ^ s * f < 2 ^ (s + 10) := by
    rw [hp]
    have : 2 ^ s * f + 2 ^ s ≤ 2 ^ s * 1024 := by rw [← Nat.mul_succ]; exact Nat.mul_le_mul_left _ hf
    omega
  apply Nat.eq_of_testBit_eq
  intro j
  rw [Nat.testBit_and]
  by_cases h32 : j < 32
  · rw [hk j h32]
    have e1 : lo + 2 ^ s * f + 2 ^ (s + 10) * hi = 2 ^ (s + 10) * hi + (lo + 2 ^ s * f) := by omega
    have e2 : lo + 2 ^ (s + 10) * hi = 2 ^ (s + 10) * hi + lo := by omega
    rw [e1, e2, Nat.testBit_two_pow_mul_add _ hl3, Nat.testBit_two_pow_mul_add _ hl2]
    by_cases hj : j < s + 10
    · rw [if_pos hj, if_pos hj]
      have e3 : lo + 2 ^ s * f = 2 ^ s * f + lo := by omega
      rw [e3, Nat.testBit_two_pow_mul_add _ hlo]
      by_cases hj2 : j < s
      · simp [hj2]
      · rw [if_neg hj2]
        have : lo.testBit j = false := Nat.testBit_lt_two_pow (Nat.lt_of_lt_of_le hlo (Nat.pow_le_pow_right (by decide) (by omega)))
        rw [this]
        simp [hj2]
        omega
    · rw [if_neg hj, if_neg hj]
      have h : s + 10 ≤ j := by omega
      simp [h]
  · have h1 : (lo + 2 ^ s * f + 2 ^ (s + 10) * hi).testBit j = false := Nat.testBit_lt_two_pow (Nat.lt_of_lt_of_le hX (show 2 ^ 32 ≤ 2 ^ j from Nat.pow_le_pow_right (by decide) (by omega)))
    have h2 : (lo + 2 ^ (s + 10) * hi).testBit j = false := by
      refine Nat.testBit_lt_two_pow (Nat.lt_of_lt_of_le (m := 4294967296) ?_ (show 2 ^ 32 ≤ 2 ^ j from Nat.pow_le_pow_right (by decide) (by omega)))
      omega
    rw [h1, h2]; rfl
theorem field_or {s lo g hi : Nat} (hlo : lo < 2 ^ s) (hg : g < 1024) :
    (lo + 2 ^ (s + 10) * hi) ||| (2 ^ s * g) = lo + 2 ^ s * g + 2 ^ (s + 10) * hi := by
  have hp : (2 : Nat) ^ (s + 10) = 2 ^ s * 1024 := by rw [Nat.pow_add]
  have hl2 : lo < 2 ^ (s + 10) := by rw [hp]; omega
  have hl3 : 2 ^ s * g + lo < 2 ^ (s + 10) := by
    rw [hp]
    have : 2 ^ s * g + 2 ^ s ≤ 2 ^ s * 1024 := by rw [← Nat.mul_succ]; exact Nat.mul_le_mul_left _ hg
    omega
  have e1 := Nat.two_pow_add_eq_or_of_lt (i := s + 10) (a := hi) (b := lo) hl2
  have e2 := Nat.two_pow_add_eq_or_of_lt (i := s) (a := g) (b := lo) hlo
  have e3 := Nat.two_pow_add_eq_or_of_lt (i := s + 10) (a := hi) (b := 2 ^ s * g + lo) hl3
  rw [Nat.add_comm lo, e1, Nat.or_assoc, Nat.or_comm lo, ← e2, ← e3]
  omega

end Go.Proofs.Ythmmkleddembbaa
