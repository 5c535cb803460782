/- Whether a size fits into a memory, in plain words. -/
import Derived.Test.YtefcaeldkdbjdaaIHeap
import Derived.Test.YtefcaeldkdbjdaaClassW
import Derived.Test.YtefcaeldkdbjdaaClaimM
import Derived.Test.YtefcaeldkdbjdaaLongMath
namespace Go.Proofs.Ytefcaeldkdbjdaa
open Go.RowKit
set_option linter.unusedVariables false

/-- The words from i on, r of them, are all 0. -/
def Zeros0 (ws : List Nat) (i r : Nat) : Prop := ∀ j, i ≤ j → j < i + r → ws[j]?.getD 0 = 0
/-- r words beside one another are 0, among the first n. -/
def WideN (ws : List Nat) (n r : Nat) : Prop := ∃ i, i + r ≤ n ∧ Zeros0 ws i r
/-- One of the first n words has room for the class. -/
def SomeN (ws : List Nat) (n : Nat) (K : Int) : Prop := ∃ k, k < n ∧ 0 < roomV (ws[k]?.getD 0) K
def FitV (ws : List Nat) (s : Int) : Prop := HeapOk ws ∧ if 0 < chunksV s then WideN ws ws.length (chunksV s).toNat else SomeN ws ws.length (classV s)

theorem room_neg (X : Nat) : roomV X (-1) = 0 := if_neg (fun h => by have := h.2.1.1; omega)
theorem some_neg (ws : List Nat) (n : Nat) : ¬ SomeN ws n (-1) := fun ⟨k, _, h⟩ => by rw [room_neg] at h; omega
theorem SomeN.next {ws : List Nat} {n : Nat} {K : Int} : SomeN ws (n + 1) K ↔ SomeN ws n K ∨ 0 < roomV (ws[n]?.getD 0) K := by
  constructor
  · rintro ⟨k, h1, h2⟩
    rcases Nat.lt_or_ge k n with h | h
    · exact .inl ⟨k, h, h2⟩
    · obtain rfl : k = n := by omega
      exact .inr h2
  · rintro (⟨k, h1, h2⟩ | h)
    · exact ⟨k, by omega, h2⟩
    · exact ⟨n, by omega, h⟩

/-- The chunks of the first n that are not free, as bits. -/
def takK (ws : List Nat) : Nat → Nat
  | 0 => 0
  | k + 1 => if ws[k]?.getD 0 = 0 then takK ws k else takK ws k ||| 2 ^ k
theorem takK_bit (ws : List Nat) (j : Nat) : ∀ k, (takK ws k).testBit j = (decide (j < k) && !decide (ws[j]?.getD 0 = 0))
  | 0 => by simp [takK]
  | k + 1 => by
    have ih := takK_bit ws j k
    unfold takK
    by_cases h : ws[k]?.getD 0 = 0
    · rw [if_pos h, ih]
      by_cases e : j = k
      · subst e; simp [h]
      · have : (j < k + 1) = (j < k) := by apply propext; omega
        simp [this]
    · rw [if_neg h, Nat.testBit_or, ih, Nat.testBit_two_pow]
      by_cases e : j = k
      · subst e; simp [h]
      · have : (j < k + 1) = (j < k) := by apply propext; omega
        have e2 : ¬ k = j := fun x => e x.symm
        simp [this, e2]
theorem takK_lt (ws : List Nat) {k : Nat} (h : k ≤ 32) : takK ws k < 4294967296 := by
  have : (4294967296 : Nat) = 2 ^ 32 := rfl
  rw [this]
  refine Nat.lt_pow_two_of_testBit _ fun i hi => ?_
  rw [takK_bit]
  have : ¬ i < k := by omega
  simp [this]
theorem free_tak {ws : List Nat} {n j : Nat} (hn : n ≤ 32) : (freeV (takK ws n) (n : Int)).testBit j = (decide (j < n) && decide (ws[j]?.getD 0 = 0)) := by
  unfold freeV
  rw [if_pos ⟨by omega, by omega⟩, show ((n : Int)).toNat = n from by omega, free_bit (takK_lt ws hn) hn, takK_bit]
  by_cases h : j < n <;> simp [h]
theorem best_wide {ws : List Nat} {n b m r : Nat} (hn : n ≤ 32) (hr : 0 < r) (h : Best (freeV (takK ws n) (n : Int)) b m) : r ≤ m ↔ WideN ws n r := by
  constructor
  · intro hm
    refine ⟨b, ?_, fun j h1 h2 => ?_⟩
    · have := h.run (b + m - 1) (by omega) (by omega)
      rw [free_tak hn] at this
      simp at this
      omega
    · have := h.run j h1 (by omega)
      rw [free_tak hn] at this
      simp at this
      exact this.2
  · rintro ⟨i, h1, h2⟩
    refine h.max i r fun j h3 h4 => ?_
    rw [free_tak hn]
    simp [h2 j h3 h4]
    omega

/-- The run of zeros that ends behind word i: as long as can be. -/
structure RunTo (ws : List Nat) (i u : Nat) : Prop where
  le : u ≤ i
  all : Zeros0 ws (i - u) u
  max : u < i → ws[i - u - 1]?.getD 0 ≠ 0
theorem RunTo.zero (ws : List Nat) : RunTo ws 0 0 := ⟨Nat.le_refl _, fun j h1 h2 => by omega, fun h => by omega⟩
theorem RunTo.more {ws : List Nat} {i u : Nat} (h : RunTo ws i u) (hz : ws[i]?.getD 0 = 0) : RunTo ws (i + 1) (u + 1) := by
  have h0 := h.le
  refine ⟨by omega, fun j h1 h2 => ?_, fun hl => ?_⟩
  · by_cases e : j = i
    · subst e; exact hz
    · exact h.all j (by omega) (by omega)
  · have := h.max (by omega)
    rwa [show i + 1 - (u + 1) - 1 = i - u - 1 from by omega]
theorem RunTo.none {ws : List Nat} {i : Nat} (hz : ws[i]?.getD 0 ≠ 0) : RunTo ws (i + 1) 0 := ⟨by omega, fun j h1 h2 => by omega, fun _ => by rwa [show i + 1 - 0 - 1 = i from by omega]⟩
theorem RunTo.wide {ws : List Nat} {i u r : Nat} (h : RunTo ws i u) (hr : 0 < r) (hn : ¬ WideN ws (i - 1) r) : r ≤ u ↔ WideN ws i r := by
  have h0 := h.le
  constructor
  · intro hu
    exact ⟨i - r, by omega, fun j h1 h2 => h.all j (by omega) (by omega)⟩
  · rintro ⟨p, h1, h2⟩
    refine Nat.le_of_not_lt fun hu => ?_
    by_cases e : p + r = i
    · refine h.max (by omega) (h2 _ (by omega) (by omega))
    · exact hn ⟨p, by omega, h2⟩
theorem WideN.mono {ws : List Nat} {n n' r : Nat} (h : WideN ws n r) (hn : n ≤ n') : WideN ws n' r := by
  obtain ⟨i, h1, h2⟩ := h
  exact ⟨i, by omega, h2⟩

end Go.Proofs.Ytefcaeldkdbjdaa
