/- When a control state is valid, in plain numbers; the map's bits and the highest of them. -/
import Derived.Test.YtibkjnfbpgohbaaClassW
import Derived.Test.YtibkjnfbpgohbaaSBits
import Derived.Test.YtibkjnfbpgohbaaSLow
namespace Go.Proofs.Ytibkjnfbpgohbaa
open Go.RowKit

/-- The run of a large block, and the map of a page. -/
def IsRun (r : Int) : Prop := 2 ≤ r ∧ r ≤ 16
instance (r : Int) : Decidable (IsRun r) := inferInstanceAs (Decidable (2 ≤ r ∧ r ≤ 16))
def IsMap (M : Nat) (K : Int) : Prop := M ≠ 0 ∧ M < 2 ^ (perV K).toNat
instance (M : Nat) (K : Int) : Decidable (IsMap M K) := inferInstanceAs (Decidable (_ ∧ _))
/-- A valid control state. -/
def CtlGood (S K : Int) (M : Nat) (R : Int) : Prop :=
  ((S = 0 ∨ S = 3) ∧ K = 0 ∧ M = 0 ∧ R = 0) ∨ (S = 1 ∧ IsClass K ∧ IsMap M K ∧ R = 0) ∨ (S = 2 ∧ K = 0 ∧ M = 0 ∧ IsRun R)
instance (S K : Int) (M : Nat) (R : Int) : Decidable (CtlGood S K M R) := inferInstanceAs (Decidable (_ ∨ _ ∨ _))
theorem good_free {S K : Int} {M : Nat} {R : Int} (h : S = 0 ∨ S = 3) : CtlGood S K M R ↔ K = 0 ∧ M = 0 ∧ R = 0 := by
  unfold CtlGood
  constructor
  · rintro (h | h | h)
    · exact h.2
    · omega
    · omega
  · exact fun k => .inl ⟨h, k⟩
theorem good_page {K : Int} {M : Nat} {R : Int} : CtlGood 1 K M R ↔ IsClass K ∧ IsMap M K ∧ R = 0 := by
  unfold CtlGood
  constructor
  · rintro (h | h | h)
    · omega
    · exact h.2
    · omega
  · exact fun k => .inr (.inl ⟨rfl, k⟩)
theorem good_head {K : Int} {M : Nat} {R : Int} : CtlGood 2 K M R ↔ K = 0 ∧ M = 0 ∧ IsRun R := by
  unfold CtlGood
  constructor
  · rintro (h | h | h)
    · omega
    · omega
    · exact h.2
  · exact fun k => .inr (.inr ⟨rfl, k⟩)
theorem good_none {S K : Int} {M : Nat} {R : Int} (h : ¬ (S = 0 ∨ S = 3)) (h1 : ¬ S = 1) (h2 : ¬ S = 2) : ¬ CtlGood S K M R := by
  unfold CtlGood
  rintro (h | h | h) <;> omega

theorem high_top (X : Nat) : ∀ n, (∀ k ∈ onesTo X n, (k : Int) ≤ highOf (onesTo X n)) ∧ (onesTo X n ≠ [] → ∃ m ∈ onesTo X n, highOf (onesTo X n) = m) := by
  intro n
  induction n with
  | zero => simp [onesTo_zero]
  | succ n ih =>
    by_cases h : X / 2 ^ n % 2 = 1
    · rw [onesTo_hit h, highOf_snoc]
      refine ⟨fun k hk => ?_, fun _ => ⟨n, by simp, rfl⟩⟩
      rcases List.mem_append.1 hk with hk | hk
      · have := onesTo_lt hk; omega
      · simp at hk; omega
    · rw [onesTo_miss h]; exact ih
theorem high_lt {X p : Nat} (hX : X < 4294967296) (h0 : X ≠ 0) : highOf (onesTo X 32) < (p : Int) ↔ X < 2 ^ p := by
  obtain ⟨j, hj⟩ := Nat.exists_testBit_of_ne_zero h0
  have hj32 : j < 32 := by
    refine Decidable.byContradiction fun h => ?_
    rw [Nat.testBit_lt_two_pow (Nat.lt_of_lt_of_le hX (Nat.pow_le_pow_right (n := 2) (by omega) (show 32 ≤ j by omega)))] at hj
    simp at hj
  have hmem : j ∈ onesTo X 32 := mem_ones.2 ⟨hj32, hj⟩
  obtain ⟨hall, hex⟩ := high_top X 32
  obtain ⟨m, hm, he⟩ := hex (fun h => by rw [h] at hmem; simp at hmem)
  rw [he]
  constructor
  · intro h
    refine Nat.lt_pow_two_of_testBit X fun i hi => ?_
    refine Decidable.byContradiction fun hb => ?_
    have hb : X.testBit i = true := by simpa using hb
    have hi32 : i < 32 := by
      refine Decidable.byContradiction fun h => ?_
      rw [Nat.testBit_lt_two_pow (Nat.lt_of_lt_of_le hX (Nat.pow_le_pow_right (n := 2) (by omega) (show 32 ≤ i by omega)))] at hb
      simp at hb
    have := hall i (mem_ones.2 ⟨hi32, hb⟩)
    rw [he] at this
    omega
  · intro h
    refine Decidable.byContradiction fun hb => ?_
    have := (mem_ones.1 hm).2
    rw [Nat.testBit_lt_two_pow (Nat.lt_of_lt_of_le h (Nat.pow_le_pow_right (n := 2) (by omega) (show p ≤ m by omega)))] at this
    simp at this
theorem andNot_zero {M p : Nat} (hM : M < 4294967296) (hp : p ≤ 32) : M &&& (4294967295 - (2 ^ p - 1)) = 0 ↔ M < 2 ^ p := by
  have h1 : 2 ^ p ≤ 2 ^ 32 := Nat.pow_le_pow_right (by omega) hp
  have h2 : 0 < 2 ^ p := Nat.pow_pos (by omega)
  have e : 4294967295 - (2 ^ p - 1) = 2 ^ 32 - ((2 ^ p - 1) + 1) := by omega
  have hb : ∀ i, (4294967295 - (2 ^ p - 1)).testBit i = (decide (i < 32) && !decide (i < p)) := fun i => by
    rw [e, Nat.testBit_two_pow_sub_succ (by omega), Nat.testBit_two_pow_sub_one]
  constructor
  · intro h
    refine Nat.lt_pow_two_of_testBit M fun i hi => ?_
    by_cases h32 : i < 32
    · have h3 : (M &&& (4294967295 - (2 ^ p - 1))).testBit i = false := by rw [h]; simp
      rw [Nat.testBit_and, hb] at h3
      have h4 : ¬ i < p := by omega
      simpa [h32, h4] using h3
    · exact Nat.testBit_lt_two_pow (Nat.lt_of_lt_of_le hM (Nat.pow_le_pow_right (n := 2) (by omega) (show 32 ≤ i by omega)))
  · intro h
    refine Nat.eq_of_testBit_eq fun i => ?_
    rw [Nat.testBit_and, hb, Nat.zero_testBit]
    by_cases hi : i < p
    · simp [hi]
    · rw [Nat.testBit_lt_two_pow (Nat.lt_of_lt_of_le h (Nat.pow_le_pow_right (n := 2) (by omega) (show p ≤ i by omega)))]
      rfl
theorem perV_nat {K : Int} (h : IsClass K) : ((perV K).toNat : Int) = perV K ∧ (perV K).toNat ≤ 16 ∧ 1 ≤ perV K := by
  rcases five h with rfl | rfl | rfl | rfl | rfl <;> decide
theorem maskV_per {K : Int} (h : IsClass K) : maskV (perV K) = 2 ^ (perV K).toNat - 1 := by
  rcases five h with rfl | rfl | rfl | rfl | rfl <;> rfl
theorem lim_le {K : Int} (h : IsClass K) : 2 ^ (perV K).toNat ≤ 65536 := by
  rcases five h with rfl | rfl | rfl | rfl | rfl <;> decide

end Go.Proofs.Ytibkjnfbpgohbaa
