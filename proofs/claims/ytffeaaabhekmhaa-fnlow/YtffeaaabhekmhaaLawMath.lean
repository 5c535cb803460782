/- Plain arithmetic for the laws on bits: the lowest set bits make a word whose set bits are just these. -/
import Derived.Test.YtffeaaabhekmhaaSLow
import Derived.Test.YtffeaaabhekmhaaLongMath
namespace Go.Proofs.Ytffeaaabhekmhaa

theorem ones_pick (X : Nat) : ∀ m n, (List.range m).filter (fun j => decide (j ∈ (onesTo X m).take n)) = (onesTo X m).take n := by
  intro m
  induction m with
  | zero => intro n; simp [onesTo]
  | succ m ih =>
    intro n
    have hlow : ∀ k, (List.range m).filter (fun j => decide (j ∈ (onesTo X m).take k ++ [m])) = (List.range m).filter (fun j => decide (j ∈ (onesTo X m).take k)) := fun k => by
      apply List.filter_congr
      intro j hj
      have : ¬ j = m := by simp at hj; omega
      simp [this]
    have hno : ∀ k, ¬ m ∈ (onesTo X m).take k := fun k h => by have := onesTo_lt (List.mem_of_mem_take h); omega
    rw [List.range_succ, List.filter_append]
    by_cases hb : X / 2 ^ m % 2 = 1
    · rw [onesTo_hit hb]
      by_cases hn : n ≤ (onesTo X m).length
      · rw [List.take_append_of_le_length hn, ih n]
        simp [hno n]
      · have e : (onesTo X m ++ [m]).take n = (onesTo X m).take n ++ [m] := by
          rw [List.take_of_length_le (by simp; omega), List.take_of_length_le (by omega)]
        rw [e, hlow n, ih n]
        simp
    · rw [onesTo_miss hb, ih n]
      simp [hno n]
/-- The word of the lowest n set bits has just these bits set. -/
theorem ones_take (X n : Nat) : onesTo (orL ((onesTo X 32).take n)) 32 = (onesTo X 32).take n := by
  have h := ones_pick X 32 n
  rw [← h]
  unfold onesTo
  apply List.filter_congr
  intro j _
  rw [orL_bit]
  have := ones_pick X 32 n
  unfold onesTo at this
  rw [this]
theorem take_and {X n : Nat} : orL ((onesTo X 32).take n) &&& X = orL ((onesTo X 32).take n) := by
  refine Nat.eq_of_testBit_eq fun j => ?_
  rw [Nat.testBit_and, orL_bit]
  by_cases h : j ∈ (onesTo X 32).take n
  · simp [h, (mem_ones.1 (List.mem_of_mem_take h)).2]
  · simp [h]
theorem free_mem {X j : Nat} {wd : Int} (hX : X < 4294967296) (h : j ∈ onesTo (freeV X wd) 32) : IsWidth wd ∧ (j : Int) < wd ∧ X.testBit j = false := by
  unfold freeV at h
  split at h
  · rename_i hw
    have hw' := hw
    unfold IsWidth at hw'
    have h1 := (mem_ones.1 h).2
    rw [free_bit hX (by omega)] at h1
    simp at h1
    exact ⟨hw, by omega, h1.2⟩
  · rw [ones_none] at h
    cases h
theorem free_and {X n : Nat} {wd : Int} (hX : X < 4294967296) : orL ((onesTo (freeV X wd) 32).take n) &&& X = 0 := by
  refine Nat.eq_of_testBit_eq fun j => ?_
  rw [Nat.testBit_and, orL_bit, Nat.zero_testBit]
  by_cases h : j ∈ (onesTo (freeV X wd) 32).take n
  · simp [(free_mem hX (List.mem_of_mem_take h)).2.2]
  · simp [h]
theorem high_lt {l : List Nat} {wd : Int} (h : ∀ j ∈ l, (j : Int) < wd) : highOf l < max wd 0 := by
  unfold highOf
  cases e : l.getLast? with
  | none => simp; omega
  | some k =>
    have := h k (List.mem_of_getLast? e)
    simp
    omega
theorem high_free {X n : Nat} {wd : Int} (hX : X < 4294967296) : highOf (onesTo (orL ((onesTo (freeV X wd) 32).take n)) 32) < max wd 0 := by
  rw [ones_take]
  exact high_lt fun j hj => (free_mem hX (List.mem_of_mem_take hj)).2.1
theorem free_none {X : Nat} {wd N : Int} (h : ¬ IsWidth wd ∨ N < 0) : orL ((onesTo (freeV X wd) 32).take N.toNat) = 0 := by
  rcases h with h | h
  · have : freeV X wd = 0 := if_neg h
    rw [this, ones_none]
    simp [orL_nil]
  · have : N.toNat = 0 := by omega
    rw [this, List.take_zero, orL_nil]
theorem free_count (X : Nat) : ∀ m, (freeTo X m).length + (onesTo X m).length = m := by
  intro m
  induction m with
  | zero => rfl
  | succ m ih =>
    by_cases h : X / 2 ^ m % 2 = 1
    · rw [freeTo_miss h, onesTo_hit h, List.length_append]; simp; omega
    · rw [freeTo_hit (by omega), onesTo_miss h, List.length_append]; simp; omega
theorem ones_mask {X m : Nat} (hm : m ≤ 32) : onesTo (X &&& (2 ^ m - 1)) 32 = onesTo X m := by
  obtain ⟨d, hd⟩ : ∃ d, 32 = m + d := ⟨32 - m, by omega⟩
  unfold onesTo
  rw [hd, List.range_add, List.filter_append]
  have h1 : (List.range m).filter (fun k => (X &&& (2 ^ m - 1)).testBit k) = (List.range m).filter (fun k => X.testBit k) := by
    apply List.filter_congr
    intro j hj
    simp at hj
    rw [Nat.testBit_and, Nat.testBit_two_pow_sub_one]
    simp [hj]
  have h2 : ((List.range d).map (m + ·)).filter (fun k => (X &&& (2 ^ m - 1)).testBit k) = [] := by
    rw [List.filter_eq_nil_iff]
    intro j hj
    obtain ⟨i, _, rfl⟩ := List.mem_map.1 hj
    rw [Nat.testBit_and, Nat.testBit_two_pow_sub_one]
    have : ¬ m + i < m := by omega
    simp [this]
  rw [h1, h2, List.append_nil]
/-- How many free bits are taken: as many as asked, or as there are. -/
theorem free_len {X : Nat} {wd N : Int} (hX : X < 4294967296) (hw : IsWidth wd) (hN : 0 ≤ N) :
    ((onesTo (orL ((onesTo (freeV X wd) 32).take N.toNat)) 32).length : Int) = min N (wd - ((onesTo (X &&& maskV wd) 32).length : Int)) := by
  have e1 : freeV X wd = freeB X wd.toNat := if_pos hw
  have e2 : maskV wd = 2 ^ wd.toNat - 1 := if_pos hw
  unfold IsWidth at hw
  have hc := free_count X wd.toNat
  rw [ones_take, e1, e2, ones_mask (by omega), free_ones hX (by omega), List.length_take]
  omega
theorem ones_one {X : Nat} (h : 0 < (onesTo X 32).length) : (onesTo (orL ((onesTo X 32).take 1)) 32).length = 1 := by
  rw [ones_take, List.length_take]; omega
theorem ofA_ones {X : Nat} (hX : X < 4294967296) : ofA (ints (onesTo X 32)) = X ∧ ofB (ints (onesTo X 32)) = true := by
  have h := bitsG_take X 32
  rw [List.take_of_length_le (onesTo_len X 32), orL_ones hX] at h
  unfold ofA ofB
  rw [h]
  exact ⟨rfl, rfl⟩
theorem take_all {X : Nat} (hX : X < 4294967296) : orL ((onesTo X 32).take 32) = X := by
  rw [List.take_of_length_le (onesTo_len X 32), orL_ones hX]

/-- What the longest free run means for the list of set bits. -/
theorem best_free {X b m : Nat} {wd : Int} (hX : X < 4294967296) (hw : IsWidth wd) (h : Best (freeV X wd) b m) (hm : 0 < m) :
    (∀ j ∈ onesTo X 32, ¬ (b ≤ j ∧ j < b + m)) ∧ (b = 0 ∨ b - 1 ∈ onesTo X 32) ∧ ((b : Int) + m = wd ∨ b + m ∈ onesTo X 32) ∧ (b : Int) + m ≤ wd := by
  have e1 : freeV X wd = freeB X wd.toNat := if_pos hw
  unfold IsWidth at hw
  rw [e1] at h
  have hbit : ∀ j, (freeB X wd.toNat).testBit j = true ↔ j < wd.toNat ∧ X.testBit j = false := fun j => by
    rw [free_bit hX (by omega)]; simp
  have hend : b + m - 1 < wd.toNat := ((hbit _).1 (h.run (b + m - 1) (by omega) (by omega))).1
  refine ⟨fun j hj ⟨h1, h2⟩ => ?_, ?_, ?_, by omega⟩
  · have := ((hbit j).1 (h.run j h1 h2)).2
    rw [(mem_ones.1 hj).2] at this
    cases this
  · by_cases h0 : b = 0
    · exact .inl h0
    · refine .inr (mem_ones.2 ⟨by omega, ?_⟩)
      cases hx : X.testBit (b - 1) with
      | true => rfl
      | false =>
        have := h.max (b - 1) (m + 1) (fun j h1 h2 => by
          by_cases e : j = b - 1
          · rw [e]; exact (hbit _).2 ⟨by omega, hx⟩
          · exact h.run j (by omega) (by omega))
        omega
  · by_cases h0 : (b : Int) + m = wd
    · exact .inl h0
    · refine .inr (mem_ones.2 ⟨by omega, ?_⟩)
      cases hx : X.testBit (b + m) with
      | true => rfl
      | false =>
        have := h.max b (m + 1) (h.run.snoc ((hbit _).2 ⟨by omega, hx⟩))
        omega

end Go.Proofs.Ytffeaaabhekmhaa
