/- Plain arithmetic of lane masks: rank of a lane, lane of a rank. -/
import Derived.Test.YtibkjnfbpgohbaaOrMath
namespace Go.Proofs.Ytibkjnfbpgohbaa

/-- The rank of a lane in a mask; -1 where it has none. -/
def rankV (X : Nat) (L : Int) : Int := if X < 256 ∧ 0 ≤ L ∧ X.testBit L.toNat = true then ((onesTo X L.toNat).length : Int) else -1
/-- The lane of a rank in a mask; -1 where there is none. -/
def nthV (X : Nat) (N : Int) : Int := if X < 256 ∧ 0 ≤ N ∧ N < ((onesTo X 32).length : Int) then (((onesTo X 32)[N.toNat]?.getD 0 : Nat) : Int) else -1

theorem bit_lt_8 {X j : Nat} (h : X < 256) (hj : X.testBit j = true) : j < 8 := by
  refine Nat.lt_of_not_le fun h1 => ?_
  have : X.testBit j = false := Nat.testBit_lt_two_pow (Nat.lt_of_lt_of_le h (Nat.pow_le_pow_right (n := 2) (by omega) h1))
  rw [this] at hj; cases hj
theorem ones_lt_8 {X j m : Nat} (h : X < 256) (hj : j ∈ onesTo X m) : j < 8 := bit_lt_8 h (mem_ones.1 hj).2
theorem ones_sorted (X m : Nat) : (onesTo X m).Pairwise (· < ·) := by
  unfold onesTo
  exact List.Pairwise.filter _ List.pairwise_lt_range
theorem sorted_inj {l : List Nat} (h : l.Pairwise (· < ·)) {i j : Nat} (hi : i < l.length) (hj : j < l.length) (e : l[i] = l[j]) : i = j := by
  have h1 := List.pairwise_iff_getElem.1 h
  rcases Nat.lt_trichotomy i j with h2 | h2 | h2
  · have := h1 i j hi hj h2; omega
  · exact h2
  · have := h1 j i hj hi h2; omega
/-- The set bits of a word under a mask. -/
theorem ones_mask {X L : Nat} (hL : L ≤ 32) : onesTo (X &&& (2 ^ L - 1)) 32 = onesTo X L := by
  obtain ⟨d, hd⟩ : ∃ d, 32 = L + d := ⟨32 - L, by omega⟩
  unfold onesTo
  rw [hd, List.range_add, List.filter_append]
  have h1 : (List.range L).filter (fun k => (X &&& (2 ^ L - 1)).testBit k) = (List.range L).filter (fun j => X.testBit j) := by
    apply List.filter_congr
    intro j hj
    simp at hj
    rw [Nat.testBit_and, Nat.testBit_two_pow_sub_one]
    simp [hj]
  have h2 : ((List.range d).map (L + ·)).filter (fun k => (X &&& (2 ^ L - 1)).testBit k) = [] := by
    rw [List.filter_eq_nil_iff]
    intro j hj
    obtain ⟨i, _, rfl⟩ := List.mem_map.1 hj
    rw [Nat.testBit_and, Nat.testBit_two_pow_sub_one]
    have : ¬ L + i < L := by omega
    simp [this]
  rw [h1, h2, List.append_nil]
/-- The set bits below a set bit, then that bit, begin the list of all. -/
theorem ones_part {X L : Nat} (hL : L < 32) (hb : X.testBit L = true) : ∃ q, onesTo X 32 = onesTo X L ++ L :: q := by
  have h1 : onesTo X (L + 1) = onesTo X L ++ [L] := by simp [onesTo, List.range_succ, hb]
  obtain ⟨q, hq⟩ := onesTo_pre (X := X) (k := L + 1) (m := 32) (by omega)
  exact ⟨q, by rw [← hq, h1]; simp⟩
theorem ones_at_rank {X L : Nat} (hL : L < 32) (hb : X.testBit L = true) : (onesTo X L).length < (onesTo X 32).length ∧ (onesTo X 32)[(onesTo X L).length]?.getD 0 = L := by
  obtain ⟨q, hq⟩ := ones_part hL hb
  rw [hq]
  simp
/-- The lane of rank i has just i set bits below it. -/
theorem rank_at {X i : Nat} (hi : i < (onesTo X 32).length) : (onesTo X ((onesTo X 32)[i]?.getD 0)).length = i := by
  have hm : (onesTo X 32)[i] ∈ onesTo X 32 := List.getElem_mem hi
  obtain ⟨h1, h2⟩ := mem_ones.1 hm
  obtain ⟨h3, h4⟩ := ones_at_rank h1 h2
  have e : (onesTo X 32)[i]?.getD 0 = (onesTo X 32)[i] := by simp [hi]
  rw [e]
  rw [List.getElem?_eq_getElem h3] at h4
  simp at h4
  exact sorted_inj (ones_sorted X 32) h3 hi h4

theorem rankV_hit {X L : Nat} (hX : X < 256) (hb : X.testBit L = true) : rankV X (L : Int) = ((onesTo X L).length : Int) := by
  unfold rankV
  rw [if_pos ⟨hX, by omega, by simpa using hb⟩]
  simp
theorem rankV_no {X : Nat} {L : Int} (h : ¬ (X < 256 ∧ 0 ≤ L ∧ X.testBit L.toNat = true)) : rankV X L = -1 := if_neg h
theorem rankV_at {X i : Nat} (hX : X < 256) (hi : i < (onesTo X 32).length) : rankV X (((onesTo X 32)[i]?.getD 0 : Nat) : Int) = i := by
  have hm : (onesTo X 32)[i] ∈ onesTo X 32 := List.getElem_mem hi
  have e : (onesTo X 32)[i]?.getD 0 = (onesTo X 32)[i] := by simp [hi]
  rw [rankV_hit hX (by rw [e]; exact (mem_ones.1 hm).2), rank_at hi]
theorem rankV_range (X : Nat) (L : Int) : -1 ≤ rankV X L ∧ rankV X L ≤ 8 := by
  unfold rankV
  split
  · rename_i h
    have h8 := bit_lt_8 h.1 h.2.2
    have := onesTo_len X L.toNat
    omega
  · omega
/-- A lane of the mask with rank N is the lane of rank N. -/
theorem nthV_of_rank {X : Nat} {N : Int} {L : Nat} (hm : L ∈ onesTo X 32) (hX : X < 256) (h : rankV X (L : Int) = N) : nthV X N = L := by
  obtain ⟨h1, h2⟩ := mem_ones.1 hm
  obtain ⟨h3, h4⟩ := ones_at_rank h1 h2
  rw [rankV_hit hX h2] at h
  subst h
  unfold nthV
  rw [if_pos ⟨hX, by omega, by omega⟩, Int.toNat_natCast, h4]
/-- No lane of the mask has rank N: no lane of rank N. -/
theorem nthV_none {X : Nat} {N : Int} (h : ∀ L ∈ onesTo X 32, rankV X (L : Int) ≠ N) : nthV X N = -1 := by
  unfold nthV
  refine if_neg fun ⟨h1, h2, h3⟩ => ?_
  obtain ⟨i, rfl⟩ := Int.eq_ofNat_of_zero_le h2
  have hi : i < (onesTo X 32).length := by omega
  have e : (onesTo X 32)[i]?.getD 0 = (onesTo X 32)[i] := by simp [hi]
  have := rankV_at h1 hi
  rw [e] at this
  exact h _ (List.getElem_mem hi) this
theorem nthV_nomask {X : Nat} {N : Int} (h : ¬ X < 256) : nthV X N = -1 := if_neg fun e => h e.1
theorem nthV_out {X : Nat} {N : Int} (h : ¬ (0 ≤ N ∧ N < ((onesTo X 32).length : Int))) : nthV X N = -1 := if_neg fun e => h e.2
theorem nthV_in {X i : Nat} (hX : X < 256) (h : i < (onesTo X 32).length) : nthV X (i : Int) = (((onesTo X 32)[i]?.getD 0 : Nat) : Int) := by
  unfold nthV
  rw [if_pos ⟨hX, by omega, by omega⟩, Int.toNat_natCast]
theorem nthV_range (X : Nat) (N : Int) : -1 ≤ nthV X N ∧ nthV X N < 8 := by
  unfold nthV
  split
  · rename_i h
    obtain ⟨i, rfl⟩ := Int.eq_ofNat_of_zero_le h.2.1
    have hi : i < (onesTo X 32).length := by omega
    have := ones_lt_8 h.1 (List.getElem_mem hi)
    simp [hi]
    omega
  · omega
/-- The highest set bit lies below 8 just where the word is a mask. -/
theorem high_mask {X : Nat} (hX : X < 4294967296) : highOf (onesTo X 32) < 8 ↔ X < 256 := by
  constructor
  · intro h
    refine Nat.lt_pow_two_of_testBit (n := 8) _ fun j hj => ?_
    by_cases h32 : j < 32
    · refine Bool.eq_false_iff.2 fun e => ?_
      have hm : j ∈ onesTo X 32 := mem_ones.2 ⟨h32, e⟩
      have hl : highOf (onesTo X 32) = ((onesTo X 32).getLast (List.ne_nil_of_mem hm) : Int) := by
        have hlen : 0 < (onesTo X 32).length := List.length_pos_of_mem hm
        unfold highOf
        rw [List.getLast?_eq_getElem?, List.getElem?_eq_getElem (by omega), List.getLast_eq_getElem]
        rfl
      have hs := ones_sorted X 32
      have hge : j ≤ (onesTo X 32).getLast (List.ne_nil_of_mem hm) := by
        obtain ⟨i, hi, rfl⟩ := List.getElem_of_mem hm
        rw [List.getLast_eq_getElem]
        by_cases e2 : i = (onesTo X 32).length - 1
        · subst e2; exact Nat.le_refl _
        · exact Nat.le_of_lt (List.pairwise_iff_getElem.1 hs i _ hi (by omega) (by omega))
      omega
    · exact Nat.testBit_lt_two_pow (Nat.lt_of_lt_of_le hX (Nat.pow_le_pow_right (n := 2) (by omega) (show 32 ≤ j by omega)))
  · intro h
    unfold highOf
    cases hl : (onesTo X 32).getLast? with
    | none => simp
    | some k =>
      have := ones_lt_8 h (List.mem_of_getLast? hl)
      simp
      omega
/-- The leader is the lowest lane. -/
theorem nthV_zero {X : Nat} (hX : X < 256) : nthV X 0 = lowOf (onesTo X 32) := by
  unfold nthV lowOf
  cases h : onesTo X 32 with
  | nil => simp
  | cons a l => simp [hX]

end Go.Proofs.Ytibkjnfbpgohbaa
