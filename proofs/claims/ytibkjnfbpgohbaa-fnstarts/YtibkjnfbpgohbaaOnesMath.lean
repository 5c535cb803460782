/- Plain arithmetic of the set bits of a number: 'onesTo X m', the set bits of X below m in ascending order. -/
namespace Go.Proofs.Ytibkjnfbpgohbaa

/-- The numbers of the set bits of X below m, in ascending order. -/
def onesTo (X m : Nat) : List Nat := (List.range m).filter (fun k => X.testBit k)

theorem onesTo_zero (X : Nat) : onesTo X 0 = [] := rfl
theorem onesTo_hit {X m : Nat} (h : X / 2 ^ m % 2 = 1) : onesTo X (m + 1) = onesTo X m ++ [m] := by
  have : X.testBit m = true := by rw [Nat.testBit_eq_decide_div_mod_eq]; simp [h]
  simp [onesTo, List.range_succ, this]
theorem onesTo_miss {X m : Nat} (h : ¬ X / 2 ^ m % 2 = 1) : onesTo X (m + 1) = onesTo X m := by
  have : X.testBit m = false := by rw [Nat.testBit_eq_decide_div_mod_eq]; simp [h]
  simp [onesTo, List.range_succ, this]
theorem onesTo_lt {X m k : Nat} (h : k ∈ onesTo X m) : k < m := by
  simp [onesTo] at h; exact h.1
theorem onesTo_len (X m : Nat) : (onesTo X m).length ≤ m := by
  have := List.length_filter_le (fun k => X.testBit k) (List.range m)
  simpa [onesTo] using this
/-- Beyond the highest set bit nothing comes. -/
theorem onesTo_stop {X k : Nat} (h : X / 2 ^ k = 0) : ∀ m, k ≤ m → onesTo X m = onesTo X k := by
  intro m hm
  induction m with
  | zero => obtain rfl : k = 0 := by omega
            rfl
  | succ m ih =>
    by_cases e : k = m + 1
    · rw [e]
    · rw [onesTo_miss, ih (by omega)]
      have h1 : X / 2 ^ m = 0 := by
        have : 2 ^ k ≤ 2 ^ m := Nat.pow_le_pow_right (by omega) (by omega)
        rw [Nat.div_eq_zero_iff] at h ⊢
        rcases h with h | h
        · have : 0 < 2 ^ k := Nat.pow_pos (by omega)
          omega
        · exact .inr (by omega)
      rw [h1]; simp
theorem onesTo_pre {X k m : Nat} (h : k ≤ m) : onesTo X k <+: onesTo X m := by
  unfold onesTo
  refine List.IsPrefix.filter _ ?_
  obtain ⟨d, rfl⟩ : ∃ d, m = k + d := ⟨m - k, by omega⟩
  rw [List.range_add]
  exact List.prefix_append _ _

end Go.Proofs.Ytibkjnfbpgohbaa
