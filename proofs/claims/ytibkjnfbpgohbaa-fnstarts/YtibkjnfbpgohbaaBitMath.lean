/- Plain arithmetic of bits: a word is the sum of its bits; the greater bits of two words are their 'or', the smaller their 'and'. -/
namespace Go.Proofs.Ytibkjnfbpgohbaa

/-- The lowest m bits of a, the least first. -/
def bitL (a m : Nat) : List Int := (List.range m).map (fun i => ((a / 2 ^ i % 2 : Nat) : Int))
/-- The number whose bits, the least first, are these. -/
def wordL : List Int → Int
  | [] => 0
  | b :: l => b + 2 * wordL l

theorem wordL_or (m : Nat) : ∀ a b : Nat, a < 2 ^ m → b < 2 ^ m → wordL ((List.range m).map (fun i => max ((a / 2 ^ i % 2 : Nat) : Int) ((b / 2 ^ i % 2 : Nat) : Int))) = ((a ||| b : Nat) : Int) := by
  induction m with
  | zero =>
    intro a b ha hb
    obtain rfl : a = 0 := by omega
    obtain rfl : b = 0 := by omega
    rfl
  | succ m ih =>
    intro a b ha hb
    rw [List.range_succ_eq_map, List.map_cons, List.map_map]
    have h := ih (a / 2) (b / 2) (by rw [Nat.pow_succ] at ha; omega) (by rw [Nat.pow_succ] at hb; omega)
    have e : (List.range m).map ((fun i => max ((a / 2 ^ i % 2 : Nat) : Int) ((b / 2 ^ i % 2 : Nat) : Int)) ∘ Nat.succ) = (List.range m).map (fun i => max ((a / 2 / 2 ^ i % 2 : Nat) : Int) ((b / 2 / 2 ^ i % 2 : Nat) : Int)) := by
      apply List.map_congr_left
      intro i _
      simp only [Function.comp, Nat.succ_eq_add_one, Nat.pow_succ, Nat.mul_comm (2 ^ i) 2, Nat.div_div_eq_div_mul]
    rw [wordL, e, h]
    have h1 : (a ||| b) / 2 = a / 2 ||| b / 2 := Nat.or_div_two
    have h2 : (a ||| b) % 2 = max (a % 2) (b % 2) := by
      have := Nat.or_mod_two_pow (a := a) (b := b) (n := 1)
      simp only [Nat.pow_one] at this
      rw [this]
      rcases Nat.mod_two_eq_zero_or_one a with p | p <;> rcases Nat.mod_two_eq_zero_or_one b with q | q <;> simp [p, q]
    simp only [Nat.pow_zero, Nat.div_one]
    omega

theorem wordL_and (m : Nat) : ∀ a b : Nat, a < 2 ^ m → b < 2 ^ m → wordL ((List.range m).map (fun i => min ((a / 2 ^ i % 2 : Nat) : Int) ((b / 2 ^ i % 2 : Nat) : Int))) = ((a &&& b : Nat) : Int) := by
  induction m with
  | zero =>
    intro a b ha hb
    obtain rfl : a = 0 := by omega
    obtain rfl : b = 0 := by omega
    rfl
  | succ m ih =>
    intro a b ha hb
    rw [List.range_succ_eq_map, List.map_cons, List.map_map]
    have h := ih (a / 2) (b / 2) (by rw [Nat.pow_succ] at ha; omega) (by rw [Nat.pow_succ] at hb; omega)
    have e : (List.range m).map ((fun i => min ((a / 2 ^ i % 2 : Nat) : Int) ((b / 2 ^ i % 2 : Nat) : Int)) ∘ Nat.succ) = (List.range m).map (fun i => min ((a / 2 / 2 ^ i % 2 : Nat) : Int) ((b / 2 / 2 ^ i % 2 : Nat) : Int)) := by
      apply List.map_congr_left
      intro i _
      simp only [Function.comp, Nat.succ_eq_add_one, Nat.pow_succ, Nat.mul_comm (2 ^ i) 2, Nat.div_div_eq_div_mul]
    rw [wordL, e, h]
    have h1 : (a &&& b) / 2 = a / 2 &&& b / 2 := Nat.and_div_two
    have h2 : (a &&& b) % 2 = min (a % 2) (b % 2) := by
      have := Nat.and_mod_two_pow (a := a) (b := b) (n := 1)
      simp only [Nat.pow_one] at this
      rw [this]
      rcases Nat.mod_two_eq_zero_or_one a with p | p <;> rcases Nat.mod_two_eq_zero_or_one b with q | q <;> simp [p, q]
    simp only [Nat.pow_zero, Nat.div_one]
    omega

theorem or_and_sum (m : Nat) : ∀ a b : Nat, a < 2 ^ m → b < 2 ^ m → (a ||| b) + (a &&& b) = a + b := by
  induction m with
  | zero =>
    intro a b ha hb
    obtain rfl : a = 0 := by omega
    obtain rfl : b = 0 := by omega
    rfl
  | succ m ih =>
    intro a b ha hb
    have h := ih (a / 2) (b / 2) (by rw [Nat.pow_succ] at ha; omega) (by rw [Nat.pow_succ] at hb; omega)
    have h1 : (a ||| b) / 2 = a / 2 ||| b / 2 := Nat.or_div_two
    have h2 : (a &&& b) / 2 = a / 2 &&& b / 2 := Nat.and_div_two
    have h3 := Nat.or_mod_two_pow (a := a) (b := b) (n := 1)
    have h4 := Nat.and_mod_two_pow (a := a) (b := b) (n := 1)
    simp only [Nat.pow_one] at h3 h4
    have h5 : (a % 2 ||| b % 2) + (a % 2 &&& b % 2) = a % 2 + b % 2 := by
      rcases Nat.mod_two_eq_zero_or_one a with p | p <;> rcases Nat.mod_two_eq_zero_or_one b with q | q <;> simp [p, q]
    omega

end Go.Proofs.Ytibkjnfbpgohbaa
