/- The contracts of the model's l01Bits and l01Word: a word's bits, and the word of these bits. -/
import Derived.Test.YtibkjnfbpgohbaaOwnK
import Derived.Test.YtibkjnfbpgohbaaBitMath
import Derived.Laws.BitsAllLaws
namespace Go.Proofs.Ytibkjnfbpgohbaa
open Go.RowKit

theorem bitL_next (a k : Nat) : bitL a (k + 1) = bitL a k ++ [((a / 2 ^ k % 2 : Nat) : Int)] := by simp [bitL, List.range_succ]
theorem bitL_len (a k : Nat) : (bitL a k).length = k := by simp [bitL]
theorem bitL_at (a m k : Nat) (h : k < m) : (bitL a m)[k]?.getD 0 = ((a / 2 ^ k % 2 : Nat) : Int) := by simp [bitL, h]
theorem half (a k : Nat) : a / 2 ^ k / 2 = a / 2 ^ (k + 1) := by rw [Nat.div_div_eq_div_mul, Nat.pow_succ]

theorem wordL_nonneg : ∀ l : List Int, (∀ b ∈ l, 0 ≤ b ∧ b ≤ 1) → 0 ≤ wordL l ∧ wordL l < 2 ^ l.length := by
  intro l
  induction l with
  | nil => intro _; simp [wordL]
  | cons b l ih =>
    intro h
    have h1 := h b (by simp)
    have h2 := ih (fun c hc => h c (by simp [hc]))
    simp only [wordL, List.length_cons]
    rw [Int.pow_succ]
    omega

theorem word_drop {l : List Int} {k : Nat} (h : k < l.length) : wordL (l.drop k) = l[k]?.getD 0 + 2 * wordL (l.drop (k + 1)) := by
  rw [List.drop_eq_getElem_cons h, wordL]
  simp [h]

end Go.Proofs.Ytibkjnfbpgohbaa
