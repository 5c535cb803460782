/- The contracts of the model's l01Bits and l01Word: a word's bits, and the word of these bits. -/
import Derived.Test.YtefcaeldkdbjdaaOwnK
import Derived.Test.YtefcaeldkdbjdaaBitMath
import Derived.Laws.BitsAllLaws
namespace Go.Proofs.Ytefcaeldkdbjdaa
open Go.RowKit

theorem bitL_next (a k : Nat) : bitL a (k + 1) = bitL a k ++ [((a / 2 ^ k % 2 : Nat) : Int)] := by simp [bitL, List.range_succ]
theorem bitL_len (a k : Nat) : (bitL a k).length = k := by simp [bitL]
theorem bitL_at (a m k : Nat) (h : k < m) : (bitL a m)[k]?.getD 0 = ((a / 2 ^ k % 2 : Nat) : Int) := by simp [bitL, h]
theorem half (a k : Nat) : a / 2 ^ k / 2 = a / 2 ^ (k + 1) := by rw [Nat.div_div_eq_div_mul, Nat.pow_succ]

set_option maxHeartbeats 1000000 in
theorem bits_any (X : Nat) (w : World) (hX : X < 4294967296) :
    Calls Try.prog 48 #[.int .u32 X] w fun e w' => ∃ g c, e = .returned (.slice (some ⟨g, 0, none⟩) 32 c) ∧ OwnK 3 .i64 w' w.heap.size (some ⟨g, 0, none⟩) 32 c (bitL X 32) ∧ Below w.heap.size w w' := by
  have HX := Lib.hid hX
  clear hX
  go_enter Try.func48, Try.ntmps48
  go_wp2
  go_loopw [0, 3, 4] (fun x v i wr => ∃ k : Nat, k ≤ 32 ∧ i = .int .i64 k ∧ x = .int .u32 ((X / 2 ^ k : Nat) : Int) ∧ ∃ A c, v = .slice A k c ∧ Hid (OwnK 3 .i64 wr w.heap.size A k c (bitL X k)) ∧ Hid (Below w.heap.size w wr)) (fun _ _ i _ => 32 - (intOf i).toNat)
  case atStart => exact ⟨0, by omega, rfl, by simp, _, _, rfl, World.ownsRow_made w #[] 0 (Nat.le_refl _) (by unfold maxLen; omega) rfl, (Below.refl _ _).alloc (Nat.le_refl _) _⟩
  case round =>
    obtain ⟨k, hk, rfl, rfl, A, c, rfl, HO, HB⟩ := hrel
    have hs : w.heap.size ≤ wr.heap.size := HB.out.size
    by_cases hlt : k < 32
    · obtain ⟨y, hy⟩ : ∃ y : Int, y = ((X / 2 ^ k : Nat) : Int) := ⟨_, rfl⟩
      have y0 : 0 ≤ y := by rw [hy]; exact Int.natCast_nonneg _
      have y1 : y < 4294967296 := by
        have : X / 2 ^ k < 4294967296 := Nat.lt_of_le_of_lt (Nat.div_le_self _ _) HX.out
        omega
      have HN : Hid (y / 2 = ((X / 2 ^ (k + 1) : Nat) : Int)) := by
        show y / 2 = _
        rw [← half X k, hy]; omega
      have HZ : Hid (bitL X (k + 1) = bitL X k ++ [y % 2]) := by
        show _ = _
        rw [bitL_next, hy]; congr 2
      rw [← hy]
      clear hy
      go_wp2_with (at_builtin; refine wpList_push_int rfl (.tmp 10) (.tmp 14) rfl w.heap.size k c A (bitL X k) _ rfl rfl HO.out (by omega) hs ?_)
      intro A' c' w1 O1 B1
      go_wp2
      go_roundw
      case rel => exact ⟨k + 1, by omega, by go_num, by rw [HN.out], A', c', rfl, by rw [HZ.out]; exact O1, HB.out.trans B1.out⟩
      case measure => simp [intOf]; omega
    · obtain rfl : k = 32 := by omega
      obtain ⟨g, hA, _, _⟩ := HO.out.form (by omega)
      subst hA
      go_wp2
      go_ret
      exact ⟨g, c, rfl, HO.out, HB.out⟩

theorem wordL_nonneg : ∀ l : List Int, (∀ b ∈ l, 0 ≤ b ∧ b ≤ 1) → 0 ≤ wordL l ∧ wordL l < 2 ^ l.length := by
  intro l
  induction l with
  | nil => intro _; simp [wordL]
  | cons b l ih =>
    intro h
    have h1 := h b (by simp)
    have h2 := ih (fun c hc => h c (by simp [hc]))
    simp only [wordL, List.length_cons]
    rw [Int.pow_succ]
    omega

theorem word_drop {l : List Int} {k : Nat} (h : k < l.length) : wordL (l.drop k) = l[k]?.getD 0 + 2 * wordL (l.drop (k + 1)) := by
  rw [List.drop_eq_getElem_cons h, wordL]
  simp [h]

end Go.Proofs.Ytefcaeldkdbjdaa
