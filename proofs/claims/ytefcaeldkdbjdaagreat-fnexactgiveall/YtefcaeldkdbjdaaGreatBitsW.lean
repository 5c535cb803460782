/- The contracts of the model's l01Bits and l01Word: a word's bits, and the word of these bits. -/
import Derived.Test.YtefcaeldkdbjdaaGreatOwnK
import Derived.Laws.BitsAllLaws
/- Plain arithmetic of bits: a word is the sum of its bits; the greater bits of two words are their 'or', the smaller their 'and'. -/
namespace Go.Proofs.YtefcaeldkdbjdaaGreat

/-- The lowest m bits of a, the least first. -/
def bitL (a m : Nat) : List Int := (List.range m).map (fun i => ((a / 2 ^ i % 2 : Nat) : Int))
/-- The number whose bits, the least first, are these. -/
def wordL : List Int → Int
  | [] => 0
  | b :: l => b + 2 * wordL l

theorem wordL_or (m : Nat) : ∀ a b : Nat, a < 2 ^ m → b < 2 ^ m → wordL ((List.range m).map (fun i => max ((a / 2 ^ i % 2 : Nat) : Int) ((b / 2 ^ i % 2 : Nat) : Int))) = ((a ||| b : Nat) : Int) := by
  induction m with
  | zero =>
    intro a b ha hb
    obtain rfl : a = 0 := by omega
    obtain rfl : b = 0 := by omega
    rfl
  | succ m ih =>
    intro a b ha hb
    rw [List.range_succ_eq_map, List.map_cons, List.map_map]
    have h := ih (a / 2) (b / 2) (by rw [Nat.pow_succ] at ha; omega) (by rw [Nat.pow_succ] at hb; omega)
    have e : (List.range m).map ((fun i => max ((a / 2 ^ i % 2 : Nat) : Int) ((b / 2 ^ i % 2 : Nat) : Int)) ∘ Nat.succ) = (List.range m).map (fun i => max ((a / 2 / 2 ^ i % 2 : Nat) : Int) ((b / 2 / 2 ^ i % 2 : Nat) : Int)) := by
      apply List.map_congr_left
      intro i _
      simp only [Function.comp, Nat.succ_eq_add_one, Nat.pow_succ, Nat.mul_comm (2 ^ i) 2, Nat.div_div_eq_div_mul]
    rw [wordL, e, h]
    have h1 : (a ||| b) / 2 = a / 2 ||| b / 2 := Nat.or_div_two
    have h2 : (a ||| b) % 2 = max (a % 2) (b % 2) := by
      have := Nat.or_mod_two_pow (a := a) (b := b) (n := 1)
      simp only [Nat.pow_one] at this
      rw [this]
      rcases Nat.mod_two_eq_zero_or_one a with p | p <;> rcases Nat.mod_two_eq_zero_or_one b with q | q <;> simp [p, q]
    simp only [Nat.pow_zero, Nat.div_one]
    omega

theorem wordL_and (m : Nat) : ∀ a b : Nat, a < 2 ^ m → b < 2 ^ m → wordL ((List.range m).map (fun i => min ((a / 2 ^ i % 2 : Nat) : Int) ((b / 2 ^ i % 2 : Nat) : Int))) = ((a &&& b : Nat) : Int) := by
  induction m with
  | zero =>
    intro a b ha hb
    obtain rfl : a = 0 := by omega
    obtain rfl : b = 0 := by omega
    rfl
  | succ m ih =>
    intro a b ha hb
    rw [List.range_succ_eq_map, List.map_cons, List.map_map]
    have h := ih (a / 2) (b / 2) (by rw [Nat.pow_succ] at ha; omega) (by rw [Nat.pow_succ] at hb; omega)
    have e : (List.range m).map ((fun i => min ((a / 2 ^ i % 2 : Nat) : Int) ((b / 2 ^ i % 2 : Nat) : Int)) ∘ Nat.succ) = (List.range m).map (fun i => min ((a / 2 / 2 ^ i % 2 : Nat) : Int) ((b / 2 / 2 ^ i % 2 : Nat) : Int)) := by
      apply List.map_congr_left
      intro i _
      simp only [Function.comp, Nat.succ_eq_add_one, Nat.pow_succ, Nat.mul_comm (2 ^ i) 2, Nat.div_div_eq_div_mul]
    rw [wordL, e, h]
    have h1 : (a &&& b) / 2 = a / 2 &&& b / 2 := Nat.and_div_two
    have h2 : (a &&& b) % 2 = min (a % 2) (b % 2) := by
      have := Nat.and_mod_two_pow (a := a) (b := b) (n := 1)
      simp only [Nat.pow_one] at this
      rw [this]
      rcases Nat.mod_two_eq_zero_or_one a with p | p <;> rcases Nat.mod_two_eq_zero_or_one b with q | q <;> simp [p, q]
    simp only [Nat.pow_zero, Nat.div_one]
    omega

theorem or_and_sum (m : Nat) : ∀ a b : Nat, a < 2 ^ m → b < 2 ^ m → (a ||| b) + (a &&& b) = a + b := by
  induction m with
  | zero =>
    intro a b ha hb
    obtain rfl : a = 0 := by omega
    obtain rfl : b = 0 := by omega
    rfl
  | succ m ih =>
    intro a b ha hb
    have h := ih (a / 2) (b / 2) (by rw [Nat.pow_succ] at ha; omega) (by rw [Nat.pow_succ] at hb; omega)
    have h1 : (a ||| b) / 2 = a / 2 ||| b / 2 := Nat.or_div_two
    have h2 : (a &&& b) / 2 = a / 2 &&& b / 2 := Nat.and_div_two
    have h3 := Nat.or_mod_two_pow (a := a) (b := b) (n := 1)
    have h4 := Nat.and_mod_two_pow (a := a) (b := b) (n := 1)
    simp only [Nat.pow_one] at h3 h4
    have h5 : (a % 2 ||| b % 2) + (a % 2 &&& b % 2) = a % 2 + b % 2 := by
      rcases Nat.mod_two_eq_zero_or_one a with p | p <;> rcases Nat.mod_two_eq_zero_or_one b with q | q <;> simp [p, q]
    omega

end Go.Proofs.YtefcaeldkdbjdaaGreat

namespace Go.Proofs.YtefcaeldkdbjdaaGreat
open Go.RowKit

theorem bitL_next (a k : Nat) : bitL a (k + 1) = bitL a k ++ [((a / 2 ^ k % 2 : Nat) : Int)] := by simp [bitL, List.range_succ]
theorem bitL_len (a k : Nat) : (bitL a k).length = k := by simp [bitL]
theorem bitL_at (a m k : Nat) (h : k < m) : (bitL a m)[k]?.getD 0 = ((a / 2 ^ k % 2 : Nat) : Int) := by simp [bitL, h]
theorem half (a k : Nat) : a / 2 ^ k / 2 = a / 2 ^ (k + 1) := by rw [Nat.div_div_eq_div_mul, Nat.pow_succ]

set_option maxHeartbeats 1000000 in
theorem bits_any (X : Nat) (w : World) (hX : X < 4294967296) :
    Calls Tryz.prog 58 #[.int .u32 X] w fun e w' => ∃ g c, e = .returned (.slice (some ⟨g, 0, none⟩) 32 c) ∧ OwnK 3 .i64 w' w.heap.size (some ⟨g, 0, none⟩) 32 c (bitL X 32) ∧ Below w.heap.size w w' := by
  have HX := Lib.hid hX
  clear hX
  go_enter Tryz.func58, Tryz.ntmps58
  go_wp2
  go_loopw [0, 3, 4] (fun x v i wr => ∃ k : Nat, k ≤ 32 ∧ i = .int .i64 k ∧ x = .int .u32 ((X / 2 ^ k : Nat) : Int) ∧ ∃ A c, v = .slice A k c ∧ Hid (OwnK 3 .i64 wr w.heap.size A k c (bitL X k)) ∧ Hid (Below w.heap.size w wr)) (fun _ _ i _ => 32 - (intOf i).toNat)
  case atStart => exact ⟨0, by omega, rfl, by simp, _, _, rfl, World.ownsRow_made w #[] 0 (Nat.le_refl _) (by unfold maxLen; omega) rfl, (Below.refl _ _).alloc (Nat.le_refl _) _⟩
  case round =>
    obtain ⟨k, hk, rfl, rfl, A, c, rfl, HO, HB⟩ := hrel
    have hs : w.heap.size ≤ wr.heap.size := HB.out.size
    by_cases hlt : k < 32
    · obtain ⟨y, hy⟩ : ∃ y : Int, y = ((X / 2 ^ k : Nat) : Int) := ⟨_, rfl⟩
      have y0 : 0 ≤ y := by rw [hy]; exact Int.natCast_nonneg _
      have y1 : y < 4294967296 := by
        have : X / 2 ^ k < 4294967296 := Nat.lt_of_le_of_lt (Nat.div_le_self _ _) HX.out
        omega
      have HN : Hid (y / 2 = ((X / 2 ^ (k + 1) : Nat) : Int)) := by
        show y / 2 = _
        rw [← half X k, hy]; omega
      have HZ : Hid (bitL X (k + 1) = bitL X k ++ [y % 2]) := by
        show _ = _
        rw [bitL_next, hy]; congr 2
      rw [← hy]
      clear hy
      go_wp2_with (at_builtin; refine wpList_push_int rfl (.tmp 10) (.tmp 14) rfl w.heap.size k c A (bitL X k) _ rfl rfl HO.out (by omega) hs ?_)
      intro A' c' w1 O1 B1
      go_wp2
      go_roundw
      case rel => exact ⟨k + 1, by omega, by go_num, by rw [HN.out], A', c', rfl, by rw [HZ.out]; exact O1, HB.out.trans B1.out⟩
      case measure => simp [intOf]; omega
    · obtain rfl : k = 32 := by omega
      obtain ⟨g, hA, _, _⟩ := HO.out.form (by omega)
      subst hA
      go_wp2
      go_ret
      exact ⟨g, c, rfl, HO.out, HB.out⟩

theorem wordL_nonneg : ∀ l : List Int, (∀ b ∈ l, 0 ≤ b ∧ b ≤ 1) → 0 ≤ wordL l ∧ wordL l < 2 ^ l.length := by
  intro l
  induction l with
  | nil => intro _; simp [wordL]
  | cons b l ih =>
    intro h
    have h1 := h b (by simp)
    have h2 := ih (fun c hc => h c (by simp [hc]))
    simp only [wordL, List.length_cons]
    rw [Int.pow_succ]
    omega

theorem word_drop {l : List Int} {k : Nat} (h : k < l.length) : wordL (l.drop k) = l[k]?.getD 0 + 2 * wordL (l.drop (k + 1)) := by
  rw [List.drop_eq_getElem_cons h, wordL]
  simp [h]

set_option maxHeartbeats 1000000 in
theorem word_any (A : Option Addr) (c B : Nat) (l : List Int) (w : World) (h : RdK .i64 w B A 32 l) (hl : ∀ b ∈ l, 0 ≤ b ∧ b ≤ 1) :
    Calls Tryz.prog 88 #[.slice A 32 c] w fun e w' => e = .returned (.int .u32 (wordL l)) ∧ w = w' := by
  obtain ⟨g, o, rfl, _, hc⟩ := h.2 (by omega)
  have HC := Lib.hid hc
  have HL := Lib.hid h.1
  have HB := Lib.hid hl
  clear h hc hl
  go_enter Tryz.func88, Tryz.ntmps88
  go_wp2
  go_loop [3, 4] (fun x i => ∃ k : Nat, k ≤ 32 ∧ i = .int .i64 ((k : Int) - 1) ∧ x = .int .u32 (wordL (l.drop k))) (fun _ i => (intOf i + 1).toNat)
  case atStart => exact ⟨32, by omega, by simp, by rw [List.drop_eq_nil_of_le (by have := HL.out; omega)]; rfl⟩
  case round =>
    obtain ⟨k, hk, rfl, rfl⟩ := hrel
    by_cases hlt : 0 < k
    · obtain ⟨j, rfl⟩ : ∃ j, k = j + 1 := ⟨k - 1, by omega⟩
      have hj : j < l.length := by have := HL.out; omega
      have c1 := HC.out j (by omega)
      have hb := HB.out _ (List.getElem_mem hj)
      have e1 : l[j]?.getD 0 = l[j] := by simp [hj]
      rw [e1] at c1
      have HW := Lib.hid (word_drop hj)
      rw [e1] at HW
      have hw := wordL_nonneg (l.drop (j + 1)) (fun b hb => HB.out b (List.mem_of_mem_drop hb))
      have hp : (2 : Int) ^ (l.drop (j + 1)).length ≤ 2147483648 := by
        rw [List.length_drop, HL.out]
        have : (2 : Int) ^ (32 - (j + 1)) ≤ 2 ^ 31 := by
          have := Nat.pow_le_pow_right (n := 2) (by omega) (show 32 - (j + 1) ≤ 31 by omega)
          exact_mod_cast this
        omega
      have hw1 := hw.1
      have hw2 : wordL (l.drop (j + 1)) < 2147483648 := by omega
      generalize wordL (l.drop (j + 1)) = Y at *
      generalize l[j] = z at *
      obtain ⟨hb1, hb2⟩ := hb
      clear hw hp e1
      have ej : ((j + 1 : Nat) : Int) - 1 = (j : Int) := by omega
      rw [ej]
      clear ej
      go_wp2
      go_round
      case rel => exact ⟨j, by omega, rfl, by rw [HW.out]; congr 1; omega⟩
      case measure => first | (simp [intOf]; done) | (simp [intOf]; omega)
    · obtain rfl : k = 0 := by omega
      go_wp2
      go_ret
      exact ⟨rfl, rfl⟩

end Go.Proofs.YtefcaeldkdbjdaaGreat
