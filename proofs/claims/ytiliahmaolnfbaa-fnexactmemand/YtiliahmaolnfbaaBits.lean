/- The contracts of the model's l01Bits, l01Word, MemOr and MemAnd: they come to the bitwise or and and. -/
import Derived.Test.YtiliahmaolnfbaaOwnK
import Derived.Test.YtiliahmaolnfbaaBitMath
import Derived.Test.YtiliahmaolnfbaaSpec
import Derived.Laws.BitsAllLaws
import Derived.Deep.RegionHeld3
namespace Go.Proofs.Ytiliahmaolnfbaa
open Go.RowKit

theorem bitL_next (a k : Nat) : bitL a (k + 1) = bitL a k ++ [((a / 2 ^ k % 2 : Nat) : Int)] := by simp [bitL, List.range_succ]
theorem bitL_len (a k : Nat) : (bitL a k).length = k := by simp [bitL]
theorem bitL_at (a m k : Nat) (h : k < m) : (bitL a m)[k]?.getD 0 = ((a / 2 ^ k % 2 : Nat) : Int) := by simp [bitL, h]
theorem half (a k : Nat) : a / 2 ^ k / 2 = a / 2 ^ (k + 1) := by rw [Nat.div_div_eq_div_mul, Nat.pow_succ]

set_option maxHeartbeats 1000000 in
theorem bits_any (X : Nat) (w : World) (hX : X < 4294967296) :
    Calls Try.prog 67 #[.int .u32 X] w fun e w' => ∃ g c, e = .returned (.slice (some ⟨g, 0, none⟩) 32 c) ∧ OwnK 3 .i64 w' w.heap.size (some ⟨g, 0, none⟩) 32 c (bitL X 32) ∧ Below w.heap.size w w' := by
  have HX := Lib.hid hX
  clear hX
  go_enter Try.func67, Try.ntmps67
  go_wp2
  go_loopw [0, 3, 4] (fun x v i wr => ∃ k : Nat, k ≤ 32 ∧ i = .int .i64 k ∧ x = .int .u32 ((X / 2 ^ k : Nat) : Int) ∧ ∃ A c, v = .slice A k c ∧ Hid (OwnK 3 .i64 wr w.heap.size A k c (bitL X k)) ∧ Hid (Below w.heap.size w wr)) (fun _ _ i _ => 32 - (intOf i).toNat)
  case atStart => exact ⟨0, by omega, rfl, by simp, _, _, rfl, World.ownsRow_made w #[] 0 (Nat.le_refl _) (by unfold maxLen; omega) rfl, (Below.refl _ _).alloc (Nat.le_refl _) _⟩
  case round =>
    obtain ⟨k, hk, rfl, rfl, A, c, rfl, HO, HB⟩ := hrel
    have hs : w.heap.size ≤ wr.heap.size := HB.out.size
    by_cases hlt : k < 32
    · obtain ⟨y, hy⟩ : ∃ y : Int, y = ((X / 2 ^ k : Nat) : Int) := ⟨_, rfl⟩
      have y0 : 0 ≤ y := by rw [hy]; exact Int.natCast_nonneg _
      have y1 : y < 4294967296 := by
        have : X / 2 ^ k < 4294967296 := Nat.lt_of_le_of_lt (Nat.div_le_self _ _) HX.out
        omega
      have HN : Hid (y / 2 = ((X / 2 ^ (k + 1) : Nat) : Int)) := by
        show y / 2 = _
        rw [← half X k, hy]; omega
      have HZ : Hid (bitL X (k + 1) = bitL X k ++ [y % 2]) := by
        show _ = _
        rw [bitL_next, hy]; congr 2
      rw [← hy]
      clear hy
      go_wp2_with (at_builtin; refine wpList_push_int rfl (.tmp 10) (.tmp 14) rfl w.heap.size k c A (bitL X k) _ rfl rfl HO.out (by omega) hs ?_)
      intro A' c' w1 O1 B1
      go_wp2
      go_roundw
      case rel => exact ⟨k + 1, by omega, by go_num, by rw [HN.out], A', c', rfl, by rw [HZ.out]; exact O1, HB.out.trans B1.out⟩
      case measure => simp [intOf]; omega
    · obtain rfl : k = 32 := by omega
      obtain ⟨g, hA, _, _⟩ := HO.out.form (by omega)
      subst hA
      go_wp2
      go_ret
      exact ⟨g, c, rfl, HO.out, HB.out⟩

theorem wordL_nonneg : ∀ l : List Int, (∀ b ∈ l, 0 ≤ b ∧ b ≤ 1) → 0 ≤ wordL l ∧ wordL l < 2 ^ l.length := by
  intro l
  induction l with
  | nil => intro _; simp [wordL]
  | cons b l ih =>
    intro h
    have h1 := h b (by simp)
    have h2 := ih (fun c hc => h c (by simp [hc]))
    simp only [wordL, List.length_cons]
    rw [Int.pow_succ]
    omega

theorem word_drop {l : List Int} {k : Nat} (h : k < l.length) : wordL (l.drop k) = l[k]?.getD 0 + 2 * wordL (l.drop (k + 1)) := by
  rw [List.drop_eq_getElem_cons h, wordL]
  simp [h]

set_option maxHeartbeats 1000000 in
theorem word_any (A : Option Addr) (c B : Nat) (l : List Int) (w : World) (h : RdK .i64 w B A 32 l) (hl : ∀ b ∈ l, 0 ≤ b ∧ b ≤ 1) :
    Calls Try.prog 68 #[.slice A 32 c] w fun e w' => e = .returned (.int .u32 (wordL l)) ∧ w = w' := by
  obtain ⟨g, o, rfl, _, hc⟩ := h.2 (by omega)
  have HC := Lib.hid hc
  have HL := Lib.hid h.1
  have HB := Lib.hid hl
  clear h hc hl
  go_enter Try.func68, Try.ntmps68
  go_wp2
  go_loop [3, 4] (fun x i => ∃ k : Nat, k ≤ 32 ∧ i = .int .i64 ((k : Int) - 1) ∧ x = .int .u32 (wordL (l.drop k))) (fun _ i => (intOf i + 1).toNat)
  case atStart => exact ⟨32, by omega, by simp, by rw [List.drop_eq_nil_of_le (by have := HL.out; omega)]; rfl⟩
  case round =>
    obtain ⟨k, hk, rfl, rfl⟩ := hrel
    by_cases hlt : 0 < k
    · obtain ⟨j, rfl⟩ : ∃ j, k = j + 1 := ⟨k - 1, by omega⟩
      have hj : j < l.length := by have := HL.out; omega
      have c1 := HC.out j (by omega)
      have hb := HB.out _ (List.getElem_mem hj)
      have e1 : l[j]?.getD 0 = l[j] := by simp [hj]
      rw [e1] at c1
      have HW := Lib.hid (word_drop hj)
      rw [e1] at HW
      have hw := wordL_nonneg (l.drop (j + 1)) (fun b hb => HB.out b (List.mem_of_mem_drop hb))
      have hp : (2 : Int) ^ (l.drop (j + 1)).length ≤ 2147483648 := by
        rw [List.length_drop, HL.out]
        have : (2 : Int) ^ (32 - (j + 1)) ≤ 2 ^ 31 := by
          have := Nat.pow_le_pow_right (n := 2) (by omega) (show 32 - (j + 1) ≤ 31 by omega)
          exact_mod_cast this
        omega
      have hw1 := hw.1
      have hw2 : wordL (l.drop (j + 1)) < 2147483648 := by omega
      generalize wordL (l.drop (j + 1)) = Y at *
      generalize l[j] = z at *
      obtain ⟨hb1, hb2⟩ := hb
      clear hw hp e1
      have ej : ((j + 1 : Nat) : Int) - 1 = (j : Int) := by omega
      rw [ej]
      clear ej
      go_wp2
      go_round
      case rel => exact ⟨j, by omega, rfl, by rw [HW.out]; congr 1; omega⟩
      case measure => first | (simp [intOf]; done) | (simp [intOf]; omega)
    · obtain rfl : k = 0 := by omega
      go_wp2
      go_ret
      exact ⟨rfl, rfl⟩

/-- The first k bits of a and b joined by f, then those of a. -/
def joinTo (f : Int → Int → Int) (a b k : Nat) : List Int := (List.range k).map (fun i => f ((a / 2 ^ i % 2 : Nat) : Int) ((b / 2 ^ i % 2 : Nat) : Int)) ++ (bitL a 32).drop k
theorem join_zero (f : Int → Int → Int) (a b : Nat) : joinTo f a b 0 = bitL a 32 := by simp [joinTo]
theorem join_len (f : Int → Int → Int) (a b k : Nat) (hk : k ≤ 32) : (joinTo f a b k).length = 32 := by simp [joinTo, bitL]; omega
theorem join_at (f : Int → Int → Int) (a b k : Nat) (hk : k < 32) : (joinTo f a b k)[k]?.getD 0 = ((a / 2 ^ k % 2 : Nat) : Int) := by
  have : (joinTo f a b k)[k]? = (bitL a 32)[k]? := by
    unfold joinTo
    rw [List.getElem?_append_right (by simp)]
    simp
  rw [this, bitL_at a 32 k hk]
theorem join_next (f : Int → Int → Int) (a b k : Nat) (hk : k < 32) : (joinTo f a b k).set k (f ((a / 2 ^ k % 2 : Nat) : Int) ((b / 2 ^ k % 2 : Nat) : Int)) = joinTo f a b (k + 1) := by
  have hl : k < (bitL a 32).length := by rw [bitL_len]; exact hk
  unfold joinTo
  rw [List.range_succ, List.map_append, List.drop_eq_getElem_cons hl, List.set_append]
  simp only [List.length_map, List.length_range, Nat.lt_irrefl, if_false, Nat.sub_self, List.set_cons_zero, List.map_cons, List.map_nil, List.append_assoc, List.cons_append, List.nil_append]
theorem join_all (f : Int → Int → Int) (a b : Nat) : joinTo f a b 32 = (List.range 32).map (fun i => f ((a / 2 ^ i % 2 : Nat) : Int) ((b / 2 ^ i % 2 : Nat) : Int)) := by
  unfold joinTo
  rw [List.drop_eq_nil_of_le (by rw [bitL_len]; omega), List.append_nil]

/-- Go's max and min of two ints. -/
def maxG (y z : Int) : Int := if y < z then z else y
def minG (y z : Int) : Int := if z < y then z else y
theorem maxG_eq (y z : Int) : maxG y z = max y z := by unfold maxG; split <;> omega
theorem minG_eq (y z : Int) : minG y z = min y z := by unfold minG; split <;> omega
theorem maxG_bit (a b : Nat) : 0 ≤ maxG ((a % 2 : Nat) : Int) ((b % 2 : Nat) : Int) ∧ maxG ((a % 2 : Nat) : Int) ((b % 2 : Nat) : Int) ≤ 1 := by unfold maxG; split <;> omega
theorem minG_bit (a b : Nat) : 0 ≤ minG ((a % 2 : Nat) : Int) ((b % 2 : Nat) : Int) ∧ minG ((a % 2 : Nat) : Int) ((b % 2 : Nat) : Int) ≤ 1 := by unfold minG; split <;> omega
theorem word_max (a b : Nat) (ha : a < 4294967296) (hb : b < 4294967296) : wordL ((List.range 32).map (fun i => maxG ((a / 2 ^ i % 2 : Nat) : Int) ((b / 2 ^ i % 2 : Nat) : Int))) = ((a ||| b : Nat) : Int) := by
  simp only [maxG_eq]
  exact wordL_or 32 a b (by omega) (by omega)
theorem word_min (a b : Nat) (ha : a < 4294967296) (hb : b < 4294967296) : wordL ((List.range 32).map (fun i => minG ((a / 2 ^ i % 2 : Nat) : Int) ((b / 2 ^ i % 2 : Nat) : Int))) = ((a &&& b : Nat) : Int) := by
  simp only [minG_eq]
  exact wordL_and 32 a b (by omega) (by omega)

set_option maxRecDepth 100000 in
set_option maxHeartbeats 4000000 in
theorem sOr_core (A : Option Addr) (n c : Nat) (at_ : Int) (X O : Nat) (ok okS : Bool) (out : List Int) (w : World) (hO2 : O < 4294967296) (hX : X < 4294967296)
    (hL : Hid (∀ W, Below w.heap.size w W → Calls Try.prog 42 #[.agg #[.slice A n c], .int .i64 at_] W fun e w' => e = .returned (.tuple #[.int .u32 O, .bool ok]) ∧ Below W.heap.size W w'))
    (hS : Hid (∀ W, Below w.heap.size w W → Calls Try.prog 33 #[.agg #[.slice A n c], .int .i64 at_, .int .u32 ((O ||| X : Nat) : Int)] W fun e w' => ∃ A' m' c', e = .returned (.tuple #[.agg #[.slice A' m' c'], .bool okS]) ∧ Hid (Own w' W.heap.size A' m' c' out) ∧ Hid (Below W.heap.size W w'))) :
    Calls Try.prog 43 #[.agg #[.slice A n c], .int .i64 at_, .int .u32 X] w fun e w' => ∃ A' m' c', e = .returned (.tuple #[.agg #[.slice A' m' c'], .int .u32 O, .bool ok]) ∧ Own w' w.heap.size A' m' c' out ∧ Below w.heap.size w w' := by
  have HO2 := Lib.hid hO2
  have HX := Lib.hid hX
  clear hO2 hX
  go_enter Try.func43, Try.ntmps43
  go_wp2_with fail
  refine (hL.out _ (((Below.refl _ _).alloc (Nat.le_refl _) _).alloc (by simp) _)).mono ?_
  rintro e w1 ⟨rfl, hb1⟩
  have a1 : w1.cell? ⟨w.heap.size, 0, none⟩ = some (.slice A n c) := later hb1 (by simp)
  have r1 : w1.cell? ⟨w.heap.size + 1, 0, none⟩ = some (.slice none 0 0) := later hb1 (by simp)
  have f1 : w1.frozen? ⟨w.heap.size + 1, 0, none⟩ = false := later_free hb1 (by simp) (by simp)
  have z1 : w.heap.size + 1 < w1.heap.size := by have := hb1.size; simp at this; omega
  have BB1 : Hid (Below w.heap.size w w1) := (by repeat (first | exact Below.refl _ _ | refine Below.drew ?_ | refine Below.setCell ?_ (by first | omega | (simp; done) | (simp; omega) | (simp [*]; done)) _ | refine Below.alloc ?_ (by first | omega | (simp; done) | (simp; omega) | (simp [*]; done)) _ | refine Below.trans ?_ (Below.mono (hb1) (by first | omega | (simp; done) | (simp; omega) | (simp [*]; done)))))
  clear hb1
  go_wp2_with fail
  refine (bits_any O _ HO2.out).mono ?_
  rintro e w2 ⟨g2, k2, rfl, ho2, hb2⟩
  have O2 := Lib.hid ho2
  have U2 := Lib.hid (OwnK.range ho2)
  have a2 := later hb2 a1
  have r2 := later hb2 r1
  have f2 := later_free hb2 f1 z1
  have z2 := hb2.size
  have BB2 : Hid (Below w.heap.size w w2) := BB1.out.trans (hb2.mono (by omega))
  clear ho2 hb2 a1 r1 f1 BB1
  go_wp2_with fail
  refine (bits_any X _ HX.out).mono ?_
  rintro e w3 ⟨g3, k3, rfl, ho3, hb3⟩
  have O3 := Lib.hid ho3
  have P3 := Lib.hid (O2.out.below hb3)
  have u2 := U2.out g2 rfl
  have u3 := OwnK.range ho3 g3 rfl
  have a3 := later hb3 a2
  have r3 := later hb3 r2
  have f3 := later_free hb3 f2 (by omega)
  have z3 := hb3.size
  have BB3 : Hid (Below w.heap.size w w3) := BB2.out.trans (hb3.mono (by omega))
  have hne : ¬ g2 = g3 := by omega
  have hne' : ¬ g3 = g2 := by omega
  clear ho3 hb3 a2 r2 f2 BB2 O2 U2
  go_wp2
  go_loopw [13] (fun i wr => ∃ k : Nat, k ≤ 32 ∧ i = .int .i64 k ∧ Hid (OwnK 3 .i64 wr w1.heap.size (some ⟨g2, 0, none⟩) 32 k2 (joinTo maxG O X k)) ∧ Hid (OwnK 3 .i64 wr w2.heap.size (some ⟨g3, 0, none⟩) 32 k3 (bitL X 32)) ∧ Hid (Below w1.heap.size w3 wr)) (fun i _ => 32 - (intOf i).toNat)
  case atStart => exact ⟨0, by omega, rfl, by rw [join_zero]; exact P3, O3, Below.refl _ _⟩
  case round =>
    obtain ⟨j, hj, rfl, Q2, Q3, QB⟩ := hrel
    by_cases hlt : j < 32
    · have c2 := Q2.out.cell rfl hlt
      have c3 := Q3.out.cell rfl hlt
      have f2 := Q2.out.free rfl j
      rw [join_at maxG O X j hlt] at c2
      rw [bitL_at X 32 j hlt] at c3
      have HN := Lib.hid (join_next maxG O X j hlt)
      generalize ((O / 2 ^ j % 2 : Nat) : Int) = y at *
      generalize ((X / 2 ^ j % 2 : Nat) : Int) = z at *
      go_wp2
      go_region
      generalize hm : (if y < z then z else y) = m
      have HM : Hid (m = maxG y z) := hm.symm
      clear hm
      have N2 : Hid (OwnK 3 .i64 (wr.setCell ⟨g2, j, none⟩ (.int .i64 m)) w1.heap.size (some ⟨g2, 0, none⟩) 32 k2 (joinTo maxG O X (j + 1))) := by
        rw [← HN.out, ← HM.out]; exact Q2.out.store
      have N3 : Hid (OwnK 3 .i64 (wr.setCell ⟨g2, j, none⟩ (.int .i64 m)) w2.heap.size (some ⟨g3, 0, none⟩) 32 k3 (bitL X 32)) := Q3.out.low (by show g2 < w2.heap.size; omega) _
      have NB : Hid (Below w1.heap.size w3 (wr.setCell ⟨g2, j, none⟩ (.int .i64 m))) := QB.out.setCell (by show w1.heap.size ≤ g2; omega) _
      clear Q2 Q3 QB c2 c3 f2 HN HM
      go_wp2
      go_roundw
      case rel => exact ⟨j + 1, by omega, by go_num, N2, N3, NB.out.drew⟩
      case measure => simp [intOf]; omega
    · obtain rfl : j = 32 := by omega
      have a4 := later_at QB.out a3 (by omega)
      have r4 := later_at QB.out r3 z1
      have f4 := later_free QB.out f3 z1
      have z4 := QB.out.size
      have BB4 : Hid (Below w.heap.size w wr) := BB3.out.trans (QB.out.mono (by omega))
      have CW : Hid (∀ W, Below wr.heap.size wr W → Calls Try.prog 68 #[.slice (some ⟨g2, 0, none⟩) 32 k2] W fun e w' => e = .returned (.int .u32 ((O ||| X : Nat) : Int)) ∧ W = w') := by
        intro W hW
        have HW := word_any (some ⟨g2, 0, none⟩) k2 _ _ W (Q2.out.rd.below hW) (by
          rw [join_all]
          intro b hb
          obtain ⟨i, _, rfl⟩ := List.mem_map.1 hb
          exact maxG_bit _ _)
        rw [join_all, word_max O X HO2.out HX.out] at HW
        exact HW
      have CS : Hid (∀ W, Below wr.heap.size wr W → Calls Try.prog 33 #[.agg #[.slice A n c], .int .i64 at_, .int .u32 ((O ||| X : Nat) : Int)] W fun e w' => ∃ A' m' c', e = .returned (.tuple #[.agg #[.slice A' m' c'], .bool okS]) ∧ Hid (Own w' W.heap.size A' m' c' out) ∧ Hid (Below W.heap.size W w') ∧ Hid (Below wr.heap.size wr w')) := by
        intro W hW
        have hs := hW.size
        exact (hS.out W (BB4.out.trans (hW.mono (by omega)))).mono fun _ _ ⟨A', m', c', he, ho, hb⟩ => ⟨A', m', c', he, ho, hb, hW.trans (hb.out.mono hs)⟩
      have b0 : Hid (Below wr.heap.size wr wr.drew) := (Below.refl _ _).drew
      have b1 : Hid (∀ o, Below wr.heap.size wr (wr.alloc o).drew) := fun o => ((Below.refl _ _).alloc (Nat.le_refl _) o).drew
      have xC : Hid (∀ w5, Below (wr.alloc (.cells #[.slice none 0 0] 26)).drew.heap.size (wr.alloc (.cells #[.slice none 0 0] 26)).drew w5 → w5.cell? ⟨wr.heap.size, 0, none⟩ = some (.slice none 0 0) ∧ w5.frozen? ⟨wr.heap.size, 0, none⟩ = false) :=
        fun w5 hb => ⟨later hb (by simp), later_free hb (by simp) (by simp)⟩
      clear a3 r3 f3 BB3
      go_wp2
      go_region_held3 (fun w' => w'.cell? ⟨w.heap.size, 0, none⟩ = some (.slice A n c))
        (first | exact a4 | exact older a4 _ | exact a5 | exact older a5 _ | exact a6)
        (first | (go_at_call 68; refine (CW.out _ ?_).mono ?_; (first | exact b0.out | exact b1.out _); rintro e w' ⟨rfl, rfl⟩)
               | (go_at_call 33; (with_reducible refine (CS.out wr.drew b0.out).mono ?_); rintro e w5 ⟨A5, m5, c5, rfl, O5', hb5, B5⟩; have a5 := later_at B5.out a4 (by omega); have r5 := later_at B5.out r4 (by omega); have f5 := later_free B5.out f4 (by omega); have O5 : Hid (Own w5 wr.heap.size A5 m5 c5 out) := O5'; clear hb5 O5')
               | (go_at_call 33; (with_reducible refine (CS.out (wr.alloc (.cells #[.slice none 0 0] 26)).drew (b1.out _)).mono ?_); rintro e w5 ⟨A5, m5, c5, rfl, O5', hb5, B5⟩; have a5 := later_at B5.out a4 (by omega); have r5 := later_at B5.out r4 (by omega); have f5 := later_free B5.out f4 (by omega); have O5 : Hid (Own w5 (wr.heap.size + 1) A5 m5 c5 out) := Own.from_ O5'.out (by simp); obtain ⟨x5, xf5⟩ := xC.out w5 hb5.out; have a6 := (World.cell?_setCell_other w5 ⟨wr.heap.size, 0, none⟩ ⟨w.heap.size, 0, none⟩ (.slice A5 m5 c5) (fun e => by injection e; omega)).trans a5; clear hb5 O5'))
      all_goals
        have z5 := B5.out.size
        have y1 : w.heap.size + 1 < w5.heap.size := by omega
        have y2 : ¬ wr.heap.size = w.heap.size + 1 := by omega
        have y3 : ¬ w.heap.size + 1 = wr.heap.size := by omega
        go_wp2
        refine bodyPost_ret (v := .tuple #[.agg #[.slice A5 m5 c5], .int .u32 O, .bool ok]) (by first | (simp [results, Try.results43, go_sem, r5, y1]; done) | (simp [results, Try.results43, go_sem, *]; done)) rfl ⟨_, _, _, rfl, ?_, ?_⟩
        · first | exact ((O5.out.low (by simp; omega) _).alloc _).from_ (by omega) | exact ((O5.out.low (by simp) _).low (by simp; omega) _).from_ (by omega)
        · have BB5 := BB4.out.trans (B5.out.mono (by omega))
          first | exact (BB5.setCell (by simp) _).alloc (by simp; omega) _ | exact (BB5.setCell (by simp; omega) _).setCell (by simp) _

theorem sOr (A : Option Addr) (n c B k : Nat) (X O : Nat) (zs : List Int) (w : World) (h : Rd w B A n zs) (hB : B ≤ w.heap.size) (hn : n ≤ 64) (hk : k < n) (hO : zs[k]?.getD 0 = (O : Int)) (hO2 : O < 4294967296) (hX : X < 4294967296) :
    Calls Try.prog 43 #[.agg #[.slice A n c], .int .i64 k, .int .u32 X] w fun e w' => ∃ A' m' c', e = .returned (.tuple #[.agg #[.slice A' m' c'], .int .u32 O, .bool true]) ∧ m' ≤ 64 ∧ Own w' w.heap.size A' m' c' (zs.set k ((O ||| X : Nat) : Int)) ∧ Below w.heap.size w w' :=
  (sOr_core A n c k X O true true (zs.set k ((O ||| X : Nat) : Int)) w hO2 hX
    (fun W hW => hO ▸ sLoad A n c B k zs W (h.below (hW.mono hB)) (Nat.le_trans hB hW.size) hn hk)
    (fun W hW => (sStore A n c B k _ zs W (h.below (hW.mono hB)) (Nat.le_trans hB hW.size) hn hk).mono fun _ _ ⟨A', c', he, ho, hb⟩ => ⟨A', n, c', he, ho, hb⟩)).mono
    fun _ _ ⟨A', m', c', he, ho, hb⟩ => ⟨A', m', c', he, by have := ho.len; rw [List.length_set, h.1] at this; omega, ho, hb⟩

theorem sOr_no (A : Option Addr) (n c : Nat) (at_ : Int) (X : Nat) (w : World) (h : ¬ HasW n at_) (hn : n ≤ 1048576) (hX : X < 4294967296) :
    Calls Try.prog 43 #[.agg #[.slice A n c], .int .i64 at_, .int .u32 X] w fun e w' => ∃ A' m' c', e = .returned (.tuple #[.agg #[.slice A' m' c'], .int .u32 0, .bool false]) ∧ m' ≤ 64 ∧ Own w' w.heap.size A' m' c' [] ∧ Below w.heap.size w w' :=
  (sOr_core A n c at_ X 0 false false [] w (by omega) hX
    (fun W _ => sLoad_no A n c at_ W h hn)
    (fun W _ => (sStore_no A n c at_ _ W h hn).mono fun _ _ ⟨he, hb⟩ => ⟨none, 0, 0, he, Own.zero, hb⟩)).mono
    fun _ _ ⟨A', m', c', he, ho, hb⟩ => ⟨A', m', c', he, by have := ho.len; simp at this; omega, ho, hb⟩

set_option maxRecDepth 100000 in
set_option maxHeartbeats 4000000 in
theorem sAnd_core (A : Option Addr) (n c : Nat) (at_ : Int) (X O : Nat) (ok okS : Bool) (out : List Int) (w : World) (hO2 : O < 4294967296) (hX : X < 4294967296)
    (hL : Hid (∀ W, Below w.heap.size w W → Calls Try.prog 42 #[.agg #[.slice A n c], .int .i64 at_] W fun e w' => e = .returned (.tuple #[.int .u32 O, .bool ok]) ∧ Below W.heap.size W w'))
    (hS : Hid (∀ W, Below w.heap.size w W → Calls Try.prog 33 #[.agg #[.slice A n c], .int .i64 at_, .int .u32 ((O &&& X : Nat) : Int)] W fun e w' => ∃ A' m' c', e = .returned (.tuple #[.agg #[.slice A' m' c'], .bool okS]) ∧ Hid (Own w' W.heap.size A' m' c' out) ∧ Hid (Below W.heap.size W w'))) :
    Calls Try.prog 44 #[.agg #[.slice A n c], .int .i64 at_, .int .u32 X] w fun e w' => ∃ A' m' c', e = .returned (.tuple #[.agg #[.slice A' m' c'], .int .u32 O, .bool ok]) ∧ Own w' w.heap.size A' m' c' out ∧ Below w.heap.size w w' := by
  have HO2 := Lib.hid hO2
  have HX := Lib.hid hX
  clear hO2 hX
  go_enter Try.func44, Try.ntmps44
  go_wp2_with fail
  refine (hL.out _ (((Below.refl _ _).alloc (Nat.le_refl _) _).alloc (by simp) _)).mono ?_
  rintro e w1 ⟨rfl, hb1⟩
  have a1 : w1.cell? ⟨w.heap.size, 0, none⟩ = some (.slice A n c) := later hb1 (by simp)
  have r1 : w1.cell? ⟨w.heap.size + 1, 0, none⟩ = some (.slice none 0 0) := later hb1 (by simp)
  have f1 : w1.frozen? ⟨w.heap.size + 1, 0, none⟩ = false := later_free hb1 (by simp) (by simp)
  have z1 : w.heap.size + 1 < w1.heap.size := by have := hb1.size; simp at this; omega
  have BB1 : Hid (Below w.heap.size w w1) := (by repeat (first | exact Below.refl _ _ | refine Below.drew ?_ | refine Below.setCell ?_ (by first | omega | (simp; done) | (simp; omega) | (simp [*]; done)) _ | refine Below.alloc ?_ (by first | omega | (simp; done) | (simp; omega) | (simp [*]; done)) _ | refine Below.trans ?_ (Below.mono (hb1) (by first | omega | (simp; done) | (simp; omega) | (simp [*]; done)))))
  clear hb1
  go_wp2_with fail
  refine (bits_any O _ HO2.out).mono ?_
  rintro e w2 ⟨g2, k2, rfl, ho2, hb2⟩
  have O2 := Lib.hid ho2
  have U2 := Lib.hid (OwnK.range ho2)
  have a2 := later hb2 a1
  have r2 := later hb2 r1
  have f2 := later_free hb2 f1 z1
  have z2 := hb2.size
  have BB2 : Hid (Below w.heap.size w w2) := BB1.out.trans (hb2.mono (by omega))
  clear ho2 hb2 a1 r1 f1 BB1
  go_wp2_with fail
  refine (bits_any X _ HX.out).mono ?_
  rintro e w3 ⟨g3, k3, rfl, ho3, hb3⟩
  have O3 := Lib.hid ho3
  have P3 := Lib.hid (O2.out.below hb3)
  have u2 := U2.out g2 rfl
  have u3 := OwnK.range ho3 g3 rfl
  have a3 := later hb3 a2
  have r3 := later hb3 r2
  have f3 := later_free hb3 f2 (by omega)
  have z3 := hb3.size
  have BB3 : Hid (Below w.heap.size w w3) := BB2.out.trans (hb3.mono (by omega))
  have hne : ¬ g2 = g3 := by omega
  have hne' : ¬ g3 = g2 := by omega
  clear ho3 hb3 a2 r2 f2 BB2 O2 U2
  go_wp2
  go_loopw [13] (fun i wr => ∃ k : Nat, k ≤ 32 ∧ i = .int .i64 k ∧ Hid (OwnK 3 .i64 wr w1.heap.size (some ⟨g2, 0, none⟩) 32 k2 (joinTo minG O X k)) ∧ Hid (OwnK 3 .i64 wr w2.heap.size (some ⟨g3, 0, none⟩) 32 k3 (bitL X 32)) ∧ Hid (Below w1.heap.size w3 wr)) (fun i _ => 32 - (intOf i).toNat)
  case atStart => exact ⟨0, by omega, rfl, by rw [join_zero]; exact P3, O3, Below.refl _ _⟩
  case round =>
    obtain ⟨j, hj, rfl, Q2, Q3, QB⟩ := hrel
    by_cases hlt : j < 32
    · have c2 := Q2.out.cell rfl hlt
      have c3 := Q3.out.cell rfl hlt
      have f2 := Q2.out.free rfl j
      rw [join_at minG O X j hlt] at c2
      rw [bitL_at X 32 j hlt] at c3
      have HN := Lib.hid (join_next minG O X j hlt)
      generalize ((O / 2 ^ j % 2 : Nat) : Int) = y at *
      generalize ((X / 2 ^ j % 2 : Nat) : Int) = z at *
      go_wp2
      go_region
      generalize hm : (if z < y then z else y) = m
      have HM : Hid (m = minG y z) := hm.symm
      clear hm
      have N2 : Hid (OwnK 3 .i64 (wr.setCell ⟨g2, j, none⟩ (.int .i64 m)) w1.heap.size (some ⟨g2, 0, none⟩) 32 k2 (joinTo minG O X (j + 1))) := by
        rw [← HN.out, ← HM.out]; exact Q2.out.store
      have N3 : Hid (OwnK 3 .i64 (wr.setCell ⟨g2, j, none⟩ (.int .i64 m)) w2.heap.size (some ⟨g3, 0, none⟩) 32 k3 (bitL X 32)) := Q3.out.low (by show g2 < w2.heap.size; omega) _
      have NB : Hid (Below w1.heap.size w3 (wr.setCell ⟨g2, j, none⟩ (.int .i64 m))) := QB.out.setCell (by show w1.heap.size ≤ g2; omega) _
      clear Q2 Q3 QB c2 c3 f2 HN HM
      go_wp2
      go_roundw
      case rel => exact ⟨j + 1, by omega, by go_num, N2, N3, NB.out.drew⟩
      case measure => simp [intOf]; omega
    · obtain rfl : j = 32 := by omega
      have a4 := later_at QB.out a3 (by omega)
      have r4 := later_at QB.out r3 z1
      have f4 := later_free QB.out f3 z1
      have z4 := QB.out.size
      have BB4 : Hid (Below w.heap.size w wr) := BB3.out.trans (QB.out.mono (by omega))
      have CW : Hid (∀ W, Below wr.heap.size wr W → Calls Try.prog 68 #[.slice (some ⟨g2, 0, none⟩) 32 k2] W fun e w' => e = .returned (.int .u32 ((O &&& X : Nat) : Int)) ∧ W = w') := by
        intro W hW
        have HW := word_any (some ⟨g2, 0, none⟩) k2 _ _ W (Q2.out.rd.below hW) (by
          rw [join_all]
          intro b hb
          obtain ⟨i, _, rfl⟩ := List.mem_map.1 hb
          exact minG_bit _ _)
        rw [join_all, word_min O X HO2.out HX.out] at HW
        exact HW
      have CS : Hid (∀ W, Below wr.heap.size wr W → Calls Try.prog 33 #[.agg #[.slice A n c], .int .i64 at_, .int .u32 ((O &&& X : Nat) : Int)] W fun e w' => ∃ A' m' c', e = .returned (.tuple #[.agg #[.slice A' m' c'], .bool okS]) ∧ Hid (Own w' W.heap.size A' m' c' out) ∧ Hid (Below W.heap.size W w') ∧ Hid (Below wr.heap.size wr w')) := by
        intro W hW
        have hs := hW.size
        exact (hS.out W (BB4.out.trans (hW.mono (by omega)))).mono fun _ _ ⟨A', m', c', he, ho, hb⟩ => ⟨A', m', c', he, ho, hb, hW.trans (hb.out.mono hs)⟩
      have b0 : Hid (Below wr.heap.size wr wr.drew) := (Below.refl _ _).drew
      have b1 : Hid (∀ o, Below wr.heap.size wr (wr.alloc o).drew) := fun o => ((Below.refl _ _).alloc (Nat.le_refl _) o).drew
      have xC : Hid (∀ w5, Below (wr.alloc (.cells #[.slice none 0 0] 26)).drew.heap.size (wr.alloc (.cells #[.slice none 0 0] 26)).drew w5 → w5.cell? ⟨wr.heap.size, 0, none⟩ = some (.slice none 0 0) ∧ w5.frozen? ⟨wr.heap.size, 0, none⟩ = false) :=
        fun w5 hb => ⟨later hb (by simp), later_free hb (by simp) (by simp)⟩
      clear a3 r3 f3 BB3
      go_wp2
      go_region_held3 (fun w' => w'.cell? ⟨w.heap.size, 0, none⟩ = some (.slice A n c))
        (first | exact a4 | exact older a4 _ | exact a5 | exact older a5 _ | exact a6)
        (first | (go_at_call 68; refine (CW.out _ ?_).mono ?_; (first | exact b0.out | exact b1.out _); rintro e w' ⟨rfl, rfl⟩)
               | (go_at_call 33; (with_reducible refine (CS.out wr.drew b0.out).mono ?_); rintro e w5 ⟨A5, m5, c5, rfl, O5', hb5, B5⟩; have a5 := later_at B5.out a4 (by omega); have r5 := later_at B5.out r4 (by omega); have f5 := later_free B5.out f4 (by omega); have O5 : Hid (Own w5 wr.heap.size A5 m5 c5 out) := O5'; clear hb5 O5')
               | (go_at_call 33; (with_reducible refine (CS.out (wr.alloc (.cells #[.slice none 0 0] 26)).drew (b1.out _)).mono ?_); rintro e w5 ⟨A5, m5, c5, rfl, O5', hb5, B5⟩; have a5 := later_at B5.out a4 (by omega); have r5 := later_at B5.out r4 (by omega); have f5 := later_free B5.out f4 (by omega); have O5 : Hid (Own w5 (wr.heap.size + 1) A5 m5 c5 out) := Own.from_ O5'.out (by simp); obtain ⟨x5, xf5⟩ := xC.out w5 hb5.out; have a6 := (World.cell?_setCell_other w5 ⟨wr.heap.size, 0, none⟩ ⟨w.heap.size, 0, none⟩ (.slice A5 m5 c5) (fun e => by injection e; omega)).trans a5; clear hb5 O5'))
      all_goals
        have z5 := B5.out.size
        have y1 : w.heap.size + 1 < w5.heap.size := by omega
        have y2 : ¬ wr.heap.size = w.heap.size + 1 := by omega
        have y3 : ¬ w.heap.size + 1 = wr.heap.size := by omega
        go_wp2
        refine bodyPost_ret (v := .tuple #[.agg #[.slice A5 m5 c5], .int .u32 O, .bool ok]) (by first | (simp [results, Try.results44, go_sem, r5, y1]; done) | (simp [results, Try.results44, go_sem, *]; done)) rfl ⟨_, _, _, rfl, ?_, ?_⟩
        · first | exact ((O5.out.low (by simp; omega) _).alloc _).from_ (by omega) | exact ((O5.out.low (by simp) _).low (by simp; omega) _).from_ (by omega)
        · have BB5 := BB4.out.trans (B5.out.mono (by omega))
          first | exact (BB5.setCell (by simp) _).alloc (by simp; omega) _ | exact (BB5.setCell (by simp; omega) _).setCell (by simp) _

theorem sAnd (A : Option Addr) (n c B k : Nat) (X O : Nat) (zs : List Int) (w : World) (h : Rd w B A n zs) (hB : B ≤ w.heap.size) (hn : n ≤ 64) (hk : k < n) (hO : zs[k]?.getD 0 = (O : Int)) (hO2 : O < 4294967296) (hX : X < 4294967296) :
    Calls Try.prog 44 #[.agg #[.slice A n c], .int .i64 k, .int .u32 X] w fun e w' => ∃ A' m' c', e = .returned (.tuple #[.agg #[.slice A' m' c'], .int .u32 O, .bool true]) ∧ m' ≤ 64 ∧ Own w' w.heap.size A' m' c' (zs.set k ((O &&& X : Nat) : Int)) ∧ Below w.heap.size w w' :=
  (sAnd_core A n c k X O true true (zs.set k ((O &&& X : Nat) : Int)) w hO2 hX
    (fun W hW => hO ▸ sLoad A n c B k zs W (h.below (hW.mono hB)) (Nat.le_trans hB hW.size) hn hk)
    (fun W hW => (sStore A n c B k _ zs W (h.below (hW.mono hB)) (Nat.le_trans hB hW.size) hn hk).mono fun _ _ ⟨A', c', he, ho, hb⟩ => ⟨A', n, c', he, ho, hb⟩)).mono
    fun _ _ ⟨A', m', c', he, ho, hb⟩ => ⟨A', m', c', he, by have := ho.len; rw [List.length_set, h.1] at this; omega, ho, hb⟩

theorem sAnd_no (A : Option Addr) (n c : Nat) (at_ : Int) (X : Nat) (w : World) (h : ¬ HasW n at_) (hn : n ≤ 1048576) (hX : X < 4294967296) :
    Calls Try.prog 44 #[.agg #[.slice A n c], .int .i64 at_, .int .u32 X] w fun e w' => ∃ A' m' c', e = .returned (.tuple #[.agg #[.slice A' m' c'], .int .u32 0, .bool false]) ∧ m' ≤ 64 ∧ Own w' w.heap.size A' m' c' [] ∧ Below w.heap.size w w' :=
  (sAnd_core A n c at_ X 0 false false [] w (by omega) hX
    (fun W _ => sLoad_no A n c at_ W h hn)
    (fun W _ => (sStore_no A n c at_ _ W h hn).mono fun _ _ ⟨he, hb⟩ => ⟨none, 0, 0, he, Own.zero, hb⟩)).mono
    fun _ _ ⟨A', m', c', he, ho, hb⟩ => ⟨A', m', c', he, by have := ho.len; simp at this; omega, ho, hb⟩

end Go.Proofs.Ytiliahmaolnfbaa
