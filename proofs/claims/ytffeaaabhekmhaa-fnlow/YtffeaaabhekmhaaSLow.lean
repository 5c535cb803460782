/- The contracts of the model's MaskOf, TakeLow and FreeLow. -/
import Derived.Test.YtffeaaabhekmhaaSOf
namespace Go.Proofs.Ytffeaaabhekmhaa
open Go.RowKit

/-- A width that a word has. -/
def IsWidth (n : Int) : Prop := 0 ≤ n ∧ n ≤ 32
instance (n : Int) : Decidable (IsWidth n) := inferInstanceAs (Decidable (0 ≤ n ∧ n ≤ 32))
/-- The mask of a width, and the free bits below it. -/
def maskV (n : Int) : Nat := if IsWidth n then 2 ^ n.toNat - 1 else 0
def freeV (X : Nat) (n : Int) : Nat := if IsWidth n then freeB X n.toNat else 0
theorem maskV_lt (n : Int) : maskV n < 4294967296 := by
  unfold maskV
  split
  · rename_i h
    have h1 : n.toNat ≤ 32 := by unfold IsWidth at h; omega
    have : 2 ^ n.toNat ≤ 2 ^ 32 := Nat.pow_le_pow_right (by omega) h1
    omega
  · omega
theorem freeV_and (X : Nat) (n : Int) : (4294967295 - X) &&& maskV n = freeV X n := by
  unfold maskV freeV freeB
  split
  · rfl
  · simp
theorem freeV_lt (X : Nat) (n : Int) : freeV X n < 4294967296 := by
  unfold freeV
  split
  · exact free_lt
  · omega
theorem ones_none (m : Nat) : onesTo 0 m = [] := by
  have := onesTo_stop (X := 0) (k := 0) (by simp) m (by omega)
  rw [this, onesTo_zero]
theorem ofA_take (X n : Nat) : ofA (ints ((onesTo X 32).take n)) = orL ((onesTo X 32).take n) := by unfold ofA; rw [bitsG_take]; rfl

set_option maxHeartbeats 400000 in
theorem sTakeLow_any (X : Nat) (N : Int) (w : World) (hX : X < 4294967296) :
    Calls Try.prog 26 #[.int .u32 (X : Int), .int .i64 N] w fun e w' => e = .returned (.int .u32 ((orL ((onesTo X 32).take N.toNat) : Nat) : Int)) ∧ Below w.heap.size w w' := by
  have HX := Lib.hid hX
  clear hX
  go_enter Try.func26, Try.ntmps26
  go_wp2_with fail
  refine (sBitList_any X w HX.out).mono ?_
  rintro e w1 ⟨A, c, rfl, ho, hb⟩
  have HB := Lib.hid hb
  have HC := Lib.hid (first_any A _ c _ _ N w1 ho (onesTo_len X 32))
  rw [ofA_take] at HC
  clear ho hb
  go_wp2_with fail
  refine HC.out.mono ?_
  rintro e w2 ⟨rfl, hb2⟩
  have HB2 := Lib.hid hb2
  have z1 := HB.out.size
  clear hb2
  go_wp2
  go_ret
  exact ⟨rfl, (by repeat (first | exact Below.refl _ _ | refine Below.drew ?_ | refine Below.setCell ?_ (by first | omega | (simp; done) | (simp; omega) | (simp [*]; done)) _ | refine Below.alloc ?_ (by first | omega | (simp; done) | (simp; omega) | (simp [*]; done)) _ | refine Below.trans ?_ (Below.mono (HB.out) (by first | omega | (simp; done) | (simp; omega) | (simp [*]; done))) | refine Below.trans ?_ (Below.mono (HB2.out) (by first | omega | (simp; done) | (simp; omega) | (simp [*]; done)))))⟩

set_option maxRecDepth 100000 in
set_option maxHeartbeats 1000000 in
theorem sFree_any (X : Nat) (N : Int) (w : World) (hX : X < 4294967296) :
    Calls Try.prog 48 #[.int .u32 (X : Int), .int .i64 N] w fun e w' => ∃ A c, e = .returned (.slice A (onesTo (freeV X N) 32).length c) ∧ OwnK 3 .i64 w' w.heap.size A (onesTo (freeV X N) 32).length c (ints (onesTo (freeV X N) 32)) ∧ Below w.heap.size w w' := by
  have HX := Lib.hid hX
  clear hX
  go_enter Try.func48, Try.ntmps48
  go_wp2_with fail
  refine (bits_any X _ HX.out).mono ?_
  rintro e w1 ⟨gb, cb, rfl, hob, hb1⟩
  have OB := Lib.hid hob
  have UB := OwnK.range hob gb rfl
  have BB : Hid (Below w.heap.size w w1) := (by repeat (first | exact Below.refl _ _ | refine Below.drew ?_ | refine Below.setCell ?_ (by first | omega | (simp; done) | (simp; omega) | (simp [*]; done)) _ | refine Below.alloc ?_ (by first | omega | (simp; done) | (simp; omega) | (simp [*]; done)) _ | refine Below.trans ?_ (Below.mono (hb1) (by first | omega | (simp; done) | (simp; omega) | (simp [*]; done)))))
  have OO : Hid (OwnK 3 .i64 w1 w.heap.size (some ⟨w.heap.size, 0, none⟩) 0 0 (ints (freeTo X 0))) := OwnK.below (World.ownsRow_made w #[] 0 (Nat.le_refl _) (by unfold maxLen; omega) rfl) hb1
  simp only [World.size_alloc] at UB
  have z1 := hb1.size
  simp only [World.size_alloc] at z1
  clear hob hb1
  by_cases hN : IsWidth N
  · have hV : freeV X N = freeB X N.toNat := if_pos hN
    unfold IsWidth at hN
    obtain ⟨M, rfl⟩ := Int.eq_ofNat_of_zero_le hN.1
    rw [Int.toNat_natCast] at hV
    have HV : Hid (onesTo (freeV X (M : Int)) 32 = freeTo X M) := by
      show _ = _
      rw [hV]
      exact free_ones HX.out (by omega)
    have hM : (M : Int) ≤ 32 := hN.2
    clear hV hN
    go_wp2
    go_loopw [5, 7] (fun v i wr => ∃ (k n : Nat) (A : Option Addr) (c : Nat), k ≤ M ∧ i = .int .i64 k ∧ n = (freeTo X k).length ∧ v = .slice A n c ∧ Hid (OwnK 3 .i64 wr w.heap.size A n c (ints (freeTo X k))) ∧ Hid (OwnK 3 .i64 wr w.heap.size (some ⟨gb, 0, none⟩) 32 cb (bitL X 32)) ∧ Hid (∀ g, (Value.slice A n c).ownBlock = some g → g ≠ gb) ∧ Hid (Below w.heap.size w wr) ∧ gb < wr.heap.size) (fun _ i _ => M - (intOf i).toNat)
    case atStart => exact ⟨0, 0, _, _, by omega, rfl, rfl, rfl, OO, OB.out.from_ (by simp), fun g h => by (have h2 : w.heap.size = g := by injection h); omega, BB, by omega⟩
    case round =>
      obtain ⟨k, m, A, c, hk, rfl, hm, rfl, HO, HG, HNE, HB, hgb⟩ := hrel
      clear OO OB BB
      have hs : w.heap.size ≤ wr.heap.size := HB.out.size
      have HM := Lib.hid hm
      have hm0 : m ≤ 1000 := by have := freeTo_len X k; omega
      clear hm
      by_cases hlt : k < M
      · have c2 := HG.out.cell rfl (show k < 32 by omega)
        rw [bitL_at X 32 k (by omega)] at c2
        by_cases h1 : X / 2 ^ k % 2 = 0
        · rw [h1] at c2
          have HN := Lib.hid (freeTo_hit h1)
          clear h1
          go_wp2_with (at_builtin; refine wpList_push_far rfl (.tmp 25) (.tmp 27) rfl w.heap.size m c A (ints (freeTo X k)) _ rfl rfl HO.out (by omega) hs ?_)
          intro A' c' w2 O2 G2 N2
          have NN : Hid (∀ g, (Value.slice A' (m + 1) c').ownBlock = some g → g ≠ gb) := fun g hg => by
            rcases N2.out g hg with h | h
            · exact HNE.out g h
            · omega
          have OG : Hid (OwnK 3 .i64 w2 w.heap.size (some ⟨gb, 0, none⟩) 32 cb (bitL X 32)) := HG.out.far G2.out (fun g hg e => by
            injection hg with hg
            exact HNE.out g e hg.symm)
          have BG : Hid (Below w.heap.size w w2) := HB.out.grown G2.out hs (fun g hg => (OwnK.range HO.out g hg).1)
          have zz := G2.out.size
          clear c2
          go_wp2
          go_roundw
          case rel => exact ⟨k + 1, m + 1, A', c', by omega, by go_num, by rw [HN.out, HM.out]; simp, rfl, by rw [HN.out, ints_snoc]; exact O2, OG, NN, BG, by omega⟩
          case measure => simp [intOf]; omega
        · have h0 : X / 2 ^ k % 2 = 1 := by omega
          rw [h0] at c2
          have HN := Lib.hid (freeTo_miss h0)
          clear h1 h0
          go_wp2
          go_roundw
          case rel => exact ⟨k + 1, m, A, c, by omega, by go_num, by rw [HN.out, HM.out], rfl, by rw [HN.out]; exact HO, HG, HNE, HB, hgb⟩
          case measure => simp [intOf]; omega
      · obtain rfl : k = M := by omega
        go_wp2
        go_ret
        have := HM.out
        subst this
        rw [HV.out]
        exact ⟨A, c, rfl, HO.out, HB.out⟩
  · have hV : onesTo (freeV X N) 32 = [] := by
      have : freeV X N = 0 := if_neg hN
      rw [this, ones_none]
    have HV := Lib.hid hV
    clear hV
    by_cases hN0 : N ≤ 0
    · have h0 : ¬ (0 : Int) < N := by omega
      clear hN
      go_wp2
      refine wp_loop_rounds 1 ?_
      rw [rounds_succ]
      go_wp2
      go_ret
      rw [HV.out]
      exact ⟨_, _, rfl, OO.out, BB.out⟩
    · have h0 : (0 : Int) < N := by omega
      have h1 : ¬ N ≤ 32 := by unfold IsWidth at hN; omega
      clear hN hN0
      go_wp2
      refine wp_loop_rounds 1 ?_
      rw [rounds_succ]
      go_wp2
      go_ret
      rw [HV.out]
      exact ⟨_, _, rfl, OO.out, BB.out⟩

set_option maxHeartbeats 400000 in
theorem sFreeLow_any (X : Nat) (wd N : Int) (w : World) (hX : X < 4294967296) :
    Calls Try.prog 25 #[.int .u32 (X : Int), .int .i64 wd, .int .i64 N] w fun e w' => e = .returned (.int .u32 ((orL ((onesTo (freeV X wd) 32).take N.toNat) : Nat) : Int)) ∧ Below w.heap.size w w' := by
  have HX := Lib.hid hX
  clear hX
  go_enter Try.func25, Try.ntmps25
  go_wp2_with fail
  refine (sFree_any X wd w HX.out).mono ?_
  rintro e w1 ⟨A, c, rfl, ho, hb⟩
  have HB := Lib.hid hb
  have HC := Lib.hid (first_any A _ c _ _ N w1 ho (onesTo_len _ 32))
  rw [ofA_take] at HC
  clear ho hb
  go_wp2_with fail
  refine HC.out.mono ?_
  rintro e w2 ⟨rfl, hb2⟩
  have HB2 := Lib.hid hb2
  have z1 := HB.out.size
  clear hb2
  go_wp2
  go_ret
  exact ⟨rfl, (by repeat (first | exact Below.refl _ _ | refine Below.drew ?_ | refine Below.setCell ?_ (by first | omega | (simp; done) | (simp; omega) | (simp [*]; done)) _ | refine Below.alloc ?_ (by first | omega | (simp; done) | (simp; omega) | (simp [*]; done)) _ | refine Below.trans ?_ (Below.mono (HB.out) (by first | omega | (simp; done) | (simp; omega) | (simp [*]; done))) | refine Below.trans ?_ (Below.mono (HB2.out) (by first | omega | (simp; done) | (simp; omega) | (simp [*]; done)))))⟩

theorem mask_next (k : Nat) : 2 ^ k - 1 ||| 2 ^ k = 2 ^ (k + 1) - 1 := by
  refine Nat.eq_of_testBit_eq fun j => ?_
  rw [Nat.testBit_or, Nat.testBit_two_pow_sub_one, Nat.testBit_two_pow, Nat.testBit_two_pow_sub_one, ← Bool.decide_or]
  refine decide_eq_decide.2 ?_
  omega

set_option maxRecDepth 100000 in
set_option maxHeartbeats 1000000 in
theorem sMaskOf_any (N : Int) (w : World) :
    Calls Try.prog 35 #[.int .i64 N] w fun e w' => e = .returned (.int .u32 (maskV N : Int)) ∧ Below w.heap.size w w' := by
  obtain ⟨i0, hi, hz0, hz1, hz2⟩ := info_parts info_int
  have hb2 : i0.bytes * 32 ≤ 281474976710656 := by rw [hz2]; omega
  have hb3 : 32 ≤ maxLen := by unfold maxLen; omega
  have HI := Lib.hid hi
  have HZ0 := Lib.hid hz0
  have HZ1 := Lib.hid hz1
  clear hi hz0 hz1 hz2
  go_enter Try.func35, Try.ntmps35
  go_wp2_with (at_make; refine wpList_make_full _ rfl _ _ 26 rfl w.heap.size 3 i0 (.int .i64 0) 1 Try.underlying26 HI.out HZ0.out HZ1.out .i64 .i64 _ _ 32 rfl rfl rfl rfl hb2 hb3 (Nat.le_refl _) ?_)
  intro w1 hown hgr
  have HO : Hid (OwnK 3 .i64 w1 w.heap.size (some ⟨w.heap.size, 0, none⟩) 32 32 (bitL (2 ^ 0 - 1) 32)) := by
    have := toList_madeCells_one (.int .i64 0) 32
    have h3 : w1.ownsRow w.heap.size 3 1 (.slice (some ⟨w.heap.size, 0, none⟩) 32 32) 32 (List.replicate 32 (.int .i64 0)) := this ▸ hown
    show w1.ownsRow _ _ _ _ _ ((bitL 0 32).map _)
    rw [bitL_zero, List.map_replicate]
    exact h3
  have HB : Hid (Below w.heap.size w w1) := (Below.refl _ _).grown hgr (Nat.le_refl _) (by simp)
  clear hown hgr
  by_cases hN : IsWidth N
  · have hV : maskV N = 2 ^ N.toNat - 1 := if_pos hN
    have hlt := maskV_lt N
    unfold IsWidth at hN
    obtain ⟨M, rfl⟩ := Int.eq_ofNat_of_zero_le hN.1
    rw [Int.toNat_natCast] at hV
    rw [hV] at hlt
    have HLT := Lib.hid hlt
    have HV := Lib.hid hV
    have hM : (M : Int) ≤ 32 := hN.2
    clear hV hN hlt
    go_wp2
    go_loopw [4] (fun i wr => ∃ k : Nat, k ≤ M ∧ i = .int .i64 k ∧ Hid (OwnK 3 .i64 wr w.heap.size (some ⟨w.heap.size, 0, none⟩) 32 32 (bitL (2 ^ k - 1) 32)) ∧ Hid (Below w.heap.size w wr)) (fun i _ => M - (intOf i).toNat)
    case atStart => exact ⟨0, Nat.zero_le _, rfl, HO, HB⟩
    case round =>
      obtain ⟨k, hk, rfl, HOr, HBr⟩ := hrel
      clear HO HB
      by_cases hlt : k < M
      · have hk32 : k < 32 := by omega
        have c2 := HOr.out.cell rfl hk32
        have f2 := HOr.out.free rfl k
        have HN : Hid (OwnK 3 .i64 (wr.setCell ⟨w.heap.size, k, none⟩ (.int .i64 1)) w.heap.size (some ⟨w.heap.size, 0, none⟩) 32 32 (bitL (2 ^ (k + 1) - 1) 32)) := by
          rw [← mask_next, ← bitL_set hk32]; exact HOr.out.store
        have HM : Hid (Below w.heap.size w (wr.setCell ⟨w.heap.size, k, none⟩ (.int .i64 1))) := HBr.out.setCell (Nat.le_refl _) _
        clear HOr HBr
        go_wp2
        go_roundw
        case rel => exact ⟨k + 1, by omega, by go_num, HN, HM⟩
        case measure => simp [intOf]; omega
      · obtain rfl : k = M := by omega
        have HW := word_any (some ⟨w.heap.size, 0, none⟩) 32 _ _ wr HOr.out.rd (bitL_bits _)
        rw [wordL_bitL HLT.out] at HW
        have CW := Lib.hid HW
        clear HW
        go_wp2_with fail
        refine CW.out.mono ?_
        rintro e w2 ⟨rfl, rfl⟩
        go_wp2
        go_ret
        rw [HV.out]
        exact ⟨rfl, HBr.out⟩
  · have hV : maskV N = 0 := if_neg hN
    have HV := Lib.hid hV
    have HW := word_any (some ⟨w.heap.size, 0, none⟩) 32 _ _ w1 HO.out.rd (bitL_bits _)
    rw [wordL_bitL (by omega)] at HW
    have CW := Lib.hid HW
    clear hV HW
    by_cases hN0 : N ≤ 0
    · have h0 : ¬ (0 : Int) < N := by omega
      clear hN
      go_wp2
      refine wp_loop_rounds 1 ?_
      rw [rounds_succ]
      go_wp2_with fail
      refine CW.out.mono ?_
      rintro e w2 ⟨rfl, rfl⟩
      go_wp2
      go_ret
      rw [HV.out]
      exact ⟨rfl, HB.out⟩
    · have h0 : (0 : Int) < N := by omega
      have h1 : ¬ N ≤ 32 := by unfold IsWidth at hN; omega
      clear hN hN0
      go_wp2
      refine wp_loop_rounds 1 ?_
      rw [rounds_succ]
      go_wp2_with fail
      refine CW.out.mono ?_
      rintro e w2 ⟨rfl, rfl⟩
      go_wp2
      go_ret
      rw [HV.out]
      exact ⟨rfl, HB.out⟩

end Go.Proofs.Ytffeaaabhekmhaa
