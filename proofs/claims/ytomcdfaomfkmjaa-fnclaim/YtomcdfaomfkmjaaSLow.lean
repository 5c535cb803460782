/- The contracts of the model's MaskOf, TakeLow and FreeLow. -/
import Derived.Test.YtomcdfaomfkmjaaSOf
namespace Go.Proofs.Ytomcdfaomfkmjaa
open Go.RowKit

/-- A width that a word has. -/
def IsWidth (n : Int) : Prop := 0 ≤ n ∧ n ≤ 32
instance (n : Int) : Decidable (IsWidth n) := inferInstanceAs (Decidable (0 ≤ n ∧ n ≤ 32))
/-- The mask of a width, and the free bits below it. -/
def maskV (n : Int) : Nat := if IsWidth n then 2 ^ n.toNat - 1 else 0
def freeV (X : Nat) (n : Int) : Nat := if IsWidth n then freeB X n.toNat else 0
theorem maskV_lt (n : Int) : maskV n < 4294967296 := by
  unfold maskV
  split
  · rename_i h
    have h1 : n.toNat ≤ 32 := by unfold IsWidth at h; omega
    have : 2 ^ n.toNat ≤ 2 ^ 32 := Nat.pow_le_pow_right (by omega) h1
    omega
  · omega
theorem freeV_and (X : Nat) (n : Int) : (4294967295 - X) &&& maskV n = freeV X n := by
  unfold maskV freeV freeB
  split
  · rfl
  · simp
theorem freeV_lt (X : Nat) (n : Int) : freeV X n < 4294967296 := by
  unfold freeV
  split
  · exact free_lt
  · omega
theorem ones_none (m : Nat) : onesTo 0 m = [] := by
  have := onesTo_stop (X := 0) (k := 0) (by simp) m (by omega)
  rw [this, onesTo_zero]
theorem ofA_take (X n : Nat) : ofA (ints ((onesTo X 32).take n)) = orL ((onesTo X 32).take n) := by unfold ofA; rw [bitsG_take]; rfl

set_option maxRecDepth 100000 in
set_option maxHeartbeats 1000000 in
theorem sFree_any (X : Nat) (N : Int) (w : World) (hX : X < 4294967296) :
    Calls Try.prog 45 #[.int .u32 (X : Int), .int .i64 N] w fun e w' => ∃ A c, e = .returned (.slice A (onesTo (freeV X N) 32).length c) ∧ OwnK 3 .i64 w' w.heap.size A (onesTo (freeV X N) 32).length c (ints (onesTo (freeV X N) 32)) ∧ Below w.heap.size w w' := by
  have HX := Lib.hid hX
  clear hX
  go_enter Try.func45, Try.ntmps45
  go_wp2_with fail
  refine (bits_any X _ HX.out).mono ?_
  rintro e w1 ⟨gb, cb, rfl, hob, hb1⟩
  have OB := Lib.hid hob
  have UB := OwnK.range hob gb rfl
  have BB : Hid (Below w.heap.size w w1) := (by repeat (first | exact Below.refl _ _ | refine Below.drew ?_ | refine Below.setCell ?_ (by first | omega | (simp; done) | (simp; omega) | (simp [*]; done)) _ | refine Below.alloc ?_ (by first | omega | (simp; done) | (simp; omega) | (simp [*]; done)) _ | refine Below.trans ?_ (Below.mono (hb1) (by first | omega | (simp; done) | (simp; omega) | (simp [*]; done)))))
  have OO : Hid (OwnK 3 .i64 w1 w.heap.size (some ⟨w.heap.size, 0, none⟩) 0 0 (ints (freeTo X 0))) := OwnK.below (World.ownsRow_made w #[] 0 (Nat.le_refl _) (by unfold maxLen; omega) rfl) hb1
  simp only [World.size_alloc] at UB
  have z1 := hb1.size
  simp only [World.size_alloc] at z1
  clear hob hb1
  by_cases hN : IsWidth N
  · have hV : freeV X N = freeB X N.toNat := if_pos hN
    unfold IsWidth at hN
    obtain ⟨M, rfl⟩ := Int.eq_ofNat_of_zero_le hN.1
    rw [Int.toNat_natCast] at hV
    have HV : Hid (onesTo (freeV X (M : Int)) 32 = freeTo X M) := by
      show _ = _
      rw [hV]
      exact free_ones HX.out (by omega)
    have hM : (M : Int) ≤ 32 := hN.2
    clear hV hN
    go_wp2
    go_loopw [5, 7] (fun v i wr => ∃ (k n : Nat) (A : Option Addr) (c : Nat), k ≤ M ∧ i = .int .i64 k ∧ n = (freeTo X k).length ∧ v = .slice A n c ∧ Hid (OwnK 3 .i64 wr w.heap.size A n c (ints (freeTo X k))) ∧ Hid (OwnK 3 .i64 wr w.heap.size (some ⟨gb, 0, none⟩) 32 cb (bitL X 32)) ∧ Hid (∀ g, (Value.slice A n c).ownBlock = some g → g ≠ gb) ∧ Hid (Below w.heap.size w wr) ∧ gb < wr.heap.size) (fun _ i _ => M - (intOf i).toNat)
    case atStart => exact ⟨0, 0, _, _, by omega, rfl, rfl, rfl, OO, OB.out.from_ (by simp), fun g h => by (have h2 : w.heap.size = g := by injection h); omega, BB, by omega⟩
    case round =>
      obtain ⟨k, m, A, c, hk, rfl, hm, rfl, HO, HG, HNE, HB, hgb⟩ := hrel
      clear OO OB BB
      have hs : w.heap.size ≤ wr.heap.size := HB.out.size
      have HM := Lib.hid hm
      have hm0 : m ≤ 1000 := by have := freeTo_len X k; omega
      clear hm
      by_cases hlt : k < M
      · have c2 := HG.out.cell rfl (show k < 32 by omega)
        rw [bitL_at X 32 k (by omega)] at c2
        by_cases h1 : X / 2 ^ k % 2 = 0
        · rw [h1] at c2
          have HN := Lib.hid (freeTo_hit h1)
          clear h1
          go_wp2_with (at_builtin; refine wpList_push_far rfl (.tmp 25) (.tmp 27) rfl w.heap.size m c A (ints (freeTo X k)) _ rfl rfl HO.out (by omega) hs ?_)
          intro A' c' w2 O2 G2 N2
          have NN : Hid (∀ g, (Value.slice A' (m + 1) c').ownBlock = some g → g ≠ gb) := fun g hg => by
            rcases N2.out g hg with h | h
            · exact HNE.out g h
            · omega
          have OG : Hid (OwnK 3 .i64 w2 w.heap.size (some ⟨gb, 0, none⟩) 32 cb (bitL X 32)) := HG.out.far G2.out (fun g hg e => by
            injection hg with hg
            exact HNE.out g e hg.symm)
          have BG : Hid (Below w.heap.size w w2) := HB.out.grown G2.out hs (fun g hg => (OwnK.range HO.out g hg).1)
          have zz := G2.out.size
          clear c2
          go_wp2
          go_roundw
          case rel => exact ⟨k + 1, m + 1, A', c', by omega, by go_num, by rw [HN.out, HM.out]; simp, rfl, by rw [HN.out, ints_snoc]; exact O2, OG, NN, BG, by omega⟩
          case measure => simp [intOf]; omega
        · have h0 : X / 2 ^ k % 2 = 1 := by omega
          rw [h0] at c2
          have HN := Lib.hid (freeTo_miss h0)
          clear h1 h0
          go_wp2
          go_roundw
          case rel => exact ⟨k + 1, m, A, c, by omega, by go_num, by rw [HN.out, HM.out], rfl, by rw [HN.out]; exact HO, HG, HNE, HB, hgb⟩
          case measure => simp [intOf]; omega
      · obtain rfl : k = M := by omega
        go_wp2
        go_ret
        have := HM.out
        subst this
        rw [HV.out]
        exact ⟨A, c, rfl, HO.out, HB.out⟩
  · have hV : onesTo (freeV X N) 32 = [] := by
      have : freeV X N = 0 := if_neg hN
      rw [this, ones_none]
    have HV := Lib.hid hV
    clear hV
    by_cases hN0 : N ≤ 0
    · have h0 : ¬ (0 : Int) < N := by omega
      clear hN
      go_wp2
      refine wp_loop_rounds 1 ?_
      rw [rounds_succ]
      go_wp2
      go_ret
      rw [HV.out]
      exact ⟨_, _, rfl, OO.out, BB.out⟩
    · have h0 : (0 : Int) < N := by omega
      have h1 : ¬ N ≤ 32 := by unfold IsWidth at hN; omega
      clear hN hN0
      go_wp2
      refine wp_loop_rounds 1 ?_
      rw [rounds_succ]
      go_wp2
      go_ret
      rw [HV.out]
      exact ⟨_, _, rfl, OO.out, BB.out⟩

theorem mask_next (k : Nat) : 2 ^ k - 1 ||| 2 ^ k = 2 ^ (k + 1) - 1 := by
  refine Nat.eq_of_testBit_eq fun j => ?_
  rw [Nat.testBit_or, Nat.testBit_two_pow_sub_one, Nat.testBit_two_pow, Nat.testBit_two_pow_sub_one, ← Bool.decide_or]
  refine decide_eq_decide.2 ?_
  omega

end Go.Proofs.Ytomcdfaomfkmjaa
