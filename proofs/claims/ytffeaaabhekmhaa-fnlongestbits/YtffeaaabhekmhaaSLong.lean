/- The contract of the model's Longest: the longest run of free bits below a width, the lowest of them. -/
import Derived.Test.YtffeaaabhekmhaaSLow
import Derived.Test.YtffeaaabhekmhaaLongMath
namespace Go.Proofs.Ytffeaaabhekmhaa
open Go.RowKit

theorem sLongest_no (X : Nat) (N : Int) (w : World) (hN : ¬ IsWidth N) :
    Calls Try.prog 30 #[.int .u32 (X : Int), .int .i64 N] w fun e w' => e = .returned (.tuple #[.int .i64 (-1), .int .i64 0]) ∧ w = w' := by
  by_cases h0 : N < 0
  · clear hN
    go_enter Try.func30, Try.ntmps30
    go_wp2
    go_ret2
    exact ⟨rfl, rfl⟩
  · have h1 : 32 < N := by unfold IsWidth at hN; omega
    clear hN
    go_enter Try.func30, Try.ntmps30
    go_wp2
    go_ret2
    exact ⟨rfl, rfl⟩

theorem free_at {X M j : Nat} (hX : X < 4294967296) (hM : M ≤ 32) (hj : j < M) : (freeB X M).testBit j = true ↔ X / 2 ^ j % 2 = 0 := by
  rw [free_bit hX hM, Nat.testBit_eq_decide_div_mod_eq]
  simp [hj]
theorem free_no {X M j : Nat} (hX : X < 4294967296) (hM : M ≤ 32) (hj : M ≤ j) : (freeB X M).testBit j = false := by
  rw [free_bit hX hM]
  have : ¬ j < M := by omega
  simp [this]

set_option maxRecDepth 100000 in
set_option maxHeartbeats 2000000 in
theorem sLongest_any (X : Nat) (N : Int) (w : World) (hX : X < 4294967296) (hN : IsWidth N) :
    Calls Try.prog 30 #[.int .u32 (X : Int), .int .i64 N] w fun e w' => (∃ b m : Nat, e = .returned (.tuple #[.int .i64 (b : Int), .int .i64 (m : Int)]) ∧ Best (freeV X N) b m) ∧ Below w.heap.size w w' := by
  have HX := Lib.hid hX
  have hV : freeV X N = freeB X N.toNat := if_pos hN
  unfold IsWidth at hN
  obtain ⟨M, rfl⟩ := Int.eq_ofNat_of_zero_le hN.1
  rw [Int.toNat_natCast] at hV
  rw [hV]
  have hM : M ≤ 32 := by omega
  clear hX hV hN
  go_enter Try.func30, Try.ntmps30
  go_wp2_with fail
  refine (bits_any X _ HX.out).mono ?_
  rintro e w1 ⟨gb, cb, rfl, hob, hb1⟩
  have HC : Hid (∀ j, j < 32 → w1.cell? ⟨gb, j, none⟩ = some (.int .i64 ((X / 2 ^ j % 2 : Nat) : Int))) := fun j hj => by
    have := hob.cell rfl hj
    rw [bitL_at X 32 j hj] at this
    exact this
  have BB := Lib.hid hb1
  clear hob hb1
  go_wp2
  go_loop [7, 8, 9] (fun a b i => ∃ k p q : Nat, k ≤ M ∧ p ≤ 32 ∧ q ≤ 32 ∧ i = .int .i64 k ∧ a = .int .i64 p ∧ b = .int .i64 q ∧ Hid (OInv (freeB X M) k p q)) (fun _ _ i => M - (intOf i).toNat)
  case atStart => exact ⟨0, 0, 0, Nat.zero_le _, by omega, by omega, rfl, rfl, rfl, oinv_zero _⟩
  case round =>
    obtain ⟨k, p, q, hk, hp, hq, rfl, rfl, rfl, HI⟩ := hrel
    by_cases hlt : k < M
    · go_wp2
      go_loop [10] (fun i => ∃ n : Nat, k + n ≤ M ∧ i = .int .i64 n ∧ Hid (Run (freeB X M) k n)) (fun i => M - (intOf i).toNat)
      case atStart => exact ⟨0, by omega, rfl, Run.zero _ _⟩
      case round =>
        obtain ⟨n, hn, rfl, HR⟩ := hrel
        by_cases hl2 : k + n < M
        · have c1 := HC.out (k + n) (by omega)
          by_cases hbit : X / 2 ^ (k + n) % 2 = 0
          · have HN : Hid (Run (freeB X M) k (n + 1)) := HR.out.snoc ((free_at HX.out hM hl2).2 hbit)
            rw [hbit] at c1
            clear hbit
            go_wp2
            go_round
            case rel => exact ⟨n + 1, by omega, by go_num, HN⟩
            case measure => simp [intOf]; omega
          · have HE : Hid ((freeB X M).testBit (k + n) = false) := by
              show _ = _
              rw [Bool.eq_false_iff]
              exact fun e => hbit ((free_at HX.out hM hl2).1 e)
            have hb1 : X / 2 ^ (k + n) % 2 = 1 := by omega
            rw [hb1] at c1
            clear hb1 hbit
            by_cases hm : q < n
            · have HN := Lib.hid (oinv_more HI.out HR.out HE.out hm)
              go_wp2
              exact ⟨⟨k + 1, k, n, by omega, by omega, by omega, by go_num, rfl, rfl, HN⟩, by simp [intOf]; omega⟩
            · have HN := Lib.hid (oinv_same HI.out HE.out hm)
              go_wp2
              exact ⟨⟨k + 1, p, q, by omega, hp, hq, by go_num, rfl, rfl, HN⟩, by simp [intOf]; omega⟩
        · have HE : Hid ((freeB X M).testBit (k + n) = false) := free_no HX.out hM (by omega)
          have hl3 : ¬ (k : Int) + (n : Int) < (M : Int) := by omega
          by_cases hm : q < n
          · have HN := Lib.hid (oinv_more HI.out HR.out HE.out hm)
            go_wp2
            exact ⟨⟨k + 1, k, n, by omega, by omega, by omega, by go_num, rfl, rfl, HN⟩, by simp [intOf]; omega⟩
          · have HN := Lib.hid (oinv_same HI.out HE.out hm)
            go_wp2
            exact ⟨⟨k + 1, p, q, by omega, hp, hq, by go_num, rfl, rfl, HN⟩, by simp [intOf]; omega⟩
    · have HBest : Hid (Best (freeB X M) p q) := oinv_best HI.out (fun j hj => free_no HX.out hM (by omega))
      go_wp2
      go_ret2
      exact ⟨⟨p, q, rfl, HBest.out⟩, BB.out⟩

end Go.Proofs.Ytffeaaabhekmhaa
