/- The contracts of ClassSize, PerPage, ClassOf and ChunksFor, of the program and of the model: plain numbers, nothing in memory turns. -/
import Derived.Test.YtefcaeldkdbjdaaBase
namespace Go.Proofs.Ytefcaeldkdbjdaa
open Go.RowKit

/-- A class of blocks. -/
def IsClass (k : Int) : Prop := 0 ≤ k ∧ k < 5
instance (k : Int) : Decidable (IsClass k) := inferInstanceAs (Decidable (0 ≤ k ∧ k < 5))
theorem five {k : Int} (h : IsClass k) : k = 0 ∨ k = 1 ∨ k = 2 ∨ k = 3 ∨ k = 4 := by unfold IsClass at h; omega
/-- The words of a block, and the blocks of a page. -/
def sizeV (k : Int) : Int := if k = 0 then 1 else if k = 1 then 2 else if k = 2 then 4 else if k = 3 then 8 else if k = 4 then 16 else 0
def perV (k : Int) : Int := if k = 0 then 16 else if k = 1 then 8 else if k = 2 then 4 else if k = 3 then 2 else if k = 4 then 1 else 0
theorem sizeV_not {k : Int} (h : ¬ IsClass k) : sizeV k = 0 := by unfold IsClass at h; unfold sizeV; split <;> (try omega); repeat (split <;> try omega)
theorem perV_not {k : Int} (h : ¬ IsClass k) : perV k = 0 := by unfold IsClass at h; unfold perV; split <;> (try omega); repeat (split <;> try omega)
/-- The class of a size, and the chunks of a large one. -/
def classV (s : Int) : Int := if s < 1 then -1 else if s ≤ 1 then 0 else if s ≤ 2 then 1 else if s ≤ 4 then 2 else if s ≤ 8 then 3 else if s ≤ 16 then 4 else -1
def chunksV (s : Int) : Int := if s ≤ 16 ∨ 256 < s then 0 else (s + 16 - 1) / 16

set_option maxHeartbeats 400000 in
theorem isClass_any (k : Int) (w : World) :
    Calls Try.prog 46 #[.int .i64 k] w fun e w' => e = .returned (.bool (decide (IsClass k))) ∧ w = w' := by
  by_cases h0 : 0 ≤ k
  · by_cases h1 : k < 5
    · have hd : Hid (decide (IsClass k) = true) := decide_eq_true ⟨h0, h1⟩
      go_enter Try.func46, Try.ntmps46
      go_wp2
      go_ret
      exact ⟨by rw [hd.out]; rfl, rfl⟩
    · have hd : Hid (decide (IsClass k) = false) := decide_eq_false (fun h => h1 h.2)
      go_enter Try.func46, Try.ntmps46
      go_wp2
      go_ret
      exact ⟨by rw [hd.out]; rfl, rfl⟩
  · have hd : Hid (decide (IsClass k) = false) := decide_eq_false (fun h => h0 h.1)
    go_enter Try.func46, Try.ntmps46
    go_wp2
    go_ret
    exact ⟨by rw [hd.out]; rfl, rfl⟩

set_option maxHeartbeats 400000 in
theorem sIsClass_any (k : Int) (w : World) :
    Calls Try.prog 29 #[.int .i64 k] w fun e w' => e = .returned (.bool (decide (IsClass k))) ∧ w = w' := by
  by_cases h0 : 0 ≤ k
  · by_cases h1 : k < 5
    · have hd : Hid (decide (IsClass k) = true) := decide_eq_true ⟨h0, h1⟩
      go_enter Try.func29, Try.ntmps29
      go_wp2
      go_ret
      exact ⟨by rw [hd.out]; rfl, rfl⟩
    · have hd : Hid (decide (IsClass k) = false) := decide_eq_false (fun h => h1 h.2)
      go_enter Try.func29, Try.ntmps29
      go_wp2
      go_ret
      exact ⟨by rw [hd.out]; rfl, rfl⟩
  · have hd : Hid (decide (IsClass k) = false) := decide_eq_false (fun h => h0 h.1)
    go_enter Try.func29, Try.ntmps29
    go_wp2
    go_ret
    exact ⟨by rw [hd.out]; rfl, rfl⟩

set_option maxHeartbeats 1000000 in
theorem pow_any (m : Nat) (w : World) (hm : m ≤ 30) :
    Calls Try.prog 28 #[.int .i64 (m : Int)] w fun e w' => e = .returned (.int .i64 ((2 ^ m : Nat) : Int)) ∧ w = w' := by
  have HM := Lib.hid hm
  clear hm
  go_enter Try.func28, Try.ntmps28
  go_wp2
  go_loop [0, 3] (fun n x => ∃ k : Nat, k ≤ m ∧ n = .int .i64 k ∧ x = .int .i64 ((2 ^ (m - k) : Nat) : Int)) (fun n _ => (intOf n).toNat)
  case atStart => exact ⟨m, by omega, rfl, by simp⟩
  case round =>
    obtain ⟨k, hk, rfl, rfl⟩ := hrel
    have hm := HM.out
    have hp : 2 ^ (m - k) ≤ 2 ^ 30 := Nat.pow_le_pow_right (by omega) (by omega)
    by_cases hlt : 0 < k
    · obtain ⟨j, rfl⟩ : ∃ j, k = j + 1 := ⟨k - 1, by omega⟩
      have HN : Hid (2 ^ (m - j) = 2 * 2 ^ (m - (j + 1))) := by
        show _ = _
        rw [show m - j = (m - (j + 1)) + 1 by omega, Nat.pow_succ]; omega
      generalize 2 ^ (m - (j + 1)) = y at *
      have hy : (y : Int) ≤ 1073741824 := by omega
      have hy0 : (0 : Int) ≤ y := by omega
      have hj : (0 : Int) < ((j + 1 : Nat) : Int) := by omega
      have hj1 : ((j + 1 : Nat) : Int) ≤ 30 := by omega
      clear hp
      go_wp2
      go_round
      case rel => exact ⟨j, by omega, by congr 1 <;> omega, by rw [HN.out]; congr 1⟩
      case measure => simp [intOf]
    · obtain rfl : k = 0 := by omega
      go_wp2
      go_ret
      exact ⟨by simp, rfl⟩

set_option maxHeartbeats 400000 in
theorem classSize_any (k : Int) (w : World) :
    Calls Try.prog 36 #[.int .i64 k] w fun e w' => e = .returned (.int .i64 (sizeV k)) ∧ w = w' := by
  have HC := Lib.hid (isClass_any k w)
  by_cases hk : IsClass k
  · rw [decide_eq_true hk] at HC
    rcases five hk with rfl | rfl | rfl | rfl | rfl
    all_goals
      clear hk
      go_enter Try.func36, Try.ntmps36
      go_wp2_with fail
      refine HC.out.mono ?_
      rintro e w1 ⟨rfl, rfl⟩
      go_wp2
      go_ret
      exact ⟨rfl, rfl⟩
  · rw [decide_eq_false hk] at HC
    have HV := Lib.hid (sizeV_not hk)
    clear hk
    go_enter Try.func36, Try.ntmps36
    go_wp2_with fail
    refine HC.out.mono ?_
    rintro e w1 ⟨rfl, rfl⟩
    go_wp2
    go_ret
    exact ⟨by rw [HV.out]; rfl, rfl⟩

set_option maxHeartbeats 400000 in
theorem perPage_any (k : Int) (w : World) :
    Calls Try.prog 39 #[.int .i64 k] w fun e w' => e = .returned (.int .i64 (perV k)) ∧ w = w' := by
  have HC := Lib.hid (isClass_any k w)
  have HS := Lib.hid (classSize_any k w)
  by_cases hk : IsClass k
  · rw [decide_eq_true hk] at HC
    rcases five hk with rfl | rfl | rfl | rfl | rfl
    all_goals
      clear hk
      go_enter Try.func39, Try.ntmps39
      go_wp2_with fail
      refine HC.out.mono ?_
      rintro e w1 ⟨rfl, rfl⟩
      go_wp2_with fail
      refine HS.out.mono ?_
      rintro e w1 ⟨rfl, rfl⟩
      simp only [sizeV]
      go_wp2
      go_ret
      exact ⟨rfl, rfl⟩
  · rw [decide_eq_false hk] at HC
    have HV := Lib.hid (perV_not hk)
    clear hk
    go_enter Try.func39, Try.ntmps39
    go_wp2_with fail
    refine HC.out.mono ?_
    rintro e w1 ⟨rfl, rfl⟩
    go_wp2
    go_ret
    exact ⟨by rw [HV.out]; rfl, rfl⟩

set_option maxHeartbeats 400000 in
theorem sPerPage_any (k : Int) (w : World) :
    Calls Try.prog 30 #[.int .i64 k] w fun e w' => e = .returned (.int .i64 (perV k)) ∧ w = w' := by
  have HC := Lib.hid (sIsClass_any k w)
  by_cases hk : IsClass k
  · rw [decide_eq_true hk] at HC
    obtain ⟨m, rfl⟩ := Int.eq_ofNat_of_zero_le hk.1
    have h5 : m < 5 := by have := hk.2; omega
    have HP := Lib.hid (pow_any m w (by omega))
    clear hk
    rcases (show m = 0 ∨ m = 1 ∨ m = 2 ∨ m = 3 ∨ m = 4 by omega) with rfl | rfl | rfl | rfl | rfl
    all_goals
      go_enter Try.func30, Try.ntmps30
      go_wp2_with fail
      refine HC.out.mono ?_
      rintro e w1 ⟨rfl, rfl⟩
      go_wp2_with fail
      refine HP.out.mono ?_
      rintro e w1 ⟨rfl, rfl⟩
      go_wp2
      go_ret
      exact ⟨rfl, rfl⟩
  · rw [decide_eq_false hk] at HC
    have HV := Lib.hid (perV_not hk)
    clear hk
    go_enter Try.func30, Try.ntmps30
    go_wp2_with fail
    refine HC.out.mono ?_
    rintro e w1 ⟨rfl, rfl⟩
    go_wp2
    go_ret
    exact ⟨by rw [HV.out]; rfl, rfl⟩

theorem chunksV_out {s : Int} (h : s ≤ 16 ∨ 256 < s) : chunksV s = 0 := if_pos h
theorem chunksV_in {s : Int} (h1 : 16 < s) (h2 : s ≤ 256) : chunksV s = (s + 16 - 1) / 16 := if_neg (by omega)

set_option maxHeartbeats 400000 in
theorem chunksFor_any (s : Int) (w : World) :
    Calls Try.prog 19 #[.int .i64 s] w fun e w' => e = .returned (.int .i64 (chunksV s)) ∧ w = w' := by
  by_cases h0 : s ≤ 16
  · have HV := Lib.hid (chunksV_out (.inl h0))
    go_enter Try.func19, Try.ntmps19
    go_wp2
    go_ret
    exact ⟨by rw [HV.out]; rfl, rfl⟩
  · by_cases h1 : 256 < s
    · have HV := Lib.hid (chunksV_out (.inr h1))
      go_enter Try.func19, Try.ntmps19
      go_wp2
      go_ret
      exact ⟨by rw [HV.out]; rfl, rfl⟩
    · have HV := Lib.hid (chunksV_in (s := s) (by omega) (by omega))
      go_enter Try.func19, Try.ntmps19
      go_wp2
      go_ret
      exact ⟨by rw [HV.out]; rfl, rfl⟩

set_option maxHeartbeats 400000 in
theorem sChunksFor_any (s : Int) (w : World) :
    Calls Try.prog 15 #[.int .i64 s] w fun e w' => e = .returned (.int .i64 (chunksV s)) ∧ w = w' := by
  by_cases h0 : s ≤ 16
  · have HV := Lib.hid (chunksV_out (.inl h0))
    go_enter Try.func15, Try.ntmps15
    go_wp2
    go_ret
    exact ⟨by rw [HV.out]; rfl, rfl⟩
  · by_cases h1 : 256 < s
    · have HV := Lib.hid (chunksV_out (.inr h1))
      go_enter Try.func15, Try.ntmps15
      go_wp2
      go_ret
      exact ⟨by rw [HV.out]; rfl, rfl⟩
    · have HV := Lib.hid (chunksV_in (s := s) (by omega) (by omega))
      go_enter Try.func15, Try.ntmps15
      go_wp2
      go_ret
      exact ⟨by rw [HV.out]; rfl, rfl⟩

theorem classV_low {s : Int} (h : s < 1) : classV s = -1 := if_pos h
theorem classV_high {s : Int} (h : 16 < s) : classV s = -1 := by unfold classV; repeat (split <;> try omega)
theorem classV_at {s : Int} {k : Nat} (hk : k < 5) (h : (2 : Int) ^ k ≥ s) (h0 : 1 ≤ s) (h1 : k = 0 ∨ (2 : Int) ^ (k - 1) < s) : classV s = k := by
  unfold classV
  rcases (show k = 0 ∨ k = 1 ∨ k = 2 ∨ k = 3 ∨ k = 4 by omega) with rfl | rfl | rfl | rfl | rfl <;> simp at h h1 <;> repeat (split <;> try omega)

set_option maxHeartbeats 1000000 in
theorem classOf_any (s : Int) (w : World) :
    Calls Try.prog 22 #[.int .i64 s] w fun e w' => e = .returned (.int .i64 (classV s)) ∧ w = w' := by
  by_cases h0 : s < 1
  · have HV := Lib.hid (classV_low h0)
    go_enter Try.func22, Try.ntmps22
    go_wp2
    go_ret
    exact ⟨by rw [HV.out]; rfl, rfl⟩
  · go_enter Try.func22, Try.ntmps22
    go_wp2
    go_loop [6] (fun i => ∃ k : Nat, k ≤ 5 ∧ i = .int .i64 k ∧ Hid (k = 0 ∨ (2 : Int) ^ (k - 1) < s)) (fun i => 5 - (intOf i).toNat)
    case atStart => exact ⟨0, by omega, rfl, .inl rfl⟩
    case round =>
      obtain ⟨k, hk, rfl, HK⟩ := hrel
      by_cases hlt : k < 5
      · have HS := Lib.hid (classSize_any k w)
        have HP : Hid (sizeV k = (2 : Int) ^ k) := by
          show _ = _
          rcases (show k = 0 ∨ k = 1 ∨ k = 2 ∨ k = 3 ∨ k = 4 by omega) with rfl | rfl | rfl | rfl | rfl <;> rfl
        go_wp2_with fail
        refine HS.out.mono ?_
        rintro e w1 ⟨rfl, rfl⟩
        by_cases hs : s ≤ sizeV k
        · have HV : Hid (classV s = k) := classV_at hlt (by rw [← HP.out]; exact hs) (by omega) HK.out
          go_wp2
          go_ret
          exact ⟨by rw [HV.out]; rfl, rfl⟩
        · have HN : Hid (k + 1 = 0 ∨ (2 : Int) ^ (k + 1 - 1) < s) := .inr (by rw [Nat.add_sub_cancel, ← HP.out]; omega)
          go_wp2
          go_round
          case rel => exact ⟨k + 1, by omega, by go_num, HN⟩
          case measure => simp [intOf]; omega
      · obtain rfl : k = 5 := by omega
        have HV : Hid (classV s = -1) := classV_high (by have := HK.out; simp at this; omega)
        go_wp2
        go_ret
        exact ⟨by rw [HV.out]; rfl, rfl⟩

set_option maxHeartbeats 1000000 in
theorem sClassOf_any (s : Int) (w : World) :
    Calls Try.prog 14 #[.int .i64 s] w fun e w' => e = .returned (.int .i64 (classV s)) ∧ w = w' := by
  by_cases h0 : s < 1
  · have HV := Lib.hid (classV_low h0)
    go_enter Try.func14, Try.ntmps14
    go_wp2
    refine wp_loop_rounds 1 ?_
    rw [rounds_succ]
    go_wp2
    go_ret
    exact ⟨by rw [HV.out]; rfl, rfl⟩
  · go_enter Try.func14, Try.ntmps14
    go_wp2
    go_loop [3] (fun i => ∃ k : Nat, k ≤ 5 ∧ i = .int .i64 k ∧ Hid (k = 0 ∨ (2 : Int) ^ (k - 1) < s)) (fun i => 5 - (intOf i).toNat)
    case atStart => exact ⟨0, by omega, rfl, .inl rfl⟩
    case round =>
      obtain ⟨k, hk, rfl, HK⟩ := hrel
      by_cases hlt : k < 5
      · have HS := Lib.hid (pow_any k w (by omega))
        go_wp2_with fail
        refine HS.out.mono ?_
        rintro e w1 ⟨rfl, rfl⟩
        by_cases hs : s ≤ (2 : Int) ^ k
        · have HV : Hid (classV s = k) := classV_at hlt hs (by omega) HK.out
          go_wp2
          go_ret
          exact ⟨by rw [HV.out]; rfl, rfl⟩
        · have HN : Hid (k + 1 = 0 ∨ (2 : Int) ^ (k + 1 - 1) < s) := .inr (by rw [Nat.add_sub_cancel]; omega)
          go_wp2
          go_round
          case rel => exact ⟨k + 1, by omega, by go_num, HN⟩
          case measure => simp [intOf]; omega
      · obtain rfl : k = 5 := by omega
        have HV : Hid (classV s = -1) := classV_high (by have := HK.out; simp at this; omega)
        go_wp2
        go_ret
        exact ⟨by rw [HV.out]; rfl, rfl⟩

end Go.Proofs.Ytefcaeldkdbjdaa
