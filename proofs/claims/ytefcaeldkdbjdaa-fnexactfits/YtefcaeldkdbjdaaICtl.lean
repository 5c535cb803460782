/- The contracts of the program's isRun, isMapOf and CtlOk. -/
import Derived.Test.YtefcaeldkdbjdaaCtlM
import Derived.Test.YtefcaeldkdbjdaaILow
namespace Go.Proofs.Ytefcaeldkdbjdaa
open Go.RowKit

set_option maxHeartbeats 400000 in
theorem isRun_any (r : Int) (w : World) :
    Calls Try.prog 50 #[.int .i64 r] w fun e w' => e = .returned (.bool (decide (IsRun r))) ∧ w = w' := by
  by_cases h0 : 2 ≤ r
  · by_cases h1 : r ≤ 16
    · have hd : Hid (decide (IsRun r) = true) := decide_eq_true ⟨h0, h1⟩
      go_enter Try.func50, Try.ntmps50
      go_wp2
      go_ret
      exact ⟨by rw [hd.out]; rfl, rfl⟩
    · have hd : Hid (decide (IsRun r) = false) := decide_eq_false (fun h => h1 h.2)
      go_enter Try.func50, Try.ntmps50
      go_wp2
      go_ret
      exact ⟨by rw [hd.out]; rfl, rfl⟩
  · have hd : Hid (decide (IsRun r) = false) := decide_eq_false (fun h => h0 h.1)
    go_enter Try.func50, Try.ntmps50
    go_wp2
    go_ret
    exact ⟨by rw [hd.out]; rfl, rfl⟩

set_option maxHeartbeats 1000000 in
theorem isMapOf_any (M : Nat) (K : Int) (w : World) (hM : M < 4294967296) (hK : IsClass K) :
    Calls Try.prog 49 #[.int .u32 (M : Int), .int .i64 K] w fun e w' => e = .returned (.bool (decide (IsMap M K))) ∧ w = w' := by
  have HP := Lib.hid (perPage_any K w)
  have HM := Lib.hid (maskOf_any (perV K) w)
  rw [maskV_per hK] at HM
  have hv := perV_nat hK
  have hl := lim_le hK
  have hy : 0 < 2 ^ (perV K).toNat := Nat.pow_pos (by omega)
  have HB := Lib.hid (u32_andNot_nat M (2 ^ (perV K).toNat - 1) hM (by omega))
  have HZ := Lib.hid (andNot_zero (p := (perV K).toNat) hM (by omega))
  generalize hN : M &&& (4294967295 - (2 ^ (perV K).toNat - 1)) = N at *
  by_cases h0 : M = 0
  · have HD : Hid (decide (IsMap M K) = false) := decide_eq_false (fun h => h.1 h0)
    have h0' : (M : Int) = 0 := by omega
    clear hK hv hl hy HB HZ hN h0 hM
    generalize (M : Int) = m at *
    subst h0'
    go_enter Try.func49, Try.ntmps49
    go_wp2
    go_ret
    exact ⟨by rw [HD.out]; rfl, rfl⟩
  · have h0' : ¬ (M : Int) = 0 := by omega
    have HD : Hid (decide (IsMap M K) = decide (N = 0)) := by
      show _ = _
      rw [decide_eq_decide, HZ.out]
      exact ⟨fun h => h.2, fun h => ⟨h0, h⟩⟩
    clear hK hv hl hy HZ hN h0 hM
    go_enter Try.func49, Try.ntmps49
    go_wp2_with fail
    refine HP.out.mono ?_
    rintro e w1 ⟨rfl, rfl⟩
    go_wp2_with fail
    refine HM.out.mono ?_
    rintro e w1 ⟨rfl, rfl⟩
    go_wp2
    go_ret
    refine ⟨?_, rfl⟩
    rw [HD.out]
    show Ending.returned (.bool ((M : Int) != 0 && bits .andNot .u32 (M : Int) ((2 ^ (perV K).toNat - 1 : Nat) : Int) == 0)) = _
    rw [HB.out, bne_iff_ne.2 h0', Bool.true_and]
    congr 2
    rw [Bool.eq_iff_iff]
    simp

set_option maxHeartbeats 1000000 in
theorem ctlOk_any (S K : Int) (M : Nat) (R : Int) (w : World) (hM : M < 4294967296) :
    Calls Try.prog 44 #[.agg #[.int .i64 S, .int .i64 K, .int .u32 (M : Int), .int .i64 R]] w fun e w' => e = .returned (.bool (decide (CtlGood S K M R))) ∧ Below w.heap.size w w' := by
  have HM := Lib.hid hM
  clear hM
  by_cases s0 : S = 0 ∨ S = 3
  · have HD : Hid (decide (CtlGood S K M R) = decide (K = 0 ∧ M = 0 ∧ R = 0)) := decide_eq_decide.2 (good_free s0)
    rcases s0 with rfl | rfl
    all_goals
      go_enter Try.func44, Try.ntmps44
      go_wp2
      all_goals
        go_ret
        exact ⟨by rw [HD.out]; simp [*], (Below.refl _ _).alloc (Nat.le_refl _) _⟩
  · by_cases s1 : S = 1
    · subst s1
      clear s0
      have HD : Hid (decide (CtlGood 1 K M R) = decide (IsClass K ∧ IsMap M K ∧ R = 0)) := decide_eq_decide.2 good_page
      by_cases hK : IsClass K
      · by_cases hm : IsMap M K
        · have HE : Hid (decide (CtlGood 1 K M R) = decide (R = 0)) := HD.out.trans (by simp [hK, hm])
          have HC : Hid (∀ w, Calls Try.prog 46 #[.int .i64 K] w fun e w' => e = .returned (.bool true) ∧ w = w') := fun w => by have := isClass_any K w; rwa [decide_eq_true hK] at this
          have HI : Hid (∀ w, Calls Try.prog 49 #[.int .u32 (M : Int), .int .i64 K] w fun e w' => e = .returned (.bool true) ∧ w = w') := fun w => by have := isMapOf_any M K w HM.out hK; rwa [decide_eq_true hm] at this
          clear hK hm HD
          go_enter Try.func44, Try.ntmps44
          go_wp2_with fail
          refine (HC.out _).mono ?_
          rintro e w1 ⟨rfl, rfl⟩
          go_wp2_with fail
          refine (HI.out _).mono ?_
          rintro e w1 ⟨rfl, rfl⟩
          go_wp2
          all_goals
            go_ret
            exact ⟨by rw [HE.out]; first | (simp [*]; done) | (simp [*]; rw [Bool.eq_iff_iff]; simp), (Below.refl _ _).alloc (Nat.le_refl _) _⟩
        · have HE : Hid (decide (CtlGood 1 K M R) = false) := HD.out.trans (by simp [hm])
          have HC : Hid (∀ w, Calls Try.prog 46 #[.int .i64 K] w fun e w' => e = .returned (.bool true) ∧ w = w') := fun w => by have := isClass_any K w; rwa [decide_eq_true hK] at this
          have HI : Hid (∀ w, Calls Try.prog 49 #[.int .u32 (M : Int), .int .i64 K] w fun e w' => e = .returned (.bool false) ∧ w = w') := fun w => by have := isMapOf_any M K w HM.out hK; rwa [decide_eq_false hm] at this
          clear hK hm HD
          go_enter Try.func44, Try.ntmps44
          go_wp2_with fail
          refine (HC.out _).mono ?_
          rintro e w1 ⟨rfl, rfl⟩
          go_wp2_with fail
          refine (HI.out _).mono ?_
          rintro e w1 ⟨rfl, rfl⟩
          go_wp2
          all_goals
            go_ret
            exact ⟨by rw [HE.out]; simp, (Below.refl _ _).alloc (Nat.le_refl _) _⟩
      · have HE : Hid (decide (CtlGood 1 K M R) = false) := HD.out.trans (by simp [hK])
        have HC : Hid (∀ w, Calls Try.prog 46 #[.int .i64 K] w fun e w' => e = .returned (.bool false) ∧ w = w') := fun w => by have := isClass_any K w; rwa [decide_eq_false hK] at this
        clear hK HD
        go_enter Try.func44, Try.ntmps44
        go_wp2_with fail
        refine (HC.out _).mono ?_
        rintro e w1 ⟨rfl, rfl⟩
        go_wp2
        all_goals
          go_ret
          exact ⟨by rw [HE.out]; simp, (Below.refl _ _).alloc (Nat.le_refl _) _⟩
    · by_cases s2 : S = 2
      · subst s2
        clear s0 s1
        have HD : Hid (decide (CtlGood 2 K M R) = decide (K = 0 ∧ M = 0 ∧ IsRun R)) := decide_eq_decide.2 good_head
        by_cases hR : IsRun R
        · have HE : Hid (decide (CtlGood 2 K M R) = decide (K = 0 ∧ M = 0)) := HD.out.trans (by simp [hR])
          have HC : Hid (∀ w, Calls Try.prog 50 #[.int .i64 R] w fun e w' => e = .returned (.bool true) ∧ w = w') := fun w => by have := isRun_any R w; rwa [decide_eq_true hR] at this
          clear hR HD
          go_enter Try.func44, Try.ntmps44
          go_wp2_with fail
          refine (HC.out _).mono ?_
          rintro e w1 ⟨rfl, rfl⟩
          go_wp2
          all_goals
            go_ret
            exact ⟨by rw [HE.out]; first | (simp [*]; done) | (simp [*]; rw [Bool.eq_iff_iff]; simp), (Below.refl _ _).alloc (Nat.le_refl _) _⟩
        · have HE : Hid (decide (CtlGood 2 K M R) = false) := HD.out.trans (by simp [hR])
          have HC : Hid (∀ w, Calls Try.prog 50 #[.int .i64 R] w fun e w' => e = .returned (.bool false) ∧ w = w') := fun w => by have := isRun_any R w; rwa [decide_eq_false hR] at this
          clear hR HD
          go_enter Try.func44, Try.ntmps44
          go_wp2_with fail
          refine (HC.out _).mono ?_
          rintro e w1 ⟨rfl, rfl⟩
          go_wp2
          all_goals
            go_ret
            exact ⟨by rw [HE.out]; simp, (Below.refl _ _).alloc (Nat.le_refl _) _⟩
      · have HE : Hid (decide (CtlGood S K M R) = false) := decide_eq_false (good_none s0 s1 s2)
        have t0 : ¬ S = 0 := fun h => s0 (.inl h)
        have t3 : ¬ S = 3 := fun h => s0 (.inr h)
        clear s0
        go_enter Try.func44, Try.ntmps44
        go_wp2
        all_goals
          go_ret
          exact ⟨by rw [HE.out]; simp, (Below.refl _ _).alloc (Nat.le_refl _) _⟩

end Go.Proofs.Ytefcaeldkdbjdaa
