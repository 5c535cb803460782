/- The contract of the model's CtlOk. -/
import Derived.Test.YtefcaeldkdbjdaaCtlM
import Derived.Deep.RegionHeld3
import Derived.BigQuiet
namespace Go.Proofs.Ytefcaeldkdbjdaa
open Go.RowKit

theorem dec_head {K : Int} {M : Nat} {R : Int} : decide (CtlGood 2 K M R) = decide (K = 0 ∧ M = 0 ∧ IsRun R) := decide_eq_decide.2 good_head
theorem below_drewN {b k : Nat} {w w' : World} (h : Below b w w') : Below b w (w'.drewN k) := h.trans ⟨rfl, rfl, rfl, Nat.le_refl _, fun _ _ => rfl⟩

set_option maxHeartbeats 2000000 in
theorem sCtlOk_any (S K : Int) (M : Nat) (R : Int) (w : World) (hM : M < 4294967296) :
    Calls Try.prog 41 #[.agg #[.int .i64 S, .int .i64 K, .int .u32 (M : Int), .int .i64 R]] w fun e w' => e = .returned (.bool (decide (CtlGood S K M R))) ∧ Below w.heap.size w w' := by
  have HM := Lib.hid hM
  clear hM
  by_cases s0 : S = 0 ∨ S = 3
  · have HD : Hid (decide (CtlGood S K M R) = decide (K = 0 ∧ M = 0 ∧ R = 0)) := decide_eq_decide.2 (good_free s0)
    rcases s0 with rfl | rfl
    all_goals
      go_enter Try.func41, Try.ntmps41
      go_wp2
      all_goals
        go_ret
        exact ⟨by rw [HD.out]; first | (simp [*]; done) | (simp [*]; rw [Bool.eq_iff_iff]; simp), (Below.refl _ _).alloc (Nat.le_refl _) _⟩
  · by_cases s1 : S = 1
    · subst s1
      clear s0
      have HD : Hid (decide (CtlGood 1 K M R) = decide (IsClass K ∧ IsMap M K ∧ R = 0)) := decide_eq_decide.2 good_page
      have HW : Hid (∀ t W, Below (w.heap.size + 1) (w.alloc (.cells #[.int .i64 1, .int .i64 K, .int .u32 (M : Int), .int .i64 R] t)) W → W.cell? ⟨w.heap.size, 1, none⟩ = some (.int .i64 K) ∧ W.cell? ⟨w.heap.size, 2, none⟩ = some (.int .u32 (M : Int)) ∧ W.cell? ⟨w.heap.size, 3, none⟩ = some (.int .i64 R)) := fun t W hW =>
        ⟨(hW.cell (p := ⟨w.heap.size, 1, none⟩) (by show w.heap.size < _; omega)).trans ((cell_of_row _ w.heap.size 1 _ _ (0, 0) (heap_alloc_new w _)).trans rfl),
          (hW.cell (p := ⟨w.heap.size, 2, none⟩) (by show w.heap.size < _; omega)).trans ((cell_of_row _ w.heap.size 2 _ _ (0, 0) (heap_alloc_new w _)).trans rfl),
          (hW.cell (p := ⟨w.heap.size, 3, none⟩) (by show w.heap.size < _; omega)).trans ((cell_of_row _ w.heap.size 3 _ _ (0, 0) (heap_alloc_new w _)).trans rfl)⟩
      have x0 := HW.out 45 _ (Below.refl _ _)
      have b0 : Hid (Below (w.heap.size + 1) (w.alloc (.cells #[.int .i64 1, .int .i64 K, .int .u32 (M : Int), .int .i64 R] 45)) (w.alloc (.cells #[.int .i64 1, .int .i64 K, .int .u32 (M : Int), .int .i64 R] 45)).drew) := (Below.refl _ _).drew
      have x0' := HW.out 45 _ b0.out
      have HC : Hid (∀ w, Calls Try.prog 29 #[.int .i64 K] w fun e w' => e = .returned (.bool (decide (IsClass K))) ∧ w = w') := fun w => sIsClass_any K w
      by_cases hK : IsClass K
      · rw [decide_eq_true hK] at HC
        by_cases h0 : M = 0
        · have HE : Hid (decide (CtlGood 1 K M R) = false) := HD.out.trans (by simp [IsMap, h0])
          subst h0
          have HQ : Hid (∀ W, Calls Try.prog 29 #[.int .i64 K] W fun e w' => e = .returned (.bool true) ∧ ∃ n, w' = W.drewN n) := fun W => (HC.out W).mono fun _ _ ⟨he, hw⟩ => ⟨he, 0, hw.symm⟩
          clear hK HD HM HW x0 x0' b0
          go_enter Try.func41, Try.ntmps41
          go_wp2_with fail
          go_quiet (first | (go_at_call 29; refine Calls.quiet_of (HQ.out _)))
          go_wp2
          all_goals
            go_ret
            exact ⟨by rw [HE.out]; simp, by repeat (first | exact Below.refl _ _ | refine Below.drew ?_ | refine below_drewN ?_ | refine Below.alloc ?_ (Nat.le_refl _) _)⟩
        · have h0' : ¬ (M : Int) = 0 := by omega
          have h1' : ((M : Int) != 0) = true := bne_iff_ne.2 h0'
          have hmap : IsMap M K ↔ highOf (onesTo M 32) < perV K := by
            rw [← (perV_nat hK).1, high_lt HM.out h0]
            exact ⟨fun h => h.2, fun h => ⟨h0, h⟩⟩
          have HH := Lib.hid (fun W => sHighest_any M W HM.out)
          have HP := Lib.hid (fun W => sPerPage_any K W)
          generalize highOf (onesTo M 32) = v at *
          generalize perV K = p at *
          have LH : Hid (∀ W, Below (w.heap.size + 1) (w.alloc (.cells #[.int .i64 1, .int .i64 K, .int .u32 (M : Int), .int .i64 R] 45)) W → Calls Try.prog 47 #[.int .u32 (M : Int)] W fun e w' => e = .returned (.int .i64 v) ∧ Hid (Below (w.heap.size + 1) (w.alloc (.cells #[.int .i64 1, .int .i64 K, .int .u32 (M : Int), .int .i64 R] 45)) w') ∧ (w'.cell? ⟨w.heap.size, 1, none⟩ = some (.int .i64 K) ∧ w'.cell? ⟨w.heap.size, 2, none⟩ = some (.int .u32 (M : Int)) ∧ w'.cell? ⟨w.heap.size, 3, none⟩ = some (.int .i64 R))) := fun W hW => (HH.out W).mono fun _ w' ⟨he, hb⟩ => by
            have hz := hW.size
            simp only [World.size_alloc] at hz
            have hb2 := hW.trans (hb.mono hz)
            exact ⟨he, hb2, HW.out _ _ hb2⟩
          clear HH
          by_cases hvp : v < p
          · have HE : Hid (decide (CtlGood 1 K M R) = decide (R = 0)) := HD.out.trans (by simp [hK, hmap, hvp])
            clear hK HD HM HW hmap h0
            go_enter Try.func41, Try.ntmps41
            go_wp2_with fail
            go_region_held3 (fun W => W.cell? ⟨w.heap.size, 1, none⟩ = some (.int .i64 K) ∧ W.cell? ⟨w.heap.size, 2, none⟩ = some (.int .u32 (M : Int)) ∧ W.cell? ⟨w.heap.size, 3, none⟩ = some (.int .i64 R))
              (first | exact x0 | exact x0' | exact x6)
              (first | (go_at_call 29; refine (HC.out _).mono ?_; rintro e w5 ⟨rfl, rfl⟩)
                     | (go_at_call 47; refine (LH.out _ b0.out).mono ?_; rintro e w6 ⟨rfl, b6, x6⟩)
                     | (go_at_call 30; refine (HP.out _).mono ?_; rintro e w7 ⟨rfl, rfl⟩))
            go_wp2
            all_goals
              go_ret
              exact ⟨by rw [HE.out]; first | (simp [*]; done) | (simp [*]; rw [Bool.eq_iff_iff]; simp), ((Below.refl _ _).alloc (Nat.le_refl _) _).trans (b6.out.mono (by omega))⟩
          · have HE : Hid (decide (CtlGood 1 K M R) = false) := HD.out.trans (by simp [hmap, hvp])
            have hvp' : decide (v < p) = false := decide_eq_false hvp
            clear hK HD HM hmap h0
            go_enter Try.func41, Try.ntmps41
            go_wp2_with fail
            first
              | (go_region_with
                  (first | (go_at_call 29; refine (HC.out _).mono ?_; rintro e w5 ⟨rfl, rfl⟩)
                         | (go_at_call 47; refine (LH.out _ b0.out).mono ?_; rintro e w6 ⟨rfl, b6, x6⟩)
                         | (go_at_call 30; refine (HP.out _).mono ?_; rintro e w7 ⟨rfl, rfl⟩)))
              | fail
            all_goals go_wp2
            all_goals
              go_ret
              exact ⟨by rw [HE.out]; rfl, ((Below.refl _ _).alloc (Nat.le_refl _) _).trans (b6.out.mono (by omega))⟩
      · have HE : Hid (decide (CtlGood 1 K M R) = false) := HD.out.trans (by simp [hK])
        rw [decide_eq_false hK] at HC
        have HQ : Hid (∀ W, Calls Try.prog 29 #[.int .i64 K] W fun e w' => e = .returned (.bool false) ∧ ∃ n, w' = W.drewN n) := fun W => (HC.out W).mono fun _ _ ⟨he, hw⟩ => ⟨he, 0, hw.symm⟩
        clear hK HD HM HW x0 x0' b0
        go_enter Try.func41, Try.ntmps41
        go_wp2_with fail
        go_quiet (first | (go_at_call 29; refine Calls.quiet_of (HQ.out _)))
        go_wp2
        all_goals
          go_ret
          exact ⟨by rw [HE.out]; simp, by repeat (first | exact Below.refl _ _ | refine Below.drew ?_ | refine below_drewN ?_ | refine Below.alloc ?_ (Nat.le_refl _) _)⟩
    · by_cases s2 : S = 2
      · subst s2
        clear s0 s1
        go_enter Try.func41, Try.ntmps41
        go_wp2
        all_goals
          go_ret
          exact ⟨by rw [dec_head]; first | (simp [IsRun, *]; done) | (simp [IsRun, *]; omega) | (simp [IsRun, *]; rw [Bool.eq_iff_iff]; simp; done) | (simp [IsRun, *]; trace_state; done), (Below.refl _ _).alloc (Nat.le_refl _) _⟩
      · have HE : Hid (decide (CtlGood S K M R) = false) := decide_eq_false (good_none s0 s1 s2)
        have t0 : ¬ S = 0 := fun h => s0 (.inl h)
        have t3 : ¬ S = 3 := fun h => s0 (.inr h)
        clear s0
        go_enter Try.func41, Try.ntmps41
        go_wp2
        all_goals
          go_ret
          exact ⟨by rw [HE.out]; simp, (Below.refl _ _).alloc (Nat.le_refl _) _⟩

end Go.Proofs.Ytefcaeldkdbjdaa
