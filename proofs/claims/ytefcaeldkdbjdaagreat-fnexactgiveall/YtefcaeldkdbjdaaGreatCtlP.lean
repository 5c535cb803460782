/- When a control state is valid, in plain numbers; the map's bits and the highest of them. -/
/- The contracts of the program's isRun, isMapOf and CtlOk. -/
/- The contracts of the program's bitsBetween at its four uses, CtlPack and CtlRead. -/
import Derived.Test.YtefcaeldkdbjdaaGreatClassW
import Derived.Test.YtefcaeldkdbjdaaGreatSLow
import Derived.Test.YtefcaeldkdbjdaaGreatOnes
namespace Go.Proofs.YtefcaeldkdbjdaaGreat
open Go.RowKit

/-- The run of a large block, and the map of a page. -/
def IsRun (r : Int) : Prop := 2 ≤ r ∧ r ≤ 16
instance (r : Int) : Decidable (IsRun r) := inferInstanceAs (Decidable (2 ≤ r ∧ r ≤ 16))
def IsMap (M : Nat) (K : Int) : Prop := M ≠ 0 ∧ M < 2 ^ (perV K).toNat
instance (M : Nat) (K : Int) : Decidable (IsMap M K) := inferInstanceAs (Decidable (_ ∧ _))
/-- A valid control state. -/
def CtlGood (S K : Int) (M : Nat) (R : Int) : Prop :=
  ((S = 0 ∨ S = 3) ∧ K = 0 ∧ M = 0 ∧ R = 0) ∨ (S = 1 ∧ IsClass K ∧ IsMap M K ∧ R = 0) ∨ (S = 2 ∧ K = 0 ∧ M = 0 ∧ IsRun R)
instance (S K : Int) (M : Nat) (R : Int) : Decidable (CtlGood S K M R) := inferInstanceAs (Decidable (_ ∨ _ ∨ _))
theorem good_free {S K : Int} {M : Nat} {R : Int} (h : S = 0 ∨ S = 3) : CtlGood S K M R ↔ K = 0 ∧ M = 0 ∧ R = 0 := by
  unfold CtlGood
  constructor
  · rintro (h | h | h)
    · exact h.2
    · omega
    · omega
  · exact fun k => .inl ⟨h, k⟩
theorem good_page {K : Int} {M : Nat} {R : Int} : CtlGood 1 K M R ↔ IsClass K ∧ IsMap M K ∧ R = 0 := by
  unfold CtlGood
  constructor
  · rintro (h | h | h)
    · omega
    · exact h.2
    · omega
  · exact fun k => .inr (.inl ⟨rfl, k⟩)
theorem good_head {K : Int} {M : Nat} {R : Int} : CtlGood 2 K M R ↔ K = 0 ∧ M = 0 ∧ IsRun R := by
  unfold CtlGood
  constructor
  · rintro (h | h | h)
    · omega
    · omega
    · exact h.2
  · exact fun k => .inr (.inr ⟨rfl, k⟩)
theorem good_none {S K : Int} {M : Nat} {R : Int} (h : ¬ (S = 0 ∨ S = 3)) (h1 : ¬ S = 1) (h2 : ¬ S = 2) : ¬ CtlGood S K M R := by
  unfold CtlGood
  rintro (h | h | h) <;> omega

theorem high_top (X : Nat) : ∀ n, (∀ k ∈ onesTo X n, (k : Int) ≤ highOf (onesTo X n)) ∧ (onesTo X n ≠ [] → ∃ m ∈ onesTo X n, highOf (onesTo X n) = m) := by
  intro n
  induction n with
  | zero => simp [onesTo_zero]
  | succ n ih =>
    by_cases h : X / 2 ^ n % 2 = 1
    · rw [onesTo_hit h, highOf_snoc]
      refine ⟨fun k hk => ?_, fun _ => ⟨n, by simp, rfl⟩⟩
      rcases List.mem_append.1 hk with hk | hk
      · have := onesTo_lt hk; omega
      · simp at hk; omega
    · rw [onesTo_miss h]; exact ih
theorem high_lt {X p : Nat} (hX : X < 4294967296) (h0 : X ≠ 0) : highOf (onesTo X 32) < (p : Int) ↔ X < 2 ^ p := by
  obtain ⟨j, hj⟩ := Nat.exists_testBit_of_ne_zero h0
  have hj32 : j < 32 := by
    refine Decidable.byContradiction fun h => ?_
    rw [Nat.testBit_lt_two_pow (Nat.lt_of_lt_of_le hX (Nat.pow_le_pow_right (n := 2) (by omega) (show 32 ≤ j by omega)))] at hj
    simp at hj
  have hmem : j ∈ onesTo X 32 := mem_ones.2 ⟨hj32, hj⟩
  obtain ⟨hall, hex⟩ := high_top X 32
  obtain ⟨m, hm, he⟩ := hex (fun h => by rw [h] at hmem; simp at hmem)
  rw [he]
  constructor
  · intro h
    refine Nat.lt_pow_two_of_testBit X fun i hi => ?_
    refine Decidable.byContradiction fun hb => ?_
    have hb : X.testBit i = true := by simpa using hb
    have hi32 : i < 32 := by
      refine Decidable.byContradiction fun h => ?_
      rw [Nat.testBit_lt_two_pow (Nat.lt_of_lt_of_le hX (Nat.pow_le_pow_right (n := 2) (by omega) (show 32 ≤ i by omega)))] at hb
      simp at hb
    have := hall i (mem_ones.2 ⟨hi32, hb⟩)
    rw [he] at this
    omega
  · intro h
    refine Decidable.byContradiction fun hb => ?_
    have := (mem_ones.1 hm).2
    rw [Nat.testBit_lt_two_pow (Nat.lt_of_lt_of_le h (Nat.pow_le_pow_right (n := 2) (by omega) (show p ≤ m by omega)))] at this
    simp at this
theorem andNot_zero {M p : Nat} (hM : M < 4294967296) (hp : p ≤ 32) : M &&& (4294967295 - (2 ^ p - 1)) = 0 ↔ M < 2 ^ p := by
  have h1 : 2 ^ p ≤ 2 ^ 32 := Nat.pow_le_pow_right (by omega) hp
  have h2 : 0 < 2 ^ p := Nat.pow_pos (by omega)
  have e : 4294967295 - (2 ^ p - 1) = 2 ^ 32 - ((2 ^ p - 1) + 1) := by omega
  have hb : ∀ i, (4294967295 - (2 ^ p - 1)).testBit i = (decide (i < 32) && !decide (i < p)) := fun i => by
    rw [e, Nat.testBit_two_pow_sub_succ (by omega), Nat.testBit_two_pow_sub_one]
  constructor
  · intro h
    refine Nat.lt_pow_two_of_testBit M fun i hi => ?_
    by_cases h32 : i < 32
    · have h3 : (M &&& (4294967295 - (2 ^ p - 1))).testBit i = false := by rw [h]; simp
      rw [Nat.testBit_and, hb] at h3
      have h4 : ¬ i < p := by omega
      simpa [h32, h4] using h3
    · exact Nat.testBit_lt_two_pow (Nat.lt_of_lt_of_le hM (Nat.pow_le_pow_right (n := 2) (by omega) (show 32 ≤ i by omega)))
  · intro h
    refine Nat.eq_of_testBit_eq fun i => ?_
    rw [Nat.testBit_and, hb, Nat.zero_testBit]
    by_cases hi : i < p
    · simp [hi]
    · rw [Nat.testBit_lt_two_pow (Nat.lt_of_lt_of_le h (Nat.pow_le_pow_right (n := 2) (by omega) (show p ≤ i by omega)))]
      rfl
theorem perV_nat {K : Int} (h : IsClass K) : ((perV K).toNat : Int) = perV K ∧ (perV K).toNat ≤ 16 ∧ 1 ≤ perV K := by
  rcases five h with rfl | rfl | rfl | rfl | rfl <;> decide
theorem maskV_per {K : Int} (h : IsClass K) : maskV (perV K) = 2 ^ (perV K).toNat - 1 := by
  rcases five h with rfl | rfl | rfl | rfl | rfl <;> rfl
theorem lim_le {K : Int} (h : IsClass K) : 2 ^ (perV K).toNat ≤ 65536 := by
  rcases five h with rfl | rfl | rfl | rfl | rfl <;> decide

end Go.Proofs.YtefcaeldkdbjdaaGreat

namespace Go.Proofs.YtefcaeldkdbjdaaGreat
open Go.RowKit

set_option maxHeartbeats 400000 in
theorem isRun_any (r : Int) (w : World) :
    Calls Tryz.prog 86 #[.int .i64 r] w fun e w' => e = .returned (.bool (decide (IsRun r))) ∧ w = w' := by
  by_cases h0 : 2 ≤ r
  · by_cases h1 : r ≤ 16
    · have hd : Hid (decide (IsRun r) = true) := decide_eq_true ⟨h0, h1⟩
      go_enter Tryz.func86, Tryz.ntmps86
      go_wp2
      go_ret
      exact ⟨by rw [hd.out]; rfl, rfl⟩
    · have hd : Hid (decide (IsRun r) = false) := decide_eq_false (fun h => h1 h.2)
      go_enter Tryz.func86, Tryz.ntmps86
      go_wp2
      go_ret
      exact ⟨by rw [hd.out]; rfl, rfl⟩
  · have hd : Hid (decide (IsRun r) = false) := decide_eq_false (fun h => h0 h.1)
    go_enter Tryz.func86, Tryz.ntmps86
    go_wp2
    go_ret
    exact ⟨by rw [hd.out]; rfl, rfl⟩

set_option maxHeartbeats 1000000 in
theorem isMapOf_any (M : Nat) (K : Int) (w : World) (hM : M < 4294967296) (hK : IsClass K) :
    Calls Tryz.prog 85 #[.int .u32 (M : Int), .int .i64 K] w fun e w' => e = .returned (.bool (decide (IsMap M K))) ∧ w = w' := by
  have HP := Lib.hid (perPage_any K w)
  have HM := Lib.hid (maskOf_any (perV K) w)
  rw [maskV_per hK] at HM
  have hv := perV_nat hK
  have hl := lim_le hK
  have hy : 0 < 2 ^ (perV K).toNat := Nat.pow_pos (by omega)
  have HB := Lib.hid (u32_andNot_nat M (2 ^ (perV K).toNat - 1) hM (by omega))
  have HZ := Lib.hid (andNot_zero (p := (perV K).toNat) hM (by omega))
  generalize hN : M &&& (4294967295 - (2 ^ (perV K).toNat - 1)) = N at *
  by_cases h0 : M = 0
  · have HD : Hid (decide (IsMap M K) = false) := decide_eq_false (fun h => h.1 h0)
    have h0' : (M : Int) = 0 := by omega
    clear hK hv hl hy HB HZ hN h0 hM
    generalize (M : Int) = m at *
    subst h0'
    go_enter Tryz.func85, Tryz.ntmps85
    go_wp2
    go_ret
    exact ⟨by rw [HD.out]; rfl, rfl⟩
  · have h0' : ¬ (M : Int) = 0 := by omega
    have HD : Hid (decide (IsMap M K) = decide (N = 0)) := by
      show _ = _
      rw [decide_eq_decide, HZ.out]
      exact ⟨fun h => h.2, fun h => ⟨h0, h⟩⟩
    clear hK hv hl hy HZ hN h0 hM
    go_enter Tryz.func85, Tryz.ntmps85
    go_wp2_with fail
    refine HP.out.mono ?_
    rintro e w1 ⟨rfl, rfl⟩
    go_wp2_with fail
    refine HM.out.mono ?_
    rintro e w1 ⟨rfl, rfl⟩
    go_wp2
    go_ret
    refine ⟨?_, rfl⟩
    rw [HD.out]
    show Ending.returned (.bool ((M : Int) != 0 && bits .andNot .u32 (M : Int) ((2 ^ (perV K).toNat - 1 : Nat) : Int) == 0)) = _
    rw [HB.out, bne_iff_ne.2 h0', Bool.true_and]
    congr 2
    rw [Bool.eq_iff_iff]
    simp

set_option maxHeartbeats 1000000 in
theorem ctlOk_any (S K : Int) (M : Nat) (R : Int) (w : World) (hM : M < 4294967296) :
    Calls Tryz.prog 76 #[.agg #[.int .i64 S, .int .i64 K, .int .u32 (M : Int), .int .i64 R]] w fun e w' => e = .returned (.bool (decide (CtlGood S K M R))) ∧ Below w.heap.size w w' := by
  have HM := Lib.hid hM
  clear hM
  by_cases s0 : S = 0 ∨ S = 3
  · have HD : Hid (decide (CtlGood S K M R) = decide (K = 0 ∧ M = 0 ∧ R = 0)) := decide_eq_decide.2 (good_free s0)
    rcases s0 with rfl | rfl
    all_goals
      go_enter Tryz.func76, Tryz.ntmps76
      go_wp2
      all_goals
        go_ret
        exact ⟨by rw [HD.out]; simp [*], (Below.refl _ _).alloc (Nat.le_refl _) _⟩
  · by_cases s1 : S = 1
    · subst s1
      clear s0
      have HD : Hid (decide (CtlGood 1 K M R) = decide (IsClass K ∧ IsMap M K ∧ R = 0)) := decide_eq_decide.2 good_page
      by_cases hK : IsClass K
      · by_cases hm : IsMap M K
        · have HE : Hid (decide (CtlGood 1 K M R) = decide (R = 0)) := HD.out.trans (by simp [hK, hm])
          have HC : Hid (∀ w, Calls Tryz.prog 77 #[.int .i64 K] w fun e w' => e = .returned (.bool true) ∧ w = w') := fun w => by have := isClass_any K w; rwa [decide_eq_true hK] at this
          have HI : Hid (∀ w, Calls Tryz.prog 85 #[.int .u32 (M : Int), .int .i64 K] w fun e w' => e = .returned (.bool true) ∧ w = w') := fun w => by have := isMapOf_any M K w HM.out hK; rwa [decide_eq_true hm] at this
          clear hK hm HD
          go_enter Tryz.func76, Tryz.ntmps76
          go_wp2_with fail
          refine (HC.out _).mono ?_
          rintro e w1 ⟨rfl, rfl⟩
          go_wp2_with fail
          refine (HI.out _).mono ?_
          rintro e w1 ⟨rfl, rfl⟩
          go_wp2
          all_goals
            go_ret
            exact ⟨by rw [HE.out]; first | (simp [*]; done) | (simp [*]; rw [Bool.eq_iff_iff]; simp), (Below.refl _ _).alloc (Nat.le_refl _) _⟩
        · have HE : Hid (decide (CtlGood 1 K M R) = false) := HD.out.trans (by simp [hm])
          have HC : Hid (∀ w, Calls Tryz.prog 77 #[.int .i64 K] w fun e w' => e = .returned (.bool true) ∧ w = w') := fun w => by have := isClass_any K w; rwa [decide_eq_true hK] at this
          have HI : Hid (∀ w, Calls Tryz.prog 85 #[.int .u32 (M : Int), .int .i64 K] w fun e w' => e = .returned (.bool false) ∧ w = w') := fun w => by have := isMapOf_any M K w HM.out hK; rwa [decide_eq_false hm] at this
          clear hK hm HD
          go_enter Tryz.func76, Tryz.ntmps76
          go_wp2_with fail
          refine (HC.out _).mono ?_
          rintro e w1 ⟨rfl, rfl⟩
          go_wp2_with fail
          refine (HI.out _).mono ?_
          rintro e w1 ⟨rfl, rfl⟩
          go_wp2
          all_goals
            go_ret
            exact ⟨by rw [HE.out]; simp, (Below.refl _ _).alloc (Nat.le_refl _) _⟩
      · have HE : Hid (decide (CtlGood 1 K M R) = false) := HD.out.trans (by simp [hK])
        have HC : Hid (∀ w, Calls Tryz.prog 77 #[.int .i64 K] w fun e w' => e = .returned (.bool false) ∧ w = w') := fun w => by have := isClass_any K w; rwa [decide_eq_false hK] at this
        clear hK HD
        go_enter Tryz.func76, Tryz.ntmps76
        go_wp2_with fail
        refine (HC.out _).mono ?_
        rintro e w1 ⟨rfl, rfl⟩
        go_wp2
        all_goals
          go_ret
          exact ⟨by rw [HE.out]; simp, (Below.refl _ _).alloc (Nat.le_refl _) _⟩
    · by_cases s2 : S = 2
      · subst s2
        clear s0 s1
        have HD : Hid (decide (CtlGood 2 K M R) = decide (K = 0 ∧ M = 0 ∧ IsRun R)) := decide_eq_decide.2 good_head
        by_cases hR : IsRun R
        · have HE : Hid (decide (CtlGood 2 K M R) = decide (K = 0 ∧ M = 0)) := HD.out.trans (by simp [hR])
          have HC : Hid (∀ w, Calls Tryz.prog 86 #[.int .i64 R] w fun e w' => e = .returned (.bool true) ∧ w = w') := fun w => by have := isRun_any R w; rwa [decide_eq_true hR] at this
          clear hR HD
          go_enter Tryz.func76, Tryz.ntmps76
          go_wp2_with fail
          refine (HC.out _).mono ?_
          rintro e w1 ⟨rfl, rfl⟩
          go_wp2
          all_goals
            go_ret
            exact ⟨by rw [HE.out]; first | (simp [*]; done) | (simp [*]; rw [Bool.eq_iff_iff]; simp), (Below.refl _ _).alloc (Nat.le_refl _) _⟩
        · have HE : Hid (decide (CtlGood 2 K M R) = false) := HD.out.trans (by simp [hR])
          have HC : Hid (∀ w, Calls Tryz.prog 86 #[.int .i64 R] w fun e w' => e = .returned (.bool false) ∧ w = w') := fun w => by have := isRun_any R w; rwa [decide_eq_false hR] at this
          clear hR HD
          go_enter Tryz.func76, Tryz.ntmps76
          go_wp2_with fail
          refine (HC.out _).mono ?_
          rintro e w1 ⟨rfl, rfl⟩
          go_wp2
          all_goals
            go_ret
            exact ⟨by rw [HE.out]; simp, (Below.refl _ _).alloc (Nat.le_refl _) _⟩
      · have HE : Hid (decide (CtlGood S K M R) = false) := decide_eq_false (good_none s0 s1 s2)
        have t0 : ¬ S = 0 := fun h => s0 (.inl h)
        have t3 : ¬ S = 3 := fun h => s0 (.inr h)
        clear s0
        go_enter Tryz.func76, Tryz.ntmps76
        go_wp2
        all_goals
          go_ret
          exact ⟨by rw [HE.out]; simp, (Below.refl _ _).alloc (Nat.le_refl _) _⟩

end Go.Proofs.YtefcaeldkdbjdaaGreat

namespace Go.Proofs.YtefcaeldkdbjdaaGreat
open Go.RowKit

/-- The word of a control state, and the fields of a word. -/
def packV (S K : Int) (M : Nat) (R : Int) : Nat := M + 65536 * K.toNat + 1048576 * S.toNat + 16777216 * R.toNat
def packA (S K : Int) (M : Nat) (R : Int) : Nat := if CtlGood S K M R then packV S K M R else 0
def stOf (X : Nat) : Nat := X / 1048576 % 16
def clOf (X : Nat) : Nat := X / 65536 % 16
def mpOf (X : Nat) : Nat := X % 65536
def rnOf (X : Nat) : Nat := X / 16777216

theorem and_st {X : Nat} (hX : X < 4294967296) : bits .and .u32 ((X : Int) / 1048576) 15 = ((stOf X : Nat) : Int) := by
  have h1 := u32_and_nat (X / 1048576) (2 ^ 4 - 1) (Nat.lt_of_le_of_lt (Nat.div_le_self _ _) hX) (by decide)
  rw [Nat.and_two_pow_sub_one_eq_mod] at h1
  have h2 : ((stOf X : Nat) : Int) = ((X / 1048576 % 2 ^ 4 : Nat) : Int) := by unfold stOf; omega
  rw [h2, ← h1]
  simp

set_option maxHeartbeats 1000000 in
theorem between_st (X : Nat) (w : World) (hX : X < 4294967296) :
    Calls Tryz.prog 75 #[.int .u32 (X : Int), .int .i64 20, .int .i64 24] w fun e w' => e = .returned (.int .u32 ((stOf X : Nat) : Int)) ∧ ∃ n, w' = w.drewN n := by
  have HM : Hid (∀ W, Calls Tryz.prog 84 #[.int .i64 4] W fun e w' => e = .returned (.int .u32 15) ∧ ∃ n, w' = W.drewN n) := fun W => (maskOf_any 4 W).mono fun _ _ ⟨he, hw⟩ => ⟨he, 0, hw.symm⟩
  have HA := Lib.hid (and_st hX)
  have x0 : (0 : Int) ≤ (X : Int) := by omega
  have x1 : (X : Int) < 4294967296 := by omega
  clear hX
  generalize (X : Int) = x at *
  go_enter Tryz.func75, Tryz.ntmps75
  go_wp2_with fail
  go_quiet (first | (go_at_call 84; refine Calls.quiet_of (HM.out _)))
  go_wp2
  go_ret
  exact ⟨by rw [← HA.out]; rfl, _, rfl⟩

theorem and_cl {X : Nat} (hX : X < 4294967296) : bits .and .u32 ((X : Int) / 65536) 15 = ((clOf X : Nat) : Int) := by
  have h1 := u32_and_nat (X / 65536) (2 ^ 4 - 1) (Nat.lt_of_le_of_lt (Nat.div_le_self _ _) hX) (by decide)
  rw [Nat.and_two_pow_sub_one_eq_mod] at h1
  have h2 : ((clOf X : Nat) : Int) = ((X / 65536 % 2 ^ 4 : Nat) : Int) := by unfold clOf; omega
  rw [h2, ← h1]
  simp

set_option maxHeartbeats 1000000 in
theorem between_cl (X : Nat) (w : World) (hX : X < 4294967296) :
    Calls Tryz.prog 75 #[.int .u32 (X : Int), .int .i64 16, .int .i64 20] w fun e w' => e = .returned (.int .u32 ((clOf X : Nat) : Int)) ∧ ∃ n, w' = w.drewN n := by
  have HM : Hid (∀ W, Calls Tryz.prog 84 #[.int .i64 4] W fun e w' => e = .returned (.int .u32 15) ∧ ∃ n, w' = W.drewN n) := fun W => (maskOf_any 4 W).mono fun _ _ ⟨he, hw⟩ => ⟨he, 0, hw.symm⟩
  have HA := Lib.hid (and_cl hX)
  have x0 : (0 : Int) ≤ (X : Int) := by omega
  have x1 : (X : Int) < 4294967296 := by omega
  clear hX
  generalize (X : Int) = x at *
  go_enter Tryz.func75, Tryz.ntmps75
  go_wp2_with fail
  go_quiet (first | (go_at_call 84; refine Calls.quiet_of (HM.out _)))
  go_wp2
  go_ret
  exact ⟨by rw [← HA.out]; rfl, _, rfl⟩

theorem and_mp {X : Nat} (hX : X < 4294967296) : bits .and .u32 ((X : Int)) 65535 = ((mpOf X : Nat) : Int) := by
  have h1 := u32_and_nat (X / 1) (2 ^ 16 - 1) (Nat.lt_of_le_of_lt (Nat.div_le_self _ _) hX) (by decide)
  rw [Nat.and_two_pow_sub_one_eq_mod] at h1
  have h2 : ((mpOf X : Nat) : Int) = ((X / 1 % 2 ^ 16 : Nat) : Int) := by unfold mpOf; omega
  rw [h2, ← h1]
  simp

set_option maxHeartbeats 1000000 in
theorem between_mp (X : Nat) (w : World) (hX : X < 4294967296) :
    Calls Tryz.prog 75 #[.int .u32 (X : Int), .int .i64 0, .int .i64 16] w fun e w' => e = .returned (.int .u32 ((mpOf X : Nat) : Int)) ∧ ∃ n, w' = w.drewN n := by
  have HM : Hid (∀ W, Calls Tryz.prog 84 #[.int .i64 16] W fun e w' => e = .returned (.int .u32 65535) ∧ ∃ n, w' = W.drewN n) := fun W => (maskOf_any 16 W).mono fun _ _ ⟨he, hw⟩ => ⟨he, 0, hw.symm⟩
  have HA := Lib.hid (and_mp hX)
  have x0 : (0 : Int) ≤ (X : Int) := by omega
  have x1 : (X : Int) < 4294967296 := by omega
  clear hX
  generalize (X : Int) = x at *
  go_enter Tryz.func75, Tryz.ntmps75
  go_wp2_with fail
  go_quiet (first | (go_at_call 84; refine Calls.quiet_of (HM.out _)))
  go_wp2
  go_ret
  exact ⟨by rw [← HA.out]; rfl, _, rfl⟩

theorem and_rn {X : Nat} (hX : X < 4294967296) : bits .and .u32 ((X : Int) / 16777216) 255 = ((rnOf X : Nat) : Int) := by
  have h1 := u32_and_nat (X / 16777216) (2 ^ 8 - 1) (Nat.lt_of_le_of_lt (Nat.div_le_self _ _) hX) (by decide)
  rw [Nat.and_two_pow_sub_one_eq_mod] at h1
  have h2 : ((rnOf X : Nat) : Int) = ((X / 16777216 % 2 ^ 8 : Nat) : Int) := by unfold rnOf; omega
  rw [h2, ← h1]
  simp

set_option maxHeartbeats 1000000 in
theorem between_rn (X : Nat) (w : World) (hX : X < 4294967296) :
    Calls Tryz.prog 75 #[.int .u32 (X : Int), .int .i64 24, .int .i64 32] w fun e w' => e = .returned (.int .u32 ((rnOf X : Nat) : Int)) ∧ ∃ n, w' = w.drewN n := by
  have HM : Hid (∀ W, Calls Tryz.prog 84 #[.int .i64 8] W fun e w' => e = .returned (.int .u32 255) ∧ ∃ n, w' = W.drewN n) := fun W => (maskOf_any 8 W).mono fun _ _ ⟨he, hw⟩ => ⟨he, 0, hw.symm⟩
  have HA := Lib.hid (and_rn hX)
  have x0 : (0 : Int) ≤ (X : Int) := by omega
  have x1 : (X : Int) < 4294967296 := by omega
  clear hX
  generalize (X : Int) = x at *
  go_enter Tryz.func75, Tryz.ntmps75
  go_wp2_with fail
  go_quiet (first | (go_at_call 84; refine Calls.quiet_of (HM.out _)))
  go_wp2
  go_ret
  exact ⟨by rw [← HA.out]; rfl, _, rfl⟩

theorem drewN_b {b k : Nat} {w w' : World} (h : Below b w w') : Below b w (w'.drewN k) := ⟨h.os, h.tape, h.output, h.size, h.block⟩
/-- A block of four cells: what it reads, and that it may be written. -/
theorem blk4 {w : World} {b : Nat} {v0 v1 v2 v3 : Value} {t : TypeId} (h : w.heap[b]? = some (.cells #[v0, v1, v2, v3] t (0, 0))) :
    (w.cell? ⟨b, 0, none⟩ = some v0 ∧ w.cell? ⟨b, 1, none⟩ = some v1 ∧ w.cell? ⟨b, 2, none⟩ = some v2 ∧ w.cell? ⟨b, 3, none⟩ = some v3) ∧
      (w.frozen? ⟨b, 0, none⟩ = false ∧ w.frozen? ⟨b, 1, none⟩ = false ∧ w.frozen? ⟨b, 2, none⟩ = false ∧ w.frozen? ⟨b, 3, none⟩ = false) :=
  ⟨⟨(cell_of_row w b 0 _ _ (0, 0) h).trans rfl, (cell_of_row w b 1 _ _ (0, 0) h).trans rfl, (cell_of_row w b 2 _ _ (0, 0) h).trans rfl, (cell_of_row w b 3 _ _ (0, 0) h).trans rfl⟩,
    by simp [World.frozen?, h], by simp [World.frozen?, h], by simp [World.frozen?, h], by simp [World.frozen?, h]⟩
/-- Two new blocks, in a later world. -/
theorem two_new {w w1 : World} {o1 o2 : Obj} {n : Nat} (h : Below (((w.alloc o1).drewN n).alloc o2).heap.size (((w.alloc o1).drewN n).alloc o2) w1) : w1.heap[w.heap.size]? = some o1 ∧ w1.heap[w.heap.size + 1]? = some o2 ∧ Below w.heap.size w w1 ∧ w.heap.size + 2 ≤ w1.heap.size := by
  have hz := h.size
  have e1 : (w.alloc o1).heap.size = w.heap.size + 1 := World.size_alloc w o1
  have e2 : (((w.alloc o1).drewN n).alloc o2).heap.size = w.heap.size + 1 + 1 := (World.size_alloc _ o2).trans (by show (w.alloc o1).heap.size + 1 = _; omega)
  refine ⟨?_, ?_, ?_, by omega⟩
  · rw [h.block _ (by omega)]
    refine (Below.heap_alloc _ o2 _ (by show _ < (w.alloc o1).heap.size; omega)).trans ?_
    exact heap_alloc_new w o1
  · rw [h.block _ (by omega)]
    have := heap_alloc_new ((w.alloc o1).drewN n) o2
    have e3 : ((w.alloc o1).drewN n).heap.size = w.heap.size + 1 := e1
    rwa [e3] at this
  · refine Below.trans ?_ (h.mono (by omega))
    exact ((drewN_b ((Below.refl _ _).alloc (Nat.le_refl _) _))).alloc (by show _ ≤ (w.alloc o1).heap.size; omega) _
theorem one_new {w w1 : World} {o1 : Obj} (h : Below (w.alloc o1).heap.size (w.alloc o1) w1) : w1.heap[w.heap.size]? = some o1 ∧ Below w.heap.size w w1 := by
  have e1 : (w.alloc o1).heap.size = w.heap.size + 1 := World.size_alloc w o1
  refine ⟨?_, ((Below.refl _ _).alloc (Nat.le_refl _) _).trans (h.mono (by omega))⟩
  rw [h.block _ (by omega)]
  exact heap_alloc_new w o1
/-- The valid control state of a word, or the zero value. -/
def GoodX (X : Nat) : Prop := CtlGood (stOf X) (clOf X) (mpOf X) (rnOf X)
instance (X : Nat) : Decidable (GoodX X) := inferInstanceAs (Decidable (CtlGood _ _ _ _))
def readN (X f : Nat) : Nat := if GoodX X then f else 0
def readV (X : Nat) : Array Value := #[.int .i64 (readN X (stOf X) : Int), .int .i64 (readN X (clOf X) : Int), .int .u32 (readN X (mpOf X) : Int), .int .i64 (readN X (rnOf X) : Int)]

set_option maxRecDepth 100000 in
set_option maxHeartbeats 1000000 in
theorem ctlRead_any (X : Nat) (w : World) (hX : X < 4294967296) :
    Calls Tryz.prog 65 #[.int .u32 (X : Int)] w fun e w' => e = .returned (.tuple #[.agg (readV X), .bool (decide (GoodX X))]) ∧ Below w.heap.size w w' := by
  have H1 := Lib.hid (fun W => between_st X W hX)
  have H2 := Lib.hid (fun W => between_cl X W hX)
  have H3 := Lib.hid (fun W => between_mp X W hX)
  have H4 := Lib.hid (fun W => between_rn X W hX)
  have hm : mpOf X < 65536 := Nat.mod_lt _ (by omega)
  have HO := Lib.hid (fun W => ctlOk_any (stOf X) (clOf X) (mpOf X) (rnOf X) W (by omega))
  have b1 : ((stOf X : Nat) : Int) < 16 := by unfold stOf; omega
  have b2 : ((clOf X : Nat) : Int) < 16 := by unfold clOf; omega
  have b4 : ((rnOf X : Nat) : Int) < 256 := by unfold rnOf; omega
  have b3 : ((mpOf X : Nat) : Int) < 65536 := by omega
  have hrd : readV X = #[.int .i64 (readN X (stOf X) : Int), .int .i64 (readN X (clOf X) : Int), .int .u32 (readN X (mpOf X) : Int), .int .i64 (readN X (rnOf X) : Int)] := rfl
  have hdd : decide (CtlGood (stOf X) (clOf X) (mpOf X) (rnOf X)) = decide (GoodX X) := rfl
  rw [hdd] at HO
  by_cases hg : GoodX X
  · rw [decide_eq_true hg] at HO ⊢
    simp only [readN, if_pos hg] at hrd
    rw [hrd]
    clear hm hrd hdd hg hX
    generalize stOf X = s at *
    generalize clOf X = k at *
    generalize mpOf X = m at *
    generalize rnOf X = r at *
    go_enter Tryz.func65, Tryz.ntmps65
    go_wp2_with fail
    refine (H1.out _).mono ?_
    rintro e w1 ⟨rfl, n1, rfl⟩
    go_wp2_with fail
    refine (H2.out _).mono ?_
    rintro e w1 ⟨rfl, n2, rfl⟩
    go_wp2_with fail
    refine (H3.out _).mono ?_
    rintro e w1 ⟨rfl, n3, rfl⟩
    go_wp2_with fail
    refine (H4.out _).mono ?_
    rintro e w1 ⟨rfl, n4, rfl⟩
    go_wp2_with fail
    refine (HO.out _).mono ?_
    rintro e w1 ⟨rfl, hb⟩
    obtain ⟨u1, u2, hb1, hz⟩ := two_new hb
    obtain ⟨⟨c0, c1, c2, c3⟩, f0, f1, f2, f3⟩ := blk4 u1
    obtain ⟨⟨d0, d1, d2, d3⟩, _⟩ := blk4 u2
    have HB := Lib.hid hb1
    clear u1 u2 hb hb1
    go_wp2
    refine bodyPost_ret (v := .tuple #[.agg #[.int .i64 (s : Int), .int .i64 (k : Int), .int .u32 (m : Int), .int .i64 (r : Int)], .bool true]) ?_ rfl ⟨rfl, ?_⟩
    · have hres : Tryz.f65.results = #[.cell 2 74, .tmp 3] := by kernel_rfl
      rw [results_cell_tmp hres]
      go_simp
    · exact (by repeat (first | exact Below.refl _ _ | refine Below.drew ?_ | refine Below.setCell ?_ (by first | omega | (simp; done) | (simp; omega) | (simp [*]; done)) _ | refine Below.alloc ?_ (by first | omega | (simp; done) | (simp; omega) | (simp [*]; done)) _ | refine Below.trans ?_ (Below.mono (HB.out) (by first | omega | (simp; done) | (simp; omega) | (simp [*]; done)))))
  · rw [decide_eq_false hg] at HO ⊢
    simp only [readN, if_neg hg] at hrd
    rw [hrd]
    clear hm hrd hdd hg hX
    generalize stOf X = s at *
    generalize clOf X = k at *
    generalize mpOf X = m at *
    generalize rnOf X = r at *
    go_enter Tryz.func65, Tryz.ntmps65
    go_wp2_with fail
    refine (H1.out _).mono ?_
    rintro e w1 ⟨rfl, n1, rfl⟩
    go_wp2_with fail
    refine (H2.out _).mono ?_
    rintro e w1 ⟨rfl, n2, rfl⟩
    go_wp2_with fail
    refine (H3.out _).mono ?_
    rintro e w1 ⟨rfl, n3, rfl⟩
    go_wp2_with fail
    refine (H4.out _).mono ?_
    rintro e w1 ⟨rfl, n4, rfl⟩
    go_wp2_with fail
    refine (HO.out _).mono ?_
    rintro e w1 ⟨rfl, hb⟩
    obtain ⟨u1, u2, hb1, hz⟩ := two_new hb
    obtain ⟨⟨c0, c1, c2, c3⟩, f0, f1, f2, f3⟩ := blk4 u1
    obtain ⟨⟨d0, d1, d2, d3⟩, _⟩ := blk4 u2
    have HB := Lib.hid hb1
    clear u1 u2 hb hb1
    go_wp2
    refine bodyPost_ret (v := .tuple #[.agg #[.int .i64 0, .int .i64 0, .int .u32 0, .int .i64 0], .bool false]) ?_ rfl ⟨rfl, ?_⟩
    · have hres : Tryz.f65.results = #[.cell 2 74, .tmp 3] := by kernel_rfl
      rw [results_cell_tmp hres]
      go_simp
    · exact (by repeat (first | exact Below.refl _ _ | refine Below.drew ?_ | refine Below.setCell ?_ (by first | omega | (simp; done) | (simp; omega) | (simp [*]; done)) _ | refine Below.alloc ?_ (by first | omega | (simp; done) | (simp; omega) | (simp [*]; done)) _ | refine Below.trans ?_ (Below.mono (HB.out) (by first | omega | (simp; done) | (simp; omega) | (simp [*]; done)))))

theorem or_page {M c : Nat} (hM : M < 65536) (hc : c % 65536 = 0) (hc2 : c < 1048576) : bits .or .u32 (bits .or .u32 (bits .or .u32 (M : Int) (c : Int)) 1048576) 0 = ((M + c + 1048576 : Nat) : Int) := by
  obtain ⟨k, rfl⟩ : ∃ k, c = 2 ^ 16 * k := ⟨c / 65536, by omega⟩
  have e1 := Nat.two_pow_add_eq_or_of_lt (i := 16) (a := k) (b := M) (by omega)
  have e2 := Nat.two_pow_add_eq_or_of_lt (i := 20) (a := 1) (b := 2 ^ 16 * k + M) (by omega)
  rw [u32_or_nat M (2 ^ 16 * k) (by omega) (by omega), Nat.or_comm, ← e1]
  have h2 := u32_or_nat (2 ^ 16 * k + M) 1048576 (by omega) (by omega)
  have h2' : bits .or .u32 ((2 ^ 16 * k + M : Nat) : Int) 1048576 = ((2 ^ 20 * 1 + (2 ^ 16 * k + M) : Nat) : Int) := by rw [e2, Nat.or_comm]; exact h2
  rw [h2']
  have h3 := u32_or_nat (2 ^ 20 * 1 + (2 ^ 16 * k + M)) 0 (by omega) (by omega)
  rw [Nat.or_zero] at h3
  have h4 : bits .or .u32 ((2 ^ 20 * 1 + (2 ^ 16 * k + M) : Nat) : Int) 0 = ((2 ^ 20 * 1 + (2 ^ 16 * k + M) : Nat) : Int) := h3
  rw [h4]
  omega
theorem packA_good {S K : Int} {M : Nat} {R : Int} (h : CtlGood S K M R) : packA S K M R = packV S K M R := if_pos h
theorem packA_bad {S K : Int} {M : Nat} {R : Int} (h : ¬ CtlGood S K M R) : packA S K M R = 0 := if_neg h
theorem run15 {R : Int} (h : IsRun R) : R = 2 ∨ R = 3 ∨ R = 4 ∨ R = 5 ∨ R = 6 ∨ R = 7 ∨ R = 8 ∨ R = 9 ∨ R = 10 ∨ R = 11 ∨ R = 12 ∨ R = 13 ∨ R = 14 ∨ R = 15 ∨ R = 16 := by unfold IsRun at h; omega

set_option maxHeartbeats 4000000 in
theorem ctlPack_any (S K : Int) (M : Nat) (R : Int) (w : World) (hM : M < 4294967296) :
    Calls Tryz.prog 96 #[.agg #[.int .i64 S, .int .i64 K, .int .u32 (M : Int), .int .i64 R]] w fun e w' => e = .returned (.tuple #[.int .u32 (packA S K M R : Int), .bool (decide (CtlGood S K M R))]) ∧ Below w.heap.size w w' := by
  have HO := Lib.hid (fun W => ctlOk_any S K M R W hM)
  by_cases hg : CtlGood S K M R
  · rw [decide_eq_true hg] at HO ⊢
    have HV := Lib.hid (packA_good hg)
    rcases hg with ⟨hs, rfl, rfl, rfl⟩ | ⟨rfl, hk, hm, rfl⟩ | ⟨rfl, rfl, rfl, hr⟩
    · rcases hs with rfl | rfl
      · have HW : Hid ((packA 0 0 0 0 : Int) = 0) := by
          show _ = _
          rw [HV.out]; simp [packV]
        clear hM
        go_enter Tryz.func96, Tryz.ntmps96
        go_wp2_with fail
        refine (HO.out _).mono ?_
        rintro e w1 ⟨rfl, hb⟩
        obtain ⟨u1, hb1⟩ := one_new hb
        obtain ⟨⟨c0, c1, c2, c3⟩, f0, f1, f2, f3⟩ := blk4 u1
        have HB := Lib.hid hb1
        clear u1 hb hb1
        go_wp2
        go_ret2
        exact ⟨by rw [HW.out]; rfl, HB.out⟩
      · have HW : Hid ((packA 3 0 0 0 : Int) = 3145728) := by
          show _ = _
          rw [HV.out]; simp [packV]
        clear hM
        go_enter Tryz.func96, Tryz.ntmps96
        go_wp2_with fail
        refine (HO.out _).mono ?_
        rintro e w1 ⟨rfl, hb⟩
        obtain ⟨u1, hb1⟩ := one_new hb
        obtain ⟨⟨c0, c1, c2, c3⟩, f0, f1, f2, f3⟩ := blk4 u1
        have HB := Lib.hid hb1
        clear u1 hb hb1
        go_wp2
        go_ret2
        exact ⟨by rw [HW.out]; rfl, HB.out⟩
    · have hm1 : M < 65536 := Nat.lt_of_lt_of_le hm.2 (lim_le hk)
      have HP := Lib.hid (fun c h1 h2 => or_page (M := M) (c := c) hm1 h1 h2)
      rcases five hk with rfl | rfl | rfl | rfl | rfl
      · have HW : Hid ((packA 1 0 M 0 : Int) = bits .or .u32 (bits .or .u32 (bits .or .u32 (M : Int) 0) 1048576) 0) := by
          show _ = _
          have h1 := HP.out 0 (by decide) (by decide)
          rw [HV.out, show packV 1 0 M 0 = M + 0 + 1048576 by unfold packV; omega, ← h1]
          simp
        clear hk hm hM hm1 HP
        go_enter Tryz.func96, Tryz.ntmps96
        go_wp2_with fail
        refine (HO.out _).mono ?_
        rintro e w1 ⟨rfl, hb⟩
        obtain ⟨u1, hb1⟩ := one_new hb
        obtain ⟨⟨c0, c1, c2, c3⟩, f0, f1, f2, f3⟩ := blk4 u1
        have HB := Lib.hid hb1
        clear u1 hb hb1
        go_wp2
        go_ret2
        exact ⟨by rw [HW.out]; rfl, HB.out⟩
      · have HW : Hid ((packA 1 1 M 0 : Int) = bits .or .u32 (bits .or .u32 (bits .or .u32 (M : Int) 65536) 1048576) 0) := by
          show _ = _
          have h1 := HP.out 65536 (by decide) (by decide)
          rw [HV.out, show packV 1 1 M 0 = M + 65536 + 1048576 by unfold packV; omega, ← h1]
          simp
        clear hk hm hM hm1 HP
        go_enter Tryz.func96, Tryz.ntmps96
        go_wp2_with fail
        refine (HO.out _).mono ?_
        rintro e w1 ⟨rfl, hb⟩
        obtain ⟨u1, hb1⟩ := one_new hb
        obtain ⟨⟨c0, c1, c2, c3⟩, f0, f1, f2, f3⟩ := blk4 u1
        have HB := Lib.hid hb1
        clear u1 hb hb1
        go_wp2
        go_ret2
        exact ⟨by rw [HW.out]; rfl, HB.out⟩
      · have HW : Hid ((packA 1 2 M 0 : Int) = bits .or .u32 (bits .or .u32 (bits .or .u32 (M : Int) 131072) 1048576) 0) := by
          show _ = _
          have h1 := HP.out 131072 (by decide) (by decide)
          rw [HV.out, show packV 1 2 M 0 = M + 131072 + 1048576 by unfold packV; omega, ← h1]
          simp
        clear hk hm hM hm1 HP
        go_enter Tryz.func96, Tryz.ntmps96
        go_wp2_with fail
        refine (HO.out _).mono ?_
        rintro e w1 ⟨rfl, hb⟩
        obtain ⟨u1, hb1⟩ := one_new hb
        obtain ⟨⟨c0, c1, c2, c3⟩, f0, f1, f2, f3⟩ := blk4 u1
        have HB := Lib.hid hb1
        clear u1 hb hb1
        go_wp2
        go_ret2
        exact ⟨by rw [HW.out]; rfl, HB.out⟩
      · have HW : Hid ((packA 1 3 M 0 : Int) = bits .or .u32 (bits .or .u32 (bits .or .u32 (M : Int) 196608) 1048576) 0) := by
          show _ = _
          have h1 := HP.out 196608 (by decide) (by decide)
          rw [HV.out, show packV 1 3 M 0 = M + 196608 + 1048576 by unfold packV; omega, ← h1]
          simp
        clear hk hm hM hm1 HP
        go_enter Tryz.func96, Tryz.ntmps96
        go_wp2_with fail
        refine (HO.out _).mono ?_
        rintro e w1 ⟨rfl, hb⟩
        obtain ⟨u1, hb1⟩ := one_new hb
        obtain ⟨⟨c0, c1, c2, c3⟩, f0, f1, f2, f3⟩ := blk4 u1
        have HB := Lib.hid hb1
        clear u1 hb hb1
        go_wp2
        go_ret2
        exact ⟨by rw [HW.out]; rfl, HB.out⟩
      · have HW : Hid ((packA 1 4 M 0 : Int) = bits .or .u32 (bits .or .u32 (bits .or .u32 (M : Int) 262144) 1048576) 0) := by
          show _ = _
          have h1 := HP.out 262144 (by decide) (by decide)
          rw [HV.out, show packV 1 4 M 0 = M + 262144 + 1048576 by unfold packV; omega, ← h1]
          simp
        clear hk hm hM hm1 HP
        go_enter Tryz.func96, Tryz.ntmps96
        go_wp2_with fail
        refine (HO.out _).mono ?_
        rintro e w1 ⟨rfl, hb⟩
        obtain ⟨u1, hb1⟩ := one_new hb
        obtain ⟨⟨c0, c1, c2, c3⟩, f0, f1, f2, f3⟩ := blk4 u1
        have HB := Lib.hid hb1
        clear u1 hb hb1
        go_wp2
        go_ret2
        exact ⟨by rw [HW.out]; rfl, HB.out⟩
    · rcases run15 hr with rfl | rfl | rfl | rfl | rfl | rfl | rfl | rfl | rfl | rfl | rfl | rfl | rfl | rfl | rfl
      · have HW : Hid ((packA 2 0 0 2 : Int) = 35651584) := by
          show _ = _
          rw [HV.out]; simp [packV]
        clear hM hr
        go_enter Tryz.func96, Tryz.ntmps96
        go_wp2_with fail
        refine (HO.out _).mono ?_
        rintro e w1 ⟨rfl, hb⟩
        obtain ⟨u1, hb1⟩ := one_new hb
        obtain ⟨⟨c0, c1, c2, c3⟩, f0, f1, f2, f3⟩ := blk4 u1
        have HB := Lib.hid hb1
        clear u1 hb hb1
        go_wp2
        go_ret2
        exact ⟨by rw [HW.out]; rfl, HB.out⟩
      · have HW : Hid ((packA 2 0 0 3 : Int) = 52428800) := by
          show _ = _
          rw [HV.out]; simp [packV]
        clear hM hr
        go_enter Tryz.func96, Tryz.ntmps96
        go_wp2_with fail
        refine (HO.out _).mono ?_
        rintro e w1 ⟨rfl, hb⟩
        obtain ⟨u1, hb1⟩ := one_new hb
        obtain ⟨⟨c0, c1, c2, c3⟩, f0, f1, f2, f3⟩ := blk4 u1
        have HB := Lib.hid hb1
        clear u1 hb hb1
        go_wp2
        go_ret2
        exact ⟨by rw [HW.out]; rfl, HB.out⟩
      · have HW : Hid ((packA 2 0 0 4 : Int) = 69206016) := by
          show _ = _
          rw [HV.out]; simp [packV]
        clear hM hr
        go_enter Tryz.func96, Tryz.ntmps96
        go_wp2_with fail
        refine (HO.out _).mono ?_
        rintro e w1 ⟨rfl, hb⟩
        obtain ⟨u1, hb1⟩ := one_new hb
        obtain ⟨⟨c0, c1, c2, c3⟩, f0, f1, f2, f3⟩ := blk4 u1
        have HB := Lib.hid hb1
        clear u1 hb hb1
        go_wp2
        go_ret2
        exact ⟨by rw [HW.out]; rfl, HB.out⟩
      · have HW : Hid ((packA 2 0 0 5 : Int) = 85983232) := by
          show _ = _
          rw [HV.out]; simp [packV]
        clear hM hr
        go_enter Tryz.func96, Tryz.ntmps96
        go_wp2_with fail
        refine (HO.out _).mono ?_
        rintro e w1 ⟨rfl, hb⟩
        obtain ⟨u1, hb1⟩ := one_new hb
        obtain ⟨⟨c0, c1, c2, c3⟩, f0, f1, f2, f3⟩ := blk4 u1
        have HB := Lib.hid hb1
        clear u1 hb hb1
        go_wp2
        go_ret2
        exact ⟨by rw [HW.out]; rfl, HB.out⟩
      · have HW : Hid ((packA 2 0 0 6 : Int) = 102760448) := by
          show _ = _
          rw [HV.out]; simp [packV]
        clear hM hr
        go_enter Tryz.func96, Tryz.ntmps96
        go_wp2_with fail
        refine (HO.out _).mono ?_
        rintro e w1 ⟨rfl, hb⟩
        obtain ⟨u1, hb1⟩ := one_new hb
        obtain ⟨⟨c0, c1, c2, c3⟩, f0, f1, f2, f3⟩ := blk4 u1
        have HB := Lib.hid hb1
        clear u1 hb hb1
        go_wp2
        go_ret2
        exact ⟨by rw [HW.out]; rfl, HB.out⟩
      · have HW : Hid ((packA 2 0 0 7 : Int) = 119537664) := by
          show _ = _
          rw [HV.out]; simp [packV]
        clear hM hr
        go_enter Tryz.func96, Tryz.ntmps96
        go_wp2_with fail
        refine (HO.out _).mono ?_
        rintro e w1 ⟨rfl, hb⟩
        obtain ⟨u1, hb1⟩ := one_new hb
        obtain ⟨⟨c0, c1, c2, c3⟩, f0, f1, f2, f3⟩ := blk4 u1
        have HB := Lib.hid hb1
        clear u1 hb hb1
        go_wp2
        go_ret2
        exact ⟨by rw [HW.out]; rfl, HB.out⟩
      · have HW : Hid ((packA 2 0 0 8 : Int) = 136314880) := by
          show _ = _
          rw [HV.out]; simp [packV]
        clear hM hr
        go_enter Tryz.func96, Tryz.ntmps96
        go_wp2_with fail
        refine (HO.out _).mono ?_
        rintro e w1 ⟨rfl, hb⟩
        obtain ⟨u1, hb1⟩ := one_new hb
        obtain ⟨⟨c0, c1, c2, c3⟩, f0, f1, f2, f3⟩ := blk4 u1
        have HB := Lib.hid hb1
        clear u1 hb hb1
        go_wp2
        go_ret2
        exact ⟨by rw [HW.out]; rfl, HB.out⟩
      · have HW : Hid ((packA 2 0 0 9 : Int) = 153092096) := by
          show _ = _
          rw [HV.out]; simp [packV]
        clear hM hr
        go_enter Tryz.func96, Tryz.ntmps96
        go_wp2_with fail
        refine (HO.out _).mono ?_
        rintro e w1 ⟨rfl, hb⟩
        obtain ⟨u1, hb1⟩ := one_new hb
        obtain ⟨⟨c0, c1, c2, c3⟩, f0, f1, f2, f3⟩ := blk4 u1
        have HB := Lib.hid hb1
        clear u1 hb hb1
        go_wp2
        go_ret2
        exact ⟨by rw [HW.out]; rfl, HB.out⟩
      · have HW : Hid ((packA 2 0 0 10 : Int) = 169869312) := by
          show _ = _
          rw [HV.out]; simp [packV]
        clear hM hr
        go_enter Tryz.func96, Tryz.ntmps96
        go_wp2_with fail
        refine (HO.out _).mono ?_
        rintro e w1 ⟨rfl, hb⟩
        obtain ⟨u1, hb1⟩ := one_new hb
        obtain ⟨⟨c0, c1, c2, c3⟩, f0, f1, f2, f3⟩ := blk4 u1
        have HB := Lib.hid hb1
        clear u1 hb hb1
        go_wp2
        go_ret2
        exact ⟨by rw [HW.out]; rfl, HB.out⟩
      · have HW : Hid ((packA 2 0 0 11 : Int) = 186646528) := by
          show _ = _
          rw [HV.out]; simp [packV]
        clear hM hr
        go_enter Tryz.func96, Tryz.ntmps96
        go_wp2_with fail
        refine (HO.out _).mono ?_
        rintro e w1 ⟨rfl, hb⟩
        obtain ⟨u1, hb1⟩ := one_new hb
        obtain ⟨⟨c0, c1, c2, c3⟩, f0, f1, f2, f3⟩ := blk4 u1
        have HB := Lib.hid hb1
        clear u1 hb hb1
        go_wp2
        go_ret2
        exact ⟨by rw [HW.out]; rfl, HB.out⟩
      · have HW : Hid ((packA 2 0 0 12 : Int) = 203423744) := by
          show _ = _
          rw [HV.out]; simp [packV]
        clear hM hr
        go_enter Tryz.func96, Tryz.ntmps96
        go_wp2_with fail
        refine (HO.out _).mono ?_
        rintro e w1 ⟨rfl, hb⟩
        obtain ⟨u1, hb1⟩ := one_new hb
        obtain ⟨⟨c0, c1, c2, c3⟩, f0, f1, f2, f3⟩ := blk4 u1
        have HB := Lib.hid hb1
        clear u1 hb hb1
        go_wp2
        go_ret2
        exact ⟨by rw [HW.out]; rfl, HB.out⟩
      · have HW : Hid ((packA 2 0 0 13 : Int) = 220200960) := by
          show _ = _
          rw [HV.out]; simp [packV]
        clear hM hr
        go_enter Tryz.func96, Tryz.ntmps96
        go_wp2_with fail
        refine (HO.out _).mono ?_
        rintro e w1 ⟨rfl, hb⟩
        obtain ⟨u1, hb1⟩ := one_new hb
        obtain ⟨⟨c0, c1, c2, c3⟩, f0, f1, f2, f3⟩ := blk4 u1
        have HB := Lib.hid hb1
        clear u1 hb hb1
        go_wp2
        go_ret2
        exact ⟨by rw [HW.out]; rfl, HB.out⟩
      · have HW : Hid ((packA 2 0 0 14 : Int) = 236978176) := by
          show _ = _
          rw [HV.out]; simp [packV]
        clear hM hr
        go_enter Tryz.func96, Tryz.ntmps96
        go_wp2_with fail
        refine (HO.out _).mono ?_
        rintro e w1 ⟨rfl, hb⟩
        obtain ⟨u1, hb1⟩ := one_new hb
        obtain ⟨⟨c0, c1, c2, c3⟩, f0, f1, f2, f3⟩ := blk4 u1
        have HB := Lib.hid hb1
        clear u1 hb hb1
        go_wp2
        go_ret2
        exact ⟨by rw [HW.out]; rfl, HB.out⟩
      · have HW : Hid ((packA 2 0 0 15 : Int) = 253755392) := by
          show _ = _
          rw [HV.out]; simp [packV]
        clear hM hr
        go_enter Tryz.func96, Tryz.ntmps96
        go_wp2_with fail
        refine (HO.out _).mono ?_
        rintro e w1 ⟨rfl, hb⟩
        obtain ⟨u1, hb1⟩ := one_new hb
        obtain ⟨⟨c0, c1, c2, c3⟩, f0, f1, f2, f3⟩ := blk4 u1
        have HB := Lib.hid hb1
        clear u1 hb hb1
        go_wp2
        go_ret2
        exact ⟨by rw [HW.out]; rfl, HB.out⟩
      · have HW : Hid ((packA 2 0 0 16 : Int) = 270532608) := by
          show _ = _
          rw [HV.out]; simp [packV]
        clear hM hr
        go_enter Tryz.func96, Tryz.ntmps96
        go_wp2_with fail
        refine (HO.out _).mono ?_
        rintro e w1 ⟨rfl, hb⟩
        obtain ⟨u1, hb1⟩ := one_new hb
        obtain ⟨⟨c0, c1, c2, c3⟩, f0, f1, f2, f3⟩ := blk4 u1
        have HB := Lib.hid hb1
        clear u1 hb hb1
        go_wp2
        go_ret2
        exact ⟨by rw [HW.out]; rfl, HB.out⟩
  · rw [decide_eq_false hg] at HO ⊢
    have HV := Lib.hid (packA_bad hg)
    clear hM hg
    go_enter Tryz.func96, Tryz.ntmps96
    go_wp2_with fail
    refine (HO.out _).mono ?_
    rintro e w1 ⟨rfl, hb⟩
    obtain ⟨u1, hb1⟩ := one_new hb
    have HB := Lib.hid hb1
    clear u1 hb hb1
    go_wp2
    go_ret2
    exact ⟨by rw [HV.out]; rfl, HB.out⟩

end Go.Proofs.YtefcaeldkdbjdaaGreat
