/- The contract of the program's WarpOk: it tells whether a warp is valid. -/
import Derived.Test.YtefcaeldkdbjdaaGreatILargeW
import Derived.Test.YtefcaeldkdbjdaaGreatIGives
import Derived.Test.YtefcaeldkdbjdaaGreatILanes
namespace Go.Proofs.YtefcaeldkdbjdaaGreat
open Go.RowKit
set_option linter.unusedVariables false

/-- What a busy warp must be, ahead of its phase. -/
def Ready (kd : Int) (vs : List Int) (td : Nat) : Prop := ReqGood kd vs ∧ td ≠ 0 ∧ ∀ j ∈ onesTo td 32, Asks kd (at0 vs j)
instance (kd : Int) (vs : List Int) (td : Nat) : Decidable (Ready kd vs td) := inferInstanceAs (Decidable (_ ∧ _))
theorem busy_iff {kd : Int} {vs : List Int} {td : Nat} {ph pr hd : Int} {sn : Nat} {ch : Int} : BusyOk kd vs td ph pr hd sn ch ↔ Ready kd vs td ∧ PartOk kd (wantV vs td) ph pr hd sn ch :=
  ⟨fun ⟨a, b, c, d⟩ => ⟨⟨a, b, c⟩, d⟩, fun ⟨⟨a, b, c⟩, d⟩ => ⟨a, b, c, d⟩⟩
theorem askL_lt {kd : Int} {vs : List Int} {j : Nat} (h : j ∈ askL kd vs) : j < 8 := by
  unfold askL at h
  have := (List.mem_filter.1 h).1
  simpa using this
theorem askL_mem {kd : Int} {vs : List Int} {j : Nat} : j ∈ askL kd vs ↔ j < 8 ∧ Asks kd (at0 vs j) := by
  unfold askL
  simp
theorem ask_lt (kd : Int) (vs : List Int) : orL (askL kd vs) < 256 := orL_bound (p := 8) fun k hk => askL_lt hk
/-- A mask that has only lanes of another. -/
theorem within_andNot {td X : Nat} (ht : td < 256) (hX : X < 256) : bits .andNot .u32 (td : Int) (X : Int) = 0 ↔ ∀ j ∈ onesTo td 32, X.testBit j = true := by
  rw [u32_andNot_nat td X (by omega) (by omega)]
  have e : 4294967295 - X = 2 ^ 32 - (X + 1) := by omega
  constructor
  · intro h j hj
    have h0 : td &&& (4294967295 - X) = 0 := by omega
    refine Decidable.byContradiction fun hb => ?_
    have hb : X.testBit j = false := by simpa using hb
    obtain ⟨h32, htd⟩ := mem_ones.1 hj
    have : (td &&& (4294967295 - X)).testBit j = true := by
      rw [Nat.testBit_and, e, Nat.testBit_two_pow_sub_succ (by omega), htd, hb]
      simp [h32]
    rw [h0] at this
    simp at this
  · intro h
    have : td &&& (4294967295 - X) = 0 := by
      refine Nat.eq_of_testBit_eq fun i => ?_
      rw [Nat.testBit_and, e, Nat.testBit_two_pow_sub_succ (by omega), Nat.zero_testBit]
      by_cases hi : td.testBit i = true
      · have h8 := bit_lt_8 ht hi
        have := h i (mem_ones.2 ⟨by omega, hi⟩)
        simp [this]
      · simp [hi]
    omega
theorem ready_mask {kd : Int} {vs : List Int} {td : Nat} (ht : td < 256) (h : ReqGood kd vs) (h0 : td ≠ 0) : (!decide (Ready kd vs td)) = (bits .andNot .u32 (td : Int) ((orL (askL kd vs) : Nat) : Int) != 0) := by
  have hw := within_andNot ht (ask_lt kd vs)
  rw [Bool.eq_iff_iff]
  simp only [Bool.not_eq_true', decide_eq_false_iff_not, bne_iff_ne, ne_eq]
  rw [hw]
  constructor
  · intro a b
    exact a ⟨h, h0, fun j hj => by
      have := b j hj
      rw [orL_bit] at this
      exact (askL_mem.1 (by simpa using this)).2⟩
  · intro a b
    exact a fun j hj => by
      rw [orL_bit]
      have h8 := ones_lt_8 ht hj
      exact decide_eq_true (askL_mem.2 ⟨h8, b.2.2 j hj⟩)
theorem want_bounds {kd : Int} {vs : List Int} {td : Nat} (ht : td < 256) (h : Ready kd vs td) : 0 ≤ wantV vs td ∧ wantV vs td ≤ 4095 ∧ (kd = 1 ∨ kd = 2) ∧ (kd = 1 → 1 ≤ wantV vs td ∧ wantV vs td ≤ 256) := by
  obtain ⟨h1, h2, h3⟩ := h
  have hp := ones_pos ht h2
  have hm : leadV td ∈ onesTo td 32 := by
    unfold leadV
    rw [List.getElem?_eq_getElem hp]
    exact List.getElem_mem hp
  have ha := h3 _ hm
  have h8 := leadV_lt ht
  have hr := at_of (P := InReq kd) h1.2 (show leadV td < vs.length by rw [h1.1]; exact h8)
  have hw : wantV vs td = vs[leadV td]?.getD 0 := rfl
  unfold Asks at0 at ha
  unfold InReq at hr
  rw [hw]
  omega

set_option maxRecDepth 100000 in
set_option maxHeartbeats 8000000 in
theorem warpOk_any (kd : Int) (A : Option Addr) (n c : Nat) (B : Option Addr) (m d td : Nat) (ph pr hd : Int) (sn : Nat) (vs gs : List Int) (Bv Bg : Nat) (ch : Int) (w : World) (hv : RdK .i64 w Bv A n vs) (hB : Bv ≤ w.heap.size) (hm : n ≤ maxLen) (hg : RdK .i64 w Bg B m gs) (hm2 : m ≤ maxLen) (ht : td < 4294967296) (hsn : sn < 4294967296) (hpr : (Lit.int .i64 pr).wf = true) :
    Calls Tryz.prog 82 #[.agg #[.int .i64 kd, .slice A n c, .slice B m d, .int .u32 (td : Int), .int .i64 ph, .int .i64 pr, .int .i64 hd, .int .u32 (sn : Int)], .int .i64 ch] w fun e w' => e = .returned (.bool (decide (WarpGood kd vs gs td ph pr hd sn ch))) ∧ Below w.heap.size w w' := by
  have BX := Lib.hid (bel1 w (.cells #[.int .i64 kd, .slice A n c, .slice B m d, .int .u32 (td : Int), .int .i64 ph, .int .i64 pr, .int .i64 hd, .int .u32 (sn : Int)] 49))
  have HM := Lib.hid (fun W => callsIn_wide.1 (isMask_in Fence.wide 2 td W ht trivial trivial trivial (Nat.le_refl _) rfl))
  have HP := Lib.hid hpr
  unfold maxLen at hm hm2
  have hl := hv.1
  have hlg := hg.1
  by_cases hs : ShapeOk n m td ch
  · have HSh : Hid (∀ X : Prop, (ShapeOk vs.length gs.length td ch ∧ X) ↔ X) := fun X => ⟨fun h => h.2, fun h => ⟨by rw [hl, hlg]; exact hs, h⟩⟩
    obtain ⟨s1, s2, s3, s4, s5⟩ := hs
    rw [decide_eq_true s5] at HM
    have t1 : ((n : Int) != 8) = false := by simp; omega
    have t2 : ((m : Int) != 8) = false := by simp; omega
    have t3 : ¬ ch < 0 := by omega
    have t4 : ¬ 16 < ch := by omega
    by_cases hk : kd = 0
    · have hkb : (kd == 0) = true := by simp [hk]
      have HR : Hid (decide (WarpGood kd vs gs td ph pr hd sn ch) = (((td : Int) == 0) && (ph == 0) && (pr == 0) && (hd == 0) && ((sn : Int) == 0))) := by
        show _ = _
        rw [Bool.eq_iff_iff]
        simp only [decide_eq_true_iff, Bool.and_eq_true, beq_iff_eq]
        refine (HSh.out _).trans ?_
        constructor
        · rintro (⟨a, b, cc, d, e, f⟩ | ⟨a, _⟩)
          · exact ⟨⟨⟨⟨by omega, cc⟩, d⟩, e⟩, by omega⟩
          · exact absurd hk a
        · rintro ⟨⟨⟨⟨b, cc⟩, d⟩, e⟩, f⟩; exact .inl ⟨hk, by omega, cc, d, e, by omega⟩
      clear hk hv hg hl hlg hB HSh s3 s4 ht hsn
      cases c0 : ((td : Int) == 0) with
      | false =>
        rw [c0] at HR
        go_enter Tryz.func82, Tryz.ntmps82
        go_wp2_with fail
        refine (HM.out _).mono ?_
        rintro e w1 ⟨rfl, rfl⟩
        go_wp2
        go_ret
        exact ⟨by rw [HR.out]; rfl, BX.out⟩
      | true =>
        rw [c0] at HR
        cases c1 : (ph == 0) with
        | false =>
          rw [c1] at HR
          go_enter Tryz.func82, Tryz.ntmps82
          go_wp2_with fail
          refine (HM.out _).mono ?_
          rintro e w1 ⟨rfl, rfl⟩
          go_wp2
          go_ret
          exact ⟨by rw [HR.out]; rfl, BX.out⟩
        | true =>
          rw [c1] at HR
          cases c2 : (pr == 0) with
          | false =>
            rw [c2] at HR
            go_enter Tryz.func82, Tryz.ntmps82
            go_wp2_with fail
            refine (HM.out _).mono ?_
            rintro e w1 ⟨rfl, rfl⟩
            go_wp2
            go_ret
            exact ⟨by rw [HR.out]; rfl, BX.out⟩
          | true =>
            rw [c2] at HR
            cases c3 : (hd == 0) with
            | false =>
              rw [c3] at HR
              go_enter Tryz.func82, Tryz.ntmps82
              go_wp2_with fail
              refine (HM.out _).mono ?_
              rintro e w1 ⟨rfl, rfl⟩
              go_wp2
              go_ret
              exact ⟨by rw [HR.out]; rfl, BX.out⟩
            | true =>
              rw [c3] at HR
              cases c4 : ((sn : Int) == 0) with
              | false =>
                rw [c4] at HR
                go_enter Tryz.func82, Tryz.ntmps82
                go_wp2_with fail
                refine (HM.out _).mono ?_
                rintro e w1 ⟨rfl, rfl⟩
                go_wp2
                go_ret
                exact ⟨by rw [HR.out]; rfl, BX.out⟩
              | true =>
                rw [c4] at HR
                go_enter Tryz.func82, Tryz.ntmps82
                go_wp2_with fail
                refine (HM.out _).mono ?_
                rintro e w1 ⟨rfl, rfl⟩
                go_wp2
                go_ret
                exact ⟨by rw [HR.out]; rfl, BX.out⟩
    · have hkb : (kd == 0) = false := by simpa using hk
      have HK := Lib.hid hk
      have HQ : Hid (∀ W, Below w.heap.size w W → Calls Tryz.prog 90 #[.agg #[.int .i64 kd, .slice A n c]] W fun e w' => e = .returned (.bool (decide (ReqGood kd vs))) ∧ Below W.heap.size W w') := fun W hb => reqOk_any kd A n c Bv vs W (hv.below (hb.mono hB)) (Nat.le_trans hB hb.size) (by unfold maxLen; omega)
      have HLn : Hid (ReqGood kd vs → ∀ W, Below w.heap.size w W → Calls Tryz.prog 91 #[.agg #[.int .i64 kd, .slice A n c]] W fun e w' => e = .returned (.int .u32 ((orL (askL kd vs) : Nat) : Int)) ∧ Below W.heap.size W w') := fun h W hb => lanes_any kd A n c Bv vs W (hv.below (hb.mono hB)) (Nat.le_trans hB hb.size) h
      have HRM : Hid (ReqGood kd vs → td ≠ 0 → (!decide (Ready kd vs td)) = (bits .andNot .u32 (td : Int) ((orL (askL kd vs) : Nat) : Int) != 0)) := fun a b => ready_mask s5 a b
      have HGv : Hid (Ready kd vs td → ∀ W, Below w.heap.size w W → Calls Tryz.prog 92 #[.agg #[.int .i64 kd, .slice A n c, .slice B m d, .int .u32 (td : Int), .int .i64 ph, .int .i64 pr, .int .i64 hd, .int .u32 (sn : Int)], .int .i64 ch] W fun e w' => e = .returned (.bool (decide (GiveOk (wantV vs td) ph pr hd sn ch))) ∧ Below W.heap.size W w') := fun h W hb => givesWell_any kd A n c B m d td ph pr hd sn vs Bv ch W s5 h.2.1 (hv.below (hb.mono hB)) (Nat.le_trans hB hb.size) s3 hsn s1 s2 (want_bounds s5 h).1 (want_bounds s5 h).2.1 HP.out
      have HLa : Hid (Ready kd vs td → ∀ W, Below w.heap.size w W → Calls Tryz.prog 93 #[.agg #[.int .i64 kd, .slice A n c, .slice B m d, .int .u32 (td : Int), .int .i64 ph, .int .i64 pr, .int .i64 hd, .int .u32 (sn : Int)]] W fun e w' => e = .returned (.bool (decide (16 < wantV vs td))) ∧ Below W.heap.size W w') := fun h W hb => isLarge_any kd A n c B m d td ph pr hd sn vs Bv W s5 h.2.1 (hv.below (hb.mono hB)) (Nat.le_trans hB hb.size) s3
      have HTc : Hid (Ready kd vs td → ∀ W, Below w.heap.size w W → Calls Tryz.prog 94 #[.agg #[.int .i64 kd, .slice A n c, .slice B m d, .int .u32 (td : Int), .int .i64 ph, .int .i64 pr, .int .i64 hd, .int .u32 (sn : Int)], .int .i64 ch] W fun e w' => e = .returned (.bool (decide (LargeOk (wantV vs td) ph pr hd sn ch))) ∧ Below W.heap.size W w') := fun h W hb => takesChunks_any kd A n c B m d td ph pr hd sn vs Bv ch W s5 h.2.1 (hv.below (hb.mono hB)) (Nat.le_trans hB hb.size) s3 s1 s2
      have HTb : Hid (Ready kd vs td → ∀ W, Below w.heap.size w W → Calls Tryz.prog 95 #[.agg #[.int .i64 kd, .slice A n c, .slice B m d, .int .u32 (td : Int), .int .i64 ph, .int .i64 pr, .int .i64 hd, .int .u32 (sn : Int)], .int .i64 ch] W fun e w' => e = .returned (.bool (decide (SmallOk (wantV vs td) ph pr hd sn ch))) ∧ Below W.heap.size W w') := fun h W hb => takesBlocks_any kd A n c B m d td ph pr hd sn vs Bv ch W s5 h.2.1 (hv.below (hb.mono hB)) (Nat.le_trans hB hb.size) s3 hsn
      have HWd : Hid (decide (WarpGood kd vs gs td ph pr hd sn ch) = decide (Ready kd vs td ∧ PartOk kd (wantV vs td) ph pr hd sn ch)) := by
        refine decide_eq_decide.2 ((HSh.out _).trans ?_)
        rw [← busy_iff]
        exact ⟨fun h => h.elim (fun a => absurd a.1 HK.out) (fun a => a.2), fun h => .inr ⟨HK.out, h⟩⟩
      rw [HWd.out]
      clear hk hv hg hl hlg hB HSh s3 s4 HWd hsn ht
      go_enter Tryz.func82, Tryz.ntmps82
      go_wp2_with fail
      refine (HM.out _).mono ?_
      rintro e w1 ⟨rfl, rfl⟩
      go_wp2_with fail
      have BY := Lib.hid (bel2 w (.cells #[.int .i64 kd, .slice A n c, .slice B m d, .int .u32 (td : Int), .int .i64 ph, .int .i64 pr, .int .i64 hd, .int .u32 (sn : Int)] 49) (.cells #[.int .i64 kd, .slice A n c] 31))
      have HA : Hid ((((w.alloc (.cells #[.int .i64 kd, .slice A n c, .slice B m d, .int .u32 (td : Int), .int .i64 ph, .int .i64 pr, .int .i64 hd, .int .u32 (sn : Int)] 49)).alloc (.cells #[.int .i64 kd, .slice A n c] 31))).heap[w.heap.size]? = some (.cells #[.int .i64 kd, .slice A n c, .slice B m d, .int .u32 (td : Int), .int .i64 ph, .int .i64 pr, .int .i64 hd, .int .u32 (sn : Int)] 49 (0, 0))) := (Below.heap_alloc _ _ _ (by rw [sz1]; omega)).trans (heap_alloc_new w _)
      have HAr : Hid ((((w.alloc (.cells #[.int .i64 kd, .slice A n c, .slice B m d, .int .u32 (td : Int), .int .i64 ph, .int .i64 pr, .int .i64 hd, .int .u32 (sn : Int)] 49)).alloc (.cells #[.int .i64 kd, .slice A n c] 31))).heap[w.heap.size + 1]? = some (.cells #[.int .i64 kd, .slice A n c] 31 (0, 0))) := by
        have := heap_alloc_new (w.alloc (.cells #[.int .i64 kd, .slice A n c, .slice B m d, .int .u32 (td : Int), .int .i64 ph, .int .i64 pr, .int .i64 hd, .int .u32 (sn : Int)] 49)) (.cells #[.int .i64 kd, .slice A n c] 31)
        rwa [sz1] at this
      generalize (w.alloc (.cells #[.int .i64 kd, .slice A n c, .slice B m d, .int .u32 (td : Int), .int .i64 ph, .int .i64 pr, .int .i64 hd, .int .u32 (sn : Int)] 49)).alloc (.cells #[.int .i64 kd, .slice A n c] 31) = W1 at *
      have x0 : W1.cell? ⟨w.heap.size, 0, none⟩ = some (.int .i64 kd) ∧ W1.cell? ⟨w.heap.size, 1, none⟩ = some (.slice A n c) ∧ W1.cell? ⟨w.heap.size, 2, none⟩ = some (.slice B m d) ∧ W1.cell? ⟨w.heap.size, 3, none⟩ = some (.int .u32 (td : Int)) ∧ W1.cell? ⟨w.heap.size, 4, none⟩ = some (.int .i64 ph) ∧ W1.cell? ⟨w.heap.size, 5, none⟩ = some (.int .i64 pr) ∧ W1.cell? ⟨w.heap.size, 6, none⟩ = some (.int .i64 hd) ∧ W1.cell? ⟨w.heap.size, 7, none⟩ = some (.int .u32 (sn : Int)) ∧ W1.cell? ⟨w.heap.size + 1, 0, none⟩ = some (.int .i64 kd) ∧ W1.cell? ⟨w.heap.size + 1, 1, none⟩ = some (.slice A n c) := ⟨blkc HA.out 0 rfl, blkc HA.out 1 rfl, blkc HA.out 2 rfl, blkc HA.out 3 rfl, blkc HA.out 4 rfl, blkc HA.out 5 rfl, blkc HA.out 6 rfl, blkc HA.out 7 rfl, blkc HAr.out 0 rfl, blkc HAr.out 1 rfl⟩
      have x0d : W1.drew.cell? ⟨w.heap.size, 0, none⟩ = some (.int .i64 kd) ∧ W1.drew.cell? ⟨w.heap.size, 1, none⟩ = some (.slice A n c) ∧ W1.drew.cell? ⟨w.heap.size, 2, none⟩ = some (.slice B m d) ∧ W1.drew.cell? ⟨w.heap.size, 3, none⟩ = some (.int .u32 (td : Int)) ∧ W1.drew.cell? ⟨w.heap.size, 4, none⟩ = some (.int .i64 ph) ∧ W1.drew.cell? ⟨w.heap.size, 5, none⟩ = some (.int .i64 pr) ∧ W1.drew.cell? ⟨w.heap.size, 6, none⟩ = some (.int .i64 hd) ∧ W1.drew.cell? ⟨w.heap.size, 7, none⟩ = some (.int .u32 (sn : Int)) ∧ W1.drew.cell? ⟨w.heap.size + 1, 0, none⟩ = some (.int .i64 kd) ∧ W1.drew.cell? ⟨w.heap.size + 1, 1, none⟩ = some (.slice A n c) := x0
      have D0 : Hid (Below W1.heap.size W1 W1.drew) := (Below.refl _ _).drew
      have xS : Hid (∀ w', Below W1.heap.size W1 w' → w'.cell? ⟨w.heap.size, 0, none⟩ = some (.int .i64 kd) ∧ w'.cell? ⟨w.heap.size, 1, none⟩ = some (.slice A n c) ∧ w'.cell? ⟨w.heap.size, 2, none⟩ = some (.slice B m d) ∧ w'.cell? ⟨w.heap.size, 3, none⟩ = some (.int .u32 (td : Int)) ∧ w'.cell? ⟨w.heap.size, 4, none⟩ = some (.int .i64 ph) ∧ w'.cell? ⟨w.heap.size, 5, none⟩ = some (.int .i64 pr) ∧ w'.cell? ⟨w.heap.size, 6, none⟩ = some (.int .i64 hd) ∧ w'.cell? ⟨w.heap.size, 7, none⟩ = some (.int .u32 (sn : Int)) ∧ w'.cell? ⟨w.heap.size + 1, 0, none⟩ = some (.int .i64 kd) ∧ w'.cell? ⟨w.heap.size + 1, 1, none⟩ = some (.slice A n c)) := fun w' hb => ⟨later_at0 hb x0.1, later_at0 hb x0.2.1, later_at0 hb x0.2.2.1, later_at0 hb x0.2.2.2.1, later_at0 hb x0.2.2.2.2.1, later_at0 hb x0.2.2.2.2.2.1, later_at0 hb x0.2.2.2.2.2.2.1, later_at0 hb x0.2.2.2.2.2.2.2.1, later_at0 hb x0.2.2.2.2.2.2.2.2.1, later_at0 hb x0.2.2.2.2.2.2.2.2.2⟩
      have CC0 : Hid (∀ W', Below W1.heap.size W1 W' → Calls Tryz.prog 90 #[.agg #[.int .i64 kd, .slice A n c]] W' fun e w' => e = .returned (.bool (decide (ReqGood kd vs))) ∧ Hid (Below W1.heap.size W1 w') ∧ (w'.cell? ⟨w.heap.size, 0, none⟩ = some (.int .i64 kd) ∧ w'.cell? ⟨w.heap.size, 1, none⟩ = some (.slice A n c) ∧ w'.cell? ⟨w.heap.size, 2, none⟩ = some (.slice B m d) ∧ w'.cell? ⟨w.heap.size, 3, none⟩ = some (.int .u32 (td : Int)) ∧ w'.cell? ⟨w.heap.size, 4, none⟩ = some (.int .i64 ph) ∧ w'.cell? ⟨w.heap.size, 5, none⟩ = some (.int .i64 pr) ∧ w'.cell? ⟨w.heap.size, 6, none⟩ = some (.int .i64 hd) ∧ w'.cell? ⟨w.heap.size, 7, none⟩ = some (.int .u32 (sn : Int)) ∧ w'.cell? ⟨w.heap.size + 1, 0, none⟩ = some (.int .i64 kd) ∧ w'.cell? ⟨w.heap.size + 1, 1, none⟩ = some (.slice A n c))) := fun W' hb => (HQ.out W' (BY.out.trans (hb.mono BY.out.size))).mono fun e w' ⟨he, hb2⟩ => ⟨he, hb.trans (hb2.mono hb.size), xS.out w' (hb.trans (hb2.mono hb.size))⟩
      have CC1 : Hid (ReqGood kd vs → ∀ W', Below W1.heap.size W1 W' → Calls Tryz.prog 91 #[.agg #[.int .i64 kd, .slice A n c]] W' fun e w' => e = .returned (.int .u32 ((orL (askL kd vs) : Nat) : Int)) ∧ Hid (Below W1.heap.size W1 w') ∧ (w'.cell? ⟨w.heap.size, 0, none⟩ = some (.int .i64 kd) ∧ w'.cell? ⟨w.heap.size, 1, none⟩ = some (.slice A n c) ∧ w'.cell? ⟨w.heap.size, 2, none⟩ = some (.slice B m d) ∧ w'.cell? ⟨w.heap.size, 3, none⟩ = some (.int .u32 (td : Int)) ∧ w'.cell? ⟨w.heap.size, 4, none⟩ = some (.int .i64 ph) ∧ w'.cell? ⟨w.heap.size, 5, none⟩ = some (.int .i64 pr) ∧ w'.cell? ⟨w.heap.size, 6, none⟩ = some (.int .i64 hd) ∧ w'.cell? ⟨w.heap.size, 7, none⟩ = some (.int .u32 (sn : Int)) ∧ w'.cell? ⟨w.heap.size + 1, 0, none⟩ = some (.int .i64 kd) ∧ w'.cell? ⟨w.heap.size + 1, 1, none⟩ = some (.slice A n c))) := fun h W' hb => (HLn.out h W' (BY.out.trans (hb.mono BY.out.size))).mono fun e w' ⟨he, hb2⟩ => ⟨he, hb.trans (hb2.mono hb.size), xS.out w' (hb.trans (hb2.mono hb.size))⟩
      go_cut [76] (fun s wx => s = .bool (!decide (Ready kd vs td)) ∧ Hid (Below W1.heap.size W1 wx))
      case first =>
        by_cases hg : ReqGood kd vs
        · rw [decide_eq_true hg] at CC0
          by_cases h0 : td = 0
          · have h0b : ((td : Int) == 0) = true := by simp [h0]
            have HQ1 : Hid ((!decide (Ready kd vs td)) = true) := by show _ = _; rw [decide_eq_false (fun h : Ready kd vs td => h.2.1 h0)]; rfl
            clear h0 hg
            generalize (!decide (Ready kd vs td)) = q at *
            obtain ⟨ya, yb, yc, yd, ye, yf, yg, yh, yi, yj⟩ := x0
            clear x0d CC1
            first | (go_region_with (first | (go_at_call 90; (with_reducible refine (CC0.out _ D0.out).mono ?_); rintro e wc0 ⟨rfl, BC0, xc0⟩; obtain ⟨za, zb, zc, zd, ze, zf, zg, zh, zi, zj⟩ := xc0))) | fail
            all_goals (go_wp2_with fail; go_meet; exact ⟨by rw [HQ1.out], BC0⟩)
          · have h0b : ((td : Int) == 0) = false := by simp; omega
            have HQ1 := Lib.hid (HRM.out hg h0)
            have CC1' := Lib.hid (CC1.out hg)
            clear h0 hg CC1 HRM
            generalize (!decide (Ready kd vs td)) = q at *
            generalize ((orL (askL kd vs) : Nat) : Int) = X at *
            go_region_held3 (fun w' => w'.cell? ⟨w.heap.size, 0, none⟩ = some (.int .i64 kd) ∧ w'.cell? ⟨w.heap.size, 1, none⟩ = some (.slice A n c) ∧ w'.cell? ⟨w.heap.size, 2, none⟩ = some (.slice B m d) ∧ w'.cell? ⟨w.heap.size, 3, none⟩ = some (.int .u32 (td : Int)) ∧ w'.cell? ⟨w.heap.size, 4, none⟩ = some (.int .i64 ph) ∧ w'.cell? ⟨w.heap.size, 5, none⟩ = some (.int .i64 pr) ∧ w'.cell? ⟨w.heap.size, 6, none⟩ = some (.int .i64 hd) ∧ w'.cell? ⟨w.heap.size, 7, none⟩ = some (.int .u32 (sn : Int)) ∧ w'.cell? ⟨w.heap.size + 1, 0, none⟩ = some (.int .i64 kd) ∧ w'.cell? ⟨w.heap.size + 1, 1, none⟩ = some (.slice A n c))
              (first | exact x0 | exact x0d | exact xc0 | exact xc1)
              (first | (go_at_call 90; (with_reducible refine (CC0.out _ BC1.out).mono ?_); rintro e wc0 ⟨rfl, BC0, xc0⟩)
                     | (go_at_call 90; (with_reducible refine (CC0.out _ D0.out).mono ?_); rintro e wc0 ⟨rfl, BC0, xc0⟩)
                     | (go_at_call 91; (with_reducible refine (CC1'.out _ BC0.out).mono ?_); rintro e wc1 ⟨rfl, BC1, xc1⟩)
                     | (go_at_call 91; (with_reducible refine (CC1'.out _ D0.out).mono ?_); rintro e wc1 ⟨rfl, BC1, xc1⟩))
            all_goals (go_wp2_with fail; go_meet; exact ⟨by rw [HQ1.out], BC1⟩)
        · rw [decide_eq_false hg] at CC0
          have HQ1 : Hid ((!decide (Ready kd vs td)) = true) := by show _ = _; rw [decide_eq_false (fun h : Ready kd vs td => hg h.1)]; rfl
          clear hg CC1
          generalize (!decide (Ready kd vs td)) = q at *
          obtain ⟨ya, yb, yc, yd, ye, yf, yg, yh, yi, yj⟩ := x0
          clear x0d
          first | (go_region_with (first | (go_at_call 90; (with_reducible refine (CC0.out _ D0.out).mono ?_); rintro e wc0 ⟨rfl, BC0, xc0⟩; obtain ⟨za, zb, zc, zd, ze, zf, zg, zh, zi, zj⟩ := xc0))) | fail
          all_goals (go_wp2_with fail; go_meet; exact ⟨by rw [HQ1.out], BC0⟩)
      case rest =>
        obtain ⟨rfl, HB2⟩ := hcut
        generalize wc = W2 at *
        have HT2 : Hid (Below w.heap.size w W2) := BY.out.trans (HB2.out.mono BY.out.size)
        obtain ⟨ya, yb, yc, yd, ye, yf, yg, yh, yi, yj⟩ := xS.out W2 HB2.out
        clear x0 x0d xS CC0 CC1 HQ HLn HRM HM
        by_cases hr : Ready kd vs td
        · have HGv' := Lib.hid (HGv.out hr)
          have HLa' := Lib.hid (HLa.out hr)
          have HTc' := Lib.hid (HTc.out hr)
          have HTb' := Lib.hid (HTb.out hr)
          have HRd := Lib.hid hr
          rw [decide_eq_true hr]
          clear HGv HLa HTc HTb hr
          obtain ⟨v, hv⟩ : ∃ v, v = wantV vs td := ⟨_, rfl⟩
          rw [← hv] at HGv' HLa' HTc' HTb'
          have HV := Lib.hid hv
          clear hv
          by_cases k2 : kd = 2
          · have k2b : (kd == 2) = true := by simp [k2]
            have HR : Hid (decide (Ready kd vs td ∧ PartOk kd (wantV vs td) ph pr hd sn ch) = decide (GiveOk v ph pr hd sn ch)) := by
              show _ = _
              rw [← HV.out]
              exact decide_eq_decide.2 ⟨fun h => h.2.elim (fun a => a.2) (fun a => absurd k2 (a.elim (fun b => b.1) (fun b => b.1))), fun h => ⟨HRd.out, .inl ⟨k2, h⟩⟩⟩
            clear k2 HLa' HTc' HTb'
            go_wp2_with fail
            refine (HGv'.out _ HT2.out).mono ?_
            rintro e w3 ⟨rfl, hb⟩
            have HT3 := Lib.hid (HT2.out.trans (hb.mono HT2.out.size))
            clear hb HGv'
            go_wp2
            go_ret
            exact ⟨by rw [HR.out]; rfl, HT3.out⟩
          · have k2b : (kd == 2) = false := by simpa using k2
            have HK2 := Lib.hid k2
            clear k2 HGv'
            go_wp2_with fail
            refine (HLa'.out _ HT2.out).mono ?_
            rintro e w3 ⟨rfl, hb⟩
            have HT3 := Lib.hid (HT2.out.trans (hb.mono HT2.out.size))
            have za := (hb.cell (p := ⟨w.heap.size, 0, none⟩) (World.block_lt_of_cell? _ _ ya)).trans ya
            have zb := (hb.cell (p := ⟨w.heap.size, 1, none⟩) (World.block_lt_of_cell? _ _ yb)).trans yb
            have zc := (hb.cell (p := ⟨w.heap.size, 2, none⟩) (World.block_lt_of_cell? _ _ yc)).trans yc
            have zd := (hb.cell (p := ⟨w.heap.size, 3, none⟩) (World.block_lt_of_cell? _ _ yd)).trans yd
            have ze := (hb.cell (p := ⟨w.heap.size, 4, none⟩) (World.block_lt_of_cell? _ _ ye)).trans ye
            have zf := (hb.cell (p := ⟨w.heap.size, 5, none⟩) (World.block_lt_of_cell? _ _ yf)).trans yf
            have zg := (hb.cell (p := ⟨w.heap.size, 6, none⟩) (World.block_lt_of_cell? _ _ yg)).trans yg
            have zh := (hb.cell (p := ⟨w.heap.size, 7, none⟩) (World.block_lt_of_cell? _ _ yh)).trans yh
            clear hb HLa' ya yb yc yd ye yf yg yh yi yj
            by_cases hL : 16 < v
            · have HR : Hid (decide (Ready kd vs td ∧ PartOk kd (wantV vs td) ph pr hd sn ch) = decide (LargeOk v ph pr hd sn ch)) := by
                show _ = _
                rw [← HV.out]
                refine decide_eq_decide.2 ⟨fun h => ?_, fun h => ⟨HRd.out, .inr (.inl ⟨HK2.out, hL, h⟩)⟩⟩
                rcases h.2 with a | a | a
                · exact absurd a.1 HK2.out
                · exact a.2.2
                · have := a.2.1; omega
              rw [decide_eq_true hL]
              clear hL HTb'
              go_wp2_with fail
              refine (HTc'.out _ HT3.out).mono ?_
              rintro e w4 ⟨rfl, hb⟩
              have HT4 := Lib.hid (HT3.out.trans (hb.mono HT3.out.size))
              clear hb HTc'
              go_wp2
              go_ret
              exact ⟨by rw [HR.out]; rfl, HT4.out⟩
            · have HR : Hid (decide (Ready kd vs td ∧ PartOk kd (wantV vs td) ph pr hd sn ch) = decide (SmallOk v ph pr hd sn ch)) := by
                show _ = _
                rw [← HV.out]
                refine decide_eq_decide.2 ⟨fun h => ?_, fun h => ⟨HRd.out, .inr (.inr ⟨HK2.out, by omega, h⟩)⟩⟩
                rcases h.2 with a | a | a
                · exact absurd a.1 HK2.out
                · have := a.2.1; omega
                · exact a.2.2
              rw [decide_eq_false hL]
              clear hL HTc'
              go_wp2_with fail
              refine (HTb'.out _ HT3.out).mono ?_
              rintro e w4 ⟨rfl, hb⟩
              have HT4 := Lib.hid (HT3.out.trans (hb.mono HT3.out.size))
              clear hb HTb'
              go_wp2
              go_ret
              exact ⟨by rw [HR.out]; rfl, HT4.out⟩
        · have HR : Hid (decide (Ready kd vs td ∧ PartOk kd (wantV vs td) ph pr hd sn ch) = false) := decide_eq_false (fun h => hr h.1)
          rw [decide_eq_false hr]
          clear hr HGv HLa HTc HTb
          go_wp2
          go_ret
          exact ⟨by rw [HR.out]; rfl, HT2.out⟩
  · have HR : Hid (decide (WarpGood kd vs gs td ph pr hd sn ch) = false) := decide_eq_false (fun h => hs (by have := h.1; rwa [hl, hlg] at this))
    have hc : ch < 0 ∨ (¬ ch < 0 ∧ (16 < ch ∨ (¬ 16 < ch ∧ (((n : Int) != 8) = true ∨ (((n : Int) != 8) = false ∧ (((m : Int) != 8) = true ∨ (((m : Int) != 8) = false ∧ ¬ td < 256))))))) := by
      unfold ShapeOk at hs
      have e1 : ∀ k : Nat, ((k : Int) != 8) = true ↔ ¬ k = 8 := fun k => by rw [bne_iff_ne]; omega
      have e2 : ∀ k : Nat, ((k : Int) != 8) = false ↔ k = 8 := fun k => by rw [bne_eq_false_iff_eq]; omega
      rw [e1, e1, e2, e2]
      omega
    clear hs hv hg hl hlg hB hsn
    rcases hc with d1 | ⟨d1, d2 | ⟨d2, d3 | ⟨d3, d4 | ⟨d4, d5⟩⟩⟩⟩
    · clear HM ht
      go_enter Tryz.func82, Tryz.ntmps82
      go_wp2
      go_ret
      exact ⟨by rw [HR.out]; rfl, BX.out⟩
    · clear HM ht
      go_enter Tryz.func82, Tryz.ntmps82
      go_wp2
      go_ret
      exact ⟨by rw [HR.out]; rfl, BX.out⟩
    · clear HM ht
      go_enter Tryz.func82, Tryz.ntmps82
      go_wp2
      go_ret
      exact ⟨by rw [HR.out]; rfl, BX.out⟩
    · clear HM ht
      go_enter Tryz.func82, Tryz.ntmps82
      go_wp2
      go_ret
      exact ⟨by rw [HR.out]; rfl, BX.out⟩
    · rw [decide_eq_false d5] at HM
      clear ht d5
      go_enter Tryz.func82, Tryz.ntmps82
      go_wp2_with fail
      refine (HM.out _).mono ?_
      rintro e w1 ⟨rfl, rfl⟩
      go_wp2
      go_ret
      exact ⟨by rw [HR.out]; rfl, BX.out⟩

end Go.Proofs.YtefcaeldkdbjdaaGreat
