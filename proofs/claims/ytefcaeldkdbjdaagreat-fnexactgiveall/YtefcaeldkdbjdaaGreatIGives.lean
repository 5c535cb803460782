/- The contracts of the program's freed and givesWell. -/
import Derived.Test.YtefcaeldkdbjdaaGreatIWell
import Derived.Test.YtefcaeldkdbjdaaGreatIRel
import Derived.Test.YtefcaeldkdbjdaaGreatCopyI
import Derived.IntWalk
import Derived.Test.YtefcaeldkdbjdaaGreatOpenW
namespace Go.Proofs.YtefcaeldkdbjdaaGreat
open Go.RowKit
set_option linter.unusedVariables false

/-- The word is the head of a large block that starts at the offset. -/
def HeadX (X : Nat) (off : Int) : Prop := GoodX X ∧ stOf X = 2 ∧ off = 0
instance (X : Nat) (off : Int) : Decidable (HeadX X off) := inferInstanceAs (Decidable (_ ∧ _))
def frY (X : Nat) (off : Int) : Nat := if HeadX X off then 3145728 else relY X off
def frS (X : Nat) (off : Int) : Int := if HeadX X off then 16 * (rnOf X : Int) else relS X off
theorem head_run {X : Nat} {off : Int} (h : HeadX X off) : 2 ≤ rnOf X ∧ rnOf X ≤ 16 := by
  have hg : CtlGood (stOf X) (clOf X) (mpOf X) (rnOf X) := h.1
  rw [show ((stOf X : Nat) : Int) = 2 by have := h.2.1; omega] at hg
  have := (good_head.1 hg).2.2
  unfold IsRun at this
  omega
theorem fr_head {X : Nat} {off : Int} (h : HeadX X off) : frY X off = 3145728 ∧ frS X off = 16 * (rnOf X : Int) ∧ decide (GivesX X off) = true := ⟨if_pos h, if_pos h, decide_eq_true (.inr h)⟩
theorem fr_rel {X : Nat} {off : Int} (h : ¬ HeadX X off) : frY X off = relY X off ∧ frS X off = relS X off ∧ decide (GivesX X off) = decide (RelOk X off) :=
  ⟨if_neg h, if_neg h, decide_eq_decide.2 ⟨fun a => a.elim id (fun b => absurd b h), .inl⟩⟩

set_option maxRecDepth 100000 in
set_option maxHeartbeats 2000000 in
theorem freed_any (X : Nat) (off : Int) (w : World) (hX : X < 4294967296) :
    Calls Tryz.prog 101 #[.int .u32 (X : Int), .int .i64 off] w fun e w' => e = .returned (.tuple #[.int .u32 (frY X off : Int), .int .i64 (frS X off), .bool (decide (GivesX X off))]) ∧ Below w.heap.size w w' := by
  have HC := Lib.hid (fun W => ctlRead_any X W hX)
  have HRl := Lib.hid (fun W => release_any X off W hX)
  have HW := Lib.hid (fun W => heldWord_any W)
  have hrd : readV X = #[.int .i64 (readN X (stOf X) : Int), .int .i64 (readN X (clOf X) : Int), .int .u32 (readN X (mpOf X) : Int), .int .i64 (readN X (rnOf X) : Int)] := rfl
  rw [hrd] at HC
  clear hrd
  by_cases hh : HeadX X off
  · obtain ⟨e1, e2, e3⟩ := fr_head hh
    obtain ⟨r1, r2⟩ := head_run hh
    have hs : (((readN X (stOf X) : Nat) : Int) == 2) = true := by
      have : readN X (stOf X) = 2 := by unfold readN; rw [if_pos hh.1]; exact hh.2.1
      simp [this]
    have hr : readN X (rnOf X) = rnOf X := if_pos hh.1
    have ho : (off == 0) = true := by have := hh.2.2; simp [this]
    have HE : Hid ((16 * (rnOf X : Int) : Int) = (rnOf X : Int) * 16) := by show _ = _; omega
    rw [e1, e2, e3, HE.out]
    rw [hr] at HC
    have rr1 : (2 : Int) ≤ (rnOf X : Int) := by omega
    have rr2 : (rnOf X : Int) ≤ 16 := by omega
    clear hh e1 e2 e3 r1 r2 HRl hr HE
    generalize ((readN X (stOf X) : Nat) : Int) = st at *
    generalize ((readN X (clOf X) : Nat) : Int) = cl at *
    generalize ((readN X (mpOf X) : Nat) : Int) = mp at *
    generalize ((rnOf X : Nat) : Int) = rn at *
    generalize decide (GoodX X) = q at *
    go_enter Tryz.func101, Tryz.ntmps101
    go_wp2_with fail
    refine (HC.out _).mono ?_
    rintro e w1 ⟨rfl, hb⟩
    have B1 := Lib.hid hb
    clear hb HC
    go_wp2_with fail
    generalize hW1 : w1.alloc (.cells #[.int .i64 st, .int .i64 cl, .int .u32 mp, .int .i64 rn] 74) = W1 at *
    have HA : Hid (W1.heap[w1.heap.size]? = some (.cells #[.int .i64 st, .int .i64 cl, .int .u32 mp, .int .i64 rn] 74 (0, 0))) := by rw [← hW1]; exact heap_alloc_new w1 _
    have BW : Hid (Below w.heap.size w W1) := by rw [← hW1]; exact B1.out.alloc B1.out.size _
    clear hW1
    have hwr : IntKind.i64.wrap (rn * 16) = rn * 16 := IntWalk.i64_in _ (by omega)
    have x0 : W1.cell? ⟨w1.heap.size, 0, none⟩ = some (.int .i64 st) ∧ W1.cell? ⟨w1.heap.size, 1, none⟩ = some (.int .i64 cl) ∧ W1.cell? ⟨w1.heap.size, 2, none⟩ = some (.int .u32 mp) ∧ W1.cell? ⟨w1.heap.size, 3, none⟩ = some (.int .i64 rn) := ⟨blkc HA.out 0 rfl, blkc HA.out 1 rfl, blkc HA.out 2 rfl, blkc HA.out 3 rfl⟩
    have x0d : W1.drew.cell? ⟨w1.heap.size, 0, none⟩ = some (.int .i64 st) ∧ W1.drew.cell? ⟨w1.heap.size, 1, none⟩ = some (.int .i64 cl) ∧ W1.drew.cell? ⟨w1.heap.size, 2, none⟩ = some (.int .u32 mp) ∧ W1.drew.cell? ⟨w1.heap.size, 3, none⟩ = some (.int .i64 rn) := x0
    have D0 : Hid (Below W1.heap.size W1 W1.drew) := (Below.refl _ _).drew
    have xS : Hid (∀ w', Below W1.heap.size W1 w' → w'.cell? ⟨w1.heap.size, 0, none⟩ = some (.int .i64 st) ∧ w'.cell? ⟨w1.heap.size, 1, none⟩ = some (.int .i64 cl) ∧ w'.cell? ⟨w1.heap.size, 2, none⟩ = some (.int .u32 mp) ∧ w'.cell? ⟨w1.heap.size, 3, none⟩ = some (.int .i64 rn)) := fun w' hb => ⟨later_at0 hb x0.1, later_at0 hb x0.2.1, later_at0 hb x0.2.2.1, later_at0 hb x0.2.2.2⟩
    have CC0 : Hid (∀ W', Below W1.heap.size W1 W' → Calls Tryz.prog 83 #[] W' fun e w' => e = .returned (.int .u32 3145728) ∧ Hid (Below W1.heap.size W1 w') ∧ (w'.cell? ⟨w1.heap.size, 0, none⟩ = some (.int .i64 st) ∧ w'.cell? ⟨w1.heap.size, 1, none⟩ = some (.int .i64 cl) ∧ w'.cell? ⟨w1.heap.size, 2, none⟩ = some (.int .u32 mp) ∧ w'.cell? ⟨w1.heap.size, 3, none⟩ = some (.int .i64 rn))) := fun W' hb => (HW.out W').mono fun e w' ⟨he, hb2⟩ => ⟨he, hb.trans (hb2.mono hb.size), xS.out w' (hb.trans (hb2.mono hb.size))⟩
    go_cut [4, 5, 6] (fun sa sb sc wx => sa = .int .u32 3145728 ∧ sb = .int .i64 (rn * 16) ∧ sc = .bool true ∧ Hid (Below W1.heap.size W1 wx))
    case first =>
      go_region_held3 (fun w' => w'.cell? ⟨w1.heap.size, 0, none⟩ = some (.int .i64 st) ∧ w'.cell? ⟨w1.heap.size, 1, none⟩ = some (.int .i64 cl) ∧ w'.cell? ⟨w1.heap.size, 2, none⟩ = some (.int .u32 mp) ∧ w'.cell? ⟨w1.heap.size, 3, none⟩ = some (.int .i64 rn))
        (first | exact x0 | exact x0d | exact xc0)
        (first | (go_at_call 83; (with_reducible refine (CC0.out _ D0.out).mono ?_); rintro e wc0 ⟨rfl, BC0, xc0⟩))
      all_goals (go_wp2_with fail; go_meet; exact ⟨rfl, rfl, rfl, BC0⟩)
    case rest =>
      obtain ⟨rfl, rfl, rfl, HB2⟩ := hcut
      go_wp2
      go_ret3
      exact ⟨rfl, BW.out.trans (HB2.out.mono BW.out.size)⟩
  · obtain ⟨e1, e2, e3⟩ := fr_rel hh
    rw [e1, e2, e3]
    have hc : (((readN X (stOf X) : Nat) : Int) == 2) = false ∨ ((((readN X (stOf X) : Nat) : Int) == 2) = true ∧ (off == 0) = false) := by
      by_cases h2 : readN X (stOf X) = 2
      · right
        refine ⟨by simp [h2], ?_⟩
        have hg : GoodX X := by
          refine Decidable.byContradiction fun hn => ?_
          rw [readN, if_neg hn] at h2; omega
        have hst : stOf X = 2 := by rwa [readN, if_pos hg] at h2
        have : ¬ off = 0 := fun h => hh ⟨hg, hst, h⟩
        simpa using this
      · left; simp; omega
    clear hh e1 e2 e3 HW
    generalize ((readN X (stOf X) : Nat) : Int) = st at *
    generalize ((readN X (clOf X) : Nat) : Int) = cl at *
    generalize ((readN X (mpOf X) : Nat) : Int) = mp at *
    generalize ((readN X (rnOf X) : Nat) : Int) = rn at *
    generalize decide (GoodX X) = q at *
    generalize ((relY X off : Nat) : Int) = ry at *
    generalize relS X off = rs at *
    generalize decide (RelOk X off) = rq at *
    rcases hc with hc | ⟨hc, hc2⟩
    all_goals
      go_enter Tryz.func101, Tryz.ntmps101
      go_wp2_with fail
      refine (HC.out _).mono ?_
      rintro e w1 ⟨rfl, hb⟩
      have B1 := Lib.hid hb
      clear hb HC
      go_wp2_with fail
      have B2 := Lib.hid (B1.out.alloc B1.out.size (.cells #[.int .i64 st, .int .i64 cl, .int .u32 mp, .int .i64 rn] 74))
      refine (HRl.out _).mono ?_
      rintro e w2 ⟨rfl, hb⟩
      have B3 := Lib.hid (B2.out.trans (hb.mono B2.out.size))
      clear hb HRl
      go_wp2
      go_ret3
      exact ⟨rfl, B3.out⟩

set_option maxRecDepth 100000 in
set_option maxHeartbeats 4000000 in
theorem givesWell_any (kd : Int) (A : Option Addr) (n c : Nat) (B : Option Addr) (m d td : Nat) (ph pr hd : Int) (sn : Nat) (vs : List Int) (Bv : Nat) (ch : Int) (w : World) (ht : td < 256) (h0 : td ≠ 0) (hv : RdK .i64 w Bv A n vs) (hB : Bv ≤ w.heap.size) (hn : n = 8) (hsn : sn < 4294967296) (hc0 : 0 ≤ ch) (hc1 : ch ≤ 16) (hv0 : 0 ≤ wantV vs td) (hv1 : wantV vs td ≤ 4095) (hp : (Lit.int .i64 pr).wf = true) :
    Calls Tryz.prog 92 #[.agg #[.int .i64 kd, .slice A n c, .slice B m d, .int .u32 (td : Int), .int .i64 ph, .int .i64 pr, .int .i64 hd, .int .u32 (sn : Int)], .int .i64 ch] w fun e w' => e = .returned (.bool (decide (GiveOk (wantV vs td) ph pr hd sn ch))) ∧ Below w.heap.size w w' := by
  have HL : Hid (∀ W, Below w.heap.size w W → Calls Tryz.prog 102 #[.agg #[.int .i64 kd, .slice A n c, .slice B m d, .int .u32 (td : Int), .int .i64 ph, .int .i64 pr, .int .i64 hd, .int .u32 (sn : Int)]] W fun e w' => e = .returned (.int .i64 (wantV vs td)) ∧ Below W.heap.size W w') := fun W hb => wanted_any kd A n c B m d td ph pr hd sn vs Bv W ht h0 (hv.below (hb.mono hB)) (Nat.le_trans hB hb.size) hn
  have HP := Lib.hid hp
  clear hv hB hn ht h0 hp
  generalize wantV vs td = v at *
  have BX := Lib.hid (bel1 w (.cells #[.int .i64 kd, .slice A n c, .slice B m d, .int .u32 (td : Int), .int .i64 ph, .int .i64 pr, .int .i64 hd, .int .u32 (sn : Int)] 49))
  by_cases p0 : ph = 0
  · have p0b : (ph == 0) = true := by simp [p0]
    have HR : Hid (decide (GiveOk v ph pr hd sn ch) = ((pr == 0) && (hd == 0) && ((sn : Int) == 0))) := by
      show _ = _
      rw [Bool.eq_iff_iff]
      simp only [decide_eq_true_iff, Bool.and_eq_true, beq_iff_eq]
      unfold GiveOk
      constructor
      · rintro (⟨_, b, cc, d⟩ | ⟨a, _⟩ | ⟨a, _⟩) <;> omega
      · rintro ⟨⟨b, cc⟩, d⟩; exact .inl ⟨p0, b, cc, by omega⟩
    clear p0 HL
    cases c1 : pr == 0 with
    | false =>
      rw [c1] at HR
      go_enter Tryz.func92, Tryz.ntmps92
      go_wp2
      go_ret
      exact ⟨by rw [HR.out]; rfl, BX.out⟩
    | true =>
      cases c2 : hd == 0 with
      | false =>
        rw [c1, c2] at HR
        go_enter Tryz.func92, Tryz.ntmps92
        go_wp2
        go_ret
        exact ⟨by rw [HR.out]; rfl, BX.out⟩
      | true =>
        cases c3 : ((sn : Int) == 0) with
        | false =>
          rw [c1, c2, c3] at HR
          go_enter Tryz.func92, Tryz.ntmps92
          go_wp2
          go_ret
          exact ⟨by rw [HR.out]; rfl, BX.out⟩
        | true =>
          rw [c1, c2, c3] at HR
          go_enter Tryz.func92, Tryz.ntmps92
          go_wp2
          go_ret
          exact ⟨by rw [HR.out]; rfl, BX.out⟩
  · have p0b : (ph == 0) = false := by simpa using p0
    by_cases p1 : ph = 1
    · have p1b : (ph == 1) = true := by simp [p1]
      have hr : v.tmod 16 = v % 16 := Int.tmod_eq_emod_of_nonneg hv0
      have HF := Lib.hid (fun W => freed_any sn (v % 16) W hsn)
      have HR : Hid (decide (GiveOk v ph pr hd sn ch) = ((pr == 0) && (hd == 0) && decide (v < 16 * ch) && decide (GivesX sn (v % 16)))) := by
        show _ = _
        rw [Bool.eq_iff_iff]
        simp only [decide_eq_true_iff, Bool.and_eq_true, beq_iff_eq]
        unfold GiveOk
        constructor
        · rintro (⟨a, _⟩ | ⟨_, b, cc, d, e⟩ | ⟨a, _⟩)
          · omega
          · exact ⟨⟨⟨b, cc⟩, d⟩, e⟩
          · omega
        · rintro ⟨⟨⟨b, cc⟩, d⟩, e⟩; exact .inr (.inl ⟨p1, b, cc, d, e⟩)
      clear p0 p1
      generalize decide (GivesX sn (v % 16)) = q at *
      generalize ((frY sn (v % 16) : Nat) : Int) = fy at *
      generalize frS sn (v % 16) = fs at *
      go_enter Tryz.func92, Tryz.ntmps92
      go_wp2_with fail
      generalize hW1 : w.alloc (.cells #[.int .i64 kd, .slice A n c, .slice B m d, .int .u32 (td : Int), .int .i64 ph, .int .i64 pr, .int .i64 hd, .int .u32 (sn : Int)] 49) = W1 at *
      have HA : Hid (WAt W1 w.heap.size kd A n c B m d td ph pr hd sn) := by rw [← hW1]; exact WAt.new w _ _ _ _ _ _ _ _ _ _ _ _
      clear hW1
      have x0 : W1.cell? ⟨w.heap.size, 0, none⟩ = some (.int .i64 kd) ∧ W1.cell? ⟨w.heap.size, 1, none⟩ = some (.slice A n c) ∧ W1.cell? ⟨w.heap.size, 2, none⟩ = some (.slice B m d) ∧ W1.cell? ⟨w.heap.size, 3, none⟩ = some (.int .u32 (td : Int)) ∧ W1.cell? ⟨w.heap.size, 4, none⟩ = some (.int .i64 ph) ∧ W1.cell? ⟨w.heap.size, 5, none⟩ = some (.int .i64 pr) ∧ W1.cell? ⟨w.heap.size, 6, none⟩ = some (.int .i64 hd) ∧ W1.cell? ⟨w.heap.size, 7, none⟩ = some (.int .u32 (sn : Int)) := ⟨HA.out.cells.1, HA.out.cells.2.1, HA.out.cells.2.2.1, HA.out.cells.2.2.2.1, HA.out.cells.2.2.2.2.1, HA.out.cells.2.2.2.2.2.1, HA.out.cells.2.2.2.2.2.2.1, HA.out.cells.2.2.2.2.2.2.2⟩
      have x0d : W1.drew.cell? ⟨w.heap.size, 0, none⟩ = some (.int .i64 kd) ∧ W1.drew.cell? ⟨w.heap.size, 1, none⟩ = some (.slice A n c) ∧ W1.drew.cell? ⟨w.heap.size, 2, none⟩ = some (.slice B m d) ∧ W1.drew.cell? ⟨w.heap.size, 3, none⟩ = some (.int .u32 (td : Int)) ∧ W1.drew.cell? ⟨w.heap.size, 4, none⟩ = some (.int .i64 ph) ∧ W1.drew.cell? ⟨w.heap.size, 5, none⟩ = some (.int .i64 pr) ∧ W1.drew.cell? ⟨w.heap.size, 6, none⟩ = some (.int .i64 hd) ∧ W1.drew.cell? ⟨w.heap.size, 7, none⟩ = some (.int .u32 (sn : Int)) := x0
      have D0 : Hid (Below W1.heap.size W1 W1.drew) := (Below.refl _ _).drew
      have xS : Hid (∀ w', Below W1.heap.size W1 w' → w'.cell? ⟨w.heap.size, 0, none⟩ = some (.int .i64 kd) ∧ w'.cell? ⟨w.heap.size, 1, none⟩ = some (.slice A n c) ∧ w'.cell? ⟨w.heap.size, 2, none⟩ = some (.slice B m d) ∧ w'.cell? ⟨w.heap.size, 3, none⟩ = some (.int .u32 (td : Int)) ∧ w'.cell? ⟨w.heap.size, 4, none⟩ = some (.int .i64 ph) ∧ w'.cell? ⟨w.heap.size, 5, none⟩ = some (.int .i64 pr) ∧ w'.cell? ⟨w.heap.size, 6, none⟩ = some (.int .i64 hd) ∧ w'.cell? ⟨w.heap.size, 7, none⟩ = some (.int .u32 (sn : Int))) := fun w' hb => ⟨later_at0 hb x0.1, later_at0 hb x0.2.1, later_at0 hb x0.2.2.1, later_at0 hb x0.2.2.2.1, later_at0 hb x0.2.2.2.2.1, later_at0 hb x0.2.2.2.2.2.1, later_at0 hb x0.2.2.2.2.2.2.1, later_at0 hb x0.2.2.2.2.2.2.2⟩
      have CC0 : Hid (∀ W', Below W1.heap.size W1 W' → Calls Tryz.prog 102 #[.agg #[.int .i64 kd, .slice A n c, .slice B m d, .int .u32 (td : Int), .int .i64 ph, .int .i64 pr, .int .i64 hd, .int .u32 (sn : Int)]] W' fun e w' => e = .returned (.int .i64 v) ∧ Hid (Below W1.heap.size W1 w') ∧ (w'.cell? ⟨w.heap.size, 0, none⟩ = some (.int .i64 kd) ∧ w'.cell? ⟨w.heap.size, 1, none⟩ = some (.slice A n c) ∧ w'.cell? ⟨w.heap.size, 2, none⟩ = some (.slice B m d) ∧ w'.cell? ⟨w.heap.size, 3, none⟩ = some (.int .u32 (td : Int)) ∧ w'.cell? ⟨w.heap.size, 4, none⟩ = some (.int .i64 ph) ∧ w'.cell? ⟨w.heap.size, 5, none⟩ = some (.int .i64 pr) ∧ w'.cell? ⟨w.heap.size, 6, none⟩ = some (.int .i64 hd) ∧ w'.cell? ⟨w.heap.size, 7, none⟩ = some (.int .u32 (sn : Int)))) := fun W' hb => (HL.out W' (BX.out.trans (hb.mono BX.out.size))).mono fun e w' ⟨he, hb2⟩ => ⟨he, hb.trans (hb2.mono hb.size), xS.out w' (hb.trans (hb2.mono hb.size))⟩
      have CC1 : Hid (∀ W', Below W1.heap.size W1 W' → Calls Tryz.prog 101 #[.int .u32 (sn : Int), .int .i64 (v % 16)] W' fun e w' => e = .returned (.tuple #[.int .u32 fy, .int .i64 fs, .bool q]) ∧ Hid (Below W1.heap.size W1 w') ∧ (w'.cell? ⟨w.heap.size, 0, none⟩ = some (.int .i64 kd) ∧ w'.cell? ⟨w.heap.size, 1, none⟩ = some (.slice A n c) ∧ w'.cell? ⟨w.heap.size, 2, none⟩ = some (.slice B m d) ∧ w'.cell? ⟨w.heap.size, 3, none⟩ = some (.int .u32 (td : Int)) ∧ w'.cell? ⟨w.heap.size, 4, none⟩ = some (.int .i64 ph) ∧ w'.cell? ⟨w.heap.size, 5, none⟩ = some (.int .i64 pr) ∧ w'.cell? ⟨w.heap.size, 6, none⟩ = some (.int .i64 hd) ∧ w'.cell? ⟨w.heap.size, 7, none⟩ = some (.int .u32 (sn : Int)))) := fun W' hb => (HF.out W').mono fun e w' ⟨he, hb2⟩ => ⟨he, hb.trans (hb2.mono hb.size), xS.out w' (hb.trans (hb2.mono hb.size))⟩
      go_cut [5, 6, 7] (fun sa sb sc wx => sc = .bool q ∧ Hid (Below W1.heap.size W1 wx))
      case first =>
        go_region_held3 (fun w' => w'.cell? ⟨w.heap.size, 0, none⟩ = some (.int .i64 kd) ∧ w'.cell? ⟨w.heap.size, 1, none⟩ = some (.slice A n c) ∧ w'.cell? ⟨w.heap.size, 2, none⟩ = some (.slice B m d) ∧ w'.cell? ⟨w.heap.size, 3, none⟩ = some (.int .u32 (td : Int)) ∧ w'.cell? ⟨w.heap.size, 4, none⟩ = some (.int .i64 ph) ∧ w'.cell? ⟨w.heap.size, 5, none⟩ = some (.int .i64 pr) ∧ w'.cell? ⟨w.heap.size, 6, none⟩ = some (.int .i64 hd) ∧ w'.cell? ⟨w.heap.size, 7, none⟩ = some (.int .u32 (sn : Int)))
          (first | exact x0 | exact x0d | exact xc0 | exact xc1)
          (first | (go_at_call 102; (with_reducible refine (CC0.out _ BC1.out).mono ?_); rintro e wc0 ⟨rfl, BC0, xc0⟩)
                 | (go_at_call 102; (with_reducible refine (CC0.out _ D0.out).mono ?_); rintro e wc0 ⟨rfl, BC0, xc0⟩)
                 | (go_at_call 101; (with_reducible refine (CC1.out _ BC0.out).mono ?_); rintro e wc1 ⟨rfl, BC1, xc1⟩)
                 | (go_at_call 101; (with_reducible refine (CC1.out _ D0.out).mono ?_); rintro e wc1 ⟨rfl, BC1, xc1⟩))
        all_goals (go_wp2_with fail; go_meet; exact ⟨rfl, BC1⟩)
      case rest =>
        obtain ⟨rfl, HB2⟩ := hcut
        generalize wc = W2 at *
        have HT2 : Hid (Below w.heap.size w W2) := BX.out.trans (HB2.out.mono BX.out.size)
        obtain ⟨ya, yb, yc, yd, ye, yf, yg, yh⟩ := xS.out W2 HB2.out
        clear x0 x0d xS CC0 CC1 HF
        cases c1 : pr == 0 with
        | false =>
          rw [c1] at HR
          go_wp2
          go_ret
          exact ⟨by rw [HR.out]; rfl, HT2.out⟩
        | true =>
          cases c2 : hd == 0 with
          | false =>
            rw [c1, c2] at HR
            go_wp2
            go_ret
            exact ⟨by rw [HR.out]; rfl, HT2.out⟩
          | true =>
            rw [c1, c2] at HR
            go_wp2_with fail
            refine (HL.out _ HT2.out).mono ?_
            rintro e w3 ⟨rfl, hb⟩
            have HT3 := Lib.hid (HT2.out.trans (hb.mono HT2.out.size))
            clear hb
            by_cases c3 : v < 16 * ch
            · rw [decide_eq_true c3] at HR
              go_wp2
              go_ret
              exact ⟨by rw [HR.out]; rfl, HT3.out⟩
            · rw [decide_eq_false c3] at HR
              go_wp2
              go_ret
              exact ⟨by rw [HR.out]; simp, HT3.out⟩
    · have p1b : (ph == 1) = false := by simpa using p1
      by_cases p2 : ph = 2
      · have p2b : (ph == 2) = true := by simp [p2]
        have HR : Hid (decide (GiveOk v ph pr hd sn ch) = (decide (0 < hd) && decide (0 ≤ pr) && decide (hd ≤ ch - pr) && ((sn : Int) == 0))) := by
          show _ = _
          rw [Bool.eq_iff_iff]
          simp only [decide_eq_true_iff, Bool.and_eq_true, beq_iff_eq]
          unfold GiveOk
          constructor
          · rintro (⟨a, _⟩ | ⟨a, _⟩ | ⟨a, b, cc, d, e⟩) <;> omega
          · rintro ⟨⟨⟨b, cc⟩, d⟩, e⟩; exact .inr (.inr ⟨p2, b, cc, d, by omega⟩)
        clear p0 p1 p2 HL
        by_cases c1 : 0 < hd
        · rw [decide_eq_true c1] at HR
          by_cases c2 : 0 ≤ pr
          · rw [decide_eq_true c2] at HR
            have hwp : IntKind.i64.wrap (ch - pr) = ch - pr := by
              have hb := int_of_wf HP.out
              exact IntWalk.i64_in _ (by omega)
            by_cases c3 : hd ≤ ch - pr
            · rw [decide_eq_true c3] at HR
              cases c4 : ((sn : Int) == 0) with
              | false =>
                rw [c4] at HR
                go_enter Tryz.func92, Tryz.ntmps92
                go_wp2
                go_ret
                exact ⟨by rw [HR.out]; rfl, BX.out⟩
              | true =>
                rw [c4] at HR
                go_enter Tryz.func92, Tryz.ntmps92
                go_wp2
                go_ret
                exact ⟨by rw [HR.out]; rfl, BX.out⟩
            · rw [decide_eq_false c3] at HR
              go_enter Tryz.func92, Tryz.ntmps92
              go_wp2
              go_ret
              exact ⟨by rw [HR.out]; simp, BX.out⟩
          · rw [decide_eq_false c2] at HR
            go_enter Tryz.func92, Tryz.ntmps92
            go_wp2
            go_ret
            exact ⟨by rw [HR.out]; simp, BX.out⟩
        · rw [decide_eq_false c1] at HR
          go_enter Tryz.func92, Tryz.ntmps92
          go_wp2
          go_ret
          exact ⟨by rw [HR.out]; simp, BX.out⟩
      · have p2b : (ph == 2) = false := by simpa using p2
        have HR : Hid (decide (GiveOk v ph pr hd sn ch) = false) := decide_eq_false (by
          rintro (⟨a, _⟩ | ⟨a, _⟩ | ⟨a, _⟩) <;> omega)
        clear p0 p1 p2 HL
        go_enter Tryz.func92, Tryz.ntmps92
        go_wp2
        go_ret
        exact ⟨by rw [HR.out]; rfl, BX.out⟩

end Go.Proofs.YtefcaeldkdbjdaaGreat
