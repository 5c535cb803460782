/- The contracts of the program's methods that tell whether a warp is valid: takesChunksWell. -/
import Derived.Test.YtefcaeldkdbjdaaGreatIWell
import Derived.IntWalk
import Derived.Test.YtefcaeldkdbjdaaGreatIRoom
import Derived.Deep.RegionWith
namespace Go.Proofs.YtefcaeldkdbjdaaGreat
open Go.RowKit
set_option linter.unusedVariables false

theorem chunksV_range (v : Int) : 0 ≤ chunksV v ∧ chunksV v ≤ 16 := by unfold chunksV; split <;> omega
/-- The first three conditions on a large request. -/
def L1 (r pr hd : Int) (sn : Nat) (ch : Int) : Prop := sn = 0 ∧ 0 ≤ pr ∧ pr ≤ ch ∧ 0 ≤ hd ∧ hd ≤ r
instance (r pr hd : Int) (sn : Nat) (ch : Int) : Decidable (L1 r pr hd sn ch) := inferInstanceAs (Decidable (_ ∧ _))
def L2 (r ph pr hd : Int) (ch : Int) : Prop := (0 < hd ∨ ph = 1) ∧ ch < pr + r
instance (r ph pr hd : Int) (ch : Int) : Decidable (L2 r ph pr hd ch) := inferInstanceAs (Decidable (_ ∧ _))
def LargeR (r ph pr hd : Int) (sn : Nat) (ch : Int) : Prop := L1 r pr hd sn ch ∧ ¬ L2 r ph pr hd ch ∧ (((ph = 0 ∨ ph = 1) ∧ hd < r) ∨ (ph = 2 ∧ 0 < hd) ∨ (ph = 3 ∧ hd = r))
instance (r ph pr hd : Int) (sn : Nat) (ch : Int) : Decidable (LargeR r ph pr hd sn ch) := inferInstanceAs (Decidable (_ ∧ _))
theorem large_iff (v ph pr hd : Int) (sn : Nat) (ch : Int) : LargeOk v ph pr hd sn ch ↔ LargeR (chunksV v) ph pr hd sn ch := by
  unfold LargeOk LargeR L1 L2
  constructor
  · rintro ⟨h1, h2, h3, h4, h5, h6, h7⟩
    exact ⟨⟨h1, h2, h3, h4, h5⟩, fun ⟨a, b⟩ => by have := h6 a; omega, h7⟩
  · rintro ⟨⟨h1, h2, h3, h4, h5⟩, h6, h7⟩
    exact ⟨h1, h2, h3, h4, h5, fun a => by have : ¬ (ch < pr + chunksV v) := fun b => h6 ⟨a, b⟩; omega, h7⟩

set_option maxRecDepth 100000 in
set_option maxHeartbeats 8000000 in
theorem takesChunks_any (kd : Int) (A : Option Addr) (n c : Nat) (B : Option Addr) (m d td : Nat) (ph pr hd : Int) (sn : Nat) (vs : List Int) (Bv : Nat) (ch : Int) (w : World) (ht : td < 256) (h0 : td ≠ 0) (hv : RdK .i64 w Bv A n vs) (hB : Bv ≤ w.heap.size) (hn : n = 8) (hc0 : 0 ≤ ch) (hc1 : ch ≤ 16) :
    Calls Tryz.prog 94 #[.agg #[.int .i64 kd, .slice A n c, .slice B m d, .int .u32 (td : Int), .int .i64 ph, .int .i64 pr, .int .i64 hd, .int .u32 (sn : Int)], .int .i64 ch] w fun e w' => e = .returned (.bool (decide (LargeOk (wantV vs td) ph pr hd sn ch))) ∧ Below w.heap.size w w' := by
  have HL : Hid (∀ W, Below w.heap.size w W → Calls Tryz.prog 103 #[.agg #[.int .i64 kd, .slice A n c, .slice B m d, .int .u32 (td : Int), .int .i64 ph, .int .i64 pr, .int .i64 hd, .int .u32 (sn : Int)]] W fun e w' => e = .returned (.int .i64 (chunksV (wantV vs td))) ∧ Below W.heap.size W w') := fun W hb => wrun_any kd A n c B m d td ph pr hd sn vs Bv W ht h0 (hv.below (hb.mono hB)) (Nat.le_trans hB hb.size) hn
  clear hv hB hn ht h0
  generalize wantV vs td = v at *
  have hEq : decide (LargeOk v ph pr hd sn ch) = decide (LargeR (chunksV v) ph pr hd sn ch) := decide_eq_decide.2 (large_iff v ph pr hd sn ch)
  rw [hEq]
  clear hEq
  obtain ⟨hr0, hr1⟩ := chunksV_range v
  generalize chunksV v = r at *
  go_enter Tryz.func94, Tryz.ntmps94
  go_wp2_with fail
  generalize hW1 : w.alloc (.cells #[.int .i64 kd, .slice A n c, .slice B m d, .int .u32 (td : Int), .int .i64 ph, .int .i64 pr, .int .i64 hd, .int .u32 (sn : Int)] 49) = W1 at *
  have HA : Hid (WAt W1 w.heap.size kd A n c B m d td ph pr hd sn) := by rw [← hW1]; exact WAt.new w _ _ _ _ _ _ _ _ _ _ _ _
  have HB1 : Hid (Below w.heap.size w W1) := by rw [← hW1]; exact (Below.refl _ _).alloc (Nat.le_refl _) _
  clear hW1
  have x0 : W1.cell? ⟨w.heap.size, 0, none⟩ = some (.int .i64 kd) ∧ W1.cell? ⟨w.heap.size, 1, none⟩ = some (.slice A n c) ∧ W1.cell? ⟨w.heap.size, 2, none⟩ = some (.slice B m d) ∧ W1.cell? ⟨w.heap.size, 3, none⟩ = some (.int .u32 (td : Int)) ∧ W1.cell? ⟨w.heap.size, 4, none⟩ = some (.int .i64 ph) ∧ W1.cell? ⟨w.heap.size, 5, none⟩ = some (.int .i64 pr) ∧ W1.cell? ⟨w.heap.size, 6, none⟩ = some (.int .i64 hd) ∧ W1.cell? ⟨w.heap.size, 7, none⟩ = some (.int .u32 (sn : Int)) := ⟨HA.out.cells.1, HA.out.cells.2.1, HA.out.cells.2.2.1, HA.out.cells.2.2.2.1, HA.out.cells.2.2.2.2.1, HA.out.cells.2.2.2.2.2.1, HA.out.cells.2.2.2.2.2.2.1, HA.out.cells.2.2.2.2.2.2.2⟩
  have x0d : W1.drew.cell? ⟨w.heap.size, 0, none⟩ = some (.int .i64 kd) ∧ W1.drew.cell? ⟨w.heap.size, 1, none⟩ = some (.slice A n c) ∧ W1.drew.cell? ⟨w.heap.size, 2, none⟩ = some (.slice B m d) ∧ W1.drew.cell? ⟨w.heap.size, 3, none⟩ = some (.int .u32 (td : Int)) ∧ W1.drew.cell? ⟨w.heap.size, 4, none⟩ = some (.int .i64 ph) ∧ W1.drew.cell? ⟨w.heap.size, 5, none⟩ = some (.int .i64 pr) ∧ W1.drew.cell? ⟨w.heap.size, 6, none⟩ = some (.int .i64 hd) ∧ W1.drew.cell? ⟨w.heap.size, 7, none⟩ = some (.int .u32 (sn : Int)) := x0
  have D0 : Hid (Below W1.heap.size W1 W1.drew) := (Below.refl _ _).drew
  have xS : Hid (∀ w', Below W1.heap.size W1 w' → w'.cell? ⟨w.heap.size, 0, none⟩ = some (.int .i64 kd) ∧ w'.cell? ⟨w.heap.size, 1, none⟩ = some (.slice A n c) ∧ w'.cell? ⟨w.heap.size, 2, none⟩ = some (.slice B m d) ∧ w'.cell? ⟨w.heap.size, 3, none⟩ = some (.int .u32 (td : Int)) ∧ w'.cell? ⟨w.heap.size, 4, none⟩ = some (.int .i64 ph) ∧ w'.cell? ⟨w.heap.size, 5, none⟩ = some (.int .i64 pr) ∧ w'.cell? ⟨w.heap.size, 6, none⟩ = some (.int .i64 hd) ∧ w'.cell? ⟨w.heap.size, 7, none⟩ = some (.int .u32 (sn : Int))) := fun w' hb => ⟨later_at0 hb x0.1, later_at0 hb x0.2.1, later_at0 hb x0.2.2.1, later_at0 hb x0.2.2.2.1, later_at0 hb x0.2.2.2.2.1, later_at0 hb x0.2.2.2.2.2.1, later_at0 hb x0.2.2.2.2.2.2.1, later_at0 hb x0.2.2.2.2.2.2.2⟩
  have CC0 : Hid (∀ W', Below W1.heap.size W1 W' → Calls Tryz.prog 103 #[.agg #[.int .i64 kd, .slice A n c, .slice B m d, .int .u32 (td : Int), .int .i64 ph, .int .i64 pr, .int .i64 hd, .int .u32 (sn : Int)]] W' fun e w' => e = .returned (.int .i64 r) ∧ Hid (Below W1.heap.size W1 w') ∧ (w'.cell? ⟨w.heap.size, 0, none⟩ = some (.int .i64 kd) ∧ w'.cell? ⟨w.heap.size, 1, none⟩ = some (.slice A n c) ∧ w'.cell? ⟨w.heap.size, 2, none⟩ = some (.slice B m d) ∧ w'.cell? ⟨w.heap.size, 3, none⟩ = some (.int .u32 (td : Int)) ∧ w'.cell? ⟨w.heap.size, 4, none⟩ = some (.int .i64 ph) ∧ w'.cell? ⟨w.heap.size, 5, none⟩ = some (.int .i64 pr) ∧ w'.cell? ⟨w.heap.size, 6, none⟩ = some (.int .i64 hd) ∧ w'.cell? ⟨w.heap.size, 7, none⟩ = some (.int .u32 (sn : Int)))) := fun W' hb => (HL.out W' (HB1.out.trans (hb.mono HB1.out.size))).mono fun e w' ⟨he, hb2⟩ => ⟨he, hb.trans (hb2.mono hb.size), xS.out w' (hb.trans (hb2.mono hb.size))⟩
  go_cut [30] (fun s wx => s = .bool (!decide (L1 r pr hd sn ch)) ∧ Hid (Below W1.heap.size W1 wx))
  case first =>
    by_cases e1 : sn = 0
    · have e1b : ((sn : Int) != 0) = false := by simp [e1]
      have E1 := Lib.hid e1
      clear e1
      by_cases e2 : pr < 0
      · have e2b : decide (pr < 0) = true := by simpa using e2
        have HQ : Hid ((!decide (L1 r pr hd sn ch)) = true) := by show _ = _; rw [decide_eq_false (fun h : L1 r pr hd sn ch => by obtain ⟨a, b, cc, dd, ee⟩ := h; omega)]; rfl
        obtain ⟨ya, yb, yc, yd, ye, yf, yg, yh⟩ := x0
        clear x0d xS CC0 HL
        go_quiet ((fail))
        go_wp2_with fail
        go_meet
        exact ⟨(by first | (rw [HQ.out]; done) | (rw [HQ.out]; rfl)), bel_drewN (Below.refl _ _) _⟩

      · have e2b : decide (pr < 0) = false := by simpa using e2
        by_cases e3 : ch < pr
        · have e3b : decide (ch < pr) = true := by simpa using e3
          have HQ : Hid ((!decide (L1 r pr hd sn ch)) = true) := by show _ = _; rw [decide_eq_false (fun h : L1 r pr hd sn ch => by obtain ⟨a, b, cc, dd, ee⟩ := h; omega)]; rfl
          obtain ⟨ya, yb, yc, yd, ye, yf, yg, yh⟩ := x0
          clear x0d xS CC0 HL
          go_quiet ((fail))
          go_wp2_with fail
          go_meet
          exact ⟨(by first | (rw [HQ.out]; done) | (rw [HQ.out]; rfl)), bel_drewN (Below.refl _ _) _⟩

        · have e3b : decide (ch < pr) = false := by simpa using e3
          by_cases e4 : hd < 0
          · have e4b : decide (hd < 0) = true := by simpa using e4
            have HQ : Hid ((!decide (L1 r pr hd sn ch)) = true) := by show _ = _; rw [decide_eq_false (fun h : L1 r pr hd sn ch => by obtain ⟨a, b, cc, dd, ee⟩ := h; omega)]; rfl
            obtain ⟨ya, yb, yc, yd, ye, yf, yg, yh⟩ := x0
            clear x0d xS CC0 HL
            go_quiet ((fail))
            go_wp2_with fail
            go_meet
            exact ⟨(by first | (rw [HQ.out]; done) | (rw [HQ.out]; rfl)), bel_drewN (Below.refl _ _) _⟩

          · have e4b : decide (hd < 0) = false := by simpa using e4
            have HQ : Hid ((!decide (L1 r pr hd sn ch)) = decide (r < hd)) := by
              show _ = _
              by_cases h : r < hd
              · rw [decide_eq_true h, decide_eq_false (fun h1 => by have := h1.2.2.2.2; omega)]; rfl
              · rw [decide_eq_false h, decide_eq_true (show L1 r pr hd sn ch from ⟨E1.out, by omega, by omega, by omega, by omega⟩)]; rfl
            generalize hq : (!decide (L1 r pr hd sn ch)) = q at *
            clear hq
            go_region_held3 (fun w' => w'.cell? ⟨w.heap.size, 0, none⟩ = some (.int .i64 kd) ∧ w'.cell? ⟨w.heap.size, 1, none⟩ = some (.slice A n c) ∧ w'.cell? ⟨w.heap.size, 2, none⟩ = some (.slice B m d) ∧ w'.cell? ⟨w.heap.size, 3, none⟩ = some (.int .u32 (td : Int)) ∧ w'.cell? ⟨w.heap.size, 4, none⟩ = some (.int .i64 ph) ∧ w'.cell? ⟨w.heap.size, 5, none⟩ = some (.int .i64 pr) ∧ w'.cell? ⟨w.heap.size, 6, none⟩ = some (.int .i64 hd) ∧ w'.cell? ⟨w.heap.size, 7, none⟩ = some (.int .u32 (sn : Int)))
              (first | exact x0 | exact x0d | exact xc0)
              (first | (go_at_call 103; (with_reducible refine (CC0.out _ D0.out).mono ?_); rintro e wc0 ⟨rfl, BC0, xc0⟩))
            all_goals (go_wp2_with fail; go_meet; exact ⟨(by first | (rw [HQ.out]; done) | (rw [HQ.out]; rfl)), BC0⟩)
    · have e1b : ((sn : Int) != 0) = true := by simp; omega
      have HQ : Hid ((!decide (L1 r pr hd sn ch)) = true) := by show _ = _; rw [decide_eq_false (fun h : L1 r pr hd sn ch => by obtain ⟨a, b, cc, dd, ee⟩ := h; omega)]; rfl
      obtain ⟨ya, yb, yc, yd, ye, yf, yg, yh⟩ := x0
      clear x0d xS CC0 HL
      go_quiet ((fail))
      go_wp2_with fail
      go_meet
      exact ⟨(by first | (rw [HQ.out]; done) | (rw [HQ.out]; rfl)), bel_drewN (Below.refl _ _) _⟩

  case rest =>
    obtain ⟨rfl, HB2⟩ := hcut
    generalize wc = W2 at *
    have HT2 : Hid (Below w.heap.size w W2) := HB1.out.trans (HB2.out.mono HB1.out.size)
    have y2 := xS.out W2 HB2.out
    clear x0 x0d xS CC0
    by_cases h1 : L1 r pr hd sn ch
    · have g1 : decide (L1 r pr hd sn ch) = true := decide_eq_true h1
      have HP : Hid (∀ X : Prop, (L1 r pr hd sn ch ∧ X) ↔ X) := fun X => ⟨fun h => h.2, fun h => ⟨h1, h⟩⟩
      obtain ⟨s0, p0, p1, p2, p3⟩ := h1
      rw [g1]
      clear g1 s0
      go_wp2_with fail
      have x0b : W2.cell? ⟨w.heap.size, 0, none⟩ = some (.int .i64 kd) ∧ W2.cell? ⟨w.heap.size, 1, none⟩ = some (.slice A n c) ∧ W2.cell? ⟨w.heap.size, 2, none⟩ = some (.slice B m d) ∧ W2.cell? ⟨w.heap.size, 3, none⟩ = some (.int .u32 (td : Int)) ∧ W2.cell? ⟨w.heap.size, 4, none⟩ = some (.int .i64 ph) ∧ W2.cell? ⟨w.heap.size, 5, none⟩ = some (.int .i64 pr) ∧ W2.cell? ⟨w.heap.size, 6, none⟩ = some (.int .i64 hd) ∧ W2.cell? ⟨w.heap.size, 7, none⟩ = some (.int .u32 (sn : Int)) := ⟨y2.1, y2.2.1, y2.2.2.1, y2.2.2.2.1, y2.2.2.2.2.1, y2.2.2.2.2.2.1, y2.2.2.2.2.2.2.1, y2.2.2.2.2.2.2.2⟩
      have x0db : W2.drew.cell? ⟨w.heap.size, 0, none⟩ = some (.int .i64 kd) ∧ W2.drew.cell? ⟨w.heap.size, 1, none⟩ = some (.slice A n c) ∧ W2.drew.cell? ⟨w.heap.size, 2, none⟩ = some (.slice B m d) ∧ W2.drew.cell? ⟨w.heap.size, 3, none⟩ = some (.int .u32 (td : Int)) ∧ W2.drew.cell? ⟨w.heap.size, 4, none⟩ = some (.int .i64 ph) ∧ W2.drew.cell? ⟨w.heap.size, 5, none⟩ = some (.int .i64 pr) ∧ W2.drew.cell? ⟨w.heap.size, 6, none⟩ = some (.int .i64 hd) ∧ W2.drew.cell? ⟨w.heap.size, 7, none⟩ = some (.int .u32 (sn : Int)) := x0b
      have D0b : Hid (Below W2.heap.size W2 W2.drew) := (Below.refl _ _).drew
      have xSb : Hid (∀ w', Below W2.heap.size W2 w' → w'.cell? ⟨w.heap.size, 0, none⟩ = some (.int .i64 kd) ∧ w'.cell? ⟨w.heap.size, 1, none⟩ = some (.slice A n c) ∧ w'.cell? ⟨w.heap.size, 2, none⟩ = some (.slice B m d) ∧ w'.cell? ⟨w.heap.size, 3, none⟩ = some (.int .u32 (td : Int)) ∧ w'.cell? ⟨w.heap.size, 4, none⟩ = some (.int .i64 ph) ∧ w'.cell? ⟨w.heap.size, 5, none⟩ = some (.int .i64 pr) ∧ w'.cell? ⟨w.heap.size, 6, none⟩ = some (.int .i64 hd) ∧ w'.cell? ⟨w.heap.size, 7, none⟩ = some (.int .u32 (sn : Int))) := fun w' hb => ⟨later_at0 hb x0b.1, later_at0 hb x0b.2.1, later_at0 hb x0b.2.2.1, later_at0 hb x0b.2.2.2.1, later_at0 hb x0b.2.2.2.2.1, later_at0 hb x0b.2.2.2.2.2.1, later_at0 hb x0b.2.2.2.2.2.2.1, later_at0 hb x0b.2.2.2.2.2.2.2⟩
      have CC0b : Hid (∀ W', Below W2.heap.size W2 W' → Calls Tryz.prog 103 #[.agg #[.int .i64 kd, .slice A n c, .slice B m d, .int .u32 (td : Int), .int .i64 ph, .int .i64 pr, .int .i64 hd, .int .u32 (sn : Int)]] W' fun e w' => e = .returned (.int .i64 r) ∧ Hid (Below W2.heap.size W2 w') ∧ (w'.cell? ⟨w.heap.size, 0, none⟩ = some (.int .i64 kd) ∧ w'.cell? ⟨w.heap.size, 1, none⟩ = some (.slice A n c) ∧ w'.cell? ⟨w.heap.size, 2, none⟩ = some (.slice B m d) ∧ w'.cell? ⟨w.heap.size, 3, none⟩ = some (.int .u32 (td : Int)) ∧ w'.cell? ⟨w.heap.size, 4, none⟩ = some (.int .i64 ph) ∧ w'.cell? ⟨w.heap.size, 5, none⟩ = some (.int .i64 pr) ∧ w'.cell? ⟨w.heap.size, 6, none⟩ = some (.int .i64 hd) ∧ w'.cell? ⟨w.heap.size, 7, none⟩ = some (.int .u32 (sn : Int)))) := fun W' hb => (HL.out W' (HT2.out.trans (hb.mono HT2.out.size))).mono fun e w' ⟨he, hb2⟩ => ⟨he, hb.trans (hb2.mono hb.size), xSb.out w' (hb.trans (hb2.mono hb.size))⟩
      go_cut [47] (fun s wx => s = .bool (decide (L2 r ph pr hd ch)) ∧ Hid (Below W2.heap.size W2 wx))
      case first =>
        by_cases e5 : 0 < hd
        · have e5b : decide (0 < hd) = true := by simpa using e5
          have HQ : Hid (decide (L2 r ph pr hd ch) = decide (ch < pr + r)) := decide_eq_decide.2 ⟨fun h => h.2, fun h => ⟨.inl e5, h⟩⟩
          have hw : IntKind.i64.wrap (pr + r) = pr + r := IntWalk.i64_in _ (by omega)
          generalize hq : decide (L2 r ph pr hd ch) = q at *
          clear hq
          obtain ⟨ya, yb, yc, yd, ye, yf, yg, yh⟩ := x0b
          clear x0db xSb HL
          first | (go_region_with (first | (go_at_call 103; (with_reducible refine (CC0b.out _ D0b.out).mono ?_); rintro e wc0b ⟨rfl, BC0b, xc0b⟩; obtain ⟨za, zb, zc, zd, ze, zf, zg, zh⟩ := xc0b))) | fail
          all_goals (go_wp2_with fail; go_meet; exact ⟨(by first | (rw [HQ.out]; done) | (rw [HQ.out]; rfl)), BC0b⟩)
        · have e5b : decide (0 < hd) = false := by simpa using e5
          by_cases e6 : ph = 1
          · have e6b : (ph == 1) = true := by simp [e6]
            have HQ : Hid (decide (L2 r ph pr hd ch) = decide (ch < pr + r)) := decide_eq_decide.2 ⟨fun h => h.2, fun h => ⟨.inr e6, h⟩⟩
            have hw : IntKind.i64.wrap (pr + r) = pr + r := IntWalk.i64_in _ (by omega)
            generalize hq : decide (L2 r ph pr hd ch) = q at *
            clear hq e6
            go_region_held3 (fun w' => w'.cell? ⟨w.heap.size, 0, none⟩ = some (.int .i64 kd) ∧ w'.cell? ⟨w.heap.size, 1, none⟩ = some (.slice A n c) ∧ w'.cell? ⟨w.heap.size, 2, none⟩ = some (.slice B m d) ∧ w'.cell? ⟨w.heap.size, 3, none⟩ = some (.int .u32 (td : Int)) ∧ w'.cell? ⟨w.heap.size, 4, none⟩ = some (.int .i64 ph) ∧ w'.cell? ⟨w.heap.size, 5, none⟩ = some (.int .i64 pr) ∧ w'.cell? ⟨w.heap.size, 6, none⟩ = some (.int .i64 hd) ∧ w'.cell? ⟨w.heap.size, 7, none⟩ = some (.int .u32 (sn : Int)))
              (first | exact x0b | exact x0db | exact xc0b)
              (first | (go_at_call 103; (with_reducible refine (CC0b.out _ D0b.out).mono ?_); rintro e wc0b ⟨rfl, BC0b, xc0b⟩))
            all_goals (go_wp2_with fail; go_meet; exact ⟨(by first | (rw [HQ.out]; done) | (rw [HQ.out]; rfl)), BC0b⟩)
          · have e6b : (ph == 1) = false := by simp; omega
            have HQ : Hid (decide (L2 r ph pr hd ch) = false) := decide_eq_false (by rintro ⟨h1, h2⟩; omega)
            clear e6
            obtain ⟨ya, yb, yc, yd, ye, yf, yg, yh⟩ := x0b
            clear x0db xSb CC0b HL
            go_quiet ((fail))
            go_wp2_with fail
            go_meet
            exact ⟨(by first | (rw [HQ.out]; done) | (rw [HQ.out]; rfl)), bel_drewN (Below.refl _ _) _⟩

      case rest =>
        obtain ⟨rfl, HB3⟩ := hcut
        generalize wc = W3 at *
        have HT3 : Hid (Below w.heap.size w W3) := HT2.out.trans (HB3.out.mono HT2.out.size)
        have y3 := xSb.out W3 HB3.out
        clear x0b x0db xSb CC0b y2
        by_cases h2 : L2 r ph pr hd ch
        · have HR : Hid (decide (LargeR r ph pr hd sn ch) = false) := decide_eq_false (fun h => h.2.1 h2)
          rw [decide_eq_true h2]
          clear h2 HP
          go_wp2
          go_ret
          exact ⟨by rw [HR.out]; rfl, HT3.out⟩
        · have HP2 : Hid (∀ X : Prop, (L1 r pr hd sn ch ∧ ¬ L2 r ph pr hd ch ∧ X) ↔ X) := fun X => (HP.out _).trans ⟨fun h => h.2, fun h => ⟨h2, h⟩⟩
          rw [decide_eq_false h2]
          clear h2 HP
          by_cases f0 : ph = 0 ∨ ph = 1
          · have HR : Hid (decide (LargeR r ph pr hd sn ch) = decide (hd < r)) := by
              refine decide_eq_decide.2 ((HP2.out _).trans ⟨fun h => by omega, fun h => .inl ⟨f0, h⟩⟩)
            clear HP2
            have fb : (ph == 0) = true ∨ (ph == 0) = false ∧ (ph == 1) = true := by rcases f0 with f0 | f0 <;> simp [f0]
            clear f0
            have y3' := y3
            obtain ⟨ya, yb, yc, yd, ye, yf, yg, yh⟩ := y3'
            rcases fb with fb | ⟨fb, fc⟩
            all_goals
              go_wp2_with fail
              have x0c : W3.cell? ⟨w.heap.size, 0, none⟩ = some (.int .i64 kd) ∧ W3.cell? ⟨w.heap.size, 1, none⟩ = some (.slice A n c) ∧ W3.cell? ⟨w.heap.size, 2, none⟩ = some (.slice B m d) ∧ W3.cell? ⟨w.heap.size, 3, none⟩ = some (.int .u32 (td : Int)) ∧ W3.cell? ⟨w.heap.size, 4, none⟩ = some (.int .i64 ph) ∧ W3.cell? ⟨w.heap.size, 5, none⟩ = some (.int .i64 pr) ∧ W3.cell? ⟨w.heap.size, 6, none⟩ = some (.int .i64 hd) ∧ W3.cell? ⟨w.heap.size, 7, none⟩ = some (.int .u32 (sn : Int)) := ⟨y3.1, y3.2.1, y3.2.2.1, y3.2.2.2.1, y3.2.2.2.2.1, y3.2.2.2.2.2.1, y3.2.2.2.2.2.2.1, y3.2.2.2.2.2.2.2⟩
              have x0dc : W3.drew.cell? ⟨w.heap.size, 0, none⟩ = some (.int .i64 kd) ∧ W3.drew.cell? ⟨w.heap.size, 1, none⟩ = some (.slice A n c) ∧ W3.drew.cell? ⟨w.heap.size, 2, none⟩ = some (.slice B m d) ∧ W3.drew.cell? ⟨w.heap.size, 3, none⟩ = some (.int .u32 (td : Int)) ∧ W3.drew.cell? ⟨w.heap.size, 4, none⟩ = some (.int .i64 ph) ∧ W3.drew.cell? ⟨w.heap.size, 5, none⟩ = some (.int .i64 pr) ∧ W3.drew.cell? ⟨w.heap.size, 6, none⟩ = some (.int .i64 hd) ∧ W3.drew.cell? ⟨w.heap.size, 7, none⟩ = some (.int .u32 (sn : Int)) := x0c
              have D0c : Hid (Below W3.heap.size W3 W3.drew) := (Below.refl _ _).drew
              have xSc : Hid (∀ w', Below W3.heap.size W3 w' → w'.cell? ⟨w.heap.size, 0, none⟩ = some (.int .i64 kd) ∧ w'.cell? ⟨w.heap.size, 1, none⟩ = some (.slice A n c) ∧ w'.cell? ⟨w.heap.size, 2, none⟩ = some (.slice B m d) ∧ w'.cell? ⟨w.heap.size, 3, none⟩ = some (.int .u32 (td : Int)) ∧ w'.cell? ⟨w.heap.size, 4, none⟩ = some (.int .i64 ph) ∧ w'.cell? ⟨w.heap.size, 5, none⟩ = some (.int .i64 pr) ∧ w'.cell? ⟨w.heap.size, 6, none⟩ = some (.int .i64 hd) ∧ w'.cell? ⟨w.heap.size, 7, none⟩ = some (.int .u32 (sn : Int))) := fun w' hb => ⟨later_at0 hb x0c.1, later_at0 hb x0c.2.1, later_at0 hb x0c.2.2.1, later_at0 hb x0c.2.2.2.1, later_at0 hb x0c.2.2.2.2.1, later_at0 hb x0c.2.2.2.2.2.1, later_at0 hb x0c.2.2.2.2.2.2.1, later_at0 hb x0c.2.2.2.2.2.2.2⟩
              have CC0c : Hid (∀ W', Below W3.heap.size W3 W' → Calls Tryz.prog 103 #[.agg #[.int .i64 kd, .slice A n c, .slice B m d, .int .u32 (td : Int), .int .i64 ph, .int .i64 pr, .int .i64 hd, .int .u32 (sn : Int)]] W' fun e w' => e = .returned (.int .i64 r) ∧ Hid (Below W3.heap.size W3 w') ∧ (w'.cell? ⟨w.heap.size, 0, none⟩ = some (.int .i64 kd) ∧ w'.cell? ⟨w.heap.size, 1, none⟩ = some (.slice A n c) ∧ w'.cell? ⟨w.heap.size, 2, none⟩ = some (.slice B m d) ∧ w'.cell? ⟨w.heap.size, 3, none⟩ = some (.int .u32 (td : Int)) ∧ w'.cell? ⟨w.heap.size, 4, none⟩ = some (.int .i64 ph) ∧ w'.cell? ⟨w.heap.size, 5, none⟩ = some (.int .i64 pr) ∧ w'.cell? ⟨w.heap.size, 6, none⟩ = some (.int .i64 hd) ∧ w'.cell? ⟨w.heap.size, 7, none⟩ = some (.int .u32 (sn : Int)))) := fun W' hb => (HL.out W' (HT3.out.trans (hb.mono HT3.out.size))).mono fun e w' ⟨he, hb2⟩ => ⟨he, hb.trans (hb2.mono hb.size), xSc.out w' (hb.trans (hb2.mono hb.size))⟩
              go_cut [4] (fun s wx => s = .bool (decide (hd < r)) ∧ Hid (Below W3.heap.size W3 wx))
              case first =>
                go_region_held3 (fun w' => w'.cell? ⟨w.heap.size, 0, none⟩ = some (.int .i64 kd) ∧ w'.cell? ⟨w.heap.size, 1, none⟩ = some (.slice A n c) ∧ w'.cell? ⟨w.heap.size, 2, none⟩ = some (.slice B m d) ∧ w'.cell? ⟨w.heap.size, 3, none⟩ = some (.int .u32 (td : Int)) ∧ w'.cell? ⟨w.heap.size, 4, none⟩ = some (.int .i64 ph) ∧ w'.cell? ⟨w.heap.size, 5, none⟩ = some (.int .i64 pr) ∧ w'.cell? ⟨w.heap.size, 6, none⟩ = some (.int .i64 hd) ∧ w'.cell? ⟨w.heap.size, 7, none⟩ = some (.int .u32 (sn : Int)))
                  (first | exact x0c | exact x0dc | exact xc0c)
                  (first | (go_at_call 103; (with_reducible refine (CC0c.out _ D0c.out).mono ?_); rintro e wc0c ⟨rfl, BC0c, xc0c⟩))
                all_goals (go_wp2_with fail; go_meet; exact ⟨rfl, BC0c⟩)
              case rest =>
                obtain ⟨rfl, HB4⟩ := hcut
                go_wp2
                go_ret
                exact ⟨by rw [HR.out]; rfl, HT3.out.trans (HB4.out.mono HT3.out.size)⟩
          · have f0b : (ph == 0) = false := by simp; omega
            have f1b : (ph == 1) = false := by simp; omega
            by_cases f2 : ph = 2
            · have HR : Hid (decide (LargeR r ph pr hd sn ch) = decide (0 < hd)) := by
                refine decide_eq_decide.2 ((HP2.out _).trans ⟨fun h => by omega, fun h => .inr (.inl ⟨f2, h⟩)⟩)
              clear HP2 f0
              have f2b : (ph == 2) = true := by simp [f2]
              clear f2 HL
              obtain ⟨ya, yb, yc, yd, ye, yf, yg, yh⟩ := y3
              go_wp2
              go_ret
              exact ⟨by rw [HR.out]; rfl, HT3.out⟩
            · have f2b : (ph == 2) = false := by simp; omega
              by_cases f3 : ph = 3
              · have HR : Hid (decide (LargeR r ph pr hd sn ch) = (hd == r)) := by
                  show _ = _
                  rw [Bool.eq_iff_iff, decide_eq_true_iff, beq_iff_eq]
                  exact (HP2.out _).trans ⟨fun h => by omega, fun h => .inr (.inr ⟨f3, h⟩)⟩
                clear HP2 f0 f2
                have f3b : (ph == 3) = true := by simp [f3]
                clear f3
                have y3' := y3
                obtain ⟨ya, yb, yc, yd, ye, yf, yg, yh⟩ := y3'
                go_wp2_with fail
                have x0c : W3.cell? ⟨w.heap.size, 0, none⟩ = some (.int .i64 kd) ∧ W3.cell? ⟨w.heap.size, 1, none⟩ = some (.slice A n c) ∧ W3.cell? ⟨w.heap.size, 2, none⟩ = some (.slice B m d) ∧ W3.cell? ⟨w.heap.size, 3, none⟩ = some (.int .u32 (td : Int)) ∧ W3.cell? ⟨w.heap.size, 4, none⟩ = some (.int .i64 ph) ∧ W3.cell? ⟨w.heap.size, 5, none⟩ = some (.int .i64 pr) ∧ W3.cell? ⟨w.heap.size, 6, none⟩ = some (.int .i64 hd) ∧ W3.cell? ⟨w.heap.size, 7, none⟩ = some (.int .u32 (sn : Int)) := ⟨y3.1, y3.2.1, y3.2.2.1, y3.2.2.2.1, y3.2.2.2.2.1, y3.2.2.2.2.2.1, y3.2.2.2.2.2.2.1, y3.2.2.2.2.2.2.2⟩
                have x0dc : W3.drew.cell? ⟨w.heap.size, 0, none⟩ = some (.int .i64 kd) ∧ W3.drew.cell? ⟨w.heap.size, 1, none⟩ = some (.slice A n c) ∧ W3.drew.cell? ⟨w.heap.size, 2, none⟩ = some (.slice B m d) ∧ W3.drew.cell? ⟨w.heap.size, 3, none⟩ = some (.int .u32 (td : Int)) ∧ W3.drew.cell? ⟨w.heap.size, 4, none⟩ = some (.int .i64 ph) ∧ W3.drew.cell? ⟨w.heap.size, 5, none⟩ = some (.int .i64 pr) ∧ W3.drew.cell? ⟨w.heap.size, 6, none⟩ = some (.int .i64 hd) ∧ W3.drew.cell? ⟨w.heap.size, 7, none⟩ = some (.int .u32 (sn : Int)) := x0c
                have D0c : Hid (Below W3.heap.size W3 W3.drew) := (Below.refl _ _).drew
                have xSc : Hid (∀ w', Below W3.heap.size W3 w' → w'.cell? ⟨w.heap.size, 0, none⟩ = some (.int .i64 kd) ∧ w'.cell? ⟨w.heap.size, 1, none⟩ = some (.slice A n c) ∧ w'.cell? ⟨w.heap.size, 2, none⟩ = some (.slice B m d) ∧ w'.cell? ⟨w.heap.size, 3, none⟩ = some (.int .u32 (td : Int)) ∧ w'.cell? ⟨w.heap.size, 4, none⟩ = some (.int .i64 ph) ∧ w'.cell? ⟨w.heap.size, 5, none⟩ = some (.int .i64 pr) ∧ w'.cell? ⟨w.heap.size, 6, none⟩ = some (.int .i64 hd) ∧ w'.cell? ⟨w.heap.size, 7, none⟩ = some (.int .u32 (sn : Int))) := fun w' hb => ⟨later_at0 hb x0c.1, later_at0 hb x0c.2.1, later_at0 hb x0c.2.2.1, later_at0 hb x0c.2.2.2.1, later_at0 hb x0c.2.2.2.2.1, later_at0 hb x0c.2.2.2.2.2.1, later_at0 hb x0c.2.2.2.2.2.2.1, later_at0 hb x0c.2.2.2.2.2.2.2⟩
                have CC0c : Hid (∀ W', Below W3.heap.size W3 W' → Calls Tryz.prog 103 #[.agg #[.int .i64 kd, .slice A n c, .slice B m d, .int .u32 (td : Int), .int .i64 ph, .int .i64 pr, .int .i64 hd, .int .u32 (sn : Int)]] W' fun e w' => e = .returned (.int .i64 r) ∧ Hid (Below W3.heap.size W3 w') ∧ (w'.cell? ⟨w.heap.size, 0, none⟩ = some (.int .i64 kd) ∧ w'.cell? ⟨w.heap.size, 1, none⟩ = some (.slice A n c) ∧ w'.cell? ⟨w.heap.size, 2, none⟩ = some (.slice B m d) ∧ w'.cell? ⟨w.heap.size, 3, none⟩ = some (.int .u32 (td : Int)) ∧ w'.cell? ⟨w.heap.size, 4, none⟩ = some (.int .i64 ph) ∧ w'.cell? ⟨w.heap.size, 5, none⟩ = some (.int .i64 pr) ∧ w'.cell? ⟨w.heap.size, 6, none⟩ = some (.int .i64 hd) ∧ w'.cell? ⟨w.heap.size, 7, none⟩ = some (.int .u32 (sn : Int)))) := fun W' hb => (HL.out W' (HT3.out.trans (hb.mono HT3.out.size))).mono fun e w' ⟨he, hb2⟩ => ⟨he, hb.trans (hb2.mono hb.size), xSc.out w' (hb.trans (hb2.mono hb.size))⟩
                go_cut [4] (fun s wx => s = .bool (hd == r) ∧ Hid (Below W3.heap.size W3 wx))
                case first =>
                  go_region_held3 (fun w' => w'.cell? ⟨w.heap.size, 0, none⟩ = some (.int .i64 kd) ∧ w'.cell? ⟨w.heap.size, 1, none⟩ = some (.slice A n c) ∧ w'.cell? ⟨w.heap.size, 2, none⟩ = some (.slice B m d) ∧ w'.cell? ⟨w.heap.size, 3, none⟩ = some (.int .u32 (td : Int)) ∧ w'.cell? ⟨w.heap.size, 4, none⟩ = some (.int .i64 ph) ∧ w'.cell? ⟨w.heap.size, 5, none⟩ = some (.int .i64 pr) ∧ w'.cell? ⟨w.heap.size, 6, none⟩ = some (.int .i64 hd) ∧ w'.cell? ⟨w.heap.size, 7, none⟩ = some (.int .u32 (sn : Int)))
                    (first | exact x0c | exact x0dc | exact xc0c)
                    (first | (go_at_call 103; (with_reducible refine (CC0c.out _ D0c.out).mono ?_); rintro e wc0c ⟨rfl, BC0c, xc0c⟩))
                  all_goals (go_wp2_with fail; go_meet; exact ⟨rfl, BC0c⟩)
                case rest =>
                  obtain ⟨rfl, HB4⟩ := hcut
                  go_wp2
                  go_ret
                  exact ⟨by rw [HR.out]; rfl, HT3.out.trans (HB4.out.mono HT3.out.size)⟩
              · have f3b : (ph == 3) = false := by simp; omega
                have HR : Hid (decide (LargeR r ph pr hd sn ch) = false) := by
                  refine decide_eq_false (fun h => ?_)
                  have := (HP2.out _).1 h
                  omega
                clear HP2 f0 f2 f3 HL
                obtain ⟨ya, yb, yc, yd, ye, yf, yg, yh⟩ := y3
                go_wp2
                go_ret
                exact ⟨by rw [HR.out]; rfl, HT3.out⟩
    · have g1 : decide (L1 r pr hd sn ch) = false := decide_eq_false h1
      have HR : Hid (decide (LargeR r ph pr hd sn ch) = false) := decide_eq_false (fun h => h1 h.1)
      rw [g1]
      clear g1 h1 HL
      go_wp2
      go_ret
      exact ⟨by rw [HR.out]; rfl, HT2.out⟩

end Go.Proofs.YtefcaeldkdbjdaaGreat
