/- The contracts of the program's methods that tell whether a warp is valid: isLarge, class, run, takesBlocksWell, takesChunksWell. -/
import Derived.Test.YtefcaeldkdbjdaaGreatIWarp
import Derived.Test.YtefcaeldkdbjdaaGreatIRoom
import Derived.Deep.RegionWith
namespace Go.Proofs.YtefcaeldkdbjdaaGreat
open Go.RowKit
set_option linter.unusedVariables false

set_option maxHeartbeats 400000 in
theorem isLarge_any (kd : Int) (A : Option Addr) (n c : Nat) (B : Option Addr) (m d td : Nat) (ph pr hd : Int) (sn : Nat) (vs : List Int) (Bv : Nat) (w : World) (ht : td < 256) (h0 : td ≠ 0) (hv : RdK .i64 w Bv A n vs) (hB : Bv ≤ w.heap.size) (hn : n = 8) :
    Calls Tryz.prog 93 #[.agg #[.int .i64 kd, .slice A n c, .slice B m d, .int .u32 (td : Int), .int .i64 ph, .int .i64 pr, .int .i64 hd, .int .u32 (sn : Int)]] w fun e w' => e = .returned (.bool (decide (16 < wantV vs td))) ∧ Below w.heap.size w w' := by
  have HL : Hid (∀ W, Below w.heap.size w W → Calls Tryz.prog 102 #[.agg #[.int .i64 kd, .slice A n c, .slice B m d, .int .u32 (td : Int), .int .i64 ph, .int .i64 pr, .int .i64 hd, .int .u32 (sn : Int)]] W fun e w' => e = .returned (.int .i64 (wantV vs td)) ∧ Below W.heap.size W w') := fun W hb => wanted_any kd A n c B m d td ph pr hd sn vs Bv W ht h0 (hv.below (hb.mono hB)) (Nat.le_trans hB hb.size) hn
  clear hv hB hn ht h0
  generalize wantV vs td = v at *
  go_enter Tryz.func93, Tryz.ntmps93
  go_wp2_with fail
  have HB0 : Hid (Below w.heap.size w (w.alloc (.cells #[.int .i64 kd, .slice A n c, .slice B m d, .int .u32 (td : Int), .int .i64 ph, .int .i64 pr, .int .i64 hd, .int .u32 (sn : Int)] 49))) := (Below.refl _ _).alloc (Nat.le_refl _) _
  refine (HL.out _ HB0.out).mono ?_
  rintro e w1 ⟨rfl, hb⟩
  have HB : Hid (Below w.heap.size w w1) := HB0.out.trans (hb.mono HB0.out.size)
  clear hb HB0
  go_wp2
  go_ret
  exact ⟨rfl, HB.out⟩

set_option maxHeartbeats 400000 in
theorem wclass_any (kd : Int) (A : Option Addr) (n c : Nat) (B : Option Addr) (m d td : Nat) (ph pr hd : Int) (sn : Nat) (vs : List Int) (Bv : Nat) (w : World) (ht : td < 256) (h0 : td ≠ 0) (hv : RdK .i64 w Bv A n vs) (hB : Bv ≤ w.heap.size) (hn : n = 8) :
    Calls Tryz.prog 105 #[.agg #[.int .i64 kd, .slice A n c, .slice B m d, .int .u32 (td : Int), .int .i64 ph, .int .i64 pr, .int .i64 hd, .int .u32 (sn : Int)]] w fun e w' => e = .returned (.int .i64 (classV (wantV vs td))) ∧ Below w.heap.size w w' := by
  have HL : Hid (∀ W, Below w.heap.size w W → Calls Tryz.prog 102 #[.agg #[.int .i64 kd, .slice A n c, .slice B m d, .int .u32 (td : Int), .int .i64 ph, .int .i64 pr, .int .i64 hd, .int .u32 (sn : Int)]] W fun e w' => e = .returned (.int .i64 (wantV vs td)) ∧ Below W.heap.size W w') := fun W hb => wanted_any kd A n c B m d td ph pr hd sn vs Bv W ht h0 (hv.below (hb.mono hB)) (Nat.le_trans hB hb.size) hn
  clear hv hB hn ht h0
  generalize wantV vs td = v at *
  go_enter Tryz.func105, Tryz.ntmps105
  go_wp2_with fail
  have HB0 : Hid (Below w.heap.size w (w.alloc (.cells #[.int .i64 kd, .slice A n c, .slice B m d, .int .u32 (td : Int), .int .i64 ph, .int .i64 pr, .int .i64 hd, .int .u32 (sn : Int)] 49))) := (Below.refl _ _).alloc (Nat.le_refl _) _
  refine (HL.out _ HB0.out).mono ?_
  rintro e w1 ⟨rfl, hb⟩
  have HB : Hid (Below w.heap.size w w1) := HB0.out.trans (hb.mono HB0.out.size)
  clear hb HB0
  have HC := Lib.hid (classOf_any v w1)
  go_wp2_with fail
  refine HC.out.mono ?_
  rintro e w2 ⟨rfl, rfl⟩
  go_wp2
  go_ret
  exact ⟨rfl, HB.out⟩

set_option maxHeartbeats 400000 in
theorem wrun_any (kd : Int) (A : Option Addr) (n c : Nat) (B : Option Addr) (m d td : Nat) (ph pr hd : Int) (sn : Nat) (vs : List Int) (Bv : Nat) (w : World) (ht : td < 256) (h0 : td ≠ 0) (hv : RdK .i64 w Bv A n vs) (hB : Bv ≤ w.heap.size) (hn : n = 8) :
    Calls Tryz.prog 103 #[.agg #[.int .i64 kd, .slice A n c, .slice B m d, .int .u32 (td : Int), .int .i64 ph, .int .i64 pr, .int .i64 hd, .int .u32 (sn : Int)]] w fun e w' => e = .returned (.int .i64 (chunksV (wantV vs td))) ∧ Below w.heap.size w w' := by
  have HL : Hid (∀ W, Below w.heap.size w W → Calls Tryz.prog 102 #[.agg #[.int .i64 kd, .slice A n c, .slice B m d, .int .u32 (td : Int), .int .i64 ph, .int .i64 pr, .int .i64 hd, .int .u32 (sn : Int)]] W fun e w' => e = .returned (.int .i64 (wantV vs td)) ∧ Below W.heap.size W w') := fun W hb => wanted_any kd A n c B m d td ph pr hd sn vs Bv W ht h0 (hv.below (hb.mono hB)) (Nat.le_trans hB hb.size) hn
  clear hv hB hn ht h0
  generalize wantV vs td = v at *
  go_enter Tryz.func103, Tryz.ntmps103
  go_wp2_with fail
  have HB0 : Hid (Below w.heap.size w (w.alloc (.cells #[.int .i64 kd, .slice A n c, .slice B m d, .int .u32 (td : Int), .int .i64 ph, .int .i64 pr, .int .i64 hd, .int .u32 (sn : Int)] 49))) := (Below.refl _ _).alloc (Nat.le_refl _) _
  refine (HL.out _ HB0.out).mono ?_
  rintro e w1 ⟨rfl, hb⟩
  have HB : Hid (Below w.heap.size w w1) := HB0.out.trans (hb.mono HB0.out.size)
  clear hb HB0
  have HC := Lib.hid (chunksFor_any v w1)
  go_wp2_with fail
  refine HC.out.mono ?_
  rintro e w2 ⟨rfl, rfl⟩
  go_wp2
  go_ret
  exact ⟨rfl, HB.out⟩

set_option maxRecDepth 100000 in
set_option maxHeartbeats 4000000 in
theorem takesBlocks_any (kd : Int) (A : Option Addr) (n c : Nat) (B : Option Addr) (m d td : Nat) (ph pr hd : Int) (sn : Nat) (vs : List Int) (Bv : Nat) (ch : Int) (w : World) (ht : td < 256) (h0 : td ≠ 0) (hv : RdK .i64 w Bv A n vs) (hB : Bv ≤ w.heap.size) (hn : n = 8) (hsn : sn < 4294967296) :
    Calls Tryz.prog 95 #[.agg #[.int .i64 kd, .slice A n c, .slice B m d, .int .u32 (td : Int), .int .i64 ph, .int .i64 pr, .int .i64 hd, .int .u32 (sn : Int)], .int .i64 ch] w fun e w' => e = .returned (.bool (decide (SmallOk (wantV vs td) ph pr hd sn ch))) ∧ Below w.heap.size w w' := by
  have HL : Hid (∀ W, Below w.heap.size w W → Calls Tryz.prog 105 #[.agg #[.int .i64 kd, .slice A n c, .slice B m d, .int .u32 (td : Int), .int .i64 ph, .int .i64 pr, .int .i64 hd, .int .u32 (sn : Int)]] W fun e w' => e = .returned (.int .i64 (classV (wantV vs td))) ∧ Below W.heap.size W w') := fun W hb => wclass_any kd A n c B m d td ph pr hd sn vs Bv W ht h0 (hv.below (hb.mono hB)) (Nat.le_trans hB hb.size) hn
  clear hv hB hn ht h0
  generalize wantV vs td = v at *
  by_cases e1 : hd = 0
  · subst e1
    by_cases e2 : pr < 0
    · have HR : Hid (decide (SmallOk v ph pr 0 sn ch) = false) := decide_eq_false (by rintro ⟨h1, h2, h3, h4⟩ <;> omega)
      clear HL
      go_enter Tryz.func95, Tryz.ntmps95
      go_wp2
      go_ret
      exact ⟨by rw [HR.out]; rfl, (Below.refl _ _).alloc (Nat.le_refl _) _⟩
    · by_cases e3 : ch < pr
      · have HR : Hid (decide (SmallOk v ph pr 0 sn ch) = false) := decide_eq_false (by rintro ⟨h1, h2, h3, h4⟩ <;> omega)
        clear HL
        go_enter Tryz.func95, Tryz.ntmps95
        go_wp2
        go_ret
        exact ⟨by rw [HR.out]; rfl, (Below.refl _ _).alloc (Nat.le_refl _) _⟩
      · by_cases e4 : ph = 0
        · subst e4
          by_cases e5 : sn = 0
          · subst e5
            have HR : Hid (decide (SmallOk v 0 pr 0 0 ch) = true) := decide_eq_true ⟨rfl, by omega, by omega, .inl ⟨rfl, rfl⟩⟩
            clear HL
            go_enter Tryz.func95, Tryz.ntmps95
            go_wp2
            go_ret
            exact ⟨by rw [HR.out]; rfl, (Below.refl _ _).alloc (Nat.le_refl _) _⟩
          · have e5b : ((sn : Int) == 0) = false := by simp; omega
            have HR : Hid (decide (SmallOk v 0 pr 0 sn ch) = false) := decide_eq_false (by rintro ⟨h1, h2, h3, (⟨h4, h5⟩ | ⟨h4, h5⟩)⟩ <;> omega)
            clear HL
            go_enter Tryz.func95, Tryz.ntmps95
            go_wp2
            go_ret
            exact ⟨by rw [HR.out]; rfl, (Below.refl _ _).alloc (Nat.le_refl _) _⟩
        · have e4b : (ph == 0) = false := by simp; omega
          by_cases e6 : ph = 1
          · subst e6
            clear e4 e4b
            by_cases e7 : pr < ch
            · have HRm := Lib.hid (fun W => room_any sn (classV v) W hsn)
              have HR : Hid (decide (SmallOk v 1 pr 0 sn ch) = decide (0 < roomV sn (classV v))) := by
                refine decide_eq_decide.2 ⟨fun h => ?_, fun h => ⟨rfl, by omega, by omega, .inr ⟨rfl, e7, by omega⟩⟩⟩
                obtain ⟨h1, h2, h3, (⟨h4, h5⟩ | ⟨h4, h5, h6⟩)⟩ := h <;> omega
              generalize roomV sn (classV v) = r at *
              generalize classV v = k at *
              go_enter Tryz.func95, Tryz.ntmps95
              go_wp2_with fail
              generalize hW1 : w.alloc (.cells #[.int .i64 kd, .slice A n c, .slice B m d, .int .u32 (td : Int), .int .i64 1, .int .i64 pr, .int .i64 0, .int .u32 (sn : Int)] 49) = W1 at *
              have HA : Hid (WAt W1 w.heap.size kd A n c B m d td 1 pr 0 sn) := by rw [← hW1]; exact WAt.new w _ _ _ _ _ _ _ _ _ _ _ _
              have HB1 : Hid (Below w.heap.size w W1) := by rw [← hW1]; exact (Below.refl _ _).alloc (Nat.le_refl _) _
              clear hW1
              have x0 : W1.cell? ⟨w.heap.size, 0, none⟩ = some (.int .i64 kd) ∧ W1.cell? ⟨w.heap.size, 1, none⟩ = some (.slice A n c) ∧ W1.cell? ⟨w.heap.size, 2, none⟩ = some (.slice B m d) ∧ W1.cell? ⟨w.heap.size, 3, none⟩ = some (.int .u32 (td : Int)) ∧ W1.cell? ⟨w.heap.size, 4, none⟩ = some (.int .i64 1) ∧ W1.cell? ⟨w.heap.size, 5, none⟩ = some (.int .i64 pr) ∧ W1.cell? ⟨w.heap.size, 6, none⟩ = some (.int .i64 0) ∧ W1.cell? ⟨w.heap.size, 7, none⟩ = some (.int .u32 (sn : Int)) := ⟨HA.out.cells.1, HA.out.cells.2.1, HA.out.cells.2.2.1, HA.out.cells.2.2.2.1, HA.out.cells.2.2.2.2.1, HA.out.cells.2.2.2.2.2.1, HA.out.cells.2.2.2.2.2.2.1, HA.out.cells.2.2.2.2.2.2.2⟩
              have x0d : W1.drew.cell? ⟨w.heap.size, 0, none⟩ = some (.int .i64 kd) ∧ W1.drew.cell? ⟨w.heap.size, 1, none⟩ = some (.slice A n c) ∧ W1.drew.cell? ⟨w.heap.size, 2, none⟩ = some (.slice B m d) ∧ W1.drew.cell? ⟨w.heap.size, 3, none⟩ = some (.int .u32 (td : Int)) ∧ W1.drew.cell? ⟨w.heap.size, 4, none⟩ = some (.int .i64 1) ∧ W1.drew.cell? ⟨w.heap.size, 5, none⟩ = some (.int .i64 pr) ∧ W1.drew.cell? ⟨w.heap.size, 6, none⟩ = some (.int .i64 0) ∧ W1.drew.cell? ⟨w.heap.size, 7, none⟩ = some (.int .u32 (sn : Int)) := x0
              have D0 : Hid (Below W1.heap.size W1 W1.drew) := (Below.refl _ _).drew
              have xS : Hid (∀ w', Below W1.heap.size W1 w' → w'.cell? ⟨w.heap.size, 0, none⟩ = some (.int .i64 kd) ∧ w'.cell? ⟨w.heap.size, 1, none⟩ = some (.slice A n c) ∧ w'.cell? ⟨w.heap.size, 2, none⟩ = some (.slice B m d) ∧ w'.cell? ⟨w.heap.size, 3, none⟩ = some (.int .u32 (td : Int)) ∧ w'.cell? ⟨w.heap.size, 4, none⟩ = some (.int .i64 1) ∧ w'.cell? ⟨w.heap.size, 5, none⟩ = some (.int .i64 pr) ∧ w'.cell? ⟨w.heap.size, 6, none⟩ = some (.int .i64 0) ∧ w'.cell? ⟨w.heap.size, 7, none⟩ = some (.int .u32 (sn : Int))) := fun w' hb => ⟨later_at0 hb x0.1, later_at0 hb x0.2.1, later_at0 hb x0.2.2.1, later_at0 hb x0.2.2.2.1, later_at0 hb x0.2.2.2.2.1, later_at0 hb x0.2.2.2.2.2.1, later_at0 hb x0.2.2.2.2.2.2.1, later_at0 hb x0.2.2.2.2.2.2.2⟩
              have CC0 : Hid (∀ W', Below W1.heap.size W1 W' → Calls Tryz.prog 105 #[.agg #[.int .i64 kd, .slice A n c, .slice B m d, .int .u32 (td : Int), .int .i64 1, .int .i64 pr, .int .i64 0, .int .u32 (sn : Int)]] W' fun e w' => e = .returned (.int .i64 k) ∧ Hid (Below W1.heap.size W1 w') ∧ (w'.cell? ⟨w.heap.size, 0, none⟩ = some (.int .i64 kd) ∧ w'.cell? ⟨w.heap.size, 1, none⟩ = some (.slice A n c) ∧ w'.cell? ⟨w.heap.size, 2, none⟩ = some (.slice B m d) ∧ w'.cell? ⟨w.heap.size, 3, none⟩ = some (.int .u32 (td : Int)) ∧ w'.cell? ⟨w.heap.size, 4, none⟩ = some (.int .i64 1) ∧ w'.cell? ⟨w.heap.size, 5, none⟩ = some (.int .i64 pr) ∧ w'.cell? ⟨w.heap.size, 6, none⟩ = some (.int .i64 0) ∧ w'.cell? ⟨w.heap.size, 7, none⟩ = some (.int .u32 (sn : Int)))) := fun W' hb => (HL.out W' (HB1.out.trans (hb.mono HB1.out.size))).mono fun e w' ⟨he, hb2⟩ => ⟨he, hb.trans (hb2.mono hb.size), xS.out w' (hb.trans (hb2.mono hb.size))⟩
              have CC1 : Hid (∀ W', Below W1.heap.size W1 W' → Calls Tryz.prog 104 #[.int .u32 (sn : Int), .int .i64 k] W' fun e w' => e = .returned (.int .i64 (r : Int)) ∧ Hid (Below W1.heap.size W1 w') ∧ (w'.cell? ⟨w.heap.size, 0, none⟩ = some (.int .i64 kd) ∧ w'.cell? ⟨w.heap.size, 1, none⟩ = some (.slice A n c) ∧ w'.cell? ⟨w.heap.size, 2, none⟩ = some (.slice B m d) ∧ w'.cell? ⟨w.heap.size, 3, none⟩ = some (.int .u32 (td : Int)) ∧ w'.cell? ⟨w.heap.size, 4, none⟩ = some (.int .i64 1) ∧ w'.cell? ⟨w.heap.size, 5, none⟩ = some (.int .i64 pr) ∧ w'.cell? ⟨w.heap.size, 6, none⟩ = some (.int .i64 0) ∧ w'.cell? ⟨w.heap.size, 7, none⟩ = some (.int .u32 (sn : Int)))) := fun W' hb => (HRm.out W').mono fun e w' ⟨he, hb2⟩ => ⟨he, hb.trans (hb2.mono hb.size), xS.out w' (hb.trans (hb2.mono hb.size))⟩
              go_cut [4] (fun s wx => s = .bool (decide (0 < r)) ∧ Hid (Below W1.heap.size W1 wx))
              case first =>
                go_region_held3 (fun w' => w'.cell? ⟨w.heap.size, 0, none⟩ = some (.int .i64 kd) ∧ w'.cell? ⟨w.heap.size, 1, none⟩ = some (.slice A n c) ∧ w'.cell? ⟨w.heap.size, 2, none⟩ = some (.slice B m d) ∧ w'.cell? ⟨w.heap.size, 3, none⟩ = some (.int .u32 (td : Int)) ∧ w'.cell? ⟨w.heap.size, 4, none⟩ = some (.int .i64 1) ∧ w'.cell? ⟨w.heap.size, 5, none⟩ = some (.int .i64 pr) ∧ w'.cell? ⟨w.heap.size, 6, none⟩ = some (.int .i64 0) ∧ w'.cell? ⟨w.heap.size, 7, none⟩ = some (.int .u32 (sn : Int)))
                  (first | exact x0 | exact x0d | exact xc0 | exact xc1)
                  (first | (go_at_call 105; (with_reducible refine (CC0.out _ BC1.out).mono ?_); rintro e wc0 ⟨rfl, BC0, xc0⟩)
                         | (go_at_call 105; (with_reducible refine (CC0.out _ D0.out).mono ?_); rintro e wc0 ⟨rfl, BC0, xc0⟩)
                         | (go_at_call 104; (with_reducible refine (CC1.out _ BC0.out).mono ?_); rintro e wc1 ⟨rfl, BC1, xc1⟩)
                         | (go_at_call 104; (with_reducible refine (CC1.out _ D0.out).mono ?_); rintro e wc1 ⟨rfl, BC1, xc1⟩))
                all_goals (go_wp2_with fail; go_meet; exact ⟨rfl, BC1⟩)
              case rest =>
                obtain ⟨rfl, HB2⟩ := hcut
                go_wp2
                go_ret
                exact ⟨by rw [HR.out]; rfl, HB1.out.trans (HB2.out.mono HB1.out.size)⟩
            · have HR : Hid (decide (SmallOk v 1 pr 0 sn ch) = false) := decide_eq_false (by rintro ⟨h1, h2, h3, (⟨h4, h5⟩ | ⟨h4, h5⟩)⟩ <;> omega)
              have e7b : decide (pr < ch) = false := by simpa using e7
              clear HL
              go_enter Tryz.func95, Tryz.ntmps95
              go_wp2
              go_quiet ((fail))
              go_wp2
              go_ret
              exact ⟨by rw [HR.out]; rfl, bel_drewN ((Below.refl _ _).alloc (Nat.le_refl _) _) _⟩
          · have e6b : (ph == 1) = false := by simp; omega
            have HR : Hid (decide (SmallOk v ph pr 0 sn ch) = false) := decide_eq_false (by rintro ⟨h1, h2, h3, (⟨h4, h5⟩ | ⟨h4, h5⟩)⟩ <;> omega)
            clear HL
            go_enter Tryz.func95, Tryz.ntmps95
            go_wp2
            go_ret
            exact ⟨by rw [HR.out]; rfl, (Below.refl _ _).alloc (Nat.le_refl _) _⟩
  · have e1b : (hd != 0) = true := by simp; omega
    have HR : Hid (decide (SmallOk v ph pr hd sn ch) = false) := decide_eq_false (by rintro ⟨h1, h2, h3, h4⟩ <;> omega)
    clear HL
    go_enter Tryz.func95, Tryz.ntmps95
    go_wp2
    go_ret
    exact ⟨by rw [HR.out]; rfl, (Below.refl _ _).alloc (Nat.le_refl _) _⟩

end Go.Proofs.YtefcaeldkdbjdaaGreat
