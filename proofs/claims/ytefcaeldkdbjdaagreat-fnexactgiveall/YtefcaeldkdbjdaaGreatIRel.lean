/- The contracts of TakenWords, of the program and of the model. -/
/- The contracts of BlockAt, of the program and of the model. -/
/- The contracts of Release, of the program and of the model. -/
import Derived.Test.YtefcaeldkdbjdaaGreatIRoom
import Derived.OwnWalk
import Derived.RegionTactic
namespace Go.Proofs.YtefcaeldkdbjdaaGreat
open Go.RowKit

/-- The four cells of a block that was made, in a later world. -/
theorem new4 {w1 W : World} {v0 v1 v2 v3 : Value} {t : TypeId} (h : Below (w1.heap.size + 1) (w1.alloc (.cells #[v0, v1, v2, v3] t)) W) :
    W.cell? ⟨w1.heap.size, 0, none⟩ = some v0 ∧ W.cell? ⟨w1.heap.size, 1, none⟩ = some v1 ∧ W.cell? ⟨w1.heap.size, 2, none⟩ = some v2 ∧ W.cell? ⟨w1.heap.size, 3, none⟩ = some v3 := by
  have hl : w1.heap.size < w1.heap.size + 1 := by omega
  exact ⟨(h.cell (p := ⟨w1.heap.size, 0, none⟩) hl).trans ((cell_of_row _ w1.heap.size 0 _ _ (0, 0) (heap_alloc_new w1 _)).trans rfl),
    (h.cell (p := ⟨w1.heap.size, 1, none⟩) hl).trans ((cell_of_row _ w1.heap.size 1 _ _ (0, 0) (heap_alloc_new w1 _)).trans rfl),
    (h.cell (p := ⟨w1.heap.size, 2, none⟩) hl).trans ((cell_of_row _ w1.heap.size 2 _ _ (0, 0) (heap_alloc_new w1 _)).trans rfl),
    (h.cell (p := ⟨w1.heap.size, 3, none⟩) hl).trans ((cell_of_row _ w1.heap.size 3 _ _ (0, 0) (heap_alloc_new w1 _)).trans rfl)⟩
theorem below_on {n : Nat} {w W W' : World} (hW : Below n w W) (hn : n ≤ w.heap.size) (hb : Below W.heap.size W W') : Below n w W' := hW.trans (hb.mono (Nat.le_trans hn hW.size))
theorem ones_le32 (X : Nat) : (onesTo X 32).length ≤ 32 := onesTo_len X 32
theorem mul_small {l : Nat} {s : Int} (hl : l ≤ 32) (h1 : 1 ≤ s) (h2 : s ≤ 16) : IntKind.i64.wrap ((l : Int) * s) = (l : Int) * s := by
  refine IntWalk.i64_in _ ?_
  have a : (0 : Int) ≤ (l : Int) * s := Int.mul_nonneg (by omega) (by omega)
  have b : (l : Int) * s ≤ 32 * s := Int.mul_le_mul_of_nonneg_right (by omega) (by omega)
  omega

end Go.Proofs.YtefcaeldkdbjdaaGreat

namespace Go.Proofs.YtefcaeldkdbjdaaGreat
open Go.RowKit

theorem at_no {X : Nat} {off : Int} (h : ¬ AtOk X off) : atV X off = 0 ∧ szV X off = 0 ∧ decide (AtOk X off) = false := ⟨if_neg h, if_neg h, decide_eq_false h⟩
theorem at_yes {X : Nat} {off : Int} (h : AtOk X off) : atV X off = off / sizeV (clOf X) * sizeV (clOf X) ∧ szV X off = sizeV (clOf X) ∧ decide (AtOk X off) = true := ⟨if_pos h, if_pos h, decide_eq_true h⟩
/-- The block of an offset: its number, and what the walks meet. -/
theorem at_block {s off : Int} (h1 : 1 ≤ s) (h2 : s ≤ 16) (h0 : 0 ≤ off) (h3 : off < 16) : ∃ b : Nat, off / s = (b : Int) ∧ (off / s).toNat = b ∧ b < 16 ∧ off.tdiv s = (b : Int) ∧ IntKind.i64.wrap ((b : Int) * s) = (b : Int) * s := by
  obtain ⟨a, b, c⟩ := div_block h1 h2 h0 h3
  refine ⟨(off / s).toNat, by omega, rfl, by omega, by omega, ?_⟩
  rw [show (((off / s).toNat : Nat) : Int) = off / s by omega]
  have h4 := Int.ediv_mul_le off (show s ≠ 0 by omega)
  have h5 : 0 ≤ off / s * s := Int.mul_nonneg a (by omega)
  exact IntWalk.i64_in _ (by omega)
theorem bit_val (M b : Nat) : (M / 2 ^ b % 2 : Nat) = if M.testBit b then 1 else 0 := by
  rw [Nat.testBit_eq_decide_div_mod_eq]
  by_cases h : M / 2 ^ b % 2 = 1
  · simp [h]
  · simp [h]; omega

set_option maxRecDepth 100000 in
set_option maxHeartbeats 2000000 in
theorem blockAt_any (X : Nat) (off : Int) (w : World) (hX : X < 4294967296) :
    Calls Tryz.prog 112 #[.int .u32 (X : Int), .int .i64 off] w fun e w' => e = .returned (.tuple #[.int .i64 (atV X off), .int .i64 (szV X off), .bool (decide (AtOk X off))]) ∧ Below w.heap.size w w' := by
  have HR := Lib.hid (fun W => ctlRead_any X W hX)
  by_cases hg : GoodX X
  · rw [read_good hg, decide_eq_true hg] at HR
    by_cases h1 : stOf X = 1
    · have h1' : ((stOf X : Nat) : Int) = 1 := by omega
      rw [h1'] at HR
      by_cases o0 : 0 ≤ off
      · by_cases o1 : off < 16
        · have hcl := (page_class hg h1).1
          have hsz := per_bounds hcl
          have HS := Lib.hid (fun W => classSize_any (clOf X) W)
          obtain ⟨b, q1, q2, q3, q4, q5⟩ := at_block hsz.2.2.2.2.1 hsz.2.2.2.2.2 o0 o1
          have hm := mp_lt X
          have hs0 : ¬ sizeV (clOf X) = 0 := by omega
          have o2 : ¬ off < 0 := by omega
          have o3 : ¬ 16 ≤ off := by omega
          have hbit := and_one (X := mpOf X) (k := b) (by omega)
          rw [bit_val] at hbit
          by_cases hbt : (mpOf X).testBit b = true
          · have hY : AtOk X off := ⟨hg, h1, o0, o1, by rw [q2]; exact hbt⟩
            obtain ⟨v1, v2, v3⟩ := at_yes hY
            rw [v1, v2, v3, q1]
            rw [if_pos hbt] at hbit
            clear hY v1 v2 v3
            clear hg h1 hX hcl hsz hbt hm h1' o0 o1 q1 q2
            generalize (mpOf X : Int) = m at *
            generalize (rnOf X : Int) = r at *
            generalize (clOf X : Int) = k at *
            generalize sizeV k = z at *
            go_enter Tryz.func112, Tryz.ntmps112
            go_wp2_with fail
            refine (HR.out _).mono ?_
            rintro e w1 ⟨rfl, hb⟩
            have HB := Lib.hid hb
            clear hb
            obtain ⟨_, x1, x2, _⟩ := new4 (Below.refl (w1.heap.size + 1) (w1.alloc (.cells #[.int .i64 1, .int .i64 k, .int .u32 m, .int .i64 r] 74)))
            go_wp2_with fail
            refine (HS.out _).mono ?_
            rintro e w2 ⟨rfl, rfl⟩
            go_wp2
            go_ret3
            exact ⟨rfl, HB.out.alloc HB.out.size _⟩
          · have hN : ¬ AtOk X off := fun h => hbt (by have := h.2.2.2.2; rwa [q2] at this)
            obtain ⟨v1, v2, v3⟩ := at_no hN
            rw [v1, v2, v3]
            rw [if_neg hbt] at hbit
            clear hN v1 v2 v3
            clear hg h1 hX hcl hsz hbt hm h1' o0 o1 q1 q2
            generalize (mpOf X : Int) = m at *
            generalize (rnOf X : Int) = r at *
            generalize (clOf X : Int) = k at *
            generalize sizeV k = z at *
            go_enter Tryz.func112, Tryz.ntmps112
            go_wp2_with fail
            refine (HR.out _).mono ?_
            rintro e w1 ⟨rfl, hb⟩
            have HB := Lib.hid hb
            clear hb
            obtain ⟨_, x1, x2, _⟩ := new4 (Below.refl (w1.heap.size + 1) (w1.alloc (.cells #[.int .i64 1, .int .i64 k, .int .u32 m, .int .i64 r] 74)))
            go_wp2_with fail
            refine (HS.out _).mono ?_
            rintro e w2 ⟨rfl, rfl⟩
            go_wp2
            go_ret3
            exact ⟨rfl, HB.out.alloc HB.out.size _⟩
        · have hN : ¬ AtOk X off := fun h => o1 h.2.2.2.1
          obtain ⟨v1, v2, v3⟩ := at_no hN
          rw [v1, v2, v3]
          have o2 : ¬ off < 0 := by omega
          have o3 : 16 ≤ off := by omega
          clear hN v1 v2 v3 hg h1 hX h1' o0 o1
          generalize (clOf X : Int) = k at *
          generalize (mpOf X : Int) = m at *
          generalize (rnOf X : Int) = r at *
          go_enter Tryz.func112, Tryz.ntmps112
          go_wp2_with fail
          refine (HR.out _).mono ?_
          rintro e w1 ⟨rfl, hb⟩
          have HB := Lib.hid hb
          clear hb
          go_wp2
          go_ret3
          exact ⟨rfl, HB.out.alloc HB.out.size _⟩
      · have hN : ¬ AtOk X off := fun h => o0 h.2.2.1
        obtain ⟨v1, v2, v3⟩ := at_no hN
        rw [v1, v2, v3]
        have o2 : off < 0 := by omega
        clear hN v1 v2 v3 hg h1 hX h1' o0
        generalize (clOf X : Int) = k at *
        generalize (mpOf X : Int) = m at *
        generalize (rnOf X : Int) = r at *
        go_enter Tryz.func112, Tryz.ntmps112
        go_wp2_with fail
        refine (HR.out _).mono ?_
        rintro e w1 ⟨rfl, hb⟩
        have HB := Lib.hid hb
        clear hb
        go_wp2
        go_ret3
        exact ⟨rfl, HB.out.alloc HB.out.size _⟩
    · have hN : ¬ AtOk X off := fun h => h1 h.2.1
      obtain ⟨v1, v2, v3⟩ := at_no hN
      rw [v1, v2, v3]
      have h1' : ¬ ((stOf X : Nat) : Int) = 1 := by omega
      clear hN v1 v2 v3 hg h1 hX
      generalize (stOf X : Int) = s at *
      generalize (clOf X : Int) = k at *
      generalize (mpOf X : Int) = m at *
      generalize (rnOf X : Int) = r at *
      go_enter Tryz.func112, Tryz.ntmps112
      go_wp2_with fail
      refine (HR.out _).mono ?_
      rintro e w1 ⟨rfl, hb⟩
      have HB := Lib.hid hb
      clear hb
      go_wp2
      go_ret3
      exact ⟨rfl, HB.out.alloc HB.out.size _⟩
  · rw [read_bad hg, decide_eq_false hg] at HR
    have hN : ¬ AtOk X off := fun h => hg h.1
    obtain ⟨v1, v2, v3⟩ := at_no hN
    rw [v1, v2, v3]
    clear hN v1 v2 v3 hg hX
    go_enter Tryz.func112, Tryz.ntmps112
    go_wp2_with fail
    refine (HR.out _).mono ?_
    rintro e w1 ⟨rfl, hb⟩
    have HB := Lib.hid hb
    clear hb
    go_wp2
    go_ret3
    exact ⟨rfl, HB.out.alloc HB.out.size _⟩

set_option maxRecDepth 100000 in
set_option maxHeartbeats 2000000 in
theorem sBlockAt_any (X : Nat) (off : Int) (w : World) (hX : X < 4294967296) :
    Calls Tryz.prog 79 #[.int .u32 (X : Int), .int .i64 off] w fun e w' => e = .returned (.tuple #[.int .i64 (atV X off), .int .i64 (szV X off), .bool (decide (AtOk X off))]) ∧ Below w.heap.size w w' := by
  have HR := Lib.hid (fun W => sCtlRead_any X W hX)
  by_cases hg : GoodX X
  · rw [read_good hg, decide_eq_true hg] at HR
    by_cases h1 : stOf X = 1
    · have h1' : ((stOf X : Nat) : Int) = 1 := by omega
      rw [h1'] at HR
      by_cases o0 : 0 ≤ off
      · by_cases o1 : off < 16
        · have hcl := (page_class hg h1).1
          have hsz := per_bounds hcl
          have HS := Lib.hid (fun W => sClassSize_any (clOf X) W)
          obtain ⟨b, q1, q2, q3, q4, q5⟩ := at_block hsz.2.2.2.2.1 hsz.2.2.2.2.2 o0 o1
          have hm := mp_lt X
          have hs0 : ¬ sizeV (clOf X) = 0 := by omega
          have o2 : ¬ off < 0 := by omega
          have o3 : ¬ 16 ≤ off := by omega
          have HBt := Lib.hid (fun W => bits_any (mpOf X) W (by omega))
          have hbit := bitL_at (mpOf X) 32 b (by omega)
          rw [bit_val] at hbit
          by_cases hbt : (mpOf X).testBit b = true
          · have hY : AtOk X off := ⟨hg, h1, o0, o1, by rw [q2]; exact hbt⟩
            obtain ⟨v1, v2, v3⟩ := at_yes hY
            rw [v1, v2, v3, q1]
            rw [if_pos hbt] at hbit
            clear hY v1 v2 v3
            clear hg h1 hX hcl hsz hbt hm h1' o0 o1 q1 q2
            generalize bitL (mpOf X) 32 = L at *
            generalize (mpOf X : Int) = m at *
            generalize (rnOf X : Int) = r at *
            generalize (clOf X : Int) = k at *
            generalize sizeV k = z at *
            go_enter Tryz.func79, Tryz.ntmps79
            go_wp2_with fail
            refine (HR.out _).mono ?_
            rintro e w1 ⟨rfl, hb⟩
            have HB := Lib.hid hb
            clear hb
            obtain ⟨_, x1, x2, _⟩ := new4 (Below.refl (w1.heap.size + 1) (w1.alloc (.cells #[.int .i64 1, .int .i64 k, .int .u32 m, .int .i64 r] 74)))
            go_wp2_with fail
            refine (HS.out _).mono ?_
            rintro e w2 ⟨rfl, rfl⟩
            go_wp2_with fail
            refine (HBt.out _).mono ?_
            rintro e w3 ⟨g, c, rfl, ho, hb3⟩
            have hcell := ho.cell rfl (i := b) (by omega)
            rw [hbit] at hcell
            have HB3 : Hid (Below w.heap.size w w3) := (HB.out.alloc HB.out.size _).trans (hb3.mono (by have := HB.out.size; simp; omega))
            clear ho hb3 HBt hbit HS HB
            go_wp2
            go_ret3
            exact ⟨rfl, HB3.out⟩
          · have hN : ¬ AtOk X off := fun h => hbt (by have := h.2.2.2.2; rwa [q2] at this)
            obtain ⟨v1, v2, v3⟩ := at_no hN
            rw [v1, v2, v3]
            rw [if_neg hbt] at hbit
            clear hN v1 v2 v3
            clear hg h1 hX hcl hsz hbt hm h1' o0 o1 q1 q2
            generalize bitL (mpOf X) 32 = L at *
            generalize (mpOf X : Int) = m at *
            generalize (rnOf X : Int) = r at *
            generalize (clOf X : Int) = k at *
            generalize sizeV k = z at *
            go_enter Tryz.func79, Tryz.ntmps79
            go_wp2_with fail
            refine (HR.out _).mono ?_
            rintro e w1 ⟨rfl, hb⟩
            have HB := Lib.hid hb
            clear hb
            obtain ⟨_, x1, x2, _⟩ := new4 (Below.refl (w1.heap.size + 1) (w1.alloc (.cells #[.int .i64 1, .int .i64 k, .int .u32 m, .int .i64 r] 74)))
            go_wp2_with fail
            refine (HS.out _).mono ?_
            rintro e w2 ⟨rfl, rfl⟩
            go_wp2_with fail
            refine (HBt.out _).mono ?_
            rintro e w3 ⟨g, c, rfl, ho, hb3⟩
            have hcell := ho.cell rfl (i := b) (by omega)
            rw [hbit] at hcell
            have HB3 : Hid (Below w.heap.size w w3) := (HB.out.alloc HB.out.size _).trans (hb3.mono (by have := HB.out.size; simp; omega))
            clear ho hb3 HBt hbit HS HB
            go_wp2
            go_ret3
            exact ⟨rfl, HB3.out⟩
        · have hN : ¬ AtOk X off := fun h => o1 h.2.2.2.1
          obtain ⟨v1, v2, v3⟩ := at_no hN
          rw [v1, v2, v3]
          have o2 : ¬ off < 0 := by omega
          have o3 : 16 ≤ off := by omega
          clear hN v1 v2 v3 hg h1 hX h1' o0 o1
          generalize (clOf X : Int) = k at *
          generalize (mpOf X : Int) = m at *
          generalize (rnOf X : Int) = r at *
          go_enter Tryz.func79, Tryz.ntmps79
          go_wp2_with fail
          refine (HR.out _).mono ?_
          rintro e w1 ⟨rfl, hb⟩
          have HB := Lib.hid hb
          clear hb
          go_wp2
          go_ret3
          exact ⟨rfl, HB.out.alloc HB.out.size _⟩
      · have hN : ¬ AtOk X off := fun h => o0 h.2.2.1
        obtain ⟨v1, v2, v3⟩ := at_no hN
        rw [v1, v2, v3]
        have o2 : off < 0 := by omega
        clear hN v1 v2 v3 hg h1 hX h1' o0
        generalize (clOf X : Int) = k at *
        generalize (mpOf X : Int) = m at *
        generalize (rnOf X : Int) = r at *
        go_enter Tryz.func79, Tryz.ntmps79
        go_wp2_with fail
        refine (HR.out _).mono ?_
        rintro e w1 ⟨rfl, hb⟩
        have HB := Lib.hid hb
        clear hb
        go_wp2
        go_ret3
        exact ⟨rfl, HB.out.alloc HB.out.size _⟩
    · have hN : ¬ AtOk X off := fun h => h1 h.2.1
      obtain ⟨v1, v2, v3⟩ := at_no hN
      rw [v1, v2, v3]
      have h1' : ¬ ((stOf X : Nat) : Int) = 1 := by omega
      clear hN v1 v2 v3 hg h1 hX
      generalize (stOf X : Int) = s at *
      generalize (clOf X : Int) = k at *
      generalize (mpOf X : Int) = m at *
      generalize (rnOf X : Int) = r at *
      go_enter Tryz.func79, Tryz.ntmps79
      go_wp2_with fail
      refine (HR.out _).mono ?_
      rintro e w1 ⟨rfl, hb⟩
      have HB := Lib.hid hb
      clear hb
      go_wp2
      go_ret3
      exact ⟨rfl, HB.out.alloc HB.out.size _⟩
  · rw [read_bad hg, decide_eq_false hg] at HR
    have hN : ¬ AtOk X off := fun h => hg h.1
    obtain ⟨v1, v2, v3⟩ := at_no hN
    rw [v1, v2, v3]
    clear hN v1 v2 v3 hg hX
    go_enter Tryz.func79, Tryz.ntmps79
    go_wp2_with fail
    refine (HR.out _).mono ?_
    rintro e w1 ⟨rfl, hb⟩
    have HB := Lib.hid hb
    clear hb
    go_wp2
    go_ret3
    exact ⟨rfl, HB.out.alloc HB.out.size _⟩

end Go.Proofs.YtefcaeldkdbjdaaGreat

namespace Go.Proofs.YtefcaeldkdbjdaaGreat
open Go.RowKit

theorem rel_no {X : Nat} {off : Int} (h : ¬ RelOk X off) : relY X off = 0 ∧ relS X off = 0 ∧ decide (RelOk X off) = false := ⟨if_neg h, if_neg h, decide_eq_false h⟩
theorem rel_yes {X : Nat} {off : Int} (h : RelOk X off) : relY X off = packA 1 (clOf X) (relM X off) 0 ∧ relS X off = sizeV (clOf X) ∧ decide (RelOk X off) = true := ⟨if_pos h, if_pos h, decide_eq_true h⟩
theorem pack_none (K : Int) : packA 1 K 0 0 = 0 := packA_bad (fun h => (good_page.1 h).2.1.1 rfl)
theorem pack_free : packA 0 0 0 0 = 0 := by rw [packA_good (.inl ⟨.inl rfl, rfl, rfl, rfl⟩)]; rfl
/-- A block that can be released: its number, its size, the map with and without it. -/
theorem rel_facts {X : Nat} {off : Int} (h : RelOk X off) : ∃ b : Nat, b < 16 ∧ blkN X off = b ∧ off.tdiv (sizeV (clOf X)) = (b : Int) ∧ 1 ≤ sizeV (clOf X) ∧ sizeV (clOf X) ≤ 16 ∧ (mpOf X).testBit b = true ∧ relM X off = mpOf X - 2 ^ b ∧ 2 ^ b ≤ mpOf X ∧ off = (b : Int) * sizeV (clOf X) := by
  obtain ⟨hA, hs⟩ := h
  have hA' := hA
  obtain ⟨hg, h1, o0, o1, hbt⟩ := hA
  have hsz := per_bounds (page_class hg h1).1
  obtain ⟨b, q1, q2, q3, q4, q5⟩ := at_block hsz.2.2.2.2.1 hsz.2.2.2.2.2 o0 o1
  rw [q2] at hbt
  rw [(at_yes hA').1, q1] at hs
  exact ⟨b, q3, q2, q4, hsz.2.2.2.2.1, hsz.2.2.2.2.2, hbt, by unfold relM blkN; rw [q2], bit_le hbt, hs.symm⟩
theorem rel_andNot {M b : Nat} (hM : M < 65536) (hb : b < 16) (h : M.testBit b = true) : bits .andNot .u32 (M : Int) (2 ^ b % 4294967296) = ((M - 2 ^ b : Nat) : Int) := by
  have hp : 2 ^ b < 2 ^ 16 := Nat.pow_lt_pow_right (by omega) hb
  have h1 := u32_andNot_nat M (2 ^ b) (by omega) (by omega)
  have h2 : (2 : Int) ^ b % 4294967296 = ((2 ^ b : Nat) : Int) := by
    rw [pow_cast]
    exact Int.emod_eq_of_lt (Int.natCast_nonneg _) (Int.ofNat_lt.2 (Nat.lt_trans hp (by decide)))
  rw [h2, h1]
  rcases clear_bit h with h3 | h3 | h3
  · rw [h3]
  · exact absurd (show M < 4294967296 by omega) h3
  · exact absurd (show b < 32 by omega) h3

set_option maxRecDepth 100000 in
set_option maxHeartbeats 2000000 in
theorem release_any (X : Nat) (off : Int) (w : World) (hX : X < 4294967296) :
    Calls Tryz.prog 106 #[.int .u32 (X : Int), .int .i64 off] w fun e w' => e = .returned (.tuple #[.int .u32 (relY X off : Int), .int .i64 (relS X off), .bool (decide (RelOk X off))]) ∧ Below w.heap.size w w' := by
  have HA := Lib.hid (fun W => blockAt_any X off W hX)
  have HR := Lib.hid (fun W => ctlRead_any X W hX)
  by_cases hA : AtOk X off
  · by_cases hs : atV X off = off
    · have hY : RelOk X off := ⟨hA, hs⟩
      obtain ⟨v1, v2, v3⟩ := rel_yes hY
      obtain ⟨b, q0, q1, q2, q3, q4, q5, q6, q7, -⟩ := rel_facts hY
      have hg := hA.1
      have h1 := hA.2.1
      have hrn := (page_class hg h1).2.2
      have hm := mp_lt X
      rw [read_good hg, decide_eq_true hg, show ((stOf X : Nat) : Int) = 1 by omega, show ((rnOf X : Nat) : Int) = 0 by omega] at HR
      rw [hs, (at_yes hA).2.1, (at_yes hA).2.2] at HA
      rw [v1, v2, v3]
      have HP := Lib.hid (fun W => ctlPack_any 1 (clOf X) (relM X off) 0 W (Nat.lt_of_le_of_lt (Nat.sub_le _ _) (Nat.lt_trans hm (by decide))))
      have hs0 : ¬ sizeV (clOf X) = 0 := by omega
      have hN := q6
      have q0' : (b : Int) < 16 := by omega
      have hand := rel_andNot hm q0 q5
      rw [← q6] at hand
      have HF := Lib.hid (fun W => ctlPack_any 0 0 0 0 W (by omega))
      rw [pack_free] at HF
      by_cases hz : relM X off = 0
      · rw [hz] at hand ⊢
        rw [pack_none]
        clear HP
        clear hY v1 v2 v3 q1 q5 q6 q7 q3 q4 hg h1 hrn hm hA hs hX hN hz
        generalize (mpOf X : Int) = m at *
        generalize (clOf X : Int) = k at *
        generalize sizeV k = z at *
        go_enter Tryz.func106, Tryz.ntmps106
        go_wp2_with fail
        refine (HA.out _).mono ?_
        rintro e w1 ⟨rfl, hb⟩
        have HB := Lib.hid hb
        clear hb
        go_wp2_with fail
        refine (HR.out _).mono ?_
        rintro e w2 ⟨rfl, hb⟩
        have HB2 := Lib.hid (HB.out.trans (hb.mono HB.out.size))
        clear hb HB
        have b0 : Hid (Below (w2.heap.size + 1) (w2.alloc (.cells #[.int .i64 1, .int .i64 k, .int .u32 m, .int .i64 0] 74)) ((w2.alloc (.cells #[.int .i64 1, .int .i64 k, .int .u32 m, .int .i64 0] 74))).drew) := (Below.refl _ _).drew
        obtain ⟨x0, x1, x2, x3⟩ := new4 (Below.refl (w2.heap.size + 1) (w2.alloc (.cells #[.int .i64 1, .int .i64 k, .int .u32 m, .int .i64 0] 74)))
        have hl2 := HB2.out.size
        go_wp2_with fail
        go_region
        all_goals go_wp2_with fail
        all_goals
          refine (HF.out _).mono ?_
          rintro e w5 ⟨rfl, hb5⟩
          go_wp2
          go_ret3
          exact ⟨rfl, (by repeat (first | exact Below.refl _ _ | refine Below.drew ?_ | refine Below.setCell ?_ (by first | omega | (simp; done) | (simp; omega) | (simp [*]; done)) _ | refine Below.alloc ?_ (by first | omega | (simp; done) | (simp; omega) | (simp [*]; done)) _ | refine Below.trans ?_ (Below.mono (HB2.out) (by first | omega | (simp; done) | (simp; omega) | (simp [*]; done))) | refine Below.trans ?_ (Below.mono (hb5) (by first | omega | (simp; done) | (simp; omega) | (simp [*]; done)))))⟩
      · have hz' : ¬ ((relM X off : Nat) : Int) = 0 := by omega
        clear hY v1 v2 v3 q1 q5 q6 q7 q3 q4 hg h1 hrn hm hA hs hX hN hz
        generalize packA 1 (clOf X : Int) (relM X off) 0 = y at *
        generalize decide (CtlGood 1 (clOf X : Int) (relM X off) 0) = gd at *
        generalize (relM X off : Int) = m2 at *
        generalize (mpOf X : Int) = m at *
        generalize (clOf X : Int) = k at *
        generalize sizeV k = z at *
        go_enter Tryz.func106, Tryz.ntmps106
        go_wp2_with fail
        refine (HA.out _).mono ?_
        rintro e w1 ⟨rfl, hb⟩
        have HB := Lib.hid hb
        clear hb
        go_wp2_with fail
        refine (HR.out _).mono ?_
        rintro e w2 ⟨rfl, hb⟩
        have HB2 := Lib.hid (HB.out.trans (hb.mono HB.out.size))
        clear hb HB
        have b0 : Hid (Below (w2.heap.size + 1) (w2.alloc (.cells #[.int .i64 1, .int .i64 k, .int .u32 m, .int .i64 0] 74)) ((w2.alloc (.cells #[.int .i64 1, .int .i64 k, .int .u32 m, .int .i64 0] 74))).drew) := (Below.refl _ _).drew
        obtain ⟨x0, x1, x2, x3⟩ := new4 (Below.refl (w2.heap.size + 1) (w2.alloc (.cells #[.int .i64 1, .int .i64 k, .int .u32 m, .int .i64 0] 74)))
        have hl2 := HB2.out.size
        go_wp2_with fail
        go_region
        all_goals go_wp2_with fail
        all_goals
          refine (HP.out _).mono ?_
          rintro e w5 ⟨rfl, hb5⟩
          go_wp2
          go_ret3
          exact ⟨rfl, (by repeat (first | exact Below.refl _ _ | refine Below.drew ?_ | refine Below.setCell ?_ (by first | omega | (simp; done) | (simp; omega) | (simp [*]; done)) _ | refine Below.alloc ?_ (by first | omega | (simp; done) | (simp; omega) | (simp [*]; done)) _ | refine Below.trans ?_ (Below.mono (HB2.out) (by first | omega | (simp; done) | (simp; omega) | (simp [*]; done))) | refine Below.trans ?_ (Below.mono (hb5) (by first | omega | (simp; done) | (simp; omega) | (simp [*]; done)))))⟩
    · have hN : ¬ RelOk X off := fun h => hs h.2
      obtain ⟨v1, v2, v3⟩ := rel_no hN
      rw [v1, v2, v3]
      rw [(at_yes hA).2.2] at HA
      clear hN v1 v2 v3 HR hX hA
      generalize szV X off = z at *
      generalize atV X off = a at *
      go_enter Tryz.func106, Tryz.ntmps106
      go_wp2_with fail
      refine (HA.out _).mono ?_
      rintro e w1 ⟨rfl, hb⟩
      have HB := Lib.hid hb
      clear hb
      go_wp2
      go_ret3
      exact ⟨rfl, HB.out⟩
  · have hN : ¬ RelOk X off := fun h => hA h.1
    obtain ⟨v1, v2, v3⟩ := rel_no hN
    rw [v1, v2, v3]
    rw [(at_no hA).1, (at_no hA).2.1, (at_no hA).2.2] at HA
    clear hN v1 v2 v3 HR hX hA
    go_enter Tryz.func106, Tryz.ntmps106
    go_wp2_with fail
    refine (HA.out _).mono ?_
    rintro e w1 ⟨rfl, hb⟩
    have HB := Lib.hid hb
    clear hb
    go_wp2
    go_ret3
    exact ⟨rfl, HB.out⟩

set_option maxRecDepth 100000 in
set_option maxHeartbeats 2000000 in
theorem sRelease_any (X : Nat) (off : Int) (w : World) (hX : X < 4294967296) :
    Calls Tryz.prog 71 #[.int .u32 (X : Int), .int .i64 off] w fun e w' => e = .returned (.tuple #[.int .u32 (relY X off : Int), .int .i64 (relS X off), .bool (decide (RelOk X off))]) ∧ Below w.heap.size w w' := by
  have HA := Lib.hid (fun W => sBlockAt_any X off W hX)
  have HR := Lib.hid (fun W => sCtlRead_any X W hX)
  by_cases hA : AtOk X off
  · by_cases hs : atV X off = off
    · have hY : RelOk X off := ⟨hA, hs⟩
      obtain ⟨v1, v2, v3⟩ := rel_yes hY
      obtain ⟨b, q0, q1, q2, q3, q4, q5, q6, q7, -⟩ := rel_facts hY
      have hg := hA.1
      have h1 := hA.2.1
      have hrn := (page_class hg h1).2.2
      have hm := mp_lt X
      rw [read_good hg, decide_eq_true hg, show ((stOf X : Nat) : Int) = 1 by omega, show ((rnOf X : Nat) : Int) = 0 by omega] at HR
      rw [hs, (at_yes hA).2.1, (at_yes hA).2.2] at HA
      rw [v1, v2, v3]
      have HP := Lib.hid (fun W => sCtlPack_any 1 (clOf X) (relM X off) 0 W (Nat.lt_of_le_of_lt (Nat.sub_le _ _) (Nat.lt_trans hm (by decide))))
      have hs0 : ¬ sizeV (clOf X) = 0 := by omega
      have hN := q6
      have q0' : (b : Int) < 16 := by omega
      have hpw : 2 ^ b < 2 ^ 16 := Nat.pow_lt_pow_right (by omega) q0
      have hsub2 : ((mpOf X : Int) - ((2 ^ b : Nat) : Int)) % 4294967296 = (relM X off : Int) := by
        rw [q6]
        generalize 2 ^ b = P at *
        omega
      have HBO : Hid (∀ (W : World) (n : Nat), W.heap.size = n → Calls Tryz.prog 80 #[.slice (some ⟨n, 0, none⟩) 1 1] (W.alloc (.cells #[.int .i64 (b : Int)] 3)) fun e w' => e = .returned (.tuple #[.int .u32 ((2 ^ b : Nat) : Int), .bool true]) ∧ Below (n + 1) (W.alloc (.cells #[.int .i64 (b : Int)] 3)) w') := fun W n hn => by
        subst hn
        have hR : RdK .i64 (W.alloc (.cells #[.int .i64 (b : Int)] 3)) (W.heap.size + 1) (some ⟨W.heap.size, 0, none⟩) 1 [(b : Int)] := ⟨rfl, fun _ => ⟨_, _, rfl, by omega, fun i hi => by
          obtain rfl : i = 0 := by omega
          exact (cell_of_row _ W.heap.size 0 _ _ (0, 0) (heap_alloc_new W _)).trans rfl⟩⟩
        have e1 : bitsG 0 [(b : Int)] = some (2 ^ b) := by
          have h32 : ¬ (31 : Int) < (b : Int) := by omega
          have h00 : ¬ (b : Int) < 0 := by omega
          simp [bitsG, h32, h00]
        have h := sBitsOf_any (some ⟨W.heap.size, 0, none⟩) 1 1 (W.heap.size + 1) [(b : Int)] _ hR (by simp) (by omega)
        unfold ofA ofB at h
        rw [e1] at h
        simpa using h
      by_cases hz : relM X off = 0
      · rw [hz] at hsub2 ⊢
        rw [pack_none]
        clear HP
        clear hY v1 v2 v3 q1 q5 q6 q7 q3 q4 hg h1 hrn hm hA hs hX hN hz
        clear hpw
        generalize ((2 ^ b : Nat) : Int) = pw at *
        generalize (mpOf X : Int) = m at *
        generalize (clOf X : Int) = k at *
        generalize sizeV k = z at *
        go_enter Tryz.func71, Tryz.ntmps71
        go_wp2_with fail
        refine (HA.out _).mono ?_
        rintro e w1 ⟨rfl, hb⟩
        have HB := Lib.hid hb
        clear hb
        go_wp2_with fail
        refine (HR.out _).mono ?_
        rintro e w2 ⟨rfl, hb⟩
        have HB2 := Lib.hid (HB.out.trans (hb.mono HB.out.size))
        clear hb HB
        go_wp2_with fail
        refine (HBO.out _ (w2.heap.size + 1) (by simp)).mono ?_
        rintro e w3 ⟨rfl, hb3⟩
        have hl2 := HB2.out.size
        have hb4 : Below (w2.heap.size + 1) (w2.alloc (.cells #[.int .i64 1, .int .i64 k, .int .u32 m, .int .i64 0] 74)) w3 := ((Below.refl _ _).alloc (by simp) _).trans (hb3.mono (by omega))
        have HB3 : Hid (Below w.heap.size w w3) := (HB2.out.alloc HB2.out.size _).trans (hb4.mono (by omega))
        have hz3 := hb4.size
        simp only [World.size_alloc] at hz3
        have u1 := (hb4.block w2.heap.size (by omega)).trans (heap_alloc_new w2 _)
        obtain ⟨⟨c0, c1, c2, c3⟩, f0, f1, f2, f3⟩ := blk4 u1
        clear hb3 hb4 HB2 HBO u1
        go_wp2
        go_ret3
        exact ⟨rfl, (by repeat (first | exact Below.refl _ _ | refine Below.drew ?_ | refine Below.setCell ?_ (by first | omega | (simp; done) | (simp; omega) | (simp [*]; done)) _ | refine Below.alloc ?_ (by first | omega | (simp; done) | (simp; omega) | (simp [*]; done)) _ | refine Below.trans ?_ (Below.mono (HB3.out) (by first | omega | (simp; done) | (simp; omega) | (simp [*]; done)))))⟩
      · have hz' : ¬ ((relM X off : Nat) : Int) = 0 := by omega
        clear hY v1 v2 v3 q1 q5 q6 q7 q3 q4 hg h1 hrn hm hA hs hX hN hz
        clear hpw
        generalize ((2 ^ b : Nat) : Int) = pw at *
        generalize packA 1 (clOf X : Int) (relM X off) 0 = y at *
        generalize decide (CtlGood 1 (clOf X : Int) (relM X off) 0) = gd at *
        generalize (relM X off : Int) = m2 at *
        generalize (mpOf X : Int) = m at *
        generalize (clOf X : Int) = k at *
        generalize sizeV k = z at *
        go_enter Tryz.func71, Tryz.ntmps71
        go_wp2_with fail
        refine (HA.out _).mono ?_
        rintro e w1 ⟨rfl, hb⟩
        have HB := Lib.hid hb
        clear hb
        go_wp2_with fail
        refine (HR.out _).mono ?_
        rintro e w2 ⟨rfl, hb⟩
        have HB2 := Lib.hid (HB.out.trans (hb.mono HB.out.size))
        clear hb HB
        go_wp2_with fail
        refine (HBO.out _ (w2.heap.size + 1) (by simp)).mono ?_
        rintro e w3 ⟨rfl, hb3⟩
        have hl2 := HB2.out.size
        have hb4 : Below (w2.heap.size + 1) (w2.alloc (.cells #[.int .i64 1, .int .i64 k, .int .u32 m, .int .i64 0] 74)) w3 := ((Below.refl _ _).alloc (by simp) _).trans (hb3.mono (by omega))
        have HB3 : Hid (Below w.heap.size w w3) := (HB2.out.alloc HB2.out.size _).trans (hb4.mono (by omega))
        have hz3 := hb4.size
        simp only [World.size_alloc] at hz3
        have u1 := (hb4.block w2.heap.size (by omega)).trans (heap_alloc_new w2 _)
        obtain ⟨⟨c0, c1, c2, c3⟩, f0, f1, f2, f3⟩ := blk4 u1
        clear hb3 hb4 HB2 HBO u1
        go_wp2_with fail
        refine (HP.out _).mono ?_
        rintro e w5 ⟨rfl, hb5⟩
        go_wp2
        go_ret3
        exact ⟨rfl, (by repeat (first | exact Below.refl _ _ | refine Below.drew ?_ | refine Below.setCell ?_ (by first | omega | (simp; done) | (simp; omega) | (simp [*]; done)) _ | refine Below.alloc ?_ (by first | omega | (simp; done) | (simp; omega) | (simp [*]; done)) _ | refine Below.trans ?_ (Below.mono (HB3.out) (by first | omega | (simp; done) | (simp; omega) | (simp [*]; done))) | refine Below.trans ?_ (Below.mono (hb5) (by first | omega | (simp; done) | (simp; omega) | (simp [*]; done)))))⟩
    · have hN : ¬ RelOk X off := fun h => hs h.2
      obtain ⟨v1, v2, v3⟩ := rel_no hN
      rw [v1, v2, v3]
      rw [(at_yes hA).2.2] at HA
      clear hN v1 v2 v3 HR hX hA
      generalize szV X off = z at *
      generalize atV X off = a at *
      go_enter Tryz.func71, Tryz.ntmps71
      go_wp2_with fail
      refine (HA.out _).mono ?_
      rintro e w1 ⟨rfl, hb⟩
      have HB := Lib.hid hb
      clear hb
      go_wp2
      go_ret3
      exact ⟨rfl, HB.out⟩
  · have hN : ¬ RelOk X off := fun h => hA h.1
    obtain ⟨v1, v2, v3⟩ := rel_no hN
    rw [v1, v2, v3]
    rw [(at_no hA).1, (at_no hA).2.1, (at_no hA).2.2] at HA
    clear hN v1 v2 v3 HR hX hA
    go_enter Tryz.func71, Tryz.ntmps71
    go_wp2_with fail
    refine (HA.out _).mono ?_
    rintro e w1 ⟨rfl, hb⟩
    have HB := Lib.hid hb
    clear hb
    go_wp2
    go_ret3
    exact ⟨rfl, HB.out⟩

end Go.Proofs.YtefcaeldkdbjdaaGreat
