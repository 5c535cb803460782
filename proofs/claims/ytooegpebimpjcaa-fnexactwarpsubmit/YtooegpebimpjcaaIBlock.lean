/- The contracts of BlockAt, of the program and of the model. -/
import Derived.Test.YtooegpebimpjcaaITaken
import Derived.OwnWalk
namespace Go.Proofs.Ytooegpebimpjcaa
open Go.RowKit

theorem at_no {X : Nat} {off : Int} (h : ¬ AtOk X off) : atV X off = 0 ∧ szV X off = 0 ∧ decide (AtOk X off) = false := ⟨if_neg h, if_neg h, decide_eq_false h⟩
theorem at_yes {X : Nat} {off : Int} (h : AtOk X off) : atV X off = off / sizeV (clOf X) * sizeV (clOf X) ∧ szV X off = sizeV (clOf X) ∧ decide (AtOk X off) = true := ⟨if_pos h, if_pos h, decide_eq_true h⟩
/-- The block of an offset: its number, and what the walks meet. -/
theorem at_block {s off : Int} (h1 : 1 ≤ s) (h2 : s ≤ 16) (h0 : 0 ≤ off) (h3 : off < 16) : ∃ b : Nat, off / s = (b : Int) ∧ (off / s).toNat = b ∧ b < 16 ∧ off.tdiv s = (b : Int) ∧ IntKind.i64.wrap ((b : Int) * s) = (b : Int) * s := by
  obtain ⟨a, b, c⟩ := div_block h1 h2 h0 h3
  refine ⟨(off / s).toNat, by omega, rfl, by omega, by omega, ?_⟩
  rw [show (((off / s).toNat : Nat) : Int) = off / s by omega]
  have h4 := Int.ediv_mul_le off (show s ≠ 0 by omega)
  have h5 : 0 ≤ off / s * s := Int.mul_nonneg a (by omega)
  exact IntWalk.i64_in _ (by omega)
theorem bit_val (M b : Nat) : (M / 2 ^ b % 2 : Nat) = if M.testBit b then 1 else 0 := by
  rw [Nat.testBit_eq_decide_div_mod_eq]
  by_cases h : M / 2 ^ b % 2 = 1
  · simp [h]
  · simp [h]; omega

set_option maxRecDepth 100000 in
set_option maxHeartbeats 2000000 in
theorem blockAt_any (X : Nat) (off : Int) (w : World) (hX : X < 4294967296) :
    Calls Try.prog 143 #[.int .u32 (X : Int), .int .i64 off] w fun e w' => e = .returned (.tuple #[.int .i64 (atV X off), .int .i64 (szV X off), .bool (decide (AtOk X off))]) ∧ Below w.heap.size w w' := by
  have HR := Lib.hid (fun W => ctlRead_any X W hX)
  by_cases hg : GoodX X
  · rw [read_good hg, decide_eq_true hg] at HR
    by_cases h1 : stOf X = 1
    · have h1' : ((stOf X : Nat) : Int) = 1 := by omega
      rw [h1'] at HR
      by_cases o0 : 0 ≤ off
      · by_cases o1 : off < 16
        · have hcl := (page_class hg h1).1
          have hsz := per_bounds hcl
          have HS := Lib.hid (fun W => classSize_any (clOf X) W)
          obtain ⟨b, q1, q2, q3, q4, q5⟩ := at_block hsz.2.2.2.2.1 hsz.2.2.2.2.2 o0 o1
          have hm := mp_lt X
          have hs0 : ¬ sizeV (clOf X) = 0 := by omega
          have o2 : ¬ off < 0 := by omega
          have o3 : ¬ 16 ≤ off := by omega
          have hbit := and_one (X := mpOf X) (k := b) (by omega)
          rw [bit_val] at hbit
          by_cases hbt : (mpOf X).testBit b = true
          · have hY : AtOk X off := ⟨hg, h1, o0, o1, by rw [q2]; exact hbt⟩
            obtain ⟨v1, v2, v3⟩ := at_yes hY
            rw [v1, v2, v3, q1]
            rw [if_pos hbt] at hbit
            clear hY v1 v2 v3
            clear hg h1 hX hcl hsz hbt hm h1' o0 o1 q1 q2
            generalize (mpOf X : Int) = m at *
            generalize (rnOf X : Int) = r at *
            generalize (clOf X : Int) = k at *
            generalize sizeV k = z at *
            go_enter Try.func143, Try.ntmps143
            go_wp2_with fail
            refine (HR.out _).mono ?_
            rintro e w1 ⟨rfl, hb⟩
            have HB := Lib.hid hb
            clear hb
            obtain ⟨_, x1, x2, _⟩ := new4 (Below.refl (w1.heap.size + 1) (w1.alloc (.cells #[.int .i64 1, .int .i64 k, .int .u32 m, .int .i64 r] 122)))
            go_wp2_with fail
            refine (HS.out _).mono ?_
            rintro e w2 ⟨rfl, rfl⟩
            go_wp2
            go_ret3
            exact ⟨rfl, HB.out.alloc HB.out.size _⟩
          · have hN : ¬ AtOk X off := fun h => hbt (by have := h.2.2.2.2; rwa [q2] at this)
            obtain ⟨v1, v2, v3⟩ := at_no hN
            rw [v1, v2, v3]
            rw [if_neg hbt] at hbit
            clear hN v1 v2 v3
            clear hg h1 hX hcl hsz hbt hm h1' o0 o1 q1 q2
            generalize (mpOf X : Int) = m at *
            generalize (rnOf X : Int) = r at *
            generalize (clOf X : Int) = k at *
            generalize sizeV k = z at *
            go_enter Try.func143, Try.ntmps143
            go_wp2_with fail
            refine (HR.out _).mono ?_
            rintro e w1 ⟨rfl, hb⟩
            have HB := Lib.hid hb
            clear hb
            obtain ⟨_, x1, x2, _⟩ := new4 (Below.refl (w1.heap.size + 1) (w1.alloc (.cells #[.int .i64 1, .int .i64 k, .int .u32 m, .int .i64 r] 122)))
            go_wp2_with fail
            refine (HS.out _).mono ?_
            rintro e w2 ⟨rfl, rfl⟩
            go_wp2
            go_ret3
            exact ⟨rfl, HB.out.alloc HB.out.size _⟩
        · have hN : ¬ AtOk X off := fun h => o1 h.2.2.2.1
          obtain ⟨v1, v2, v3⟩ := at_no hN
          rw [v1, v2, v3]
          have o2 : ¬ off < 0 := by omega
          have o3 : 16 ≤ off := by omega
          clear hN v1 v2 v3 hg h1 hX h1' o0 o1
          generalize (clOf X : Int) = k at *
          generalize (mpOf X : Int) = m at *
          generalize (rnOf X : Int) = r at *
          go_enter Try.func143, Try.ntmps143
          go_wp2_with fail
          refine (HR.out _).mono ?_
          rintro e w1 ⟨rfl, hb⟩
          have HB := Lib.hid hb
          clear hb
          go_wp2
          go_ret3
          exact ⟨rfl, HB.out.alloc HB.out.size _⟩
      · have hN : ¬ AtOk X off := fun h => o0 h.2.2.1
        obtain ⟨v1, v2, v3⟩ := at_no hN
        rw [v1, v2, v3]
        have o2 : off < 0 := by omega
        clear hN v1 v2 v3 hg h1 hX h1' o0
        generalize (clOf X : Int) = k at *
        generalize (mpOf X : Int) = m at *
        generalize (rnOf X : Int) = r at *
        go_enter Try.func143, Try.ntmps143
        go_wp2_with fail
        refine (HR.out _).mono ?_
        rintro e w1 ⟨rfl, hb⟩
        have HB := Lib.hid hb
        clear hb
        go_wp2
        go_ret3
        exact ⟨rfl, HB.out.alloc HB.out.size _⟩
    · have hN : ¬ AtOk X off := fun h => h1 h.2.1
      obtain ⟨v1, v2, v3⟩ := at_no hN
      rw [v1, v2, v3]
      have h1' : ¬ ((stOf X : Nat) : Int) = 1 := by omega
      clear hN v1 v2 v3 hg h1 hX
      generalize (stOf X : Int) = s at *
      generalize (clOf X : Int) = k at *
      generalize (mpOf X : Int) = m at *
      generalize (rnOf X : Int) = r at *
      go_enter Try.func143, Try.ntmps143
      go_wp2_with fail
      refine (HR.out _).mono ?_
      rintro e w1 ⟨rfl, hb⟩
      have HB := Lib.hid hb
      clear hb
      go_wp2
      go_ret3
      exact ⟨rfl, HB.out.alloc HB.out.size _⟩
  · rw [read_bad hg, decide_eq_false hg] at HR
    have hN : ¬ AtOk X off := fun h => hg h.1
    obtain ⟨v1, v2, v3⟩ := at_no hN
    rw [v1, v2, v3]
    clear hN v1 v2 v3 hg hX
    go_enter Try.func143, Try.ntmps143
    go_wp2_with fail
    refine (HR.out _).mono ?_
    rintro e w1 ⟨rfl, hb⟩
    have HB := Lib.hid hb
    clear hb
    go_wp2
    go_ret3
    exact ⟨rfl, HB.out.alloc HB.out.size _⟩

set_option maxRecDepth 100000 in
set_option maxHeartbeats 2000000 in
theorem sBlockAt_any (X : Nat) (off : Int) (w : World) (hX : X < 4294967296) :
    Calls Try.prog 125 #[.int .u32 (X : Int), .int .i64 off] w fun e w' => e = .returned (.tuple #[.int .i64 (atV X off), .int .i64 (szV X off), .bool (decide (AtOk X off))]) ∧ Below w.heap.size w w' := by
  have HR := Lib.hid (fun W => sCtlRead_any X W hX)
  by_cases hg : GoodX X
  · rw [read_good hg, decide_eq_true hg] at HR
    by_cases h1 : stOf X = 1
    · have h1' : ((stOf X : Nat) : Int) = 1 := by omega
      rw [h1'] at HR
      by_cases o0 : 0 ≤ off
      · by_cases o1 : off < 16
        · have hcl := (page_class hg h1).1
          have hsz := per_bounds hcl
          have HS := Lib.hid (fun W => sClassSize_any (clOf X) W)
          obtain ⟨b, q1, q2, q3, q4, q5⟩ := at_block hsz.2.2.2.2.1 hsz.2.2.2.2.2 o0 o1
          have hm := mp_lt X
          have hs0 : ¬ sizeV (clOf X) = 0 := by omega
          have o2 : ¬ off < 0 := by omega
          have o3 : ¬ 16 ≤ off := by omega
          have HBt := Lib.hid (fun W => bits_any (mpOf X) W (by omega))
          have hbit := bitL_at (mpOf X) 32 b (by omega)
          rw [bit_val] at hbit
          by_cases hbt : (mpOf X).testBit b = true
          · have hY : AtOk X off := ⟨hg, h1, o0, o1, by rw [q2]; exact hbt⟩
            obtain ⟨v1, v2, v3⟩ := at_yes hY
            rw [v1, v2, v3, q1]
            rw [if_pos hbt] at hbit
            clear hY v1 v2 v3
            clear hg h1 hX hcl hsz hbt hm h1' o0 o1 q1 q2
            generalize bitL (mpOf X) 32 = L at *
            generalize (mpOf X : Int) = m at *
            generalize (rnOf X : Int) = r at *
            generalize (clOf X : Int) = k at *
            generalize sizeV k = z at *
            go_enter Try.func125, Try.ntmps125
            go_wp2_with fail
            refine (HR.out _).mono ?_
            rintro e w1 ⟨rfl, hb⟩
            have HB := Lib.hid hb
            clear hb
            obtain ⟨_, x1, x2, _⟩ := new4 (Below.refl (w1.heap.size + 1) (w1.alloc (.cells #[.int .i64 1, .int .i64 k, .int .u32 m, .int .i64 r] 122)))
            go_wp2_with fail
            refine (HS.out _).mono ?_
            rintro e w2 ⟨rfl, rfl⟩
            go_wp2_with fail
            refine (HBt.out _).mono ?_
            rintro e w3 ⟨g, c, rfl, ho, hb3⟩
            have hcell := ho.cell rfl (i := b) (by omega)
            rw [hbit] at hcell
            have HB3 : Hid (Below w.heap.size w w3) := (HB.out.alloc HB.out.size _).trans (hb3.mono (by have := HB.out.size; simp; omega))
            clear ho hb3 HBt hbit HS HB
            go_wp2
            go_ret3
            exact ⟨rfl, HB3.out⟩
          · have hN : ¬ AtOk X off := fun h => hbt (by have := h.2.2.2.2; rwa [q2] at this)
            obtain ⟨v1, v2, v3⟩ := at_no hN
            rw [v1, v2, v3]
            rw [if_neg hbt] at hbit
            clear hN v1 v2 v3
            clear hg h1 hX hcl hsz hbt hm h1' o0 o1 q1 q2
            generalize bitL (mpOf X) 32 = L at *
            generalize (mpOf X : Int) = m at *
            generalize (rnOf X : Int) = r at *
            generalize (clOf X : Int) = k at *
            generalize sizeV k = z at *
            go_enter Try.func125, Try.ntmps125
            go_wp2_with fail
            refine (HR.out _).mono ?_
            rintro e w1 ⟨rfl, hb⟩
            have HB := Lib.hid hb
            clear hb
            obtain ⟨_, x1, x2, _⟩ := new4 (Below.refl (w1.heap.size + 1) (w1.alloc (.cells #[.int .i64 1, .int .i64 k, .int .u32 m, .int .i64 r] 122)))
            go_wp2_with fail
            refine (HS.out _).mono ?_
            rintro e w2 ⟨rfl, rfl⟩
            go_wp2_with fail
            refine (HBt.out _).mono ?_
            rintro e w3 ⟨g, c, rfl, ho, hb3⟩
            have hcell := ho.cell rfl (i := b) (by omega)
            rw [hbit] at hcell
            have HB3 : Hid (Below w.heap.size w w3) := (HB.out.alloc HB.out.size _).trans (hb3.mono (by have := HB.out.size; simp; omega))
            clear ho hb3 HBt hbit HS HB
            go_wp2
            go_ret3
            exact ⟨rfl, HB3.out⟩
        · have hN : ¬ AtOk X off := fun h => o1 h.2.2.2.1
          obtain ⟨v1, v2, v3⟩ := at_no hN
          rw [v1, v2, v3]
          have o2 : ¬ off < 0 := by omega
          have o3 : 16 ≤ off := by omega
          clear hN v1 v2 v3 hg h1 hX h1' o0 o1
          generalize (clOf X : Int) = k at *
          generalize (mpOf X : Int) = m at *
          generalize (rnOf X : Int) = r at *
          go_enter Try.func125, Try.ntmps125
          go_wp2_with fail
          refine (HR.out _).mono ?_
          rintro e w1 ⟨rfl, hb⟩
          have HB := Lib.hid hb
          clear hb
          go_wp2
          go_ret3
          exact ⟨rfl, HB.out.alloc HB.out.size _⟩
      · have hN : ¬ AtOk X off := fun h => o0 h.2.2.1
        obtain ⟨v1, v2, v3⟩ := at_no hN
        rw [v1, v2, v3]
        have o2 : off < 0 := by omega
        clear hN v1 v2 v3 hg h1 hX h1' o0
        generalize (clOf X : Int) = k at *
        generalize (mpOf X : Int) = m at *
        generalize (rnOf X : Int) = r at *
        go_enter Try.func125, Try.ntmps125
        go_wp2_with fail
        refine (HR.out _).mono ?_
        rintro e w1 ⟨rfl, hb⟩
        have HB := Lib.hid hb
        clear hb
        go_wp2
        go_ret3
        exact ⟨rfl, HB.out.alloc HB.out.size _⟩
    · have hN : ¬ AtOk X off := fun h => h1 h.2.1
      obtain ⟨v1, v2, v3⟩ := at_no hN
      rw [v1, v2, v3]
      have h1' : ¬ ((stOf X : Nat) : Int) = 1 := by omega
      clear hN v1 v2 v3 hg h1 hX
      generalize (stOf X : Int) = s at *
      generalize (clOf X : Int) = k at *
      generalize (mpOf X : Int) = m at *
      generalize (rnOf X : Int) = r at *
      go_enter Try.func125, Try.ntmps125
      go_wp2_with fail
      refine (HR.out _).mono ?_
      rintro e w1 ⟨rfl, hb⟩
      have HB := Lib.hid hb
      clear hb
      go_wp2
      go_ret3
      exact ⟨rfl, HB.out.alloc HB.out.size _⟩
  · rw [read_bad hg, decide_eq_false hg] at HR
    have hN : ¬ AtOk X off := fun h => hg h.1
    obtain ⟨v1, v2, v3⟩ := at_no hN
    rw [v1, v2, v3]
    clear hN v1 v2 v3 hg hX
    go_enter Try.func125, Try.ntmps125
    go_wp2_with fail
    refine (HR.out _).mono ?_
    rintro e w1 ⟨rfl, hb⟩
    have HB := Lib.hid hb
    clear hb
    go_wp2
    go_ret3
    exact ⟨rfl, HB.out.alloc HB.out.size _⟩

end Go.Proofs.Ytooegpebimpjcaa
