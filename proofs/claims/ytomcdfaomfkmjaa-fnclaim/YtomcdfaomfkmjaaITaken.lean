/- The contracts of TakenWords, of the program and of the model. -/
import Derived.Test.YtomcdfaomfkmjaaIRoom
namespace Go.Proofs.Ytomcdfaomfkmjaa
open Go.RowKit

/-- The four cells of a block that was made, in a later world. -/
theorem new4 {w1 W : World} {v0 v1 v2 v3 : Value} {t : TypeId} (h : Below (w1.heap.size + 1) (w1.alloc (.cells #[v0, v1, v2, v3] t)) W) :
    W.cell? ⟨w1.heap.size, 0, none⟩ = some v0 ∧ W.cell? ⟨w1.heap.size, 1, none⟩ = some v1 ∧ W.cell? ⟨w1.heap.size, 2, none⟩ = some v2 ∧ W.cell? ⟨w1.heap.size, 3, none⟩ = some v3 := by
  have hl : w1.heap.size < w1.heap.size + 1 := by omega
  exact ⟨(h.cell (p := ⟨w1.heap.size, 0, none⟩) hl).trans ((cell_of_row _ w1.heap.size 0 _ _ (0, 0) (heap_alloc_new w1 _)).trans rfl),
    (h.cell (p := ⟨w1.heap.size, 1, none⟩) hl).trans ((cell_of_row _ w1.heap.size 1 _ _ (0, 0) (heap_alloc_new w1 _)).trans rfl),
    (h.cell (p := ⟨w1.heap.size, 2, none⟩) hl).trans ((cell_of_row _ w1.heap.size 2 _ _ (0, 0) (heap_alloc_new w1 _)).trans rfl),
    (h.cell (p := ⟨w1.heap.size, 3, none⟩) hl).trans ((cell_of_row _ w1.heap.size 3 _ _ (0, 0) (heap_alloc_new w1 _)).trans rfl)⟩
theorem below_on {n : Nat} {w W W' : World} (hW : Below n w W) (hn : n ≤ w.heap.size) (hb : Below W.heap.size W W') : Below n w W' := hW.trans (hb.mono (Nat.le_trans hn hW.size))
theorem ones_le32 (X : Nat) : (onesTo X 32).length ≤ 32 := onesTo_len X 32
theorem mul_small {l : Nat} {s : Int} (hl : l ≤ 32) (h1 : 1 ≤ s) (h2 : s ≤ 16) : IntKind.i64.wrap ((l : Int) * s) = (l : Int) * s := by
  refine IntWalk.i64_in _ ?_
  have a : (0 : Int) ≤ (l : Int) * s := Int.mul_nonneg (by omega) (by omega)
  have b : (l : Int) * s ≤ 32 * s := Int.mul_le_mul_of_nonneg_right (by omega) (by omega)
  omega

set_option maxRecDepth 100000 in
set_option maxHeartbeats 2000000 in
theorem takenWords_any (X : Nat) (w : World) (hX : X < 4294967296) :
    Calls Try.prog 19 #[.int .u32 (X : Int)] w fun e w' => e = .returned (.int .i64 (takenV X)) ∧ Below w.heap.size w w' := by
  have HR := Lib.hid (fun W => ctlRead_any X W hX)
  by_cases hg : GoodX X
  · rw [read_good hg, decide_eq_true hg] at HR
    by_cases h1 : stOf X = 1
    · have hcl := (page_class hg h1).1
      have hsz := per_bounds hcl
      have HV : Hid (takenV X = ((onesTo (mpOf X) 32).length : Int) * sizeV (clOf X)) := if_pos ⟨hg, h1⟩
      have hm := mp_lt X
      have HO := Lib.hid (fun W => ones_any (mpOf X) W (by omega))
      have HS := Lib.hid (fun W => classSize_any (clOf X) W)
      have hl := ones_le32 (mpOf X)
      have hmul := mul_small hl hsz.2.2.2.2.1 hsz.2.2.2.2.2
      have h1' : ((stOf X : Nat) : Int) = 1 := by omega
      rw [HV.out]
      clear HV hcl hsz hg h1 hX hm
      generalize (onesTo (mpOf X) 32).length = l at *
      generalize (mpOf X : Int) = m at *
      generalize (rnOf X : Int) = r at *
      generalize (stOf X : Int) = s at *
      generalize (clOf X : Int) = k at *
      generalize sizeV k = z at *
      subst h1'
      clear hl
      go_enter Try.func19, Try.ntmps19
      go_wp2_with fail
      refine (HR.out _).mono ?_
      rintro e w1 ⟨rfl, hb⟩
      have HB := Lib.hid hb
      clear hb
      have b0 : Hid (Below (w1.heap.size + 1) (w1.alloc (.cells #[.int .i64 1, .int .i64 k, .int .u32 m, .int .i64 r] 42)) ((w1.alloc (.cells #[.int .i64 1, .int .i64 k, .int .u32 m, .int .i64 r] 42))).drew) := (Below.refl _ _).drew
      obtain ⟨_, x1, x2, _⟩ := new4 (Below.refl (w1.heap.size + 1) (w1.alloc (.cells #[.int .i64 1, .int .i64 k, .int .u32 m, .int .i64 r] 42)))
      obtain ⟨_, y1, y2, _⟩ := new4 b0.out
      have LO : Hid (∀ W, Below (w1.heap.size + 1) (w1.alloc (.cells #[.int .i64 1, .int .i64 k, .int .u32 m, .int .i64 r] 42)) W → Calls Try.prog 55 #[.int .u32 m] W fun e w' => e = .returned (.int .i64 (l : Int)) ∧ Hid (Below (w1.heap.size + 1) (w1.alloc (.cells #[.int .i64 1, .int .i64 k, .int .u32 m, .int .i64 r] 42)) w') ∧ (w'.cell? ⟨w1.heap.size, 1, none⟩ = some (.int .i64 k) ∧ w'.cell? ⟨w1.heap.size, 2, none⟩ = some (.int .u32 m))) := fun W hW => (HO.out W).mono fun _ w' ⟨he, hb⟩ => by
        have hb2 := below_on hW (by simp) hb
        obtain ⟨_, z1, z2, _⟩ := new4 hb2
        exact ⟨he, hb2, z1, z2⟩
      clear HO
      go_wp2_with fail
      go_region_held3 (fun W => W.cell? ⟨w1.heap.size, 1, none⟩ = some (.int .i64 k) ∧ W.cell? ⟨w1.heap.size, 2, none⟩ = some (.int .u32 m))
        (first | exact ⟨x1, x2⟩ | exact ⟨y1, y2⟩ | exact x6)
        (first | (go_at_call 21; refine (HS.out _).mono ?_; rintro e w5 ⟨rfl, rfl⟩)
               | (go_at_call 55; refine (LO.out _ b0.out).mono ?_; rintro e w6 ⟨rfl, b6, x6⟩))
      go_wp2
      all_goals
        go_ret
        exact ⟨rfl, HB.out.trans (((Below.refl _ _).alloc HB.out.size _).trans (b6.out.mono (by have := HB.out.size; omega)))⟩
    · by_cases h2 : stOf X = 2
      · have HV : Hid (takenV X = 16) := (if_neg (fun h => h1 h.2)).trans (if_pos ⟨hg, h2⟩)
        have h2' : ((stOf X : Nat) : Int) = 2 := by omega
        clear hg h1 h2 hX
        generalize (stOf X : Int) = s at *
        generalize (clOf X : Int) = k at *
        generalize (mpOf X : Int) = m at *
        generalize (rnOf X : Int) = r at *
        subst h2'
        go_enter Try.func19, Try.ntmps19
        go_wp2_with fail
        refine (HR.out _).mono ?_
        rintro e w1 ⟨rfl, hb⟩
        have HB := Lib.hid hb
        clear hb
        go_wp2
        go_ret
        exact ⟨by rw [HV.out]; rfl, HB.out.alloc HB.out.size _⟩
      · have HV : Hid (takenV X = 0) := (if_neg (fun h => h1 h.2)).trans (if_neg (fun h => h2 h.2))
        have h1' : ¬ ((stOf X : Nat) : Int) = 1 := by omega
        have h2' : ¬ ((stOf X : Nat) : Int) = 2 := by omega
        clear hg h1 h2 hX
        generalize (stOf X : Int) = s at *
        generalize (clOf X : Int) = k at *
        generalize (mpOf X : Int) = m at *
        generalize (rnOf X : Int) = r at *
        go_enter Try.func19, Try.ntmps19
        go_wp2_with fail
        refine (HR.out _).mono ?_
        rintro e w1 ⟨rfl, hb⟩
        have HB := Lib.hid hb
        clear hb
        go_wp2
        go_ret
        exact ⟨by rw [HV.out]; rfl, HB.out.alloc HB.out.size _⟩
  · rw [read_bad hg, decide_eq_false hg] at HR
    have HV : Hid (takenV X = 0) := (if_neg (fun h => hg h.1)).trans (if_neg (fun h => hg h.1))
    clear hg hX
    go_enter Try.func19, Try.ntmps19
    go_wp2_with fail
    refine (HR.out _).mono ?_
    rintro e w1 ⟨rfl, hb⟩
    have HB := Lib.hid hb
    clear hb
    go_wp2
    go_ret
    exact ⟨by rw [HV.out]; rfl, HB.out.alloc HB.out.size _⟩

set_option maxRecDepth 100000 in
set_option maxHeartbeats 2000000 in
theorem sTakenWords_any (X : Nat) (w : World) (hX : X < 4294967296) :
    Calls Try.prog 20 #[.int .u32 (X : Int)] w fun e w' => e = .returned (.int .i64 (takenV X)) ∧ Below w.heap.size w w' := by
  have HR := Lib.hid (fun W => sCtlRead_any X W hX)
  by_cases hg : GoodX X
  · rw [read_good hg, decide_eq_true hg] at HR
    by_cases h1 : stOf X = 1
    · have hcl := (page_class hg h1).1
      have hsz := per_bounds hcl
      have HV : Hid (takenV X = ((onesTo (mpOf X) 32).length : Int) * sizeV (clOf X)) := if_pos ⟨hg, h1⟩
      have hm := mp_lt X
      have HO := Lib.hid (fun W => sOnes_any (mpOf X) W (by omega))
      have HS := Lib.hid (fun W => sClassSize_any (clOf X) W)
      have hl := ones_le32 (mpOf X)
      have hmul := mul_small hl hsz.2.2.2.2.1 hsz.2.2.2.2.2
      have h1' : ((stOf X : Nat) : Int) = 1 := by omega
      rw [HV.out]
      clear HV hcl hsz hg h1 hX hm
      generalize (onesTo (mpOf X) 32).length = l at *
      generalize (mpOf X : Int) = m at *
      generalize (rnOf X : Int) = r at *
      generalize (stOf X : Int) = s at *
      generalize (clOf X : Int) = k at *
      generalize sizeV k = z at *
      subst h1'
      clear hl
      go_enter Try.func20, Try.ntmps20
      go_wp2_with fail
      refine (HR.out _).mono ?_
      rintro e w1 ⟨rfl, hb⟩
      have HB := Lib.hid hb
      clear hb
      have b0 : Hid (Below (w1.heap.size + 1) (w1.alloc (.cells #[.int .i64 1, .int .i64 k, .int .u32 m, .int .i64 r] 42)) ((w1.alloc (.cells #[.int .i64 1, .int .i64 k, .int .u32 m, .int .i64 r] 42))).drew) := (Below.refl _ _).drew
      obtain ⟨_, x1, x2, _⟩ := new4 (Below.refl (w1.heap.size + 1) (w1.alloc (.cells #[.int .i64 1, .int .i64 k, .int .u32 m, .int .i64 r] 42)))
      obtain ⟨_, y1, y2, _⟩ := new4 b0.out
      have LO : Hid (∀ W, Below (w1.heap.size + 1) (w1.alloc (.cells #[.int .i64 1, .int .i64 k, .int .u32 m, .int .i64 r] 42)) W → Calls Try.prog 56 #[.int .u32 m] W fun e w' => e = .returned (.int .i64 (l : Int)) ∧ Hid (Below (w1.heap.size + 1) (w1.alloc (.cells #[.int .i64 1, .int .i64 k, .int .u32 m, .int .i64 r] 42)) w') ∧ (w'.cell? ⟨w1.heap.size, 1, none⟩ = some (.int .i64 k) ∧ w'.cell? ⟨w1.heap.size, 2, none⟩ = some (.int .u32 m))) := fun W hW => (HO.out W).mono fun _ w' ⟨he, hb⟩ => by
        have hb2 := below_on hW (by simp) hb
        obtain ⟨_, z1, z2, _⟩ := new4 hb2
        exact ⟨he, hb2, z1, z2⟩
      clear HO
      go_wp2_with fail
      go_region_held3 (fun W => W.cell? ⟨w1.heap.size, 1, none⟩ = some (.int .i64 k) ∧ W.cell? ⟨w1.heap.size, 2, none⟩ = some (.int .u32 m))
        (first | exact ⟨x1, x2⟩ | exact ⟨y1, y2⟩ | exact x6)
        (first | (go_at_call 49; refine (HS.out _).mono ?_; rintro e w5 ⟨rfl, rfl⟩)
               | (go_at_call 56; refine (LO.out _ b0.out).mono ?_; rintro e w6 ⟨rfl, b6, x6⟩))
      go_wp2
      all_goals
        go_ret
        exact ⟨rfl, HB.out.trans (((Below.refl _ _).alloc HB.out.size _).trans (b6.out.mono (by have := HB.out.size; omega)))⟩
    · by_cases h2 : stOf X = 2
      · have HV : Hid (takenV X = 16) := (if_neg (fun h => h1 h.2)).trans (if_pos ⟨hg, h2⟩)
        have h2' : ((stOf X : Nat) : Int) = 2 := by omega
        clear hg h1 h2 hX
        generalize (stOf X : Int) = s at *
        generalize (clOf X : Int) = k at *
        generalize (mpOf X : Int) = m at *
        generalize (rnOf X : Int) = r at *
        subst h2'
        go_enter Try.func20, Try.ntmps20
        go_wp2_with fail
        refine (HR.out _).mono ?_
        rintro e w1 ⟨rfl, hb⟩
        have HB := Lib.hid hb
        clear hb
        go_wp2
        go_ret
        exact ⟨by rw [HV.out]; rfl, HB.out.alloc HB.out.size _⟩
      · have HV : Hid (takenV X = 0) := (if_neg (fun h => h1 h.2)).trans (if_neg (fun h => h2 h.2))
        have h1' : ¬ ((stOf X : Nat) : Int) = 1 := by omega
        have h2' : ¬ ((stOf X : Nat) : Int) = 2 := by omega
        clear hg h1 h2 hX
        generalize (stOf X : Int) = s at *
        generalize (clOf X : Int) = k at *
        generalize (mpOf X : Int) = m at *
        generalize (rnOf X : Int) = r at *
        go_enter Try.func20, Try.ntmps20
        go_wp2_with fail
        refine (HR.out _).mono ?_
        rintro e w1 ⟨rfl, hb⟩
        have HB := Lib.hid hb
        clear hb
        go_wp2
        go_ret
        exact ⟨by rw [HV.out]; rfl, HB.out.alloc HB.out.size _⟩
  · rw [read_bad hg, decide_eq_false hg] at HR
    have HV : Hid (takenV X = 0) := (if_neg (fun h => hg h.1)).trans (if_neg (fun h => hg h.1))
    clear hg hX
    go_enter Try.func20, Try.ntmps20
    go_wp2_with fail
    refine (HR.out _).mono ?_
    rintro e w1 ⟨rfl, hb⟩
    have HB := Lib.hid hb
    clear hb
    go_wp2
    go_ret
    exact ⟨by rw [HV.out]; rfl, HB.out.alloc HB.out.size _⟩

end Go.Proofs.Ytomcdfaomfkmjaa
