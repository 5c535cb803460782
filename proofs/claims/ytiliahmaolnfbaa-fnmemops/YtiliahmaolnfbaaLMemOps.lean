/- FnMemOps: the memory operations agree with the model and with one another. No condition. -/
import Derived.Test.YtiliahmaolnfbaaSame
import Derived.Test.YtiliahmaolnfbaaOpsY
namespace Go.Proofs.Ytiliahmaolnfbaa
open Go.ChangeShapes Go.WideShapes Go.ChangeAt Go.RowKit
set_option linter.unusedVariables false

set_option maxRecDepth 100000 in
set_option maxHeartbeats 8000000 in
theorem fnMemOps_small (A : Option Addr) (n c : Nat) (bs : List Int) (w : World) (h : RdK .u8 w w.heap.size A n bs) (hf : ∀ z ∈ bs, 0 ≤ z ∧ z < 256) (hn : n ≤ 1048576) :
    Calls Try.prog 3 #[.slice A n c] w fun e w' => e = .returned (.bool true) ∧ Below w.heap.size w w' := by
  have H := Lib.hid h
  have HF := Lib.hid hf
  clear h hf
  have nb : decide (1048576 < (n : Int)) = false := by simp; omega
  go_enter Try.func3, Try.ntmps3
  go_wp2_with fail
  refine (big_any A n c w).mono ?_
  rintro e w' ⟨rfl, rfl⟩
  go_wp2_with fail
  refine (drawAdd A n c bs _ H.out HF.out hn).mono ?_
  rintro e w1 ⟨Am, m, cm, ws, at_, x, rfl, hm, hws, hat, hx0, hx1, ho, hb1⟩
  have z1 : w.heap.size ≤ w1.heap.size := hb1.size
  have BB1 := Lib.hid (Below.trans (Below.refl w.heap.size w) (hb1.mono (by first | omega | (simp; done) | (simp; omega))))
  clear hb1 
  have Oa1 := Lib.hid ho
  clear ho
  have HWS := Lib.hid hws
  have HX : Hid (0 ≤ x ∧ x < 4294967296) := ⟨hx0, hx1⟩
  clear hat hws hx1
  by_cases hw : HasW m at_
  · obtain ⟨h1, h2, h3⟩ := hw
    obtain ⟨k, rfl⟩ := Int.eq_ofNat_of_zero_le h2
    have hk : k < m := by omega
    clear h2 h3
    obtain ⟨za, zo, zn, y, v, p, q, mm⟩ := ops_math ws k x HWS.out (by rw [Oa1.out.len]; exact hk) HX.out
    have M := Lib.hid mm
    clear mm HWS
    have by0 : (y != y) = false := by simp
    go_wp2_with fail
    refine (sAddY Am m cm _ k x y ws za _ (Oa1.out.alloc (.cells #[.slice Am m cm] 26)).rd (Nat.le_refl _) h1 hk M.out.at_ M.out.add M.out.hy HX.out).mono ?_
    rintro e w2 ⟨As, cs, rfl, hos, hb2⟩
    have a2 : w2.cell? ⟨w1.heap.size, 0, none⟩ = some (.slice Am m cm) := later hb2 (by simp)
    have z2 : w1.heap.size + 1 ≤ w2.heap.size := by have := hb2.size; simp at this; omega
    have la2 : w1.heap.size < w2.heap.size := by have := World.block_lt_of_cell? _ _ a2; simpa using this
    have BB2 := Lib.hid (Below.trans ((Below.alloc (BB1.out) (by first | omega | (simp; omega)) _)) (hb2.mono (by first | omega | (simp; done) | (simp; omega))))
    have Oa2 := Lib.hid (Own.below (Oa1.out.alloc _) hb2)
    clear hb2 BB1 Oa1
    have Os2 := Lib.hid hos
    clear hos
    go_wp2_with fail
    refine (iAddY Am m cm _ k x y ws za _ (Oa2.out.alloc (.cells #[.slice As m cs] 26)).rd (Nat.le_refl _) h1 hk M.out.at_ M.out.add M.out.hy HX.out).mono ?_
    rintro e w3 ⟨Ag, cg, rfl, hog, hb3⟩
    have a3 := later hb3 (older a2 _)
    have s3 : w3.cell? ⟨w2.heap.size, 0, none⟩ = some (.slice As m cs) := later hb3 (by simp)
    have z3 : w2.heap.size + 1 ≤ w3.heap.size := by have := hb3.size; simp at this; omega
    have la3 : w1.heap.size < w3.heap.size := by have := World.block_lt_of_cell? _ _ a3; simpa using this
    have ls3 : w2.heap.size < w3.heap.size := by have := World.block_lt_of_cell? _ _ s3; simpa using this
    have BB3 := Lib.hid (Below.trans ((Below.alloc (BB2.out) (by first | omega | (simp; omega)) _)) (hb3.mono (by first | omega | (simp; done) | (simp; omega))))
    have Oa3 := Lib.hid (Own.below (Oa2.out.alloc _) hb3)
    have Os3 := Lib.hid (Own.below (Os2.out.alloc _) hb3)
    clear hb3 a2 la2 BB2 Oa2 Os2
    have Og3 := Lib.hid hog
    clear hog
    go_wp2_with fail
    have qq := sameMem_any Ag As m m cg cs _ _ za za _ (Og3.out.alloc (.cells #[.slice Ag m cg] 26)).rd (Os3.out.alloc (.cells #[.slice Ag m cg] 26)).rd (Nat.le_refl _) (Nat.le_refl _) (by omega) (by omega)
    rw [decide_eq_true rfl] at qq
    have QQ := Lib.hid qq
    clear qq
    refine (QQ.out).mono ?_
    rintro e w4 ⟨rfl, hb4⟩
    have a4 := later hb4 (older a3 _)
    have s4 := later hb4 (older s3 _)
    have g4 : w4.cell? ⟨w3.heap.size, 0, none⟩ = some (.slice Ag m cg) := later hb4 (by simp)
    have z4 : w3.heap.size + 1 ≤ w4.heap.size := by have := hb4.size; simp at this; omega
    have la4 : w1.heap.size < w4.heap.size := by have := World.block_lt_of_cell? _ _ a4; simpa using this
    have ls4 : w2.heap.size < w4.heap.size := by have := World.block_lt_of_cell? _ _ s4; simpa using this
    have lg4 : w3.heap.size < w4.heap.size := by have := World.block_lt_of_cell? _ _ g4; simpa using this
    have BB4 := Lib.hid (Below.trans ((Below.alloc (BB3.out) (by first | omega | (simp; omega)) _)) (hb4.mono (by first | omega | (simp; done) | (simp; omega))))
    have Oa4 := Lib.hid (Own.below (Oa3.out.alloc _) hb4)
    have Os4 := Lib.hid (Own.below (Os3.out.alloc _) hb4)
    have Og4 := Lib.hid (Own.below (Og3.out.alloc _) hb4)
    clear hb4 a3 la3 s3 ls3 BB3 Oa3 Os3 Og3
    clear QQ
    go_wp2_with fail
    refine (iAddY Ag m cg _ k (-x % 4294967296) v za ws _ Og4.out.rd (Nat.le_refl _) h1 hk M.out.aat (M.out.back _ rfl) M.out.hv ⟨Int.emod_nonneg _ (by decide), Int.emod_lt_of_pos _ (by decide)⟩).mono ?_
    rintro e w5 ⟨Ab, cb, rfl, hob, hb5⟩
    have a5 := later hb5 a4
    have s5 := later hb5 s4
    have g5 := later hb5 g4
    have z5 : w4.heap.size ≤ w5.heap.size := hb5.size
    have la5 : w1.heap.size < w5.heap.size := by have := World.block_lt_of_cell? _ _ a5; simpa using this
    have ls5 : w2.heap.size < w5.heap.size := by have := World.block_lt_of_cell? _ _ s5; simpa using this
    have lg5 : w3.heap.size < w5.heap.size := by have := World.block_lt_of_cell? _ _ g5; simpa using this
    have BB5 := Lib.hid (Below.trans (BB4.out) (hb5.mono (by first | omega | (simp; done) | (simp; omega))))
    have Oa5 := Lib.hid (Own.below Oa4.out hb5)
    have Os5 := Lib.hid (Own.below Os4.out hb5)
    have Og5 := Lib.hid (Own.below Og4.out hb5)
    clear hb5 a4 la4 s4 ls4 g4 lg4 BB4 Oa4 Os4 Og4
    have Ob5 := Lib.hid hob
    clear hob
    go_wp2_with fail
    refine (iOrY Am m cm _ k x y ws zo _ (Oa5.out.alloc (.cells #[.slice Ab m cb] 26)).rd (Nat.le_refl _) h1 hk M.out.at_ M.out.or).mono ?_
    rintro e w6 ⟨Ao, co, rfl, hoo, hb6⟩
    have a6 := later hb6 (older a5 _)
    have s6 := later hb6 (older s5 _)
    have g6 := later hb6 (older g5 _)
    have b6 : w6.cell? ⟨w5.heap.size, 0, none⟩ = some (.slice Ab m cb) := later hb6 (by simp)
    have z6 : w5.heap.size + 1 ≤ w6.heap.size := by have := hb6.size; simp at this; omega
    have la6 : w1.heap.size < w6.heap.size := by have := World.block_lt_of_cell? _ _ a6; simpa using this
    have ls6 : w2.heap.size < w6.heap.size := by have := World.block_lt_of_cell? _ _ s6; simpa using this
    have lg6 : w3.heap.size < w6.heap.size := by have := World.block_lt_of_cell? _ _ g6; simpa using this
    have lb6 : w5.heap.size < w6.heap.size := by have := World.block_lt_of_cell? _ _ b6; simpa using this
    have BB6 := Lib.hid (Below.trans ((Below.alloc (BB5.out) (by first | omega | (simp; omega)) _)) (hb6.mono (by first | omega | (simp; done) | (simp; omega))))
    have Oa6 := Lib.hid (Own.below (Oa5.out.alloc _) hb6)
    have Os6 := Lib.hid (Own.below (Os5.out.alloc _) hb6)
    have Og6 := Lib.hid (Own.below (Og5.out.alloc _) hb6)
    have Ob6 := Lib.hid (Own.below (Ob5.out.alloc _) hb6)
    clear hb6 a5 la5 s5 ls5 g5 lg5 BB5 Oa5 Os5 Og5 Ob5
    have Oo6 := Lib.hid hoo
    clear hoo
    go_wp2_with fail
    refine (iAndY Am m cm _ k x y ws zn _ (Oa6.out.alloc (.cells #[.slice Ao m co] 26)).rd (Nat.le_refl _) h1 hk M.out.at_ M.out.and).mono ?_
    rintro e w7 ⟨An, cn, rfl, hon, hb7⟩
    have a7 := later hb7 (older a6 _)
    have s7 := later hb7 (older s6 _)
    have g7 := later hb7 (older g6 _)
    have b7 := later hb7 (older b6 _)
    have o7 : w7.cell? ⟨w6.heap.size, 0, none⟩ = some (.slice Ao m co) := later hb7 (by simp)
    have z7 : w6.heap.size + 1 ≤ w7.heap.size := by have := hb7.size; simp at this; omega
    have la7 : w1.heap.size < w7.heap.size := by have := World.block_lt_of_cell? _ _ a7; simpa using this
    have ls7 : w2.heap.size < w7.heap.size := by have := World.block_lt_of_cell? _ _ s7; simpa using this
    have lg7 : w3.heap.size < w7.heap.size := by have := World.block_lt_of_cell? _ _ g7; simpa using this
    have lb7 : w5.heap.size < w7.heap.size := by have := World.block_lt_of_cell? _ _ b7; simpa using this
    have lo7 : w6.heap.size < w7.heap.size := by have := World.block_lt_of_cell? _ _ o7; simpa using this
    have BB7 := Lib.hid (Below.trans ((Below.alloc (BB6.out) (by first | omega | (simp; omega)) _)) (hb7.mono (by first | omega | (simp; done) | (simp; omega))))
    have Oa7 := Lib.hid (Own.below (Oa6.out.alloc _) hb7)
    have Os7 := Lib.hid (Own.below (Os6.out.alloc _) hb7)
    have Og7 := Lib.hid (Own.below (Og6.out.alloc _) hb7)
    have Ob7 := Lib.hid (Own.below (Ob6.out.alloc _) hb7)
    have Oo7 := Lib.hid (Own.below (Oo6.out.alloc _) hb7)
    clear hb7 a6 la6 s6 ls6 g6 lg6 b6 lb6 BB6 Oa6 Os6 Og6 Ob6 Oo6
    have On7 := Lib.hid hon
    clear hon
    go_wp2_with fail
    refine (iLoadY Ao m co _ k p zo _ (Oo7.out.alloc (.cells #[.slice An m cn] 26)).rd (Nat.le_refl _) h1 hk M.out.oat).mono ?_
    rintro e w8 ⟨rfl, hb8⟩
    have a8 := later hb8 (older a7 _)
    have s8 := later hb8 (older s7 _)
    have g8 := later hb8 (older g7 _)
    have b8 := later hb8 (older b7 _)
    have o8 := later hb8 (older o7 _)
    have n8 : w8.cell? ⟨w7.heap.size, 0, none⟩ = some (.slice An m cn) := later hb8 (by simp)
    have z8 : w7.heap.size + 1 ≤ w8.heap.size := by have := hb8.size; simp at this; omega
    have la8 : w1.heap.size < w8.heap.size := by have := World.block_lt_of_cell? _ _ a8; simpa using this
    have ls8 : w2.heap.size < w8.heap.size := by have := World.block_lt_of_cell? _ _ s8; simpa using this
    have lg8 : w3.heap.size < w8.heap.size := by have := World.block_lt_of_cell? _ _ g8; simpa using this
    have lb8 : w5.heap.size < w8.heap.size := by have := World.block_lt_of_cell? _ _ b8; simpa using this
    have lo8 : w6.heap.size < w8.heap.size := by have := World.block_lt_of_cell? _ _ o8; simpa using this
    have ln8 : w7.heap.size < w8.heap.size := by have := World.block_lt_of_cell? _ _ n8; simpa using this
    have BB8 := Lib.hid (Below.trans ((Below.alloc (BB7.out) (by first | omega | (simp; omega)) _)) (hb8.mono (by first | omega | (simp; done) | (simp; omega))))
    have Oa8 := Lib.hid (Own.below (Oa7.out.alloc _) hb8)
    have Os8 := Lib.hid (Own.below (Os7.out.alloc _) hb8)
    have Og8 := Lib.hid (Own.below (Og7.out.alloc _) hb8)
    have Ob8 := Lib.hid (Own.below (Ob7.out.alloc _) hb8)
    have Oo8 := Lib.hid (Own.below (Oo7.out.alloc _) hb8)
    have On8 := Lib.hid (Own.below (On7.out.alloc _) hb8)
    clear hb8 a7 la7 s7 ls7 g7 lg7 b7 lb7 o7 lo7 BB7 Oa7 Os7 Og7 Ob7 Oo7 On7
    go_wp2_with fail
    refine (iLoadY An m cn _ k q zn _ On8.out.rd (Nat.le_refl _) h1 hk M.out.nat).mono ?_
    rintro e w9 ⟨rfl, hb9⟩
    have a9 := later hb9 a8
    have s9 := later hb9 s8
    have g9 := later hb9 g8
    have b9 := later hb9 b8
    have o9 := later hb9 o8
    have n9 := later hb9 n8
    have z9 : w8.heap.size ≤ w9.heap.size := hb9.size
    have la9 : w1.heap.size < w9.heap.size := by have := World.block_lt_of_cell? _ _ a9; simpa using this
    have ls9 : w2.heap.size < w9.heap.size := by have := World.block_lt_of_cell? _ _ s9; simpa using this
    have lg9 : w3.heap.size < w9.heap.size := by have := World.block_lt_of_cell? _ _ g9; simpa using this
    have lb9 : w5.heap.size < w9.heap.size := by have := World.block_lt_of_cell? _ _ b9; simpa using this
    have lo9 : w6.heap.size < w9.heap.size := by have := World.block_lt_of_cell? _ _ o9; simpa using this
    have ln9 : w7.heap.size < w9.heap.size := by have := World.block_lt_of_cell? _ _ n9; simpa using this
    have BB9 := Lib.hid (Below.trans (BB8.out) (hb9.mono (by first | omega | (simp; done) | (simp; omega))))
    have Oa9 := Lib.hid (Own.below Oa8.out hb9)
    have Os9 := Lib.hid (Own.below Os8.out hb9)
    have Og9 := Lib.hid (Own.below Og8.out hb9)
    have Ob9 := Lib.hid (Own.below Ob8.out hb9)
    have Oo9 := Lib.hid (Own.below Oo8.out hb9)
    have On9 := Lib.hid (Own.below On8.out hb9)
    clear hb9 a8 la8 s8 ls8 g8 lg8 b8 lb8 o8 lo8 n8 ln8 BB8 Oa8 Os8 Og8 Ob8 Oo8 On8
    go_wp2_with fail
    refine (iStoreY Ag m cg _ k y za ws _ Og9.out.rd (Nat.le_refl _) h1 hk M.out.store).mono ?_
    rintro e w10 ⟨Ar, cr, rfl, hor, hb10⟩
    have a10 := later hb10 a9
    have s10 := later hb10 s9
    have g10 := later hb10 g9
    have b10 := later hb10 b9
    have o10 := later hb10 o9
    have n10 := later hb10 n9
    have z10 : w9.heap.size ≤ w10.heap.size := hb10.size
    have la10 : w1.heap.size < w10.heap.size := by have := World.block_lt_of_cell? _ _ a10; simpa using this
    have ls10 : w2.heap.size < w10.heap.size := by have := World.block_lt_of_cell? _ _ s10; simpa using this
    have lg10 : w3.heap.size < w10.heap.size := by have := World.block_lt_of_cell? _ _ g10; simpa using this
    have lb10 : w5.heap.size < w10.heap.size := by have := World.block_lt_of_cell? _ _ b10; simpa using this
    have lo10 : w6.heap.size < w10.heap.size := by have := World.block_lt_of_cell? _ _ o10; simpa using this
    have ln10 : w7.heap.size < w10.heap.size := by have := World.block_lt_of_cell? _ _ n10; simpa using this
    have BB10 := Lib.hid (Below.trans (BB9.out) (hb10.mono (by first | omega | (simp; done) | (simp; omega))))
    have Oa10 := Lib.hid (Own.below Oa9.out hb10)
    have Os10 := Lib.hid (Own.below Os9.out hb10)
    have Og10 := Lib.hid (Own.below Og9.out hb10)
    have Ob10 := Lib.hid (Own.below Ob9.out hb10)
    have Oo10 := Lib.hid (Own.below Oo9.out hb10)
    have On10 := Lib.hid (Own.below On9.out hb10)
    clear hb10 a9 la9 s9 ls9 g9 lg9 b9 lb9 o9 lo9 n9 ln9 BB9 Oa9 Os9 Og9 Ob9 Oo9 On9
    have Or10 := Lib.hid hor
    clear hor
    go_wp2
    obtain ⟨w11, hW⟩ : ∃ W, W = w10.alloc (.cells #[.slice Ar m cr] 26) := ⟨_, rfl⟩
    rw [← hW]
    have hb11 : Below (w10.alloc (.cells #[.slice Ar m cr] 26)).heap.size (w10.alloc (.cells #[.slice Ar m cr] 26)) w11 := by rw [hW]; exact Below.refl _ _
    clear hW
    have a11 := later hb11 (older a10 _)
    have s11 := later hb11 (older s10 _)
    have g11 := later hb11 (older g10 _)
    have b11 := later hb11 (older b10 _)
    have o11 := later hb11 (older o10 _)
    have n11 := later hb11 (older n10 _)
    have r11 : w11.cell? ⟨w10.heap.size, 0, none⟩ = some (.slice Ar m cr) := later hb11 (by simp)
    have z11 : w10.heap.size + 1 ≤ w11.heap.size := by have := hb11.size; simp at this; omega
    have la11 : w1.heap.size < w11.heap.size := by have := World.block_lt_of_cell? _ _ a11; simpa using this
    have ls11 : w2.heap.size < w11.heap.size := by have := World.block_lt_of_cell? _ _ s11; simpa using this
    have lg11 : w3.heap.size < w11.heap.size := by have := World.block_lt_of_cell? _ _ g11; simpa using this
    have lb11 : w5.heap.size < w11.heap.size := by have := World.block_lt_of_cell? _ _ b11; simpa using this
    have lo11 : w6.heap.size < w11.heap.size := by have := World.block_lt_of_cell? _ _ o11; simpa using this
    have ln11 : w7.heap.size < w11.heap.size := by have := World.block_lt_of_cell? _ _ n11; simpa using this
    have lr11 : w10.heap.size < w11.heap.size := by have := World.block_lt_of_cell? _ _ r11; simpa using this
    have BB11 := Lib.hid (Below.trans ((Below.alloc (BB10.out) (by first | omega | (simp; omega)) _)) (hb11.mono (by first | omega | (simp; done) | (simp; omega))))
    have Oa11 := Lib.hid (Own.below (Oa10.out.alloc _) hb11)
    have Os11 := Lib.hid (Own.below (Os10.out.alloc _) hb11)
    have Og11 := Lib.hid (Own.below (Og10.out.alloc _) hb11)
    have Ob11 := Lib.hid (Own.below (Ob10.out.alloc _) hb11)
    have Oo11 := Lib.hid (Own.below (Oo10.out.alloc _) hb11)
    have On11 := Lib.hid (Own.below (On10.out.alloc _) hb11)
    have Or11 := Lib.hid (Own.below (Or10.out.alloc _) hb11)
    clear hb11 a10 la10 s10 ls10 g10 lg10 b10 lb10 o10 lo10 n10 ln10 BB10 Oa10 Os10 Og10 Ob10 Oo10 On10 Or10
    go_loopw [27] (fun i wr => ∃ j : Nat, j ≤ m ∧ i = .int .i64 j ∧ (∃ q, wr = w11.drewN q)) (fun i _ => m - (intOf i).toNat)
    case atStart => exact ⟨0, Nat.zero_le _, rfl, ⟨0, rfl⟩⟩
    case round =>
      obtain ⟨j, hj, rfl, ⟨dq, rfl⟩⟩ := hrel
      by_cases hlt : j < m
      · by_cases e : j = k
        · subst e
          have b1 : ((j : Int) != (j : Int)) = false := by simp
          go_wp2
          go_quiet (fail)
          go_wp2
          go_roundw
          case rel => exact ⟨j + 1, by omega, by go_num, ⟨_, rfl⟩⟩
          case measure => simp [intOf]; omega
        · have b1 : ((j : Int) != (k : Int)) = true := by simp; omega
          obtain ⟨ga, hAa, _, _⟩ := Oa11.out.form (by omega)
          have ca_ := Oa11.out.cell hAa hlt
          have fa_ : ga < w11.heap.size := (World.ownsRow.lt Oa11.out ga (by rw [hAa]; rfl)).2
          obtain ⟨gg, hAg, _, _⟩ := Og11.out.form (by omega)
          have cg_ := Og11.out.cell hAg hlt
          have fg_ : gg < w11.heap.size := (World.ownsRow.lt Og11.out gg (by rw [hAg]; rfl)).2
          rw [M.out.aoff j e] at cg_
          obtain ⟨go, hAo, _, _⟩ := Oo11.out.form (by omega)
          have co_ := Oo11.out.cell hAo hlt
          have fo_ : go < w11.heap.size := (World.ownsRow.lt Oo11.out go (by rw [hAo]; rfl)).2
          rw [M.out.ooff j e] at co_
          obtain ⟨gn, hAn, _, _⟩ := On11.out.form (by omega)
          have cn_ := On11.out.cell hAn hlt
          have fn_ : gn < w11.heap.size := (World.ownsRow.lt On11.out gn (by rw [hAn]; rfl)).2
          rw [M.out.noff j e] at cn_
          subst hAa
          subst hAg
          subst hAo
          subst hAn
          generalize ws[j]?.getD 0 = u at ca_ cg_ co_ cn_
          have b2 : (u != u) = false := by simp
          clear e
          go_wp2
          go_quiet (fail)
          go_wp2
          go_roundw
          case rel => exact ⟨j + 1, by omega, by go_num, ⟨_, rfl⟩⟩
          case measure => simp [intOf]; omega
      · obtain ⟨w12, hW⟩ : ∃ W, W = w11.drewN dq := ⟨_, rfl⟩
        rw [← hW]
        have hb12 : Below w11.heap.size w11 w12 := by rw [hW]; exact below_drewN (Below.refl _ _) _
        clear hW
        have a12 := later hb12 a11
        have s12 := later hb12 s11
        have g12 := later hb12 g11
        have b12 := later hb12 b11
        have o12 := later hb12 o11
        have n12 := later hb12 n11
        have r12 := later hb12 r11
        have z12 : w11.heap.size ≤ w12.heap.size := hb12.size
        have la12 : w1.heap.size < w12.heap.size := by have := World.block_lt_of_cell? _ _ a12; simpa using this
        have ls12 : w2.heap.size < w12.heap.size := by have := World.block_lt_of_cell? _ _ s12; simpa using this
        have lg12 : w3.heap.size < w12.heap.size := by have := World.block_lt_of_cell? _ _ g12; simpa using this
        have lb12 : w5.heap.size < w12.heap.size := by have := World.block_lt_of_cell? _ _ b12; simpa using this
        have lo12 : w6.heap.size < w12.heap.size := by have := World.block_lt_of_cell? _ _ o12; simpa using this
        have ln12 : w7.heap.size < w12.heap.size := by have := World.block_lt_of_cell? _ _ n12; simpa using this
        have lr12 : w10.heap.size < w12.heap.size := by have := World.block_lt_of_cell? _ _ r12; simpa using this
        have BB12 := Lib.hid (Below.trans (BB11.out) (hb12.mono (by first | omega | (simp; done) | (simp; omega))))
        have Oa12 := Lib.hid (Own.below Oa11.out hb12)
        have Os12 := Lib.hid (Own.below Os11.out hb12)
        have Og12 := Lib.hid (Own.below Og11.out hb12)
        have Ob12 := Lib.hid (Own.below Ob11.out hb12)
        have Oo12 := Lib.hid (Own.below Oo11.out hb12)
        have On12 := Lib.hid (Own.below On11.out hb12)
        have Or12 := Lib.hid (Own.below Or11.out hb12)
        clear hb12 a11 la11 s11 ls11 g11 lg11 b11 lb11 o11 lo11 n11 ln11 r11 lr11 BB11 Oa11 Os11 Og11 Ob11 Oo11 On11 Or11
        have bs_ : ((p + q) % 4294967296 == (y + x) % 4294967296) = true := by rw [M.out.sum]; simp
        go_wp2_with fail
        have qq := sameMem_any Ab Am m m cb cm _ _ ws ws _ Ob12.out.rd Oa12.out.rd (Nat.le_refl _) (Nat.le_refl _) (by omega) (by omega)
        rw [decide_eq_true rfl] at qq
        have QQ := Lib.hid qq
        clear qq
        refine (QQ.out).mono ?_
        rintro e w13 ⟨rfl, hb13⟩
        have a13 := later hb13 a12
        have s13 := later hb13 s12
        have g13 := later hb13 g12
        have b13 := later hb13 b12
        have o13 := later hb13 o12
        have n13 := later hb13 n12
        have r13 := later hb13 r12
        have z13 : w12.heap.size ≤ w13.heap.size := hb13.size
        have la13 : w1.heap.size < w13.heap.size := by have := World.block_lt_of_cell? _ _ a13; simpa using this
        have ls13 : w2.heap.size < w13.heap.size := by have := World.block_lt_of_cell? _ _ s13; simpa using this
        have lg13 : w3.heap.size < w13.heap.size := by have := World.block_lt_of_cell? _ _ g13; simpa using this
        have lb13 : w5.heap.size < w13.heap.size := by have := World.block_lt_of_cell? _ _ b13; simpa using this
        have lo13 : w6.heap.size < w13.heap.size := by have := World.block_lt_of_cell? _ _ o13; simpa using this
        have ln13 : w7.heap.size < w13.heap.size := by have := World.block_lt_of_cell? _ _ n13; simpa using this
        have lr13 : w10.heap.size < w13.heap.size := by have := World.block_lt_of_cell? _ _ r13; simpa using this
        have BB13 := Lib.hid (Below.trans (BB12.out) (hb13.mono (by first | omega | (simp; done) | (simp; omega))))
        have Oa13 := Lib.hid (Own.below Oa12.out hb13)
        have Os13 := Lib.hid (Own.below Os12.out hb13)
        have Og13 := Lib.hid (Own.below Og12.out hb13)
        have Ob13 := Lib.hid (Own.below Ob12.out hb13)
        have Oo13 := Lib.hid (Own.below Oo12.out hb13)
        have On13 := Lib.hid (Own.below On12.out hb13)
        have Or13 := Lib.hid (Own.below Or12.out hb13)
        clear hb13 a12 la12 s12 ls12 g12 lg12 b12 lb12 o12 lo12 n12 ln12 r12 lr12 BB12 Oa12 Os12 Og12 Ob12 Oo12 On12 Or12
        clear QQ
        go_wp2_with fail
        have qq := sameMem_any Ar Am m m cr cm _ _ ws ws _ Or13.out.rd Oa13.out.rd (Nat.le_refl _) (Nat.le_refl _) (by omega) (by omega)
        rw [decide_eq_true rfl] at qq
        have QQ := Lib.hid qq
        clear qq
        refine (QQ.out).mono ?_
        rintro e w14 ⟨rfl, hb14⟩
        have a14 := later hb14 a13
        have s14 := later hb14 s13
        have g14 := later hb14 g13
        have b14 := later hb14 b13
        have o14 := later hb14 o13
        have n14 := later hb14 n13
        have r14 := later hb14 r13
        have z14 : w13.heap.size ≤ w14.heap.size := hb14.size
        have la14 : w1.heap.size < w14.heap.size := by have := World.block_lt_of_cell? _ _ a14; simpa using this
        have ls14 : w2.heap.size < w14.heap.size := by have := World.block_lt_of_cell? _ _ s14; simpa using this
        have lg14 : w3.heap.size < w14.heap.size := by have := World.block_lt_of_cell? _ _ g14; simpa using this
        have lb14 : w5.heap.size < w14.heap.size := by have := World.block_lt_of_cell? _ _ b14; simpa using this
        have lo14 : w6.heap.size < w14.heap.size := by have := World.block_lt_of_cell? _ _ o14; simpa using this
        have ln14 : w7.heap.size < w14.heap.size := by have := World.block_lt_of_cell? _ _ n14; simpa using this
        have lr14 : w10.heap.size < w14.heap.size := by have := World.block_lt_of_cell? _ _ r14; simpa using this
        have BB14 := Lib.hid (Below.trans (BB13.out) (hb14.mono (by first | omega | (simp; done) | (simp; omega))))
        have Oa14 := Lib.hid (Own.below Oa13.out hb14)
        have Os14 := Lib.hid (Own.below Os13.out hb14)
        have Og14 := Lib.hid (Own.below Og13.out hb14)
        have Ob14 := Lib.hid (Own.below Ob13.out hb14)
        have Oo14 := Lib.hid (Own.below Oo13.out hb14)
        have On14 := Lib.hid (Own.below On13.out hb14)
        have Or14 := Lib.hid (Own.below Or13.out hb14)
        clear hb14 a13 la13 s13 ls13 g13 lg13 b13 lb13 o13 lo13 n13 ln13 r13 lr13 BB13 Oa13 Os13 Og13 Ob13 Oo13 On13 Or13
        clear QQ
        go_wp2
        go_ret
        exact ⟨rfl, BB14.out⟩
  · skip
    go_wp2_with fail
    refine (sAdd_no Am m cm at_ x _ hw (by omega) HX.out).mono ?_
    rintro e w2 ⟨rfl, hb2⟩
    have a2 : w2.cell? ⟨w1.heap.size, 0, none⟩ = some (.slice Am m cm) := later hb2 (by simp)
    have z2 : w1.heap.size + 1 ≤ w2.heap.size := by have := hb2.size; simp at this; omega
    have la2 : w1.heap.size < w2.heap.size := by have := World.block_lt_of_cell? _ _ a2; simpa using this
    have BB2 := Lib.hid (Below.trans ((Below.alloc (BB1.out) (by first | omega | (simp; omega)) _)) (hb2.mono (by first | omega | (simp; done) | (simp; omega))))
    have Oa2 := Lib.hid (Own.below (Oa1.out.alloc _) hb2)
    clear hb2 BB1 Oa1
    have hos := Own.zero (w := w2) (b0 := 0)
    have Os2 := Lib.hid hos
    clear hos
    go_wp2_with fail
    refine (iAdd_no Am m cm at_ x _ hw (by omega)).mono ?_
    rintro e w3 ⟨rfl, hb3⟩
    have a3 := later hb3 (older a2 _)
    have s3 : w3.cell? ⟨w2.heap.size, 0, none⟩ = some (.slice none 0 0) := later hb3 (by simp)
    have z3 : w2.heap.size + 1 ≤ w3.heap.size := by have := hb3.size; simp at this; omega
    have la3 : w1.heap.size < w3.heap.size := by have := World.block_lt_of_cell? _ _ a3; simpa using this
    have ls3 : w2.heap.size < w3.heap.size := by have := World.block_lt_of_cell? _ _ s3; simpa using this
    have BB3 := Lib.hid (Below.trans ((Below.alloc (BB2.out) (by first | omega | (simp; omega)) _)) (hb3.mono (by first | omega | (simp; done) | (simp; omega))))
    have Oa3 := Lib.hid (Own.below (Oa2.out.alloc _) hb3)
    have Os3 := Lib.hid (Own.below (Os2.out.alloc _) hb3)
    clear hb3 a2 la2 BB2 Oa2 Os2
    have hog := Own.zero (w := w3) (b0 := 0)
    have Og3 := Lib.hid hog
    clear hog
    go_wp2_with fail
    have qq := sameMem_any none none 0 0 0 0 _ _ [] [] _ (Og3.out.alloc (.cells #[.slice none 0 0] 26)).rd (Os3.out.alloc (.cells #[.slice none 0 0] 26)).rd (Nat.le_refl _) (Nat.le_refl _) (by omega) (by omega)
    rw [decide_eq_true rfl] at qq
    have QQ := Lib.hid qq
    clear qq
    refine (QQ.out).mono ?_
    rintro e w4 ⟨rfl, hb4⟩
    have a4 := later hb4 (older a3 _)
    have s4 := later hb4 (older s3 _)
    have g4 : w4.cell? ⟨w3.heap.size, 0, none⟩ = some (.slice none 0 0) := later hb4 (by simp)
    have z4 : w3.heap.size + 1 ≤ w4.heap.size := by have := hb4.size; simp at this; omega
    have la4 : w1.heap.size < w4.heap.size := by have := World.block_lt_of_cell? _ _ a4; simpa using this
    have ls4 : w2.heap.size < w4.heap.size := by have := World.block_lt_of_cell? _ _ s4; simpa using this
    have lg4 : w3.heap.size < w4.heap.size := by have := World.block_lt_of_cell? _ _ g4; simpa using this
    have BB4 := Lib.hid (Below.trans ((Below.alloc (BB3.out) (by first | omega | (simp; omega)) _)) (hb4.mono (by first | omega | (simp; done) | (simp; omega))))
    have Oa4 := Lib.hid (Own.below (Oa3.out.alloc _) hb4)
    have Os4 := Lib.hid (Own.below (Os3.out.alloc _) hb4)
    have Og4 := Lib.hid (Own.below (Og3.out.alloc _) hb4)
    clear hb4 a3 la3 s3 ls3 BB3 Oa3 Os3 Og3
    clear QQ
    go_wp2_with fail
    have qq := sameMem_any none none 0 0 0 0 _ _ [] [] _ Og4.out.rd Os4.out.rd (Nat.le_refl _) (Nat.le_refl _) (by omega) (by omega)
    rw [decide_eq_true rfl] at qq
    have QQ := Lib.hid qq
    clear qq
    refine (QQ.out).mono ?_
    rintro e w5 ⟨rfl, hb5⟩
    have a5 := later hb5 a4
    have s5 := later hb5 s4
    have g5 := later hb5 g4
    have z5 : w4.heap.size ≤ w5.heap.size := hb5.size
    have la5 : w1.heap.size < w5.heap.size := by have := World.block_lt_of_cell? _ _ a5; simpa using this
    have ls5 : w2.heap.size < w5.heap.size := by have := World.block_lt_of_cell? _ _ s5; simpa using this
    have lg5 : w3.heap.size < w5.heap.size := by have := World.block_lt_of_cell? _ _ g5; simpa using this
    have BB5 := Lib.hid (Below.trans (BB4.out) (hb5.mono (by first | omega | (simp; done) | (simp; omega))))
    have Oa5 := Lib.hid (Own.below Oa4.out hb5)
    have Os5 := Lib.hid (Own.below Os4.out hb5)
    have Og5 := Lib.hid (Own.below Og4.out hb5)
    clear hb5 a4 la4 s4 ls4 g4 lg4 BB4 Oa4 Os4 Og4
    clear QQ
    go_wp2
    go_ret
    exact ⟨rfl, BB5.out⟩

set_option maxRecDepth 100000 in
set_option maxHeartbeats 400000 in
theorem fnMemOps_walk (A : Option Addr) (n c : Nat) (bs : List Int) (w : World) (h : RdK .u8 w w.heap.size A n bs) (hm : n ≤ maxLen) (hf : ∀ z ∈ bs, 0 ≤ z ∧ z < 256) :
    Calls Try.prog 3 #[.slice A n c] w fun e w' => e = .returned (.bool true) ∧ Below w.heap.size w w' := by
  by_cases hn : n ≤ 1048576
  · exact fnMemOps_small A n c bs w h hf hn
  · have nb : decide (1048576 < (n : Int)) = true := by simp; omega
    clear h hf
    go_enter Try.func3, Try.ntmps3
    go_wp2_with fail
    refine (big_any A n c w).mono ?_
    rintro e w' ⟨rfl, rfl⟩
    go_wp2
    go_ret
    exact ⟨rfl, Below.refl _ _⟩

set_option maxRecDepth 100000 in
theorem fnMemOps_lifted (os : Os) (started : os.Started) (H : Type) (enc : TypeId × Value → H) :
    ReturnsInHanded {} Try.checked os 3 .any (Rows.fnMemOpsSpec.pre6 enc Try.prog Try.f3 Rows.fnMemOpsRow.domain false) (Rows.fnMemOpsSpec.post enc Try.prog Try.f3 false true false false) := by
  refine returnsInHanded_of_change (C := Try.checked) own started (by kernel_rfl) Try.func3
    (ChangeSpec.witness6 (enc := enc) (C := Try.checked) false ⟨#[], #[.slice none 0 0], []⟩ 8 (by kernel_rfl) (by kernel_rfl) (by kernel_rfl) (by kernel_rfl)) ?_
  intro W base args ds gs before hval0 hW hcnd _
  have hval : ∀ (j : Nat) t v, Try.f3.params[j]? = some t → args[j]? = some v → Value.okWide Try.prog W .any base t v := hval0
  have hW' := hW
  obtain ⟨p, q, hA0, hV, rfl, hfz, hnd⟩ := hW
  have hA : DataW.TrodAll enc Try.prog W 0 (fun _ => true) true Try.f3.params.toList args.toList ds p := hA0
  rw [Try.params3] at hA hval
  obtain ⟨v0, vs0, d0, ds0, p0, q0, hargs, rfl, rfl, h0, r0⟩ := trodAll_cons hA
  obtain ⟨rfl, rfl, rfl⟩ := trodAll_nil r0
  obtain rfl : args = #[v0] := by cases args; simp_all
  obtain ⟨rfl, rfl⟩ := trodVars_none hV
  have k0 := h0
  have lt0 : ∀ x ∈ p0, x.block < W.heap.size := by obtain ⟨m, hm⟩ := k0; exact DataW.trod_lt m _ _ _ hm
  obtain ⟨A0, n0, c0, z0, rfl, m0, rd0, f0⟩ := open_bytes (hval 0 22 v0 rfl rfl) h0
  clear hA0 hval0
  refine (fnMemOps_walk A0 n0 c0 z0 W rd0 m0 f0).mono fun e W' ⟨he, bel⟩ => ?_
  subst he
  exact ⟨_, rfl, _, _, _, [], _, [], hW', trodAll_mk1 (shut_bool Try.underlying4 _), (trodAll_cons_mk (Below.trod laidOut (by kernel_rfl) (of_decide_eq_true (by kernel_rfl)) k0 bel lt0) (trodAll_mk0)), rfl, bel.frame _, fun h => by cases h⟩

/-- The given statement: for every input the law returns true, and its arguments read as before. -/
theorem fnMemOps_holds : Rows.FnMemOpsSaid :=
  OpenClaim.holds_of_wide 3 Try.f3 rfl rfl rfl rfl rfl rfl rfl ⟨rfl, rfl, rfl, rfl, rfl⟩ rfl rfl rfl rfl rfl (by kernel_rfl) Try.func3 (by kernel_rfl)
    (of_decide_eq_true (by kernel_rfl)) (by unfold Func.isWrapper; first | (rw [if_pos (by decide +kernel)]; kernel_rfl) | (rw [if_neg (by decide +kernel)]; exact ⟨rfl, rfl⟩))
    (fun os started H enc _ => fnMemOps_lifted os started H enc)
#print axioms fnMemOps_holds
end Go.Proofs.Ytiliahmaolnfbaa
