/- The walk of FnExactMemNew, given what the model's and the program's function answer. -/
import Derived.Test.YtiliahmaolnfbaaTrack
namespace Go.Proofs.Ytiliahmaolnfbaa
open Go.RowKit

set_option maxRecDepth 100000 in
set_option maxHeartbeats 4000000 in
theorem fnExactMemNew_core (k : Int) (r0 : Bool) (out : List Int) (w : World)
    (hS : Hid (∀ w : World, Calls Try.prog 34 #[.int .i64 k] w (fun e w' => ∃ A' m' c', e = .returned (.tuple #[.agg #[.slice A' m' c'], .bool r0]) ∧ m' ≤ 64 ∧ Own w' w.heap.size A' m' c' out ∧ Below w.heap.size w w')))
    (hI : Hid (∀ w : World, Calls Try.prog 35 #[.int .i64 k] w (fun e w' => ∃ A' m' c', e = .returned (.tuple #[.agg #[.slice A' m' c'], .bool r0]) ∧ m' ≤ 64 ∧ Own w' w.heap.size A' m' c' out ∧ Below w.heap.size w w'))) :
    Calls Try.prog 7 #[.int .i64 k] w fun e w' => e = .returned (.bool true) ∧ Below w.heap.size w w' := by
  have e0 : (r0 != r0) = false := by simp
  go_enter Try.func7, Try.ntmps7
  go_wp2_with fail
  refine (hS.out _).mono ?_
  rintro e w1 ⟨As, ms, cs, rfl, hms, hos, hb1⟩
  have z1 : w.heap.size ≤ w1.heap.size := hb1.size
  have BB1 := Lib.hid (Below.trans (Below.refl w.heap.size w) (hb1.mono (by first | omega | (simp; done) | (simp; omega))))
  clear hb1 
  have Us := Lib.hid (own_range hos)
  have Os1 := Lib.hid hos
  clear hos
  go_wp2_with fail
  refine (hI.out _).mono ?_
  rintro e w2 ⟨Ag, mg, cg, rfl, hmg, hog, hb2⟩
  have s2 : w2.cell? ⟨w1.heap.size, 0, none⟩ = some (.slice As ms cs) := later hb2 (by simp)
  have z2 : w1.heap.size + 1 ≤ w2.heap.size := by have := hb2.size; simp at this; omega
  have ls2 : w1.heap.size < w2.heap.size := by have := World.block_lt_of_cell? _ _ s2; simpa using this
  have BB2 := Lib.hid (Below.trans ((Below.alloc (BB1.out) (by first | omega | (simp; omega)) _)) (hb2.mono (by first | omega | (simp; done) | (simp; omega))))
  have Os2 := Lib.hid (Own.below (Os1.out.alloc _) hb2)
  clear hb2 Os1 BB1
  have Ug := Lib.hid (own_range hog)
  have Og2 := Lib.hid hog
  clear hog
  go_wp2_with fail
  have qq := eqMem_any Ag As mg ms cg cs _ _ out out _ (Og2.out.alloc (.cells #[.slice Ag mg cg] 26)).rd (Os2.out.alloc (.cells #[.slice Ag mg cg] 26)).rd (Nat.le_refl _) (Nat.le_refl _) (by omega) (by omega)
  rw [decide_eq_true rfl] at qq
  have QQ := Lib.hid qq
  clear qq
  refine (QQ.out).mono ?_
  rintro e w3 ⟨rfl, hb3⟩
  have s3 := later hb3 (older s2 _)
  have g3 : w3.cell? ⟨w2.heap.size, 0, none⟩ = some (.slice Ag mg cg) := later hb3 (by simp)
  have z3 : w2.heap.size + 1 ≤ w3.heap.size := by have := hb3.size; simp at this; omega
  have ls3 : w1.heap.size < w3.heap.size := by have := World.block_lt_of_cell? _ _ s3; simpa using this
  have lg3 : w2.heap.size < w3.heap.size := by have := World.block_lt_of_cell? _ _ g3; simpa using this
  have BB3 := Lib.hid (Below.trans ((Below.alloc (BB2.out) (by first | omega | (simp; omega)) _)) (hb3.mono (by first | omega | (simp; done) | (simp; omega))))
  have Os3 := Lib.hid (Own.below (Os2.out.alloc _) hb3)
  have Og3 := Lib.hid (Own.below (Og2.out.alloc _) hb3)
  clear hb3 s2 ls2 Os2 Og2 BB2
  clear QQ
  have h1 : (w1.alloc (.cells #[.slice As ms cs] 26)).heap.size = w1.heap.size + 1 := by simp
  rw [h1] at Ug
  clear h1
  go_wp2_with fail
  refine (markMem_any Ag mg cg _ _ _ Og3.out (by omega)).mono ?_
  rintro e w4 ⟨rfl, hoM, hgM⟩
  have s4 := cell_far hgM s3 (fun g hg => by have := Ug.out g hg; omega)
  have g4 := cell_far hgM g3 (fun g hg => by have := Ug.out g hg; omega)
  have z4 : w3.heap.size ≤ w4.heap.size := hgM.size
  have ls4 : w1.heap.size < w4.heap.size := by omega
  have lg4 : w2.heap.size < w4.heap.size := by omega
  have BB4 := Lib.hid (BB3.out.grown hgM (by omega) (fun g hg => by have := Ug.out g hg; omega))
  have Og4 := Lib.hid hoM
  have Os4 := Lib.hid (own_far Os3.out hgM (fun g hg e => by have h1 := Us.out g hg; have h2 := Ug.out g e; omega))
  clear hoM hgM BB3 Og3 Os3 s3 ls3 g3 lg3
  have hk2 : 0 ≤ 1 + (mg : Int) := by omega
  have ek2 : ((1 + (mg : Int)) != (1 + (mg : Int))) = false := by simp
  go_wp2_with fail
  refine (heldMem_any Ag mg cg _ _ Og4.out.rd (Nat.le_refl _) (by omega)).mono ?_
  rintro e w5 ⟨rfl, hb5⟩
  have s5 := later hb5 s4
  have g5 := later hb5 g4
  have z5 : w4.heap.size ≤ w5.heap.size := hb5.size
  have ls5 : w1.heap.size < w5.heap.size := by have := World.block_lt_of_cell? _ _ s5; simpa using this
  have lg5 : w2.heap.size < w5.heap.size := by have := World.block_lt_of_cell? _ _ g5; simpa using this
  have BB5 := Lib.hid (Below.trans (BB4.out) (hb5.mono (by first | omega | (simp; done) | (simp; omega))))
  have Os5 := Lib.hid (Own.below Os4.out hb5)
  have Og5 := Lib.hid (Own.below Og4.out hb5)
  clear hb5 s4 ls4 g4 lg4 Os4 Og4 BB4
  go_wp2_with fail
  refine (hI.out _).mono ?_
  rintro e w6 ⟨Ah, mh, ch, rfl, hmh, hoh, hb6⟩
  have s6 := later hb6 s5
  have g6 := later hb6 g5
  have z6 : w5.heap.size ≤ w6.heap.size := hb6.size
  have ls6 : w1.heap.size < w6.heap.size := by have := World.block_lt_of_cell? _ _ s6; simpa using this
  have lg6 : w2.heap.size < w6.heap.size := by have := World.block_lt_of_cell? _ _ g6; simpa using this
  have BB6 := Lib.hid (Below.trans (BB5.out) (hb6.mono (by first | omega | (simp; done) | (simp; omega))))
  have Os6 := Lib.hid (Own.below Os5.out hb6)
  have Og6 := Lib.hid (Own.below Og5.out hb6)
  clear hb6 s5 ls5 g5 lg5 Os5 Og5 BB5
  have Uh := Lib.hid (own_range hoh)
  have Oh6 := Lib.hid hoh
  clear hoh
  go_wp2_with fail
  have qq := eqMem_any Ah As mh ms ch cs _ _ out out _ (Oh6.out.alloc (.cells #[.slice Ah mh ch] 26)).rd (Os6.out.alloc (.cells #[.slice Ah mh ch] 26)).rd (Nat.le_refl _) (Nat.le_refl _) (by omega) (by omega)
  rw [decide_eq_true rfl] at qq
  have QQ := Lib.hid qq
  clear qq
  refine (QQ.out).mono ?_
  rintro e w7 ⟨rfl, hb7⟩
  have s7 := later hb7 (older s6 _)
  have g7 := later hb7 (older g6 _)
  have h7 : w7.cell? ⟨w6.heap.size, 0, none⟩ = some (.slice Ah mh ch) := later hb7 (by simp)
  have z7 : w6.heap.size + 1 ≤ w7.heap.size := by have := hb7.size; simp at this; omega
  have ls7 : w1.heap.size < w7.heap.size := by have := World.block_lt_of_cell? _ _ s7; simpa using this
  have lg7 : w2.heap.size < w7.heap.size := by have := World.block_lt_of_cell? _ _ g7; simpa using this
  have lh7 : w6.heap.size < w7.heap.size := by have := World.block_lt_of_cell? _ _ h7; simpa using this
  have BB7 := Lib.hid (Below.trans ((Below.alloc (BB6.out) (by first | omega | (simp; omega)) _)) (hb7.mono (by first | omega | (simp; done) | (simp; omega))))
  have Os7 := Lib.hid (Own.below (Os6.out.alloc _) hb7)
  have Og7 := Lib.hid (Own.below (Og6.out.alloc _) hb7)
  have Oh7 := Lib.hid (Own.below (Oh6.out.alloc _) hb7)
  clear hb7 s6 ls6 g6 lg6 Os6 Og6 Oh6 BB6
  clear QQ
  go_wp2_with fail
  refine (heldMem_any Ag mg cg _ _ Og7.out.rd (Nat.le_refl _) (by omega)).mono ?_
  rintro e w8 ⟨rfl, hb8⟩
  have s8 := later hb8 s7
  have g8 := later hb8 g7
  have h8 := later hb8 h7
  have z8 : w7.heap.size ≤ w8.heap.size := hb8.size
  have ls8 : w1.heap.size < w8.heap.size := by have := World.block_lt_of_cell? _ _ s8; simpa using this
  have lg8 : w2.heap.size < w8.heap.size := by have := World.block_lt_of_cell? _ _ g8; simpa using this
  have lh8 : w6.heap.size < w8.heap.size := by have := World.block_lt_of_cell? _ _ h8; simpa using this
  have BB8 := Lib.hid (Below.trans (BB7.out) (hb8.mono (by first | omega | (simp; done) | (simp; omega))))
  have Os8 := Lib.hid (Own.below Os7.out hb8)
  have Og8 := Lib.hid (Own.below Og7.out hb8)
  have Oh8 := Lib.hid (Own.below Oh7.out hb8)
  clear hb8 s7 ls7 g7 lg7 h7 lh7 Os7 Og7 Oh7 BB7
  go_wp2
  go_ret
  exact ⟨rfl, BB8.out⟩

end Go.Proofs.Ytiliahmaolnfbaa
