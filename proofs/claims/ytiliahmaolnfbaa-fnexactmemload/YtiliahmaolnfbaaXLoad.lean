/- The walk of FnExactMemLoad, given what the model's and the program's function answer. -/
import Derived.Test.YtiliahmaolnfbaaTrack
namespace Go.Proofs.Ytiliahmaolnfbaa
open Go.RowKit

set_option maxRecDepth 100000 in
set_option maxHeartbeats 4000000 in
theorem fnExactMemLoad_core (A : Option Addr) (n c B : Nat) (at_ : Int) (r0 : Int) (r1 : Bool) (zs : List Int) (w : World) (h : Rd w B A n zs) (hB : B ≤ w.heap.size) (hn : n ≤ 1048576)
    (hS : Hid (∀ (A : Option Addr) (c B : Nat) (w : World), Rd w B A n zs → B ≤ w.heap.size → Calls Try.prog 42 #[.agg #[.slice A n c], .int .i64 at_] w (fun e w' => e = .returned (.tuple #[.int .u32 r0, .bool r1]) ∧ Below w.heap.size w w')))
    (hI : Hid (∀ (A : Option Addr) (c B : Nat) (w : World), Rd w B A n zs → B ≤ w.heap.size → Calls Try.prog 23 #[.agg #[.slice A n c], .int .i64 at_] w (fun e w' => e = .returned (.tuple #[.int .u32 r0, .bool r1]) ∧ Below w.heap.size w w'))) :
    Calls Try.prog 9 #[.agg #[.slice A n c], .int .i64 at_] w fun e w' => e = .returned (.bool true) ∧ Below w.heap.size w w' := by
  have H0 := Lib.hid h
  clear h
  have hsz := szMem_any A n c 1048576 (w.alloc (.cells #[.slice A n c] 48)) (by unfold maxLen; omega) (by omega) (by omega)
  rw [if_neg (by omega)] at hsz
  have HS := Lib.hid hsz
  clear hsz
  have hl : 0 ≤ 1048576 - (n : Int) := by omega
  have e0 : (r0 != r0) = false := by simp
  have e1 : (r1 != r1) = false := by simp
  go_enter Try.func9, Try.ntmps9
  go_wp2_with fail
  refine (HS.out).mono ?_
  rintro e w1 ⟨rfl, hb1⟩
  have p1 : w1.cell? ⟨w.heap.size, 0, none⟩ = some (.slice A n c) := later hb1 (by simp)
  have z1 : w.heap.size + 1 ≤ w1.heap.size := by have := hb1.size; simp at this; omega
  have lp1 : w.heap.size < w1.heap.size := by have := World.block_lt_of_cell? _ _ p1; simpa using this
  have H1 := Lib.hid (Rd.below (H0.out.alloc (by first | omega | (simp; omega)) _) (hb1.mono (by first | omega | (simp; omega))))
  have BB1 := Lib.hid (Below.trans ((Below.alloc (Below.refl w.heap.size w) (by first | omega | (simp; omega)) _)) (hb1.mono (by first | omega | (simp; done) | (simp; omega))))
  clear hb1
  go_wp2_with fail
  refine (toMem_any A n c B zs _ H1.out (by omega) hn).mono ?_
  rintro e w2 ⟨g2, rfl, ho2, hb2⟩
  have p2 := later hb2 p1
  have z2 : w1.heap.size ≤ w2.heap.size := hb2.size
  have lp2 : w.heap.size < w2.heap.size := by have := World.block_lt_of_cell? _ _ p2; simpa using this
  have H2 := Lib.hid (Rd.below H1.out (hb2.mono (by first | omega | (simp; omega))))
  have BB2 := Lib.hid (Below.trans (BB1.out) (hb2.mono (by first | omega | (simp; done) | (simp; omega))))
  clear hb2 p1 H1 BB1 lp1
  have O_t2 := Lib.hid ho2
  clear ho2
  go_wp2_with fail
  refine (hS.out (some ⟨g2, 0, none⟩) n _ _ O_t2.out.rd (Nat.le_refl _)).mono ?_
  rintro e w3 ⟨rfl, hb3⟩
  have p3 := later hb3 p2
  have z3 : w2.heap.size ≤ w3.heap.size := hb3.size
  have lp3 : w.heap.size < w3.heap.size := by have := World.block_lt_of_cell? _ _ p3; simpa using this
  have H3 := Lib.hid (Rd.below H2.out (hb3.mono (by first | omega | (simp; omega))))
  have BB3 := Lib.hid (Below.trans (BB2.out) (hb3.mono (by first | omega | (simp; done) | (simp; omega))))
  clear hb3 p2 H2 BB2 lp2
  clear O_t2
  go_wp2_with fail
  refine (toMem_any A n c B zs _ H3.out (by first | omega | (simp; omega)) hn).mono ?_
  rintro e w4 ⟨g4, rfl, ho4, hb4⟩
  have p4 := later hb4 p3
  have z4 : w3.heap.size ≤ w4.heap.size := hb4.size
  have lp4 : w.heap.size < w4.heap.size := by have := World.block_lt_of_cell? _ _ p4; simpa using this
  have H4 := Lib.hid (Rd.below H3.out (hb4.mono (by first | omega | (simp; omega))))
  have BB4 := Lib.hid (Below.trans (BB3.out) (hb4.mono (by first | omega | (simp; done) | (simp; omega))))
  clear hb4 p3 H3 BB3 lp3
  have U4 := Lib.hid (own_range ho4)
  have Ox4 := Lib.hid ho4
  clear ho4
  go_wp2_with fail
  refine (hI.out (some ⟨g4, 0, none⟩) n _ _ (Ox4.out.alloc _).rd (Nat.le_refl _)).mono ?_
  rintro e w5 ⟨rfl, hb5⟩
  have p5 := later hb5 (older p4 _)
  have x5 : w5.cell? ⟨w4.heap.size, 0, none⟩ = some (.slice (some ⟨g4, 0, none⟩) n n) := later hb5 (by simp)
  have z5 : w4.heap.size + 1 ≤ w5.heap.size := by have := hb5.size; simp at this; omega
  have lp5 : w.heap.size < w5.heap.size := by have := World.block_lt_of_cell? _ _ p5; simpa using this
  have lx5 : w4.heap.size < w5.heap.size := by have := World.block_lt_of_cell? _ _ x5; simpa using this
  have H5 := Lib.hid (Rd.below (H4.out.alloc (by first | omega | (simp; omega)) _) (hb5.mono (by first | omega | (simp; omega))))
  have BB5 := Lib.hid (Below.trans ((Below.alloc (BB4.out) (by first | omega | (simp; omega)) _)) (hb5.mono (by first | omega | (simp; done) | (simp; omega))))
  have Ox5 := Lib.hid (Own.below (Ox4.out.alloc _) hb5)
  clear hb5 p4 Ox4 H4 BB4 lp4
  go_wp2_with fail
  have E := fun (gT : Nat) (wT : World) (oT : Hid (Own wT w5.drew.heap.size (some ⟨gT, 0, none⟩) n n zs)) (bT : Hid (Below w5.drew.heap.size w5.drew wT)) =>
    eqMem_any (some ⟨g4, 0, none⟩) (some ⟨gT, 0, none⟩) n n n n _ _ zs zs wT (Ox5.out.drew.below bT.out).rd oT.out.rd (Nat.le_refl _) (Nat.le_refl _) (by omega) (by omega)
  simp only [decide_true] at E
  have HE := Lib.hid E
  clear E
  go_region_held3 (fun w' => w'.cell? ⟨w.heap.size, 0, none⟩ = some (.slice A n c) ∧ w'.cell? ⟨w4.heap.size, 0, none⟩ = some (.slice (some ⟨g4, 0, none⟩) n n))
    (first | exact ⟨p5, x5⟩ | exact ⟨pA, xA⟩ | exact ⟨pB, xB⟩)
    (first | (go_at_call 41; refine (toMem_any A n c B zs w5.drew H5.out (by show B ≤ w5.heap.size; omega) hn).mono ?_; rintro e wA ⟨gA, rfl, hoA, hbA⟩; have pA := later hbA (show w5.drew.cell? _ = _ from p5); have xA := later hbA (show w5.drew.cell? _ = _ from x5); have OA := Lib.hid hoA; have BA := Lib.hid hbA; clear hoA hbA)
           | (go_at_call 36; refine (HE.out gA wA OA BA).mono ?_; rintro e wB ⟨rfl, hbB⟩; have pB := later hbB pA; have xB := later hbB xA; have BB_ := Lib.hid hbB; clear hbB))
  have hbJ : Below w5.heap.size w5 wB := (Below.drew (Below.refl _ _)).trans (BA.out.trans (BB_.out.mono (by have := BA.out.size; exact this)))
  clear pA xA pB xB OA BA BB_ HE
  obtain ⟨w6, ew⟩ : ∃ x, x = wB := ⟨_, rfl⟩
  rw [← ew] at hbJ ⊢
  clear ew
  have p6 := later hbJ p5
  have x6 := later hbJ x5
  have z6 : w5.heap.size ≤ w6.heap.size := hbJ.size
  have lp6 : w.heap.size < w6.heap.size := by have := World.block_lt_of_cell? _ _ p6; simpa using this
  have lx6 : w4.heap.size < w6.heap.size := by have := World.block_lt_of_cell? _ _ x6; simpa using this
  have H6 := Lib.hid (Rd.below H5.out (hbJ.mono (by first | omega | (simp; omega))))
  have BB6 := Lib.hid (Below.trans (BB5.out) (hbJ.mono (by first | omega | (simp; done) | (simp; omega))))
  have Ox6 := Lib.hid (Own.below Ox5.out hbJ)
  clear hbJ p5 x5 Ox5 H5 BB5 lp5 lx5
  go_wp2
  go_ret
  exact ⟨rfl, BB6.out⟩

end Go.Proofs.Ytiliahmaolnfbaa
