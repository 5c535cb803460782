/- The walk of FnExactMemAdd, given what the model's and the program's function answer. -/
import Derived.Test.YtiliahmaolnfbaaTrack
namespace Go.Proofs.Ytiliahmaolnfbaa
open Go.RowKit

set_option maxRecDepth 100000 in
set_option maxHeartbeats 4000000 in
theorem fnExactMemAdd_core (A : Option Addr) (n c B : Nat) (at_ : Int) (x : Int) (r0 : Int) (r1 : Bool) (zs out : List Int) (w : World) (h : Rd w B A n zs) (hB : B ≤ w.heap.size) (hn : n ≤ 1048576)
    (hS : Hid (∀ (A : Option Addr) (c B : Nat) (w : World), Rd w B A n zs → B ≤ w.heap.size → Calls Try.prog 18 #[.agg #[.slice A n c], .int .i64 at_, .int .u32 x] w (fun e w' => ∃ A' m' c', e = .returned (.tuple #[.agg #[.slice A' m' c'], .int .u32 r0, .bool r1]) ∧ m' ≤ 64 ∧ Own w' w.heap.size A' m' c' out ∧ Below w.heap.size w w')))
    (hI : Hid (∀ (A : Option Addr) (c B : Nat) (w : World), Rd w B A n zs → B ≤ w.heap.size → Calls Try.prog 19 #[.agg #[.slice A n c], .int .i64 at_, .int .u32 x] w (fun e w' => ∃ A' m' c', e = .returned (.tuple #[.agg #[.slice A' m' c'], .int .u32 r0, .bool r1]) ∧ m' ≤ 64 ∧ Own w' w.heap.size A' m' c' out ∧ Below w.heap.size w w'))) :
    Calls Try.prog 12 #[.agg #[.slice A n c], .int .i64 at_, .int .u32 x] w fun e w' => e = .returned (.bool true) ∧ Below w.heap.size w w' := by
  have H0 := Lib.hid h
  clear h
  have hsz := szMem_any A n c 1048576 (w.alloc (.cells #[.slice A n c] 48)) (by unfold maxLen; omega) (by omega) (by omega)
  rw [if_neg (by omega)] at hsz
  have HS := Lib.hid hsz
  clear hsz
  have hl : 0 ≤ 1048576 - (n : Int) := by omega
  have e0 : (r0 != r0) = false := by simp
  have e1 : (r1 != r1) = false := by simp
  go_enter Try.func12, Try.ntmps12
  go_wp2_with fail
  refine (HS.out).mono ?_
  rintro e w1 ⟨rfl, hb1⟩
  have p1 : w1.cell? ⟨w.heap.size, 0, none⟩ = some (.slice A n c) := later hb1 (by simp)
  have z1 : w.heap.size + 1 ≤ w1.heap.size := by have := hb1.size; simp at this; omega
  have lp1 : w.heap.size < w1.heap.size := by have := World.block_lt_of_cell? _ _ p1; simpa using this
  have H1 := Lib.hid (Rd.below (H0.out.alloc (by first | omega | (simp; omega)) _) (hb1.mono (by first | omega | (simp; omega))))
  have BB1 := Lib.hid (Below.trans ((Below.alloc (Below.refl w.heap.size w) (by first | omega | (simp; omega)) _)) (hb1.mono (by first | omega | (simp; done) | (simp; omega))))
  clear hb1
  go_wp2_with fail
  refine (toMem_any A n c B zs _ H1.out (by omega) hn).mono ?_
  rintro e w2 ⟨g2, rfl, ho2, hb2⟩
  have p2 := later hb2 p1
  have z2 : w1.heap.size ≤ w2.heap.size := hb2.size
  have lp2 : w.heap.size < w2.heap.size := by have := World.block_lt_of_cell? _ _ p2; simpa using this
  have H2 := Lib.hid (Rd.below H1.out (hb2.mono (by first | omega | (simp; omega))))
  have BB2 := Lib.hid (Below.trans (BB1.out) (hb2.mono (by first | omega | (simp; done) | (simp; omega))))
  clear hb2 p1 H1 BB1 lp1
  have O_t2 := Lib.hid ho2
  clear ho2
  go_wp2_with fail
  refine (hS.out (some ⟨g2, 0, none⟩) n _ _ O_t2.out.rd (Nat.le_refl _)).mono ?_
  rintro e w3 ⟨A3, m3, c3, rfl, hm3, ho3, hb3⟩
  have p3 := later hb3 p2
  have z3 : w2.heap.size ≤ w3.heap.size := hb3.size
  have lp3 : w.heap.size < w3.heap.size := by have := World.block_lt_of_cell? _ _ p3; simpa using this
  have H3 := Lib.hid (Rd.below H2.out (hb3.mono (by first | omega | (simp; omega))))
  have BB3 := Lib.hid (Below.trans (BB2.out) (hb3.mono (by first | omega | (simp; done) | (simp; omega))))
  clear hb3 p2 H2 BB2 lp2
  have U3 := Lib.hid (own_range ho3)
  have Os3 := Lib.hid ho3
  clear ho3 O_t2
  go_wp2_with fail
  refine (toMem_any A n c B zs _ (H3.out.alloc (by omega) _) (by first | omega | (simp; omega)) hn).mono ?_
  rintro e w4 ⟨g4, rfl, ho4, hb4⟩
  have p4 := later hb4 (older p3 _)
  have s4 : w4.cell? ⟨w3.heap.size, 0, none⟩ = some (.slice A3 m3 c3) := later hb4 (by simp)
  have z4 : w3.heap.size + 1 ≤ w4.heap.size := by have := hb4.size; simp at this; omega
  have lp4 : w.heap.size < w4.heap.size := by have := World.block_lt_of_cell? _ _ p4; simpa using this
  have ls4 : w3.heap.size < w4.heap.size := by have := World.block_lt_of_cell? _ _ s4; simpa using this
  have H4 := Lib.hid (Rd.below (H3.out.alloc (by first | omega | (simp; omega)) _) (hb4.mono (by first | omega | (simp; omega))))
  have BB4 := Lib.hid (Below.trans ((Below.alloc (BB3.out) (by first | omega | (simp; omega)) _)) (hb4.mono (by first | omega | (simp; done) | (simp; omega))))
  have Os4 := Lib.hid (Own.below (Os3.out.alloc _) hb4)
  clear hb4 p3 Os3 H3 BB3 lp3
  have U4 := Lib.hid (own_range ho4)
  have Ox4 := Lib.hid ho4
  clear ho4
  go_wp2_with fail
  refine (hI.out (some ⟨g4, 0, none⟩) n _ _ (Ox4.out.alloc _).rd (Nat.le_refl _)).mono ?_
  rintro e w5 ⟨A5, m5, c5, rfl, hm5, ho5, hb5⟩
  have p5 := later hb5 (older p4 _)
  have s5 := later hb5 (older s4 _)
  have x5 : w5.cell? ⟨w4.heap.size, 0, none⟩ = some (.slice (some ⟨g4, 0, none⟩) n n) := later hb5 (by simp)
  have z5 : w4.heap.size + 1 ≤ w5.heap.size := by have := hb5.size; simp at this; omega
  have lp5 : w.heap.size < w5.heap.size := by have := World.block_lt_of_cell? _ _ p5; simpa using this
  have ls5 : w3.heap.size < w5.heap.size := by have := World.block_lt_of_cell? _ _ s5; simpa using this
  have lx5 : w4.heap.size < w5.heap.size := by have := World.block_lt_of_cell? _ _ x5; simpa using this
  have H5 := Lib.hid (Rd.below (H4.out.alloc (by first | omega | (simp; omega)) _) (hb5.mono (by first | omega | (simp; omega))))
  have BB5 := Lib.hid (Below.trans ((Below.alloc (BB4.out) (by first | omega | (simp; omega)) _)) (hb5.mono (by first | omega | (simp; done) | (simp; omega))))
  have Os5 := Lib.hid (Own.below (Os4.out.alloc _) hb5)
  have Ox5 := Lib.hid (Own.below (Ox4.out.alloc _) hb5)
  clear hb5 p4 s4 Os4 Ox4 H4 BB4 lp4 ls4
  have U5 := Lib.hid (own_range ho5)
  have Og5 := Lib.hid ho5
  clear ho5
  go_wp2_with fail
  have q6 := eqMem_any A5 A3 m5 m3 c5 c3 _ _ out out _ (Og5.out.alloc (.cells #[.slice A5 m5 c5] 26)).rd (Os5.out.alloc _).rd (Nat.le_refl _) (Nat.le_refl _) (by omega) (by omega)
  rw [decide_eq_true rfl] at q6
  have Q6 := Lib.hid q6
  clear q6
  refine (Q6.out).mono ?_
  rintro e w6 ⟨rfl, hb6⟩
  have p6 := later hb6 (older p5 _)
  have s6 := later hb6 (older s5 _)
  have x6 := later hb6 (older x5 _)
  have g6 : w6.cell? ⟨w5.heap.size, 0, none⟩ = some (.slice A5 m5 c5) := later hb6 (by simp)
  have z6 : w5.heap.size + 1 ≤ w6.heap.size := by have := hb6.size; simp at this; omega
  have lp6 : w.heap.size < w6.heap.size := by have := World.block_lt_of_cell? _ _ p6; simpa using this
  have ls6 : w3.heap.size < w6.heap.size := by have := World.block_lt_of_cell? _ _ s6; simpa using this
  have lx6 : w4.heap.size < w6.heap.size := by have := World.block_lt_of_cell? _ _ x6; simpa using this
  have lg6 : w5.heap.size < w6.heap.size := by have := World.block_lt_of_cell? _ _ g6; simpa using this
  have H6 := Lib.hid (Rd.below (H5.out.alloc (by first | omega | (simp; omega)) _) (hb6.mono (by first | omega | (simp; omega))))
  have BB6 := Lib.hid (Below.trans ((Below.alloc (BB5.out) (by first | omega | (simp; omega)) _)) (hb6.mono (by first | omega | (simp; done) | (simp; omega))))
  have Os6 := Lib.hid (Own.below (Os5.out.alloc _) hb6)
  have Ox6 := Lib.hid (Own.below (Ox5.out.alloc _) hb6)
  have Og6 := Lib.hid (Own.below (Og5.out.alloc _) hb6)
  clear hb6 p5 s5 x5 Os5 Ox5 Og5 H5 BB5 lp5 ls5 lx5
  clear Q6
  go_wp2_with fail
  have E := fun (gT : Nat) (wT : World) (oT : Hid (Own wT w6.drew.heap.size (some ⟨gT, 0, none⟩) n n zs)) (bT : Hid (Below w6.drew.heap.size w6.drew wT)) =>
    eqMem_any (some ⟨g4, 0, none⟩) (some ⟨gT, 0, none⟩) n n n n _ _ zs zs wT (Ox6.out.drew.below bT.out).rd oT.out.rd (Nat.le_refl _) (Nat.le_refl _) (by omega) (by omega)
  simp only [decide_true] at E
  have HE := Lib.hid E
  clear E
  go_region_held3 (fun w' => w'.cell? ⟨w.heap.size, 0, none⟩ = some (.slice A n c) ∧ w'.cell? ⟨w4.heap.size, 0, none⟩ = some (.slice (some ⟨g4, 0, none⟩) n n))
    (first | exact ⟨p6, x6⟩ | exact ⟨pA, xA⟩ | exact ⟨pB, xB⟩)
    (first | (go_at_call 41; refine (toMem_any A n c B zs w6.drew H6.out (by show B ≤ w6.heap.size; omega) hn).mono ?_; rintro e wA ⟨gA, rfl, hoA, hbA⟩; have pA := later hbA (show w6.drew.cell? _ = _ from p6); have xA := later hbA (show w6.drew.cell? _ = _ from x6); have OA := Lib.hid hoA; have BA := Lib.hid hbA; clear hoA hbA)
           | (go_at_call 36; refine (HE.out gA wA OA BA).mono ?_; rintro e wB ⟨rfl, hbB⟩; have pB := later hbB pA; have xB := later hbB xA; have BB_ := Lib.hid hbB; clear hbB))
  have hbJ : Below w6.heap.size w6 wB := (Below.drew (Below.refl _ _)).trans (BA.out.trans (BB_.out.mono (by have := BA.out.size; exact this)))
  clear pA xA pB xB OA BA BB_ HE
  obtain ⟨w7, ew⟩ : ∃ x, x = wB := ⟨_, rfl⟩
  rw [← ew] at hbJ ⊢
  clear ew
  have p7 := later hbJ p6
  have s7 := later hbJ s6
  have x7 := later hbJ x6
  have g7 := later hbJ g6
  have z7 : w6.heap.size ≤ w7.heap.size := hbJ.size
  have lp7 : w.heap.size < w7.heap.size := by have := World.block_lt_of_cell? _ _ p7; simpa using this
  have ls7 : w3.heap.size < w7.heap.size := by have := World.block_lt_of_cell? _ _ s7; simpa using this
  have lx7 : w4.heap.size < w7.heap.size := by have := World.block_lt_of_cell? _ _ x7; simpa using this
  have lg7 : w5.heap.size < w7.heap.size := by have := World.block_lt_of_cell? _ _ g7; simpa using this
  have H7 := Lib.hid (Rd.below H6.out (hbJ.mono (by first | omega | (simp; omega))))
  have BB7 := Lib.hid (Below.trans (BB6.out) (hbJ.mono (by first | omega | (simp; done) | (simp; omega))))
  have Os7 := Lib.hid (Own.below Os6.out hbJ)
  have Ox7 := Lib.hid (Own.below Ox6.out hbJ)
  have Og7 := Lib.hid (Own.below Og6.out hbJ)
  clear hbJ p6 s6 x6 g6 Os6 Ox6 Og6 H6 BB6 lp6 ls6 lx6 lg6
  have h3 : (w3.alloc (.cells #[.slice A3 m3 c3] 26)).heap.size = w3.heap.size + 1 := by simp
  have h4 : (w4.alloc (.cells #[.slice (some ⟨g4, 0, none⟩) n n] 26)).heap.size = w4.heap.size + 1 := by simp
  rw [h3] at U4
  rw [h4] at U5
  clear h3 h4
  go_wp2_with fail
  refine (markMem_any (some ⟨g4, 0, none⟩) n n _ _ _ Ox7.out (by omega)).mono ?_
  rintro e w8 ⟨rfl, hoM, hgM⟩
  have p8 := cell_far hgM p7 (fun g hg => by have := U4.out g hg; omega)
  have s8 := cell_far hgM s7 (fun g hg => by have := U4.out g hg; omega)
  have x8 := cell_far hgM x7 (fun g hg => by have := U4.out g hg; omega)
  have g8 := cell_far hgM g7 (fun g hg => by have := U4.out g hg; omega)
  have z8 : w7.heap.size ≤ w8.heap.size := hgM.size
  have lp8 : w.heap.size < w8.heap.size := by omega
  have ls8 : w3.heap.size < w8.heap.size := by omega
  have lx8 : w4.heap.size < w8.heap.size := by omega
  have lg8 : w5.heap.size < w8.heap.size := by omega
  have H8 := Lib.hid (rd_far H7.out hgM (by omega) (fun g hg => by have := U4.out g hg; omega))
  have BB8 := Lib.hid (BB7.out.grown hgM (by omega) (fun g hg => by have := U4.out g hg; omega))
  have Os8 := Lib.hid (own_far Os7.out hgM (fun g hg e => by have h1 := U3.out g hg; have h2 := U4.out g e; omega))
  have Ox8 := Lib.hid hoM
  have Og8 := Lib.hid (own_far Og7.out hgM (fun g hg e => by have h1 := U5.out g hg; have h2 := U4.out g e; omega))
  clear hoM hgM p7 lp7 s7 ls7 x7 lx7 g7 lg7 H7 BB7 Os7 Ox7 Og7
  have hk1 : 0 ≤ 1 + (n : Int) := by omega
  go_wp2_with fail
  have qq := eqMem_any A5 A3 m5 m3 c5 c3 _ _ out out _ Og8.out.rd Os8.out.rd (Nat.le_refl _) (Nat.le_refl _) (by omega) (by omega)
  rw [decide_eq_true rfl] at qq
  have QQ := Lib.hid qq
  clear qq
  refine (QQ.out).mono ?_
  rintro e w9 ⟨rfl, hb9⟩
  have p9 := later hb9 p8
  have s9 := later hb9 s8
  have x9 := later hb9 x8
  have g9 := later hb9 g8
  have z9 : w8.heap.size ≤ w9.heap.size := hb9.size
  have lp9 : w.heap.size < w9.heap.size := by have := World.block_lt_of_cell? _ _ p9; simpa using this
  have ls9 : w3.heap.size < w9.heap.size := by have := World.block_lt_of_cell? _ _ s9; simpa using this
  have lx9 : w4.heap.size < w9.heap.size := by have := World.block_lt_of_cell? _ _ x9; simpa using this
  have lg9 : w5.heap.size < w9.heap.size := by have := World.block_lt_of_cell? _ _ g9; simpa using this
  have H9 := Lib.hid (Rd.below H8.out (hb9.mono (by first | omega | (simp; omega))))
  have BB9 := Lib.hid (Below.trans (BB8.out) (hb9.mono (by first | omega | (simp; done) | (simp; omega))))
  have Os9 := Lib.hid (Own.below Os8.out hb9)
  have Ox9 := Lib.hid (Own.below Ox8.out hb9)
  have Og9 := Lib.hid (Own.below Og8.out hb9)
  clear hb9 p8 s8 x8 g8 Os8 Ox8 Og8 H8 BB8 lp8 ls8 lx8 lg8
  clear QQ
  go_wp2_with fail
  refine (markMem_any A5 m5 c5 _ _ _ Og9.out (by omega)).mono ?_
  rintro e w10 ⟨rfl, hoM, hgM⟩
  have p10 := cell_far hgM p9 (fun g hg => by have := U5.out g hg; omega)
  have s10 := cell_far hgM s9 (fun g hg => by have := U5.out g hg; omega)
  have x10 := cell_far hgM x9 (fun g hg => by have := U5.out g hg; omega)
  have g10 := cell_far hgM g9 (fun g hg => by have := U5.out g hg; omega)
  have z10 : w9.heap.size ≤ w10.heap.size := hgM.size
  have lp10 : w.heap.size < w10.heap.size := by omega
  have ls10 : w3.heap.size < w10.heap.size := by omega
  have lx10 : w4.heap.size < w10.heap.size := by omega
  have lg10 : w5.heap.size < w10.heap.size := by omega
  have H10 := Lib.hid (rd_far H9.out hgM (by omega) (fun g hg => by have := U5.out g hg; omega))
  have BB10 := Lib.hid (BB9.out.grown hgM (by omega) (fun g hg => by have := U5.out g hg; omega))
  have Os10 := Lib.hid (own_far Os9.out hgM (fun g hg e => by have h1 := U3.out g hg; have h2 := U5.out g e; omega))
  have Ox10 := Lib.hid (own_far Ox9.out hgM (fun g hg e => by have h1 := U4.out g hg; have h2 := U5.out g e; omega))
  have Og10 := Lib.hid hoM
  clear hoM hgM p9 lp9 s9 ls9 x9 lx9 g9 lg9 H9 BB9 Os9 Ox9 Og9
  have hk2 : 0 ≤ 1 + (m5 : Int) := by omega
  have ek2 : ((1 + (m5 : Int)) != (1 + (m5 : Int))) = false := by simp
  go_wp2_with fail
  refine (heldMem_any A5 m5 c5 _ _ Og10.out.rd (Nat.le_refl _) (by omega)).mono ?_
  rintro e w11 ⟨rfl, hb11⟩
  have p11 := later hb11 p10
  have s11 := later hb11 s10
  have x11 := later hb11 x10
  have g11 := later hb11 g10
  have z11 : w10.heap.size ≤ w11.heap.size := hb11.size
  have lp11 : w.heap.size < w11.heap.size := by have := World.block_lt_of_cell? _ _ p11; simpa using this
  have ls11 : w3.heap.size < w11.heap.size := by have := World.block_lt_of_cell? _ _ s11; simpa using this
  have lx11 : w4.heap.size < w11.heap.size := by have := World.block_lt_of_cell? _ _ x11; simpa using this
  have lg11 : w5.heap.size < w11.heap.size := by have := World.block_lt_of_cell? _ _ g11; simpa using this
  have H11 := Lib.hid (Rd.below H10.out (hb11.mono (by first | omega | (simp; omega))))
  have BB11 := Lib.hid (Below.trans (BB10.out) (hb11.mono (by first | omega | (simp; done) | (simp; omega))))
  have Os11 := Lib.hid (Own.below Os10.out hb11)
  have Ox11 := Lib.hid (Own.below Ox10.out hb11)
  have Og11 := Lib.hid (Own.below Og10.out hb11)
  clear hb11 p10 s10 x10 g10 Os10 Ox10 Og10 H10 BB10 lp10 ls10 lx10 lg10
  go_wp2_with fail
  refine (toMem_any A n c B zs _ H11.out (by omega) hn).mono ?_
  rintro e w12 ⟨gT, rfl, hoT, hb12⟩
  have p12 := later hb12 p11
  have s12 := later hb12 s11
  have x12 := later hb12 x11
  have g12 := later hb12 g11
  have z12 : w11.heap.size ≤ w12.heap.size := hb12.size
  have lp12 : w.heap.size < w12.heap.size := by have := World.block_lt_of_cell? _ _ p12; simpa using this
  have ls12 : w3.heap.size < w12.heap.size := by have := World.block_lt_of_cell? _ _ s12; simpa using this
  have lx12 : w4.heap.size < w12.heap.size := by have := World.block_lt_of_cell? _ _ x12; simpa using this
  have lg12 : w5.heap.size < w12.heap.size := by have := World.block_lt_of_cell? _ _ g12; simpa using this
  have H12 := Lib.hid (Rd.below H11.out (hb12.mono (by first | omega | (simp; omega))))
  have BB12 := Lib.hid (Below.trans (BB11.out) (hb12.mono (by first | omega | (simp; done) | (simp; omega))))
  have Os12 := Lib.hid (Own.below Os11.out hb12)
  have Ox12 := Lib.hid (Own.below Ox11.out hb12)
  have Og12 := Lib.hid (Own.below Og11.out hb12)
  clear hb12 p11 s11 x11 g11 Os11 Ox11 Og11 H11 BB11 lp11 ls11 lx11 lg11
  have OT := Lib.hid hoT
  clear hoT
  go_wp2_with fail
  refine (hI.out (some ⟨gT, 0, none⟩) n _ _ OT.out.rd (Nat.le_refl _)).mono ?_
  rintro e w13 ⟨A6, m6, c6, rfl, hm6, ho6, hb13⟩
  have p13 := later hb13 p12
  have s13 := later hb13 s12
  have x13 := later hb13 x12
  have g13 := later hb13 g12
  have z13 : w12.heap.size ≤ w13.heap.size := hb13.size
  have lp13 : w.heap.size < w13.heap.size := by have := World.block_lt_of_cell? _ _ p13; simpa using this
  have ls13 : w3.heap.size < w13.heap.size := by have := World.block_lt_of_cell? _ _ s13; simpa using this
  have lx13 : w4.heap.size < w13.heap.size := by have := World.block_lt_of_cell? _ _ x13; simpa using this
  have lg13 : w5.heap.size < w13.heap.size := by have := World.block_lt_of_cell? _ _ g13; simpa using this
  have H13 := Lib.hid (Rd.below H12.out (hb13.mono (by first | omega | (simp; omega))))
  have BB13 := Lib.hid (Below.trans (BB12.out) (hb13.mono (by first | omega | (simp; done) | (simp; omega))))
  have Os13 := Lib.hid (Own.below Os12.out hb13)
  have Ox13 := Lib.hid (Own.below Ox12.out hb13)
  have Og13 := Lib.hid (Own.below Og12.out hb13)
  clear hb13 p12 s12 x12 g12 Os12 Ox12 Og12 H12 BB12 lp12 ls12 lx12 lg12
  have Oh13 := Lib.hid ho6
  clear ho6 OT
  go_wp2_with fail
  have qq := eqMem_any A6 A3 m6 m3 c6 c3 _ _ out out _ (Oh13.out.alloc (.cells #[.slice A6 m6 c6] 26)).rd (Os13.out.alloc (.cells #[.slice A6 m6 c6] 26)).rd (Nat.le_refl _) (Nat.le_refl _) (by omega) (by omega)
  rw [decide_eq_true rfl] at qq
  have QQ := Lib.hid qq
  clear qq
  refine (QQ.out).mono ?_
  rintro e w14 ⟨rfl, hb14⟩
  have p14 := later hb14 (older p13 _)
  have s14 := later hb14 (older s13 _)
  have x14 := later hb14 (older x13 _)
  have g14 := later hb14 (older g13 _)
  have h14 : w14.cell? ⟨w13.heap.size, 0, none⟩ = some (.slice A6 m6 c6) := later hb14 (by simp)
  have z14 : w13.heap.size + 1 ≤ w14.heap.size := by have := hb14.size; simp at this; omega
  have lp14 : w.heap.size < w14.heap.size := by have := World.block_lt_of_cell? _ _ p14; simpa using this
  have ls14 : w3.heap.size < w14.heap.size := by have := World.block_lt_of_cell? _ _ s14; simpa using this
  have lx14 : w4.heap.size < w14.heap.size := by have := World.block_lt_of_cell? _ _ x14; simpa using this
  have lg14 : w5.heap.size < w14.heap.size := by have := World.block_lt_of_cell? _ _ g14; simpa using this
  have lh14 : w13.heap.size < w14.heap.size := by have := World.block_lt_of_cell? _ _ h14; simpa using this
  have H14 := Lib.hid (Rd.below (H13.out.alloc (by first | omega | (simp; omega)) _) (hb14.mono (by first | omega | (simp; omega))))
  have BB14 := Lib.hid (Below.trans ((Below.alloc (BB13.out) (by first | omega | (simp; omega)) _)) (hb14.mono (by first | omega | (simp; done) | (simp; omega))))
  have Os14 := Lib.hid (Own.below (Os13.out.alloc _) hb14)
  have Ox14 := Lib.hid (Own.below (Ox13.out.alloc _) hb14)
  have Og14 := Lib.hid (Own.below (Og13.out.alloc _) hb14)
  have Oh14 := Lib.hid (Own.below (Oh13.out.alloc _) hb14)
  clear hb14 p13 s13 x13 g13 Os13 Ox13 Og13 Oh13 H13 BB13 lp13 ls13 lx13 lg13
  clear QQ
  go_wp2_with fail
  refine (heldMem_any A5 m5 c5 _ _ Og14.out.rd (Nat.le_refl _) (by omega)).mono ?_
  rintro e w15 ⟨rfl, hb15⟩
  have p15 := later hb15 p14
  have s15 := later hb15 s14
  have x15 := later hb15 x14
  have g15 := later hb15 g14
  have h15 := later hb15 h14
  have z15 : w14.heap.size ≤ w15.heap.size := hb15.size
  have lp15 : w.heap.size < w15.heap.size := by have := World.block_lt_of_cell? _ _ p15; simpa using this
  have ls15 : w3.heap.size < w15.heap.size := by have := World.block_lt_of_cell? _ _ s15; simpa using this
  have lx15 : w4.heap.size < w15.heap.size := by have := World.block_lt_of_cell? _ _ x15; simpa using this
  have lg15 : w5.heap.size < w15.heap.size := by have := World.block_lt_of_cell? _ _ g15; simpa using this
  have lh15 : w13.heap.size < w15.heap.size := by have := World.block_lt_of_cell? _ _ h15; simpa using this
  have H15 := Lib.hid (Rd.below H14.out (hb15.mono (by first | omega | (simp; omega))))
  have BB15 := Lib.hid (Below.trans (BB14.out) (hb15.mono (by first | omega | (simp; done) | (simp; omega))))
  have Os15 := Lib.hid (Own.below Os14.out hb15)
  have Ox15 := Lib.hid (Own.below Ox14.out hb15)
  have Og15 := Lib.hid (Own.below Og14.out hb15)
  have Oh15 := Lib.hid (Own.below Oh14.out hb15)
  clear hb15 p14 s14 x14 g14 h14 Os14 Ox14 Og14 Oh14 H14 BB14 lp14 ls14 lx14 lg14 lh14
  go_wp2
  go_ret
  exact ⟨rfl, BB15.out⟩

end Go.Proofs.Ytiliahmaolnfbaa
