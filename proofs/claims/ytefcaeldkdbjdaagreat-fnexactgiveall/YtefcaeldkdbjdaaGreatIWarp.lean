/- The contracts of the program's small methods on a warp: lead, wanted, isLarge, class, run. -/
import Derived.Test.YtefcaeldkdbjdaaGreatWarpM
import Derived.Test.YtefcaeldkdbjdaaGreatILane
import Derived.Test.YtefcaeldkdbjdaaGreatOwnK
import Derived.Deep.RegionHeld3
import Derived.Deep.DeepCutAuto
namespace Go.Proofs.YtefcaeldkdbjdaaGreat
open Go.RowKit

/-- Memory block b is a variable that holds a warp. -/
def WAt (w : World) (b : Nat) (kd : Int) (A : Option Addr) (n c : Nat) (B : Option Addr) (m d td : Nat) (ph pr hd : Int) (sn : Nat) : Prop := w.heap[b]? = some (.cells #[.int .i64 kd, .slice A n c, .slice B m d, .int .u32 (td : Int), .int .i64 ph, .int .i64 pr, .int .i64 hd, .int .u32 (sn : Int)] 49 (0, 0))
theorem WAt.new (w : World) (kd : Int) (A : Option Addr) (n c : Nat) (B : Option Addr) (m d td : Nat) (ph pr hd : Int) (sn : Nat) : WAt (w.alloc (.cells #[.int .i64 kd, .slice A n c, .slice B m d, .int .u32 (td : Int), .int .i64 ph, .int .i64 pr, .int .i64 hd, .int .u32 (sn : Int)] 49)) w.heap.size kd A n c B m d td ph pr hd sn := heap_alloc_new w _
theorem WAt.below {w w' : World} {b kd A n c B m d td ph pr hd sn} (h : WAt w b kd A n c B m d td ph pr hd sn) (hb : Below w.heap.size w w') : WAt w' b kd A n c B m d td ph pr hd sn := (hb.block b (Array.getElem?_eq_some_iff.1 h).1).trans h
theorem WAt.lt {w : World} {b kd A n c B m d td ph pr hd sn} (h : WAt w b kd A n c B m d td ph pr hd sn) : b < w.heap.size := (Array.getElem?_eq_some_iff.1 h).1
theorem WAt.cells {w : World} {b kd A n c B m d td ph pr hd sn} (h : WAt w b kd A n c B m d td ph pr hd sn) : w.cell? ⟨b, 0, none⟩ = some (.int .i64 kd) ∧ w.cell? ⟨b, 1, none⟩ = some (.slice A n c) ∧ w.cell? ⟨b, 2, none⟩ = some (.slice B m d) ∧ w.cell? ⟨b, 3, none⟩ = some (.int .u32 (td : Int)) ∧ w.cell? ⟨b, 4, none⟩ = some (.int .i64 ph) ∧ w.cell? ⟨b, 5, none⟩ = some (.int .i64 pr) ∧ w.cell? ⟨b, 6, none⟩ = some (.int .i64 hd) ∧ w.cell? ⟨b, 7, none⟩ = some (.int .u32 (sn : Int)) :=
  ⟨(cell_of_row w b 0 _ _ (0, 0) h).trans rfl, (cell_of_row w b 1 _ _ (0, 0) h).trans rfl, (cell_of_row w b 2 _ _ (0, 0) h).trans rfl, (cell_of_row w b 3 _ _ (0, 0) h).trans rfl, (cell_of_row w b 4 _ _ (0, 0) h).trans rfl, (cell_of_row w b 5 _ _ (0, 0) h).trans rfl, (cell_of_row w b 6 _ _ (0, 0) h).trans rfl, (cell_of_row w b 7 _ _ (0, 0) h).trans rfl⟩
theorem WAt.free {w : World} {b kd A n c B m d td ph pr hd sn} (h : WAt w b kd A n c B m d td ph pr hd sn) (i : Nat) : w.frozen? ⟨b, i, none⟩ = false := by
  have h' : w.heap[b]? = some (.cells #[.int .i64 kd, .slice A n c, .slice B m d, .int .u32 (td : Int), .int .i64 ph, .int .i64 pr, .int .i64 hd, .int .u32 (sn : Int)] 49 (0, 0)) := h
  simp [World.frozen?, h']

theorem bel_drewN {B : Nat} {w w' : World} (h : Below B w w') (k : Nat) : Below B w (w'.drewN k) := ⟨h.os, h.tape, h.output, h.size, h.block⟩
theorem later_at0 {w w' : World} {b o : Nat} {v : Value} (hb : Below w.heap.size w w') (h : w.cell? ⟨b, o, none⟩ = some v) : w'.cell? ⟨b, o, none⟩ = some v :=
  (hb.cell (p := ⟨b, o, none⟩) (World.block_lt_of_cell? w _ h)).trans h

theorem leadV_lt {td : Nat} (h : td < 256) : leadV td < 8 := by
  unfold leadV
  by_cases hl : 0 < (onesTo td 32).length
  · rw [List.getElem?_eq_getElem hl]
    exact ones_lt_8 h (List.getElem_mem hl)
  · rw [List.getElem?_eq_none (by omega)]; simp
theorem ones_pos {td : Nat} (h : td < 256) (h0 : td ≠ 0) : 0 < (onesTo td 32).length := by
  refine List.length_pos_iff.2 fun e => h0 ?_
  refine Nat.eq_of_testBit_eq fun i => ?_
  rw [Nat.zero_testBit]
  refine Bool.eq_false_iff.2 fun hb => ?_
  have : i ∈ onesTo td 32 := mem_ones.2 ⟨by have := bit_lt_8 h hb; omega, hb⟩
  rw [e] at this
  simp at this
theorem lead_nth {td : Nat} (h : td < 256) (h0 : td ≠ 0) : nthV td 0 = (leadV td : Int) := nthV_in (i := 0) h (ones_pos h h0)

set_option maxHeartbeats 400000 in
theorem lead_any (kd : Int) (A : Option Addr) (n c : Nat) (B : Option Addr) (m d td : Nat) (ph pr hd : Int) (sn : Nat) (w : World) (ht : td < 256) (h0 : td ≠ 0) :
    Calls Tryz.prog 107 #[.agg #[.int .i64 kd, .slice A n c, .slice B m d, .int .u32 (td : Int), .int .i64 ph, .int .i64 pr, .int .i64 hd, .int .u32 (sn : Int)]] w fun e w' => e = .returned (.int .i64 (leadV td : Int)) ∧ Below w.heap.size w w' := by
  have HL := Lib.hid (fun W => leader_any td W (by omega))
  have HN := Lib.hid (lead_nth ht h0)
  clear ht h0
  go_enter Tryz.func107, Tryz.ntmps107
  go_wp2_with fail
  refine (HL.out _).mono ?_
  rintro e w1 ⟨rfl, hb⟩
  have HB : Hid (Below w.heap.size w w1) := ((Below.refl _ _).alloc (Nat.le_refl _) _).trans (hb.mono (by simp))
  clear hb
  go_wp2
  go_ret
  exact ⟨by rw [← HN.out]; rfl, HB.out⟩

set_option maxRecDepth 100000 in
set_option maxHeartbeats 2000000 in
theorem wanted_any (kd : Int) (A : Option Addr) (n c : Nat) (B : Option Addr) (m d td : Nat) (ph pr hd : Int) (sn : Nat) (vs : List Int) (Bv : Nat) (w : World) (ht : td < 256) (h0 : td ≠ 0) (hv : RdK .i64 w Bv A n vs) (hB : Bv ≤ w.heap.size) (hn : n = 8) :
    Calls Tryz.prog 102 #[.agg #[.int .i64 kd, .slice A n c, .slice B m d, .int .u32 (td : Int), .int .i64 ph, .int .i64 pr, .int .i64 hd, .int .u32 (sn : Int)]] w fun e w' => e = .returned (.int .i64 (wantV vs td)) ∧ Below w.heap.size w w' := by
  have HL := Lib.hid (fun W => lead_any kd A n c B m d td ph pr hd sn W ht h0)
  have hl8 := leadV_lt ht
  obtain ⟨g, o, rfl, hg, hc⟩ := hv.2 (by omega)
  subst hn
  have ck : w.cell? ⟨g, o + leadV td, none⟩ = some (.int .i64 (wantV vs td)) := hc _ hl8
  have hgw : g < w.heap.size := by omega
  clear hc hv ht h0
  generalize wantV vs td = x at *
  generalize leadV td = l at *
  have l0 : (0 : Int) ≤ (l : Int) := by omega
  have l1 : (l : Int) < 8 := by omega
  go_enter Tryz.func102, Tryz.ntmps102
  go_wp2_with fail
  generalize hW1 : w.alloc (.cells #[.int .i64 kd, .slice (some ⟨g, o, none⟩) 8 c, .slice B m d, .int .u32 (td : Int), .int .i64 ph, .int .i64 pr, .int .i64 hd, .int .u32 (sn : Int)] 49) = W1 at *
  have HW := Lib.hid hW1
  have HA : Hid (WAt W1 w.heap.size kd (some ⟨g, o, none⟩) 8 c B m d td ph pr hd sn) := by rw [← hW1]; exact WAt.new w _ _ _ _ _ _ _ _ _ _ _ _
  have HB1 : Hid (Below w.heap.size w W1) := by rw [← hW1]; exact (Below.refl _ _).alloc (Nat.le_refl _) _
  clear hW1
  have z1 := HA.out.lt
  have ck1 : W1.cell? ⟨g, o + l, none⟩ = some (.int .i64 x) := (HB1.out.cell (p := ⟨g, o + l, none⟩) hgw).trans ck
  have x0 : W1.cell? ⟨w.heap.size, 0, none⟩ = some (.int .i64 kd) ∧ W1.cell? ⟨w.heap.size, 1, none⟩ = some (.slice (some ⟨g, o, none⟩) 8 c) ∧ W1.cell? ⟨w.heap.size, 2, none⟩ = some (.slice B m d) ∧ W1.cell? ⟨w.heap.size, 3, none⟩ = some (.int .u32 (td : Int)) ∧ W1.cell? ⟨w.heap.size, 4, none⟩ = some (.int .i64 ph) ∧ W1.cell? ⟨w.heap.size, 5, none⟩ = some (.int .i64 pr) ∧ W1.cell? ⟨w.heap.size, 6, none⟩ = some (.int .i64 hd) ∧ W1.cell? ⟨w.heap.size, 7, none⟩ = some (.int .u32 (sn : Int)) ∧ W1.cell? ⟨g, o + l, none⟩ = some (.int .i64 x) := ⟨HA.out.cells.1, HA.out.cells.2.1, HA.out.cells.2.2.1, HA.out.cells.2.2.2.1, HA.out.cells.2.2.2.2.1, HA.out.cells.2.2.2.2.2.1, HA.out.cells.2.2.2.2.2.2.1, HA.out.cells.2.2.2.2.2.2.2, ck1⟩
  have x0' : W1.drew.cell? ⟨w.heap.size, 0, none⟩ = some (.int .i64 kd) ∧ W1.drew.cell? ⟨w.heap.size, 1, none⟩ = some (.slice (some ⟨g, o, none⟩) 8 c) ∧ W1.drew.cell? ⟨w.heap.size, 2, none⟩ = some (.slice B m d) ∧ W1.drew.cell? ⟨w.heap.size, 3, none⟩ = some (.int .u32 (td : Int)) ∧ W1.drew.cell? ⟨w.heap.size, 4, none⟩ = some (.int .i64 ph) ∧ W1.drew.cell? ⟨w.heap.size, 5, none⟩ = some (.int .i64 pr) ∧ W1.drew.cell? ⟨w.heap.size, 6, none⟩ = some (.int .i64 hd) ∧ W1.drew.cell? ⟨w.heap.size, 7, none⟩ = some (.int .u32 (sn : Int)) ∧ W1.drew.cell? ⟨g, o + l, none⟩ = some (.int .i64 x) := x0
  have D0 : Hid (Below W1.heap.size W1 W1.drew) := (Below.refl _ _).drew
  have xS : Hid (∀ w', Below W1.heap.size W1 w' → w'.cell? ⟨w.heap.size, 0, none⟩ = some (.int .i64 kd) ∧ w'.cell? ⟨w.heap.size, 1, none⟩ = some (.slice (some ⟨g, o, none⟩) 8 c) ∧ w'.cell? ⟨w.heap.size, 2, none⟩ = some (.slice B m d) ∧ w'.cell? ⟨w.heap.size, 3, none⟩ = some (.int .u32 (td : Int)) ∧ w'.cell? ⟨w.heap.size, 4, none⟩ = some (.int .i64 ph) ∧ w'.cell? ⟨w.heap.size, 5, none⟩ = some (.int .i64 pr) ∧ w'.cell? ⟨w.heap.size, 6, none⟩ = some (.int .i64 hd) ∧ w'.cell? ⟨w.heap.size, 7, none⟩ = some (.int .u32 (sn : Int)) ∧ w'.cell? ⟨g, o + l, none⟩ = some (.int .i64 x)) := fun w' hb => ⟨later_at0 hb HA.out.cells.1, later_at0 hb HA.out.cells.2.1, later_at0 hb HA.out.cells.2.2.1, later_at0 hb HA.out.cells.2.2.2.1, later_at0 hb HA.out.cells.2.2.2.2.1, later_at0 hb HA.out.cells.2.2.2.2.2.1, later_at0 hb HA.out.cells.2.2.2.2.2.2.1, later_at0 hb HA.out.cells.2.2.2.2.2.2.2, later_at0 hb ck1⟩
  have CL : Hid (∀ W', Below W1.heap.size W1 W' → Calls Tryz.prog 107 #[.agg #[.int .i64 kd, .slice (some ⟨g, o, none⟩) 8 c, .slice B m d, .int .u32 (td : Int), .int .i64 ph, .int .i64 pr, .int .i64 hd, .int .u32 (sn : Int)]] W' fun e w' => e = .returned (.int .i64 (l : Int)) ∧ Hid (Below W1.heap.size W1 w') ∧ (w'.cell? ⟨w.heap.size, 0, none⟩ = some (.int .i64 kd) ∧ w'.cell? ⟨w.heap.size, 1, none⟩ = some (.slice (some ⟨g, o, none⟩) 8 c) ∧ w'.cell? ⟨w.heap.size, 2, none⟩ = some (.slice B m d) ∧ w'.cell? ⟨w.heap.size, 3, none⟩ = some (.int .u32 (td : Int)) ∧ w'.cell? ⟨w.heap.size, 4, none⟩ = some (.int .i64 ph) ∧ w'.cell? ⟨w.heap.size, 5, none⟩ = some (.int .i64 pr) ∧ w'.cell? ⟨w.heap.size, 6, none⟩ = some (.int .i64 hd) ∧ w'.cell? ⟨w.heap.size, 7, none⟩ = some (.int .u32 (sn : Int)) ∧ w'.cell? ⟨g, o + l, none⟩ = some (.int .i64 x))) := fun W' hb => (HL.out W').mono fun e w' ⟨he, hb2⟩ => ⟨he, hb.trans (hb2.mono hb.size), xS.out w' (hb.trans (hb2.mono hb.size))⟩
  clear ck ck1
  go_cut [2] (fun s wx => s = .int .i64 x ∧ Hid (Below W1.heap.size W1 wx))
  case first =>
    go_region_held3 (fun w' => w'.cell? ⟨w.heap.size, 0, none⟩ = some (.int .i64 kd) ∧ w'.cell? ⟨w.heap.size, 1, none⟩ = some (.slice (some ⟨g, o, none⟩) 8 c) ∧ w'.cell? ⟨w.heap.size, 2, none⟩ = some (.slice B m d) ∧ w'.cell? ⟨w.heap.size, 3, none⟩ = some (.int .u32 (td : Int)) ∧ w'.cell? ⟨w.heap.size, 4, none⟩ = some (.int .i64 ph) ∧ w'.cell? ⟨w.heap.size, 5, none⟩ = some (.int .i64 pr) ∧ w'.cell? ⟨w.heap.size, 6, none⟩ = some (.int .i64 hd) ∧ w'.cell? ⟨w.heap.size, 7, none⟩ = some (.int .u32 (sn : Int)) ∧ w'.cell? ⟨g, o + l, none⟩ = some (.int .i64 x))
      (first | exact x0 | exact x0' | exact xa)
      (first | (go_at_call 107; (with_reducible refine (CL.out _ D0.out).mono ?_); rintro e wa ⟨rfl, BA, xa⟩))
    all_goals (go_wp2_with fail; go_meet; exact ⟨rfl, BA⟩)
  case rest =>
    obtain ⟨rfl, HB2⟩ := hcut
    go_wp2
    go_ret
    exact ⟨rfl, HB1.out.trans (HB2.out.mono HB1.out.size)⟩

end Go.Proofs.YtefcaeldkdbjdaaGreat
