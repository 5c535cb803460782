/- The walk of FnExactMemOk: MemOk of the program answers as the model. No condition. -/
import Derived.Test.YtiliahmaolnfbaaA2
import Derived.Deep.RegionHeld3
namespace Go.Proofs.Ytiliahmaolnfbaa
open Go.RowKit

/-- The copy of a memory, its address whatever. -/
theorem toMem_own (A : Option Addr) (n c B : Nat) (zs : List Int) (w : World) (h : Rd w B A n zs) (hB : B ≤ w.heap.size) (hn : n ≤ 1048576) :
    Calls Try.prog 41 #[.agg #[.slice A n c]] w fun e w' => ∃ g, e = .returned (.agg #[.slice (some ⟨g, 0, none⟩) n n]) ∧ Hid (Own w' w.heap.size (some ⟨g, 0, none⟩) n n zs) ∧ Hid (Below w.heap.size w w') :=
  toMem_any A n c B zs w h hB hn

set_option maxHeartbeats 1000000 in
theorem exMemOk_small (A : Option Addr) (n c B : Nat) (zs : List Int) (w : World) (h : Rd w B A n zs) (hB : B ≤ w.heap.size) (hn : n ≤ 1048576) :
    Calls Try.prog 8 #[.agg #[.slice A n c]] w fun e w' => e = .returned (.bool true) ∧ Below w.heap.size w w' := by
  have H := Lib.hid h
  clear h
  have hsz := szMem_any A n c 1048576 (w.alloc (.cells #[.slice A n c] 48)) (by unfold maxLen; omega) (by omega) (by omega)
  rw [if_neg (by omega)] at hsz
  have HS := Lib.hid hsz
  clear hsz
  go_enter Try.func8, Try.ntmps8
  go_wp2_with fail
  refine HS.out.mono ?_
  rintro e w1 ⟨rfl, hb1⟩
  have a1 : w1.cell? ⟨w.heap.size, 0, none⟩ = some (.slice A n c) := later hb1 (by simp)
  have l1 : w.heap.size < w1.heap.size := by have := hb1.size; simp at this; omega
  have BB1 : Hid (Below w.heap.size w w1) := ((Below.refl _ _).alloc (Nat.le_refl _) _).trans (hb1.mono (by simp))
  have H1 := Lib.hid ((H.out.alloc hB _).below (hb1.mono (by simp; omega)))
  have B1 := Lib.hid hb1
  clear hb1 HS
  have hl : 0 ≤ 1048576 - (n : Int) := by omega
  go_wp2_with fail
  refine (toMem_own A n c B zs _ H1.out (by omega) hn).mono ?_
  rintro e w2 ⟨g2, rfl, O2, B2⟩
  have a2 : w2.cell? ⟨w.heap.size, 0, none⟩ = some (.slice A n c) := later B2.out a1
  have l2 : w.heap.size < w2.heap.size := by have := B2.out.size; omega
  have BB2 := Lib.hid (BB1.out.trans (B2.out.mono (by omega)))
  have H2 := Lib.hid (H1.out.below (B2.out.mono (by omega)))
  clear a1 H1
  go_wp2_with fail
  refine (memOkS_any _ n n _).mono ?_
  rintro e w3 ⟨rfl, hb3⟩
  have a3 : w3.cell? ⟨w.heap.size, 0, none⟩ = some (.slice A n c) := later hb3 a2
  have l3 : w.heap.size < w3.heap.size := by have := hb3.size; omega
  have BB3 := Lib.hid (BB2.out.trans (hb3.mono (by omega)))
  have H3 := Lib.hid (H2.out.below (hb3.mono (by omega)))
  have B3 := Lib.hid hb3
  clear hb3 a2 H2
  go_wp2_with fail
  refine (toMem_own A n c B zs _ H3.out (by omega) hn).mono ?_
  rintro e w4 ⟨g4, rfl, O4, B4⟩
  have a4 : w4.cell? ⟨w.heap.size, 0, none⟩ = some (.slice A n c) := later B4.out a3
  have l4 : w.heap.size < w4.heap.size := by have := B4.out.size; omega
  have BB4 := Lib.hid (BB3.out.trans (B4.out.mono (by omega)))
  have H4 := Lib.hid (H3.out.below (B4.out.mono (by omega)))
  clear a3 H3
  go_wp2_with fail
  refine (memOkI_any _ n n _).mono ?_
  rintro e w5 ⟨rfl, hb5⟩
  have a5 : w5.cell? ⟨w.heap.size, 0, none⟩ = some (.slice A n c) := later hb5 (older a4 _)
  have x5 : w5.cell? ⟨w4.heap.size, 0, none⟩ = some (.slice (some ⟨g4, 0, none⟩) n n) := later hb5 (by simp)
  have l5 : w.heap.size < w5.heap.size := by have := hb5.size; simp at this; omega
  have m5 : w4.heap.size < w5.heap.size := by have := hb5.size; simp at this; omega
  have BB5 := Lib.hid ((BB4.out.alloc (by omega) _).trans (hb5.mono (by first | omega | (simp; done) | (simp; omega) | (simp [*]; done))))
  have H5 := Lib.hid ((H4.out.alloc (by omega) _).below (hb5.mono (by rw [World.size_alloc]; omega)))
  have O5 := Lib.hid ((O4.out.alloc _).below hb5)
  have B5 := Lib.hid hb5
  clear hb5 a4 H4
  have hne : (decide (n ≤ 64) != decide (n ≤ 64)) = false := by simp
  go_wp2_with fail
  have E := fun (g6 : Nat) (w6 : World) (O6 : Hid (Own w6 w5.drew.heap.size (some ⟨g6, 0, none⟩) n n zs)) (B6 : Hid (Below w5.drew.heap.size w5.drew w6)) =>
    eqMem_any (some ⟨g4, 0, none⟩) (some ⟨g6, 0, none⟩) n n n n _ _ zs zs w6 (O5.out.drew.below B6.out).rd O6.out.rd (Nat.le_refl _) (Nat.le_refl _) hn hn
  simp only [decide_true] at E
  have HE := Lib.hid E
  clear E
  go_region_held3 (fun w' => w'.cell? ⟨w.heap.size, 0, none⟩ = some (.slice A n c) ∧ w'.cell? ⟨w4.heap.size, 0, none⟩ = some (.slice (some ⟨g4, 0, none⟩) n n))
    (first | exact ⟨a5, x5⟩ | exact ⟨a6, x6⟩ | exact ⟨a7, x7⟩)
    (first | (go_at_call 41; refine (toMem_own A n c B zs w5.drew H5.out (by show B ≤ w5.heap.size; omega) hn).mono ?_; rintro e w6 ⟨g6, rfl, O6, B6⟩; have a6 := later B6.out (show w5.drew.cell? _ = _ from a5); have x6 := later B6.out (show w5.drew.cell? _ = _ from x5))
           | (go_at_call 36; refine (HE.out g6 w6 O6 B6).mono ?_; rintro e w7 ⟨rfl, hb7⟩; have a7 := later hb7 a6; have x7 := later hb7 x6; have B7 := Lib.hid hb7; clear hb7))
  go_wp2
  go_ret
  have z6 := B6.out.size
  simp at z6
  exact ⟨rfl, (BB5.out.drew.trans (B6.out.mono (by show w.heap.size ≤ w5.heap.size; omega))).trans (B7.out.mono (by omega))⟩

set_option maxHeartbeats 400000 in
theorem exMemOk_walk (A : Option Addr) (n c B : Nat) (zs : List Int) (w : World) (h : Rd w B A n zs) (hB : B ≤ w.heap.size) (hm : n ≤ maxLen) :
    Calls Try.prog 8 #[.agg #[.slice A n c]] w fun e w' => e = .returned (.bool true) ∧ Below w.heap.size w w' := by
  by_cases hn : n ≤ 1048576
  · exact exMemOk_small A n c B zs w h hB hn
  · clear h
    have hsz := szMem_any A n c 1048576 (w.alloc (.cells #[.slice A n c] 48)) hm (by omega) (by omega)
    rw [if_pos (by omega)] at hsz
    have HS := Lib.hid hsz
    clear hsz
    go_enter Try.func8, Try.ntmps8
    go_wp2_with fail
    refine HS.out.mono ?_
    rintro e w1 ⟨rfl, hb1⟩
    have B1 := Lib.hid hb1
    clear hb1
    go_wp2
    go_ret
    exact ⟨rfl, (by repeat (first | exact Below.refl _ _ | refine Below.drew ?_ | refine Below.setCell ?_ (by first | omega | (simp; done) | (simp; omega) | (simp [*]; done)) _ | refine Below.alloc ?_ (by first | omega | (simp; done) | (simp; omega) | (simp [*]; done)) _ | refine Below.trans ?_ (Below.mono (B1.out) (by first | omega | (simp; done) | (simp; omega) | (simp [*]; done)))))⟩
end Go.Proofs.Ytiliahmaolnfbaa
