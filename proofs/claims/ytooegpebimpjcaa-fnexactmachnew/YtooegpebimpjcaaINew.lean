/- The contract of the program's WarpNew. -/
import Derived.Test.YtooegpebimpjcaaRepI
import Derived.Test.YtooegpebimpjcaaWarpM
namespace Go.Proofs.Ytooegpebimpjcaa
open Go.RowKit
set_option linter.unusedVariables false

set_option maxRecDepth 100000 in
set_option maxHeartbeats 2000000 in
theorem warpNew_any (w : World) : Calls Try.prog 55 #[] w fun e w' => ∃ g c g2 d, e = .returned (.agg #[.int .i64 0, .slice (some ⟨g, 0, none⟩) 8 c, .slice (some ⟨g2, 0, none⟩) 8 d, .int .u32 0, .int .i64 0, .int .i64 0, .int .i64 0, .int .u32 0]) ∧ OwnK 3 .i64 w' w.heap.size (some ⟨g, 0, none⟩) 8 c (List.replicate 8 (-1)) ∧ OwnK 3 .i64 w' (g + 1) (some ⟨g2, 0, none⟩) 8 d (List.replicate 8 (-1)) ∧ Below w.heap.size w w' := by
  have HR : Hid (∀ (W : World) (g : Nat), W.cell? ⟨g, 0, none⟩ = some (.int .i64 (-1)) → g < W.heap.size → Calls Try.prog 93 #[.slice (some ⟨g, 0, none⟩) 1 1, .int .i64 8] W fun e w' => ∃ A c, e = .returned (.slice A 8 c) ∧ OwnK 3 .i64 w' W.heap.size A 8 c (List.replicate 8 (-1)) ∧ Below W.heap.size W w') := fun W g h hg => repeat8 g (-1) W h hg
  go_enter Try.func55, Try.ntmps55
  go_wp2_with fail
  refine (HR.out _ _ (by simp) (by simp)).mono ?_
  rintro e w2 ⟨A, c, rfl, ho, hb⟩
  obtain ⟨hr1, _, hB2, z2⟩ := nw2 hb
  obtain ⟨g, rfl, hg0, hg1⟩ := ho.form (by omega)
  rw [sz2] at hg0
  have O2 := Lib.hid (ho.from_ (b1 := w.heap.size + 2) (Nat.le_of_eq (sz2 _ _ _).symm))
  have B2 := Lib.hid hB2
  have R2 := Lib.hid hr1
  clear ho hb hr1 hB2
  go_wp2_with fail
  refine (HR.out _ _ (by simp) (by simp)).mono ?_
  rintro e w4 ⟨A2, d, rfl, ho, hb⟩
  have O4 : Hid (OwnK 3 .i64 w4 (w.heap.size + 1) (some ⟨g, 0, none⟩) 8 c (List.replicate 8 (-1))) := ((O2.out.alloc _).below hb).from_ (by omega)
  obtain ⟨g2, rfl, hh0, hh1⟩ := ho.form (by omega)
  obtain ⟨hl, hB4, z4⟩ := nw1 hb
  have hr := (hB4.block w.heap.size (by omega)).trans R2.out
  rw [sz1] at hh0
  have O4b : Hid (OwnK 3 .i64 w4 (w2.heap.size + 1) (some ⟨g2, 0, none⟩) 8 d (List.replicate 8 (-1))) := ho.from_ (Nat.le_of_eq (sz1 _ _).symm)
  have B4 : Hid (Below w.heap.size w w4) := B2.out.trans (hB4.mono (by omega))
  have z5 : w.heap.size < w4.heap.size := by omega
  have n1 : ¬ w.heap.size = g := by omega
  have n2 : ¬ w.heap.size = g2 := by omega
  clear ho hb hl hB4 O2 B2 R2 HR
  have r0 := blkc hr 0 rfl
  have r1 := blkc hr 1 rfl
  have r2 := blkc hr 2 rfl
  have r3 := blkc hr 3 rfl
  have r4 := blkc hr 4 rfl
  have r5 := blkc hr 5 rfl
  have r6 := blkc hr 6 rfl
  have r7 := blkc hr 7 rfl
  have fr := blkf hr
  clear hr
  go_wp2
  refine bodyPost_ret (v := .agg #[.int .i64 0, .slice (some ⟨g, 0, none⟩) 8 c, .slice (some ⟨g2, 0, none⟩) 8 d, .int .u32 0, .int .i64 0, .int .i64 0, .int .i64 0, .int .u32 0]) (by simp [results, Try.results55, go_sem, r0, r1, r2, r3, r4, r5, r6, r7]) rfl ⟨g, c, g2, d, rfl, ?_, ?_, ?_⟩
  · exact OwnK.from_ (b0 := w.heap.size + 1) (by repeat' (first | (with_reducible exact O4.out) | (with_reducible refine OwnK.low ?_ ?_ _) | omega | (simp; done) | (simp; omega))) (by omega)
  · exact OwnK.from_ (b0 := w2.heap.size + 1) (by repeat' (first | (with_reducible exact O4b.out) | (with_reducible refine OwnK.low ?_ ?_ _) | omega | (simp; done) | (simp; omega))) (by omega)
  · exact (by repeat' (first | (with_reducible exact B4.out) | (with_reducible refine Below.setCell ?_ ?_ _) | (with_reducible refine Below.alloc ?_ ?_ _) | omega | (simp; done) | (simp; omega)))

end Go.Proofs.Ytooegpebimpjcaa
