/- WarpNew of the program answers as the model, in memory of its own. No condition. -/
import Derived.Test.YtflccpoaacidgaaINew
import Derived.Test.YtflccpoaacidgaaSNew
import Derived.Test.YtflccpoaacidgaaLawW
import Derived.Test.YtflccpoaacidgaaOpenB
namespace Go.Proofs.Ytflccpoaacidgaa
open Go.ChangeShapes Go.WideShapes Go.ChangeAt Go.RowKit
set_option linter.unusedVariables false

set_option maxRecDepth 100000 in
set_option maxHeartbeats 4000000 in
theorem fnExactWarpNew_walk (w : World) :
    Calls Try.prog 5 #[] w fun e w' => e = .returned (.bool true) ∧ Below w.heap.size w w' := by
  have HS := Lib.hid (fun W => sWarpNew_any W)
  have HI := Lib.hid (fun W => warpNew_any W)
  go_enter Try.func5, Try.ntmps5
  go_wp2_with fail
  refine (HS.out _).mono ?_
  rintro e w1 ⟨gS, cS, kS, dS, rfl, hv, hg, hb⟩
  have zw1 := hb.size
  have hk : Kp (fun _ => False) w w1 := Kp.of_below hb
  have Bw1 : Hid (Below w.heap.size w w1) := (Below.refl _ _).trans (hb.mono (Nat.le_refl _))
  have O_VS_w1 : Hid (OwnK 3 .i64 w1 w.heap.size (some ⟨gS, 0, none⟩) 8 cS (List.replicate 8 (-1))) := hv
  have R_VS : Hid (∀ g, (Value.slice (some ⟨gS, 0, none⟩) 8 cS).ownBlock = some g → w.heap.size ≤ g ∧ g < w1.heap.size) := World.ownsRow.lt hv
  have O_GS_w1 : Hid (OwnK 3 .i64 w1 (gS + 1) (some ⟨kS, 0, none⟩) 8 dS (List.replicate 8 (-1))) := hg
  have R_GS : Hid (∀ g, (Value.slice (some ⟨kS, 0, none⟩) 8 dS).ownBlock = some g → (gS + 1) ≤ g ∧ g < w1.heap.size) := World.ownsRow.lt hg
  clear hb hk hv hg
  have eS := R_VS.out gS rfl
  have fS := R_GS.out kS rfl
  have hk := bel1 w1 (.cells #[.int .i64 0, .slice (some ⟨gS, 0, none⟩) 8 cS, .slice (some ⟨kS, 0, none⟩) 8 dS, .int .u32 0, .int .i64 0, .int .i64 0, .int .i64 0, .int .u32 0] 38)
  have O_VS_w2 : Hid (OwnK 3 .i64 (w1.alloc (.cells #[.int .i64 0, .slice (some ⟨gS, 0, none⟩) 8 cS, .slice (some ⟨kS, 0, none⟩) 8 dS, .int .u32 0, .int .i64 0, .int .i64 0, .int .i64 0, .int .u32 0] 38)) w.heap.size (some ⟨gS, 0, none⟩) 8 cS (List.replicate 8 (-1))) := O_VS_w1.out.below hk
  have O_GS_w2 : Hid (OwnK 3 .i64 (w1.alloc (.cells #[.int .i64 0, .slice (some ⟨gS, 0, none⟩) 8 cS, .slice (some ⟨kS, 0, none⟩) 8 dS, .int .u32 0, .int .i64 0, .int .i64 0, .int .i64 0, .int .u32 0] 38)) (gS + 1) (some ⟨kS, 0, none⟩) 8 dS (List.replicate 8 (-1))) := O_GS_w1.out.below hk
  have V_vS_w2 : Hid ((w1.alloc (.cells #[.int .i64 0, .slice (some ⟨gS, 0, none⟩) 8 cS, .slice (some ⟨kS, 0, none⟩) 8 dS, .int .u32 0, .int .i64 0, .int .i64 0, .int .i64 0, .int .u32 0] 38)).heap[w1.heap.size]? = some (.cells #[.int .i64 0, .slice (some ⟨gS, 0, none⟩) 8 cS, .slice (some ⟨kS, 0, none⟩) 8 dS, .int .u32 0, .int .i64 0, .int .i64 0, .int .i64 0, .int .u32 0] 38 (0, 0))) := heap_alloc_new _ _
  have Bw2 : Hid (Below w.heap.size w (w1.alloc (.cells #[.int .i64 0, .slice (some ⟨gS, 0, none⟩) 8 cS, .slice (some ⟨kS, 0, none⟩) 8 dS, .int .u32 0, .int .i64 0, .int .i64 0, .int .i64 0, .int .u32 0] 38))) := Bw1.out.alloc Bw1.out.size _
  have zw2 : w1.heap.size + 1 ≤ (w1.alloc (.cells #[.int .i64 0, .slice (some ⟨gS, 0, none⟩) 8 cS, .slice (some ⟨kS, 0, none⟩) 8 dS, .int .u32 0, .int .i64 0, .int .i64 0, .int .i64 0, .int .u32 0] 38)).heap.size := Nat.le_of_eq (sz1 _ _).symm
  have yw2 : (w1.alloc (.cells #[.int .i64 0, .slice (some ⟨gS, 0, none⟩) 8 cS, .slice (some ⟨kS, 0, none⟩) 8 dS, .int .u32 0, .int .i64 0, .int .i64 0, .int .i64 0, .int .u32 0] 38)).heap.size ≤ w1.heap.size + 1 := Nat.le_of_eq (sz1 _ _)
  clear O_VS_w1 O_GS_w1 Bw1 hk
  go_wp2_with fail
  generalize w1.alloc (.cells #[.int .i64 0, .slice (some ⟨gS, 0, none⟩) 8 cS, .slice (some ⟨kS, 0, none⟩) 8 dS, .int .u32 0, .int .i64 0, .int .i64 0, .int .i64 0, .int .u32 0] 38) = w2 at *
  refine (HI.out _).mono ?_
  rintro e w3 ⟨gI, cI, kI, dI, rfl, hv, hg, hb⟩
  have zw3 := hb.size
  have hk : Kp (fun _ => False) w2 w3 := Kp.of_below hb
  have V_vS_w3 : Hid (w3.heap[w1.heap.size]? = some (.cells #[.int .i64 0, .slice (some ⟨gS, 0, none⟩) 8 cS, .slice (some ⟨kS, 0, none⟩) 8 dS, .int .u32 0, .int .i64 0, .int .i64 0, .int .i64 0, .int .u32 0] 38 (0, 0))) := (hk.block _ (by omega) (fun h => h)).trans V_vS_w2.out
  have O_VS_w3 : Hid (OwnK 3 .i64 w3 w.heap.size (some ⟨gS, 0, none⟩) 8 cS (List.replicate 8 (-1))) := O_VS_w2.out.kp hk (fun g hg h => h)
  have O_GS_w3 : Hid (OwnK 3 .i64 w3 (gS + 1) (some ⟨kS, 0, none⟩) 8 dS (List.replicate 8 (-1))) := O_GS_w2.out.kp hk (fun g hg h => h)
  have Bw3 : Hid (Below w.heap.size w w3) := Bw2.out.trans (hb.mono Bw2.out.size)
  clear V_vS_w2 O_VS_w2 O_GS_w2 Bw2
  have O_VI_w3 : Hid (OwnK 3 .i64 w3 w2.heap.size (some ⟨gI, 0, none⟩) 8 cI (List.replicate 8 (-1))) := hv
  have R_VI : Hid (∀ g, (Value.slice (some ⟨gI, 0, none⟩) 8 cI).ownBlock = some g → w2.heap.size ≤ g ∧ g < w3.heap.size) := World.ownsRow.lt hv
  have O_GI_w3 : Hid (OwnK 3 .i64 w3 (gI + 1) (some ⟨kI, 0, none⟩) 8 dI (List.replicate 8 (-1))) := hg
  have R_GI : Hid (∀ g, (Value.slice (some ⟨kI, 0, none⟩) 8 dI).ownBlock = some g → (gI + 1) ≤ g ∧ g < w3.heap.size) := World.ownsRow.lt hg
  clear hb hk hv hg
  have eI := R_VI.out gI rfl
  have fI := R_GI.out kI rfl
  have hk := bel1 w3 (.cells #[.int .i64 0, .slice (some ⟨gI, 0, none⟩) 8 cI, .slice (some ⟨kI, 0, none⟩) 8 dI, .int .u32 0, .int .i64 0, .int .i64 0, .int .i64 0, .int .u32 0] 38)
  have V_vS_w4 : Hid ((w3.alloc (.cells #[.int .i64 0, .slice (some ⟨gI, 0, none⟩) 8 cI, .slice (some ⟨kI, 0, none⟩) 8 dI, .int .u32 0, .int .i64 0, .int .i64 0, .int .i64 0, .int .u32 0] 38)).heap[w1.heap.size]? = some (.cells #[.int .i64 0, .slice (some ⟨gS, 0, none⟩) 8 cS, .slice (some ⟨kS, 0, none⟩) 8 dS, .int .u32 0, .int .i64 0, .int .i64 0, .int .i64 0, .int .u32 0] 38 (0, 0))) := (hk.block _ (by omega)).trans V_vS_w3.out
  have O_VS_w4 : Hid (OwnK 3 .i64 (w3.alloc (.cells #[.int .i64 0, .slice (some ⟨gI, 0, none⟩) 8 cI, .slice (some ⟨kI, 0, none⟩) 8 dI, .int .u32 0, .int .i64 0, .int .i64 0, .int .i64 0, .int .u32 0] 38)) w.heap.size (some ⟨gS, 0, none⟩) 8 cS (List.replicate 8 (-1))) := O_VS_w3.out.below hk
  have O_GS_w4 : Hid (OwnK 3 .i64 (w3.alloc (.cells #[.int .i64 0, .slice (some ⟨gI, 0, none⟩) 8 cI, .slice (some ⟨kI, 0, none⟩) 8 dI, .int .u32 0, .int .i64 0, .int .i64 0, .int .i64 0, .int .u32 0] 38)) (gS + 1) (some ⟨kS, 0, none⟩) 8 dS (List.replicate 8 (-1))) := O_GS_w3.out.below hk
  have O_VI_w4 : Hid (OwnK 3 .i64 (w3.alloc (.cells #[.int .i64 0, .slice (some ⟨gI, 0, none⟩) 8 cI, .slice (some ⟨kI, 0, none⟩) 8 dI, .int .u32 0, .int .i64 0, .int .i64 0, .int .i64 0, .int .u32 0] 38)) w2.heap.size (some ⟨gI, 0, none⟩) 8 cI (List.replicate 8 (-1))) := O_VI_w3.out.below hk
  have O_GI_w4 : Hid (OwnK 3 .i64 (w3.alloc (.cells #[.int .i64 0, .slice (some ⟨gI, 0, none⟩) 8 cI, .slice (some ⟨kI, 0, none⟩) 8 dI, .int .u32 0, .int .i64 0, .int .i64 0, .int .i64 0, .int .u32 0] 38)) (gI + 1) (some ⟨kI, 0, none⟩) 8 dI (List.replicate 8 (-1))) := O_GI_w3.out.below hk
  have V_vI_w4 : Hid ((w3.alloc (.cells #[.int .i64 0, .slice (some ⟨gI, 0, none⟩) 8 cI, .slice (some ⟨kI, 0, none⟩) 8 dI, .int .u32 0, .int .i64 0, .int .i64 0, .int .i64 0, .int .u32 0] 38)).heap[w3.heap.size]? = some (.cells #[.int .i64 0, .slice (some ⟨gI, 0, none⟩) 8 cI, .slice (some ⟨kI, 0, none⟩) 8 dI, .int .u32 0, .int .i64 0, .int .i64 0, .int .i64 0, .int .u32 0] 38 (0, 0))) := heap_alloc_new _ _
  have Bw4 : Hid (Below w.heap.size w (w3.alloc (.cells #[.int .i64 0, .slice (some ⟨gI, 0, none⟩) 8 cI, .slice (some ⟨kI, 0, none⟩) 8 dI, .int .u32 0, .int .i64 0, .int .i64 0, .int .i64 0, .int .u32 0] 38))) := Bw3.out.alloc Bw3.out.size _
  have zw4 : w3.heap.size + 1 ≤ (w3.alloc (.cells #[.int .i64 0, .slice (some ⟨gI, 0, none⟩) 8 cI, .slice (some ⟨kI, 0, none⟩) 8 dI, .int .u32 0, .int .i64 0, .int .i64 0, .int .i64 0, .int .u32 0] 38)).heap.size := Nat.le_of_eq (sz1 _ _).symm
  have yw4 : (w3.alloc (.cells #[.int .i64 0, .slice (some ⟨gI, 0, none⟩) 8 cI, .slice (some ⟨kI, 0, none⟩) 8 dI, .int .u32 0, .int .i64 0, .int .i64 0, .int .i64 0, .int .u32 0] 38)).heap.size ≤ w3.heap.size + 1 := Nat.le_of_eq (sz1 _ _)
  clear V_vS_w3 O_VS_w3 O_GS_w3 O_VI_w3 O_GI_w3 Bw3 hk
  have c_vS0 := blkc V_vS_w4.out 0 rfl
  have c_vS1 := blkc V_vS_w4.out 1 rfl
  have c_vS2 := blkc V_vS_w4.out 2 rfl
  have c_vS3 := blkc V_vS_w4.out 3 rfl
  have c_vS4 := blkc V_vS_w4.out 4 rfl
  have c_vS5 := blkc V_vS_w4.out 5 rfl
  have c_vS6 := blkc V_vS_w4.out 6 rfl
  have c_vS7 := blkc V_vS_w4.out 7 rfl
  go_wp2_with fail
  clear c_vS0 c_vS1 c_vS2 c_vS3 c_vS4 c_vS5 c_vS6 c_vS7
  generalize w3.alloc (.cells #[.int .i64 0, .slice (some ⟨gI, 0, none⟩) 8 cI, .slice (some ⟨kI, 0, none⟩) 8 dI, .int .u32 0, .int .i64 0, .int .i64 0, .int .i64 0, .int .u32 0] 38) = w4 at *
  refine (eqWarp_any 0 _ _ 8 _ _ _ _ 8 _ _ 0 0 0 0 0 _ _ _ _ _ _ _ O_VI_w4.out.rd O_VS_w4.out.rd O_GI_w4.out.rd O_GS_w4.out.rd (Nat.le_refl _) (Nat.le_refl _) (Nat.le_refl _) (Nat.le_refl _) (by unfold maxLen; omega) (by unfold maxLen; omega)).mono ?_
  rintro e w5 ⟨rfl, hb⟩
  have zw5 := hb.size
  have hk : Kp (fun _ => False) w4 w5 := Kp.of_below hb
  have V_vS_w5 : Hid (w5.heap[w1.heap.size]? = some (.cells #[.int .i64 0, .slice (some ⟨gS, 0, none⟩) 8 cS, .slice (some ⟨kS, 0, none⟩) 8 dS, .int .u32 0, .int .i64 0, .int .i64 0, .int .i64 0, .int .u32 0] 38 (0, 0))) := (hk.block _ (by omega) (fun h => h)).trans V_vS_w4.out
  have V_vI_w5 : Hid (w5.heap[w3.heap.size]? = some (.cells #[.int .i64 0, .slice (some ⟨gI, 0, none⟩) 8 cI, .slice (some ⟨kI, 0, none⟩) 8 dI, .int .u32 0, .int .i64 0, .int .i64 0, .int .i64 0, .int .u32 0] 38 (0, 0))) := (hk.block _ (by omega) (fun h => h)).trans V_vI_w4.out
  have O_VS_w5 : Hid (OwnK 3 .i64 w5 w.heap.size (some ⟨gS, 0, none⟩) 8 cS (List.replicate 8 (-1))) := O_VS_w4.out.kp hk (fun g hg h => h)
  have O_GS_w5 : Hid (OwnK 3 .i64 w5 (gS + 1) (some ⟨kS, 0, none⟩) 8 dS (List.replicate 8 (-1))) := O_GS_w4.out.kp hk (fun g hg h => h)
  have O_VI_w5 : Hid (OwnK 3 .i64 w5 w2.heap.size (some ⟨gI, 0, none⟩) 8 cI (List.replicate 8 (-1))) := O_VI_w4.out.kp hk (fun g hg h => h)
  have O_GI_w5 : Hid (OwnK 3 .i64 w5 (gI + 1) (some ⟨kI, 0, none⟩) 8 dI (List.replicate 8 (-1))) := O_GI_w4.out.kp hk (fun g hg h => h)
  have Bw5 : Hid (Below w.heap.size w w5) := Bw4.out.trans (hb.mono Bw4.out.size)
  clear V_vS_w4 V_vI_w4 O_VS_w4 O_GS_w4 O_VI_w4 O_GI_w4 Bw4
  clear hb hk
  have c_vI0 := blkc V_vI_w5.out 0 rfl
  have c_vI1 := blkc V_vI_w5.out 1 rfl
  have c_vI2 := blkc V_vI_w5.out 2 rfl
  have c_vI3 := blkc V_vI_w5.out 3 rfl
  have c_vI4 := blkc V_vI_w5.out 4 rfl
  have c_vI5 := blkc V_vI_w5.out 5 rfl
  have c_vI6 := blkc V_vI_w5.out 6 rfl
  have c_vI7 := blkc V_vI_w5.out 7 rfl
  go_wp2_with fail
  clear c_vI0 c_vI1 c_vI2 c_vI3 c_vI4 c_vI5 c_vI6 c_vI7
  refine (markWarp_any 0 _ 8 _ _ 8 _ 0 0 0 0 0 1 _ _ _ _ _ O_VI_w5.out O_GI_w5.out (fun g h1 h2 => by have q1 := R_VI.out g h1; have q2 := R_GI.out g h2; have q3 : gI = g := (by injection h1); omega) (by omega) (by omega) (by omega) (by omega)).mono ?_
  rintro e w6 ⟨rfl, hv, hg, hk⟩
  have zw6 := hk.size
  have V_vS_w6 : Hid (w6.heap[w1.heap.size]? = some (.cells #[.int .i64 0, .slice (some ⟨gS, 0, none⟩) 8 cS, .slice (some ⟨kS, 0, none⟩) 8 dS, .int .u32 0, .int .i64 0, .int .i64 0, .int .i64 0, .int .u32 0] 38 (0, 0))) := (hk.block _ (by omega) (fun h => by rcases h with h | h <;> ((try have q0 := R_VI.out _ h.symm); (try have q1 := R_GI.out _ h.symm); omega))).trans V_vS_w5.out
  have V_vI_w6 : Hid (w6.heap[w3.heap.size]? = some (.cells #[.int .i64 0, .slice (some ⟨gI, 0, none⟩) 8 cI, .slice (some ⟨kI, 0, none⟩) 8 dI, .int .u32 0, .int .i64 0, .int .i64 0, .int .i64 0, .int .u32 0] 38 (0, 0))) := (hk.block _ (by omega) (fun h => by rcases h with h | h <;> ((try have q0 := R_VI.out _ h.symm); (try have q1 := R_GI.out _ h.symm); omega))).trans V_vI_w5.out
  have O_VS_w6 : Hid (OwnK 3 .i64 w6 w.heap.size (some ⟨gS, 0, none⟩) 8 cS (List.replicate 8 (-1))) := O_VS_w5.out.kp hk (fun g hg h => by have q := R_VS.out g hg; rcases h with h | h <;> ((try have q0 := R_VI.out _ h.symm); (try have q1 := R_GI.out _ h.symm); omega))
  have O_GS_w6 : Hid (OwnK 3 .i64 w6 (gS + 1) (some ⟨kS, 0, none⟩) 8 dS (List.replicate 8 (-1))) := O_GS_w5.out.kp hk (fun g hg h => by have q := R_GS.out g hg; rcases h with h | h <;> ((try have q0 := R_VI.out _ h.symm); (try have q1 := R_GI.out _ h.symm); omega))
  have Bw6 : Hid (Below w.heap.size w w6) := Kp.bel hk Bw5.out Bw5.out.size (fun k h => by rcases h with h | h <;> ((try have q0 := R_VI.out _ h.symm); (try have q1 := R_GI.out _ h.symm); omega))
  clear V_vS_w5 V_vI_w5 O_VS_w5 O_GS_w5 O_VI_w5 O_GI_w5 Bw5
  have O_VI_w6 : Hid (OwnK 3 .i64 w6 w2.heap.size (some ⟨gI, 0, none⟩) 8 cI (marksF 1 8)) := hv
  have O_GI_w6 : Hid (OwnK 3 .i64 w6 (gI + 1) (some ⟨kI, 0, none⟩) 8 dI (marksF (1 + (8 : Nat)) 8)) := hg
  clear hk hv hg
  have c_vI0 := blkc V_vI_w6.out 0 rfl
  have c_vI1 := blkc V_vI_w6.out 1 rfl
  have c_vI2 := blkc V_vI_w6.out 2 rfl
  have c_vI3 := blkc V_vI_w6.out 3 rfl
  have c_vI4 := blkc V_vI_w6.out 4 rfl
  have c_vI5 := blkc V_vI_w6.out 5 rfl
  have c_vI6 := blkc V_vI_w6.out 6 rfl
  have c_vI7 := blkc V_vI_w6.out 7 rfl
  go_wp2_with fail
  clear c_vI0 c_vI1 c_vI2 c_vI3 c_vI4 c_vI5 c_vI6 c_vI7
  refine (heldWarp_any 0 _ 8 _ _ 8 _ 0 0 0 0 0 1 _ _ _ O_VI_w6.out.rd O_GI_w6.out.rd (Nat.le_refl _) (Nat.le_refl _) (by omega) (by omega) (by omega) (by omega)).mono ?_
  rintro e w7 ⟨rfl, hb⟩
  have zw7 := hb.size
  have hk : Kp (fun _ => False) w6 w7 := Kp.of_below hb
  have V_vS_w7 : Hid (w7.heap[w1.heap.size]? = some (.cells #[.int .i64 0, .slice (some ⟨gS, 0, none⟩) 8 cS, .slice (some ⟨kS, 0, none⟩) 8 dS, .int .u32 0, .int .i64 0, .int .i64 0, .int .i64 0, .int .u32 0] 38 (0, 0))) := (hk.block _ (by omega) (fun h => h)).trans V_vS_w6.out
  have V_vI_w7 : Hid (w7.heap[w3.heap.size]? = some (.cells #[.int .i64 0, .slice (some ⟨gI, 0, none⟩) 8 cI, .slice (some ⟨kI, 0, none⟩) 8 dI, .int .u32 0, .int .i64 0, .int .i64 0, .int .i64 0, .int .u32 0] 38 (0, 0))) := (hk.block _ (by omega) (fun h => h)).trans V_vI_w6.out
  have O_VS_w7 : Hid (OwnK 3 .i64 w7 w.heap.size (some ⟨gS, 0, none⟩) 8 cS (List.replicate 8 (-1))) := O_VS_w6.out.kp hk (fun g hg h => h)
  have O_GS_w7 : Hid (OwnK 3 .i64 w7 (gS + 1) (some ⟨kS, 0, none⟩) 8 dS (List.replicate 8 (-1))) := O_GS_w6.out.kp hk (fun g hg h => h)
  have O_VI_w7 : Hid (OwnK 3 .i64 w7 w2.heap.size (some ⟨gI, 0, none⟩) 8 cI (marksF 1 8)) := O_VI_w6.out.kp hk (fun g hg h => h)
  have O_GI_w7 : Hid (OwnK 3 .i64 w7 (gI + 1) (some ⟨kI, 0, none⟩) 8 dI (marksF (1 + (8 : Nat)) 8)) := O_GI_w6.out.kp hk (fun g hg h => h)
  have Bw7 : Hid (Below w.heap.size w w7) := Bw6.out.trans (hb.mono Bw6.out.size)
  clear V_vS_w6 V_vI_w6 O_VS_w6 O_GS_w6 O_VI_w6 O_GI_w6 Bw6
  clear hb hk
  go_wp2_with fail
  refine (HI.out _).mono ?_
  rintro e w8 ⟨gH, cH, kH, dH, rfl, hv, hg, hb⟩
  have zw8 := hb.size
  have hk : Kp (fun _ => False) w7 w8 := Kp.of_below hb
  have V_vS_w8 : Hid (w8.heap[w1.heap.size]? = some (.cells #[.int .i64 0, .slice (some ⟨gS, 0, none⟩) 8 cS, .slice (some ⟨kS, 0, none⟩) 8 dS, .int .u32 0, .int .i64 0, .int .i64 0, .int .i64 0, .int .u32 0] 38 (0, 0))) := (hk.block _ (by omega) (fun h => h)).trans V_vS_w7.out
  have V_vI_w8 : Hid (w8.heap[w3.heap.size]? = some (.cells #[.int .i64 0, .slice (some ⟨gI, 0, none⟩) 8 cI, .slice (some ⟨kI, 0, none⟩) 8 dI, .int .u32 0, .int .i64 0, .int .i64 0, .int .i64 0, .int .u32 0] 38 (0, 0))) := (hk.block _ (by omega) (fun h => h)).trans V_vI_w7.out
  have O_VS_w8 : Hid (OwnK 3 .i64 w8 w.heap.size (some ⟨gS, 0, none⟩) 8 cS (List.replicate 8 (-1))) := O_VS_w7.out.kp hk (fun g hg h => h)
  have O_GS_w8 : Hid (OwnK 3 .i64 w8 (gS + 1) (some ⟨kS, 0, none⟩) 8 dS (List.replicate 8 (-1))) := O_GS_w7.out.kp hk (fun g hg h => h)
  have O_VI_w8 : Hid (OwnK 3 .i64 w8 w2.heap.size (some ⟨gI, 0, none⟩) 8 cI (marksF 1 8)) := O_VI_w7.out.kp hk (fun g hg h => h)
  have O_GI_w8 : Hid (OwnK 3 .i64 w8 (gI + 1) (some ⟨kI, 0, none⟩) 8 dI (marksF (1 + (8 : Nat)) 8)) := O_GI_w7.out.kp hk (fun g hg h => h)
  have Bw8 : Hid (Below w.heap.size w w8) := Bw7.out.trans (hb.mono Bw7.out.size)
  clear V_vS_w7 V_vI_w7 O_VS_w7 O_GS_w7 O_VI_w7 O_GI_w7 Bw7
  have O_VH_w8 : Hid (OwnK 3 .i64 w8 w7.heap.size (some ⟨gH, 0, none⟩) 8 cH (List.replicate 8 (-1))) := hv
  have R_VH : Hid (∀ g, (Value.slice (some ⟨gH, 0, none⟩) 8 cH).ownBlock = some g → w7.heap.size ≤ g ∧ g < w8.heap.size) := World.ownsRow.lt hv
  have O_GH_w8 : Hid (OwnK 3 .i64 w8 (gH + 1) (some ⟨kH, 0, none⟩) 8 dH (List.replicate 8 (-1))) := hg
  have R_GH : Hid (∀ g, (Value.slice (some ⟨kH, 0, none⟩) 8 dH).ownBlock = some g → (gH + 1) ≤ g ∧ g < w8.heap.size) := World.ownsRow.lt hg
  clear hb hk hv hg
  have eH := R_VH.out gH rfl
  have fH := R_GH.out kH rfl
  have hk := bel1 w8 (.cells #[.int .i64 0, .slice (some ⟨gH, 0, none⟩) 8 cH, .slice (some ⟨kH, 0, none⟩) 8 dH, .int .u32 0, .int .i64 0, .int .i64 0, .int .i64 0, .int .u32 0] 38)
  have V_vS_w9 : Hid ((w8.alloc (.cells #[.int .i64 0, .slice (some ⟨gH, 0, none⟩) 8 cH, .slice (some ⟨kH, 0, none⟩) 8 dH, .int .u32 0, .int .i64 0, .int .i64 0, .int .i64 0, .int .u32 0] 38)).heap[w1.heap.size]? = some (.cells #[.int .i64 0, .slice (some ⟨gS, 0, none⟩) 8 cS, .slice (some ⟨kS, 0, none⟩) 8 dS, .int .u32 0, .int .i64 0, .int .i64 0, .int .i64 0, .int .u32 0] 38 (0, 0))) := (hk.block _ (by omega)).trans V_vS_w8.out
  have V_vI_w9 : Hid ((w8.alloc (.cells #[.int .i64 0, .slice (some ⟨gH, 0, none⟩) 8 cH, .slice (some ⟨kH, 0, none⟩) 8 dH, .int .u32 0, .int .i64 0, .int .i64 0, .int .i64 0, .int .u32 0] 38)).heap[w3.heap.size]? = some (.cells #[.int .i64 0, .slice (some ⟨gI, 0, none⟩) 8 cI, .slice (some ⟨kI, 0, none⟩) 8 dI, .int .u32 0, .int .i64 0, .int .i64 0, .int .i64 0, .int .u32 0] 38 (0, 0))) := (hk.block _ (by omega)).trans V_vI_w8.out
  have O_VS_w9 : Hid (OwnK 3 .i64 (w8.alloc (.cells #[.int .i64 0, .slice (some ⟨gH, 0, none⟩) 8 cH, .slice (some ⟨kH, 0, none⟩) 8 dH, .int .u32 0, .int .i64 0, .int .i64 0, .int .i64 0, .int .u32 0] 38)) w.heap.size (some ⟨gS, 0, none⟩) 8 cS (List.replicate 8 (-1))) := O_VS_w8.out.below hk
  have O_GS_w9 : Hid (OwnK 3 .i64 (w8.alloc (.cells #[.int .i64 0, .slice (some ⟨gH, 0, none⟩) 8 cH, .slice (some ⟨kH, 0, none⟩) 8 dH, .int .u32 0, .int .i64 0, .int .i64 0, .int .i64 0, .int .u32 0] 38)) (gS + 1) (some ⟨kS, 0, none⟩) 8 dS (List.replicate 8 (-1))) := O_GS_w8.out.below hk
  have O_VI_w9 : Hid (OwnK 3 .i64 (w8.alloc (.cells #[.int .i64 0, .slice (some ⟨gH, 0, none⟩) 8 cH, .slice (some ⟨kH, 0, none⟩) 8 dH, .int .u32 0, .int .i64 0, .int .i64 0, .int .i64 0, .int .u32 0] 38)) w2.heap.size (some ⟨gI, 0, none⟩) 8 cI (marksF 1 8)) := O_VI_w8.out.below hk
  have O_GI_w9 : Hid (OwnK 3 .i64 (w8.alloc (.cells #[.int .i64 0, .slice (some ⟨gH, 0, none⟩) 8 cH, .slice (some ⟨kH, 0, none⟩) 8 dH, .int .u32 0, .int .i64 0, .int .i64 0, .int .i64 0, .int .u32 0] 38)) (gI + 1) (some ⟨kI, 0, none⟩) 8 dI (marksF (1 + (8 : Nat)) 8)) := O_GI_w8.out.below hk
  have O_VH_w9 : Hid (OwnK 3 .i64 (w8.alloc (.cells #[.int .i64 0, .slice (some ⟨gH, 0, none⟩) 8 cH, .slice (some ⟨kH, 0, none⟩) 8 dH, .int .u32 0, .int .i64 0, .int .i64 0, .int .i64 0, .int .u32 0] 38)) w7.heap.size (some ⟨gH, 0, none⟩) 8 cH (List.replicate 8 (-1))) := O_VH_w8.out.below hk
  have O_GH_w9 : Hid (OwnK 3 .i64 (w8.alloc (.cells #[.int .i64 0, .slice (some ⟨gH, 0, none⟩) 8 cH, .slice (some ⟨kH, 0, none⟩) 8 dH, .int .u32 0, .int .i64 0, .int .i64 0, .int .i64 0, .int .u32 0] 38)) (gH + 1) (some ⟨kH, 0, none⟩) 8 dH (List.replicate 8 (-1))) := O_GH_w8.out.below hk
  have V_vH_w9 : Hid ((w8.alloc (.cells #[.int .i64 0, .slice (some ⟨gH, 0, none⟩) 8 cH, .slice (some ⟨kH, 0, none⟩) 8 dH, .int .u32 0, .int .i64 0, .int .i64 0, .int .i64 0, .int .u32 0] 38)).heap[w8.heap.size]? = some (.cells #[.int .i64 0, .slice (some ⟨gH, 0, none⟩) 8 cH, .slice (some ⟨kH, 0, none⟩) 8 dH, .int .u32 0, .int .i64 0, .int .i64 0, .int .i64 0, .int .u32 0] 38 (0, 0))) := heap_alloc_new _ _
  have Bw9 : Hid (Below w.heap.size w (w8.alloc (.cells #[.int .i64 0, .slice (some ⟨gH, 0, none⟩) 8 cH, .slice (some ⟨kH, 0, none⟩) 8 dH, .int .u32 0, .int .i64 0, .int .i64 0, .int .i64 0, .int .u32 0] 38))) := Bw8.out.alloc Bw8.out.size _
  have zw9 : w8.heap.size + 1 ≤ (w8.alloc (.cells #[.int .i64 0, .slice (some ⟨gH, 0, none⟩) 8 cH, .slice (some ⟨kH, 0, none⟩) 8 dH, .int .u32 0, .int .i64 0, .int .i64 0, .int .i64 0, .int .u32 0] 38)).heap.size := Nat.le_of_eq (sz1 _ _).symm
  have yw9 : (w8.alloc (.cells #[.int .i64 0, .slice (some ⟨gH, 0, none⟩) 8 cH, .slice (some ⟨kH, 0, none⟩) 8 dH, .int .u32 0, .int .i64 0, .int .i64 0, .int .i64 0, .int .u32 0] 38)).heap.size ≤ w8.heap.size + 1 := Nat.le_of_eq (sz1 _ _)
  clear V_vS_w8 V_vI_w8 O_VS_w8 O_GS_w8 O_VI_w8 O_GI_w8 O_VH_w8 O_GH_w8 Bw8 hk
  have c_vS0 := blkc V_vS_w9.out 0 rfl
  have c_vS1 := blkc V_vS_w9.out 1 rfl
  have c_vS2 := blkc V_vS_w9.out 2 rfl
  have c_vS3 := blkc V_vS_w9.out 3 rfl
  have c_vS4 := blkc V_vS_w9.out 4 rfl
  have c_vS5 := blkc V_vS_w9.out 5 rfl
  have c_vS6 := blkc V_vS_w9.out 6 rfl
  have c_vS7 := blkc V_vS_w9.out 7 rfl
  go_wp2_with fail
  clear c_vS0 c_vS1 c_vS2 c_vS3 c_vS4 c_vS5 c_vS6 c_vS7
  generalize w8.alloc (.cells #[.int .i64 0, .slice (some ⟨gH, 0, none⟩) 8 cH, .slice (some ⟨kH, 0, none⟩) 8 dH, .int .u32 0, .int .i64 0, .int .i64 0, .int .i64 0, .int .u32 0] 38) = w9 at *
  refine (eqWarp_any 0 _ _ 8 _ _ _ _ 8 _ _ 0 0 0 0 0 _ _ _ _ _ _ _ O_VH_w9.out.rd O_VS_w9.out.rd O_GH_w9.out.rd O_GS_w9.out.rd (Nat.le_refl _) (Nat.le_refl _) (Nat.le_refl _) (Nat.le_refl _) (by unfold maxLen; omega) (by unfold maxLen; omega)).mono ?_
  rintro e w10 ⟨rfl, hb⟩
  have zw10 := hb.size
  have hk : Kp (fun _ => False) w9 w10 := Kp.of_below hb
  have V_vS_w10 : Hid (w10.heap[w1.heap.size]? = some (.cells #[.int .i64 0, .slice (some ⟨gS, 0, none⟩) 8 cS, .slice (some ⟨kS, 0, none⟩) 8 dS, .int .u32 0, .int .i64 0, .int .i64 0, .int .i64 0, .int .u32 0] 38 (0, 0))) := (hk.block _ (by omega) (fun h => h)).trans V_vS_w9.out
  have V_vI_w10 : Hid (w10.heap[w3.heap.size]? = some (.cells #[.int .i64 0, .slice (some ⟨gI, 0, none⟩) 8 cI, .slice (some ⟨kI, 0, none⟩) 8 dI, .int .u32 0, .int .i64 0, .int .i64 0, .int .i64 0, .int .u32 0] 38 (0, 0))) := (hk.block _ (by omega) (fun h => h)).trans V_vI_w9.out
  have V_vH_w10 : Hid (w10.heap[w8.heap.size]? = some (.cells #[.int .i64 0, .slice (some ⟨gH, 0, none⟩) 8 cH, .slice (some ⟨kH, 0, none⟩) 8 dH, .int .u32 0, .int .i64 0, .int .i64 0, .int .i64 0, .int .u32 0] 38 (0, 0))) := (hk.block _ (by omega) (fun h => h)).trans V_vH_w9.out
  have O_VS_w10 : Hid (OwnK 3 .i64 w10 w.heap.size (some ⟨gS, 0, none⟩) 8 cS (List.replicate 8 (-1))) := O_VS_w9.out.kp hk (fun g hg h => h)
  have O_GS_w10 : Hid (OwnK 3 .i64 w10 (gS + 1) (some ⟨kS, 0, none⟩) 8 dS (List.replicate 8 (-1))) := O_GS_w9.out.kp hk (fun g hg h => h)
  have O_VI_w10 : Hid (OwnK 3 .i64 w10 w2.heap.size (some ⟨gI, 0, none⟩) 8 cI (marksF 1 8)) := O_VI_w9.out.kp hk (fun g hg h => h)
  have O_GI_w10 : Hid (OwnK 3 .i64 w10 (gI + 1) (some ⟨kI, 0, none⟩) 8 dI (marksF (1 + (8 : Nat)) 8)) := O_GI_w9.out.kp hk (fun g hg h => h)
  have O_VH_w10 : Hid (OwnK 3 .i64 w10 w7.heap.size (some ⟨gH, 0, none⟩) 8 cH (List.replicate 8 (-1))) := O_VH_w9.out.kp hk (fun g hg h => h)
  have O_GH_w10 : Hid (OwnK 3 .i64 w10 (gH + 1) (some ⟨kH, 0, none⟩) 8 dH (List.replicate 8 (-1))) := O_GH_w9.out.kp hk (fun g hg h => h)
  have Bw10 : Hid (Below w.heap.size w w10) := Bw9.out.trans (hb.mono Bw9.out.size)
  clear V_vS_w9 V_vI_w9 V_vH_w9 O_VS_w9 O_GS_w9 O_VI_w9 O_GI_w9 O_VH_w9 O_GH_w9 Bw9
  clear hb hk
  have c_vI0 := blkc V_vI_w10.out 0 rfl
  have c_vI1 := blkc V_vI_w10.out 1 rfl
  have c_vI2 := blkc V_vI_w10.out 2 rfl
  have c_vI3 := blkc V_vI_w10.out 3 rfl
  have c_vI4 := blkc V_vI_w10.out 4 rfl
  have c_vI5 := blkc V_vI_w10.out 5 rfl
  have c_vI6 := blkc V_vI_w10.out 6 rfl
  have c_vI7 := blkc V_vI_w10.out 7 rfl
  go_wp2_with fail
  clear c_vI0 c_vI1 c_vI2 c_vI3 c_vI4 c_vI5 c_vI6 c_vI7
  refine (heldWarp_any 0 _ 8 _ _ 8 _ 0 0 0 0 0 1 _ _ _ O_VI_w10.out.rd O_GI_w10.out.rd (Nat.le_refl _) (Nat.le_refl _) (by omega) (by omega) (by omega) (by omega)).mono ?_
  rintro e w11 ⟨rfl, hb⟩
  have zw11 := hb.size
  have hk : Kp (fun _ => False) w10 w11 := Kp.of_below hb
  have V_vS_w11 : Hid (w11.heap[w1.heap.size]? = some (.cells #[.int .i64 0, .slice (some ⟨gS, 0, none⟩) 8 cS, .slice (some ⟨kS, 0, none⟩) 8 dS, .int .u32 0, .int .i64 0, .int .i64 0, .int .i64 0, .int .u32 0] 38 (0, 0))) := (hk.block _ (by omega) (fun h => h)).trans V_vS_w10.out
  have V_vI_w11 : Hid (w11.heap[w3.heap.size]? = some (.cells #[.int .i64 0, .slice (some ⟨gI, 0, none⟩) 8 cI, .slice (some ⟨kI, 0, none⟩) 8 dI, .int .u32 0, .int .i64 0, .int .i64 0, .int .i64 0, .int .u32 0] 38 (0, 0))) := (hk.block _ (by omega) (fun h => h)).trans V_vI_w10.out
  have V_vH_w11 : Hid (w11.heap[w8.heap.size]? = some (.cells #[.int .i64 0, .slice (some ⟨gH, 0, none⟩) 8 cH, .slice (some ⟨kH, 0, none⟩) 8 dH, .int .u32 0, .int .i64 0, .int .i64 0, .int .i64 0, .int .u32 0] 38 (0, 0))) := (hk.block _ (by omega) (fun h => h)).trans V_vH_w10.out
  have O_VS_w11 : Hid (OwnK 3 .i64 w11 w.heap.size (some ⟨gS, 0, none⟩) 8 cS (List.replicate 8 (-1))) := O_VS_w10.out.kp hk (fun g hg h => h)
  have O_GS_w11 : Hid (OwnK 3 .i64 w11 (gS + 1) (some ⟨kS, 0, none⟩) 8 dS (List.replicate 8 (-1))) := O_GS_w10.out.kp hk (fun g hg h => h)
  have O_VI_w11 : Hid (OwnK 3 .i64 w11 w2.heap.size (some ⟨gI, 0, none⟩) 8 cI (marksF 1 8)) := O_VI_w10.out.kp hk (fun g hg h => h)
  have O_GI_w11 : Hid (OwnK 3 .i64 w11 (gI + 1) (some ⟨kI, 0, none⟩) 8 dI (marksF (1 + (8 : Nat)) 8)) := O_GI_w10.out.kp hk (fun g hg h => h)
  have O_VH_w11 : Hid (OwnK 3 .i64 w11 w7.heap.size (some ⟨gH, 0, none⟩) 8 cH (List.replicate 8 (-1))) := O_VH_w10.out.kp hk (fun g hg h => h)
  have O_GH_w11 : Hid (OwnK 3 .i64 w11 (gH + 1) (some ⟨kH, 0, none⟩) 8 dH (List.replicate 8 (-1))) := O_GH_w10.out.kp hk (fun g hg h => h)
  have Bw11 : Hid (Below w.heap.size w w11) := Bw10.out.trans (hb.mono Bw10.out.size)
  clear V_vS_w10 V_vI_w10 V_vH_w10 O_VS_w10 O_GS_w10 O_VI_w10 O_GI_w10 O_VH_w10 O_GH_w10 Bw10
  clear hb hk
  go_wp2
  go_ret
  exact ⟨rfl, Bw11.out⟩

set_option maxRecDepth 100000 in
theorem fnExactWarpNew_lifted (os : Os) (started : os.Started) (H : Type) (enc : TypeId × Value → H) :
    ReturnsInHanded {} Try.checked os 5 .any (Rows.fnExactWarpNewSpec.pre6 enc Try.prog Try.f5 Rows.fnExactWarpNewRow.domain false) (Rows.fnExactWarpNewSpec.post enc Try.prog Try.f5 false true false false) := by
  refine returnsInHanded_of_change (C := Try.checked) own started (by kernel_rfl) Try.func5
    (ChangeSpec.witness6 (enc := enc) (C := Try.checked) false ⟨#[], #[], []⟩ 8 (by kernel_rfl) (by kernel_rfl) (by kernel_rfl) (by kernel_rfl)) ?_
  intro W base args ds gs before hval0 hW hcnd _
  have hval : ∀ (j : Nat) t v, Try.f5.params[j]? = some t → args[j]? = some v → Value.okWide Try.prog W .any base t v := hval0
  have hW' := hW
  obtain ⟨p, q, hA0, hV, rfl, hfz, hnd⟩ := hW
  have hA : DataW.TrodAll enc Try.prog W 0 (fun _ => true) true Try.f5.params.toList args.toList ds p := hA0
  rw [Try.params5] at hA hval
  obtain ⟨hargs, rfl, rfl⟩ := trodAll_nil hA
  obtain rfl : args = #[] := by cases args; simp_all
  obtain ⟨rfl, rfl⟩ := trodVars_none hV
  clear hA0 hval0
  refine (fnExactWarpNew_walk  W ).mono fun e W' ⟨he, bel⟩ => ?_
  subst he
  exact ⟨_, rfl, _, _, _, [], _, [], hW', trodAll_mk1 (shut_bool Try.underlying4 _), (trodAll_mk0), rfl, bel.frame _, fun h => by cases h⟩

/-- The given statement: for every input the law returns true, and its arguments read as before. -/
theorem fnExactWarpNew_holds : Rows.FnExactWarpNewSaid :=
  OpenClaim.holds_of_wide 5 Try.f5 rfl rfl rfl rfl rfl rfl rfl ⟨rfl, rfl, rfl, rfl, rfl⟩ rfl rfl rfl rfl rfl (by kernel_rfl) Try.func5 (by kernel_rfl)
    (of_decide_eq_true (by kernel_rfl)) (by unfold Func.isWrapper; first | (rw [if_pos (by decide +kernel)]; kernel_rfl) | (rw [if_neg (by decide +kernel)]; exact ⟨rfl, rfl⟩))
    (fun os started H enc _ => fnExactWarpNew_lifted os started H enc)
#print axioms fnExactWarpNew_holds
end Go.Proofs.Ytflccpoaacidgaa
