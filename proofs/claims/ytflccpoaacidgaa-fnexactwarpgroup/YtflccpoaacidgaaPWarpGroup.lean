/- WarpGroup of the program answers as the model at every argument, and leaves its argument as it was. No condition. -/
import Derived.Test.YtflccpoaacidgaaSGroupW
import Derived.Test.YtflccpoaacidgaaOpenW
namespace Go.Proofs.Ytflccpoaacidgaa
open Go.ChangeShapes Go.WideShapes Go.ChangeAt Go.RowKit
set_option linter.unusedVariables false

set_option maxRecDepth 100000 in
set_option maxHeartbeats 8000000 in
theorem fnExactWarpGroup_walk (kd : Int) (A : Option Addr) (n c : Nat) (vs : List Int) (B : Option Addr) (m d : Nat) (gs : List Int) (td : Nat) (ph pr hd : Int) (sn : Nat)  (w : World)
    (hw : (Lit.int .i64 kd).wf = true ∧ td < 4294967296 ∧ (Lit.int .i64 ph).wf = true ∧ (Lit.int .i64 pr).wf = true ∧ (Lit.int .i64 hd).wf = true ∧ sn < 4294967296) (hv : n ≤ maxLen ∧ RdK .i64 w w.heap.size A n vs ∧ Fits vs) (hg : m ≤ maxLen ∧ RdK .i64 w w.heap.size B m gs ∧ Fits gs)  :
    Calls Try.prog 8 #[.agg #[.int .i64 kd, .slice A n c, .slice B m d, .int .u32 (td : Int), .int .i64 ph, .int .i64 pr, .int .i64 hd, .int .u32 (sn : Int)]] w fun e w' => e = .returned (.bool true) ∧ Below w.heap.size w w' := by
  obtain ⟨hm, hv, hfv⟩ := hv
  obtain ⟨hm2, hg, hfg⟩ := hg
  obtain ⟨hw1, ht, hw2, hpr, hw3, hsn⟩ := hw
  by_cases hn : (n : Int) + m ≤ 1048576
  · have HQ : Hid (∀ r, r = groupW kd vs gs td ph pr hd sn → (∀ W g k, RdK .i64 W W.heap.size (some ⟨g, 0, none⟩) n vs → RdK .i64 W W.heap.size (some ⟨k, 0, none⟩) m gs → Calls Try.prog 31 #[.agg #[.int .i64 kd, .slice (some ⟨g, 0, none⟩) n n, .slice (some ⟨k, 0, none⟩) m m, .int .u32 (td : Int), .int .i64 ph, .int .i64 pr, .int .i64 hd, .int .u32 (sn : Int)]] W fun e w' => e = .returned (.int .u32 ((r : Nat) : Int)) ∧ Below W.heap.size W w') ∧ (∀ W g k, RdK .i64 W W.heap.size (some ⟨g, 0, none⟩) n vs → RdK .i64 W W.heap.size (some ⟨k, 0, none⟩) m gs → Calls Try.prog 32 #[.agg #[.int .i64 kd, .slice (some ⟨g, 0, none⟩) n n, .slice (some ⟨k, 0, none⟩) m m, .int .u32 (td : Int), .int .i64 ph, .int .i64 pr, .int .i64 hd, .int .u32 (sn : Int)]] W fun e w' => e = .returned (.int .u32 ((r : Nat) : Int)) ∧ Below W.heap.size W w')) := fun r hr => ⟨fun W g k h1 h2 => hr ▸ sWarpGroup_any kd _ n n _ m m td ph pr hd sn vs gs _ _ W h1 (Nat.le_refl _) hm h2 (Nat.le_refl _) hm2 ht hsn, fun W g k h1 h2 => hr ▸ warpGroup_any kd _ n n _ m m td ph pr hd sn vs gs _ _ W h1 (Nat.le_refl _) hm h2 (Nat.le_refl _) hm2 ht hsn hpr⟩
    obtain ⟨r, hr⟩ : ∃ r, r = groupW kd vs gs td ph pr hd sn := ⟨_, rfl⟩
    have HS := Lib.hid (HQ.out r hr).1
    have HI := Lib.hid (HQ.out r hr).2
    clear HQ hr
    have hbb : ((r : Int) != (r : Int)) = false := by simp
    have HT : Hid (∀ W, Below w.heap.size w W → Calls Try.prog 26 #[.agg #[.int .i64 kd, .slice A n c, .slice B m d, .int .u32 (td : Int), .int .i64 ph, .int .i64 pr, .int .i64 hd, .int .u32 (sn : Int)]] W fun e w' => ∃ g k, e = .returned (.agg #[.int .i64 kd, .slice (some ⟨g, 0, none⟩) n n, .slice (some ⟨k, 0, none⟩) m m, .int .u32 (td : Int), .int .i64 ph, .int .i64 pr, .int .i64 hd, .int .u32 (sn : Int)]) ∧ OwnK 3 .i64 w' W.heap.size (some ⟨g, 0, none⟩) n n vs ∧ OwnK 3 .i64 w' (g + 1) (some ⟨k, 0, none⟩) m m gs ∧ Below W.heap.size W w') := fun W hb => toWarp_any kd A n c B m d td ph pr hd sn _ _ vs gs W (hv.below hb) hb.size (by omega) (hg.below hb) hb.size (by omega)
    have HZ := Lib.hid (fun W => szWarp_yes kd A n c B m d td ph pr hd sn 1048576 W (Int.le_refl _) hn)
    have hq : ¬ (1048576 : Int) - (n : Int) - (m : Int) < 0 := by omega
    clear hv hg hfv hfg hw1 hw2 hw3 hpr hsn ht 
    go_enter Try.func8, Try.ntmps8
    have hk := bel1 w (.cells #[.int .i64 kd, .slice A n c, .slice B m d, .int .u32 (td : Int), .int .i64 ph, .int .i64 pr, .int .i64 hd, .int .u32 (sn : Int)] 43)
    have V_arg_w1 : Hid ((w.alloc (.cells #[.int .i64 kd, .slice A n c, .slice B m d, .int .u32 (td : Int), .int .i64 ph, .int .i64 pr, .int .i64 hd, .int .u32 (sn : Int)] 43)).heap[w.heap.size]? = some (.cells #[.int .i64 kd, .slice A n c, .slice B m d, .int .u32 (td : Int), .int .i64 ph, .int .i64 pr, .int .i64 hd, .int .u32 (sn : Int)] 43 (0, 0))) := heap_alloc_new _ _
    have Bw1 : Hid (Below w.heap.size w (w.alloc (.cells #[.int .i64 kd, .slice A n c, .slice B m d, .int .u32 (td : Int), .int .i64 ph, .int .i64 pr, .int .i64 hd, .int .u32 (sn : Int)] 43))) := hk
    have zw1 : w.heap.size + 1 ≤ (w.alloc (.cells #[.int .i64 kd, .slice A n c, .slice B m d, .int .u32 (td : Int), .int .i64 ph, .int .i64 pr, .int .i64 hd, .int .u32 (sn : Int)] 43)).heap.size := Nat.le_of_eq (sz1 _ _).symm
    have yw1 : (w.alloc (.cells #[.int .i64 kd, .slice A n c, .slice B m d, .int .u32 (td : Int), .int .i64 ph, .int .i64 pr, .int .i64 hd, .int .u32 (sn : Int)] 43)).heap.size ≤ w.heap.size + 1 := Nat.le_of_eq (sz1 _ _)
    clear hk
    go_wp2_with fail
    generalize w.alloc (.cells #[.int .i64 kd, .slice A n c, .slice B m d, .int .u32 (td : Int), .int .i64 ph, .int .i64 pr, .int .i64 hd, .int .u32 (sn : Int)] 43) = w1 at *
    refine (HZ.out _).mono ?_
    rintro e w2 ⟨rfl, hb⟩
    have zw2 := hb.size
    have hk : Kp (fun _ => False) w1 w2 := Kp.of_below hb
    have V_arg_w2 : Hid (w2.heap[w.heap.size]? = some (.cells #[.int .i64 kd, .slice A n c, .slice B m d, .int .u32 (td : Int), .int .i64 ph, .int .i64 pr, .int .i64 hd, .int .u32 (sn : Int)] 43 (0, 0))) := (hk.block _ (by omega) (fun h => h)).trans V_arg_w1.out
    have Bw2 : Hid (Below w.heap.size w w2) := Bw1.out.trans (hb.mono Bw1.out.size)
    clear V_arg_w1 Bw1
    clear hb hk
    have c_arg0 := blkc V_arg_w2.out 0 rfl
    have c_arg1 := blkc V_arg_w2.out 1 rfl
    have c_arg2 := blkc V_arg_w2.out 2 rfl
    have c_arg3 := blkc V_arg_w2.out 3 rfl
    have c_arg4 := blkc V_arg_w2.out 4 rfl
    have c_arg5 := blkc V_arg_w2.out 5 rfl
    have c_arg6 := blkc V_arg_w2.out 6 rfl
    have c_arg7 := blkc V_arg_w2.out 7 rfl
    go_wp2_with fail
    clear c_arg0 c_arg1 c_arg2 c_arg3 c_arg4 c_arg5 c_arg6 c_arg7
    refine (HT.out _ Bw2.out).mono ?_
    rintro e w3 ⟨gX, kX, rfl, hv, hg, hb⟩
    have zw3 := hb.size
    have hk : Kp (fun _ => False) w2 w3 := Kp.of_below hb
    have V_arg_w3 : Hid (w3.heap[w.heap.size]? = some (.cells #[.int .i64 kd, .slice A n c, .slice B m d, .int .u32 (td : Int), .int .i64 ph, .int .i64 pr, .int .i64 hd, .int .u32 (sn : Int)] 43 (0, 0))) := (hk.block _ (by omega) (fun h => h)).trans V_arg_w2.out
    have Bw3 : Hid (Below w.heap.size w w3) := Bw2.out.trans (hb.mono Bw2.out.size)
    clear V_arg_w2 Bw2
    have O_VX_w3 : Hid (OwnK 3 .i64 w3 w2.heap.size (some ⟨gX, 0, none⟩) n n vs) := hv
    have R_VX : Hid (∀ g, (Value.slice (some ⟨gX, 0, none⟩) n n).ownBlock = some g → w2.heap.size ≤ g ∧ g < w3.heap.size) := World.ownsRow.lt hv
    have O_GX_w3 : Hid (OwnK 3 .i64 w3 (gX + 1) (some ⟨kX, 0, none⟩) m m gs) := hg
    have R_GX : Hid (∀ g, (Value.slice (some ⟨kX, 0, none⟩) m m).ownBlock = some g → (gX + 1) ≤ g ∧ g < w3.heap.size) := World.ownsRow.lt hg
    clear hb hk hv hg
    have eX := R_VX.out gX rfl
    have fX := R_GX.out kX rfl
    go_wp2_with fail
    refine (HS.out _ gX kX O_VX_w3.out.rd O_GX_w3.out.rd).mono ?_
    rintro e w4 ⟨rfl, hb⟩
    have zw4 := hb.size
    have hk : Kp (fun _ => False) w3 w4 := Kp.of_below hb
    have V_arg_w4 : Hid (w4.heap[w.heap.size]? = some (.cells #[.int .i64 kd, .slice A n c, .slice B m d, .int .u32 (td : Int), .int .i64 ph, .int .i64 pr, .int .i64 hd, .int .u32 (sn : Int)] 43 (0, 0))) := (hk.block _ (by omega) (fun h => h)).trans V_arg_w3.out
    have O_VX_w4 : Hid (OwnK 3 .i64 w4 w2.heap.size (some ⟨gX, 0, none⟩) n n vs) := O_VX_w3.out.kp hk (fun g hg h => h)
    have O_GX_w4 : Hid (OwnK 3 .i64 w4 (gX + 1) (some ⟨kX, 0, none⟩) m m gs) := O_GX_w3.out.kp hk (fun g hg h => h)
    have Bw4 : Hid (Below w.heap.size w w4) := Bw3.out.trans (hb.mono Bw3.out.size)
    clear V_arg_w3 O_VX_w3 O_GX_w3 Bw3
    clear hb hk
    clear O_VX_w4
    clear O_GX_w4
    have c_arg0 := blkc V_arg_w4.out 0 rfl
    have c_arg1 := blkc V_arg_w4.out 1 rfl
    have c_arg2 := blkc V_arg_w4.out 2 rfl
    have c_arg3 := blkc V_arg_w4.out 3 rfl
    have c_arg4 := blkc V_arg_w4.out 4 rfl
    have c_arg5 := blkc V_arg_w4.out 5 rfl
    have c_arg6 := blkc V_arg_w4.out 6 rfl
    have c_arg7 := blkc V_arg_w4.out 7 rfl
    go_wp2_with fail
    clear c_arg0 c_arg1 c_arg2 c_arg3 c_arg4 c_arg5 c_arg6 c_arg7
    refine (HT.out _ Bw4.out).mono ?_
    rintro e w5 ⟨gY, kY, rfl, hv, hg, hb⟩
    have zw5 := hb.size
    have hk : Kp (fun _ => False) w4 w5 := Kp.of_below hb
    have V_arg_w5 : Hid (w5.heap[w.heap.size]? = some (.cells #[.int .i64 kd, .slice A n c, .slice B m d, .int .u32 (td : Int), .int .i64 ph, .int .i64 pr, .int .i64 hd, .int .u32 (sn : Int)] 43 (0, 0))) := (hk.block _ (by omega) (fun h => h)).trans V_arg_w4.out
    have Bw5 : Hid (Below w.heap.size w w5) := Bw4.out.trans (hb.mono Bw4.out.size)
    clear V_arg_w4 Bw4
    have O_VY_w5 : Hid (OwnK 3 .i64 w5 w4.heap.size (some ⟨gY, 0, none⟩) n n vs) := hv
    have R_VY : Hid (∀ g, (Value.slice (some ⟨gY, 0, none⟩) n n).ownBlock = some g → w4.heap.size ≤ g ∧ g < w5.heap.size) := World.ownsRow.lt hv
    have O_GY_w5 : Hid (OwnK 3 .i64 w5 (gY + 1) (some ⟨kY, 0, none⟩) m m gs) := hg
    have R_GY : Hid (∀ g, (Value.slice (some ⟨kY, 0, none⟩) m m).ownBlock = some g → (gY + 1) ≤ g ∧ g < w5.heap.size) := World.ownsRow.lt hg
    clear hb hk hv hg
    have eY := R_VY.out gY rfl
    have fY := R_GY.out kY rfl
    have hk := bel1 w5 (.cells #[.int .i64 kd, .slice (some ⟨gY, 0, none⟩) n n, .slice (some ⟨kY, 0, none⟩) m m, .int .u32 (td : Int), .int .i64 ph, .int .i64 pr, .int .i64 hd, .int .u32 (sn : Int)] 38)
    have V_arg_w6 : Hid ((w5.alloc (.cells #[.int .i64 kd, .slice (some ⟨gY, 0, none⟩) n n, .slice (some ⟨kY, 0, none⟩) m m, .int .u32 (td : Int), .int .i64 ph, .int .i64 pr, .int .i64 hd, .int .u32 (sn : Int)] 38)).heap[w.heap.size]? = some (.cells #[.int .i64 kd, .slice A n c, .slice B m d, .int .u32 (td : Int), .int .i64 ph, .int .i64 pr, .int .i64 hd, .int .u32 (sn : Int)] 43 (0, 0))) := (hk.block _ (by omega)).trans V_arg_w5.out
    have O_VY_w6 : Hid (OwnK 3 .i64 (w5.alloc (.cells #[.int .i64 kd, .slice (some ⟨gY, 0, none⟩) n n, .slice (some ⟨kY, 0, none⟩) m m, .int .u32 (td : Int), .int .i64 ph, .int .i64 pr, .int .i64 hd, .int .u32 (sn : Int)] 38)) w4.heap.size (some ⟨gY, 0, none⟩) n n vs) := O_VY_w5.out.below hk
    have O_GY_w6 : Hid (OwnK 3 .i64 (w5.alloc (.cells #[.int .i64 kd, .slice (some ⟨gY, 0, none⟩) n n, .slice (some ⟨kY, 0, none⟩) m m, .int .u32 (td : Int), .int .i64 ph, .int .i64 pr, .int .i64 hd, .int .u32 (sn : Int)] 38)) (gY + 1) (some ⟨kY, 0, none⟩) m m gs) := O_GY_w5.out.below hk
    have V_vY_w6 : Hid ((w5.alloc (.cells #[.int .i64 kd, .slice (some ⟨gY, 0, none⟩) n n, .slice (some ⟨kY, 0, none⟩) m m, .int .u32 (td : Int), .int .i64 ph, .int .i64 pr, .int .i64 hd, .int .u32 (sn : Int)] 38)).heap[w5.heap.size]? = some (.cells #[.int .i64 kd, .slice (some ⟨gY, 0, none⟩) n n, .slice (some ⟨kY, 0, none⟩) m m, .int .u32 (td : Int), .int .i64 ph, .int .i64 pr, .int .i64 hd, .int .u32 (sn : Int)] 38 (0, 0))) := heap_alloc_new _ _
    have Bw6 : Hid (Below w.heap.size w (w5.alloc (.cells #[.int .i64 kd, .slice (some ⟨gY, 0, none⟩) n n, .slice (some ⟨kY, 0, none⟩) m m, .int .u32 (td : Int), .int .i64 ph, .int .i64 pr, .int .i64 hd, .int .u32 (sn : Int)] 38))) := Bw5.out.alloc Bw5.out.size _
    have zw6 : w5.heap.size + 1 ≤ (w5.alloc (.cells #[.int .i64 kd, .slice (some ⟨gY, 0, none⟩) n n, .slice (some ⟨kY, 0, none⟩) m m, .int .u32 (td : Int), .int .i64 ph, .int .i64 pr, .int .i64 hd, .int .u32 (sn : Int)] 38)).heap.size := Nat.le_of_eq (sz1 _ _).symm
    have yw6 : (w5.alloc (.cells #[.int .i64 kd, .slice (some ⟨gY, 0, none⟩) n n, .slice (some ⟨kY, 0, none⟩) m m, .int .u32 (td : Int), .int .i64 ph, .int .i64 pr, .int .i64 hd, .int .u32 (sn : Int)] 38)).heap.size ≤ w5.heap.size + 1 := Nat.le_of_eq (sz1 _ _)
    clear V_arg_w5 O_VY_w5 O_GY_w5 Bw5 hk
    go_wp2_with fail
    generalize w5.alloc (.cells #[.int .i64 kd, .slice (some ⟨gY, 0, none⟩) n n, .slice (some ⟨kY, 0, none⟩) m m, .int .u32 (td : Int), .int .i64 ph, .int .i64 pr, .int .i64 hd, .int .u32 (sn : Int)] 38) = w6 at *
    refine (HI.out _ gY kY O_VY_w6.out.rd O_GY_w6.out.rd).mono ?_
    rintro e w7 ⟨rfl, hb⟩
    have zw7 := hb.size
    have hk : Kp (fun _ => False) w6 w7 := Kp.of_below hb
    have V_arg_w7 : Hid (w7.heap[w.heap.size]? = some (.cells #[.int .i64 kd, .slice A n c, .slice B m d, .int .u32 (td : Int), .int .i64 ph, .int .i64 pr, .int .i64 hd, .int .u32 (sn : Int)] 43 (0, 0))) := (hk.block _ (by omega) (fun h => h)).trans V_arg_w6.out
    have V_vY_w7 : Hid (w7.heap[w5.heap.size]? = some (.cells #[.int .i64 kd, .slice (some ⟨gY, 0, none⟩) n n, .slice (some ⟨kY, 0, none⟩) m m, .int .u32 (td : Int), .int .i64 ph, .int .i64 pr, .int .i64 hd, .int .u32 (sn : Int)] 38 (0, 0))) := (hk.block _ (by omega) (fun h => h)).trans V_vY_w6.out
    have O_VY_w7 : Hid (OwnK 3 .i64 w7 w4.heap.size (some ⟨gY, 0, none⟩) n n vs) := O_VY_w6.out.kp hk (fun g hg h => h)
    have O_GY_w7 : Hid (OwnK 3 .i64 w7 (gY + 1) (some ⟨kY, 0, none⟩) m m gs) := O_GY_w6.out.kp hk (fun g hg h => h)
    have Bw7 : Hid (Below w.heap.size w w7) := Bw6.out.trans (hb.mono Bw6.out.size)
    clear V_arg_w6 V_vY_w6 O_VY_w6 O_GY_w6 Bw6
    clear hb hk
    go_wp2_with fail
    have x0r8 : w7.cell? ⟨w5.heap.size, 0, none⟩ = some (.int .i64 kd) ∧ w7.cell? ⟨w5.heap.size, 1, none⟩ = some (.slice (some ⟨gY, 0, none⟩) n n) ∧ w7.cell? ⟨w5.heap.size, 2, none⟩ = some (.slice (some ⟨kY, 0, none⟩) m m) ∧ w7.cell? ⟨w5.heap.size, 3, none⟩ = some (.int .u32 (td : Int)) ∧ w7.cell? ⟨w5.heap.size, 4, none⟩ = some (.int .i64 ph) ∧ w7.cell? ⟨w5.heap.size, 5, none⟩ = some (.int .i64 pr) ∧ w7.cell? ⟨w5.heap.size, 6, none⟩ = some (.int .i64 hd) ∧ w7.cell? ⟨w5.heap.size, 7, none⟩ = some (.int .u32 (sn : Int)) ∧ w7.cell? ⟨w.heap.size, 0, none⟩ = some (.int .i64 kd) ∧ w7.cell? ⟨w.heap.size, 1, none⟩ = some (.slice A n c) ∧ w7.cell? ⟨w.heap.size, 2, none⟩ = some (.slice B m d) ∧ w7.cell? ⟨w.heap.size, 3, none⟩ = some (.int .u32 (td : Int)) ∧ w7.cell? ⟨w.heap.size, 4, none⟩ = some (.int .i64 ph) ∧ w7.cell? ⟨w.heap.size, 5, none⟩ = some (.int .i64 pr) ∧ w7.cell? ⟨w.heap.size, 6, none⟩ = some (.int .i64 hd) ∧ w7.cell? ⟨w.heap.size, 7, none⟩ = some (.int .u32 (sn : Int)) := ⟨blkc V_vY_w7.out 0 rfl, blkc V_vY_w7.out 1 rfl, blkc V_vY_w7.out 2 rfl, blkc V_vY_w7.out 3 rfl, blkc V_vY_w7.out 4 rfl, blkc V_vY_w7.out 5 rfl, blkc V_vY_w7.out 6 rfl, blkc V_vY_w7.out 7 rfl, blkc V_arg_w7.out 0 rfl, blkc V_arg_w7.out 1 rfl, blkc V_arg_w7.out 2 rfl, blkc V_arg_w7.out 3 rfl, blkc V_arg_w7.out 4 rfl, blkc V_arg_w7.out 5 rfl, blkc V_arg_w7.out 6 rfl, blkc V_arg_w7.out 7 rfl⟩
    have x0dr8 : w7.drew.cell? ⟨w5.heap.size, 0, none⟩ = some (.int .i64 kd) ∧ w7.drew.cell? ⟨w5.heap.size, 1, none⟩ = some (.slice (some ⟨gY, 0, none⟩) n n) ∧ w7.drew.cell? ⟨w5.heap.size, 2, none⟩ = some (.slice (some ⟨kY, 0, none⟩) m m) ∧ w7.drew.cell? ⟨w5.heap.size, 3, none⟩ = some (.int .u32 (td : Int)) ∧ w7.drew.cell? ⟨w5.heap.size, 4, none⟩ = some (.int .i64 ph) ∧ w7.drew.cell? ⟨w5.heap.size, 5, none⟩ = some (.int .i64 pr) ∧ w7.drew.cell? ⟨w5.heap.size, 6, none⟩ = some (.int .i64 hd) ∧ w7.drew.cell? ⟨w5.heap.size, 7, none⟩ = some (.int .u32 (sn : Int)) ∧ w7.drew.cell? ⟨w.heap.size, 0, none⟩ = some (.int .i64 kd) ∧ w7.drew.cell? ⟨w.heap.size, 1, none⟩ = some (.slice A n c) ∧ w7.drew.cell? ⟨w.heap.size, 2, none⟩ = some (.slice B m d) ∧ w7.drew.cell? ⟨w.heap.size, 3, none⟩ = some (.int .u32 (td : Int)) ∧ w7.drew.cell? ⟨w.heap.size, 4, none⟩ = some (.int .i64 ph) ∧ w7.drew.cell? ⟨w.heap.size, 5, none⟩ = some (.int .i64 pr) ∧ w7.drew.cell? ⟨w.heap.size, 6, none⟩ = some (.int .i64 hd) ∧ w7.drew.cell? ⟨w.heap.size, 7, none⟩ = some (.int .u32 (sn : Int)) := x0r8
    have D0r8 : Hid (Below w7.heap.size w7 w7.drew) := (Below.refl _ _).drew
    have xSr8 : Hid (∀ w', Below w7.heap.size w7 w' → w'.cell? ⟨w5.heap.size, 0, none⟩ = some (.int .i64 kd) ∧ w'.cell? ⟨w5.heap.size, 1, none⟩ = some (.slice (some ⟨gY, 0, none⟩) n n) ∧ w'.cell? ⟨w5.heap.size, 2, none⟩ = some (.slice (some ⟨kY, 0, none⟩) m m) ∧ w'.cell? ⟨w5.heap.size, 3, none⟩ = some (.int .u32 (td : Int)) ∧ w'.cell? ⟨w5.heap.size, 4, none⟩ = some (.int .i64 ph) ∧ w'.cell? ⟨w5.heap.size, 5, none⟩ = some (.int .i64 pr) ∧ w'.cell? ⟨w5.heap.size, 6, none⟩ = some (.int .i64 hd) ∧ w'.cell? ⟨w5.heap.size, 7, none⟩ = some (.int .u32 (sn : Int)) ∧ w'.cell? ⟨w.heap.size, 0, none⟩ = some (.int .i64 kd) ∧ w'.cell? ⟨w.heap.size, 1, none⟩ = some (.slice A n c) ∧ w'.cell? ⟨w.heap.size, 2, none⟩ = some (.slice B m d) ∧ w'.cell? ⟨w.heap.size, 3, none⟩ = some (.int .u32 (td : Int)) ∧ w'.cell? ⟨w.heap.size, 4, none⟩ = some (.int .i64 ph) ∧ w'.cell? ⟨w.heap.size, 5, none⟩ = some (.int .i64 pr) ∧ w'.cell? ⟨w.heap.size, 6, none⟩ = some (.int .i64 hd) ∧ w'.cell? ⟨w.heap.size, 7, none⟩ = some (.int .u32 (sn : Int))) := fun w' hb => ⟨later_at0 hb x0r8.1, later_at0 hb x0r8.2.1, later_at0 hb x0r8.2.2.1, later_at0 hb x0r8.2.2.2.1, later_at0 hb x0r8.2.2.2.2.1, later_at0 hb x0r8.2.2.2.2.2.1, later_at0 hb x0r8.2.2.2.2.2.2.1, later_at0 hb x0r8.2.2.2.2.2.2.2.1, later_at0 hb x0r8.2.2.2.2.2.2.2.2.1, later_at0 hb x0r8.2.2.2.2.2.2.2.2.2.1, later_at0 hb x0r8.2.2.2.2.2.2.2.2.2.2.1, later_at0 hb x0r8.2.2.2.2.2.2.2.2.2.2.2.1, later_at0 hb x0r8.2.2.2.2.2.2.2.2.2.2.2.2.1, later_at0 hb x0r8.2.2.2.2.2.2.2.2.2.2.2.2.2.1, later_at0 hb x0r8.2.2.2.2.2.2.2.2.2.2.2.2.2.2.1, later_at0 hb x0r8.2.2.2.2.2.2.2.2.2.2.2.2.2.2.2⟩
    go_cut [26] (fun s0 wx => s0 = .bool false ∧ Hid (Below w7.heap.size w7 wx))
    case first =>
      have CT : Hid (∀ W', Below w7.heap.size w7 W' → Calls Try.prog 26 #[.agg #[.int .i64 kd, .slice A n c, .slice B m d, .int .u32 (td : Int), .int .i64 ph, .int .i64 pr, .int .i64 hd, .int .u32 (sn : Int)]] W' fun e w' => ∃ g k, e = .returned (.agg #[.int .i64 kd, .slice (some ⟨g, 0, none⟩) n n, .slice (some ⟨k, 0, none⟩) m m, .int .u32 (td : Int), .int .i64 ph, .int .i64 pr, .int .i64 hd, .int .u32 (sn : Int)]) ∧ Hid (RdK .i64 w' w'.heap.size (some ⟨g, 0, none⟩) n vs) ∧ Hid (RdK .i64 w' w'.heap.size (some ⟨k, 0, none⟩) m gs) ∧ Hid (Below w7.heap.size w7 w') ∧ (w'.cell? ⟨w5.heap.size, 0, none⟩ = some (.int .i64 kd) ∧ w'.cell? ⟨w5.heap.size, 1, none⟩ = some (.slice (some ⟨gY, 0, none⟩) n n) ∧ w'.cell? ⟨w5.heap.size, 2, none⟩ = some (.slice (some ⟨kY, 0, none⟩) m m) ∧ w'.cell? ⟨w5.heap.size, 3, none⟩ = some (.int .u32 (td : Int)) ∧ w'.cell? ⟨w5.heap.size, 4, none⟩ = some (.int .i64 ph) ∧ w'.cell? ⟨w5.heap.size, 5, none⟩ = some (.int .i64 pr) ∧ w'.cell? ⟨w5.heap.size, 6, none⟩ = some (.int .i64 hd) ∧ w'.cell? ⟨w5.heap.size, 7, none⟩ = some (.int .u32 (sn : Int)) ∧ w'.cell? ⟨w.heap.size, 0, none⟩ = some (.int .i64 kd) ∧ w'.cell? ⟨w.heap.size, 1, none⟩ = some (.slice A n c) ∧ w'.cell? ⟨w.heap.size, 2, none⟩ = some (.slice B m d) ∧ w'.cell? ⟨w.heap.size, 3, none⟩ = some (.int .u32 (td : Int)) ∧ w'.cell? ⟨w.heap.size, 4, none⟩ = some (.int .i64 ph) ∧ w'.cell? ⟨w.heap.size, 5, none⟩ = some (.int .i64 pr) ∧ w'.cell? ⟨w.heap.size, 6, none⟩ = some (.int .i64 hd) ∧ w'.cell? ⟨w.heap.size, 7, none⟩ = some (.int .u32 (sn : Int)))) := fun W' hb => (HT.out W' (Bw7.out.trans (hb.mono Bw7.out.size))).mono fun e w' ⟨g, k, he, ho, ho2, hb2⟩ => ⟨g, k, he, ho.rd, ho2.rd, hb.trans (hb2.mono hb.size), xSr8.out w' (hb.trans (hb2.mono hb.size))⟩
      have CE : Hid (∀ W' g k, Below w7.heap.size w7 W' → RdK .i64 W' W'.heap.size (some ⟨g, 0, none⟩) n vs → RdK .i64 W' W'.heap.size (some ⟨k, 0, none⟩) m gs → Calls Try.prog 21 #[.agg #[.int .i64 kd, .slice (some ⟨gY, 0, none⟩) n n, .slice (some ⟨kY, 0, none⟩) m m, .int .u32 (td : Int), .int .i64 ph, .int .i64 pr, .int .i64 hd, .int .u32 (sn : Int)], .agg #[.int .i64 kd, .slice (some ⟨g, 0, none⟩) n n, .slice (some ⟨k, 0, none⟩) m m, .int .u32 (td : Int), .int .i64 ph, .int .i64 pr, .int .i64 hd, .int .u32 (sn : Int)]] W' fun e w' => e = .returned (.bool true) ∧ Hid (Below w7.heap.size w7 w') ∧ (w'.cell? ⟨w5.heap.size, 0, none⟩ = some (.int .i64 kd) ∧ w'.cell? ⟨w5.heap.size, 1, none⟩ = some (.slice (some ⟨gY, 0, none⟩) n n) ∧ w'.cell? ⟨w5.heap.size, 2, none⟩ = some (.slice (some ⟨kY, 0, none⟩) m m) ∧ w'.cell? ⟨w5.heap.size, 3, none⟩ = some (.int .u32 (td : Int)) ∧ w'.cell? ⟨w5.heap.size, 4, none⟩ = some (.int .i64 ph) ∧ w'.cell? ⟨w5.heap.size, 5, none⟩ = some (.int .i64 pr) ∧ w'.cell? ⟨w5.heap.size, 6, none⟩ = some (.int .i64 hd) ∧ w'.cell? ⟨w5.heap.size, 7, none⟩ = some (.int .u32 (sn : Int)) ∧ w'.cell? ⟨w.heap.size, 0, none⟩ = some (.int .i64 kd) ∧ w'.cell? ⟨w.heap.size, 1, none⟩ = some (.slice A n c) ∧ w'.cell? ⟨w.heap.size, 2, none⟩ = some (.slice B m d) ∧ w'.cell? ⟨w.heap.size, 3, none⟩ = some (.int .u32 (td : Int)) ∧ w'.cell? ⟨w.heap.size, 4, none⟩ = some (.int .i64 ph) ∧ w'.cell? ⟨w.heap.size, 5, none⟩ = some (.int .i64 pr) ∧ w'.cell? ⟨w.heap.size, 6, none⟩ = some (.int .i64 hd) ∧ w'.cell? ⟨w.heap.size, 7, none⟩ = some (.int .u32 (sn : Int)))) := fun W' g k hb hr hr2 => (eqWarp_any kd _ _ n n n _ _ m m m td ph pr hd sn _ _ _ _ vs gs W' (O_VY_w7.out.rd.below hb) hr (O_GY_w7.out.rd.below hb) hr2 hb.size (Nat.le_refl _) hb.size (Nat.le_refl _) hm hm2).mono fun e w' ⟨he, hb2⟩ => ⟨he, hb.trans (hb2.mono hb.size), xSr8.out w' (hb.trans (hb2.mono hb.size))⟩
      go_region_held3 (fun w' => w'.cell? ⟨w5.heap.size, 0, none⟩ = some (.int .i64 kd) ∧ w'.cell? ⟨w5.heap.size, 1, none⟩ = some (.slice (some ⟨gY, 0, none⟩) n n) ∧ w'.cell? ⟨w5.heap.size, 2, none⟩ = some (.slice (some ⟨kY, 0, none⟩) m m) ∧ w'.cell? ⟨w5.heap.size, 3, none⟩ = some (.int .u32 (td : Int)) ∧ w'.cell? ⟨w5.heap.size, 4, none⟩ = some (.int .i64 ph) ∧ w'.cell? ⟨w5.heap.size, 5, none⟩ = some (.int .i64 pr) ∧ w'.cell? ⟨w5.heap.size, 6, none⟩ = some (.int .i64 hd) ∧ w'.cell? ⟨w5.heap.size, 7, none⟩ = some (.int .u32 (sn : Int)) ∧ w'.cell? ⟨w.heap.size, 0, none⟩ = some (.int .i64 kd) ∧ w'.cell? ⟨w.heap.size, 1, none⟩ = some (.slice A n c) ∧ w'.cell? ⟨w.heap.size, 2, none⟩ = some (.slice B m d) ∧ w'.cell? ⟨w.heap.size, 3, none⟩ = some (.int .u32 (td : Int)) ∧ w'.cell? ⟨w.heap.size, 4, none⟩ = some (.int .i64 ph) ∧ w'.cell? ⟨w.heap.size, 5, none⟩ = some (.int .i64 pr) ∧ w'.cell? ⟨w.heap.size, 6, none⟩ = some (.int .i64 hd) ∧ w'.cell? ⟨w.heap.size, 7, none⟩ = some (.int .u32 (sn : Int)))
        (first | exact x0r8 | exact x0dr8 | exact xt | exact xe)
        (first | (go_at_call 26; (with_reducible refine (CT.out _ D0r8.out).mono ?_); rintro e wt ⟨gq, kq, rfl, RT, RT2, BT, xt⟩)
               | (go_at_call 21; (with_reducible refine (CE.out _ _ _ BT.out RT.out RT2.out).mono ?_); rintro e we ⟨rfl, BE, xe⟩))
      all_goals (go_wp2_with fail; go_meet; exact ⟨rfl, BE⟩)
    case rest =>
      obtain ⟨rfl, hb0⟩ := hcut
      generalize wc = w9 at *
      have hb := hb0.out
      clear hb0 x0r8 x0dr8 D0r8 xSr8
      have zw9 := hb.size
      have hk : Kp (fun _ => False) w7 w9 := Kp.of_below hb
      have V_arg_w9 : Hid (w9.heap[w.heap.size]? = some (.cells #[.int .i64 kd, .slice A n c, .slice B m d, .int .u32 (td : Int), .int .i64 ph, .int .i64 pr, .int .i64 hd, .int .u32 (sn : Int)] 43 (0, 0))) := (hk.block _ (by omega) (fun h => h)).trans V_arg_w7.out
      have V_vY_w9 : Hid (w9.heap[w5.heap.size]? = some (.cells #[.int .i64 kd, .slice (some ⟨gY, 0, none⟩) n n, .slice (some ⟨kY, 0, none⟩) m m, .int .u32 (td : Int), .int .i64 ph, .int .i64 pr, .int .i64 hd, .int .u32 (sn : Int)] 38 (0, 0))) := (hk.block _ (by omega) (fun h => h)).trans V_vY_w7.out
      have O_VY_w9 : Hid (OwnK 3 .i64 w9 w4.heap.size (some ⟨gY, 0, none⟩) n n vs) := O_VY_w7.out.kp hk (fun g hg h => h)
      have O_GY_w9 : Hid (OwnK 3 .i64 w9 (gY + 1) (some ⟨kY, 0, none⟩) m m gs) := O_GY_w7.out.kp hk (fun g hg h => h)
      have Bw9 : Hid (Below w.heap.size w w9) := Bw7.out.trans (hb.mono Bw7.out.size)
      clear V_arg_w7 V_vY_w7 O_VY_w7 O_GY_w7 Bw7
      clear hb hk
      go_wp2
      go_ret
      exact ⟨rfl, Bw9.out⟩
  · have HZ := Lib.hid (fun W => szWarp_no kd A n c B m d td ph pr hd sn 1048576 W (Int.le_refl _) (by omega) hm hm2 (by omega))
    clear hv hg hfv hfg hw1 hw2 hw3 hpr hsn ht 
    go_enter Try.func8, Try.ntmps8
    go_wp2_with fail
    refine (HZ.out _).mono ?_
    rintro e w1 ⟨rfl, hb⟩
    have B1 := Lib.hid (nw1 hb).2.1
    clear hb
    go_wp2
    go_ret
    exact ⟨rfl, B1.out⟩

set_option maxRecDepth 100000 in
theorem fnExactWarpGroup_lifted (os : Os) (started : os.Started) (H : Type) (enc : TypeId × Value → H) :
    ReturnsInHanded {} Try.checked os 8 .any (Rows.fnExactWarpGroupSpec.pre6 enc Try.prog Try.f8 Rows.fnExactWarpGroupRow.domain false) (Rows.fnExactWarpGroupSpec.post enc Try.prog Try.f8 false true false false) := by
  refine returnsInHanded_of_change (C := Try.checked) own started (by kernel_rfl) Try.func8
    (ChangeSpec.witness6 (enc := enc) (C := Try.checked) false ⟨#[], #[.agg #[.int .i64 0, .slice none 0 0, .slice none 0 0, .int .u32 0, .int .i64 0, .int .i64 0, .int .i64 0, .int .u32 0]], []⟩ 8 (by kernel_rfl) (by kernel_rfl) (by kernel_rfl) (by kernel_rfl)) ?_
  intro W base args ds gs before hval0 hW hcnd _
  have hval : ∀ (j : Nat) t v, Try.f8.params[j]? = some t → args[j]? = some v → Value.okWide Try.prog W .any base t v := hval0
  have hW' := hW
  obtain ⟨p, q, hA0, hV, rfl, hfz, hnd⟩ := hW
  have hA : DataW.TrodAll enc Try.prog W 0 (fun _ => true) true Try.f8.params.toList args.toList ds p := hA0
  rw [Try.params8] at hA hval
  obtain ⟨v0, vs0, d0, ds0, p0, q0, hargs, rfl, rfl, h0, r0⟩ := trodAll_cons hA
  obtain ⟨rfl, rfl, rfl⟩ := trodAll_nil r0
  obtain rfl : args = #[v0] := by cases args; simp_all
  obtain ⟨rfl, rfl⟩ := trodVars_none hV
  have k0 := h0
  have lt0 : ∀ x ∈ p0, x.block < W.heap.size := by obtain ⟨m, hm⟩ := k0; exact DataW.trod_lt m _ _ _ hm
  obtain ⟨kd0, A0, n0, c0, vs0_, B0, m0, e0, gs0_, td0, ph0, pr0, hd0, sn0, rfl, ws0, rv0, rg0⟩ := open_warp (hval 0 43 v0 rfl rfl) h0
  clear hA0 hval0
  refine (fnExactWarpGroup_walk kd0 A0 n0 c0 vs0_ B0 m0 e0 gs0_ td0 ph0 pr0 hd0 sn0 W ws0 rv0 rg0).mono fun e W' ⟨he, bel⟩ => ?_
  subst he
  exact ⟨_, rfl, _, _, _, [], _, [], hW', trodAll_mk1 (shut_bool Try.underlying4 _), (trodAll_cons_mk (Below.trod laidOut (by kernel_rfl) (of_decide_eq_true (by kernel_rfl)) k0 bel lt0) (trodAll_mk0)), rfl, bel.frame _, fun h => by cases h⟩

/-- The given statement: for every input the law returns true, and its arguments read as before. -/
theorem fnExactWarpGroup_holds : Rows.FnExactWarpGroupSaid :=
  OpenClaim.holds_of_wide 8 Try.f8 rfl rfl rfl rfl rfl rfl rfl ⟨rfl, rfl, rfl, rfl, rfl⟩ rfl rfl rfl rfl rfl (by kernel_rfl) Try.func8 (by kernel_rfl)
    (of_decide_eq_true (by kernel_rfl)) (by unfold Func.isWrapper; first | (rw [if_pos (by decide +kernel)]; kernel_rfl) | (rw [if_neg (by decide +kernel)]; exact ⟨rfl, rfl⟩))
    (fun os started H enc _ => fnExactWarpGroup_lifted os started H enc)
#print axioms fnExactWarpGroup_holds
end Go.Proofs.Ytflccpoaacidgaa
