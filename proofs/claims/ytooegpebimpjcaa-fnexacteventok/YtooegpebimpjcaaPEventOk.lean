/- EventOk of the program answers as the model at every argument, and leaves its argument as it was. No condition. -/
import Derived.Test.YtooegpebimpjcaaIEvent
import Derived.Test.YtooegpebimpjcaaOpenM
import Derived.Test.YtooegpebimpjcaaLawW
namespace Go.Proofs.Ytooegpebimpjcaa
open Go.ChangeShapes Go.WideShapes Go.ChangeAt Go.RowKit
set_option linter.unusedVariables false

set_option maxRecDepth 100000 in
set_option maxHeartbeats 8000000 in
theorem fnExactEventOk_walk (ek ew en rk : Int) (D : Option Addr) (o f : Nat) (us : List Int) (w : World)
    (hw : (Lit.int .i64 ek).wf = true ∧ (Lit.int .i64 ew).wf = true ∧ (Lit.int .i64 en).wf = true ∧ (Lit.int .i64 rk).wf = true) (hv : o ≤ maxLen ∧ RdK .i64 w w.heap.size D o us ∧ Fits us) :
    Calls Try.prog 7 #[.agg #[.int .i64 ek, .int .i64 ew, .int .i64 en, .int .i64 rk, .slice D o f]] w fun e w' => e = .returned (.bool true) ∧ Below w.heap.size w w' := by
  obtain ⟨hm, hv, hfv⟩ := hv
  by_cases hn : (o : Int) ≤ 1048576
  · have HQ : Hid (∀ r, r = decide (EvGood ek ew en rk us) → (∀ W g, RdK .i64 W W.heap.size (some ⟨g, 0, none⟩) o us → Calls Try.prog 34 #[.agg #[.int .i64 ek, .int .i64 ew, .int .i64 en, .int .i64 rk, .slice (some ⟨g, 0, none⟩) o o]] W fun e w' => e = .returned (.bool r) ∧ Below W.heap.size W w') ∧ (∀ W g, RdK .i64 W W.heap.size (some ⟨g, 0, none⟩) o us → Calls Try.prog 36 #[.agg #[.int .i64 ek, .int .i64 ew, .int .i64 en, .int .i64 rk, .slice (some ⟨g, 0, none⟩) o o]] W fun e w' => e = .returned (.bool r) ∧ Below W.heap.size W w')) := fun r hr => ⟨fun W g h1 => hr ▸ sEventOk_any ek ew en rk _ o o _ us W h1 (Nat.le_refl _) hm, fun W g h1 => hr ▸ eventOk_any ek ew en rk _ o o _ us W h1 (Nat.le_refl _) hm⟩
    obtain ⟨r, hr⟩ : ∃ r, r = decide (EvGood ek ew en rk us) := ⟨_, rfl⟩
    have HS := Lib.hid (HQ.out r hr).1
    have HI := Lib.hid (HQ.out r hr).2
    clear HQ hr
    have hbb : (r != r) = false := by simp
    have HT : Hid (∀ W, Below w.heap.size w W → Calls Try.prog 35 #[.agg #[.int .i64 ek, .int .i64 ew, .int .i64 en, .int .i64 rk, .slice D o f]] W fun e w' => ∃ g, e = .returned (.agg #[.int .i64 ek, .int .i64 ew, .int .i64 en, .int .i64 rk, .slice (some ⟨g, 0, none⟩) o o]) ∧ OwnK 3 .i64 w' W.heap.size (some ⟨g, 0, none⟩) o o us ∧ Below W.heap.size W w') := fun W hb => toEvent_any ek ew en rk D o f w.heap.size us W (hv.below hb) hb.size (by omega)
    have HZ := Lib.hid (fun W => szEvent_yes ek ew en rk D o f 1048576 W (Int.le_refl _) hn)
    have hq : ¬ (1048576 : Int) - (o : Int) < 0 := by omega
    clear hv hfv hw
    go_enter Try.func7, Try.ntmps7
    have hk := bel1 w (.cells #[.int .i64 ek, .int .i64 ew, .int .i64 en, .int .i64 rk, .slice D o f] 66)
    have V_arg_w1 : Hid ((w.alloc (.cells #[.int .i64 ek, .int .i64 ew, .int .i64 en, .int .i64 rk, .slice D o f] 66)).heap[w.heap.size]? = some (.cells #[.int .i64 ek, .int .i64 ew, .int .i64 en, .int .i64 rk, .slice D o f] 66 (0, 0))) := heap_alloc_new _ _
    have Bw1 : Hid (Below w.heap.size w (w.alloc (.cells #[.int .i64 ek, .int .i64 ew, .int .i64 en, .int .i64 rk, .slice D o f] 66))) := hk
    have zw1 : w.heap.size + 1 ≤ (w.alloc (.cells #[.int .i64 ek, .int .i64 ew, .int .i64 en, .int .i64 rk, .slice D o f] 66)).heap.size := Nat.le_of_eq (sz1 _ _).symm
    have yw1 : (w.alloc (.cells #[.int .i64 ek, .int .i64 ew, .int .i64 en, .int .i64 rk, .slice D o f] 66)).heap.size ≤ w.heap.size + 1 := Nat.le_of_eq (sz1 _ _)
    clear hk
    go_wp2_with fail
    generalize w.alloc (.cells #[.int .i64 ek, .int .i64 ew, .int .i64 en, .int .i64 rk, .slice D o f] 66) = w1 at *
    refine (HZ.out _).mono ?_
    rintro e w2 ⟨rfl, hb⟩
    have zw2 := hb.size
    have hk : Kp (fun _ => False) w1 w2 := Kp.of_below hb
    have V_arg_w2 : Hid (w2.heap[w.heap.size]? = some (.cells #[.int .i64 ek, .int .i64 ew, .int .i64 en, .int .i64 rk, .slice D o f] 66 (0, 0))) := (hk.block _ (by omega) (fun h => h)).trans V_arg_w1.out
    have Bw2 : Hid (Below w.heap.size w w2) := Bw1.out.trans (hb.mono Bw1.out.size)
    clear V_arg_w1 Bw1
    clear hb hk
    have c_arg0 := blkc V_arg_w2.out 0 rfl
    have c_arg1 := blkc V_arg_w2.out 1 rfl
    have c_arg2 := blkc V_arg_w2.out 2 rfl
    have c_arg3 := blkc V_arg_w2.out 3 rfl
    have c_arg4 := blkc V_arg_w2.out 4 rfl
    go_wp2_with fail
    clear c_arg0 c_arg1 c_arg2 c_arg3 c_arg4
    refine (HT.out _ Bw2.out).mono ?_
    rintro e w3 ⟨qX, rfl, hv, hb⟩
    have zw3 := hb.size
    have hk : Kp (fun _ => False) w2 w3 := Kp.of_below hb
    have V_arg_w3 : Hid (w3.heap[w.heap.size]? = some (.cells #[.int .i64 ek, .int .i64 ew, .int .i64 en, .int .i64 rk, .slice D o f] 66 (0, 0))) := (hk.block _ (by omega) (fun h => h)).trans V_arg_w2.out
    have Bw3 : Hid (Below w.heap.size w w3) := Bw2.out.trans (hb.mono Bw2.out.size)
    clear V_arg_w2 Bw2
    have O_QX_w3 : Hid (OwnK 3 .i64 w3 w2.heap.size (some ⟨qX, 0, none⟩) o o us) := hv
    have R_QX : Hid (∀ g, (Value.slice (some ⟨qX, 0, none⟩) o o).ownBlock = some g → w2.heap.size ≤ g ∧ g < w3.heap.size) := World.ownsRow.lt hv
    clear hb hk hv
    have eX := R_QX.out qX rfl
    go_wp2_with fail
    refine (HS.out _ qX O_QX_w3.out.rd).mono ?_
    rintro e w4 ⟨rfl, hb⟩
    have zw4 := hb.size
    have hk : Kp (fun _ => False) w3 w4 := Kp.of_below hb
    have V_arg_w4 : Hid (w4.heap[w.heap.size]? = some (.cells #[.int .i64 ek, .int .i64 ew, .int .i64 en, .int .i64 rk, .slice D o f] 66 (0, 0))) := (hk.block _ (by omega) (fun h => h)).trans V_arg_w3.out
    have O_QX_w4 : Hid (OwnK 3 .i64 w4 w2.heap.size (some ⟨qX, 0, none⟩) o o us) := O_QX_w3.out.kp hk (fun g hg h => h)
    have Bw4 : Hid (Below w.heap.size w w4) := Bw3.out.trans (hb.mono Bw3.out.size)
    clear V_arg_w3 O_QX_w3 Bw3
    clear hb hk
    clear O_QX_w4
    have c_arg0 := blkc V_arg_w4.out 0 rfl
    have c_arg1 := blkc V_arg_w4.out 1 rfl
    have c_arg2 := blkc V_arg_w4.out 2 rfl
    have c_arg3 := blkc V_arg_w4.out 3 rfl
    have c_arg4 := blkc V_arg_w4.out 4 rfl
    go_wp2_with fail
    clear c_arg0 c_arg1 c_arg2 c_arg3 c_arg4
    refine (HT.out _ Bw4.out).mono ?_
    rintro e w5 ⟨qY, rfl, hv, hb⟩
    have zw5 := hb.size
    have hk : Kp (fun _ => False) w4 w5 := Kp.of_below hb
    have V_arg_w5 : Hid (w5.heap[w.heap.size]? = some (.cells #[.int .i64 ek, .int .i64 ew, .int .i64 en, .int .i64 rk, .slice D o f] 66 (0, 0))) := (hk.block _ (by omega) (fun h => h)).trans V_arg_w4.out
    have Bw5 : Hid (Below w.heap.size w w5) := Bw4.out.trans (hb.mono Bw4.out.size)
    clear V_arg_w4 Bw4
    have O_QY_w5 : Hid (OwnK 3 .i64 w5 w4.heap.size (some ⟨qY, 0, none⟩) o o us) := hv
    have R_QY : Hid (∀ g, (Value.slice (some ⟨qY, 0, none⟩) o o).ownBlock = some g → w4.heap.size ≤ g ∧ g < w5.heap.size) := World.ownsRow.lt hv
    clear hb hk hv
    have eY := R_QY.out qY rfl
    have hk := bel1 w5 (.cells #[.int .i64 ek, .int .i64 ew, .int .i64 en, .int .i64 rk, .slice (some ⟨qY, 0, none⟩) o o] 70)
    have V_arg_w6 : Hid ((w5.alloc (.cells #[.int .i64 ek, .int .i64 ew, .int .i64 en, .int .i64 rk, .slice (some ⟨qY, 0, none⟩) o o] 70)).heap[w.heap.size]? = some (.cells #[.int .i64 ek, .int .i64 ew, .int .i64 en, .int .i64 rk, .slice D o f] 66 (0, 0))) := (hk.block _ (by omega)).trans V_arg_w5.out
    have O_QY_w6 : Hid (OwnK 3 .i64 (w5.alloc (.cells #[.int .i64 ek, .int .i64 ew, .int .i64 en, .int .i64 rk, .slice (some ⟨qY, 0, none⟩) o o] 70)) w4.heap.size (some ⟨qY, 0, none⟩) o o us) := O_QY_w5.out.below hk
    have V_vY_w6 : Hid ((w5.alloc (.cells #[.int .i64 ek, .int .i64 ew, .int .i64 en, .int .i64 rk, .slice (some ⟨qY, 0, none⟩) o o] 70)).heap[w5.heap.size]? = some (.cells #[.int .i64 ek, .int .i64 ew, .int .i64 en, .int .i64 rk, .slice (some ⟨qY, 0, none⟩) o o] 70 (0, 0))) := heap_alloc_new _ _
    have Bw6 : Hid (Below w.heap.size w (w5.alloc (.cells #[.int .i64 ek, .int .i64 ew, .int .i64 en, .int .i64 rk, .slice (some ⟨qY, 0, none⟩) o o] 70))) := Bw5.out.alloc Bw5.out.size _
    have zw6 : w5.heap.size + 1 ≤ (w5.alloc (.cells #[.int .i64 ek, .int .i64 ew, .int .i64 en, .int .i64 rk, .slice (some ⟨qY, 0, none⟩) o o] 70)).heap.size := Nat.le_of_eq (sz1 _ _).symm
    have yw6 : (w5.alloc (.cells #[.int .i64 ek, .int .i64 ew, .int .i64 en, .int .i64 rk, .slice (some ⟨qY, 0, none⟩) o o] 70)).heap.size ≤ w5.heap.size + 1 := Nat.le_of_eq (sz1 _ _)
    clear V_arg_w5 O_QY_w5 Bw5 hk
    go_wp2_with fail
    generalize w5.alloc (.cells #[.int .i64 ek, .int .i64 ew, .int .i64 en, .int .i64 rk, .slice (some ⟨qY, 0, none⟩) o o] 70) = w6 at *
    refine (HI.out _ qY O_QY_w6.out.rd).mono ?_
    rintro e w7 ⟨rfl, hb⟩
    have zw7 := hb.size
    have hk : Kp (fun _ => False) w6 w7 := Kp.of_below hb
    have V_arg_w7 : Hid (w7.heap[w.heap.size]? = some (.cells #[.int .i64 ek, .int .i64 ew, .int .i64 en, .int .i64 rk, .slice D o f] 66 (0, 0))) := (hk.block _ (by omega) (fun h => h)).trans V_arg_w6.out
    have V_vY_w7 : Hid (w7.heap[w5.heap.size]? = some (.cells #[.int .i64 ek, .int .i64 ew, .int .i64 en, .int .i64 rk, .slice (some ⟨qY, 0, none⟩) o o] 70 (0, 0))) := (hk.block _ (by omega) (fun h => h)).trans V_vY_w6.out
    have O_QY_w7 : Hid (OwnK 3 .i64 w7 w4.heap.size (some ⟨qY, 0, none⟩) o o us) := O_QY_w6.out.kp hk (fun g hg h => h)
    have Bw7 : Hid (Below w.heap.size w w7) := Bw6.out.trans (hb.mono Bw6.out.size)
    clear V_arg_w6 V_vY_w6 O_QY_w6 Bw6
    clear hb hk
    go_wp2_with fail
    have x0r8 : w7.cell? ⟨w5.heap.size, 0, none⟩ = some (.int .i64 ek) ∧ w7.cell? ⟨w5.heap.size, 1, none⟩ = some (.int .i64 ew) ∧ w7.cell? ⟨w5.heap.size, 2, none⟩ = some (.int .i64 en) ∧ w7.cell? ⟨w5.heap.size, 3, none⟩ = some (.int .i64 rk) ∧ w7.cell? ⟨w5.heap.size, 4, none⟩ = some (.slice (some ⟨qY, 0, none⟩) o o) ∧ w7.cell? ⟨w.heap.size, 0, none⟩ = some (.int .i64 ek) ∧ w7.cell? ⟨w.heap.size, 1, none⟩ = some (.int .i64 ew) ∧ w7.cell? ⟨w.heap.size, 2, none⟩ = some (.int .i64 en) ∧ w7.cell? ⟨w.heap.size, 3, none⟩ = some (.int .i64 rk) ∧ w7.cell? ⟨w.heap.size, 4, none⟩ = some (.slice D o f) := ⟨blkc V_vY_w7.out 0 rfl, blkc V_vY_w7.out 1 rfl, blkc V_vY_w7.out 2 rfl, blkc V_vY_w7.out 3 rfl, blkc V_vY_w7.out 4 rfl, blkc V_arg_w7.out 0 rfl, blkc V_arg_w7.out 1 rfl, blkc V_arg_w7.out 2 rfl, blkc V_arg_w7.out 3 rfl, blkc V_arg_w7.out 4 rfl⟩
    have x0dr8 : w7.drew.cell? ⟨w5.heap.size, 0, none⟩ = some (.int .i64 ek) ∧ w7.drew.cell? ⟨w5.heap.size, 1, none⟩ = some (.int .i64 ew) ∧ w7.drew.cell? ⟨w5.heap.size, 2, none⟩ = some (.int .i64 en) ∧ w7.drew.cell? ⟨w5.heap.size, 3, none⟩ = some (.int .i64 rk) ∧ w7.drew.cell? ⟨w5.heap.size, 4, none⟩ = some (.slice (some ⟨qY, 0, none⟩) o o) ∧ w7.drew.cell? ⟨w.heap.size, 0, none⟩ = some (.int .i64 ek) ∧ w7.drew.cell? ⟨w.heap.size, 1, none⟩ = some (.int .i64 ew) ∧ w7.drew.cell? ⟨w.heap.size, 2, none⟩ = some (.int .i64 en) ∧ w7.drew.cell? ⟨w.heap.size, 3, none⟩ = some (.int .i64 rk) ∧ w7.drew.cell? ⟨w.heap.size, 4, none⟩ = some (.slice D o f) := x0r8
    have D0r8 : Hid (Below w7.heap.size w7 w7.drew) := (Below.refl _ _).drew
    have xSr8 : Hid (∀ w', Below w7.heap.size w7 w' → w'.cell? ⟨w5.heap.size, 0, none⟩ = some (.int .i64 ek) ∧ w'.cell? ⟨w5.heap.size, 1, none⟩ = some (.int .i64 ew) ∧ w'.cell? ⟨w5.heap.size, 2, none⟩ = some (.int .i64 en) ∧ w'.cell? ⟨w5.heap.size, 3, none⟩ = some (.int .i64 rk) ∧ w'.cell? ⟨w5.heap.size, 4, none⟩ = some (.slice (some ⟨qY, 0, none⟩) o o) ∧ w'.cell? ⟨w.heap.size, 0, none⟩ = some (.int .i64 ek) ∧ w'.cell? ⟨w.heap.size, 1, none⟩ = some (.int .i64 ew) ∧ w'.cell? ⟨w.heap.size, 2, none⟩ = some (.int .i64 en) ∧ w'.cell? ⟨w.heap.size, 3, none⟩ = some (.int .i64 rk) ∧ w'.cell? ⟨w.heap.size, 4, none⟩ = some (.slice D o f)) := fun w' hb => ⟨later_at0 hb x0r8.1, later_at0 hb x0r8.2.1, later_at0 hb x0r8.2.2.1, later_at0 hb x0r8.2.2.2.1, later_at0 hb x0r8.2.2.2.2.1, later_at0 hb x0r8.2.2.2.2.2.1, later_at0 hb x0r8.2.2.2.2.2.2.1, later_at0 hb x0r8.2.2.2.2.2.2.2.1, later_at0 hb x0r8.2.2.2.2.2.2.2.2.1, later_at0 hb x0r8.2.2.2.2.2.2.2.2.2⟩
    go_cut [26] (fun s0 wx => s0 = .bool false ∧ Hid (Below w7.heap.size w7 wx))
    case first =>
      have CT : Hid (∀ W', Below w7.heap.size w7 W' → Calls Try.prog 35 #[.agg #[.int .i64 ek, .int .i64 ew, .int .i64 en, .int .i64 rk, .slice D o f]] W' fun e w' => ∃ g, e = .returned (.agg #[.int .i64 ek, .int .i64 ew, .int .i64 en, .int .i64 rk, .slice (some ⟨g, 0, none⟩) o o]) ∧ Hid (RdK .i64 w' w'.heap.size (some ⟨g, 0, none⟩) o us) ∧ Hid (Below w7.heap.size w7 w') ∧ (w'.cell? ⟨w5.heap.size, 0, none⟩ = some (.int .i64 ek) ∧ w'.cell? ⟨w5.heap.size, 1, none⟩ = some (.int .i64 ew) ∧ w'.cell? ⟨w5.heap.size, 2, none⟩ = some (.int .i64 en) ∧ w'.cell? ⟨w5.heap.size, 3, none⟩ = some (.int .i64 rk) ∧ w'.cell? ⟨w5.heap.size, 4, none⟩ = some (.slice (some ⟨qY, 0, none⟩) o o) ∧ w'.cell? ⟨w.heap.size, 0, none⟩ = some (.int .i64 ek) ∧ w'.cell? ⟨w.heap.size, 1, none⟩ = some (.int .i64 ew) ∧ w'.cell? ⟨w.heap.size, 2, none⟩ = some (.int .i64 en) ∧ w'.cell? ⟨w.heap.size, 3, none⟩ = some (.int .i64 rk) ∧ w'.cell? ⟨w.heap.size, 4, none⟩ = some (.slice D o f))) := fun W' hb => (HT.out W' (Bw7.out.trans (hb.mono Bw7.out.size))).mono fun e w' ⟨g, he, ho, hb2⟩ => ⟨g, he, ho.rd, hb.trans (hb2.mono hb.size), xSr8.out w' (hb.trans (hb2.mono hb.size))⟩
      have CE : Hid (∀ W' g, Below w7.heap.size w7 W' → RdK .i64 W' W'.heap.size (some ⟨g, 0, none⟩) o us → Calls Try.prog 37 #[.agg #[.int .i64 ek, .int .i64 ew, .int .i64 en, .int .i64 rk, .slice (some ⟨qY, 0, none⟩) o o], .agg #[.int .i64 ek, .int .i64 ew, .int .i64 en, .int .i64 rk, .slice (some ⟨g, 0, none⟩) o o]] W' fun e w' => e = .returned (.bool true) ∧ Hid (Below w7.heap.size w7 w') ∧ (w'.cell? ⟨w5.heap.size, 0, none⟩ = some (.int .i64 ek) ∧ w'.cell? ⟨w5.heap.size, 1, none⟩ = some (.int .i64 ew) ∧ w'.cell? ⟨w5.heap.size, 2, none⟩ = some (.int .i64 en) ∧ w'.cell? ⟨w5.heap.size, 3, none⟩ = some (.int .i64 rk) ∧ w'.cell? ⟨w5.heap.size, 4, none⟩ = some (.slice (some ⟨qY, 0, none⟩) o o) ∧ w'.cell? ⟨w.heap.size, 0, none⟩ = some (.int .i64 ek) ∧ w'.cell? ⟨w.heap.size, 1, none⟩ = some (.int .i64 ew) ∧ w'.cell? ⟨w.heap.size, 2, none⟩ = some (.int .i64 en) ∧ w'.cell? ⟨w.heap.size, 3, none⟩ = some (.int .i64 rk) ∧ w'.cell? ⟨w.heap.size, 4, none⟩ = some (.slice D o f))) := fun W' g hb hr => (eqEvent_any ek ew en rk _ _ o o o _ _ us W' (O_QY_w7.out.rd.below hb) hr hb.size (Nat.le_refl _) hm).mono fun e w' ⟨he, hb2⟩ => ⟨he, hb.trans (hb2.mono hb.size), xSr8.out w' (hb.trans (hb2.mono hb.size))⟩
      go_region_held3 (fun w' => w'.cell? ⟨w5.heap.size, 0, none⟩ = some (.int .i64 ek) ∧ w'.cell? ⟨w5.heap.size, 1, none⟩ = some (.int .i64 ew) ∧ w'.cell? ⟨w5.heap.size, 2, none⟩ = some (.int .i64 en) ∧ w'.cell? ⟨w5.heap.size, 3, none⟩ = some (.int .i64 rk) ∧ w'.cell? ⟨w5.heap.size, 4, none⟩ = some (.slice (some ⟨qY, 0, none⟩) o o) ∧ w'.cell? ⟨w.heap.size, 0, none⟩ = some (.int .i64 ek) ∧ w'.cell? ⟨w.heap.size, 1, none⟩ = some (.int .i64 ew) ∧ w'.cell? ⟨w.heap.size, 2, none⟩ = some (.int .i64 en) ∧ w'.cell? ⟨w.heap.size, 3, none⟩ = some (.int .i64 rk) ∧ w'.cell? ⟨w.heap.size, 4, none⟩ = some (.slice D o f))
        (first | exact x0r8 | exact x0dr8 | exact xt | exact xe)
        (first | (go_at_call 35; (with_reducible refine (CT.out _ D0r8.out).mono ?_); rintro e wt ⟨gq, rfl, RT, BT, xt⟩)
               | (go_at_call 37; (with_reducible refine (CE.out _ _ BT.out RT.out).mono ?_); rintro e we ⟨rfl, BE, xe⟩))
      all_goals (go_wp2_with fail; go_meet; exact ⟨rfl, BE⟩)
    case rest =>
      obtain ⟨rfl, hb0⟩ := hcut
      generalize wc = w9 at *
      have hb := hb0.out
      clear hb0 x0r8 x0dr8 D0r8 xSr8
      have zw9 := hb.size
      have hk : Kp (fun _ => False) w7 w9 := Kp.of_below hb
      have V_arg_w9 : Hid (w9.heap[w.heap.size]? = some (.cells #[.int .i64 ek, .int .i64 ew, .int .i64 en, .int .i64 rk, .slice D o f] 66 (0, 0))) := (hk.block _ (by omega) (fun h => h)).trans V_arg_w7.out
      have V_vY_w9 : Hid (w9.heap[w5.heap.size]? = some (.cells #[.int .i64 ek, .int .i64 ew, .int .i64 en, .int .i64 rk, .slice (some ⟨qY, 0, none⟩) o o] 70 (0, 0))) := (hk.block _ (by omega) (fun h => h)).trans V_vY_w7.out
      have O_QY_w9 : Hid (OwnK 3 .i64 w9 w4.heap.size (some ⟨qY, 0, none⟩) o o us) := O_QY_w7.out.kp hk (fun g hg h => h)
      have Bw9 : Hid (Below w.heap.size w w9) := Bw7.out.trans (hb.mono Bw7.out.size)
      clear V_arg_w7 V_vY_w7 O_QY_w7 Bw7
      clear hb hk
      go_wp2
      go_ret
      exact ⟨rfl, Bw9.out⟩
  · have HZ := Lib.hid (fun W => szEvent_no ek ew en rk D o f 1048576 W (Int.le_refl _) (by omega) hm (by omega))
    clear hv hfv hw
    go_enter Try.func7, Try.ntmps7
    go_wp2_with fail
    refine (HZ.out _).mono ?_
    rintro e w1 ⟨rfl, hb⟩
    have B1 := Lib.hid (nw1 hb).2.1
    clear hb
    go_wp2
    go_ret
    exact ⟨rfl, B1.out⟩

set_option maxRecDepth 100000 in
theorem fnExactEventOk_lifted (os : Os) (started : os.Started) (H : Type) (enc : TypeId × Value → H) :
    ReturnsInHanded {} Try.checked os 7 .any (Rows.fnExactEventOkSpec.pre6 enc Try.prog Try.f7 Rows.fnExactEventOkRow.domain false) (Rows.fnExactEventOkSpec.post enc Try.prog Try.f7 false true false false) := by
  refine returnsInHanded_of_change (C := Try.checked) own started (by kernel_rfl) Try.func7
    (ChangeSpec.witness6 (enc := enc) (C := Try.checked) false ⟨#[], #[.agg #[.int .i64 0, .int .i64 0, .int .i64 0, .int .i64 0, .slice none 0 0]], []⟩ 8 (by kernel_rfl) (by kernel_rfl) (by kernel_rfl) (by kernel_rfl)) ?_
  intro W base args ds gs before hval0 hW hcnd _
  have hval : ∀ (j : Nat) t v, Try.f7.params[j]? = some t → args[j]? = some v → Value.okWide Try.prog W .any base t v := hval0
  have hW' := hW
  obtain ⟨p, q, hA0, hV, rfl, hfz, hnd⟩ := hW
  have hA : DataW.TrodAll enc Try.prog W 0 (fun _ => true) true Try.f7.params.toList args.toList ds p := hA0
  rw [Try.params7] at hA hval
  obtain ⟨v0, vs0, d0, ds0, p0, q0, hargs, rfl, rfl, h0, r0⟩ := trodAll_cons hA
  obtain ⟨rfl, rfl, rfl⟩ := trodAll_nil r0
  obtain rfl : args = #[v0] := by cases args; simp_all
  obtain ⟨rfl, rfl⟩ := trodVars_none hV
  have k0 := h0
  have lt0 : ∀ x ∈ p0, x.block < W.heap.size := by obtain ⟨m, hm⟩ := k0; exact DataW.trod_lt m _ _ _ hm
  obtain ⟨ek0, ew0, en0, rk0, A0, n0, c0, z0, rfl, we0, rv0⟩ := open_event (hval 0 66 v0 rfl rfl) h0
  clear hA0 hval0
  refine (fnExactEventOk_walk ek0 ew0 en0 rk0 A0 n0 c0 z0 W we0 rv0).mono fun e W' ⟨he, bel⟩ => ?_
  subst he
  exact ⟨_, rfl, _, _, _, [], _, [], hW', trodAll_mk1 (shut_bool Try.underlying4 _), (trodAll_cons_mk (Below.trod laidOut (by kernel_rfl) (of_decide_eq_true (by kernel_rfl)) k0 bel lt0) (trodAll_mk0)), rfl, bel.frame _, fun h => by cases h⟩

/-- The given statement: for every input the law returns true, and its arguments read as before. -/
theorem fnExactEventOk_holds : Rows.FnExactEventOkSaid :=
  OpenClaim.holds_of_wide 7 Try.f7 rfl rfl rfl rfl rfl rfl rfl ⟨rfl, rfl, rfl, rfl, rfl⟩ rfl rfl rfl rfl rfl (by kernel_rfl) Try.func7 (by kernel_rfl)
    (of_decide_eq_true (by kernel_rfl)) (by unfold Func.isWrapper; first | (rw [if_pos (by decide +kernel)]; kernel_rfl) | (rw [if_neg (by decide +kernel)]; exact ⟨rfl, rfl⟩))
    (fun os started H enc _ => fnExactEventOk_lifted os started H enc)
#print axioms fnExactEventOk_holds
end Go.Proofs.Ytooegpebimpjcaa
