/- FnSpread: spreading gathered values restores them; other lanes keep their values. Proved for every code. No condition. -/
import Derived.Test.YtgaphgffchifcaaDrawSpr
import Derived.Test.YtgaphgffchifcaaSameR
import Derived.Test.YtgaphgffchifcaaSRow
import Derived.Test.YtgaphgffchifcaaISpread
import Derived.Test.YtgaphgffchifcaaSSpread
import Derived.Test.YtgaphgffchifcaaOpenY
namespace Go.Proofs.Ytgaphgffchifcaa
open Go.ChangeShapes Go.WideShapes Go.ChangeAt Go.RowKit
set_option linter.unusedVariables false

/-- The value of a lane in a row (0 outside). -/
def lane0 (zs : List Int) (k : Nat) : Int := zs[k]?.getD 0
theorem sprStep_at (X : Nat) (us zs : List Int) (k i : Nat) (hi : i < zs.length) : lane0 (sprStep X us zs k) i = if i = k ∧ rankV X (i : Int) < (us.length : Int) then us[(rankV X (i : Int)).toNat]?.getD 0 else lane0 zs i := by
  unfold sprStep lane0
  by_cases e : i = k
  · subst e
    by_cases hr : rankV X (i : Int) < (us.length : Int)
    · rw [if_pos hr, if_pos ⟨rfl, hr⟩, List.getElem?_set_self hi, Option.getD_some]
    · rw [if_neg hr, if_neg (fun h => hr h.2)]
  · rw [if_neg (c := i = k ∧ rankV X (i : Int) < (us.length : Int)) (fun h => e h.1)]
    by_cases hr : rankV X (k : Int) < (us.length : Int)
    · rw [if_pos hr, List.getElem?_set_ne (fun h => e h.symm)]
    · rw [if_neg hr]
theorem spr_at (X : Nat) (us : List Int) : ∀ (l : List Nat) (zs : List Int) (i : Nat), i < zs.length → lane0 (spr X us zs l) i = if i ∈ l ∧ rankV X (i : Int) < (us.length : Int) then us[(rankV X (i : Int)).toNat]?.getD 0 else lane0 zs i := by
  intro l
  induction l with
  | nil => intro zs i _; simp [spr]
  | cons k l ih =>
    intro zs i hi
    show lane0 (spr X us (sprStep X us zs k) l) i = _
    rw [ih _ i (by rw [sprStep_len]; exact hi), sprStep_at X us zs k i hi]
    by_cases h1 : i ∈ l ∧ rankV X (i : Int) < (us.length : Int)
    · rw [if_pos h1, if_pos ⟨by simp [h1.1], h1.2⟩]
    · rw [if_neg h1]
      by_cases h2 : i = k ∧ rankV X (i : Int) < (us.length : Int)
      · rw [if_pos h2, if_pos ⟨by simp [h2.1], h2.2⟩]
      · rw [if_neg h2, if_neg]
        rintro ⟨h3, h4⟩
        rcases List.mem_cons.1 h3 with h5 | h5
        · exact h2 ⟨h5, h4⟩
        · exact h1 ⟨h5, h4⟩
/-- Spreading what was gathered restores it in the lanes of the mask. -/
theorem spread_hit {X i : Nat} {zs os : List Int} (hX : X < 256) (ho : os.length = 8) (hb : X.testBit i = true) : lane0 (spr X (gath zs (onesTo X 32)) os (onesTo X 32)) i = lane0 zs i := by
  have hi8 := bit_lt_8 hX hb
  have hm : i ∈ onesTo X 32 := mem_ones.2 ⟨by omega, hb⟩
  obtain ⟨j, hj, e⟩ := List.getElem_of_mem hm
  have hr : rankV X (i : Int) = (j : Int) := by
    have := rankV_at hX hj
    rw [List.getElem?_eq_getElem hj, Option.getD_some, e] at this
    exact this
  rw [spr_at X _ _ _ i (by omega), if_pos ⟨hm, by rw [hr, gath_len]; omega⟩, hr, Int.toNat_natCast]
  unfold gath lane0
  rw [List.getElem?_map, List.getElem?_eq_getElem hj, Option.map_some, Option.getD_some, e]
theorem spread_miss {X i : Nat} {us os : List Int} (ho : os.length = 8) (hi : i < 8) (hb : X.testBit i = false) : lane0 (spr X us os (onesTo X 32)) i = lane0 os i := by
  rw [spr_at X _ _ _ i (by omega), if_neg]
  rintro ⟨h1, _⟩
  rw [(mem_ones.1 h1).2] at hb
  cases hb
theorem gather_back {X : Nat} {zs os : List Int} (hX : X < 256) (ho : os.length = 8) : gath (spr X (gath zs (onesTo X 32)) os (onesTo X 32)) (onesTo X 32) = gath zs (onesTo X 32) :=
  List.map_congr_left fun k hk => spread_hit hX ho (mem_ones.1 hk).2

set_option maxRecDepth 100000 in
set_option maxHeartbeats 8000000 in
theorem fnSpread_walk (A : Option Addr) (n c : Nat) (bs : List Int) (w0 : World) (h : RdK .u8 w0 w0.heap.size A n bs) (hm0 : n ≤ maxLen) (hf : ∀ z ∈ bs, 0 ≤ z ∧ z < 256) :
    Calls Try.prog 5 #[.slice A n c] w0 fun e w' => e = .returned (.bool true) ∧ Below w0.heap.size w0 w' := by
  have H := Lib.hid h
  have HF := Lib.hid hf
  clear h hf
  by_cases hn' : n ≤ 1048576
  · have hn : ¬ (1048576 : Int) < (n : Int) := by omega
    go_enter Try.func5, Try.ntmps5
    go_wp2_with fail
    refine (big_any A n c w0).mono ?_
    rintro e w1 ⟨rfl, rfl⟩
    go_wp2_with fail
    refine (drawGather A n c bs w0 H.out HF.out hn').mono ?_
    rintro e w1 ⟨A1, m1, c1, zs, X, rfl, hm1, _, hX, r1, hb1⟩
    have R1 := Lib.hid r1
    have HB1 := Lib.hid hb1
    have HX := Lib.hid hX
    have z1 := hb1.size
    clear r1 hb1 hX
    go_wp2_with fail
    refine (rest_any A n c _ bs w1 (H.out.below HB1.out) HF.out hn').mono ?_
    rintro e w2 ⟨Ar, cr, ys, rfl, hr, hy, rfl⟩
    have HRr := Lib.hid hr
    have HY := Lib.hid hy
    clear hr hy H HF
    have hnn : n - n / 2 ≤ 1048576 := by omega
    generalize n - n / 2 = nr at *
    go_wp2_with fail
    refine (drawSpread Ar nr cr ys w1 (rdk_more HRr.out z1) HY.out hnn).mono ?_
    rintro e w2 ⟨A2, m2, c2, os, y2, z2, rfl, hm2, _, r2, hb2⟩
    have R2 := Lib.hid r2
    have R1b := Lib.hid (R1.out.below hb2)
    have zz2 := hb2.size
    have HB2 : Hid (Below w0.heap.size w0 w2) := HB1.out.trans (hb2.mono z1)
    clear r2 hb2 R1 HB1 HRr HY
    have HGI := Lib.hid (gather_any A1 m1 c1 _ X zs w2 R1b.out.rd (Nat.le_refl _) HX.out)
    have hgl := gatherV_len m1 X zs
    go_wp2_with fail
    refine HGI.out.mono ?_
    rintro e w3 ⟨A3, c3, rfl, ho3, hb3⟩
    have O3 := Lib.hid ho3
    have R1c := Lib.hid (R1b.out.below hb3)
    have R2c := Lib.hid (R2.out.below hb3)
    have zz3 := hb3.size
    have HB3 : Hid (Below w0.heap.size w0 w3) := HB2.out.trans (hb3.mono (by omega))
    clear ho3 hb3 R1b R2 HB2 HGI
    have HSG : Hid (∀ W, Below w3.heap.size w3 W → Calls Try.prog 34 #[.slice A1 m1 c1, .int .u32 (X : Int)] W fun e w' => ∃ A' c', e = .returned (.slice A' (gatherV m1 X zs).length c') ∧ OwnK 3 .i64 w' W.heap.size A' (gatherV m1 X zs).length c' (gatherV m1 X zs) ∧ Below W.heap.size W w') := fun W hW => sGather_any A1 m1 c1 _ X zs W (R1c.out.below hW).rd (Nat.le_refl _) HX.out
    generalize hgv : gatherV m1 X zs = gv at *
    generalize hgk : gv.length = gk at *
    go_wp2_with fail
    refine (HSG.out w3 (Below.refl _ _)).mono ?_
    rintro e w4 ⟨A4, c4, rfl, ho4, hb4⟩
    have O3d := Lib.hid (O3.out.below hb4)
    have zz4 := hb4.size
    have HB34 := Lib.hid hb4
    have HE := Lib.hid (same_any A3 A4 gk gk c3 c4 _ _ gv gv w4 O3d.out.rd ho4.rd (by unfold maxLen; omega) (by unfold maxLen; omega))
    rw [decide_eq_true rfl] at HE
    clear ho4 hb4
    go_wp2_with fail
    refine HE.out.mono ?_
    rintro e w5 ⟨rfl, k5, rfl⟩
    have HB35 : Hid (Below w3.heap.size w3 (w4.drewN k5)) := ⟨HB34.out.os, HB34.out.tape, HB34.out.output, HB34.out.size, HB34.out.block⟩
    have zz5 : w3.heap.size ≤ (w4.drewN k5).heap.size := zz4
    clear HE HB34 O3d
    generalize w4.drewN k5 = w5 at *
    have HGV := Lib.hid hgv
    have HGK := Lib.hid hgk
    clear hgv hgk
    by_cases hm18 : m1 = 8
    · subst hm18
      by_cases hm28 : m2 = 8
      · subst hm28
        by_cases hx : X < 256
        · skip
          have h8 : highOf (onesTo X 32) < 8 := (high_mask HX.out).2 hx
          have h8' : ¬ 8 ≤ highOf (onesTo X 32) := by omega
          have HX8 := Lib.hid hx
          have HHi := Lib.hid (fun W => sHighest_any X W HX.out)
          have hos : os.length = 8 := R2c.out.1
          have hgv2 := HGV.out
          rw [show gatherV 8 X zs = gath zs (onesTo X 32) from if_pos ⟨rfl, hx⟩] at hgv2
          have HSP : Hid (∀ W, Below w3.heap.size w3 W → Calls Try.prog 36 #[.slice A2 8 c2, .int .u32 (X : Int), .slice A3 gk c3] W fun e w' => ∃ A' c', e = .returned (.slice A' 8 c') ∧ OwnK 70 .i64 w' W.heap.size A' 8 c' (spr X gv os (onesTo X 32)) ∧ Below W.heap.size W w') := fun W hW => by
            have h1 := spread_any A2 A3 8 c2 X gk c3 os gv W (R2c.out.below hW).rd (O3.out.below hW).rd HX.out
            have e : spreadV 8 X os gv = spr X gv os (onesTo X 32) := if_pos ⟨rfl, hx⟩
            have e8 : (spr X gv os (onesTo X 32)).length = 8 := by rw [spr_len]; exact hos
            rw [e, e8] at h1
            exact h1
          have HRK : Hid (∀ (k : Int) W, Calls Try.prog 18 #[.int .u32 (X : Int), .int .i64 k] W fun e w' => e = .returned (.int .i64 (rankV X k)) ∧ Below W.heap.size W w') := fun k W => rankOf_any X k W HX.out
          have HH : Hid (∀ k, X.testBit k = true → lane0 (spr X gv os (onesTo X 32)) k = lane0 zs k) := fun k hb => by rw [← hgv2]; exact spread_hit hx hos hb
          have HMs : Hid (∀ k, k < 8 → X.testBit k = false → lane0 (spr X gv os (onesTo X 32)) k = lane0 os k) := fun k hk hb => spread_miss hos hk hb
          have HBK : Hid (gatherV 8 X (spr X gv os (onesTo X 32)) = gv) := by
            show _ = _
            rw [show gatherV 8 X (spr X gv os (onesTo X 32)) = gath (spr X gv os (onesTo X 32)) (onesTo X 32) from if_pos ⟨rfl, hx⟩]
            rw [← hgv2]
            exact gather_back hx hos
          clear hx hgv2 HSG HGV hos
          generalize spr X gv os (onesTo X 32) = ov at *
          go_wp2_with fail
          refine (HHi.out _).mono ?_
          rintro e w6 ⟨rfl, hb6⟩
          have HB36 : Hid (Below w3.heap.size w3 w6) := HB35.out.trans (hb6.mono zz5)
          have zz6 : w3.heap.size ≤ w6.heap.size := HB36.out.size
          clear hb6 HB35 HHi
          generalize highOf (onesTo X 32) = y8 at *
          go_wp2_with fail
          refine (HSP.out _ HB36.out).mono ?_
          rintro e w7 ⟨A7, co7, rfl, ho7, hb7⟩
          have HB37 : Hid (Below w3.heap.size w3 w7) := HB36.out.trans (hb7.mono zz6)
          have zz7 : w3.heap.size ≤ w7.heap.size := HB37.out.size
          obtain ⟨go, rfl, _, hgo⟩ := ho7.form (by omega)
          have O7 := Lib.hid ho7
          have HCo : Hid (∀ k, k < 8 → w7.cell? ⟨go, k, none⟩ = some (.int .i64 (lane0 ov k))) := fun k hk => ho7.cell rfl hk
          obtain ⟨gv1, ov1, rfl, _, hgv1, hcv⟩ := (R1c.out.below HB37.out).2 (by omega)
          obtain ⟨gw1, ow1, rfl, _, hgw1, hcw⟩ := (R2c.out.below HB37.out).2 (by omega)
          have hgv7 := hgv1
          have hgw7 := hgw1
          have HCv : Hid (∀ k, k < 8 → w7.cell? ⟨gv1, ov1 + k, none⟩ = some (.int .i64 (lane0 zs k))) := hcv
          have HCw : Hid (∀ k, k < 8 → w7.cell? ⟨gw1, ow1 + k, none⟩ = some (.int .i64 (lane0 os k))) := hcw
          clear ho7 hb7 HB36 hcv hcw HSP hgv1 hgw1
          go_wp2
          go_loopw [10] (fun i wr => ∃ k : Nat, k ≤ 8 ∧ i = .int .i64 k ∧ Hid (Below w7.heap.size w7 wr)) (fun i _ => 8 - (intOf i).toNat)
          case atStart => exact ⟨0, by omega, rfl, Below.refl _ _⟩
          case round =>
            obtain ⟨k, hk, rfl, HBk⟩ := hrel
            have hsw : w7.heap.size ≤ wr.heap.size := HBk.out.size
            by_cases hlt : k < 8
            · have hlt' : (k : Int) < 8 := by omega
              have HRk := Lib.hid (HRK.out (k : Int))
              have e1 := HH.out k
              have e2 := HMs.out k hlt
              cases hb : X.testBit k with
              | true =>
                have hy : 0 ≤ rankV X (k : Int) := by rw [rankV_hit HX8.out hb]; omega
                have ev := e1 hb
                clear e1 e2 hb
                generalize rankV X (k : Int) = y at *
                go_wp2_with fail
                refine (HRk.out _).mono ?_
                rintro e w9 ⟨rfl, hb9⟩
                have HB9 : Hid (Below w7.heap.size w7 w9) := HBk.out.trans (hb9.mono hsw)
                have co : w9.cell? ⟨go, k, none⟩ = some (.int .i64 (lane0 ov k)) := (HB9.out.cell (p := ⟨go, k, none⟩) hgo).trans (HCo.out k hlt)
                have cv : w9.cell? ⟨gv1, ov1 + k, none⟩ = some (.int .i64 (lane0 zs k)) := (HB9.out.cell (p := ⟨gv1, ov1 + k, none⟩) hgv7).trans (HCv.out k hlt)
                rw [ev] at co
                clear hb9 HBk HRk ev
                generalize lane0 zs k = z at *
                go_wp2
                go_quiet (fail)
                go_wp2
                go_roundw
                case rel => exact ⟨k + 1, by omega, by go_num, ⟨HB9.out.os, HB9.out.tape, HB9.out.output, HB9.out.size, HB9.out.block⟩⟩
                case measure => simp [intOf]; omega
              | false =>
                have hy : rankV X (k : Int) < 0 := by rw [rankV_no (by rintro ⟨_, _, h2⟩; rw [Int.toNat_natCast, hb] at h2; cases h2)]; omega
                have hy' : decide (0 ≤ rankV X (k : Int)) = false := decide_eq_false (by omega)
                have ev := e2 hb
                clear e1 e2 hb
                generalize rankV X (k : Int) = y at *
                go_wp2_with fail
                refine (HRk.out _).mono ?_
                rintro e w9 ⟨rfl, hb9⟩
                have HB9 : Hid (Below w7.heap.size w7 w9) := HBk.out.trans (hb9.mono hsw)
                have co : w9.cell? ⟨go, k, none⟩ = some (.int .i64 (lane0 ov k)) := (HB9.out.cell (p := ⟨go, k, none⟩) hgo).trans (HCo.out k hlt)
                have cv : w9.cell? ⟨gw1, ow1 + k, none⟩ = some (.int .i64 (lane0 os k)) := (HB9.out.cell (p := ⟨gw1, ow1 + k, none⟩) hgw7).trans (HCw.out k hlt)
                rw [ev] at co
                clear hb9 HBk HRk ev
                generalize lane0 os k = z at *
                go_wp2
                go_quiet (fail)
                go_wp2
                go_roundw
                case rel => exact ⟨k + 1, by omega, by go_num, ⟨HB9.out.os, HB9.out.tape, HB9.out.output, HB9.out.size, HB9.out.block⟩⟩
                case measure => simp [intOf]; omega
            · obtain rfl : k = 8 := by omega
              have HG8 := Lib.hid (gather_any (some ⟨go, 0, none⟩) 8 co7 _ X ov wr ((O7.out.below HBk.out).rd) (Nat.le_refl _) HX.out)
              rw [HBK.out, HGK.out] at HG8
              go_wp2_with fail
              refine HG8.out.mono ?_
              rintro e w9 ⟨A9, c9, rfl, ho9, hb9⟩
              have HB9 : Hid (Below w3.heap.size w3 w9) := (HB37.out.trans (HBk.out.mono zz7)).trans (hb9.mono (by omega))
              have HE := Lib.hid (same_any A9 A3 gk gk c9 c3 _ _ gv gv w9 ho9.rd (O3.out.below HB9.out).rd (by unfold maxLen; omega) (by unfold maxLen; omega))
              rw [decide_eq_true rfl] at HE
              clear ho9 hb9 HG8
              go_wp2_with fail
              refine HE.out.mono ?_
              rintro e w10 ⟨rfl, k10, rfl⟩
              have HB10 : Hid (Below w0.heap.size w0 (w9.drewN k10)) := HB3.out.trans ((show Below w3.heap.size w3 (w9.drewN k10) from ⟨HB9.out.os, HB9.out.tape, HB9.out.output, HB9.out.size, HB9.out.block⟩).mono (by omega))
              clear HE HB9
              generalize w9.drewN k10 = w10 at *
              go_wp2
              go_ret
              exact ⟨rfl, HB10.out⟩
        · skip
          have h8 : 8 ≤ highOf (onesTo X 32) := by
            have : ¬ highOf (onesTo X 32) < 8 := fun e => hx ((high_mask HX.out).1 e)
            omega
          have HHi := Lib.hid (fun W => sHighest_any X W HX.out)
          go_wp2_with fail
          refine (HHi.out _).mono ?_
          rintro e w6 ⟨rfl, hb6⟩
          have HB36 : Hid (Below w3.heap.size w3 w6) := HB35.out.trans (hb6.mono zz5)
          clear hb6 HB35 HHi
          generalize highOf (onesTo X 32) = y8 at *
          have zb : w3.heap.size ≤ w6.heap.size := HB36.out.size
          go_wp2_with fail
          refine (HSG.out _ HB36.out).mono ?_
          rintro e w7 ⟨A7, c7, rfl, ho7, hb7⟩
          have HB37 : Hid (Below w3.heap.size w3 w7) := HB36.out.trans (hb7.mono zb)
          have HE := Lib.hid (same_any A3 A7 gk gk c3 c7 _ _ gv gv w7 (O3.out.below HB37.out).rd ho7.rd (by unfold maxLen; omega) (by unfold maxLen; omega))
          rw [decide_eq_true rfl] at HE
          clear ho7 hb7
          go_wp2_with fail
          refine HE.out.mono ?_
          rintro e w8 ⟨rfl, k8, rfl⟩
          have HB8 : Hid (Below w0.heap.size w0 (w7.drewN k8)) := HB3.out.trans ((show Below w3.heap.size w3 (w7.drewN k8) from ⟨HB37.out.os, HB37.out.tape, HB37.out.output, HB37.out.size, HB37.out.block⟩).mono (by omega))
          clear HE HB37
          generalize w7.drewN k8 = w8 at *
          go_wp2
          go_ret
          exact ⟨rfl, HB8.out⟩
      · have hm' : ((m2 : Int) != 8) = true := by simp; omega
        have zb : w3.heap.size ≤ w5.heap.size := HB35.out.size
        go_wp2_with fail
        refine (HSG.out _ HB35.out).mono ?_
        rintro e w7 ⟨A7, c7, rfl, ho7, hb7⟩
        have HB37 : Hid (Below w3.heap.size w3 w7) := HB35.out.trans (hb7.mono zb)
        have HE := Lib.hid (same_any A3 A7 gk gk c3 c7 _ _ gv gv w7 (O3.out.below HB37.out).rd ho7.rd (by unfold maxLen; omega) (by unfold maxLen; omega))
        rw [decide_eq_true rfl] at HE
        clear ho7 hb7
        go_wp2_with fail
        refine HE.out.mono ?_
        rintro e w8 ⟨rfl, k8, rfl⟩
        have HB8 : Hid (Below w0.heap.size w0 (w7.drewN k8)) := HB3.out.trans ((show Below w3.heap.size w3 (w7.drewN k8) from ⟨HB37.out.os, HB37.out.tape, HB37.out.output, HB37.out.size, HB37.out.block⟩).mono (by omega))
        clear HE HB37
        generalize w7.drewN k8 = w8 at *
        go_wp2
        go_ret
        exact ⟨rfl, HB8.out⟩
    · have hm' : ((m1 : Int) != 8) = true := by simp; omega
      have zb : w3.heap.size ≤ w5.heap.size := HB35.out.size
      go_wp2_with fail
      refine (HSG.out _ HB35.out).mono ?_
      rintro e w7 ⟨A7, c7, rfl, ho7, hb7⟩
      have HB37 : Hid (Below w3.heap.size w3 w7) := HB35.out.trans (hb7.mono zb)
      have HE := Lib.hid (same_any A3 A7 gk gk c3 c7 _ _ gv gv w7 (O3.out.below HB37.out).rd ho7.rd (by unfold maxLen; omega) (by unfold maxLen; omega))
      rw [decide_eq_true rfl] at HE
      clear ho7 hb7
      go_wp2_with fail
      refine HE.out.mono ?_
      rintro e w8 ⟨rfl, k8, rfl⟩
      have HB8 : Hid (Below w0.heap.size w0 (w7.drewN k8)) := HB3.out.trans ((show Below w3.heap.size w3 (w7.drewN k8) from ⟨HB37.out.os, HB37.out.tape, HB37.out.output, HB37.out.size, HB37.out.block⟩).mono (by omega))
      clear HE HB37
      generalize w7.drewN k8 = w8 at *
      go_wp2
      go_ret
      exact ⟨rfl, HB8.out⟩
  · have hn : (1048576 : Int) < (n : Int) := by omega
    clear H HF
    go_enter Try.func5, Try.ntmps5
    go_wp2_with fail
    refine (big_any A n c w0).mono ?_
    rintro e w1 ⟨rfl, rfl⟩
    go_wp2
    go_ret
    exact ⟨rfl, Below.refl _ _⟩

set_option maxRecDepth 100000 in
theorem fnSpread_lifted (os : Os) (started : os.Started) (H : Type) (enc : TypeId × Value → H) :
    ReturnsInHanded {} Try.checked os 5 .any (Rows.fnSpreadSpec.pre6 enc Try.prog Try.f5 Rows.fnSpreadRow.domain false) (Rows.fnSpreadSpec.post enc Try.prog Try.f5 false true false false) := by
  refine returnsInHanded_of_change (C := Try.checked) own started (by kernel_rfl) Try.func5
    (ChangeSpec.witness6 (enc := enc) (C := Try.checked) false ⟨#[], #[.slice none 0 0], []⟩ 8 (by kernel_rfl) (by kernel_rfl) (by kernel_rfl) (by kernel_rfl)) ?_
  intro W base args ds gs before hval0 hW hcnd _
  have hval : ∀ (j : Nat) t v, Try.f5.params[j]? = some t → args[j]? = some v → Value.okWide Try.prog W .any base t v := hval0
  have hW' := hW
  obtain ⟨p, q, hA0, hV, rfl, hfz, hnd⟩ := hW
  have hA : DataW.TrodAll enc Try.prog W 0 (fun _ => true) true Try.f5.params.toList args.toList ds p := hA0
  rw [Try.params5] at hA hval
  obtain ⟨v0, vs0, d0, ds0, p0, q0, hargs, rfl, rfl, h0, r0⟩ := trodAll_cons hA
  obtain ⟨rfl, rfl, rfl⟩ := trodAll_nil r0
  obtain rfl : args = #[v0] := by cases args; simp_all
  obtain ⟨rfl, rfl⟩ := trodVars_none hV
  have k0 := h0
  have lt0 : ∀ x ∈ p0, x.block < W.heap.size := by obtain ⟨m, hm⟩ := k0; exact DataW.trod_lt m _ _ _ hm
  obtain ⟨A0, n0, c0, z0, rfl, m0, rd0, f0⟩ := open_bytes (hval 0 22 v0 rfl rfl) h0
  clear hA0 hval0
  refine (fnSpread_walk A0 n0 c0 z0 W rd0 m0 f0).mono fun e W' ⟨he, bel⟩ => ?_
  subst he
  exact ⟨_, rfl, _, _, _, [], _, [], hW', trodAll_mk1 (shut_bool Try.underlying4 _), (trodAll_cons_mk (Below.trod laidOut (by kernel_rfl) (of_decide_eq_true (by kernel_rfl)) k0 bel lt0) (trodAll_mk0)), rfl, bel.frame _, fun h => by cases h⟩

/-- The given statement: for every input the law returns true, and its arguments read as before. -/
theorem fnSpread_holds : Rows.FnSpreadSaid :=
  OpenClaim.holds_of_wide 5 Try.f5 rfl rfl rfl rfl rfl rfl rfl ⟨rfl, rfl, rfl, rfl, rfl⟩ rfl rfl rfl rfl rfl (by kernel_rfl) Try.func5 (by kernel_rfl)
    (of_decide_eq_true (by kernel_rfl)) (by unfold Func.isWrapper; first | (rw [if_pos (by decide +kernel)]; kernel_rfl) | (rw [if_neg (by decide +kernel)]; exact ⟨rfl, rfl⟩))
    (fun os started H enc _ => fnSpread_lifted os started H enc)
#print axioms fnSpread_holds
end Go.Proofs.Ytgaphgffchifcaa
