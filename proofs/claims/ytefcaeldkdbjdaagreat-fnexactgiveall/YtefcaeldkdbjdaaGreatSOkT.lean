/- The model's WarpOk at a warp that is ready: a small request that has seen a word. -/
/- The model's WarpOk at a warp that is ready: a small request, the other ways. -/
import Derived.Test.YtefcaeldkdbjdaaGreatSOkX
import Derived.Deep.DeepCutAuto
namespace Go.Proofs.YtefcaeldkdbjdaaGreat
open Go.RowKit
set_option linter.unusedVariables false

set_option maxRecDepth 100000 in
set_option maxHeartbeats 16000000 in
theorem sOk_small (kd : Int) (A : Option Addr) (n c : Nat) (B : Option Addr) (m d td : Nat) (ph pr hd : Int) (sn : Nat) (vs gs : List Int) (Bv : Nat) (ch : Int) (w : World) (hv : RdK .i64 w Bv A n vs) (hB : Bv ≤ w.heap.size) (ht : td < 4294967296) (hsn : sn < 4294967296) (hs : ShapeOk n m td ch) (hk : (kd == 0) = false) (hr : Ready kd vs td) (hp : Pre ph pr hd ch) (v : Int) (hvv : v = wantV vs td) (k1 : kd = 1) (hv16 : ¬ 16 < v) (hsee : ph ≠ 1 → sn = 0) (h0 : hd = 0) (f1 : ph = 1) (f2 : pr < ch) :
    Calls Tryz.prog 33 #[.agg #[.int .i64 kd, .slice A n c, .slice B m d, .int .u32 (td : Int), .int .i64 ph, .int .i64 pr, .int .i64 hd, .int .u32 (sn : Int)], .int .i64 ch] w fun e w' => e = .returned (.bool (decide (PartOk kd v ph pr hd sn ch))) ∧ Below w.heap.size w w' := by
  have HM := Lib.hid (fun W => sMask_any td W ht)
  have HRa := Lib.hid (fun W => sRow8_any A n c W)
  have HRb := Lib.hid (fun W => sRow8_any B m d W)
  obtain ⟨s1, s2, s3, s4, s5⟩ := hs
  rw [decide_eq_true s5] at HM
  rw [decide_eq_true s3] at HRa
  rw [decide_eq_true s4] at HRb
  have t3 : ¬ ch < 0 := by omega
  have t4 : ¬ 16 < ch := by omega
  have HQ : Hid (∀ W, Below w.heap.size w W → Calls Tryz.prog 50 #[.agg #[.int .i64 kd, .slice A n c]] W fun e w' => e = .returned (.bool (decide (ReqGood kd vs))) ∧ Below W.heap.size W w') := fun W hb => sReqOk_any kd A n c Bv vs W (hv.below (hb.mono hB)) (Nat.le_trans hB hb.size) (by unfold maxLen; omega)
  have HAs : Hid (∀ W, Below w.heap.size w W → Calls Tryz.prog 51 #[.int .i64 kd, .slice A n c] W fun e w' => ∃ A' c', e = .returned (.slice A' (askL kd vs).length c') ∧ OwnK 3 .i64 w' W.heap.size A' (askL kd vs).length c' (ints (askL kd vs)) ∧ Below W.heap.size W w') := fun W hb => by
    have := sAsks_any kd A n c Bv vs W (hv.below (hb.mono hB)) (Nat.le_trans hB hb.size) (by omega)
    have e : askTo kd vs n = askL kd vs := by rw [s3]; rfl
    rw [e] at this
    exact this
  have HBl := Lib.hid (fun W => sBitList_any td W ht)
  have HV := Lib.hid hv
  have S3 := Lib.hid s3
  clear hv s3 s4
  obtain ⟨g0, g1, g2⟩ := hr
  have g1b : ((td : Int) == 0) = false := by simp; omega
  have HPre := Lib.hid hp
  obtain ⟨p0, p1, p2, p3, p4⟩ := hp
  have q0 : ¬ ph < 0 := by omega
  have q1 : ¬ pr < 0 := by omega
  have q2 : ¬ hd < 0 := by omega
  have q3 : ¬ ch < pr := by omega
  have q4 : ¬ 16 < hd := by omega
  have G0 := Lib.hid g0
  have G1 := Lib.hid g1
  have HRd : Hid (Ready kd vs td) := ⟨g0, g1, g2⟩
  rw [decide_eq_true g0] at HQ
  clear g0 g1 g2
  have HVV := Lib.hid hvv
  clear hvv
  have k1b : (kd == 1) = true := by simp [k1]
  have v16 : ¬ 16 < v := hv16
  have HSm := Lib.hid (part_small (kd := kd) (v := v) (ph := ph) (pr := pr) (hd := hd) (sn := sn) (ch := ch) k1 hv16 hsee HPre.out)
  have HCl := Lib.hid (fun W => calls_bel (sClassOf_any v W))
  have HRm := Lib.hid (fun W => sRoom_any sn (classV v) W hsn)
  have h0b : (hd == 0) = true := by simp [h0]
  have f0b : (ph == 0) = false := by simp [f1]
  have f1b : (ph == 1) = true := by simp [f1]
  have f1c : (ph != 1) = false := by simp [f1]
  have f2b : decide (pr < ch) = true := by simpa using f2
  have HR : Hid (decide (PartOk kd v ph pr hd sn ch) = decide (0 < roomV sn (classV v))) := decide_eq_decide.2 (HSm.out.trans ⟨fun h => h.2.elim (fun a => by omega) (fun a => a.2), fun h => ⟨h0, .inr ⟨⟨f1, f2⟩, h⟩⟩⟩)
  generalize roomV sn (classV v) = r at *
  generalize classV v = k9 at *
  clear HSm k1 h0 f1 hsee hv16
  go_enter Tryz.func33, Tryz.ntmps33
  go_wp2_with fail
  refine (HRa.out _).mono ?_
  rintro e w1 ⟨rfl, rfl⟩
  go_wp2_with fail
  refine (HRb.out _).mono ?_
  rintro e w1 ⟨rfl, rfl⟩
  go_wp2_with fail
  refine (HM.out _).mono ?_
  rintro e w1 ⟨rfl, hb⟩
  obtain ⟨ha, hB1, z1⟩ := nw1 hb
  have B1 := Lib.hid hB1
  have HA := Lib.hid ha
  clear hb ha hB1
  have xS : Hid (∀ w', Below w1.heap.size w1 w' → w'.cell? ⟨w.heap.size, 0, none⟩ = some (.int .i64 kd) ∧ w'.cell? ⟨w.heap.size, 1, none⟩ = some (.slice A n c) ∧ w'.cell? ⟨w.heap.size, 2, none⟩ = some (.slice B m d) ∧ w'.cell? ⟨w.heap.size, 3, none⟩ = some (.int .u32 (td : Int)) ∧ w'.cell? ⟨w.heap.size, 4, none⟩ = some (.int .i64 ph) ∧ w'.cell? ⟨w.heap.size, 5, none⟩ = some (.int .i64 pr) ∧ w'.cell? ⟨w.heap.size, 6, none⟩ = some (.int .i64 hd) ∧ w'.cell? ⟨w.heap.size, 7, none⟩ = some (.int .u32 (sn : Int))) := fun w' hb => ⟨later_at0 hb (blkc HA.out 0 rfl), later_at0 hb (blkc HA.out 1 rfl), later_at0 hb (blkc HA.out 2 rfl), later_at0 hb (blkc HA.out 3 rfl), later_at0 hb (blkc HA.out 4 rfl), later_at0 hb (blkc HA.out 5 rfl), later_at0 hb (blkc HA.out 6 rfl), later_at0 hb (blkc HA.out 7 rfl)⟩
  have y0 := blkc HA.out 0 rfl
  have y1 := blkc HA.out 1 rfl
  have y2 := blkc HA.out 2 rfl
  have y3 := blkc HA.out 3 rfl
  have y4 := blkc HA.out 4 rfl
  have y5 := blkc HA.out 5 rfl
  have y6 := blkc HA.out 6 rfl
  have y7 := blkc HA.out 7 rfl
  go_wp2_with fail
  refine (HQ.out _ B1.out).mono ?_
  rintro e w2 ⟨rfl, hb⟩
  have C2 := Lib.hid hb
  have B2 := Lib.hid (B1.out.trans (hb.mono B1.out.size))
  clear hb y0 y1 y2 y3 y4 y5 y6 y7 HA HQ
  obtain ⟨ya, yb, yc, yd, ye, yf, yg, yh⟩ := xS.out _ C2.out
  go_wp2_with fail
  refine (HAs.out _ B2.out).mono ?_
  rintro e w3 ⟨AA, ca, rfl, ho, hb⟩
  have C3 := Lib.hid (C2.out.trans (hb.mono C2.out.size))
  have B3 := Lib.hid (B2.out.trans (hb.mono B2.out.size))
  have OA := Lib.hid ho
  clear hb ho HAs C2 B2
  clear ya yb yc yd ye yf yg yh
  obtain ⟨ya, yb, yc, yd, ye, yf, yg, yh⟩ := xS.out _ C3.out
  go_wp2_with fail
  refine (HBl.out _).mono ?_
  rintro e w4 ⟨AT, ct, rfl, ho, hb⟩
  have C4 := Lib.hid (C3.out.trans (hb.mono C3.out.size))
  have B4 := Lib.hid (B3.out.trans (hb.mono B3.out.size))
  have OA4 := Lib.hid (OA.out.below hb).rd
  have OT4 := Lib.hid ho.rd
  clear hb ho HBl C3 B3 OA
  clear ya yb yc yd ye yf yg yh
  obtain ⟨ya, yb, yc, yd, ye, yf, yg, yh⟩ := xS.out _ C4.out
  have hal := asks_len kd vs
  have htl := onesTo_len td 32
  have D0 : Hid (Below w4.heap.size w4 w4) := Below.refl _ _
  go_wp2
  clear ya yb yc yd ye yf yg yh
  go_loopw [7] (fun i wr => ∃ k : Nat, k ≤ (onesTo td 32).length ∧ i = .int .i64 k ∧ Hid (∀ j ∈ (onesTo td 32).take k, j ∈ askL kd vs) ∧ Hid (Below w4.heap.size w4 wr)) (fun i _ => (onesTo td 32).length - (intOf i).toNat)
  case atStart => exact ⟨0, Nat.zero_le _, rfl, (by intro j hj; simp at hj : ∀ j ∈ (onesTo td 32).take 0, j ∈ askL kd vs), D0⟩
  case round =>
    obtain ⟨k, hk, rfl, HK1, HBr⟩ := hrel
    by_cases hlt : k < (onesTo td 32).length
    · obtain ⟨gt, ot, rfl, hgt, hct⟩ := OT4.out.2 (by omega)
      have ct0 : wr.cell? ⟨gt, ot + k, none⟩ = some (.int .i64 (((onesTo td 32)[k]?.getD 0 : Nat) : Int)) := by
        rw [← ints_atD _ hlt]
        exact (HBr.out.cell (p := ⟨gt, ot + k, none⟩) hgt).trans (hct k hlt)
      have hkI : (k : Int) < ((onesTo td 32).length : Int) := by omega
      have HT0 : Hid (∀ j, j = (onesTo td 32)[k]?.getD 0 → (j ∈ askL kd vs → ∀ i ∈ (onesTo td 32).take (k + 1), i ∈ askL kd vs) ∧ j ∈ onesTo td 32) := by
        intro j hj
        subst hj
        constructor
        · intro h i hi
          rw [List.take_succ_eq_append_getElem hlt] at hi
          rcases List.mem_append.1 hi with hi | hi
          · exact HK1.out i hi
          · simp at hi
            subst hi
            simpa [hlt] using h
        · simp [hlt]
      obtain ⟨j, hj⟩ : ∃ j, j = (onesTo td 32)[k]?.getD 0 := ⟨_, rfl⟩
      have HT1 := Lib.hid (HT0.out j hj)
      rw [← hj] at ct0
      clear hct hj HT0 HK1
      go_wp2
      go_loopw [8, 9] (fun b i wr => ∃ q : Nat, q ≤ (askL kd vs).length ∧ i = .int .i64 q ∧ b = .bool (decide (j ∈ (askL kd vs).take q)) ∧ Hid (Below w4.heap.size w4 wr) ∧ World.cell? wr ⟨gt, ot + k, none⟩ = some (Value.int .i64 (j : Int))) (fun _ i _ => (askL kd vs).length - (intOf i).toNat)
      case atStart => exact ⟨0, Nat.zero_le _, rfl, by simp, HBr, ct0⟩
      case round =>
        obtain ⟨q, hq, rfl, rfl, HB2r, ct1⟩ := hrel
        clear HBr ct0
        by_cases hqt : q < (askL kd vs).length
        · obtain ⟨ga, oa, rfl, hga, hca⟩ := OA4.out.2 (by omega)
          have ca0 : World.cell? wr ⟨ga, oa + q, none⟩ = some (Value.int .i64 (((askL kd vs)[q]?.getD 0 : Nat) : Int)) := by
            rw [← ints_atD _ hqt]
            exact (HB2r.out.cell (p := ⟨ga, oa + q, none⟩) hga).trans (hca q hqt)
          have hqI : (q : Int) < ((askL kd vs).length : Int) := by omega
          have HN := Lib.hid (mem_next (t := j) hqt)
          clear hca
          generalize (askL kd vs)[q]?.getD 0 = a at *
          cases hin : decide (j ∈ (askL kd vs).take q) with
          | true =>
            rw [hin] at HN
            have HI := Lib.hid hin
            clear hin
            go_wp2
            go_quiet ((fail))
            go_wp2
            go_roundw
            case rel => exact ⟨q + 1, by omega, by go_num, by rw [HN.out]; rfl, bel_drewN HB2r.out _, ct1⟩
            case measure => simp [intOf]; omega
          | false =>
            rw [hin] at HN
            have HI := Lib.hid hin
            clear hin
            go_wp2
            go_quiet ((fail))
            go_wp2
            go_roundw
            case rel => exact ⟨q + 1, by omega, by go_num, by rw [HN.out]; rfl, bel_drewN HB2r.out _, ct1⟩
            case measure => simp [intOf]; omega
        · obtain rfl : q = (askL kd vs).length := by omega
          rw [List.take_length]
          by_cases hin : j ∈ askL kd vs
          · rw [decide_eq_true hin]
            have HM2 := Lib.hid (HT1.out.1 hin)
            clear hin HT1
            go_wp2
            go_roundw
            case rel => exact ⟨k + 1, by omega, by go_num, HM2, HB2r⟩
            case measure => simp [intOf]; omega
          · exact absurd (askL_mem.2 ⟨ones_lt_8 s5 HT1.out.2, HRd.out.2.2 j HT1.out.2⟩) hin
    · have hko : ¬ (k : Int) < ((onesTo td 32).length : Int) := by omega
      have HF := Lib.hid (B4.out.trans (HBr.out.mono B4.out.size))
      have HC := Lib.hid (C4.out.trans (HBr.out.mono C4.out.size))
      obtain ⟨wb0, wb1, wb2, wb3⟩ := want_bounds s5 HRd.out
      obtain ⟨gt, ot, rfl, hgt, hct⟩ := OT4.out.2 (by have := ones_pos s5 G1.out; omega)
      have cl0 : wr.cell? ⟨gt, ot, none⟩ = some (.int .i64 (leadV td : Int)) := by
        have h0 := (HBr.out.cell (p := ⟨gt, ot + 0, none⟩) hgt).trans (hct 0 (ones_pos s5 G1.out))
        rw [ints_atD _ (ones_pos s5 G1.out)] at h0
        exact h0
      obtain ⟨gv, ov, rfl, hgv, hcv⟩ := HV.out.2 (by have := S3.out; omega)
      have hl8 := leadV_lt s5
      have cv0 : wr.cell? ⟨gv, ov + leadV td, none⟩ = some (.int .i64 (wantV vs td)) := (HF.out.cell (p := ⟨gv, ov + leadV td, none⟩) (by show gv < _; omega)).trans (hcv _ (by have := S3.out; omega))
      rw [← HVV.out] at cv0 wb0 wb1 wb3
      have hl0 : (0 : Int) ≤ (leadV td : Int) := by omega
      have hl1 : (leadV td : Int) < (n : Int) := by have := S3.out; omega
      have hpos : (0 : Int) < ((onesTo td 32).length : Int) := by have := ones_pos s5 G1.out; omega
      clear hct hcv OT4 OA4 HK1 HV
      obtain ⟨ya, yb, yc, yd, ye, yf, yg, yh⟩ := xS.out _ HC.out
      generalize leadV td = l at *
      go_wp2_with fail
      go_cut [10] (fun s wx => s = .int .i64 v ∧ Hid (Below wr.heap.size wr wx))
      case first =>
        go_quiet ((fail))
        go_wp2_with fail
        go_meet
        exact ⟨rfl, bel_drewN (Below.refl _ _) _⟩
      case rest =>
        obtain ⟨rfl, HB5⟩ := hcut
        generalize wc = W5 at *
        have HFw : Hid (Below w.heap.size w W5) := HF.out.trans (HB5.out.mono HF.out.size)
        have HCw : Hid (Below w1.heap.size w1 W5) := HC.out.trans (HB5.out.mono HC.out.size)
        clear ya yb yc yd ye yf yg yh cl0 cv0 HF HC HB5 HBr
        obtain ⟨ya, yb, yc, yd, ye, yf, yg, yh⟩ := xS.out _ HCw.out
        go_wp2_with fail
        have x0 : W5.cell? ⟨w.heap.size, 0, none⟩ = some (.int .i64 kd) ∧ W5.cell? ⟨w.heap.size, 1, none⟩ = some (.slice (some ⟨gv, ov, none⟩) n c) ∧ W5.cell? ⟨w.heap.size, 2, none⟩ = some (.slice B m d) ∧ W5.cell? ⟨w.heap.size, 3, none⟩ = some (.int .u32 (td : Int)) ∧ W5.cell? ⟨w.heap.size, 4, none⟩ = some (.int .i64 ph) ∧ W5.cell? ⟨w.heap.size, 5, none⟩ = some (.int .i64 pr) ∧ W5.cell? ⟨w.heap.size, 6, none⟩ = some (.int .i64 hd) ∧ W5.cell? ⟨w.heap.size, 7, none⟩ = some (.int .u32 (sn : Int)) := ⟨ya, yb, yc, yd, ye, yf, yg, yh⟩
        have x0d : W5.drew.cell? ⟨w.heap.size, 0, none⟩ = some (.int .i64 kd) ∧ W5.drew.cell? ⟨w.heap.size, 1, none⟩ = some (.slice (some ⟨gv, ov, none⟩) n c) ∧ W5.drew.cell? ⟨w.heap.size, 2, none⟩ = some (.slice B m d) ∧ W5.drew.cell? ⟨w.heap.size, 3, none⟩ = some (.int .u32 (td : Int)) ∧ W5.drew.cell? ⟨w.heap.size, 4, none⟩ = some (.int .i64 ph) ∧ W5.drew.cell? ⟨w.heap.size, 5, none⟩ = some (.int .i64 pr) ∧ W5.drew.cell? ⟨w.heap.size, 6, none⟩ = some (.int .i64 hd) ∧ W5.drew.cell? ⟨w.heap.size, 7, none⟩ = some (.int .u32 (sn : Int)) := x0
        have D0 : Hid (Below W5.heap.size W5 W5.drew) := (Below.refl _ _).drew
        have xS : Hid (∀ w', Below W5.heap.size W5 w' → w'.cell? ⟨w.heap.size, 0, none⟩ = some (.int .i64 kd) ∧ w'.cell? ⟨w.heap.size, 1, none⟩ = some (.slice (some ⟨gv, ov, none⟩) n c) ∧ w'.cell? ⟨w.heap.size, 2, none⟩ = some (.slice B m d) ∧ w'.cell? ⟨w.heap.size, 3, none⟩ = some (.int .u32 (td : Int)) ∧ w'.cell? ⟨w.heap.size, 4, none⟩ = some (.int .i64 ph) ∧ w'.cell? ⟨w.heap.size, 5, none⟩ = some (.int .i64 pr) ∧ w'.cell? ⟨w.heap.size, 6, none⟩ = some (.int .i64 hd) ∧ w'.cell? ⟨w.heap.size, 7, none⟩ = some (.int .u32 (sn : Int))) := fun w' hb => ⟨later_at0 hb x0.1, later_at0 hb x0.2.1, later_at0 hb x0.2.2.1, later_at0 hb x0.2.2.2.1, later_at0 hb x0.2.2.2.2.1, later_at0 hb x0.2.2.2.2.2.1, later_at0 hb x0.2.2.2.2.2.2.1, later_at0 hb x0.2.2.2.2.2.2.2⟩
        have CC0 : Hid (∀ W', Below W5.heap.size W5 W' → Calls Tryz.prog 55 #[.int .i64 v] W' fun e w' => e = .returned (.int .i64 k9) ∧ Hid (Below W5.heap.size W5 w') ∧ (w'.cell? ⟨w.heap.size, 0, none⟩ = some (.int .i64 kd) ∧ w'.cell? ⟨w.heap.size, 1, none⟩ = some (.slice (some ⟨gv, ov, none⟩) n c) ∧ w'.cell? ⟨w.heap.size, 2, none⟩ = some (.slice B m d) ∧ w'.cell? ⟨w.heap.size, 3, none⟩ = some (.int .u32 (td : Int)) ∧ w'.cell? ⟨w.heap.size, 4, none⟩ = some (.int .i64 ph) ∧ w'.cell? ⟨w.heap.size, 5, none⟩ = some (.int .i64 pr) ∧ w'.cell? ⟨w.heap.size, 6, none⟩ = some (.int .i64 hd) ∧ w'.cell? ⟨w.heap.size, 7, none⟩ = some (.int .u32 (sn : Int)))) := fun W' hb => (HCl.out W').mono fun e w' ⟨he, hb2⟩ => ⟨he, hb.trans (hb2.mono hb.size), xS.out w' (hb.trans (hb2.mono hb.size))⟩
        have CC1 : Hid (∀ W', Below W5.heap.size W5 W' → Calls Tryz.prog 54 #[.int .u32 (sn : Int), .int .i64 k9] W' fun e w' => e = .returned (.int .i64 (r : Int)) ∧ Hid (Below W5.heap.size W5 w') ∧ (w'.cell? ⟨w.heap.size, 0, none⟩ = some (.int .i64 kd) ∧ w'.cell? ⟨w.heap.size, 1, none⟩ = some (.slice (some ⟨gv, ov, none⟩) n c) ∧ w'.cell? ⟨w.heap.size, 2, none⟩ = some (.slice B m d) ∧ w'.cell? ⟨w.heap.size, 3, none⟩ = some (.int .u32 (td : Int)) ∧ w'.cell? ⟨w.heap.size, 4, none⟩ = some (.int .i64 ph) ∧ w'.cell? ⟨w.heap.size, 5, none⟩ = some (.int .i64 pr) ∧ w'.cell? ⟨w.heap.size, 6, none⟩ = some (.int .i64 hd) ∧ w'.cell? ⟨w.heap.size, 7, none⟩ = some (.int .u32 (sn : Int)))) := fun W' hb => (HRm.out W').mono fun e w' ⟨he, hb2⟩ => ⟨he, hb.trans (hb2.mono hb.size), xS.out w' (hb.trans (hb2.mono hb.size))⟩
        go_cut [4] (fun s wx => s = .bool (decide (0 < r)) ∧ Hid (Below W5.heap.size W5 wx))
        case first =>
          go_region_held3 (fun w' => w'.cell? ⟨w.heap.size, 0, none⟩ = some (.int .i64 kd) ∧ w'.cell? ⟨w.heap.size, 1, none⟩ = some (.slice (some ⟨gv, ov, none⟩) n c) ∧ w'.cell? ⟨w.heap.size, 2, none⟩ = some (.slice B m d) ∧ w'.cell? ⟨w.heap.size, 3, none⟩ = some (.int .u32 (td : Int)) ∧ w'.cell? ⟨w.heap.size, 4, none⟩ = some (.int .i64 ph) ∧ w'.cell? ⟨w.heap.size, 5, none⟩ = some (.int .i64 pr) ∧ w'.cell? ⟨w.heap.size, 6, none⟩ = some (.int .i64 hd) ∧ w'.cell? ⟨w.heap.size, 7, none⟩ = some (.int .u32 (sn : Int)))
            (first | exact x0 | exact x0d | exact xc0 | exact xc1)
            (first | (go_at_call 55; (with_reducible refine (CC0.out _ BC1.out).mono ?_); rintro e wc0 ⟨rfl, BC0, xc0⟩)
                   | (go_at_call 55; (with_reducible refine (CC0.out _ D0.out).mono ?_); rintro e wc0 ⟨rfl, BC0, xc0⟩)
                   | (go_at_call 54; (with_reducible refine (CC1.out _ BC0.out).mono ?_); rintro e wc1 ⟨rfl, BC1, xc1⟩)
                   | (go_at_call 54; (with_reducible refine (CC1.out _ D0.out).mono ?_); rintro e wc1 ⟨rfl, BC1, xc1⟩))
          all_goals (go_wp2_with fail; go_meet; exact ⟨rfl, BC1⟩)
        case rest =>
          obtain ⟨rfl, HB6⟩ := hcut
          go_wp2
          go_ret
          exact ⟨by rw [HR.out]; rfl, HFw.out.trans (HB6.out.mono HFw.out.size)⟩

end Go.Proofs.YtefcaeldkdbjdaaGreat

namespace Go.Proofs.YtefcaeldkdbjdaaGreat
open Go.RowKit
set_option linter.unusedVariables false

set_option maxRecDepth 100000 in
set_option maxHeartbeats 16000000 in
theorem sOk_small2 (kd : Int) (A : Option Addr) (n c : Nat) (B : Option Addr) (m d td : Nat) (ph pr hd : Int) (sn : Nat) (vs gs : List Int) (Bv : Nat) (ch : Int) (w : World) (hv : RdK .i64 w Bv A n vs) (hB : Bv ≤ w.heap.size) (ht : td < 4294967296) (hsn : sn < 4294967296) (hs : ShapeOk n m td ch) (hk : (kd == 0) = false) (hr : Ready kd vs td) (hp : Pre ph pr hd ch) (v : Int) (hvv : v = wantV vs td) (k1 : kd = 1) (hv16 : ¬ 16 < v) (hsee : ph ≠ 1 → sn = 0) (hx : ¬ (hd = 0 ∧ ph = 1 ∧ pr < ch)) :
    Calls Tryz.prog 33 #[.agg #[.int .i64 kd, .slice A n c, .slice B m d, .int .u32 (td : Int), .int .i64 ph, .int .i64 pr, .int .i64 hd, .int .u32 (sn : Int)], .int .i64 ch] w fun e w' => e = .returned (.bool (decide (PartOk kd v ph pr hd sn ch))) ∧ Below w.heap.size w w' := by
  have HM := Lib.hid (fun W => sMask_any td W ht)
  have HRa := Lib.hid (fun W => sRow8_any A n c W)
  have HRb := Lib.hid (fun W => sRow8_any B m d W)
  obtain ⟨s1, s2, s3, s4, s5⟩ := hs
  rw [decide_eq_true s5] at HM
  rw [decide_eq_true s3] at HRa
  rw [decide_eq_true s4] at HRb
  have t3 : ¬ ch < 0 := by omega
  have t4 : ¬ 16 < ch := by omega
  have HQ : Hid (∀ W, Below w.heap.size w W → Calls Tryz.prog 50 #[.agg #[.int .i64 kd, .slice A n c]] W fun e w' => e = .returned (.bool (decide (ReqGood kd vs))) ∧ Below W.heap.size W w') := fun W hb => sReqOk_any kd A n c Bv vs W (hv.below (hb.mono hB)) (Nat.le_trans hB hb.size) (by unfold maxLen; omega)
  have HAs : Hid (∀ W, Below w.heap.size w W → Calls Tryz.prog 51 #[.int .i64 kd, .slice A n c] W fun e w' => ∃ A' c', e = .returned (.slice A' (askL kd vs).length c') ∧ OwnK 3 .i64 w' W.heap.size A' (askL kd vs).length c' (ints (askL kd vs)) ∧ Below W.heap.size W w') := fun W hb => by
    have := sAsks_any kd A n c Bv vs W (hv.below (hb.mono hB)) (Nat.le_trans hB hb.size) (by omega)
    have e : askTo kd vs n = askL kd vs := by rw [s3]; rfl
    rw [e] at this
    exact this
  have HBl := Lib.hid (fun W => sBitList_any td W ht)
  have HV := Lib.hid hv
  have S3 := Lib.hid s3
  clear hv s3 s4
  obtain ⟨g0, g1, g2⟩ := hr
  have g1b : ((td : Int) == 0) = false := by simp; omega
  have HPre := Lib.hid hp
  obtain ⟨p0, p1, p2, p3, p4⟩ := hp
  have q0 : ¬ ph < 0 := by omega
  have q1 : ¬ pr < 0 := by omega
  have q2 : ¬ hd < 0 := by omega
  have q3 : ¬ ch < pr := by omega
  have q4 : ¬ 16 < hd := by omega
  have G0 := Lib.hid g0
  have G1 := Lib.hid g1
  have HRd : Hid (Ready kd vs td) := ⟨g0, g1, g2⟩
  rw [decide_eq_true g0] at HQ
  clear g0 g1 g2
  have HVV := Lib.hid hvv
  clear hvv
  have k1b : (kd == 1) = true := by simp [k1]
  have v16 : ¬ 16 < v := hv16
  have HSm := Lib.hid (part_small (kd := kd) (v := v) (ph := ph) (pr := pr) (hd := hd) (sn := sn) (ch := ch) k1 hv16 hsee HPre.out)
  have HE1 : Hid ((ph != 1) = false ∨ ((ph != 1) = true ∧ ((sn : Int) != 0) = false)) := by
    by_cases a : ph = 1
    · exact .inl (by simp [a])
    · exact .inr ⟨by simpa using a, by simp; exact hsee a⟩
  have v16b : decide (16 < v) = false := by simpa using hv16
  have HR : Hid (decide (PartOk kd v ph pr hd sn ch) = ((hd == 0) && (ph == 0))) := by
    show _ = _
    rw [Bool.eq_iff_iff]
    simp only [decide_eq_true_iff, Bool.and_eq_true, beq_iff_eq]
    exact HSm.out.trans ⟨fun h => ⟨h.1, h.2.elim id (fun a => absurd ⟨h.1, a.1.1, a.1.2⟩ hx)⟩, fun h => ⟨h.1, .inl h.2⟩⟩
  have HD : Hid ((hd == 0) = false ∨ ((hd == 0) = true ∧ (ph == 0) = true) ∨ ((hd == 0) = true ∧ (ph == 0) = false ∧ (ph == 1) = true ∧ decide (pr < ch) = false) ∨ ((hd == 0) = true ∧ (ph == 0) = false ∧ (ph == 1) = false)) := by
    by_cases a : hd = 0
    · by_cases b : ph = 0
      · exact .inr (.inl ⟨by simp [a], by simp [b]⟩)
      · by_cases c : ph = 1
        · exact .inr (.inr (.inl ⟨by simp [a], by simp [c], by simp [c], by simpa using fun e => hx ⟨a, c, e⟩⟩))
        · exact .inr (.inr (.inr ⟨by simp [a], by simpa using b, by simpa using c⟩))
    · exact .inl (by simpa using a)
  clear HSm k1 hsee hv16 hx
  go_enter Tryz.func33, Tryz.ntmps33
  go_wp2_with fail
  refine (HRa.out _).mono ?_
  rintro e w1 ⟨rfl, rfl⟩
  go_wp2_with fail
  refine (HRb.out _).mono ?_
  rintro e w1 ⟨rfl, rfl⟩
  go_wp2_with fail
  refine (HM.out _).mono ?_
  rintro e w1 ⟨rfl, hb⟩
  obtain ⟨ha, hB1, z1⟩ := nw1 hb
  have B1 := Lib.hid hB1
  have HA := Lib.hid ha
  clear hb ha hB1
  have xS : Hid (∀ w', Below w1.heap.size w1 w' → w'.cell? ⟨w.heap.size, 0, none⟩ = some (.int .i64 kd) ∧ w'.cell? ⟨w.heap.size, 1, none⟩ = some (.slice A n c) ∧ w'.cell? ⟨w.heap.size, 2, none⟩ = some (.slice B m d) ∧ w'.cell? ⟨w.heap.size, 3, none⟩ = some (.int .u32 (td : Int)) ∧ w'.cell? ⟨w.heap.size, 4, none⟩ = some (.int .i64 ph) ∧ w'.cell? ⟨w.heap.size, 5, none⟩ = some (.int .i64 pr) ∧ w'.cell? ⟨w.heap.size, 6, none⟩ = some (.int .i64 hd) ∧ w'.cell? ⟨w.heap.size, 7, none⟩ = some (.int .u32 (sn : Int))) := fun w' hb => ⟨later_at0 hb (blkc HA.out 0 rfl), later_at0 hb (blkc HA.out 1 rfl), later_at0 hb (blkc HA.out 2 rfl), later_at0 hb (blkc HA.out 3 rfl), later_at0 hb (blkc HA.out 4 rfl), later_at0 hb (blkc HA.out 5 rfl), later_at0 hb (blkc HA.out 6 rfl), later_at0 hb (blkc HA.out 7 rfl)⟩
  have y0 := blkc HA.out 0 rfl
  have y1 := blkc HA.out 1 rfl
  have y2 := blkc HA.out 2 rfl
  have y3 := blkc HA.out 3 rfl
  have y4 := blkc HA.out 4 rfl
  have y5 := blkc HA.out 5 rfl
  have y6 := blkc HA.out 6 rfl
  have y7 := blkc HA.out 7 rfl
  go_wp2_with fail
  refine (HQ.out _ B1.out).mono ?_
  rintro e w2 ⟨rfl, hb⟩
  have C2 := Lib.hid hb
  have B2 := Lib.hid (B1.out.trans (hb.mono B1.out.size))
  clear hb y0 y1 y2 y3 y4 y5 y6 y7 HA HQ
  obtain ⟨ya, yb, yc, yd, ye, yf, yg, yh⟩ := xS.out _ C2.out
  go_wp2_with fail
  refine (HAs.out _ B2.out).mono ?_
  rintro e w3 ⟨AA, ca, rfl, ho, hb⟩
  have C3 := Lib.hid (C2.out.trans (hb.mono C2.out.size))
  have B3 := Lib.hid (B2.out.trans (hb.mono B2.out.size))
  have OA := Lib.hid ho
  clear hb ho HAs C2 B2
  clear ya yb yc yd ye yf yg yh
  obtain ⟨ya, yb, yc, yd, ye, yf, yg, yh⟩ := xS.out _ C3.out
  go_wp2_with fail
  refine (HBl.out _).mono ?_
  rintro e w4 ⟨AT, ct, rfl, ho, hb⟩
  have C4 := Lib.hid (C3.out.trans (hb.mono C3.out.size))
  have B4 := Lib.hid (B3.out.trans (hb.mono B3.out.size))
  have OA4 := Lib.hid (OA.out.below hb).rd
  have OT4 := Lib.hid ho.rd
  clear hb ho HBl C3 B3 OA
  clear ya yb yc yd ye yf yg yh
  obtain ⟨ya, yb, yc, yd, ye, yf, yg, yh⟩ := xS.out _ C4.out
  have hal := asks_len kd vs
  have htl := onesTo_len td 32
  have D0 : Hid (Below w4.heap.size w4 w4) := Below.refl _ _
  go_wp2
  clear ya yb yc yd ye yf yg yh
  go_loopw [7] (fun i wr => ∃ k : Nat, k ≤ (onesTo td 32).length ∧ i = .int .i64 k ∧ Hid (∀ j ∈ (onesTo td 32).take k, j ∈ askL kd vs) ∧ Hid (Below w4.heap.size w4 wr)) (fun i _ => (onesTo td 32).length - (intOf i).toNat)
  case atStart => exact ⟨0, Nat.zero_le _, rfl, (by intro j hj; simp at hj : ∀ j ∈ (onesTo td 32).take 0, j ∈ askL kd vs), D0⟩
  case round =>
    obtain ⟨k, hk, rfl, HK1, HBr⟩ := hrel
    by_cases hlt : k < (onesTo td 32).length
    · obtain ⟨gt, ot, rfl, hgt, hct⟩ := OT4.out.2 (by omega)
      have ct0 : wr.cell? ⟨gt, ot + k, none⟩ = some (.int .i64 (((onesTo td 32)[k]?.getD 0 : Nat) : Int)) := by
        rw [← ints_atD _ hlt]
        exact (HBr.out.cell (p := ⟨gt, ot + k, none⟩) hgt).trans (hct k hlt)
      have hkI : (k : Int) < ((onesTo td 32).length : Int) := by omega
      have HT0 : Hid (∀ j, j = (onesTo td 32)[k]?.getD 0 → (j ∈ askL kd vs → ∀ i ∈ (onesTo td 32).take (k + 1), i ∈ askL kd vs) ∧ j ∈ onesTo td 32) := by
        intro j hj
        subst hj
        constructor
        · intro h i hi
          rw [List.take_succ_eq_append_getElem hlt] at hi
          rcases List.mem_append.1 hi with hi | hi
          · exact HK1.out i hi
          · simp at hi
            subst hi
            simpa [hlt] using h
        · simp [hlt]
      obtain ⟨j, hj⟩ : ∃ j, j = (onesTo td 32)[k]?.getD 0 := ⟨_, rfl⟩
      have HT1 := Lib.hid (HT0.out j hj)
      rw [← hj] at ct0
      clear hct hj HT0 HK1
      go_wp2
      go_loopw [8, 9] (fun b i wr => ∃ q : Nat, q ≤ (askL kd vs).length ∧ i = .int .i64 q ∧ b = .bool (decide (j ∈ (askL kd vs).take q)) ∧ Hid (Below w4.heap.size w4 wr) ∧ World.cell? wr ⟨gt, ot + k, none⟩ = some (Value.int .i64 (j : Int))) (fun _ i _ => (askL kd vs).length - (intOf i).toNat)
      case atStart => exact ⟨0, Nat.zero_le _, rfl, by simp, HBr, ct0⟩
      case round =>
        obtain ⟨q, hq, rfl, rfl, HB2r, ct1⟩ := hrel
        clear HBr ct0
        by_cases hqt : q < (askL kd vs).length
        · obtain ⟨ga, oa, rfl, hga, hca⟩ := OA4.out.2 (by omega)
          have ca0 : World.cell? wr ⟨ga, oa + q, none⟩ = some (Value.int .i64 (((askL kd vs)[q]?.getD 0 : Nat) : Int)) := by
            rw [← ints_atD _ hqt]
            exact (HB2r.out.cell (p := ⟨ga, oa + q, none⟩) hga).trans (hca q hqt)
          have hqI : (q : Int) < ((askL kd vs).length : Int) := by omega
          have HN := Lib.hid (mem_next (t := j) hqt)
          clear hca
          generalize (askL kd vs)[q]?.getD 0 = a at *
          cases hin : decide (j ∈ (askL kd vs).take q) with
          | true =>
            rw [hin] at HN
            have HI := Lib.hid hin
            clear hin
            go_wp2
            go_quiet ((fail))
            go_wp2
            go_roundw
            case rel => exact ⟨q + 1, by omega, by go_num, by rw [HN.out]; rfl, bel_drewN HB2r.out _, ct1⟩
            case measure => simp [intOf]; omega
          | false =>
            rw [hin] at HN
            have HI := Lib.hid hin
            clear hin
            go_wp2
            go_quiet ((fail))
            go_wp2
            go_roundw
            case rel => exact ⟨q + 1, by omega, by go_num, by rw [HN.out]; rfl, bel_drewN HB2r.out _, ct1⟩
            case measure => simp [intOf]; omega
        · obtain rfl : q = (askL kd vs).length := by omega
          rw [List.take_length]
          by_cases hin : j ∈ askL kd vs
          · rw [decide_eq_true hin]
            have HM2 := Lib.hid (HT1.out.1 hin)
            clear hin HT1
            go_wp2
            go_roundw
            case rel => exact ⟨k + 1, by omega, by go_num, HM2, HB2r⟩
            case measure => simp [intOf]; omega
          · exact absurd (askL_mem.2 ⟨ones_lt_8 s5 HT1.out.2, HRd.out.2.2 j HT1.out.2⟩) hin
    · have hko : ¬ (k : Int) < ((onesTo td 32).length : Int) := by omega
      have HF := Lib.hid (B4.out.trans (HBr.out.mono B4.out.size))
      have HC := Lib.hid (C4.out.trans (HBr.out.mono C4.out.size))
      obtain ⟨wb0, wb1, wb2, wb3⟩ := want_bounds s5 HRd.out
      obtain ⟨gt, ot, rfl, hgt, hct⟩ := OT4.out.2 (by have := ones_pos s5 G1.out; omega)
      have cl0 : wr.cell? ⟨gt, ot, none⟩ = some (.int .i64 (leadV td : Int)) := by
        have h0 := (HBr.out.cell (p := ⟨gt, ot + 0, none⟩) hgt).trans (hct 0 (ones_pos s5 G1.out))
        rw [ints_atD _ (ones_pos s5 G1.out)] at h0
        exact h0
      obtain ⟨gv, ov, rfl, hgv, hcv⟩ := HV.out.2 (by have := S3.out; omega)
      have hl8 := leadV_lt s5
      have cv0 : wr.cell? ⟨gv, ov + leadV td, none⟩ = some (.int .i64 (wantV vs td)) := (HF.out.cell (p := ⟨gv, ov + leadV td, none⟩) (by show gv < _; omega)).trans (hcv _ (by have := S3.out; omega))
      rw [← HVV.out] at cv0 wb0 wb1 wb3
      have hl0 : (0 : Int) ≤ (leadV td : Int) := by omega
      have hl1 : (leadV td : Int) < (n : Int) := by have := S3.out; omega
      have hpos : (0 : Int) < ((onesTo td 32).length : Int) := by have := ones_pos s5 G1.out; omega
      clear hct hcv OT4 OA4 HK1 HV
      obtain ⟨ya, yb, yc, yd, ye, yf, yg, yh⟩ := xS.out _ HC.out
      generalize leadV td = l at *
      go_wp2_with fail
      go_cut [10] (fun s wx => s = .int .i64 v ∧ Hid (Below wr.heap.size wr wx))
      case first =>
        go_quiet ((fail))
        go_wp2_with fail
        go_meet
        exact ⟨rfl, bel_drewN (Below.refl _ _) _⟩
      case rest =>
        obtain ⟨rfl, HB5⟩ := hcut
        generalize wc = W5 at *
        have HFw : Hid (Below w.heap.size w W5) := HF.out.trans (HB5.out.mono HF.out.size)
        have HCw : Hid (Below w1.heap.size w1 W5) := HC.out.trans (HB5.out.mono HC.out.size)
        clear ya yb yc yd ye yf yg yh cl0 cv0 HF HC HB5 HBr
        obtain ⟨ya, yb, yc, yd, ye, yf, yg, yh⟩ := xS.out _ HCw.out
        go_upto_region 21 with (fail)
        go_cut [158] (fun s wx => s = .bool false ∧ wx = W5)
        case first =>
          rcases HE1.out with e1 | ⟨e1, e2⟩
          · go_wp2_with fail; go_meet; exact ⟨rfl, rfl⟩
          · go_wp2_with fail; go_meet; exact ⟨rfl, rfl⟩
        case rest =>
          obtain ⟨rfl, rfl⟩ := hcut
          try generalize wc = W5 at *
          rcases HD.out with d1 | ⟨d1, d2⟩ | ⟨d1, d2, d3, d4⟩ | ⟨d1, d2, d3⟩
          · rw [d1] at HR
            go_wp2
            go_quiet ((fail))
            go_wp2
            go_ret
            exact ⟨by rw [HR.out]; rfl, bel_drewN HFw.out _⟩
          · rw [d1, d2] at HR
            go_wp2
            go_quiet ((fail))
            go_wp2
            go_ret
            exact ⟨by rw [HR.out]; rfl, bel_drewN HFw.out _⟩
          · rw [d1, d2] at HR
            go_wp2
            go_quiet ((fail))
            go_wp2
            go_ret
            exact ⟨by rw [HR.out]; rfl, bel_drewN HFw.out _⟩
          · rw [d1, d2] at HR
            go_wp2
            go_quiet ((fail))
            go_wp2
            go_ret
            exact ⟨by rw [HR.out]; rfl, bel_drewN HFw.out _⟩

end Go.Proofs.YtefcaeldkdbjdaaGreat
