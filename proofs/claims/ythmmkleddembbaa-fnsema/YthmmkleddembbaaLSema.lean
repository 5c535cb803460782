/- FnSema: no more units are handed out than existed and arrived, and every reservation is covered. Proved for every code. No condition. -/
import Derived.Test.YthmmkleddembbaaSSema
import Derived.Test.YthmmkleddembbaaISemaW
import Derived.Test.YthmmkleddembbaaSemaL
import Derived.Test.YthmmkleddembbaaPickG
import Derived.Test.YthmmkleddembbaaOpenY
import Derived.Deep.RegionHeld3
import Derived.Deep.DeepCutAuto
namespace Go.Proofs.Ythmmkleddembbaa
open Go.ChangeShapes Go.WideShapes Go.ChangeAt Go.RowKit
set_option linter.unusedVariables false

set_option maxRecDepth 100000 in
set_option maxHeartbeats 8000000 in
theorem fnSema_walk (A : Option Addr) (n c : Nat) (bs : List Int) (w0 : World) (h : RdK .u8 w0 w0.heap.size A n bs) (hm0 : n ≤ maxLen) (hf : ∀ z ∈ bs, 0 ≤ z ∧ z < 256) :
    Calls Try.prog 3 #[.slice A n c] w0 fun e w' => e = .returned (.bool true) ∧ Below w0.heap.size w0 w' := by
  have H := Lib.hid h
  have HF := Lib.hid hf
  clear h hf
  by_cases hn' : n ≤ 1048576
  · have hn : ¬ (1048576 : Int) < (n : Int) := by omega
    obtain ⟨L, hL, hL2⟩ : ∃ L : Nat, (if (n : Int) < 30 then (n : Int) else 30) = (L : Int) ∧ L ≤ 30 := by
      by_cases h30 : (n : Int) < 30
      · exact ⟨n, by rw [if_pos h30], by omega⟩
      · exact ⟨30, by rw [if_neg h30]; rfl, by omega⟩
    go_enter Try.func3, Try.ntmps3
    go_wp2_with fail
    refine (big_any A n c w0).mono ?_
    rintro e w1 ⟨rfl, rfl⟩
    go_wp2_with fail
    refine (pickG_any A n c w0.heap.size bs 3 9 _ H.out HF.out hn' (by omega) (by omega) (by omega)).mono ?_
    rintro e w1 ⟨r0, rfl, hr0, rfl⟩
    have r0i : ((r0 : Nat) : Int) < 9 := by omega
    clear hr0
    go_wp2
    go_loopw [4, 5, 6, 7, 8] (fun cm gv ws du k wr => ∃ (K : Nat) (M G C E R : Int) (A' : Option Addr) (m cp : Nat) (zs : List Int), K ≤ L ∧ k = .int .i64 K ∧ cm = .int .i64 M ∧ gv = .int .i64 G ∧ du = .int .i64 E ∧ ws = .slice A' m cp ∧
      Hid (SInv K C E R M G E zs) ∧ Hid (OffK wr (w0.heap.size + 1) A' m cp zs) ∧ Hid (S3 wr w0.heap.size C E R) ∧ Hid (Below w0.heap.size w0 wr)) (fun _ _ _ _ k _ => L - (intOf k).toNat)
    case atStart =>
      refine ⟨0, (r0 : Int), 0, (r0 : Int), 0, 0, _, _, _, [], by omega, rfl, rfl, rfl, rfl, rfl, ⟨by omega, rfl, rfl, by omega, by omega, by omega, by omega, fun _ h => by simp at h, by simp, by omega⟩, ⟨rfl, by omega, by unfold maxLen; omega, .inl rfl⟩, ?_, ?_⟩
      · exact (S3.new w0 _ _ _ _).alloc _
      · exact (by repeat (first | exact Below.refl _ _ | refine Below.drew ?_ | refine Below.setCell ?_ (by first | omega | (simp; done) | (simp; omega) | (simp [*]; done)) _ | refine Below.alloc ?_ (by first | omega | (simp; done) | (simp; omega) | (simp [*]; done)) _))
    case round =>
      obtain ⟨K, M, G, C, E, R, A', m, cp, zs, hK, rfl, rfl, rfl, rfl, rfl, HI, HO, HS, HB⟩ := hrel
      by_cases hlt : K < L
      · have hk1 : ((K : Nat) : Int) < 30 := by omega
        obtain ⟨lb, ⟨c0, c1, c2⟩, f0, f1, f2⟩ := HS.out
        have hz0 := HB.out.size
        obtain ⟨b1, b2, b3, b4⟩ := HI.out.good (by omega)
        have gb1 := HI.out.2.2.2.1
        have gb2 := HI.out.2.2.2.2.1
        have gb3 : M ≤ 1000 := by have := HI.out.2.2.2.2.2.2.1; have := HI.out.2.2.2.2.2.1; omega
        have H1 := Lib.hid (pickG_any A n c w0.heap.size bs K 5 wr (H.out.below HB.out) HF.out hn' (by omega) (by omega) (by omega))
        have H2 := Lib.hid (pickG_any A n c w0.heap.size bs (K + 1) 3 wr (H.out.below HB.out) HF.out hn' (by omega) (by omega) (by omega))
        rw [show ((K + 1 : Nat) : Int) = (K : Int) + 1 by omega] at H2
        go_wp2_with fail
        refine H1.out.mono ?_
        rintro e wx ⟨r1, rfl, hr1, rfl⟩
        obtain ⟨x, hx⟩ : ∃ x : Int, (1 : Int) + (r1 : Int) = x := ⟨_, rfl⟩
        have x1 : 1 ≤ x := by omega
        have x2 : x ≤ 5 := by omega
        have r1i : ((r1 : Nat) : Int) < 5 := by omega
        go_wp2_with fail
        refine H2.out.mono ?_
        rintro e wx ⟨r2, rfl, hr2, rfl⟩
        clear H1 H2 hr1
        obtain rfl | rfl | rfl : r2 = 0 ∨ r2 = 1 ∨ r2 = 2 := by omega

        · have HG := Lib.hid (HI.out.good (by omega))
          have HGI := Lib.hid (show SemaGood C E R ∧ IsAmt x ∧ IsAmt 6 from ⟨HG.out, ⟨x1, by omega⟩, by omega, by omega⟩)
          have HW := Lib.hid (fun W => semaWant_any C E R x 6 W)
          have HT := Lib.hid (fun W => sSemaWant_any C E R x 6 W)
          by_cases h1 : x ≤ C - R
          · have HN := Lib.hid (HI.out.now x1 h1)
            have HE : wantV C E R x 6 = ((C - x), E, R, 1) := (want_now HGI.out h1).1
            rw [HE] at HW HT
            clear HE
            obtain ⟨C1, hC1⟩ : ∃ C1 : Int, C - x = C1 := ⟨_, rfl⟩
            obtain ⟨G1, hG1⟩ : ∃ G1 : Int, G + x = G1 := ⟨_, rfl⟩
            rw [hC1] at HW HT
            rw [hC1, hG1] at HN
            simp only [wantA] at HW HT
            clear HI HG HGI h1
            go_wp2_with fail
            refine (HW.out _).mono ?_
            rintro e w2 ⟨rfl, hb2⟩
            have S2 := Lib.hid (HS.out.below hb2 lb)
            have O2 := Lib.hid (HO.out.below hb2)
            have B2 : Hid (Below w0.heap.size w0 w2) := (by repeat (first | exact Below.refl _ _ | refine Below.drew ?_ | refine Below.setCell ?_ (by first | omega | (simp; done) | (simp; omega) | (simp [*]; done)) _ | refine Below.alloc ?_ (by first | omega | (simp; done) | (simp; omega) | (simp [*]; done)) _ | refine Below.trans ?_ (Below.mono (HB.out) (by first | omega | (simp; done) | (simp; omega) | (simp [*]; done))) | refine Below.trans ?_ (Below.mono (hb2) (by first | omega | (simp; done) | (simp; omega) | (simp [*]; done)))))
            have z2 := hb2.size
            clear c0 c1 c2 f0 f1 f2 hb2
            obtain ⟨lb2, ⟨c0, c1, c2⟩, f0, f1, f2⟩ := S2.out
            go_wp2_with fail
            refine (HT.out _).mono ?_
            rintro e w3 ⟨rfl, hb3⟩
            have S3' := Lib.hid (S3.below (S2.out.alloc _) hb3 (by rw [World.size_alloc]; omega))
            have T3 := Lib.hid (S3.below (S3.new w2 _ _ _ _) hb3 (by rw [World.size_alloc]; omega))
            have O3 := Lib.hid ((O2.out.alloc _).below hb3)
            have B3 : Hid (Below w0.heap.size w0 w3) := (by repeat (first | exact Below.refl _ _ | refine Below.drew ?_ | refine Below.setCell ?_ (by first | omega | (simp; done) | (simp; omega) | (simp [*]; done)) _ | refine Below.alloc ?_ (by first | omega | (simp; done) | (simp; omega) | (simp [*]; done)) _ | refine Below.trans ?_ (Below.mono (B2.out) (by first | omega | (simp; done) | (simp; omega) | (simp [*]; done))) | refine Below.trans ?_ (Below.mono (hb3) (by first | omega | (simp; done) | (simp; omega) | (simp [*]; done)))))
            have z3 := hb3.size
            simp only [World.size_alloc] at z3
            clear c0 c1 c2 f0 f1 f2 hb3
            obtain ⟨lb3, ⟨c0, c1, c2⟩, f0, f1, f2⟩ := S3'.out
            obtain ⟨lt3, ⟨t0, t1, t2⟩, u0, u1, u2⟩ := T3.out
            have nb : ¬ w2.heap.size = w0.heap.size := by omega
            have nb' : ¬ w0.heap.size = w2.heap.size := by omega
            go_wp2
            go_loopw [18, 19] (fun sm si wr => ∃ j : Nat, j ≤ m ∧ sm = .int .i64 ((zs.take j).sum) ∧ si = .int .i64 (j : Int) ∧ Hid (S3 wr w0.heap.size C1 E R) ∧ Hid (OffK wr (w0.heap.size + 1) A' m cp zs) ∧ Hid (Below w0.heap.size w0 wr)) (fun _ si _ => m - (intOf si).toNat)
            case atStart => exact ⟨0, Nat.zero_le _, rfl, rfl, (((S3'.out.set0 _).set1 _).set2 _).alloc _, (((O3.out.low (Nat.lt_succ_self _) _).low (Nat.lt_succ_self _) _).low (Nat.lt_succ_self _) _).alloc _, (((B3.out.setCell (Nat.le_refl _) _).setCell (Nat.le_refl _) _).setCell (Nat.le_refl _) _).alloc (by simp only [World.size_setCell]; omega) _⟩
            case round =>
              obtain ⟨j, hj, rfl, rfl, HSj, HOj, HBj⟩ := hrel
              have hzl := HOj.out.len
              by_cases hlt : j < m
              · have hjl : j < zs.length := by omega
                obtain ⟨gw, ow, rfl, hgw0, hgw, hcw⟩ := HOj.out.form (by omega)
                have cj := hcw j hlt
                have hts := Lib.hid (sum_take_next hjl)
                have hb1 := take_sum HN.out.2.2.2.2.2.2.2.1 j
                have hb2 := take_sum HN.out.2.2.2.2.2.2.2.1 (j + 1)
                have hml : m ≤ 30 := by have := HN.out.2.2.2.2.2.2.2.2.1; omega
                rw [hts.out] at hb2
                clear hcw
                generalize zs[j]?.getD 0 = zj at *
                generalize (zs.take j).sum = sj at *
                go_wp2
                go_roundw
                case rel => exact ⟨j + 1, by omega, by rw [hts.out], by go_num, HSj, HOj, HBj⟩
                case measure => simp [intOf]; omega
              · obtain rfl : j = m := by omega
                have hsum : (zs.take j).sum = R := by rw [List.take_of_length_le (by omega)]; exact HN.out.2.2.1.symm
                rw [hsum]
                clear hsum
                have HK := Lib.hid (fun W => sSemaOk_any C1 E R W)
                rw [decide_eq_true (HN.out.good (by omega))] at HK
                have hcm : M - G1 = C1 := HN.out.1.symm
                have hgm : ¬ M < G1 := by have := HN.out.2.2.2.2.1; omega
                have hg0 := HN.out.2.2.2.1
                have hmt : M ≤ 1000 := by have := HN.out.2.2.2.2.2.2.1; have := HN.out.2.2.2.2.2.1; omega
                obtain ⟨lbj, ⟨c0, c1, c2⟩, f0, f1, f2⟩ := HSj.out
                go_wp2_with fail
                refine (HK.out _).mono ?_
                rintro e wk ⟨rfl, hbk⟩
                have Sk := Lib.hid (HSj.out.below hbk lbj)
                have Ok := Lib.hid (HOj.out.below hbk)
                have Bk : Hid (Below w0.heap.size w0 wk) := (by repeat (first | exact Below.refl _ _ | refine Below.drew ?_ | refine Below.setCell ?_ (by first | omega | (simp; done) | (simp; omega) | (simp [*]; done)) _ | refine Below.alloc ?_ (by first | omega | (simp; done) | (simp; omega) | (simp [*]; done)) _ | refine Below.trans ?_ (Below.mono (HBj.out) (by first | omega | (simp; done) | (simp; omega) | (simp [*]; done))) | refine Below.trans ?_ (Below.mono (hbk) (by first | omega | (simp; done) | (simp; omega) | (simp [*]; done)))))
                clear c0 c1 c2 f0 f1 f2 hbk lbj HSj HOj HBj HK
                obtain ⟨lbk, ⟨c0, c1, c2⟩, f0, f1, f2⟩ := Sk.out
                go_wp2
                go_roundw
                case rel => exact ⟨K + 1, M, G1, C1, E, R, A', j, cp, zs, by omega, rfl, rfl, rfl, rfl, by go_num, HN, Ok, Sk, Bk⟩
                case measure => simp [intOf]; omega

          · by_cases h2 : x ≤ C + E - R
            · have HN := Lib.hid (HI.out.wait x1 x2 h2)
              have HE : wantV C E R x 6 = (C, E, (R + x), 2) := (want_wait HGI.out h1 h2).trans (if_pos ((HI.out.wait x1 x2 h2).good (by omega)))
              rw [HE] at HW HT
              clear HE
              obtain ⟨R1, hR1⟩ : ∃ R1 : Int, R + x = R1 := ⟨_, rfl⟩
              rw [hR1] at HW HT
              rw [hR1] at HN
              simp only [wantA] at HW HT
              clear HI HG HGI h1 h2
              go_wp2_with fail
              refine (HW.out _).mono ?_
              rintro e w2 ⟨rfl, hb2⟩
              have S2 := Lib.hid (HS.out.below hb2 lb)
              have O2 := Lib.hid (HO.out.below hb2)
              have B2 : Hid (Below w0.heap.size w0 w2) := (by repeat (first | exact Below.refl _ _ | refine Below.drew ?_ | refine Below.setCell ?_ (by first | omega | (simp; done) | (simp; omega) | (simp [*]; done)) _ | refine Below.alloc ?_ (by first | omega | (simp; done) | (simp; omega) | (simp [*]; done)) _ | refine Below.trans ?_ (Below.mono (HB.out) (by first | omega | (simp; done) | (simp; omega) | (simp [*]; done))) | refine Below.trans ?_ (Below.mono (hb2) (by first | omega | (simp; done) | (simp; omega) | (simp [*]; done)))))
              have z2 := hb2.size
              clear c0 c1 c2 f0 f1 f2 hb2
              obtain ⟨lb2, ⟨c0, c1, c2⟩, f0, f1, f2⟩ := S2.out
              go_wp2_with fail
              refine (HT.out _).mono ?_
              rintro e w3 ⟨rfl, hb3⟩
              have S3' := Lib.hid (S3.below (S2.out.alloc _) hb3 (by rw [World.size_alloc]; omega))
              have T3 := Lib.hid (S3.below (S3.new w2 _ _ _ _) hb3 (by rw [World.size_alloc]; omega))
              have O3 := Lib.hid ((O2.out.alloc _).below hb3)
              have B3 : Hid (Below w0.heap.size w0 w3) := (by repeat (first | exact Below.refl _ _ | refine Below.drew ?_ | refine Below.setCell ?_ (by first | omega | (simp; done) | (simp; omega) | (simp [*]; done)) _ | refine Below.alloc ?_ (by first | omega | (simp; done) | (simp; omega) | (simp [*]; done)) _ | refine Below.trans ?_ (Below.mono (B2.out) (by first | omega | (simp; done) | (simp; omega) | (simp [*]; done))) | refine Below.trans ?_ (Below.mono (hb3) (by first | omega | (simp; done) | (simp; omega) | (simp [*]; done)))))
              have z3 := hb3.size
              simp only [World.size_alloc] at z3
              clear c0 c1 c2 f0 f1 f2 hb3
              obtain ⟨lb3, ⟨c0, c1, c2⟩, f0, f1, f2⟩ := S3'.out
              obtain ⟨lt3, ⟨t0, t1, t2⟩, u0, u1, u2⟩ := T3.out
              have nb : ¬ w2.heap.size = w0.heap.size := by omega
              have nb' : ¬ w0.heap.size = w2.heap.size := by omega
              have hl := O3.out.len
              obtain ⟨zs1, hzs1⟩ : ∃ u : List Int, zs ++ [x] = u := ⟨_, rfl⟩
              have hm1 : m ≤ 1000000 := by have := HN.out.2.2.2.2.2.2.2.2.1; simp at this; omega
              rw [hzs1] at HN
              go_wp2_with (at_builtin; refine wpList_push_offg rfl (.tmp 96) (.tmp 98) rfl (w0.heap.size + 1) m cp A' zs x _ rfl rfl (by simp only [World.size_alloc, World.size_setCell]) ((((O3.out.low (Nat.lt_succ_self _) _).low (Nat.lt_succ_self _) _).low (Nat.lt_succ_self _) _).alloc _) hm1 (by simp only [World.size_alloc, World.size_setCell]; omega) ?_; intro A2 cp2 w4 HO4 HB4)
              rw [hzs1] at HO4
              clear hzs1
              obtain ⟨m2, hm2⟩ : ∃ u : Nat, m + 1 = u := ⟨_, rfl⟩
              rw [hm2] at HO4 ⊢
              have S4 : Hid (S3 w4 w0.heap.size C E R1) := S3.below (b := w0.heap.size) ((((S3'.out.set0 _).set1 _).set2 _).alloc _) HB4.out (by omega)
              have B4 : Hid (Below w0.heap.size w0 w4) := (((((B3.out.setCell (Nat.le_refl _) _).setCell (Nat.le_refl _) _).setCell (Nat.le_refl _) _).alloc (by simp only [World.size_setCell]; omega) _).trans (HB4.out.mono (by omega)))
              clear c0 c1 c2 f0 f1 f2 t0 t1 t2 u0 u1 u2 HB4 T3 S3' O3 B3 hm1
              go_wp2
              go_loopw [18, 19] (fun sm si wr => ∃ j : Nat, j ≤ m2 ∧ sm = .int .i64 ((zs1.take j).sum) ∧ si = .int .i64 (j : Int) ∧ Hid (S3 wr w0.heap.size C E R1) ∧ Hid (OffK wr (w0.heap.size + 1) A2 m2 cp2 zs1) ∧ Hid (Below w0.heap.size w0 wr)) (fun _ si _ => m2 - (intOf si).toNat)
              case atStart => exact ⟨0, Nat.zero_le _, rfl, rfl, S4, HO4, B4⟩
              case round =>
                obtain ⟨j, hj, rfl, rfl, HSj, HOj, HBj⟩ := hrel
                have hzl := HOj.out.len
                by_cases hlt : j < m2
                · have hjl : j < zs1.length := by omega
                  obtain ⟨gw, ow, rfl, hgw0, hgw, hcw⟩ := HOj.out.form (by omega)
                  have cj := hcw j hlt
                  have hts := Lib.hid (sum_take_next hjl)
                  have hb1 := take_sum HN.out.2.2.2.2.2.2.2.1 j
                  have hb2 := take_sum HN.out.2.2.2.2.2.2.2.1 (j + 1)
                  have hml : m2 ≤ 30 := by have := HN.out.2.2.2.2.2.2.2.2.1; omega
                  rw [hts.out] at hb2
                  clear hcw
                  generalize zs1[j]?.getD 0 = zj at *
                  generalize (zs1.take j).sum = sj at *
                  go_wp2
                  go_roundw
                  case rel => exact ⟨j + 1, by omega, by rw [hts.out], by go_num, HSj, HOj, HBj⟩
                  case measure => simp [intOf]; omega
                · obtain rfl : j = m2 := by omega
                  have hsum : (zs1.take j).sum = R1 := by rw [List.take_of_length_le (by omega)]; exact HN.out.2.2.1.symm
                  rw [hsum]
                  clear hsum
                  have HK := Lib.hid (fun W => sSemaOk_any C E R1 W)
                  rw [decide_eq_true (HN.out.good (by omega))] at HK
                  have hcm : M - G = C := HN.out.1.symm
                  have hgm : ¬ M < G := by have := HN.out.2.2.2.2.1; omega
                  have hg0 := HN.out.2.2.2.1
                  have hmt : M ≤ 1000 := by have := HN.out.2.2.2.2.2.2.1; have := HN.out.2.2.2.2.2.1; omega
                  obtain ⟨lbj, ⟨c0, c1, c2⟩, f0, f1, f2⟩ := HSj.out
                  go_wp2_with fail
                  refine (HK.out _).mono ?_
                  rintro e wk ⟨rfl, hbk⟩
                  have Sk := Lib.hid (HSj.out.below hbk lbj)
                  have Ok := Lib.hid (HOj.out.below hbk)
                  have Bk : Hid (Below w0.heap.size w0 wk) := (by repeat (first | exact Below.refl _ _ | refine Below.drew ?_ | refine Below.setCell ?_ (by first | omega | (simp; done) | (simp; omega) | (simp [*]; done)) _ | refine Below.alloc ?_ (by first | omega | (simp; done) | (simp; omega) | (simp [*]; done)) _ | refine Below.trans ?_ (Below.mono (HBj.out) (by first | omega | (simp; done) | (simp; omega) | (simp [*]; done))) | refine Below.trans ?_ (Below.mono (hbk) (by first | omega | (simp; done) | (simp; omega) | (simp [*]; done)))))
                  clear c0 c1 c2 f0 f1 f2 hbk lbj HSj HOj HBj HK
                  obtain ⟨lbk, ⟨c0, c1, c2⟩, f0, f1, f2⟩ := Sk.out
                  go_wp2
                  go_roundw
                  case rel => exact ⟨K + 1, M, G, C, E, R1, A2, j, cp2, zs1, by omega, rfl, rfl, rfl, rfl, by go_num, HN, Ok, Sk, Bk⟩
                  case measure => simp [intOf]; omega

            · have HN := Lib.hid (HI.out.make x1 x2)
              have HE : wantV C E R x 6 = (C, (E + 6), (R + x), 3) := (want_make HGI.out h1 h2 (by omega)).trans (if_pos ((HI.out.make x1 x2).good (by omega)))
              rw [HE] at HW HT
              clear HE
              obtain ⟨E1, hE1⟩ : ∃ E1 : Int, E + 6 = E1 := ⟨_, rfl⟩
              obtain ⟨R1, hR1⟩ : ∃ R1 : Int, R + x = R1 := ⟨_, rfl⟩
              rw [hE1, hR1] at HW HT
              rw [hE1, hR1] at HN
              simp only [wantA] at HW HT
              clear HI HG HGI h1 h2
              go_wp2_with fail
              refine (HW.out _).mono ?_
              rintro e w2 ⟨rfl, hb2⟩
              have S2 := Lib.hid (HS.out.below hb2 lb)
              have O2 := Lib.hid (HO.out.below hb2)
              have B2 : Hid (Below w0.heap.size w0 w2) := (by repeat (first | exact Below.refl _ _ | refine Below.drew ?_ | refine Below.setCell ?_ (by first | omega | (simp; done) | (simp; omega) | (simp [*]; done)) _ | refine Below.alloc ?_ (by first | omega | (simp; done) | (simp; omega) | (simp [*]; done)) _ | refine Below.trans ?_ (Below.mono (HB.out) (by first | omega | (simp; done) | (simp; omega) | (simp [*]; done))) | refine Below.trans ?_ (Below.mono (hb2) (by first | omega | (simp; done) | (simp; omega) | (simp [*]; done)))))
              have z2 := hb2.size
              clear c0 c1 c2 f0 f1 f2 hb2
              obtain ⟨lb2, ⟨c0, c1, c2⟩, f0, f1, f2⟩ := S2.out
              go_wp2_with fail
              refine (HT.out _).mono ?_
              rintro e w3 ⟨rfl, hb3⟩
              have S3' := Lib.hid (S3.below (S2.out.alloc _) hb3 (by rw [World.size_alloc]; omega))
              have T3 := Lib.hid (S3.below (S3.new w2 _ _ _ _) hb3 (by rw [World.size_alloc]; omega))
              have O3 := Lib.hid ((O2.out.alloc _).below hb3)
              have B3 : Hid (Below w0.heap.size w0 w3) := (by repeat (first | exact Below.refl _ _ | refine Below.drew ?_ | refine Below.setCell ?_ (by first | omega | (simp; done) | (simp; omega) | (simp [*]; done)) _ | refine Below.alloc ?_ (by first | omega | (simp; done) | (simp; omega) | (simp [*]; done)) _ | refine Below.trans ?_ (Below.mono (B2.out) (by first | omega | (simp; done) | (simp; omega) | (simp [*]; done))) | refine Below.trans ?_ (Below.mono (hb3) (by first | omega | (simp; done) | (simp; omega) | (simp [*]; done)))))
              have z3 := hb3.size
              simp only [World.size_alloc] at z3
              clear c0 c1 c2 f0 f1 f2 hb3
              obtain ⟨lb3, ⟨c0, c1, c2⟩, f0, f1, f2⟩ := S3'.out
              obtain ⟨lt3, ⟨t0, t1, t2⟩, u0, u1, u2⟩ := T3.out
              have nb : ¬ w2.heap.size = w0.heap.size := by omega
              have nb' : ¬ w0.heap.size = w2.heap.size := by omega
              have hl := O3.out.len
              obtain ⟨zs1, hzs1⟩ : ∃ u : List Int, zs ++ [x] = u := ⟨_, rfl⟩
              have hm1 : m ≤ 1000000 := by have := HN.out.2.2.2.2.2.2.2.2.1; simp at this; omega
              rw [hzs1] at HN
              go_wp2_with (at_builtin; refine wpList_push_offg rfl (.tmp 96) (.tmp 98) rfl (w0.heap.size + 1) m cp A' zs x _ rfl rfl (by simp only [World.size_alloc, World.size_setCell]) ((((O3.out.low (Nat.lt_succ_self _) _).low (Nat.lt_succ_self _) _).low (Nat.lt_succ_self _) _).alloc _) hm1 (by simp only [World.size_alloc, World.size_setCell]; omega) ?_; intro A2 cp2 w4 HO4 HB4)
              rw [hzs1] at HO4
              clear hzs1
              obtain ⟨m2, hm2⟩ : ∃ u : Nat, m + 1 = u := ⟨_, rfl⟩
              rw [hm2] at HO4 ⊢
              have S4 : Hid (S3 w4 w0.heap.size C E1 R1) := S3.below (b := w0.heap.size) ((((S3'.out.set0 _).set1 _).set2 _).alloc _) HB4.out (by omega)
              have B4 : Hid (Below w0.heap.size w0 w4) := (((((B3.out.setCell (Nat.le_refl _) _).setCell (Nat.le_refl _) _).setCell (Nat.le_refl _) _).alloc (by simp only [World.size_setCell]; omega) _).trans (HB4.out.mono (by omega)))
              clear c0 c1 c2 f0 f1 f2 t0 t1 t2 u0 u1 u2 HB4 T3 S3' O3 B3 hm1
              go_wp2
              go_loopw [18, 19] (fun sm si wr => ∃ j : Nat, j ≤ m2 ∧ sm = .int .i64 ((zs1.take j).sum) ∧ si = .int .i64 (j : Int) ∧ Hid (S3 wr w0.heap.size C E1 R1) ∧ Hid (OffK wr (w0.heap.size + 1) A2 m2 cp2 zs1) ∧ Hid (Below w0.heap.size w0 wr)) (fun _ si _ => m2 - (intOf si).toNat)
              case atStart => exact ⟨0, Nat.zero_le _, rfl, rfl, S4, HO4, B4⟩
              case round =>
                obtain ⟨j, hj, rfl, rfl, HSj, HOj, HBj⟩ := hrel
                have hzl := HOj.out.len
                by_cases hlt : j < m2
                · have hjl : j < zs1.length := by omega
                  obtain ⟨gw, ow, rfl, hgw0, hgw, hcw⟩ := HOj.out.form (by omega)
                  have cj := hcw j hlt
                  have hts := Lib.hid (sum_take_next hjl)
                  have hb1 := take_sum HN.out.2.2.2.2.2.2.2.1 j
                  have hb2 := take_sum HN.out.2.2.2.2.2.2.2.1 (j + 1)
                  have hml : m2 ≤ 30 := by have := HN.out.2.2.2.2.2.2.2.2.1; omega
                  rw [hts.out] at hb2
                  clear hcw
                  generalize zs1[j]?.getD 0 = zj at *
                  generalize (zs1.take j).sum = sj at *
                  go_wp2
                  go_roundw
                  case rel => exact ⟨j + 1, by omega, by rw [hts.out], by go_num, HSj, HOj, HBj⟩
                  case measure => simp [intOf]; omega
                · obtain rfl : j = m2 := by omega
                  have hsum : (zs1.take j).sum = R1 := by rw [List.take_of_length_le (by omega)]; exact HN.out.2.2.1.symm
                  rw [hsum]
                  clear hsum
                  have HK := Lib.hid (fun W => sSemaOk_any C E1 R1 W)
                  rw [decide_eq_true (HN.out.good (by omega))] at HK
                  have hcm : M - G = C := HN.out.1.symm
                  have hgm : ¬ M < G := by have := HN.out.2.2.2.2.1; omega
                  have hg0 := HN.out.2.2.2.1
                  have hmt : M ≤ 1000 := by have := HN.out.2.2.2.2.2.2.1; have := HN.out.2.2.2.2.2.1; omega
                  obtain ⟨lbj, ⟨c0, c1, c2⟩, f0, f1, f2⟩ := HSj.out
                  go_wp2_with fail
                  refine (HK.out _).mono ?_
                  rintro e wk ⟨rfl, hbk⟩
                  have Sk := Lib.hid (HSj.out.below hbk lbj)
                  have Ok := Lib.hid (HOj.out.below hbk)
                  have Bk : Hid (Below w0.heap.size w0 wk) := (by repeat (first | exact Below.refl _ _ | refine Below.drew ?_ | refine Below.setCell ?_ (by first | omega | (simp; done) | (simp; omega) | (simp [*]; done)) _ | refine Below.alloc ?_ (by first | omega | (simp; done) | (simp; omega) | (simp [*]; done)) _ | refine Below.trans ?_ (Below.mono (HBj.out) (by first | omega | (simp; done) | (simp; omega) | (simp [*]; done))) | refine Below.trans ?_ (Below.mono (hbk) (by first | omega | (simp; done) | (simp; omega) | (simp [*]; done)))))
                  clear c0 c1 c2 f0 f1 f2 hbk lbj HSj HOj HBj HK
                  obtain ⟨lbk, ⟨c0, c1, c2⟩, f0, f1, f2⟩ := Sk.out
                  go_wp2
                  go_roundw
                  case rel => exact ⟨K + 1, M, G, C, E1, R1, A2, j, cp2, zs1, by omega, rfl, rfl, rfl, rfl, by go_num, HN, Ok, Sk, Bk⟩
                  case measure => simp [intOf]; omega

        · by_cases hd : E < 1
          · have HN := Lib.hid HI.out.more
            go_wp2
            go_roundw
            case rel => exact ⟨K + 1, M, G, C, E, R, A', m, cp, zs, by omega, rfl, rfl, rfl, rfl, rfl, HN, HO, HS, HB⟩
            case measure => simp [intOf]; omega
          · obtain ⟨p, hp⟩ : ∃ p : Int, (if E < x then E else x) = p := ⟨_, rfl⟩
            have p1 : 1 ≤ p := by subst hp; split <;> omega
            have p2 : p ≤ E := by subst hp; split <;> omega
            have p3 : p ≤ 5 := by subst hp; split <;> omega
            have HN := Lib.hid (HI.out.post p1 p2)
            have HW := Lib.hid (fun W => semaPost_any C E R p W)
            rw [decide_eq_true (show PostOk C E R p from ⟨⟨p1, by omega⟩, HI.out.good (by omega), HN.out.good (by omega)⟩)] at HW
            simp only [semaIf, if_true] at HW
            obtain ⟨C1, hC1⟩ : ∃ C1 : Int, C + p = C1 := ⟨_, rfl⟩
            obtain ⟨E1, hE1⟩ : ∃ E1 : Int, E - p = E1 := ⟨_, rfl⟩
            obtain ⟨M1, hM1⟩ : ∃ M1 : Int, M + p = M1 := ⟨_, rfl⟩
            rw [hC1, hE1] at HW
            rw [hC1, hE1, hM1] at HN
            clear HI
            go_wp2_with fail
            refine (HW.out _).mono ?_
            rintro e w2 ⟨rfl, hb2⟩
            have S2 := Lib.hid (HS.out.below hb2 lb)
            have O2 := Lib.hid (HO.out.below hb2)
            have B2 : Hid (Below w0.heap.size w0 w2) := (by repeat (first | exact Below.refl _ _ | refine Below.drew ?_ | refine Below.setCell ?_ (by first | omega | (simp; done) | (simp; omega) | (simp [*]; done)) _ | refine Below.alloc ?_ (by first | omega | (simp; done) | (simp; omega) | (simp [*]; done)) _ | refine Below.trans ?_ (Below.mono (HB.out) (by first | omega | (simp; done) | (simp; omega) | (simp [*]; done))) | refine Below.trans ?_ (Below.mono (hb2) (by first | omega | (simp; done) | (simp; omega) | (simp [*]; done)))))
            have z2 := hb2.size
            clear c0 c1 c2 f0 f1 f2 hb2
            obtain ⟨lb2, ⟨c0, c1, c2⟩, f0, f1, f2⟩ := S2.out
            have nb : ¬ w2.heap.size = w0.heap.size := by omega
            have nb' : ¬ w0.heap.size = w2.heap.size := by omega
            go_wp2
            go_loopw [18, 19] (fun sm si wr => ∃ j : Nat, j ≤ m ∧ sm = .int .i64 ((zs.take j).sum) ∧ si = .int .i64 (j : Int) ∧ Hid (S3 wr w0.heap.size C1 E1 R) ∧ Hid (OffK wr (w0.heap.size + 1) A' m cp zs) ∧ Hid (Below w0.heap.size w0 wr)) (fun _ si _ => m - (intOf si).toNat)
            case atStart => exact ⟨0, Nat.zero_le _, rfl, rfl, (((S2.out.set0 _).set1 _).set2 _).alloc _, (((O2.out.low (Nat.lt_succ_self _) _).low (Nat.lt_succ_self _) _).low (Nat.lt_succ_self _) _).alloc _, (((B2.out.setCell (Nat.le_refl _) _).setCell (Nat.le_refl _) _).setCell (Nat.le_refl _) _).alloc (by simp only [World.size_setCell]; omega) _⟩
            case round =>
              obtain ⟨j, hj, rfl, rfl, HSj, HOj, HBj⟩ := hrel
              have hzl := HOj.out.len
              by_cases hlt : j < m
              · have hjl : j < zs.length := by omega
                obtain ⟨gw, ow, rfl, hgw0, hgw, hcw⟩ := HOj.out.form (by omega)
                have cj := hcw j hlt
                have hts := Lib.hid (sum_take_next hjl)
                have hb1 := take_sum HN.out.2.2.2.2.2.2.2.1 j
                have hb2 := take_sum HN.out.2.2.2.2.2.2.2.1 (j + 1)
                have hml : m ≤ 30 := by have := HN.out.2.2.2.2.2.2.2.2.1; omega
                rw [hts.out] at hb2
                clear hcw
                generalize zs[j]?.getD 0 = zj at *
                generalize (zs.take j).sum = sj at *
                go_wp2
                go_roundw
                case rel => exact ⟨j + 1, by omega, by rw [hts.out], by go_num, HSj, HOj, HBj⟩
                case measure => simp [intOf]; omega
              · obtain rfl : j = m := by omega
                have hsum : (zs.take j).sum = R := by rw [List.take_of_length_le (by omega)]; exact HN.out.2.2.1.symm
                rw [hsum]
                clear hsum
                have HK := Lib.hid (fun W => sSemaOk_any C1 E1 R W)
                rw [decide_eq_true (HN.out.good (by omega))] at HK
                have hcm : M1 - G = C1 := HN.out.1.symm
                have hgm : ¬ M1 < G := by have := HN.out.2.2.2.2.1; omega
                have hg0 := HN.out.2.2.2.1
                have hmt : M1 ≤ 1000 := by have := HN.out.2.2.2.2.2.2.1; have := HN.out.2.2.2.2.2.1; omega
                obtain ⟨lbj, ⟨c0, c1, c2⟩, f0, f1, f2⟩ := HSj.out
                go_wp2_with fail
                refine (HK.out _).mono ?_
                rintro e wk ⟨rfl, hbk⟩
                have Sk := Lib.hid (HSj.out.below hbk lbj)
                have Ok := Lib.hid (HOj.out.below hbk)
                have Bk : Hid (Below w0.heap.size w0 wk) := (by repeat (first | exact Below.refl _ _ | refine Below.drew ?_ | refine Below.setCell ?_ (by first | omega | (simp; done) | (simp; omega) | (simp [*]; done)) _ | refine Below.alloc ?_ (by first | omega | (simp; done) | (simp; omega) | (simp [*]; done)) _ | refine Below.trans ?_ (Below.mono (HBj.out) (by first | omega | (simp; done) | (simp; omega) | (simp [*]; done))) | refine Below.trans ?_ (Below.mono (hbk) (by first | omega | (simp; done) | (simp; omega) | (simp [*]; done)))))
                clear c0 c1 c2 f0 f1 f2 hbk lbj HSj HOj HBj HK
                obtain ⟨lbk, ⟨c0, c1, c2⟩, f0, f1, f2⟩ := Sk.out
                go_wp2
                go_roundw
                case rel => exact ⟨K + 1, M1, G, C1, E1, R, A', j, cp, zs, by omega, rfl, rfl, rfl, rfl, by go_num, HN, Ok, Sk, Bk⟩
                case measure => simp [intOf]; omega

        · by_cases hm0 : m = 0
          · have HN := Lib.hid HI.out.more
            subst hm0
            go_wp2
            go_roundw
            case rel => exact ⟨K + 1, M, G, C, E, R, A', 0, cp, zs, by omega, rfl, rfl, rfl, rfl, rfl, HN, HO, HS, HB⟩
            case measure => simp [intOf]; omega
          · have hmp : 0 < m := by omega
            have hmi : ¬ (m : Int) = 0 := by omega
            have hm3 : (0 : Int) < m := by omega
            obtain ⟨g, o, rfl, hg0, hg, hcw⟩ := HO.out.form hmp
            obtain ⟨z, zt, hzs⟩ : ∃ z zt, zs = z :: zt := by
              have := HO.out.len
              cases zs with
              | nil => simp at this; omega
              | cons a b => exact ⟨_, _, rfl⟩
            have c3 := hcw 0 hmp
            rw [hzs] at c3
            simp only [Nat.add_zero, List.getElem?_cons_zero, Option.getD_some] at c3
            have HZ := Lib.hid hzs
            have HI2 := HI
            rw [hzs] at HI2
            have hz1 := (HI2.out.2.2.2.2.2.2.2.1 z (List.mem_cons_self ..))
            have HQ := HI2.out.serveOk (by omega)
            have HW := Lib.hid (fun W => semaServe_any C E R z W)
            rw [HQ] at HW
            obtain ⟨C2, E2, R2, q, hsi, hq, hok⟩ : ∃ (C2 E2 R2 : Int) (q : Bool), semaIf (decide (z ≤ C)) (C - z) E (R - z) = #[.int .i64 C2, .int .i64 E2, .int .i64 R2] ∧ decide (z ≤ C) = q ∧ Hid (q = true → C2 = C - z ∧ E2 = E ∧ R2 = R - z) := by
              by_cases h : z ≤ C
              · exact ⟨C - z, E, R - z, true, by simp [semaIf, h], decide_eq_true h, fun _ => ⟨rfl, rfl, rfl⟩⟩
              · exact ⟨0, 0, 0, false, by simp [semaIf, h], decide_eq_false h, fun k => by cases k⟩
            rw [hsi, hq] at HW
            have HQ2 := Lib.hid hq
            clear hsi hq HQ hzs hcw HI2
            have hgw : ¬ g = wr.heap.size := by omega
            have hbw : ¬ w0.heap.size = wr.heap.size := by omega
            have hgw' : ¬ wr.heap.size = g := by omega
            have hbw' : ¬ wr.heap.size = w0.heap.size := by omega
            have hgb : ¬ g = w0.heap.size := by omega
            have hgb' : ¬ w0.heap.size = g := by omega
            go_wp2_with fail
            go_cut [16, 17] (fun sa sb wx => ∃ bg : Nat, sa = .pointer (some ⟨bg, 0, none⟩) ∧ sb = .bool q ∧ Hid (S3 wx bg C2 E2 R2) ∧ Hid (Below wr.heap.size wr wx) ∧ wr.heap.size ≤ bg)
            case first =>
              have x0 : (wr.cell? ⟨w0.heap.size, 0, none⟩ = some (.int .i64 C) ∧ wr.cell? ⟨w0.heap.size, 1, none⟩ = some (.int .i64 E) ∧ wr.cell? ⟨w0.heap.size, 2, none⟩ = some (.int .i64 R) ∧ wr.cell? ⟨g, o, none⟩ = some (.int .i64 z)) := ⟨c0, c1, c2, c3⟩
              have x0' : (wr.drew.cell? ⟨w0.heap.size, 0, none⟩ = some (.int .i64 C) ∧ wr.drew.cell? ⟨w0.heap.size, 1, none⟩ = some (.int .i64 E) ∧ wr.drew.cell? ⟨w0.heap.size, 2, none⟩ = some (.int .i64 R) ∧ wr.drew.cell? ⟨g, o, none⟩ = some (.int .i64 z)) := x0
              have xB : Hid (∀ w', Below wr.heap.size wr w' → (w'.cell? ⟨w0.heap.size, 0, none⟩ = some (.int .i64 C) ∧ w'.cell? ⟨w0.heap.size, 1, none⟩ = some (.int .i64 E) ∧ w'.cell? ⟨w0.heap.size, 2, none⟩ = some (.int .i64 R) ∧ w'.cell? ⟨g, o, none⟩ = some (.int .i64 z))) := fun w' hb => ⟨(hb.cell (p := ⟨w0.heap.size, 0, none⟩) lb).trans c0, (hb.cell (p := ⟨w0.heap.size, 1, none⟩) lb).trans c1, (hb.cell (p := ⟨w0.heap.size, 2, none⟩) lb).trans c2, (hb.cell (p := ⟨g, o, none⟩) hg).trans c3⟩
              have D0 : Hid (Below wr.heap.size wr wr.drew) := (Below.refl _ _).drew
              have D1 : Hid (Below wr.heap.size wr ((wr.alloc (.cells #[.int .i64 0, .int .i64 0, .int .i64 0] 26)).drew)) := ((Below.refl _ wr).alloc (Nat.le_refl _) _).drew
              have x1 : (((wr.alloc (.cells #[.int .i64 0, .int .i64 0, .int .i64 0] 26)).drew).cell? ⟨w0.heap.size, 0, none⟩ = some (.int .i64 C) ∧ ((wr.alloc (.cells #[.int .i64 0, .int .i64 0, .int .i64 0] 26)).drew).cell? ⟨w0.heap.size, 1, none⟩ = some (.int .i64 E) ∧ ((wr.alloc (.cells #[.int .i64 0, .int .i64 0, .int .i64 0] 26)).drew).cell? ⟨w0.heap.size, 2, none⟩ = some (.int .i64 R) ∧ ((wr.alloc (.cells #[.int .i64 0, .int .i64 0, .int .i64 0] 26)).drew).cell? ⟨g, o, none⟩ = some (.int .i64 z)) := xB.out _ D1.out
              have CFa : Hid (Calls Try.prog 10 #[.agg #[.int .i64 C, .int .i64 E, .int .i64 R], .int .i64 z] wr.drew fun e w' => e = .returned (.tuple #[.agg #[.int .i64 C2, .int .i64 E2, .int .i64 R2], .bool q]) ∧ Hid (Below wr.heap.size wr w')) := (HW.out _).mono fun e w' ⟨he, hb⟩ => ⟨he, D0.out.trans hb⟩
              have CFb : Hid (Calls Try.prog 10 #[.agg #[.int .i64 C, .int .i64 E, .int .i64 R], .int .i64 z] (wr.alloc (.cells #[.int .i64 0, .int .i64 0, .int .i64 0] 26)).drew fun e w' => e = .returned (.tuple #[.agg #[.int .i64 C2, .int .i64 E2, .int .i64 R2], .bool q]) ∧ Hid (Below wr.heap.size wr w') ∧ Hid (S3 w' wr.heap.size 0 0 0)) := (HW.out _).mono fun e w' ⟨he, hb⟩ => ⟨he, D1.out.trans (hb.mono D1.out.size), (show S3 ((wr.alloc (.cells #[.int .i64 0, .int .i64 0, .int .i64 0] 26)).drew) wr.heap.size 0 0 0 from S3.new wr 0 0 0 _).below hb (by show wr.heap.size < (wr.alloc _).heap.size; rw [World.size_alloc]; omega)⟩
              clear HW
              go_region_held3 (fun w' => (w'.cell? ⟨w0.heap.size, 0, none⟩ = some (.int .i64 C) ∧ w'.cell? ⟨w0.heap.size, 1, none⟩ = some (.int .i64 E) ∧ w'.cell? ⟨w0.heap.size, 2, none⟩ = some (.int .i64 R) ∧ w'.cell? ⟨g, o, none⟩ = some (.int .i64 z)))
                (first | exact x0 | exact x0' | exact x1 | exact xd | exact xe | exact xf)
                (first | (go_at_call 10; (with_reducible refine CFa.out.mono ?_); rintro e wd ⟨rfl, BD⟩
                          have xd : (wd.cell? ⟨w0.heap.size, 0, none⟩ = some (.int .i64 C) ∧ wd.cell? ⟨w0.heap.size, 1, none⟩ = some (.int .i64 E) ∧ wd.cell? ⟨w0.heap.size, 2, none⟩ = some (.int .i64 R) ∧ wd.cell? ⟨g, o, none⟩ = some (.int .i64 z)) := xB.out _ BD.out
                          have xe : ((wd.alloc (.cells #[.int .i64 0, .int .i64 0, .int .i64 0] 26)).cell? ⟨w0.heap.size, 0, none⟩ = some (.int .i64 C) ∧ (wd.alloc (.cells #[.int .i64 0, .int .i64 0, .int .i64 0] 26)).cell? ⟨w0.heap.size, 1, none⟩ = some (.int .i64 E) ∧ (wd.alloc (.cells #[.int .i64 0, .int .i64 0, .int .i64 0] 26)).cell? ⟨w0.heap.size, 2, none⟩ = some (.int .i64 R) ∧ (wd.alloc (.cells #[.int .i64 0, .int .i64 0, .int .i64 0] 26)).cell? ⟨g, o, none⟩ = some (.int .i64 z)) := xB.out _ (BD.out.alloc BD.out.size _)
                          have xf : ((wd.alloc (.cells #[.int .i64 C2, .int .i64 E2, .int .i64 R2] 26)).cell? ⟨w0.heap.size, 0, none⟩ = some (.int .i64 C) ∧ (wd.alloc (.cells #[.int .i64 C2, .int .i64 E2, .int .i64 R2] 26)).cell? ⟨w0.heap.size, 1, none⟩ = some (.int .i64 E) ∧ (wd.alloc (.cells #[.int .i64 C2, .int .i64 E2, .int .i64 R2] 26)).cell? ⟨w0.heap.size, 2, none⟩ = some (.int .i64 R) ∧ (wd.alloc (.cells #[.int .i64 C2, .int .i64 E2, .int .i64 R2] 26)).cell? ⟨g, o, none⟩ = some (.int .i64 z)) := xB.out _ (BD.out.alloc BD.out.size _))
                       | (go_at_call 10; (with_reducible refine CFb.out.mono ?_); rintro e wd ⟨rfl, BD, ND⟩
                          have xd : (wd.cell? ⟨w0.heap.size, 0, none⟩ = some (.int .i64 C) ∧ wd.cell? ⟨w0.heap.size, 1, none⟩ = some (.int .i64 E) ∧ wd.cell? ⟨w0.heap.size, 2, none⟩ = some (.int .i64 R) ∧ wd.cell? ⟨g, o, none⟩ = some (.int .i64 z)) := xB.out _ BD.out
                          obtain ⟨nl, ⟨n0, n1, n2⟩, n3, n4, n5⟩ := ND.out
                          have xe : ((((wd.setCell ⟨wr.heap.size, 0, none⟩ (.int .i64 C2)).setCell ⟨wr.heap.size, 1, none⟩ (.int .i64 E2)).setCell ⟨wr.heap.size, 2, none⟩ (.int .i64 R2)).cell? ⟨w0.heap.size, 0, none⟩ = some (.int .i64 C) ∧ (((wd.setCell ⟨wr.heap.size, 0, none⟩ (.int .i64 C2)).setCell ⟨wr.heap.size, 1, none⟩ (.int .i64 E2)).setCell ⟨wr.heap.size, 2, none⟩ (.int .i64 R2)).cell? ⟨w0.heap.size, 1, none⟩ = some (.int .i64 E) ∧ (((wd.setCell ⟨wr.heap.size, 0, none⟩ (.int .i64 C2)).setCell ⟨wr.heap.size, 1, none⟩ (.int .i64 E2)).setCell ⟨wr.heap.size, 2, none⟩ (.int .i64 R2)).cell? ⟨w0.heap.size, 2, none⟩ = some (.int .i64 R) ∧ (((wd.setCell ⟨wr.heap.size, 0, none⟩ (.int .i64 C2)).setCell ⟨wr.heap.size, 1, none⟩ (.int .i64 E2)).setCell ⟨wr.heap.size, 2, none⟩ (.int .i64 R2)).cell? ⟨g, o, none⟩ = some (.int .i64 z)) := xB.out _ (((BD.out.setCell (Nat.le_refl _) _).setCell (Nat.le_refl _) _).setCell (Nat.le_refl _) _)
                          have xf := xe))
              all_goals (go_wp2_with fail; go_meet)
              all_goals first
                | exact ⟨wr.heap.size, rfl, rfl, ((ND.out.set0 _).set1 _).set2 _, ((BD.out.setCell (Nat.le_refl _) _).setCell (Nat.le_refl _) _).setCell (Nat.le_refl _) _, Nat.le_refl _⟩
                | exact ⟨wd.heap.size, rfl, rfl, S3.new wd _ _ _ _, BD.out.alloc BD.out.size _, BD.out.size⟩
            case rest =>
              obtain ⟨bg, rfl, rfl, BG, BW, hbg⟩ := hcut
              obtain ⟨w5, hw5⟩ : ∃ u, u = wc := ⟨_, rfl⟩
              rw [← hw5] at BG BW ⊢
              clear hw5
              have z5 := BW.out.size
              have S5 := Lib.hid (HS.out.below BW.out lb)
              have O5 := Lib.hid (HO.out.below BW.out)
              have B5 : Hid (Below w0.heap.size w0 w5) := (by repeat (first | exact Below.refl _ _ | refine Below.drew ?_ | refine Below.setCell ?_ (by first | omega | (simp; done) | (simp; omega) | (simp [*]; done)) _ | refine Below.alloc ?_ (by first | omega | (simp; done) | (simp; omega) | (simp [*]; done)) _ | refine Below.trans ?_ (Below.mono (HB.out) (by first | omega | (simp; done) | (simp; omega) | (simp [*]; done))) | refine Below.trans ?_ (Below.mono (BW.out) (by first | omega | (simp; done) | (simp; omega) | (simp [*]; done)))))
              have d3 := (BW.out.cell (p := ⟨g, o, none⟩) hg).trans c3
              clear c0 c1 c2 c3 f0 f1 f2 HW HS HO HB BW
              obtain ⟨lb5, ⟨c0, c1, c2⟩, f0, f1, f2⟩ := S5.out
              obtain ⟨lg5, ⟨t0, t1, t2⟩, u0, u1, u2⟩ := BG.out
              have nb : ¬ bg = w0.heap.size := by omega
              have nb' : ¬ w0.heap.size = bg := by omega
              by_cases hzC : z ≤ C
              · obtain rfl : q = true := HQ2.out.symm.trans (decide_eq_true hzC)
                obtain ⟨k1, k2, k3⟩ := hok.out rfl
                subst k2
                have HN := HI
                rw [HZ.out] at HN O5
                have HN := Lib.hid (HN.out.serve hzC)
                rw [← k1, ← k3] at HN
                obtain ⟨G1, hG1⟩ : ∃ G1 : Int, G + z = G1 := ⟨_, rfl⟩
                rw [hG1] at HN
                obtain ⟨mt, rfl⟩ : ∃ u, m = u + 1 := ⟨m - 1, by omega⟩
                have hcp := O5.out.2.1
                have Ot := Lib.hid O5.out.tail
                clear HI k1 k3 hok HQ2 HZ
                have x5 : (w5.cell? ⟨w0.heap.size, 0, none⟩ = some (.int .i64 C) ∧ w5.cell? ⟨g, o, none⟩ = some (.int .i64 z)) := ⟨c0, d3⟩
                have x5' : (w5.drew.cell? ⟨w0.heap.size, 0, none⟩ = some (.int .i64 C) ∧ w5.drew.cell? ⟨g, o, none⟩ = some (.int .i64 z)) := ⟨c0, d3⟩
                go_wp2_with fail
                go_region_held3 (fun w' => (w'.cell? ⟨w0.heap.size, 0, none⟩ = some (.int .i64 C) ∧ w'.cell? ⟨g, o, none⟩ = some (.int .i64 z))) (first | exact x5 | exact x5') (fail)
                have S6 : Hid (S3 w5.drew w0.heap.size C E2 R) := S5.out.drew
                have O6 : Hid (OffK w5.drew (w0.heap.size + 1) (some (if cp = 1 then ⟨g, o, none⟩ else ⟨g, o + 1, none⟩)) mt (cp - 1) zt) := Ot.out.drew
                have T6 : Hid (S3 w5.drew bg C2 E2 R2) := BG.out.drew
                clear Ot
                have B6 : Hid (Below w0.heap.size w0 w5.drew) := B5.out.drew
                have d6 : w5.drew.cell? ⟨g, o, none⟩ = some (.int .i64 z) := d3
                have z6 : w0.heap.size < w5.drew.heap.size := lb5
                clear c0 c1 c2 f0 f1 f2 d3 x5 x5' S5 O5 B5
                generalize w5.drew = w6 at *
                obtain ⟨lb6, ⟨c0, c1, c2⟩, f0, f1, f2⟩ := S6.out
                obtain ⟨lg6, ⟨t0, t1, t2⟩, u0, u1, u2⟩ := T6.out
                go_wp2
                · have hc1 : cp = 1 := by omega
                  rw [if_pos hc1, show cp - 1 = 0 by omega] at O6
                  clear d6 c0 c1 c2 f0 f1 f2 t0 t1 t2 u0 u1 u2 T6 BG
                  go_loopw [18, 19] (fun sm si wr => ∃ j : Nat, j ≤ mt ∧ sm = .int .i64 ((zt.take j).sum) ∧ si = .int .i64 (j : Int) ∧ Hid (S3 wr w0.heap.size C2 E2 R2) ∧ Hid (OffK wr (w0.heap.size + 1) (some ⟨g, o, none⟩) mt 0 zt) ∧ Hid (Below w0.heap.size w0 wr)) (fun _ si _ => mt - (intOf si).toNat)
                  case atStart => exact ⟨0, Nat.zero_le _, rfl, rfl, (((S6.out.set0 _).set1 _).set2 _), (((O6.out.low (Nat.lt_succ_self _) _).low (Nat.lt_succ_self _) _).low (Nat.lt_succ_self _) _), (((B6.out.setCell (Nat.le_refl _) _).setCell (Nat.le_refl _) _).setCell (Nat.le_refl _) _)⟩
                  case round =>
                    obtain ⟨j, hj, rfl, rfl, HSj, HOj, HBj⟩ := hrel
                    have hzl := HOj.out.len
                    by_cases hlt : j < mt
                    · have hjl : j < zt.length := by omega
                      obtain ⟨gw, ow, hAw, hgw0, hgw, hcw⟩ := HOj.out.form (by omega)
                      have cj := hcw j hlt
                      have hts := Lib.hid (sum_take_next hjl)
                      have hb1 := take_sum HN.out.2.2.2.2.2.2.2.1 j
                      have hb2 := take_sum HN.out.2.2.2.2.2.2.2.1 (j + 1)
                      have hml : mt ≤ 30 := by have := HN.out.2.2.2.2.2.2.2.2.1; omega
                      rw [hts.out] at hb2
                      clear hcw
                      generalize zt[j]?.getD 0 = zj at *
                      generalize (zt.take j).sum = sj at *
                      go_wp2
                      go_roundw
                      case rel => exact ⟨j + 1, by omega, by rw [hts.out], by go_num, HSj, HOj, HBj⟩
                      case measure => simp [intOf]; omega
                    · obtain rfl : j = mt := by omega
                      have hsum : (zt.take j).sum = R2 := by rw [List.take_of_length_le (by omega)]; exact HN.out.2.2.1.symm
                      rw [hsum]
                      clear hsum
                      have HK := Lib.hid (fun W => sSemaOk_any C2 E2 R2 W)
                      rw [decide_eq_true (HN.out.good (by omega))] at HK
                      have hcm : M - G1 = C2 := HN.out.1.symm
                      have hgm : ¬ M < G1 := by have := HN.out.2.2.2.2.1; omega
                      have hg0 := HN.out.2.2.2.1
                      have hmt : M ≤ 1000 := by have := HN.out.2.2.2.2.2.2.1; have := HN.out.2.2.2.2.2.1; omega
                      obtain ⟨lbj, ⟨c0, c1, c2⟩, f0, f1, f2⟩ := HSj.out
                      go_wp2_with fail
                      refine (HK.out _).mono ?_
                      rintro e wk ⟨rfl, hbk⟩
                      have Sk := Lib.hid (HSj.out.below hbk lbj)
                      have Ok := Lib.hid (HOj.out.below hbk)
                      have Bk : Hid (Below w0.heap.size w0 wk) := (by repeat (first | exact Below.refl _ _ | refine Below.drew ?_ | refine Below.setCell ?_ (by first | omega | (simp; done) | (simp; omega) | (simp [*]; done)) _ | refine Below.alloc ?_ (by first | omega | (simp; done) | (simp; omega) | (simp [*]; done)) _ | refine Below.trans ?_ (Below.mono (HBj.out) (by first | omega | (simp; done) | (simp; omega) | (simp [*]; done))) | refine Below.trans ?_ (Below.mono (hbk) (by first | omega | (simp; done) | (simp; omega) | (simp [*]; done)))))
                      clear c0 c1 c2 f0 f1 f2 hbk lbj HSj HOj HBj HK
                      obtain ⟨lbk, ⟨c0, c1, c2⟩, f0, f1, f2⟩ := Sk.out
                      go_wp2
                      go_roundw
                      case rel => exact ⟨K + 1, M, G1, C2, E2, R2, (some ⟨g, o, none⟩), j, 0, zt, by omega, rfl, rfl, rfl, rfl, by go_num, HN, Ok, Sk, Bk⟩
                      case measure => simp [intOf]; omega
                · have hc1 : ¬ cp = 1 := by omega
                  rw [if_neg hc1] at O6
                  clear d6 c0 c1 c2 f0 f1 f2 t0 t1 t2 u0 u1 u2 T6 BG
                  go_loopw [18, 19] (fun sm si wr => ∃ j : Nat, j ≤ mt ∧ sm = .int .i64 ((zt.take j).sum) ∧ si = .int .i64 (j : Int) ∧ Hid (S3 wr w0.heap.size C2 E2 R2) ∧ Hid (OffK wr (w0.heap.size + 1) (some ⟨g, o + 1, none⟩) mt (cp - 1) zt) ∧ Hid (Below w0.heap.size w0 wr)) (fun _ si _ => mt - (intOf si).toNat)
                  case atStart => exact ⟨0, Nat.zero_le _, rfl, rfl, (((S6.out.set0 _).set1 _).set2 _), (((O6.out.low (Nat.lt_succ_self _) _).low (Nat.lt_succ_self _) _).low (Nat.lt_succ_self _) _), (((B6.out.setCell (Nat.le_refl _) _).setCell (Nat.le_refl _) _).setCell (Nat.le_refl _) _)⟩
                  case round =>
                    obtain ⟨j, hj, rfl, rfl, HSj, HOj, HBj⟩ := hrel
                    have hzl := HOj.out.len
                    by_cases hlt : j < mt
                    · have hjl : j < zt.length := by omega
                      obtain ⟨gw, ow, hAw, hgw0, hgw, hcw⟩ := HOj.out.form (by omega)
                      have cj := hcw j hlt
                      have hts := Lib.hid (sum_take_next hjl)
                      have hb1 := take_sum HN.out.2.2.2.2.2.2.2.1 j
                      have hb2 := take_sum HN.out.2.2.2.2.2.2.2.1 (j + 1)
                      have hml : mt ≤ 30 := by have := HN.out.2.2.2.2.2.2.2.2.1; omega
                      rw [hts.out] at hb2
                      clear hcw
                      generalize zt[j]?.getD 0 = zj at *
                      generalize (zt.take j).sum = sj at *
                      go_wp2
                      go_roundw
                      case rel => exact ⟨j + 1, by omega, by rw [hts.out], by go_num, HSj, HOj, HBj⟩
                      case measure => simp [intOf]; omega
                    · obtain rfl : j = mt := by omega
                      have hsum : (zt.take j).sum = R2 := by rw [List.take_of_length_le (by omega)]; exact HN.out.2.2.1.symm
                      rw [hsum]
                      clear hsum
                      have HK := Lib.hid (fun W => sSemaOk_any C2 E2 R2 W)
                      rw [decide_eq_true (HN.out.good (by omega))] at HK
                      have hcm : M - G1 = C2 := HN.out.1.symm
                      have hgm : ¬ M < G1 := by have := HN.out.2.2.2.2.1; omega
                      have hg0 := HN.out.2.2.2.1
                      have hmt : M ≤ 1000 := by have := HN.out.2.2.2.2.2.2.1; have := HN.out.2.2.2.2.2.1; omega
                      obtain ⟨lbj, ⟨c0, c1, c2⟩, f0, f1, f2⟩ := HSj.out
                      go_wp2_with fail
                      refine (HK.out _).mono ?_
                      rintro e wk ⟨rfl, hbk⟩
                      have Sk := Lib.hid (HSj.out.below hbk lbj)
                      have Ok := Lib.hid (HOj.out.below hbk)
                      have Bk : Hid (Below w0.heap.size w0 wk) := (by repeat (first | exact Below.refl _ _ | refine Below.drew ?_ | refine Below.setCell ?_ (by first | omega | (simp; done) | (simp; omega) | (simp [*]; done)) _ | refine Below.alloc ?_ (by first | omega | (simp; done) | (simp; omega) | (simp [*]; done)) _ | refine Below.trans ?_ (Below.mono (HBj.out) (by first | omega | (simp; done) | (simp; omega) | (simp [*]; done))) | refine Below.trans ?_ (Below.mono (hbk) (by first | omega | (simp; done) | (simp; omega) | (simp [*]; done)))))
                      clear c0 c1 c2 f0 f1 f2 hbk lbj HSj HOj HBj HK
                      obtain ⟨lbk, ⟨c0, c1, c2⟩, f0, f1, f2⟩ := Sk.out
                      go_wp2
                      go_roundw
                      case rel => exact ⟨K + 1, M, G1, C2, E2, R2, (some ⟨g, o + 1, none⟩), j, (cp - 1), zt, by omega, rfl, rfl, rfl, rfl, by go_num, HN, Ok, Sk, Bk⟩
                      case measure => simp [intOf]; omega
              · obtain rfl : q = false := HQ2.out.symm.trans (decide_eq_false hzC)
                have HN := Lib.hid HI.out.more
                clear HI hok HQ2 HZ t0 t1 t2 u0 u1 u2
                have x5 : (w5.cell? ⟨w0.heap.size, 0, none⟩ = some (.int .i64 C) ∧ w5.cell? ⟨g, o, none⟩ = some (.int .i64 z)) := ⟨c0, d3⟩
                have x5' : (w5.drew.cell? ⟨w0.heap.size, 0, none⟩ = some (.int .i64 C) ∧ w5.drew.cell? ⟨g, o, none⟩ = some (.int .i64 z)) := ⟨c0, d3⟩
                go_wp2_with fail
                go_region_held3 (fun w' => (w'.cell? ⟨w0.heap.size, 0, none⟩ = some (.int .i64 C) ∧ w'.cell? ⟨g, o, none⟩ = some (.int .i64 z))) (first | exact x5 | exact x5') (fail)
                have S6 : Hid (S3 w5.drew w0.heap.size C E R) := S5.out.drew
                have O6 : Hid (OffK w5.drew (w0.heap.size + 1) (some ⟨g, o, none⟩) m cp zs) := O5.out.drew
                have B6 : Hid (Below w0.heap.size w0 w5.drew) := B5.out.drew
                have d6 : w5.drew.cell? ⟨g, o, none⟩ = some (.int .i64 z) := d3
                have z6 : w0.heap.size < w5.drew.heap.size := lb5
                clear c0 c1 c2 f0 f1 f2 d3 x5 x5' S5 O5 B5
                generalize w5.drew = w6 at *
                obtain ⟨lb6, ⟨c0, c1, c2⟩, f0, f1, f2⟩ := S6.out
                go_wp2
                go_loopw [18, 19] (fun sm si wr => ∃ j : Nat, j ≤ m ∧ sm = .int .i64 ((zs.take j).sum) ∧ si = .int .i64 (j : Int) ∧ Hid (S3 wr w0.heap.size C E R) ∧ Hid (OffK wr (w0.heap.size + 1) (some ⟨g, o, none⟩) m cp zs) ∧ Hid (Below w0.heap.size w0 wr)) (fun _ si _ => m - (intOf si).toNat)
                case atStart => exact ⟨0, Nat.zero_le _, rfl, rfl, S6, O6, B6⟩
                case round =>
                  obtain ⟨j, hj, rfl, rfl, HSj, HOj, HBj⟩ := hrel
                  have hzl := HOj.out.len
                  by_cases hlt : j < m
                  · have hjl : j < zs.length := by omega
                    obtain ⟨gw, ow, hAw, hgw0, hgw, hcw⟩ := HOj.out.form (by omega)
                    have cj := hcw j hlt
                    have hts := Lib.hid (sum_take_next hjl)
                    have hb1 := take_sum HN.out.2.2.2.2.2.2.2.1 j
                    have hb2 := take_sum HN.out.2.2.2.2.2.2.2.1 (j + 1)
                    have hml : m ≤ 30 := by have := HN.out.2.2.2.2.2.2.2.2.1; omega
                    rw [hts.out] at hb2
                    clear hcw
                    generalize zs[j]?.getD 0 = zj at *
                    generalize (zs.take j).sum = sj at *
                    go_wp2
                    go_roundw
                    case rel => exact ⟨j + 1, by omega, by rw [hts.out], by go_num, HSj, HOj, HBj⟩
                    case measure => simp [intOf]; omega
                  · obtain rfl : j = m := by omega
                    have hsum : (zs.take j).sum = R := by rw [List.take_of_length_le (by omega)]; exact HN.out.2.2.1.symm
                    rw [hsum]
                    clear hsum
                    have HK := Lib.hid (fun W => sSemaOk_any C E R W)
                    rw [decide_eq_true (HN.out.good (by omega))] at HK
                    have hcm : M - G = C := HN.out.1.symm
                    have hgm : ¬ M < G := by have := HN.out.2.2.2.2.1; omega
                    have hg0 := HN.out.2.2.2.1
                    have hmt : M ≤ 1000 := by have := HN.out.2.2.2.2.2.2.1; have := HN.out.2.2.2.2.2.1; omega
                    obtain ⟨lbj, ⟨c0, c1, c2⟩, f0, f1, f2⟩ := HSj.out
                    go_wp2_with fail
                    refine (HK.out _).mono ?_
                    rintro e wk ⟨rfl, hbk⟩
                    have Sk := Lib.hid (HSj.out.below hbk lbj)
                    have Ok := Lib.hid (HOj.out.below hbk)
                    have Bk : Hid (Below w0.heap.size w0 wk) := (by repeat (first | exact Below.refl _ _ | refine Below.drew ?_ | refine Below.setCell ?_ (by first | omega | (simp; done) | (simp; omega) | (simp [*]; done)) _ | refine Below.alloc ?_ (by first | omega | (simp; done) | (simp; omega) | (simp [*]; done)) _ | refine Below.trans ?_ (Below.mono (HBj.out) (by first | omega | (simp; done) | (simp; omega) | (simp [*]; done))) | refine Below.trans ?_ (Below.mono (hbk) (by first | omega | (simp; done) | (simp; omega) | (simp [*]; done)))))
                    clear c0 c1 c2 f0 f1 f2 hbk lbj HSj HOj HBj HK
                    obtain ⟨lbk, ⟨c0, c1, c2⟩, f0, f1, f2⟩ := Sk.out
                    go_wp2
                    go_roundw
                    case rel => exact ⟨K + 1, M, G, C, E, R, (some ⟨g, o, none⟩), j, cp, zs, by omega, rfl, rfl, rfl, rfl, by go_num, HN, Ok, Sk, Bk⟩
                    case measure => simp [intOf]; omega

      · clear HI HO HS
        go_wp2
        go_ret
        exact ⟨rfl, (by repeat (first | exact Below.refl _ _ | refine Below.drew ?_ | refine Below.setCell ?_ (by first | omega | (simp; done) | (simp; omega) | (simp [*]; done)) _ | refine Below.alloc ?_ (by first | omega | (simp; done) | (simp; omega) | (simp [*]; done)) _ | refine Below.trans ?_ (Below.mono (HB.out) (by first | omega | (simp; done) | (simp; omega) | (simp [*]; done)))))⟩
  · have hn : (1048576 : Int) < (n : Int) := by omega
    clear H HF
    go_enter Try.func3, Try.ntmps3
    go_wp2_with fail
    refine (big_any A n c w0).mono ?_
    rintro e w1 ⟨rfl, rfl⟩
    go_wp2
    go_ret
    exact ⟨rfl, Below.refl _ _⟩

set_option maxRecDepth 100000 in
theorem fnSema_lifted (os : Os) (started : os.Started) (H : Type) (enc : TypeId × Value → H) :
    ReturnsInHanded {} Try.checked os 3 .any (Rows.fnSemaSpec.pre6 enc Try.prog Try.f3 Rows.fnSemaRow.domain false) (Rows.fnSemaSpec.post enc Try.prog Try.f3 false true false false) := by
  refine returnsInHanded_of_change (C := Try.checked) own started (by kernel_rfl) Try.func3
    (ChangeSpec.witness6 (enc := enc) (C := Try.checked) false ⟨#[], #[.slice none 0 0], []⟩ 8 (by kernel_rfl) (by kernel_rfl) (by kernel_rfl) (by kernel_rfl)) ?_
  intro W base args ds gs before hval0 hW hcnd _
  have hval : ∀ (j : Nat) t v, Try.f3.params[j]? = some t → args[j]? = some v → Value.okWide Try.prog W .any base t v := hval0
  have hW' := hW
  obtain ⟨p, q, hA0, hV, rfl, hfz, hnd⟩ := hW
  have hA : DataW.TrodAll enc Try.prog W 0 (fun _ => true) true Try.f3.params.toList args.toList ds p := hA0
  rw [Try.params3] at hA hval
  obtain ⟨v0, vs0, d0, ds0, p0, q0, hargs, rfl, rfl, h0, r0⟩ := trodAll_cons hA
  obtain ⟨rfl, rfl, rfl⟩ := trodAll_nil r0
  obtain rfl : args = #[v0] := by cases args; simp_all
  obtain ⟨rfl, rfl⟩ := trodVars_none hV
  have k0 := h0
  have lt0 : ∀ x ∈ p0, x.block < W.heap.size := by obtain ⟨m, hm⟩ := k0; exact DataW.trod_lt m _ _ _ hm
  obtain ⟨A0, n0, c0, z0, rfl, m0, rd0, f0⟩ := open_bytes (hval 0 22 v0 rfl rfl) h0
  clear hA0 hval0
  refine (fnSema_walk A0 n0 c0 z0 W rd0 m0 f0).mono fun e W' ⟨he, bel⟩ => ?_
  subst he
  exact ⟨_, rfl, _, _, _, [], _, [], hW', trodAll_mk1 (shut_bool Try.underlying4 _), (trodAll_cons_mk (Below.trod laidOut (by kernel_rfl) (of_decide_eq_true (by kernel_rfl)) k0 bel lt0) (trodAll_mk0)), rfl, bel.frame _, fun h => by cases h⟩

/-- The given statement: for every input the law returns true, and its arguments read as before. -/
theorem fnSema_holds : Rows.FnSemaSaid :=
  OpenClaim.holds_of_wide 3 Try.f3 rfl rfl rfl rfl rfl rfl rfl ⟨rfl, rfl, rfl, rfl, rfl⟩ rfl rfl rfl rfl rfl (by kernel_rfl) Try.func3 (by kernel_rfl)
    (of_decide_eq_true (by kernel_rfl)) (by unfold Func.isWrapper; first | (rw [if_pos (by decide +kernel)]; kernel_rfl) | (rw [if_neg (by decide +kernel)]; exact ⟨rfl, rfl⟩))
    (fun os started H enc _ => fnSema_lifted os started H enc)
#print axioms fnSema_holds
end Go.Proofs.Ythmmkleddembbaa
