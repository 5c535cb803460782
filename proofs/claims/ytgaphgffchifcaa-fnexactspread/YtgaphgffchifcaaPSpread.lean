/- Spread of the program answers as the model at every argument, leaves its arguments as they were, and answers in memory of its own. No condition. -/
import Derived.Test.YtgaphgffchifcaaSSpread
import Derived.Test.YtgaphgffchifcaaEqI
import Derived.Test.YtgaphgffchifcaaToI
import Derived.Test.YtgaphgffchifcaaMarkI
import Derived.Test.YtgaphgffchifcaaOpenI
namespace Go.Proofs.Ytgaphgffchifcaa
open Go.ChangeShapes Go.WideShapes Go.ChangeAt Go.RowKit
set_option linter.unusedVariables false

theorem spreadV_len {n X : Nat} {zs us : List Int} (h : zs.length = n) : (spreadV n X zs us).length ≤ 8 := by
  unfold spreadV
  split
  · rename_i h1
    rw [spr_len]; omega
  · simp

set_option maxRecDepth 100000 in
set_option maxHeartbeats 2000000 in
theorem fnExactSpread_walk (A : Option Addr) (n c : Nat) (zs : List Int) (a1 : Int) (A2 : Option Addr) (m2 c2 : Nat) (us : List Int) (w : World) (h : RdK .i64 w w.heap.size A n zs) (hm : n ≤ maxLen) (hf : ∀ z ∈ zs, -9223372036854775808 ≤ z ∧ z < 9223372036854775808) (hw1 : (Lit.int .u32 a1).wf = true)
    (h2 : RdK .i64 w w.heap.size A2 m2 us) (hmm2 : m2 ≤ maxLen) (hf2 : ∀ z ∈ us, -9223372036854775808 ≤ z ∧ z < 9223372036854775808) :
    Calls Try.prog 12 #[.slice A n c, .int .u32 a1, .slice A2 m2 c2] w fun e w' => e = .returned (.bool true) ∧ Below w.heap.size w w' := by
  obtain ⟨X, rfl, hX⟩ := nat_of_wf hw1
  clear hw1
  by_cases hn : n ≤ 1048576
  · have hn' : ¬ (1048576 : Int) < (n : Int) := by omega
    by_cases hm2 : m2 ≤ 1048576
    · have H := Lib.hid h
      have H2 := Lib.hid h2
      have hm2' : ¬ (1048576 : Int) < (m2 : Int) := by omega
      have HS : Hid (∀ (P1 P2 : Option Addr) W, RdK .i64 W W.heap.size P1 n zs → RdK .i64 W W.heap.size P2 m2 us → Calls Try.prog 47 #[.slice P1 n n, .int .u32 (X : Int), .slice P2 m2 m2] W fun e w' => ∃ A' c', e = .returned (.slice A' (spreadV n X zs us).length c') ∧ OwnK 3 .i64 w' W.heap.size A' (spreadV n X zs us).length c' (spreadV n X zs us) ∧ Below W.heap.size W w') := fun P1 P2 W h1 h2 => sSpread_any P1 P2 n n X m2 m2 zs us W h1 h2 hX
      have HI : Hid (∀ (P1 P2 : Option Addr) W, RdK .i64 W W.heap.size P1 n zs → RdK .i64 W W.heap.size P2 m2 us → Calls Try.prog 36 #[.slice P1 n n, .int .u32 (X : Int), .slice P2 m2 m2] W fun e w' => ∃ A' c', e = .returned (.slice A' (spreadV n X zs us).length c') ∧ OwnK 70 .i64 w' W.heap.size A' (spreadV n X zs us).length c' (spreadV n X zs us) ∧ Below W.heap.size W w') := fun P1 P2 W h1 h2 => spread_any P1 P2 n n X m2 m2 zs us W h1 h2 hX
      have hl : (spreadV n X zs us).length ≤ 8 := spreadV_len h.1
      generalize spreadV n X zs us = r at *
      generalize hrl : r.length = k at *
      clear h h2 hm hf hX hrl hmm2 hf2
      go_enter Try.func12, Try.ntmps12
      go_wp2_with fail
      refine (toI_any A n c _ zs w (H.out) (by omega) hn).mono ?_
      rintro e w1 ⟨g1, rfl, ho, hb⟩
      have zw1 := hb.size
      have Bw1 : Hid (Below w.heap.size w w1) := hb
      have O1_w1 := Lib.hid ho
      have RO1 := OwnK.range ho g1 rfl
      clear ho
      clear hb
      go_wp2_with fail
      refine (toI_any A2 m2 c2 _ us w1 (H2.out.below Bw1.out) (by omega) hm2).mono ?_
      rintro e w2 ⟨g2, rfl, ho, hb⟩
      have zw2 := hb.size
      have O1_w2 : Hid (OwnK 3 .i64 w2 w.heap.size (some ⟨g1, 0, none⟩) n n zs) := O1_w1.out.below hb
      have Bw2 : Hid (Below w.heap.size w w2) := Bw1.out.trans (hb.mono (by omega))
      clear O1_w1
      clear Bw1
      have O2_w2 := Lib.hid ho
      have RO2 := OwnK.range ho g2 rfl
      clear ho
      clear hb
      go_wp2_with fail
      refine (HS.out (some ⟨g1, 0, none⟩) (some ⟨g2, 0, none⟩) w2 (O1_w2.out).rd (O2_w2.out.rd)).mono ?_
      rintro e w3 ⟨A0, c0, rfl, ho, hb⟩
      have zw3 := hb.size
      have O1_w3 : Hid (OwnK 3 .i64 w3 w.heap.size (some ⟨g1, 0, none⟩) n n zs) := O1_w2.out.below hb
      have O2_w3 : Hid (OwnK 3 .i64 w3 w1.heap.size (some ⟨g2, 0, none⟩) m2 m2 us) := O2_w2.out.below hb
      have Bw3 : Hid (Below w.heap.size w w3) := Bw2.out.trans (hb.mono (by omega))
      clear O1_w2 O2_w2
      clear Bw2
      have OW_w3 := Lib.hid ho
      have ROW := Lib.hid ho.range
      clear ho
      clear hb
      clear O1_w3
      clear O2_w3
      go_wp2_with fail
      refine (toI_any A n c _ zs w3 (H.out.below Bw3.out) (by omega) hn).mono ?_
      rintro e w4 ⟨g4, rfl, ho, hb⟩
      have zw4 := hb.size
      have OW_w4 : Hid (OwnK 3 .i64 w4 w2.heap.size A0 k c0 r) := OW_w3.out.below hb
      have Bw4 : Hid (Below w.heap.size w w4) := Bw3.out.trans (hb.mono (by omega))
      clear OW_w3
      clear Bw3
      have X0_w4 := Lib.hid ho
      have RX0 := OwnK.range ho g4 rfl
      clear ho
      clear hb
      go_wp2_with fail
      refine (toI_any A2 m2 c2 _ us w4 (H2.out.below Bw4.out) (by omega) hm2).mono ?_
      rintro e w5 ⟨g5, rfl, ho, hb⟩
      have zw5 := hb.size
      have OW_w5 : Hid (OwnK 3 .i64 w5 w2.heap.size A0 k c0 r) := OW_w4.out.below hb
      have X0_w5 : Hid (OwnK 3 .i64 w5 w3.heap.size (some ⟨g4, 0, none⟩) n n zs) := X0_w4.out.below hb
      have Bw5 : Hid (Below w.heap.size w w5) := Bw4.out.trans (hb.mono (by omega))
      clear OW_w4 X0_w4
      clear Bw4
      have X2_w5 := Lib.hid ho
      have RX2 := OwnK.range ho g5 rfl
      clear ho
      clear hb
      go_wp2_with fail
      refine (HI.out (some ⟨g4, 0, none⟩) (some ⟨g5, 0, none⟩) w5 (X0_w5.out).rd (X2_w5.out.rd)).mono ?_
      rintro e w6 ⟨A1, c1, rfl, ho, hb⟩
      have zw6 := hb.size
      have OW_w6 : Hid (OwnK 3 .i64 w6 w2.heap.size A0 k c0 r) := OW_w5.out.below hb
      have X0_w6 : Hid (OwnK 3 .i64 w6 w3.heap.size (some ⟨g4, 0, none⟩) n n zs) := X0_w5.out.below hb
      have X2_w6 : Hid (OwnK 3 .i64 w6 w4.heap.size (some ⟨g5, 0, none⟩) m2 m2 us) := X2_w5.out.below hb
      have Bw6 : Hid (Below w.heap.size w w6) := Bw5.out.trans (hb.mono (by omega))
      clear OW_w5 X0_w5 X2_w5
      clear Bw5
      have OG_w6 := Lib.hid ho
      have ROG := Lib.hid ho.range
      clear ho
      clear hb
      have HE := Lib.hid (eqI_any A1 A0 k k c1 c0 _ _ r r w6 OG_w6.out.rd OW_w6.out.rd (by unfold maxLen; omega) (by unfold maxLen; omega))
      rw [decide_eq_true rfl] at HE
      go_wp2_with fail
      refine HE.out.mono ?_
      rintro e w9 ⟨rfl, kd, rfl⟩
      have OW_w7 : Hid (OwnK 3 .i64 (w6.drewN kd) w2.heap.size A0 k c0 r) := OW_w6.out
      have X0_w7 : Hid (OwnK 3 .i64 (w6.drewN kd) w3.heap.size (some ⟨g4, 0, none⟩) n n zs) := X0_w6.out
      have X2_w7 : Hid (OwnK 3 .i64 (w6.drewN kd) w4.heap.size (some ⟨g5, 0, none⟩) m2 m2 us) := X2_w6.out
      have OG_w7 : Hid (OwnK 70 .i64 (w6.drewN kd) w5.heap.size A1 k c1 r) := OG_w6.out
      have Bw7 : Hid (Below w.heap.size w (w6.drewN kd)) := ⟨Bw6.out.os, Bw6.out.tape, Bw6.out.output, Bw6.out.size, Bw6.out.block⟩
      have zw7 : (w6.drewN kd).heap.size = w6.heap.size := rfl
      clear HE Bw6 OW_w6 X0_w6 X2_w6 OG_w6
      generalize w6.drewN kd = w7 at *
      go_wp2_with fail
      refine (toI_any A n c _ zs w7 (H.out.below Bw7.out) (by omega) hn).mono ?_
      rintro e w8 ⟨g8, rfl, ho, hb⟩
      have zw8 := hb.size
      have OW_w8 : Hid (OwnK 3 .i64 w8 w2.heap.size A0 k c0 r) := OW_w7.out.below hb
      have X0_w8 : Hid (OwnK 3 .i64 w8 w3.heap.size (some ⟨g4, 0, none⟩) n n zs) := X0_w7.out.below hb
      have X2_w8 : Hid (OwnK 3 .i64 w8 w4.heap.size (some ⟨g5, 0, none⟩) m2 m2 us) := X2_w7.out.below hb
      have OG_w8 : Hid (OwnK 70 .i64 w8 w5.heap.size A1 k c1 r) := OG_w7.out.below hb
      have Bw8 : Hid (Below w.heap.size w w8) := Bw7.out.trans (hb.mono (by omega))
      clear OW_w7 X0_w7 X2_w7 OG_w7
      clear Bw7
      have Y0_w8 := Lib.hid ho
      have RY0 := OwnK.range ho g8 rfl
      clear ho
      clear hb
      have HE := Lib.hid (eqI_any (some ⟨g4, 0, none⟩) (some ⟨g8, 0, none⟩) n n n n _ _ zs zs w8 X0_w8.out.rd Y0_w8.out.rd (by unfold maxLen; omega) (by unfold maxLen; omega))
      rw [decide_eq_true rfl] at HE
      go_wp2_with fail
      refine HE.out.mono ?_
      rintro e w9 ⟨rfl, kd, rfl⟩
      have OW_w9 : Hid (OwnK 3 .i64 (w8.drewN kd) w2.heap.size A0 k c0 r) := OW_w8.out
      have X0_w9 : Hid (OwnK 3 .i64 (w8.drewN kd) w3.heap.size (some ⟨g4, 0, none⟩) n n zs) := X0_w8.out
      have X2_w9 : Hid (OwnK 3 .i64 (w8.drewN kd) w4.heap.size (some ⟨g5, 0, none⟩) m2 m2 us) := X2_w8.out
      have OG_w9 : Hid (OwnK 70 .i64 (w8.drewN kd) w5.heap.size A1 k c1 r) := OG_w8.out
      have Y0_w9 : Hid (OwnK 3 .i64 (w8.drewN kd) w7.heap.size (some ⟨g8, 0, none⟩) n n zs) := Y0_w8.out
      have Bw9 : Hid (Below w.heap.size w (w8.drewN kd)) := ⟨Bw8.out.os, Bw8.out.tape, Bw8.out.output, Bw8.out.size, Bw8.out.block⟩
      have zw9 : (w8.drewN kd).heap.size = w8.heap.size := rfl
      clear HE Bw8 OW_w8 X0_w8 X2_w8 OG_w8 Y0_w8
      generalize w8.drewN kd = w9 at *
      clear Y0_w9
      go_wp2_with fail
      refine (toI_any A2 m2 c2 _ us w9 (H2.out.below Bw9.out) (by omega) hm2).mono ?_
      rintro e w10 ⟨g10, rfl, ho, hb⟩
      have zw10 := hb.size
      have OW_w10 : Hid (OwnK 3 .i64 w10 w2.heap.size A0 k c0 r) := OW_w9.out.below hb
      have X0_w10 : Hid (OwnK 3 .i64 w10 w3.heap.size (some ⟨g4, 0, none⟩) n n zs) := X0_w9.out.below hb
      have X2_w10 : Hid (OwnK 3 .i64 w10 w4.heap.size (some ⟨g5, 0, none⟩) m2 m2 us) := X2_w9.out.below hb
      have OG_w10 : Hid (OwnK 70 .i64 w10 w5.heap.size A1 k c1 r) := OG_w9.out.below hb
      have Bw10 : Hid (Below w.heap.size w w10) := Bw9.out.trans (hb.mono (by omega))
      clear OW_w9 X0_w9 X2_w9 OG_w9
      clear Bw9
      have Y2_w10 := Lib.hid ho
      have RY2 := OwnK.range ho g10 rfl
      clear ho
      clear hb
      have HE := Lib.hid (eqI_any (some ⟨g5, 0, none⟩) (some ⟨g10, 0, none⟩) m2 m2 m2 m2 _ _ us us w10 X2_w10.out.rd Y2_w10.out.rd (by unfold maxLen; omega) (by unfold maxLen; omega))
      rw [decide_eq_true rfl] at HE
      go_wp2_with fail
      refine HE.out.mono ?_
      rintro e w9 ⟨rfl, kd, rfl⟩
      have OW_w11 : Hid (OwnK 3 .i64 (w10.drewN kd) w2.heap.size A0 k c0 r) := OW_w10.out
      have X0_w11 : Hid (OwnK 3 .i64 (w10.drewN kd) w3.heap.size (some ⟨g4, 0, none⟩) n n zs) := X0_w10.out
      have X2_w11 : Hid (OwnK 3 .i64 (w10.drewN kd) w4.heap.size (some ⟨g5, 0, none⟩) m2 m2 us) := X2_w10.out
      have OG_w11 : Hid (OwnK 70 .i64 (w10.drewN kd) w5.heap.size A1 k c1 r) := OG_w10.out
      have Y2_w11 : Hid (OwnK 3 .i64 (w10.drewN kd) w9.heap.size (some ⟨g10, 0, none⟩) m2 m2 us) := Y2_w10.out
      have Bw11 : Hid (Below w.heap.size w (w10.drewN kd)) := ⟨Bw10.out.os, Bw10.out.tape, Bw10.out.output, Bw10.out.size, Bw10.out.block⟩
      have zw11 : (w10.drewN kd).heap.size = w10.heap.size := rfl
      clear HE Bw10 OW_w10 X0_w10 X2_w10 OG_w10 Y2_w10
      generalize w10.drewN kd = w11 at *
      clear Y2_w11
      go_wp2_with fail
      refine (markQ_one g4 n n _ 1 zs w11 X0_w11.out (by omega) (by omega) (by omega)).mono ?_
      rintro e w12 ⟨rfl, ⟨y0, ho⟩, hg⟩
      have zw12 := hg.size
      have OW_w12 : Hid (OwnK 3 .i64 w12 w2.heap.size A0 k c0 r) := OW_w11.out.far hg (fun g hg1 hg2 => by have h1 := ROW.out g hg1; (have h2 : g4 = g := by injection hg2); omega)
      have X0_w12 : Hid (OwnK 3 .i64 w12 w3.heap.size (some ⟨g4, 0, none⟩) n n y0) := ho
      have X2_w12 : Hid (OwnK 3 .i64 w12 w4.heap.size (some ⟨g5, 0, none⟩) m2 m2 us) := X2_w11.out.far hg (fun g hg1 hg2 => by (have h1 : g5 = g := by injection hg1); (have h2 : g4 = g := by injection hg2); omega)
      have OG_w12 : Hid (OwnK 70 .i64 w12 w5.heap.size A1 k c1 r) := OG_w11.out.far hg (fun g hg1 hg2 => by have h1 := ROG.out g hg1; (have h2 : g4 = g := by injection hg2); omega)
      have Bw12 : Hid (Below w.heap.size w w12) := Bw11.out.grown hg (by omega) (fun g hg1 => by (have h1 : g4 = g := by injection hg1); omega)
      clear OW_w11 X0_w11 X2_w11 OG_w11
      clear Bw11
      clear hg ho
      go_wp2_with fail
      refine (markQ_one g5 m2 m2 _ (1 + (n : Int)) us w12 X2_w12.out (by omega) (by omega) (by omega)).mono ?_
      rintro e w13 ⟨rfl, ⟨y2, ho⟩, hg⟩
      have zw13 := hg.size
      have OW_w13 : Hid (OwnK 3 .i64 w13 w2.heap.size A0 k c0 r) := OW_w12.out.far hg (fun g hg1 hg2 => by have h1 := ROW.out g hg1; (have h2 : g5 = g := by injection hg2); omega)
      have X0_w13 : Hid (OwnK 3 .i64 w13 w3.heap.size (some ⟨g4, 0, none⟩) n n y0) := X0_w12.out.far hg (fun g hg1 hg2 => by (have h1 : g4 = g := by injection hg1); (have h2 : g5 = g := by injection hg2); omega)
      have X2_w13 : Hid (OwnK 3 .i64 w13 w4.heap.size (some ⟨g5, 0, none⟩) m2 m2 y2) := ho
      have OG_w13 : Hid (OwnK 70 .i64 w13 w5.heap.size A1 k c1 r) := OG_w12.out.far hg (fun g hg1 hg2 => by have h1 := ROG.out g hg1; (have h2 : g5 = g := by injection hg2); omega)
      have Bw13 : Hid (Below w.heap.size w w13) := Bw12.out.grown hg (by omega) (fun g hg1 => by (have h1 : g5 = g := by injection hg1); omega)
      clear OW_w12 X0_w12 X2_w12 OG_w12
      clear Bw12
      clear hg ho
      clear X0_w13
      clear X2_w13
      have hq : ¬ (1 : Int) + (n : Int) + (m2 : Int) < 0 := by omega
      have HE := Lib.hid (eqI_any A1 A0 k k c1 c0 _ _ r r w13 OG_w13.out.rd OW_w13.out.rd (by unfold maxLen; omega) (by unfold maxLen; omega))
      rw [decide_eq_true rfl] at HE
      go_wp2_with fail
      refine HE.out.mono ?_
      rintro e w9 ⟨rfl, kd, rfl⟩
      have OW_w14 : Hid (OwnK 3 .i64 (w13.drewN kd) w2.heap.size A0 k c0 r) := OW_w13.out
      have OG_w14 : Hid (OwnK 70 .i64 (w13.drewN kd) w5.heap.size A1 k c1 r) := OG_w13.out
      have Bw14 : Hid (Below w.heap.size w (w13.drewN kd)) := ⟨Bw13.out.os, Bw13.out.tape, Bw13.out.output, Bw13.out.size, Bw13.out.block⟩
      have zw14 : (w13.drewN kd).heap.size = w13.heap.size := rfl
      clear HE Bw13 OW_w13 OG_w13
      generalize w13.drewN kd = w14 at *
      go_wp2_with fail
      refine (markS_any A1 k c1 _ r w14 OG_w14.out (by omega)).mono ?_
      rintro e w15 ⟨rfl, ho, hg⟩
      have zw15 := hg.size
      have OW_w15 : Hid (OwnK 3 .i64 w15 w2.heap.size A0 k c0 r) := OW_w14.out.far hg (fun g hg1 hg2 => by have h1 := ROW.out g hg1; have h2 := ROG.out g hg2; omega)
      have OG_w15 : Hid (OwnK 70 .i64 w15 w5.heap.size A1 k c1 (marks k)) := ho
      have Bw15 : Hid (Below w.heap.size w w15) := Bw14.out.grown hg (by omega) (fun g hg1 => by have h1 := ROG.out g hg1; omega)
      clear OW_w14 OG_w14
      clear Bw14
      clear hg ho
      have HH := Lib.hid (heldI_any A1 k c1 _ w15 OG_w15.out.rd (by omega))
      go_wp2_with fail
      refine HH.out.mono ?_
      rintro e w9 ⟨rfl, rfl⟩
      clear HH
      have hq2 : ¬ (1 : Int) + (k : Int) < 0 := by omega
      go_wp2_with fail
      refine (toI_any A n c _ zs w15 (H.out.below Bw15.out) (by omega) hn).mono ?_
      rintro e w16 ⟨g16, rfl, ho, hb⟩
      have zw16 := hb.size
      have OW_w16 : Hid (OwnK 3 .i64 w16 w2.heap.size A0 k c0 r) := OW_w15.out.below hb
      have OG_w16 : Hid (OwnK 70 .i64 w16 w5.heap.size A1 k c1 (marks k)) := OG_w15.out.below hb
      have Bw16 : Hid (Below w.heap.size w w16) := Bw15.out.trans (hb.mono (by omega))
      clear OW_w15 OG_w15
      clear Bw15
      have Z0_w16 := Lib.hid ho
      have RZ0 := OwnK.range ho g16 rfl
      clear ho
      clear hb
      go_wp2_with fail
      refine (toI_any A2 m2 c2 _ us w16 (H2.out.below Bw16.out) (by omega) hm2).mono ?_
      rintro e w17 ⟨g17, rfl, ho, hb⟩
      have zw17 := hb.size
      have OW_w17 : Hid (OwnK 3 .i64 w17 w2.heap.size A0 k c0 r) := OW_w16.out.below hb
      have OG_w17 : Hid (OwnK 70 .i64 w17 w5.heap.size A1 k c1 (marks k)) := OG_w16.out.below hb
      have Z0_w17 : Hid (OwnK 3 .i64 w17 w15.heap.size (some ⟨g16, 0, none⟩) n n zs) := Z0_w16.out.below hb
      have Bw17 : Hid (Below w.heap.size w w17) := Bw16.out.trans (hb.mono (by omega))
      clear OW_w16 OG_w16 Z0_w16
      clear Bw16
      have Z2_w17 := Lib.hid ho
      have RZ2 := OwnK.range ho g17 rfl
      clear ho
      clear hb
      go_wp2_with fail
      refine (HI.out (some ⟨g16, 0, none⟩) (some ⟨g17, 0, none⟩) w17 (Z0_w17.out).rd (Z2_w17.out.rd)).mono ?_
      rintro e w18 ⟨A3, c3, rfl, ho, hb⟩
      have zw18 := hb.size
      have OW_w18 : Hid (OwnK 3 .i64 w18 w2.heap.size A0 k c0 r) := OW_w17.out.below hb
      have OG_w18 : Hid (OwnK 70 .i64 w18 w5.heap.size A1 k c1 (marks k)) := OG_w17.out.below hb
      have Z0_w18 : Hid (OwnK 3 .i64 w18 w15.heap.size (some ⟨g16, 0, none⟩) n n zs) := Z0_w17.out.below hb
      have Z2_w18 : Hid (OwnK 3 .i64 w18 w16.heap.size (some ⟨g17, 0, none⟩) m2 m2 us) := Z2_w17.out.below hb
      have Bw18 : Hid (Below w.heap.size w w18) := Bw17.out.trans (hb.mono (by omega))
      clear OW_w17 OG_w17 Z0_w17 Z2_w17
      clear Bw17
      have OH_w18 := Lib.hid ho
      have ROH := Lib.hid ho.range
      clear ho
      clear hb
      clear Z0_w18
      clear Z2_w18
      have HE := Lib.hid (eqI_any A3 A0 k k c3 c0 _ _ r r w18 OH_w18.out.rd OW_w18.out.rd (by unfold maxLen; omega) (by unfold maxLen; omega))
      rw [decide_eq_true rfl] at HE
      go_wp2_with fail
      refine HE.out.mono ?_
      rintro e w9 ⟨rfl, kd, rfl⟩
      have OW_w19 : Hid (OwnK 3 .i64 (w18.drewN kd) w2.heap.size A0 k c0 r) := OW_w18.out
      have OG_w19 : Hid (OwnK 70 .i64 (w18.drewN kd) w5.heap.size A1 k c1 (marks k)) := OG_w18.out
      have OH_w19 : Hid (OwnK 70 .i64 (w18.drewN kd) w17.heap.size A3 k c3 r) := OH_w18.out
      have Bw19 : Hid (Below w.heap.size w (w18.drewN kd)) := ⟨Bw18.out.os, Bw18.out.tape, Bw18.out.output, Bw18.out.size, Bw18.out.block⟩
      have zw19 : (w18.drewN kd).heap.size = w18.heap.size := rfl
      clear HE Bw18 OW_w18 OG_w18 OH_w18
      generalize w18.drewN kd = w19 at *
      have HH := Lib.hid (heldI_any A1 k c1 _ w19 OG_w19.out.rd (by omega))
      go_wp2_with fail
      refine HH.out.mono ?_
      rintro e w9 ⟨rfl, rfl⟩
      clear HH
      go_wp2
      go_ret
      exact ⟨rfl, Bw19.out⟩
    · have hm2' : (1048576 : Int) < (m2 : Int) := by omega
      clear h h2
      go_enter Try.func12, Try.ntmps12
      go_wp2
      go_ret
      exact ⟨rfl, Below.refl _ _⟩
  · have hn' : (1048576 : Int) < (n : Int) := by omega
    clear h h2
    go_enter Try.func12, Try.ntmps12
    go_wp2
    go_ret
    exact ⟨rfl, Below.refl _ _⟩

set_option maxRecDepth 100000 in
theorem fnExactSpread_lifted (os : Os) (started : os.Started) (H : Type) (enc : TypeId × Value → H) :
    ReturnsInHanded {} Try.checked os 12 .any (Rows.fnExactSpreadSpec.pre6 enc Try.prog Try.f12 Rows.fnExactSpreadRow.domain false) (Rows.fnExactSpreadSpec.post enc Try.prog Try.f12 false true false false) := by
  refine returnsInHanded_of_change (C := Try.checked) own started (by kernel_rfl) Try.func12
    (ChangeSpec.witness6 (enc := enc) (C := Try.checked) false ⟨#[], #[.slice none 0 0, .int .u32 0, .slice none 0 0], []⟩ 8 (by kernel_rfl) (by kernel_rfl) (by kernel_rfl) (by kernel_rfl)) ?_
  intro W base args ds gs before hval0 hW hcnd _
  have hval : ∀ (j : Nat) t v, Try.f12.params[j]? = some t → args[j]? = some v → Value.okWide Try.prog W .any base t v := hval0
  have hW' := hW
  obtain ⟨p, q, hA0, hV, rfl, hfz, hnd⟩ := hW
  have hA : DataW.TrodAll enc Try.prog W 0 (fun _ => true) true Try.f12.params.toList args.toList ds p := hA0
  rw [Try.params12] at hA hval
  obtain ⟨v0, vs0, d0, ds0, p0, q0, hargs, rfl, rfl, h0, r0⟩ := trodAll_cons hA
  obtain ⟨v1, vs1, d1, ds1, p1, q1, rfl, rfl, rfl, h1, r1⟩ := trodAll_cons r0
  obtain ⟨v2, vs2, d2, ds2, p2, q2, rfl, rfl, rfl, h2, r2⟩ := trodAll_cons r1
  obtain ⟨rfl, rfl, rfl⟩ := trodAll_nil r2
  obtain rfl : args = #[v0, v1, v2] := by cases args; simp_all
  obtain ⟨rfl, rfl⟩ := trodVars_none hV
  have k0 := h0
  have lt0 : ∀ x ∈ p0, x.block < W.heap.size := by obtain ⟨m, hm⟩ := k0; exact DataW.trod_lt m _ _ _ hm
  obtain ⟨A0, n0, c0, z0, rfl, m0, rd0, f0⟩ := open_intS (hval 0 33 v0 rfl rfl) h0
  obtain ⟨a1, rfl, rfl, rfl, w1⟩ := open_int Try.underlying24 (hval 1 24 v1 rfl rfl) h1
  have k2 := h2
  have lt2 : ∀ x ∈ p2, x.block < W.heap.size := by obtain ⟨m, hm⟩ := k2; exact DataW.trod_lt m _ _ _ hm
  obtain ⟨A2, n2, c2, z2, rfl, m2, rd2, f2⟩ := open_intS (hval 2 33 v2 rfl rfl) h2
  clear hA0 hval0
  refine (fnExactSpread_walk A0 n0 c0 z0 a1 A2 n2 c2 z2 W rd0 m0 f0 w1 rd2 m2 f2).mono fun e W' ⟨he, bel⟩ => ?_
  subst he
  exact ⟨_, rfl, _, _, _, [], _, [], hW', trodAll_mk1 (shut_bool Try.underlying4 _), (trodAll_cons_mk (Below.trod laidOut (by kernel_rfl) (of_decide_eq_true (by kernel_rfl)) k0 bel lt0) (trodAll_cons_mk (shut_int Try.underlying24 w1) (trodAll_cons_mk (Below.trod laidOut (by kernel_rfl) (of_decide_eq_true (by kernel_rfl)) k2 bel lt2) (trodAll_mk0)))), rfl, bel.frame _, fun h => by cases h⟩

/-- The given statement: for every input the law returns true, and its arguments read as before. -/
theorem fnExactSpread_holds : Rows.FnExactSpreadSaid :=
  OpenClaim.holds_of_wide 12 Try.f12 rfl rfl rfl rfl rfl rfl rfl ⟨rfl, rfl, rfl, rfl, rfl⟩ rfl rfl rfl rfl rfl (by kernel_rfl) Try.func12 (by kernel_rfl)
    (of_decide_eq_true (by kernel_rfl)) (by unfold Func.isWrapper; first | (rw [if_pos (by decide +kernel)]; kernel_rfl) | (rw [if_neg (by decide +kernel)]; exact ⟨rfl, rfl⟩))
    (fun os started H enc _ => fnExactSpread_lifted os started H enc)
#print axioms fnExactSpread_holds
end Go.Proofs.Ytgaphgffchifcaa
