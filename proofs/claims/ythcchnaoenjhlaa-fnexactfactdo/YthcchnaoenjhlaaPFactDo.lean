/- FactDo of the program answers as the model at every argument, leaves its argument as it was, and answers in memory of its own. No condition. -/
import Derived.Test.YthcchnaoenjhlaaIFactDo
import Derived.Test.YthcchnaoenjhlaaSFactDo
import Derived.Test.YthcchnaoenjhlaaEqP
import Derived.Test.YthcchnaoenjhlaaMarkP
import Derived.Test.YthcchnaoenjhlaaSzP
import Derived.Test.YthcchnaoenjhlaaOpenP
import Derived.Test.YthcchnaoenjhlaaLawFc
import Derived.Test.YthcchnaoenjhlaaOpenFc
import Derived.Deep.RegionHeld3
import Derived.Deep.DeepCutAuto
namespace Go.Proofs.Ythcchnaoenjhlaa
open Go.ChangeShapes Go.WideShapes Go.ChangeAt Go.RowKit
set_option linter.unusedVariables false

set_option maxRecDepth 100000 in
set_option maxHeartbeats 4000000 in
theorem fnExactFactDo_walk (A : Option Addr) (n c : Nat) (ps : List (Int × Int)) (f : Fc) (w : World) (h : RdP w w.heap.size A n ps) (hm : n ≤ maxLen) (hf : WfP ps) (hff : f.Wf) :
    Calls Try.prog 4 #[.slice A n c, .agg #[.int .i64 f.k, .int .i64 f.i, .int .i64 f.l, .int .i64 f.a, .int .i64 f.s]] w fun e w' => e = .returned (.bool true) ∧ Below w.heap.size w w' := by
  by_cases hn : n ≤ 1048576
  · have H := Lib.hid h
    have HF := Lib.hid hf
    have hq : ¬ (1048576 : Int) - (n : Int) < 0 := by omega
    have HSI : Hid (∀ r k q, r = doR ps f → k = r.length → q = (doV ps f).isSome → (∀ (g1 : Nat) W, RdP W W.heap.size (some ⟨g1, 0, none⟩) n ps → g1 < W.heap.size → Calls Try.prog 13 #[.slice (some ⟨g1, 0, none⟩) n n, .agg #[.int .i64 f.k, .int .i64 f.i, .int .i64 f.l, .int .i64 f.a, .int .i64 f.s]] W fun e w' => ∃ A' c', e = .returned (.tuple #[.slice A' k c', .bool q]) ∧ OwnP w' W.heap.size A' k c' r ∧ Below W.heap.size W w') ∧ (∀ (g1 : Nat) W, RdP W W.heap.size (some ⟨g1, 0, none⟩) n ps → g1 < W.heap.size → Calls Try.prog 15 #[.slice (some ⟨g1, 0, none⟩) n n, .agg #[.int .i64 f.k, .int .i64 f.i, .int .i64 f.l, .int .i64 f.a, .int .i64 f.s]] W fun e w' => ∃ A' c', e = .returned (.tuple #[.slice A' k c', .bool q]) ∧ OwnP w' W.heap.size A' k c' r ∧ Below W.heap.size W w')) := fun r k q hr hk hq => ⟨fun g1 W h1 hgl => by subst hk hr hq; exact (sFactDo_any g1 n n _ ps f W h1 (Nat.le_refl _) hm hf hff hgl (Nat.le_refl _) hm).mono fun _ _ ⟨A', c', e1, _, e2, e3⟩ => ⟨A', c', e1, e2, e3⟩, fun g1 W h1 hgl => by subst hk hr hq; exact factDo_any (some ⟨g1, 0, none⟩) n n _ ps f W h1 (Nat.le_refl _) hm hf hff (.inr ⟨g1, 0, rfl⟩)⟩
    have hlen : (doR ps f).length ≤ 1000 := by have := doR_len ps f; omega
    obtain ⟨r, hr⟩ : ∃ r, r = doR ps f := ⟨_, rfl⟩
    obtain ⟨k, hk⟩ : ∃ k, k = r.length := ⟨_, rfl⟩
    obtain ⟨q, hqq⟩ : ∃ q, q = (doV ps f).isSome := ⟨_, rfl⟩
    rw [← hr, ← hk] at hlen
    have HS := Lib.hid (HSI.out r k q hr hk hqq).1
    have HI := Lib.hid (HSI.out r k q hr hk hqq).2
    clear HSI hr hk hqq
    have hbb : (q != q) = false := by simp
    clear h hm hf hff
    go_enter Try.func4, Try.ntmps4
    go_wp2_with fail
    have Bv0 := Lib.hid ((Below.refl _ w).alloc (Nat.le_refl _) (.cells #[.int .i64 f.k, .int .i64 f.i, .int .i64 f.l, .int .i64 f.a, .int .i64 f.s] 23))
    have zv0 : (w.alloc (.cells #[.int .i64 f.k, .int .i64 f.i, .int .i64 f.l, .int .i64 f.a, .int .i64 f.s] 23)).heap.size = w.heap.size + 1 := World.size_alloc _ _
    have b0_v0 : (w.alloc (.cells #[.int .i64 f.k, .int .i64 f.i, .int .i64 f.l, .int .i64 f.a, .int .i64 f.s] 23)).cell? ⟨w.heap.size, 0, none⟩ = some (.int .i64 f.k) := by simp
    have b1_v0 : (w.alloc (.cells #[.int .i64 f.k, .int .i64 f.i, .int .i64 f.l, .int .i64 f.a, .int .i64 f.s] 23)).cell? ⟨w.heap.size, 1, none⟩ = some (.int .i64 f.i) := by simp
    have b2_v0 : (w.alloc (.cells #[.int .i64 f.k, .int .i64 f.i, .int .i64 f.l, .int .i64 f.a, .int .i64 f.s] 23)).cell? ⟨w.heap.size, 2, none⟩ = some (.int .i64 f.l) := by simp
    have b3_v0 : (w.alloc (.cells #[.int .i64 f.k, .int .i64 f.i, .int .i64 f.l, .int .i64 f.a, .int .i64 f.s] 23)).cell? ⟨w.heap.size, 3, none⟩ = some (.int .i64 f.a) := by simp
    have b4_v0 : (w.alloc (.cells #[.int .i64 f.k, .int .i64 f.i, .int .i64 f.l, .int .i64 f.a, .int .i64 f.s] 23)).cell? ⟨w.heap.size, 4, none⟩ = some (.int .i64 f.s) := by simp
    generalize w.alloc (.cells #[.int .i64 f.k, .int .i64 f.i, .int .i64 f.l, .int .i64 f.a, .int .i64 f.s] 23) = v0 at *
    refine (szP_yes A n c v0 hn).mono ?_
    rintro e w9 ⟨rfl, rfl⟩
    go_wp2_with fail
    go_cut [6, 7] (fun sa sb wx => ∃ (A0 : Option Addr) (c0 : Nat), sa = .slice A0 k c0 ∧ sb = .bool q ∧ Hid (OwnP wx v0.heap.size A0 k c0 r) ∧ Hid (Below v0.heap.size v0 wx) ∧ wx.cell? ⟨w.heap.size, 0, none⟩ = some (.int .i64 f.k) ∧ wx.cell? ⟨w.heap.size, 1, none⟩ = some (.int .i64 f.i) ∧ wx.cell? ⟨w.heap.size, 2, none⟩ = some (.int .i64 f.l) ∧ wx.cell? ⟨w.heap.size, 3, none⟩ = some (.int .i64 f.a) ∧ wx.cell? ⟨w.heap.size, 4, none⟩ = some (.int .i64 f.s))
    case first =>
      have x0 : v0.cell? ⟨w.heap.size, 0, none⟩ = some (.int .i64 f.k) ∧ v0.cell? ⟨w.heap.size, 1, none⟩ = some (.int .i64 f.i) ∧ v0.cell? ⟨w.heap.size, 2, none⟩ = some (.int .i64 f.l) ∧ v0.cell? ⟨w.heap.size, 3, none⟩ = some (.int .i64 f.a) ∧ v0.cell? ⟨w.heap.size, 4, none⟩ = some (.int .i64 f.s) := ⟨b0_v0, b1_v0, b2_v0, b3_v0, b4_v0⟩
      have x0' : v0.drew.cell? ⟨w.heap.size, 0, none⟩ = some (.int .i64 f.k) ∧ v0.drew.cell? ⟨w.heap.size, 1, none⟩ = some (.int .i64 f.i) ∧ v0.drew.cell? ⟨w.heap.size, 2, none⟩ = some (.int .i64 f.l) ∧ v0.drew.cell? ⟨w.heap.size, 3, none⟩ = some (.int .i64 f.a) ∧ v0.drew.cell? ⟨w.heap.size, 4, none⟩ = some (.int .i64 f.s) := x0
      have hlb := World.block_lt_of_cell? _ _ x0.1
      have D0 : Hid (Below v0.heap.size v0 v0.drew) := (Below.refl _ _).drew
      have xS : Hid (∀ w', Below v0.heap.size v0 w' → w'.cell? ⟨w.heap.size, 0, none⟩ = some (.int .i64 f.k) ∧ w'.cell? ⟨w.heap.size, 1, none⟩ = some (.int .i64 f.i) ∧ w'.cell? ⟨w.heap.size, 2, none⟩ = some (.int .i64 f.l) ∧ w'.cell? ⟨w.heap.size, 3, none⟩ = some (.int .i64 f.a) ∧ w'.cell? ⟨w.heap.size, 4, none⟩ = some (.int .i64 f.s)) := fun w' hb => ⟨(hb.cell (p := ⟨w.heap.size, 0, none⟩) hlb).trans x0.1, (hb.cell (p := ⟨w.heap.size, 1, none⟩) hlb).trans x0.2.1, (hb.cell (p := ⟨w.heap.size, 2, none⟩) hlb).trans x0.2.2.1, (hb.cell (p := ⟨w.heap.size, 3, none⟩) hlb).trans x0.2.2.2.1, (hb.cell (p := ⟨w.heap.size, 4, none⟩) hlb).trans x0.2.2.2.2⟩
      have CT : Hid (∀ W', Below v0.heap.size v0 W' → Calls Try.prog 14 #[.slice A n c] W' fun e w' => ∃ ga, e = .returned (.slice (some ⟨ga, 0, none⟩) n n) ∧ Hid (OwnP w' v0.heap.size (some ⟨ga, 0, none⟩) n n ps) ∧ Hid (Below v0.heap.size v0 w') ∧ w'.cell? ⟨w.heap.size, 0, none⟩ = some (.int .i64 f.k) ∧ w'.cell? ⟨w.heap.size, 1, none⟩ = some (.int .i64 f.i) ∧ w'.cell? ⟨w.heap.size, 2, none⟩ = some (.int .i64 f.l) ∧ w'.cell? ⟨w.heap.size, 3, none⟩ = some (.int .i64 f.a) ∧ w'.cell? ⟨w.heap.size, 4, none⟩ = some (.int .i64 f.s)) := fun W' hb => (toP_any A n c _ ps W' (H.out.below (Bv0.out.trans (hb.mono (by omega)))) (by have := hb.size; omega) hn).mono fun e w' ⟨ga, he, ho, hb2⟩ => ⟨ga, he, ho.from_ hb.size, hb.trans (hb2.mono hb.size), xS.out w' (hb.trans (hb2.mono hb.size))⟩
      have CB : Hid (∀ W', Below v0.heap.size v0 W' → Calls Try.prog 10 #[.agg #[.int .i64 f.k, .int .i64 f.i, .int .i64 f.l, .int .i64 f.a, .int .i64 f.s]] W' fun e w' => e = .returned (.agg #[.int .i64 f.k, .int .i64 f.i, .int .i64 f.l, .int .i64 f.a, .int .i64 f.s]) ∧ Hid (Below W'.heap.size W' w') ∧ Hid (Below v0.heap.size v0 w') ∧ w'.cell? ⟨w.heap.size, 0, none⟩ = some (.int .i64 f.k) ∧ w'.cell? ⟨w.heap.size, 1, none⟩ = some (.int .i64 f.i) ∧ w'.cell? ⟨w.heap.size, 2, none⟩ = some (.int .i64 f.l) ∧ w'.cell? ⟨w.heap.size, 3, none⟩ = some (.int .i64 f.a) ∧ w'.cell? ⟨w.heap.size, 4, none⟩ = some (.int .i64 f.s)) := fun W' hb => (toFact_any f W').mono fun e w' ⟨he, hb2⟩ => ⟨he, hb2, hb.trans (hb2.mono hb.size), xS.out w' (hb.trans (hb2.mono hb.size))⟩
      have CL : Hid (∀ W' ga, OwnP W' v0.heap.size (some ⟨ga, 0, none⟩) n n ps → Below v0.heap.size v0 W' → Calls Try.prog 13 #[.slice (some ⟨ga, 0, none⟩) n n, .agg #[.int .i64 f.k, .int .i64 f.i, .int .i64 f.l, .int .i64 f.a, .int .i64 f.s]] W' fun e w' => ∃ A' c', e = .returned (.tuple #[.slice A' k c', .bool q]) ∧ Hid (OwnP w' v0.heap.size A' k c' r) ∧ Hid (Below v0.heap.size v0 w') ∧ w'.cell? ⟨w.heap.size, 0, none⟩ = some (.int .i64 f.k) ∧ w'.cell? ⟨w.heap.size, 1, none⟩ = some (.int .i64 f.i) ∧ w'.cell? ⟨w.heap.size, 2, none⟩ = some (.int .i64 f.l) ∧ w'.cell? ⟨w.heap.size, 3, none⟩ = some (.int .i64 f.a) ∧ w'.cell? ⟨w.heap.size, 4, none⟩ = some (.int .i64 f.s)) := fun W' ga ho hb => (HS.out ga W' ho.rd (ho.range ga rfl).2).mono fun e w' ⟨A', c', he, ho2, hb2⟩ => ⟨A', c', he, ho2.from_ hb.size, hb.trans (hb2.mono hb.size), xS.out w' (hb.trans (hb2.mono hb.size))⟩
      go_region_held3 (fun w' => w'.cell? ⟨w.heap.size, 0, none⟩ = some (.int .i64 f.k) ∧ w'.cell? ⟨w.heap.size, 1, none⟩ = some (.int .i64 f.i) ∧ w'.cell? ⟨w.heap.size, 2, none⟩ = some (.int .i64 f.l) ∧ w'.cell? ⟨w.heap.size, 3, none⟩ = some (.int .i64 f.a) ∧ w'.cell? ⟨w.heap.size, 4, none⟩ = some (.int .i64 f.s))
        (first | exact x0 | exact x0' | exact xa | exact xb | exact xc)
        (first | (go_at_call 14; (with_reducible refine (CT.out _ D0.out).mono ?_); rintro e wa ⟨ga, rfl, OA, BA, xa⟩)
               | (go_at_call 14; (with_reducible refine (CT.out _ BB.out).mono ?_); rintro e wa ⟨ga, rfl, OA, BA, xa⟩)
               | (go_at_call 10; (with_reducible refine (CB.out _ D0.out).mono ?_); rintro e wb ⟨rfl, BI, BB, xb⟩)
               | (go_at_call 10; (with_reducible refine (CB.out _ BA.out).mono ?_); rintro e wb ⟨rfl, BI, BB, xb⟩; have OB := Lib.hid (OA.out.below BI.out))
               | (go_at_call 13; (with_reducible refine (CL.out _ _ OB.out BB.out).mono ?_); rintro e wd ⟨Ad, cd, rfl, OD, BD, xc⟩)
               | (go_at_call 13; (with_reducible refine (CL.out _ _ OA.out BA.out).mono ?_); rintro e wd ⟨Ad, cd, rfl, OD, BD, xc⟩))
      all_goals (go_wp2_with fail; go_meet; exact ⟨Ad, cd, rfl, rfl, OD, BD, xc⟩)
    case rest =>
      obtain ⟨A0, c0, rfl, rfl, ho9, hb9, b0_w1, b1_w1, b2_w1, b3_w1, b4_w1⟩ := hcut
      generalize wc = w1 at *
      have hb := hb9.out
      have ho := ho9.out
      clear ho9 hb9 b0_v0 b1_v0 b2_v0 b3_v0 b4_v0
      have zw1 := hb.size
      have Bw1 : Hid (Below w.heap.size w w1) := Bv0.out.trans (hb.mono (by omega))
      clear Bv0
      have OW_w1 := Lib.hid ho
      have ROW := Lib.hid ho.range
      clear ho hb
      go_wp2_with fail
      refine (toP_any A n c _ ps w1 (H.out.below Bw1.out) (by omega) hn).mono ?_
      rintro e w2 ⟨g2, rfl, ho, hb⟩
      have zw2 := hb.size
      have b0_w2 := later hb b0_w1
      have b1_w2 := later hb b1_w1
      have b2_w2 := later hb b2_w1
      have b3_w2 := later hb b3_w1
      have b4_w2 := later hb b4_w1
      clear b0_w1 b1_w1 b2_w1 b3_w1 b4_w1
      have OW_w2 : Hid (OwnP w2 v0.heap.size A0 k c0 r) := OW_w1.out.below hb
      have Bw2 : Hid (Below w.heap.size w w2) := Bw1.out.trans (hb.mono (by omega))
      clear OW_w1
      clear Bw1
      have X0_w2 := Lib.hid ho
      have RX0 := OwnP.range ho g2 rfl
      clear ho
      clear hb
      go_wp2_with fail
      refine (toFact_any f w2).mono ?_
      rintro e w3 ⟨rfl, hb⟩
      have zw3 := hb.size
      have b0_w3 := later hb b0_w2
      have b1_w3 := later hb b1_w2
      have b2_w3 := later hb b2_w2
      have b3_w3 := later hb b3_w2
      have b4_w3 := later hb b4_w2
      clear b0_w2 b1_w2 b2_w2 b3_w2 b4_w2
      have OW_w3 : Hid (OwnP w3 v0.heap.size A0 k c0 r) := OW_w2.out.below hb
      have X0_w3 : Hid (OwnP w3 w1.heap.size (some ⟨g2, 0, none⟩) n n ps) := X0_w2.out.below hb
      have Bw3 : Hid (Below w.heap.size w w3) := Bw2.out.trans (hb.mono (by omega))
      clear OW_w2 X0_w2
      clear Bw2
      clear hb
      go_wp2_with fail
      refine (HI.out g2 w3 X0_w3.out.rd (by omega)).mono ?_
      rintro e w4 ⟨A1, c1, rfl, ho, hb⟩
      have zw4 := hb.size
      have b0_w4 := later hb b0_w3
      have b1_w4 := later hb b1_w3
      have b2_w4 := later hb b2_w3
      have b3_w4 := later hb b3_w3
      have b4_w4 := later hb b4_w3
      clear b0_w3 b1_w3 b2_w3 b3_w3 b4_w3
      have OW_w4 : Hid (OwnP w4 v0.heap.size A0 k c0 r) := OW_w3.out.below hb
      have X0_w4 : Hid (OwnP w4 w1.heap.size (some ⟨g2, 0, none⟩) n n ps) := X0_w3.out.below hb
      have Bw4 : Hid (Below w.heap.size w w4) := Bw3.out.trans (hb.mono (by omega))
      clear OW_w3 X0_w3
      clear Bw3
      have OG_w4 := Lib.hid ho
      have ROG := Lib.hid ho.range
      clear ho
      clear hb
      have HE := Lib.hid (eqP_any A1 A0 k k c1 c0 _ _ r r w4 OG_w4.out.rd OW_w4.out.rd (Nat.le_refl _) (Nat.le_refl _) (by unfold maxLen; omega) (by unfold maxLen; omega))
      rw [decide_eq_true rfl] at HE
      go_wp2_with fail
      refine (HE.out).mono ?_
      rintro e w5 ⟨rfl, hb⟩
      have zw5 := hb.size
      have b0_w5 := later hb b0_w4
      have b1_w5 := later hb b1_w4
      have b2_w5 := later hb b2_w4
      have b3_w5 := later hb b3_w4
      have b4_w5 := later hb b4_w4
      clear b0_w4 b1_w4 b2_w4 b3_w4 b4_w4
      have OW_w5 : Hid (OwnP w5 v0.heap.size A0 k c0 r) := OW_w4.out.below hb
      have X0_w5 : Hid (OwnP w5 w1.heap.size (some ⟨g2, 0, none⟩) n n ps) := X0_w4.out.below hb
      have OG_w5 : Hid (OwnP w5 w3.heap.size A1 k c1 r) := OG_w4.out.below hb
      have Bw5 : Hid (Below w.heap.size w w5) := Bw4.out.trans (hb.mono (by omega))
      clear OW_w4 X0_w4 OG_w4
      clear Bw4
      clear hb
      clear HE
      go_wp2_with fail
      refine (toP_any A n c _ ps w5 (H.out.below Bw5.out) (by omega) hn).mono ?_
      rintro e w6 ⟨g3, rfl, ho, hb⟩
      have zw6 := hb.size
      have b0_w6 := later hb b0_w5
      have b1_w6 := later hb b1_w5
      have b2_w6 := later hb b2_w5
      have b3_w6 := later hb b3_w5
      have b4_w6 := later hb b4_w5
      clear b0_w5 b1_w5 b2_w5 b3_w5 b4_w5
      have OW_w6 : Hid (OwnP w6 v0.heap.size A0 k c0 r) := OW_w5.out.below hb
      have X0_w6 : Hid (OwnP w6 w1.heap.size (some ⟨g2, 0, none⟩) n n ps) := X0_w5.out.below hb
      have OG_w6 : Hid (OwnP w6 w3.heap.size A1 k c1 r) := OG_w5.out.below hb
      have Bw6 : Hid (Below w.heap.size w w6) := Bw5.out.trans (hb.mono (by omega))
      clear OW_w5 X0_w5 OG_w5
      clear Bw5
      have Y0_w6 := Lib.hid ho
      have RY0 := OwnP.range ho g3 rfl
      clear ho
      clear hb
      have HE := Lib.hid (eqP_any (some ⟨g2, 0, none⟩) (some ⟨g3, 0, none⟩) n n n n _ _ ps ps w6 X0_w6.out.rd Y0_w6.out.rd (Nat.le_refl _) (Nat.le_refl _) (by unfold maxLen; omega) (by unfold maxLen; omega))
      rw [decide_eq_true rfl] at HE
      go_wp2_with fail
      refine (HE.out).mono ?_
      rintro e w7 ⟨rfl, hb⟩
      have zw7 := hb.size
      have b0_w7 := later hb b0_w6
      have b1_w7 := later hb b1_w6
      have b2_w7 := later hb b2_w6
      have b3_w7 := later hb b3_w6
      have b4_w7 := later hb b4_w6
      clear b0_w6 b1_w6 b2_w6 b3_w6 b4_w6
      have OW_w7 : Hid (OwnP w7 v0.heap.size A0 k c0 r) := OW_w6.out.below hb
      have X0_w7 : Hid (OwnP w7 w1.heap.size (some ⟨g2, 0, none⟩) n n ps) := X0_w6.out.below hb
      have OG_w7 : Hid (OwnP w7 w3.heap.size A1 k c1 r) := OG_w6.out.below hb
      have Y0_w7 : Hid (OwnP w7 w5.heap.size (some ⟨g3, 0, none⟩) n n ps) := Y0_w6.out.below hb
      have Bw7 : Hid (Below w.heap.size w w7) := Bw6.out.trans (hb.mono (by omega))
      clear OW_w6 X0_w6 OG_w6 Y0_w6
      clear Bw6
      clear hb
      clear HE
      clear Y0_w7
      go_wp2_with fail
      refine (markP_any (some ⟨g2, 0, none⟩) n n _ ps w7 X0_w7.out (by omega)).mono ?_
      rintro e w8 ⟨rfl, ho, hg⟩
      have zw8 := hg.size
      have b0_w8 := (hg.cell b0_w7 (fun e => by have h1 : w.heap.size = g2 := (by injection e); omega))
      have b1_w8 := (hg.cell b1_w7 (fun e => by have h1 : w.heap.size = g2 := (by injection e); omega))
      have b2_w8 := (hg.cell b2_w7 (fun e => by have h1 : w.heap.size = g2 := (by injection e); omega))
      have b3_w8 := (hg.cell b3_w7 (fun e => by have h1 : w.heap.size = g2 := (by injection e); omega))
      have b4_w8 := (hg.cell b4_w7 (fun e => by have h1 : w.heap.size = g2 := (by injection e); omega))
      clear b0_w7 b1_w7 b2_w7 b3_w7 b4_w7
      have OW_w8 : Hid (OwnP w8 v0.heap.size A0 k c0 r) := OW_w7.out.far hg (fun g hg1 hg2 => by have h1 := ROW.out g hg1; (have h2 : g2 = g := by injection hg2); omega)
      have X0_w8 : Hid (OwnP w8 w1.heap.size (some ⟨g2, 0, none⟩) n n (marksP n)) := ho
      have OG_w8 : Hid (OwnP w8 w3.heap.size A1 k c1 r) := OG_w7.out.far hg (fun g hg1 hg2 => by have h1 := ROG.out g hg1; (have h2 : g2 = g := by injection hg2); omega)
      have Bw8 : Hid (Below w.heap.size w w8) := Bw7.out.grown hg (by omega) (fun g hg1 => by (have h1 : g2 = g := by injection hg1); omega)
      clear OW_w7 X0_w7 OG_w7
      clear Bw7
      clear hg ho
      clear X0_w8
      have hq1 : ¬ (1 : Int) + 2 * (n : Int) < 0 := by omega
      have HE := Lib.hid (eqP_any A1 A0 k k c1 c0 _ _ r r w8 OG_w8.out.rd OW_w8.out.rd (Nat.le_refl _) (Nat.le_refl _) (by unfold maxLen; omega) (by unfold maxLen; omega))
      rw [decide_eq_true rfl] at HE
      go_wp2_with fail
      refine (HE.out).mono ?_
      rintro e w9 ⟨rfl, hb⟩
      have zw9 := hb.size
      have b0_w9 := later hb b0_w8
      have b1_w9 := later hb b1_w8
      have b2_w9 := later hb b2_w8
      have b3_w9 := later hb b3_w8
      have b4_w9 := later hb b4_w8
      clear b0_w8 b1_w8 b2_w8 b3_w8 b4_w8
      have OW_w9 : Hid (OwnP w9 v0.heap.size A0 k c0 r) := OW_w8.out.below hb
      have OG_w9 : Hid (OwnP w9 w3.heap.size A1 k c1 r) := OG_w8.out.below hb
      have Bw9 : Hid (Below w.heap.size w w9) := Bw8.out.trans (hb.mono (by omega))
      clear OW_w8 OG_w8
      clear Bw8
      clear hb
      clear HE
      go_wp2_with fail
      refine (markP_any A1 k c1 _ r w9 OG_w9.out (by omega)).mono ?_
      rintro e w10 ⟨rfl, ho, hg⟩
      have zw10 := hg.size
      have b0_w10 := (hg.cell b0_w9 (fun e => by have h1 := ROG.out _ e.symm; dsimp only at h1; omega))
      have b1_w10 := (hg.cell b1_w9 (fun e => by have h1 := ROG.out _ e.symm; dsimp only at h1; omega))
      have b2_w10 := (hg.cell b2_w9 (fun e => by have h1 := ROG.out _ e.symm; dsimp only at h1; omega))
      have b3_w10 := (hg.cell b3_w9 (fun e => by have h1 := ROG.out _ e.symm; dsimp only at h1; omega))
      have b4_w10 := (hg.cell b4_w9 (fun e => by have h1 := ROG.out _ e.symm; dsimp only at h1; omega))
      clear b0_w9 b1_w9 b2_w9 b3_w9 b4_w9
      have OW_w10 : Hid (OwnP w10 v0.heap.size A0 k c0 r) := OW_w9.out.far hg (fun g hg1 hg2 => by have h1 := ROW.out g hg1; have h2 := ROG.out g hg2; omega)
      have OG_w10 : Hid (OwnP w10 w3.heap.size A1 k c1 (marksP k)) := ho
      have Bw10 : Hid (Below w.heap.size w w10) := Bw9.out.grown hg (by omega) (fun g hg1 => by have h1 := ROG.out g hg1; omega)
      clear OW_w9 OG_w9
      clear Bw9
      clear hg ho
      have HH := Lib.hid (heldP_any A1 k c1 _ w10 OG_w10.out.rd (by omega))
      go_wp2_with fail
      refine HH.out.mono ?_
      rintro e w9 ⟨rfl, rfl⟩
      clear HH
      have hq2 : ¬ (1 : Int) + 2 * (k : Int) < 0 := by omega
      go_wp2_with fail
      go_cut [14, 15] (fun sa sb wx => ∃ (A3 : Option Addr) (c3 : Nat), sa = .slice A3 k c3 ∧ sb = .bool q ∧ Hid (OwnP wx w10.heap.size A3 k c3 r) ∧ Hid (Below w10.heap.size w10 wx) ∧ wx.cell? ⟨w.heap.size, 0, none⟩ = some (.int .i64 f.k) ∧ wx.cell? ⟨w.heap.size, 1, none⟩ = some (.int .i64 f.i) ∧ wx.cell? ⟨w.heap.size, 2, none⟩ = some (.int .i64 f.l) ∧ wx.cell? ⟨w.heap.size, 3, none⟩ = some (.int .i64 f.a) ∧ wx.cell? ⟨w.heap.size, 4, none⟩ = some (.int .i64 f.s))
      case first =>
        have x0 : w10.cell? ⟨w.heap.size, 0, none⟩ = some (.int .i64 f.k) ∧ w10.cell? ⟨w.heap.size, 1, none⟩ = some (.int .i64 f.i) ∧ w10.cell? ⟨w.heap.size, 2, none⟩ = some (.int .i64 f.l) ∧ w10.cell? ⟨w.heap.size, 3, none⟩ = some (.int .i64 f.a) ∧ w10.cell? ⟨w.heap.size, 4, none⟩ = some (.int .i64 f.s) := ⟨b0_w10, b1_w10, b2_w10, b3_w10, b4_w10⟩
        have x0' : w10.drew.cell? ⟨w.heap.size, 0, none⟩ = some (.int .i64 f.k) ∧ w10.drew.cell? ⟨w.heap.size, 1, none⟩ = some (.int .i64 f.i) ∧ w10.drew.cell? ⟨w.heap.size, 2, none⟩ = some (.int .i64 f.l) ∧ w10.drew.cell? ⟨w.heap.size, 3, none⟩ = some (.int .i64 f.a) ∧ w10.drew.cell? ⟨w.heap.size, 4, none⟩ = some (.int .i64 f.s) := x0
        have hlb := World.block_lt_of_cell? _ _ x0.1
        have D0 : Hid (Below w10.heap.size w10 w10.drew) := (Below.refl _ _).drew
        have xS : Hid (∀ w', Below w10.heap.size w10 w' → w'.cell? ⟨w.heap.size, 0, none⟩ = some (.int .i64 f.k) ∧ w'.cell? ⟨w.heap.size, 1, none⟩ = some (.int .i64 f.i) ∧ w'.cell? ⟨w.heap.size, 2, none⟩ = some (.int .i64 f.l) ∧ w'.cell? ⟨w.heap.size, 3, none⟩ = some (.int .i64 f.a) ∧ w'.cell? ⟨w.heap.size, 4, none⟩ = some (.int .i64 f.s)) := fun w' hb => ⟨(hb.cell (p := ⟨w.heap.size, 0, none⟩) hlb).trans x0.1, (hb.cell (p := ⟨w.heap.size, 1, none⟩) hlb).trans x0.2.1, (hb.cell (p := ⟨w.heap.size, 2, none⟩) hlb).trans x0.2.2.1, (hb.cell (p := ⟨w.heap.size, 3, none⟩) hlb).trans x0.2.2.2.1, (hb.cell (p := ⟨w.heap.size, 4, none⟩) hlb).trans x0.2.2.2.2⟩
        have CT : Hid (∀ W', Below w10.heap.size w10 W' → Calls Try.prog 14 #[.slice A n c] W' fun e w' => ∃ ga, e = .returned (.slice (some ⟨ga, 0, none⟩) n n) ∧ Hid (OwnP w' w10.heap.size (some ⟨ga, 0, none⟩) n n ps) ∧ Hid (Below w10.heap.size w10 w') ∧ w'.cell? ⟨w.heap.size, 0, none⟩ = some (.int .i64 f.k) ∧ w'.cell? ⟨w.heap.size, 1, none⟩ = some (.int .i64 f.i) ∧ w'.cell? ⟨w.heap.size, 2, none⟩ = some (.int .i64 f.l) ∧ w'.cell? ⟨w.heap.size, 3, none⟩ = some (.int .i64 f.a) ∧ w'.cell? ⟨w.heap.size, 4, none⟩ = some (.int .i64 f.s)) := fun W' hb => (toP_any A n c _ ps W' (H.out.below (Bw10.out.trans (hb.mono (by omega)))) (by have := hb.size; omega) hn).mono fun e w' ⟨ga, he, ho, hb2⟩ => ⟨ga, he, ho.from_ hb.size, hb.trans (hb2.mono hb.size), xS.out w' (hb.trans (hb2.mono hb.size))⟩
        have CB : Hid (∀ W', Below w10.heap.size w10 W' → Calls Try.prog 10 #[.agg #[.int .i64 f.k, .int .i64 f.i, .int .i64 f.l, .int .i64 f.a, .int .i64 f.s]] W' fun e w' => e = .returned (.agg #[.int .i64 f.k, .int .i64 f.i, .int .i64 f.l, .int .i64 f.a, .int .i64 f.s]) ∧ Hid (Below W'.heap.size W' w') ∧ Hid (Below w10.heap.size w10 w') ∧ w'.cell? ⟨w.heap.size, 0, none⟩ = some (.int .i64 f.k) ∧ w'.cell? ⟨w.heap.size, 1, none⟩ = some (.int .i64 f.i) ∧ w'.cell? ⟨w.heap.size, 2, none⟩ = some (.int .i64 f.l) ∧ w'.cell? ⟨w.heap.size, 3, none⟩ = some (.int .i64 f.a) ∧ w'.cell? ⟨w.heap.size, 4, none⟩ = some (.int .i64 f.s)) := fun W' hb => (toFact_any f W').mono fun e w' ⟨he, hb2⟩ => ⟨he, hb2, hb.trans (hb2.mono hb.size), xS.out w' (hb.trans (hb2.mono hb.size))⟩
        have CL : Hid (∀ W' ga, OwnP W' w10.heap.size (some ⟨ga, 0, none⟩) n n ps → Below w10.heap.size w10 W' → Calls Try.prog 15 #[.slice (some ⟨ga, 0, none⟩) n n, .agg #[.int .i64 f.k, .int .i64 f.i, .int .i64 f.l, .int .i64 f.a, .int .i64 f.s]] W' fun e w' => ∃ A' c', e = .returned (.tuple #[.slice A' k c', .bool q]) ∧ Hid (OwnP w' w10.heap.size A' k c' r) ∧ Hid (Below w10.heap.size w10 w') ∧ w'.cell? ⟨w.heap.size, 0, none⟩ = some (.int .i64 f.k) ∧ w'.cell? ⟨w.heap.size, 1, none⟩ = some (.int .i64 f.i) ∧ w'.cell? ⟨w.heap.size, 2, none⟩ = some (.int .i64 f.l) ∧ w'.cell? ⟨w.heap.size, 3, none⟩ = some (.int .i64 f.a) ∧ w'.cell? ⟨w.heap.size, 4, none⟩ = some (.int .i64 f.s)) := fun W' ga ho hb => (HI.out ga W' ho.rd (ho.range ga rfl).2).mono fun e w' ⟨A', c', he, ho2, hb2⟩ => ⟨A', c', he, ho2.from_ hb.size, hb.trans (hb2.mono hb.size), xS.out w' (hb.trans (hb2.mono hb.size))⟩
        go_region_held3 (fun w' => w'.cell? ⟨w.heap.size, 0, none⟩ = some (.int .i64 f.k) ∧ w'.cell? ⟨w.heap.size, 1, none⟩ = some (.int .i64 f.i) ∧ w'.cell? ⟨w.heap.size, 2, none⟩ = some (.int .i64 f.l) ∧ w'.cell? ⟨w.heap.size, 3, none⟩ = some (.int .i64 f.a) ∧ w'.cell? ⟨w.heap.size, 4, none⟩ = some (.int .i64 f.s))
          (first | exact x0 | exact x0' | exact xa | exact xb | exact xc)
          (first | (go_at_call 14; (with_reducible refine (CT.out _ D0.out).mono ?_); rintro e wa ⟨ga, rfl, OA, BA, xa⟩)
                 | (go_at_call 14; (with_reducible refine (CT.out _ BB.out).mono ?_); rintro e wa ⟨ga, rfl, OA, BA, xa⟩)
                 | (go_at_call 10; (with_reducible refine (CB.out _ D0.out).mono ?_); rintro e wb ⟨rfl, BI, BB, xb⟩)
                 | (go_at_call 10; (with_reducible refine (CB.out _ BA.out).mono ?_); rintro e wb ⟨rfl, BI, BB, xb⟩; have OB := Lib.hid (OA.out.below BI.out))
                 | (go_at_call 15; (with_reducible refine (CL.out _ _ OB.out BB.out).mono ?_); rintro e wd ⟨Ad, cd, rfl, OD, BD, xc⟩)
                 | (go_at_call 15; (with_reducible refine (CL.out _ _ OA.out BA.out).mono ?_); rintro e wd ⟨Ad, cd, rfl, OD, BD, xc⟩))
        all_goals (go_wp2_with fail; go_meet; exact ⟨Ad, cd, rfl, rfl, OD, BD, xc⟩)
      case rest =>
        obtain ⟨A3, c3, rfl, rfl, ho9, hb9, b0_w11, b1_w11, b2_w11, b3_w11, b4_w11⟩ := hcut
        generalize wc = w11 at *
        have hb := hb9.out
        have ho := ho9.out
        clear ho9 hb9 b0_w10 b1_w10 b2_w10 b3_w10 b4_w10
        have zw11 := hb.size
        have OW_w11 : Hid (OwnP w11 v0.heap.size A0 k c0 r) := OW_w10.out.below hb
        have OG_w11 : Hid (OwnP w11 w3.heap.size A1 k c1 (marksP k)) := OG_w10.out.below hb
        have Bw11 : Hid (Below w.heap.size w w11) := Bw10.out.trans (hb.mono (by omega))
        clear OW_w10 OG_w10
        clear Bw10
        have OH_w11 := Lib.hid ho
        have ROH := Lib.hid ho.range
        clear ho hb
        have HE := Lib.hid (eqP_any A3 A0 k k c3 c0 _ _ r r w11 OH_w11.out.rd OW_w11.out.rd (Nat.le_refl _) (Nat.le_refl _) (by unfold maxLen; omega) (by unfold maxLen; omega))
        rw [decide_eq_true rfl] at HE
        go_wp2_with fail
        refine (HE.out).mono ?_
        rintro e w12 ⟨rfl, hb⟩
        have zw12 := hb.size
        have b0_w12 := later hb b0_w11
        have b1_w12 := later hb b1_w11
        have b2_w12 := later hb b2_w11
        have b3_w12 := later hb b3_w11
        have b4_w12 := later hb b4_w11
        clear b0_w11 b1_w11 b2_w11 b3_w11 b4_w11
        have OW_w12 : Hid (OwnP w12 v0.heap.size A0 k c0 r) := OW_w11.out.below hb
        have OG_w12 : Hid (OwnP w12 w3.heap.size A1 k c1 (marksP k)) := OG_w11.out.below hb
        have OH_w12 : Hid (OwnP w12 w10.heap.size A3 k c3 r) := OH_w11.out.below hb
        have Bw12 : Hid (Below w.heap.size w w12) := Bw11.out.trans (hb.mono (by omega))
        clear OW_w11 OG_w11 OH_w11
        clear Bw11
        clear hb
        clear HE
        have HH := Lib.hid (heldP_any A1 k c1 _ w12 OG_w12.out.rd (by omega))
        go_wp2_with fail
        refine HH.out.mono ?_
        rintro e w9 ⟨rfl, rfl⟩
        clear HH
        go_wp2
        go_ret
        exact ⟨rfl, Bw12.out⟩
  · clear h hf
    go_enter Try.func4, Try.ntmps4
    go_wp2_with fail
    refine (szP_no A n c _ hm (by omega)).mono ?_
    rintro e w9 ⟨rfl, rfl⟩
    go_wp2
    go_ret
    exact ⟨rfl, (Below.refl _ _).alloc (Nat.le_refl _) _⟩

set_option maxRecDepth 100000 in
theorem fnExactFactDo_lifted (os : Os) (started : os.Started) (H : Type) (enc : TypeId × Value → H) :
    ReturnsInHanded {} Try.checked os 4 .any (Rows.fnExactFactDoSpec.pre6 enc Try.prog Try.f4 Rows.fnExactFactDoRow.domain false) (Rows.fnExactFactDoSpec.post enc Try.prog Try.f4 false true false false) := by
  refine returnsInHanded_of_change (C := Try.checked) own started (by kernel_rfl) Try.func4
    (ChangeSpec.witness6 (enc := enc) (C := Try.checked) false ⟨#[], #[.slice none 0 0, .agg #[.int .i64 0, .int .i64 0, .int .i64 0, .int .i64 0, .int .i64 0]], []⟩ 8 (by kernel_rfl) (by kernel_rfl) (by kernel_rfl) (by kernel_rfl)) ?_
  intro W base args ds gs before hval0 hW hcnd _
  have hval : ∀ (j : Nat) t v, Try.f4.params[j]? = some t → args[j]? = some v → Value.okWide Try.prog W .any base t v := hval0
  have hW' := hW
  obtain ⟨p, q, hA0, hV, rfl, hfz, hnd⟩ := hW
  have hA : DataW.TrodAll enc Try.prog W 0 (fun _ => true) true Try.f4.params.toList args.toList ds p := hA0
  rw [Try.params4] at hA hval
  obtain ⟨v0, vs0, d0, ds0, p0, q0, hargs, rfl, rfl, h0, r0⟩ := trodAll_cons hA
  obtain ⟨v1, vs1, d1, ds1, p1, q1, rfl, rfl, rfl, h1, r1⟩ := trodAll_cons r0
  obtain ⟨rfl, rfl, rfl⟩ := trodAll_nil r1
  obtain rfl : args = #[v0, v1] := by cases args; simp_all
  obtain ⟨rfl, rfl⟩ := trodVars_none hV
  have k0 := h0
  have lt0 : ∀ x ∈ p0, x.block < W.heap.size := by obtain ⟨m, hm⟩ := k0; exact DataW.trod_lt m _ _ _ hm
  obtain ⟨A0, n0, c0, z0, rfl, m0, rd0, f0⟩ := open_blkS (hval 0 28 v0 rfl rfl) h0
  have k1 := h1
  have lt1 : ∀ x ∈ p1, x.block < W.heap.size := by obtain ⟨m, hm⟩ := k1; exact DataW.trod_lt m _ _ _ hm
  obtain ⟨f1, rfl, wf1⟩ := open_fact (hval 1 23 v1 rfl rfl) h1
  clear hA0 hval0
  refine (fnExactFactDo_walk A0 n0 c0 z0 f1 W rd0 m0 f0 wf1).mono fun e W' ⟨he, bel⟩ => ?_
  subst he
  exact ⟨_, rfl, _, _, _, [], _, [], hW', trodAll_mk1 (shut_bool Try.underlying4 _), (trodAll_cons_mk (Below.trod laidOut (by kernel_rfl) (of_decide_eq_true (by kernel_rfl)) k0 bel lt0) (trodAll_cons_mk (Below.trod laidOut (by kernel_rfl) (of_decide_eq_true (by kernel_rfl)) k1 bel lt1) (trodAll_mk0))), rfl, bel.frame _, fun h => by cases h⟩

/-- The given statement: for every input the law returns true, and its arguments read as before. -/
theorem fnExactFactDo_holds : Rows.FnExactFactDoSaid :=
  OpenClaim.holds_of_wide 4 Try.f4 rfl rfl rfl rfl rfl rfl rfl ⟨rfl, rfl, rfl, rfl, rfl⟩ rfl rfl rfl rfl rfl (by kernel_rfl) Try.func4 (by kernel_rfl)
    (of_decide_eq_true (by kernel_rfl)) (by unfold Func.isWrapper; first | (rw [if_pos (by decide +kernel)]; kernel_rfl) | (rw [if_neg (by decide +kernel)]; exact ⟨rfl, rfl⟩))
    (fun os started H enc _ => fnExactFactDo_lifted os started H enc)
#print axioms fnExactFactDo_holds
end Go.Proofs.Ythcchnaoenjhlaa
