/- LiveCut of the program answers as the model at every argument, leaves its argument as it was, and answers in memory of its own. No condition. -/
import Derived.Test.YtlaegdfaaoaiaaaILiveCut
import Derived.Test.YtlaegdfaaoaiaaaSLiveCut
import Derived.Test.YtlaegdfaaoaiaaaEqP
import Derived.Test.YtlaegdfaaoaiaaaMarkP
import Derived.Test.YtlaegdfaaoaiaaaSzP
import Derived.Test.YtlaegdfaaoaiaaaOpenP
namespace Go.Proofs.Ytlaegdfaaoaiaaa
open Go.ChangeShapes Go.WideShapes Go.ChangeAt Go.RowKit
set_option linter.unusedVariables false

set_option maxRecDepth 100000 in
set_option maxHeartbeats 4000000 in
theorem fnExactLiveCut_walk (A : Option Addr) (n c : Nat) (ps : List (Int × Int)) (a1 a2 : Int) (w : World) (h : RdP w w.heap.size A n ps) (hm : n ≤ maxLen) (hf : WfP ps) (hw1 : (Lit.int .i64 a1).wf = true) (hw2 : (Lit.int .i64 a2).wf = true) :
    Calls Try.prog 6 #[.slice A n c, .int .i64 a1, .int .i64 a2] w fun e w' => e = .returned (.bool true) ∧ Below w.heap.size w w' := by
  by_cases hn : n ≤ 1048576
  · have H := Lib.hid h
    have HF := Lib.hid hf
    have hq : ¬ (1048576 : Int) - (n : Int) < 0 := by omega
    have HSI : Hid (∀ r k sz q, r = cutR ps a1 a2 → k = r.length → sz = cutS ps a1 a2 → q = (cutV ps a1 a2).isSome → (∀ (g1 : Nat) W, RdP W W.heap.size (some ⟨g1, 0, none⟩) n ps → Calls Try.prog 29 #[.slice (some ⟨g1, 0, none⟩) n n, .int .i64 a1, .int .i64 a2] W fun e w' => ∃ A' c', e = .returned (.tuple #[.slice A' k c', .int .i64 sz, .bool q]) ∧ OwnP w' W.heap.size A' k c' r ∧ Below W.heap.size W w') ∧ (∀ (g1 : Nat) W, RdP W W.heap.size (some ⟨g1, 0, none⟩) n ps → Calls Try.prog 17 #[.slice (some ⟨g1, 0, none⟩) n n, .int .i64 a1, .int .i64 a2] W fun e w' => ∃ A' c', e = .returned (.tuple #[.slice A' k c', .int .i64 sz, .bool q]) ∧ OwnP w' W.heap.size A' k c' r ∧ Below W.heap.size W w')) := fun r k sz q hr hk hsz hq => ⟨fun g1 W h1 => by subst hk hr hsz hq; exact sLiveCut_any g1 n n _ ps a1 a2 W h1 (Nat.le_refl _) hm hf (Nat.le_refl _) hm, fun g1 W h1 => by subst hk hr hsz hq; exact liveCut_any (some ⟨g1, 0, none⟩) n n _ ps a1 a2 W h1 (Nat.le_refl _) hm hf⟩
    have hlen : (cutR ps a1 a2).length ≤ 1000 := by have := cutR_len ps a1 a2; omega
    obtain ⟨r, hr⟩ : ∃ r, r = cutR ps a1 a2 := ⟨_, rfl⟩
    obtain ⟨k, hk⟩ : ∃ k, k = r.length := ⟨_, rfl⟩
    obtain ⟨sz, hsz⟩ : ∃ q, q = cutS ps a1 a2 := ⟨_, rfl⟩
    obtain ⟨q, hq⟩ : ∃ q, q = (cutV ps a1 a2).isSome := ⟨_, rfl⟩
    rw [← hr, ← hk] at hlen
    have HS := Lib.hid (HSI.out r k sz q hr hk hsz hq).1
    have HI := Lib.hid (HSI.out r k sz q hr hk hsz hq).2
    clear HSI hr hk hsz hq
    have hbb : (q != q) = false := by simp
    have hss : (sz != sz) = false := by simp
    clear h hm hf hw1 hw2
    go_enter Try.func6, Try.ntmps6
    go_wp2_with fail
    refine (szP_yes A n c w hn).mono ?_
    rintro e w9 ⟨rfl, rfl⟩
    go_wp2_with fail
    refine (toP_any A n c _ ps w (H.out) (by omega) hn).mono ?_
    rintro e w1 ⟨g1, rfl, ho, hb⟩
    have zw1 := hb.size
    have Bw1 : Hid (Below w.heap.size w w1) := hb
    have X1_w1 := Lib.hid ho
    have RX1 := OwnP.range ho g1 rfl
    clear ho
    clear hb
    go_wp2_with fail
    refine (HS.out g1 w1 X1_w1.out.rd).mono ?_
    rintro e w2 ⟨A0, c0, rfl, ho, hb⟩
    have zw2 := hb.size
    have X1_w2 : Hid (OwnP w2 w.heap.size (some ⟨g1, 0, none⟩) n n ps) := X1_w1.out.below hb
    have Bw2 : Hid (Below w.heap.size w w2) := Bw1.out.trans (hb.mono (by omega))
    clear X1_w1
    clear Bw1
    have OW_w2 := Lib.hid ho
    have ROW := Lib.hid ho.range
    clear ho
    clear hb
    clear X1_w2
    go_wp2_with fail
    refine (toP_any A n c _ ps w2 (H.out.below Bw2.out) (by omega) hn).mono ?_
    rintro e w3 ⟨g2, rfl, ho, hb⟩
    have zw3 := hb.size
    have OW_w3 : Hid (OwnP w3 w1.heap.size A0 k c0 r) := OW_w2.out.below hb
    have Bw3 : Hid (Below w.heap.size w w3) := Bw2.out.trans (hb.mono (by omega))
    clear OW_w2
    clear Bw2
    have X0_w3 := Lib.hid ho
    have RX0 := OwnP.range ho g2 rfl
    clear ho
    clear hb
    go_wp2_with fail
    refine (HI.out g2 w3 X0_w3.out.rd).mono ?_
    rintro e w4 ⟨A1, c1, rfl, ho, hb⟩
    have zw4 := hb.size
    have OW_w4 : Hid (OwnP w4 w1.heap.size A0 k c0 r) := OW_w3.out.below hb
    have X0_w4 : Hid (OwnP w4 w2.heap.size (some ⟨g2, 0, none⟩) n n ps) := X0_w3.out.below hb
    have Bw4 : Hid (Below w.heap.size w w4) := Bw3.out.trans (hb.mono (by omega))
    clear OW_w3 X0_w3
    clear Bw3
    have OG_w4 := Lib.hid ho
    have ROG := Lib.hid ho.range
    clear ho
    clear hb
    have HE := Lib.hid (eqP_any A1 A0 k k c1 c0 _ _ r r w4 OG_w4.out.rd OW_w4.out.rd (Nat.le_refl _) (Nat.le_refl _) (by unfold maxLen; omega) (by unfold maxLen; omega))
    rw [decide_eq_true rfl] at HE
    go_wp2_with fail
    refine (HE.out).mono ?_
    rintro e w5 ⟨rfl, hb⟩
    have zw5 := hb.size
    have OW_w5 : Hid (OwnP w5 w1.heap.size A0 k c0 r) := OW_w4.out.below hb
    have X0_w5 : Hid (OwnP w5 w2.heap.size (some ⟨g2, 0, none⟩) n n ps) := X0_w4.out.below hb
    have OG_w5 : Hid (OwnP w5 w3.heap.size A1 k c1 r) := OG_w4.out.below hb
    have Bw5 : Hid (Below w.heap.size w w5) := Bw4.out.trans (hb.mono (by omega))
    clear OW_w4 X0_w4 OG_w4
    clear Bw4
    clear hb
    clear HE
    go_wp2_with fail
    refine (toP_any A n c _ ps w5 (H.out.below Bw5.out) (by omega) hn).mono ?_
    rintro e w6 ⟨g3, rfl, ho, hb⟩
    have zw6 := hb.size
    have OW_w6 : Hid (OwnP w6 w1.heap.size A0 k c0 r) := OW_w5.out.below hb
    have X0_w6 : Hid (OwnP w6 w2.heap.size (some ⟨g2, 0, none⟩) n n ps) := X0_w5.out.below hb
    have OG_w6 : Hid (OwnP w6 w3.heap.size A1 k c1 r) := OG_w5.out.below hb
    have Bw6 : Hid (Below w.heap.size w w6) := Bw5.out.trans (hb.mono (by omega))
    clear OW_w5 X0_w5 OG_w5
    clear Bw5
    have Y0_w6 := Lib.hid ho
    have RY0 := OwnP.range ho g3 rfl
    clear ho
    clear hb
    have HE := Lib.hid (eqP_any (some ⟨g2, 0, none⟩) (some ⟨g3, 0, none⟩) n n n n _ _ ps ps w6 X0_w6.out.rd Y0_w6.out.rd (Nat.le_refl _) (Nat.le_refl _) (by unfold maxLen; omega) (by unfold maxLen; omega))
    rw [decide_eq_true rfl] at HE
    go_wp2_with fail
    refine (HE.out).mono ?_
    rintro e w7 ⟨rfl, hb⟩
    have zw7 := hb.size
    have OW_w7 : Hid (OwnP w7 w1.heap.size A0 k c0 r) := OW_w6.out.below hb
    have X0_w7 : Hid (OwnP w7 w2.heap.size (some ⟨g2, 0, none⟩) n n ps) := X0_w6.out.below hb
    have OG_w7 : Hid (OwnP w7 w3.heap.size A1 k c1 r) := OG_w6.out.below hb
    have Y0_w7 : Hid (OwnP w7 w5.heap.size (some ⟨g3, 0, none⟩) n n ps) := Y0_w6.out.below hb
    have Bw7 : Hid (Below w.heap.size w w7) := Bw6.out.trans (hb.mono (by omega))
    clear OW_w6 X0_w6 OG_w6 Y0_w6
    clear Bw6
    clear hb
    clear HE
    clear Y0_w7
    go_wp2_with fail
    refine (markP_any (some ⟨g2, 0, none⟩) n n _ ps w7 X0_w7.out (by omega)).mono ?_
    rintro e w8 ⟨rfl, ho, hg⟩
    have zw8 := hg.size
    have OW_w8 : Hid (OwnP w8 w1.heap.size A0 k c0 r) := OW_w7.out.far hg (fun g hg1 hg2 => by have h1 := ROW.out g hg1; (have h2 : g2 = g := by injection hg2); omega)
    have X0_w8 : Hid (OwnP w8 w2.heap.size (some ⟨g2, 0, none⟩) n n (marksP n)) := ho
    have OG_w8 : Hid (OwnP w8 w3.heap.size A1 k c1 r) := OG_w7.out.far hg (fun g hg1 hg2 => by have h1 := ROG.out g hg1; (have h2 : g2 = g := by injection hg2); omega)
    have Bw8 : Hid (Below w.heap.size w w8) := Bw7.out.grown hg (by omega) (fun g hg1 => by (have h1 : g2 = g := by injection hg1); omega)
    clear OW_w7 X0_w7 OG_w7
    clear Bw7
    clear hg ho
    clear X0_w8
    have hq1 : ¬ (1 : Int) + 2 * (n : Int) < 0 := by omega
    have HE := Lib.hid (eqP_any A1 A0 k k c1 c0 _ _ r r w8 OG_w8.out.rd OW_w8.out.rd (Nat.le_refl _) (Nat.le_refl _) (by unfold maxLen; omega) (by unfold maxLen; omega))
    rw [decide_eq_true rfl] at HE
    go_wp2_with fail
    refine (HE.out).mono ?_
    rintro e w9 ⟨rfl, hb⟩
    have zw9 := hb.size
    have OW_w9 : Hid (OwnP w9 w1.heap.size A0 k c0 r) := OW_w8.out.below hb
    have OG_w9 : Hid (OwnP w9 w3.heap.size A1 k c1 r) := OG_w8.out.below hb
    have Bw9 : Hid (Below w.heap.size w w9) := Bw8.out.trans (hb.mono (by omega))
    clear OW_w8 OG_w8
    clear Bw8
    clear hb
    clear HE
    go_wp2_with fail
    refine (markP_any A1 k c1 _ r w9 OG_w9.out (by omega)).mono ?_
    rintro e w10 ⟨rfl, ho, hg⟩
    have zw10 := hg.size
    have OW_w10 : Hid (OwnP w10 w1.heap.size A0 k c0 r) := OW_w9.out.far hg (fun g hg1 hg2 => by have h1 := ROW.out g hg1; have h2 := ROG.out g hg2; omega)
    have OG_w10 : Hid (OwnP w10 w3.heap.size A1 k c1 (marksP k)) := ho
    have Bw10 : Hid (Below w.heap.size w w10) := Bw9.out.grown hg (by omega) (fun g hg1 => by have h1 := ROG.out g hg1; omega)
    clear OW_w9 OG_w9
    clear Bw9
    clear hg ho
    have HH := Lib.hid (heldP_any A1 k c1 _ w10 OG_w10.out.rd (by omega))
    go_wp2_with fail
    refine HH.out.mono ?_
    rintro e w9 ⟨rfl, rfl⟩
    clear HH
    have hq2 : ¬ (1 : Int) + 2 * (k : Int) < 0 := by omega
    go_wp2_with fail
    refine (toP_any A n c _ ps w10 (H.out.below Bw10.out) (by omega) hn).mono ?_
    rintro e w11 ⟨g4, rfl, ho, hb⟩
    have zw11 := hb.size
    have OW_w11 : Hid (OwnP w11 w1.heap.size A0 k c0 r) := OW_w10.out.below hb
    have OG_w11 : Hid (OwnP w11 w3.heap.size A1 k c1 (marksP k)) := OG_w10.out.below hb
    have Bw11 : Hid (Below w.heap.size w w11) := Bw10.out.trans (hb.mono (by omega))
    clear OW_w10 OG_w10
    clear Bw10
    have Z0_w11 := Lib.hid ho
    have RZ0 := OwnP.range ho g4 rfl
    clear ho
    clear hb
    go_wp2_with fail
    refine (HI.out g4 w11 Z0_w11.out.rd).mono ?_
    rintro e w12 ⟨A3, c3, rfl, ho, hb⟩
    have zw12 := hb.size
    have OW_w12 : Hid (OwnP w12 w1.heap.size A0 k c0 r) := OW_w11.out.below hb
    have OG_w12 : Hid (OwnP w12 w3.heap.size A1 k c1 (marksP k)) := OG_w11.out.below hb
    have Z0_w12 : Hid (OwnP w12 w10.heap.size (some ⟨g4, 0, none⟩) n n ps) := Z0_w11.out.below hb
    have Bw12 : Hid (Below w.heap.size w w12) := Bw11.out.trans (hb.mono (by omega))
    clear OW_w11 OG_w11 Z0_w11
    clear Bw11
    have OH_w12 := Lib.hid ho
    have ROH := Lib.hid ho.range
    clear ho
    clear hb
    clear Z0_w12
    have HE := Lib.hid (eqP_any A3 A0 k k c3 c0 _ _ r r w12 OH_w12.out.rd OW_w12.out.rd (Nat.le_refl _) (Nat.le_refl _) (by unfold maxLen; omega) (by unfold maxLen; omega))
    rw [decide_eq_true rfl] at HE
    go_wp2_with fail
    refine (HE.out).mono ?_
    rintro e w13 ⟨rfl, hb⟩
    have zw13 := hb.size
    have OW_w13 : Hid (OwnP w13 w1.heap.size A0 k c0 r) := OW_w12.out.below hb
    have OG_w13 : Hid (OwnP w13 w3.heap.size A1 k c1 (marksP k)) := OG_w12.out.below hb
    have OH_w13 : Hid (OwnP w13 w11.heap.size A3 k c3 r) := OH_w12.out.below hb
    have Bw13 : Hid (Below w.heap.size w w13) := Bw12.out.trans (hb.mono (by omega))
    clear OW_w12 OG_w12 OH_w12
    clear Bw12
    clear hb
    clear HE
    have HH := Lib.hid (heldP_any A1 k c1 _ w13 OG_w13.out.rd (by omega))
    go_wp2_with fail
    refine HH.out.mono ?_
    rintro e w9 ⟨rfl, rfl⟩
    clear HH
    go_wp2
    go_ret
    exact ⟨rfl, Bw13.out⟩
  · clear h hf
    go_enter Try.func6, Try.ntmps6
    go_wp2_with fail
    refine (szP_no A n c _ hm (by omega)).mono ?_
    rintro e w9 ⟨rfl, rfl⟩
    go_wp2
    go_ret
    exact ⟨rfl, Below.refl _ _⟩

set_option maxRecDepth 100000 in
theorem fnExactLiveCut_lifted (os : Os) (started : os.Started) (H : Type) (enc : TypeId × Value → H) :
    ReturnsInHanded {} Try.checked os 6 .any (Rows.fnExactLiveCutSpec.pre6 enc Try.prog Try.f6 Rows.fnExactLiveCutRow.domain false) (Rows.fnExactLiveCutSpec.post enc Try.prog Try.f6 false true false false) := by
  refine returnsInHanded_of_change (C := Try.checked) own started (by kernel_rfl) Try.func6
    (ChangeSpec.witness6 (enc := enc) (C := Try.checked) false ⟨#[], #[.slice none 0 0, .int .i64 0, .int .i64 0], []⟩ 8 (by kernel_rfl) (by kernel_rfl) (by kernel_rfl) (by kernel_rfl)) ?_
  intro W base args ds gs before hval0 hW hcnd _
  have hval : ∀ (j : Nat) t v, Try.f6.params[j]? = some t → args[j]? = some v → Value.okWide Try.prog W .any base t v := hval0
  have hW' := hW
  obtain ⟨p, q, hA0, hV, rfl, hfz, hnd⟩ := hW
  have hA : DataW.TrodAll enc Try.prog W 0 (fun _ => true) true Try.f6.params.toList args.toList ds p := hA0
  rw [Try.params6] at hA hval
  obtain ⟨v0, vs0, d0, ds0, p0, q0, hargs, rfl, rfl, h0, r0⟩ := trodAll_cons hA
  obtain ⟨v1, vs1, d1, ds1, p1, q1, rfl, rfl, rfl, h1, r1⟩ := trodAll_cons r0
  obtain ⟨v2, vs2, d2, ds2, p2, q2, rfl, rfl, rfl, h2, r2⟩ := trodAll_cons r1
  obtain ⟨rfl, rfl, rfl⟩ := trodAll_nil r2
  obtain rfl : args = #[v0, v1, v2] := by cases args; simp_all
  obtain ⟨rfl, rfl⟩ := trodVars_none hV
  have k0 := h0
  have lt0 : ∀ x ∈ p0, x.block < W.heap.size := by obtain ⟨m, hm⟩ := k0; exact DataW.trod_lt m _ _ _ hm
  obtain ⟨A0, n0, c0, z0, rfl, m0, rd0, f0⟩ := open_blkS (hval 0 39 v0 rfl rfl) h0
  obtain ⟨a1, rfl, rfl, rfl, w1⟩ := open_int Try.underlying3 (hval 1 3 v1 rfl rfl) h1
  obtain ⟨a2, rfl, rfl, rfl, w2⟩ := open_int Try.underlying3 (hval 2 3 v2 rfl rfl) h2
  clear hA0 hval0
  refine (fnExactLiveCut_walk A0 n0 c0 z0 a1 a2 W rd0 m0 f0 w1 w2).mono fun e W' ⟨he, bel⟩ => ?_
  subst he
  exact ⟨_, rfl, _, _, _, [], _, [], hW', trodAll_mk1 (shut_bool Try.underlying4 _), (trodAll_cons_mk (Below.trod laidOut (by kernel_rfl) (of_decide_eq_true (by kernel_rfl)) k0 bel lt0) (trodAll_cons_mk (shut_int Try.underlying3 w1) (trodAll_cons_mk (shut_int Try.underlying3 w2) (trodAll_mk0)))), rfl, bel.frame _, fun h => by cases h⟩

/-- The given statement: for every input the law returns true, and its arguments read as before. -/
theorem fnExactLiveCut_holds : Rows.FnExactLiveCutSaid :=
  OpenClaim.holds_of_wide 6 Try.f6 rfl rfl rfl rfl rfl rfl rfl ⟨rfl, rfl, rfl, rfl, rfl⟩ rfl rfl rfl rfl rfl (by kernel_rfl) Try.func6 (by kernel_rfl)
    (of_decide_eq_true (by kernel_rfl)) (by unfold Func.isWrapper; first | (rw [if_pos (by decide +kernel)]; kernel_rfl) | (rw [if_neg (by decide +kernel)]; exact ⟨rfl, rfl⟩))
    (fun os started H enc _ => fnExactLiveCut_lifted os started H enc)
#print axioms fnExactLiveCut_holds
end Go.Proofs.Ytlaegdfaaoaiaaa
