/- LiveOk of the program answers as the model at every argument, leaves its argument as it was. No condition. -/
import Derived.Test.YtlaegdfaaoaiaaaILiveOk
import Derived.Test.YtlaegdfaaoaiaaaSLiveOk
import Derived.Test.YtlaegdfaaoaiaaaEqP
import Derived.Test.YtlaegdfaaoaiaaaSzP
import Derived.Test.YtlaegdfaaoaiaaaOpenP
namespace Go.Proofs.Ytlaegdfaaoaiaaa
open Go.ChangeShapes Go.WideShapes Go.ChangeAt Go.RowKit
set_option linter.unusedVariables false

set_option maxRecDepth 100000 in
set_option maxHeartbeats 4000000 in
theorem fnExactLiveOk_walk (A : Option Addr) (n c : Nat) (ps : List (Int × Int)) (a1 : Int) (w : World) (h : RdP w w.heap.size A n ps) (hm : n ≤ maxLen) (hf : WfP ps) (hw1 : (Lit.int .i64 a1).wf = true) :
    Calls Try.prog 4 #[.slice A n c, .int .i64 a1] w fun e w' => e = .returned (.bool true) ∧ Below w.heap.size w w' := by
  by_cases hn : n ≤ 1048576
  · have H := Lib.hid h
    have HF := Lib.hid hf
    have hq : ¬ (1048576 : Int) - (n : Int) < 0 := by omega
    have HSI : Hid (∀ r, r = liveOkV ps a1 → (∀ (P1 : Option Addr) W, RdP W W.heap.size P1 n ps → Calls Try.prog 22 #[.slice P1 n n, .int .i64 a1] W fun e w' => e = .returned (.bool r) ∧ Below W.heap.size W w') ∧ (∀ (P1 : Option Addr) W, RdP W W.heap.size P1 n ps → Calls Try.prog 24 #[.slice P1 n n, .int .i64 a1] W fun e w' => e = .returned (.bool r) ∧ Below W.heap.size W w')) := fun r hr => ⟨fun P1 W h1 => hr ▸ sLiveOk_any P1 n n _ ps a1 W h1 (Nat.le_refl _) hm hf, fun P1 W h1 => hr ▸ liveOk_any P1 n n _ ps a1 W h1 (Nat.le_refl _) hm hf⟩
    obtain ⟨r, hr⟩ : ∃ r, r = liveOkV ps a1 := ⟨_, rfl⟩
    have HS := Lib.hid (HSI.out r hr).1
    have HI := Lib.hid (HSI.out r hr).2
    clear HSI hr
    clear h hm hf hw1
    go_enter Try.func4, Try.ntmps4
    go_wp2_with fail
    refine (szP_yes A n c w hn).mono ?_
    rintro e w9 ⟨rfl, rfl⟩
    go_wp2_with fail
    refine (toP_any A n c _ ps w (H.out) (by omega) hn).mono ?_
    rintro e w1 ⟨g1, rfl, ho, hb⟩
    have zw1 := hb.size
    have Bw1 : Hid (Below w.heap.size w w1) := hb
    have X1_w1 := Lib.hid ho
    have RX1 := OwnP.range ho g1 rfl
    clear ho
    clear hb
    go_wp2_with fail
    refine (HS.out _ w1 X1_w1.out.rd).mono ?_
    rintro e w2 ⟨rfl, hb⟩
    have zw2 := hb.size
    have X1_w2 : Hid (OwnP w2 w.heap.size (some ⟨g1, 0, none⟩) n n ps) := X1_w1.out.below hb
    have Bw2 : Hid (Below w.heap.size w w2) := Bw1.out.trans (hb.mono (by omega))
    clear X1_w1
    clear Bw1
    clear hb
    clear X1_w2
    go_wp2_with fail
    refine (toP_any A n c _ ps w2 (H.out.below Bw2.out) (by omega) hn).mono ?_
    rintro e w3 ⟨g2, rfl, ho, hb⟩
    have zw3 := hb.size
    have Bw3 : Hid (Below w.heap.size w w3) := Bw2.out.trans (hb.mono (by omega))
    clear Bw2
    have X0_w3 := Lib.hid ho
    have RX0 := OwnP.range ho g2 rfl
    clear ho
    clear hb
    go_wp2_with fail
    refine (HI.out _ w3 X0_w3.out.rd).mono ?_
    rintro e w4 ⟨rfl, hb⟩
    have zw4 := hb.size
    have X0_w4 : Hid (OwnP w4 w2.heap.size (some ⟨g2, 0, none⟩) n n ps) := X0_w3.out.below hb
    have Bw4 : Hid (Below w.heap.size w w4) := Bw3.out.trans (hb.mono (by omega))
    clear X0_w3
    clear Bw3
    clear hb
    go_wp2_with fail
    refine (toP_any A n c _ ps w4 (H.out.below Bw4.out) (by omega) hn).mono ?_
    rintro e w5 ⟨g3, rfl, ho, hb⟩
    have zw5 := hb.size
    have X0_w5 : Hid (OwnP w5 w2.heap.size (some ⟨g2, 0, none⟩) n n ps) := X0_w4.out.below hb
    have Bw5 : Hid (Below w.heap.size w w5) := Bw4.out.trans (hb.mono (by omega))
    clear X0_w4
    clear Bw4
    have Y0_w5 := Lib.hid ho
    have RY0 := OwnP.range ho g3 rfl
    clear ho
    clear hb
    have HE := Lib.hid (eqP_any (some ⟨g2, 0, none⟩) (some ⟨g3, 0, none⟩) n n n n _ _ ps ps w5 X0_w5.out.rd Y0_w5.out.rd (Nat.le_refl _) (Nat.le_refl _) (by unfold maxLen; omega) (by unfold maxLen; omega))
    rw [decide_eq_true rfl] at HE
    go_wp2_with fail
    refine (HE.out).mono ?_
    rintro e w6 ⟨rfl, hb⟩
    have zw6 := hb.size
    have X0_w6 : Hid (OwnP w6 w2.heap.size (some ⟨g2, 0, none⟩) n n ps) := X0_w5.out.below hb
    have Y0_w6 : Hid (OwnP w6 w4.heap.size (some ⟨g3, 0, none⟩) n n ps) := Y0_w5.out.below hb
    have Bw6 : Hid (Below w.heap.size w w6) := Bw5.out.trans (hb.mono (by omega))
    clear X0_w5 Y0_w5
    clear Bw5
    clear hb
    clear HE
    go_wp2
    go_ret
    exact ⟨rfl, Bw6.out⟩
  · clear h hf
    go_enter Try.func4, Try.ntmps4
    go_wp2_with fail
    refine (szP_no A n c _ hm (by omega)).mono ?_
    rintro e w9 ⟨rfl, rfl⟩
    go_wp2
    go_ret
    exact ⟨rfl, Below.refl _ _⟩

set_option maxRecDepth 100000 in
theorem fnExactLiveOk_lifted (os : Os) (started : os.Started) (H : Type) (enc : TypeId × Value → H) :
    ReturnsInHanded {} Try.checked os 4 .any (Rows.fnExactLiveOkSpec.pre6 enc Try.prog Try.f4 Rows.fnExactLiveOkRow.domain false) (Rows.fnExactLiveOkSpec.post enc Try.prog Try.f4 false true false false) := by
  refine returnsInHanded_of_change (C := Try.checked) own started (by kernel_rfl) Try.func4
    (ChangeSpec.witness6 (enc := enc) (C := Try.checked) false ⟨#[], #[.slice none 0 0, .int .i64 0], []⟩ 8 (by kernel_rfl) (by kernel_rfl) (by kernel_rfl) (by kernel_rfl)) ?_
  intro W base args ds gs before hval0 hW hcnd _
  have hval : ∀ (j : Nat) t v, Try.f4.params[j]? = some t → args[j]? = some v → Value.okWide Try.prog W .any base t v := hval0
  have hW' := hW
  obtain ⟨p, q, hA0, hV, rfl, hfz, hnd⟩ := hW
  have hA : DataW.TrodAll enc Try.prog W 0 (fun _ => true) true Try.f4.params.toList args.toList ds p := hA0
  rw [Try.params4] at hA hval
  obtain ⟨v0, vs0, d0, ds0, p0, q0, hargs, rfl, rfl, h0, r0⟩ := trodAll_cons hA
  obtain ⟨v1, vs1, d1, ds1, p1, q1, rfl, rfl, rfl, h1, r1⟩ := trodAll_cons r0
  obtain ⟨rfl, rfl, rfl⟩ := trodAll_nil r1
  obtain rfl : args = #[v0, v1] := by cases args; simp_all
  obtain ⟨rfl, rfl⟩ := trodVars_none hV
  have k0 := h0
  have lt0 : ∀ x ∈ p0, x.block < W.heap.size := by obtain ⟨m, hm⟩ := k0; exact DataW.trod_lt m _ _ _ hm
  obtain ⟨A0, n0, c0, z0, rfl, m0, rd0, f0⟩ := open_blkS (hval 0 39 v0 rfl rfl) h0
  obtain ⟨a1, rfl, rfl, rfl, w1⟩ := open_int Try.underlying3 (hval 1 3 v1 rfl rfl) h1
  clear hA0 hval0
  refine (fnExactLiveOk_walk A0 n0 c0 z0 a1 W rd0 m0 f0 w1).mono fun e W' ⟨he, bel⟩ => ?_
  subst he
  exact ⟨_, rfl, _, _, _, [], _, [], hW', trodAll_mk1 (shut_bool Try.underlying4 _), (trodAll_cons_mk (Below.trod laidOut (by kernel_rfl) (of_decide_eq_true (by kernel_rfl)) k0 bel lt0) (trodAll_cons_mk (shut_int Try.underlying3 w1) (trodAll_mk0))), rfl, bel.frame _, fun h => by cases h⟩

/-- The given statement: for every input the law returns true, and its arguments read as before. -/
theorem fnExactLiveOk_holds : Rows.FnExactLiveOkSaid :=
  OpenClaim.holds_of_wide 4 Try.f4 rfl rfl rfl rfl rfl rfl rfl ⟨rfl, rfl, rfl, rfl, rfl⟩ rfl rfl rfl rfl rfl (by kernel_rfl) Try.func4 (by kernel_rfl)
    (of_decide_eq_true (by kernel_rfl)) (by unfold Func.isWrapper; first | (rw [if_pos (by decide +kernel)]; kernel_rfl) | (rw [if_neg (by decide +kernel)]; exact ⟨rfl, rfl⟩))
    (fun os started H enc _ => fnExactLiveOk_lifted os started H enc)
#print axioms fnExactLiveOk_holds
end Go.Proofs.Ytlaegdfaaoaiaaa
