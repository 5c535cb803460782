/- LiveFind of the program answers as the model at every argument, leaves its argument as it was. No condition. -/
import Derived.Test.YtlaegdfaaoaiaaaILiveFind
import Derived.Test.YtlaegdfaaoaiaaaSLiveFind
import Derived.Test.YtlaegdfaaoaiaaaEqP
import Derived.Test.YtlaegdfaaoaiaaaSzP
import Derived.Test.YtlaegdfaaoaiaaaOpenP
namespace Go.Proofs.Ytlaegdfaaoaiaaa
open Go.ChangeShapes Go.WideShapes Go.ChangeAt Go.RowKit
set_option linter.unusedVariables false

set_option maxRecDepth 100000 in
set_option maxHeartbeats 4000000 in
theorem fnExactLiveFind_walk (A : Option Addr) (n c : Nat) (ps : List (Int × Int)) (a1 a2 : Int) (w : World) (h : RdP w w.heap.size A n ps) (hm : n ≤ maxLen) (hf : WfP ps) (hw1 : (Lit.int .i64 a1).wf = true) (hw2 : (Lit.int .i64 a2).wf = true) :
    Calls Try.prog 7 #[.slice A n c, .int .i64 a1, .int .i64 a2] w fun e w' => e = .returned (.bool true) ∧ Below w.heap.size w w' := by
  by_cases hn : n ≤ 1048576
  · have H := Lib.hid h
    have HF := Lib.hid hf
    have hq : ¬ (1048576 : Int) - (n : Int) < 0 := by omega
    have HSI : Hid (∀ x y q, x = ((findV ps a1 a2).getD (0, 0)).1 → y = ((findV ps a1 a2).getD (0, 0)).2 → q = (findV ps a1 a2).isSome → (∀ (P1 : Option Addr) W, RdP W W.heap.size P1 n ps → Calls Try.prog 30 #[.slice P1 n n, .int .i64 a1, .int .i64 a2] W fun e w' => e = .returned (.tuple #[.agg #[.int .i64 x, .int .i64 y], .bool q]) ∧ Below W.heap.size W w') ∧ (∀ (P1 : Option Addr) W, RdP W W.heap.size P1 n ps → Calls Try.prog 15 #[.slice P1 n n, .int .i64 a1, .int .i64 a2] W fun e w' => e = .returned (.tuple #[.agg #[.int .i64 x, .int .i64 y], .bool q]) ∧ Below W.heap.size W w')) := fun x y q hx hy hq => ⟨fun P1 W h1 => by subst hx hy hq; exact sLiveFind_any P1 n n _ ps a1 a2 W h1 (Nat.le_refl _) hm hf, fun P1 W h1 => by subst hx hy hq; exact liveFind_any P1 n n _ ps a1 a2 W h1 (Nat.le_refl _) hm hf⟩
    obtain ⟨x, hx⟩ : ∃ x, x = ((findV ps a1 a2).getD (0, 0)).1 := ⟨_, rfl⟩
    obtain ⟨y, hy⟩ : ∃ x, x = ((findV ps a1 a2).getD (0, 0)).2 := ⟨_, rfl⟩
    obtain ⟨q, hq2⟩ : ∃ x, x = (findV ps a1 a2).isSome := ⟨_, rfl⟩
    have HS := Lib.hid (HSI.out x y q hx hy hq2).1
    have HI := Lib.hid (HSI.out x y q hx hy hq2).2
    have hbb : (q != q) = false := by simp
    clear HSI hx hy hq2
    clear h hm hf hw1 hw2
    go_enter Try.func7, Try.ntmps7
    go_wp2_with fail
    refine (szP_yes A n c w hn).mono ?_
    rintro e w9 ⟨rfl, rfl⟩
    go_wp2_with fail
    refine (toP_any A n c _ ps w (H.out) (by omega) hn).mono ?_
    rintro e w1 ⟨g1, rfl, ho, hb⟩
    have zw1 := hb.size
    have Bw1 : Hid (Below w.heap.size w w1) := hb
    have X1_w1 := Lib.hid ho
    have RX1 := OwnP.range ho g1 rfl
    clear ho
    clear hb
    go_wp2_with fail
    refine (HS.out _ w1 X1_w1.out.rd).mono ?_
    rintro e w2 ⟨rfl, hb⟩
    have zw2 := hb.size
    have X1_w2 : Hid (OwnP w2 w.heap.size (some ⟨g1, 0, none⟩) n n ps) := X1_w1.out.below hb
    have Bw2 : Hid (Below w.heap.size w w2) := Bw1.out.trans (hb.mono (by omega))
    clear X1_w1
    clear Bw1
    clear hb
    clear X1_w2
    have HV0 := Lib.hid (BlkAt.new w2 x y)
    have HB0 : Hid (Below w.heap.size w (w2.alloc (.cells #[.int .i64 x, .int .i64 y] 26))) := Bw2.out.alloc Bw2.out.size _
    have zV : (w2.alloc (.cells #[.int .i64 x, .int .i64 y] 26)).heap.size = w2.heap.size + 1 := World.size_alloc _ _
    have HT := Lib.hid (toP_any A n c _ ps _ (H.out.below HB0.out) HB0.out.size hn)
    go_wp2_with fail
    refine HT.out.mono ?_
    rintro e v3 ⟨g2, rfl, ho, hb⟩
    have X0 := Lib.hid ho
    have V3 := Lib.hid (HV0.out.below hb)
    have B3 := Lib.hid (HB0.out.trans (hb.mono HB0.out.size))
    clear ho hb HV0 HB0 HT Bw2
    go_wp2_with fail
    refine (HI.out _ v3 X0.out.rd).mono ?_
    rintro e v4 ⟨rfl, hb⟩
    have X4 := Lib.hid (X0.out.below hb)
    have V4 := Lib.hid (V3.out.below hb)
    have B4 := Lib.hid (B3.out.trans (hb.mono B3.out.size))
    clear hb X0 V3 B3
    have c0 := V4.out.cell0
    have c1 := V4.out.cell1
    have zl := V4.out.lt
    have X5 := Lib.hid (X4.out.alloc (.cells #[.int .i64 x, .int .i64 y] 26))
    have B5 := Lib.hid (B4.out.alloc B4.out.size (.cells #[.int .i64 x, .int .i64 y] 26))
    have HE := Lib.hid (eqBlk_any x y x y (v4.alloc (.cells #[.int .i64 x, .int .i64 y] 26)))
    rw [decide_eq_true rfl] at HE
    clear X4 B4
    go_wp2_with fail
    refine HE.out.mono ?_
    rintro e v5 ⟨rfl, hb⟩
    have X6 := Lib.hid (X5.out.below hb)
    have B6 := Lib.hid (B5.out.trans (hb.mono B5.out.size))
    clear hb X5 B5 V4 c0 c1 zl HE
    go_wp2_with fail
    refine (toP_any A n c _ ps v5 (H.out.below B6.out) B6.out.size hn).mono ?_
    rintro e v6 ⟨g3, rfl, ho, hb⟩
    have Y7 := Lib.hid ho
    have X7 := Lib.hid (X6.out.below hb)
    have B7 := Lib.hid (B6.out.trans (hb.mono B6.out.size))
    clear ho hb X6 B6
    have HE := Lib.hid (eqP_any (some ⟨g2, 0, none⟩) (some ⟨g3, 0, none⟩) n n n n _ _ ps ps v6 X7.out.rd Y7.out.rd (Nat.le_refl _) (Nat.le_refl _) (by unfold maxLen; omega) (by unfold maxLen; omega))
    rw [decide_eq_true rfl] at HE
    go_wp2_with fail
    refine HE.out.mono ?_
    rintro e v7 ⟨rfl, hb⟩
    have B8 := Lib.hid (B7.out.trans (hb.mono B7.out.size))
    clear hb B7 X7 Y7 HE
    go_wp2
    go_ret
    exact ⟨rfl, B8.out⟩
  · clear h hf
    go_enter Try.func7, Try.ntmps7
    go_wp2_with fail
    refine (szP_no A n c _ hm (by omega)).mono ?_
    rintro e w9 ⟨rfl, rfl⟩
    go_wp2
    go_ret
    exact ⟨rfl, Below.refl _ _⟩

set_option maxRecDepth 100000 in
theorem fnExactLiveFind_lifted (os : Os) (started : os.Started) (H : Type) (enc : TypeId × Value → H) :
    ReturnsInHanded {} Try.checked os 7 .any (Rows.fnExactLiveFindSpec.pre6 enc Try.prog Try.f7 Rows.fnExactLiveFindRow.domain false) (Rows.fnExactLiveFindSpec.post enc Try.prog Try.f7 false true false false) := by
  refine returnsInHanded_of_change (C := Try.checked) own started (by kernel_rfl) Try.func7
    (ChangeSpec.witness6 (enc := enc) (C := Try.checked) false ⟨#[], #[.slice none 0 0, .int .i64 0, .int .i64 0], []⟩ 8 (by kernel_rfl) (by kernel_rfl) (by kernel_rfl) (by kernel_rfl)) ?_
  intro W base args ds gs before hval0 hW hcnd _
  have hval : ∀ (j : Nat) t v, Try.f7.params[j]? = some t → args[j]? = some v → Value.okWide Try.prog W .any base t v := hval0
  have hW' := hW
  obtain ⟨p, q, hA0, hV, rfl, hfz, hnd⟩ := hW
  have hA : DataW.TrodAll enc Try.prog W 0 (fun _ => true) true Try.f7.params.toList args.toList ds p := hA0
  rw [Try.params7] at hA hval
  obtain ⟨v0, vs0, d0, ds0, p0, q0, hargs, rfl, rfl, h0, r0⟩ := trodAll_cons hA
  obtain ⟨v1, vs1, d1, ds1, p1, q1, rfl, rfl, rfl, h1, r1⟩ := trodAll_cons r0
  obtain ⟨v2, vs2, d2, ds2, p2, q2, rfl, rfl, rfl, h2, r2⟩ := trodAll_cons r1
  obtain ⟨rfl, rfl, rfl⟩ := trodAll_nil r2
  obtain rfl : args = #[v0, v1, v2] := by cases args; simp_all
  obtain ⟨rfl, rfl⟩ := trodVars_none hV
  have k0 := h0
  have lt0 : ∀ x ∈ p0, x.block < W.heap.size := by obtain ⟨m, hm⟩ := k0; exact DataW.trod_lt m _ _ _ hm
  obtain ⟨A0, n0, c0, z0, rfl, m0, rd0, f0⟩ := open_blkS (hval 0 39 v0 rfl rfl) h0
  obtain ⟨a1, rfl, rfl, rfl, w1⟩ := open_int Try.underlying3 (hval 1 3 v1 rfl rfl) h1
  obtain ⟨a2, rfl, rfl, rfl, w2⟩ := open_int Try.underlying3 (hval 2 3 v2 rfl rfl) h2
  clear hA0 hval0
  refine (fnExactLiveFind_walk A0 n0 c0 z0 a1 a2 W rd0 m0 f0 w1 w2).mono fun e W' ⟨he, bel⟩ => ?_
  subst he
  exact ⟨_, rfl, _, _, _, [], _, [], hW', trodAll_mk1 (shut_bool Try.underlying4 _), (trodAll_cons_mk (Below.trod laidOut (by kernel_rfl) (of_decide_eq_true (by kernel_rfl)) k0 bel lt0) (trodAll_cons_mk (shut_int Try.underlying3 w1) (trodAll_cons_mk (shut_int Try.underlying3 w2) (trodAll_mk0)))), rfl, bel.frame _, fun h => by cases h⟩

/-- The given statement: for every input the law returns true, and its arguments read as before. -/
theorem fnExactLiveFind_holds : Rows.FnExactLiveFindSaid :=
  OpenClaim.holds_of_wide 7 Try.f7 rfl rfl rfl rfl rfl rfl rfl ⟨rfl, rfl, rfl, rfl, rfl⟩ rfl rfl rfl rfl rfl (by kernel_rfl) Try.func7 (by kernel_rfl)
    (of_decide_eq_true (by kernel_rfl)) (by unfold Func.isWrapper; first | (rw [if_pos (by decide +kernel)]; kernel_rfl) | (rw [if_neg (by decide +kernel)]; exact ⟨rfl, rfl⟩))
    (fun os started H enc _ => fnExactLiveFind_lifted os started H enc)
#print axioms fnExactLiveFind_holds
end Go.Proofs.Ytlaegdfaaoaiaaa
