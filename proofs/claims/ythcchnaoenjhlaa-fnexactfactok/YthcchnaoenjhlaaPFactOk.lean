/- FactOk of the program answers as the model at every argument. No condition. -/
import Derived.Test.YthcchnaoenjhlaaIFactOk
import Derived.Test.YthcchnaoenjhlaaSFactOk
import Derived.Test.YthcchnaoenjhlaaKp
import Derived.Test.YthcchnaoenjhlaaLawFc
import Derived.Test.YthcchnaoenjhlaaOpenFc
namespace Go.Proofs.Ythcchnaoenjhlaa
open Go.ChangeShapes Go.WideShapes Go.ChangeAt Go.RowKit
set_option linter.unusedVariables false

set_option maxRecDepth 100000 in
set_option maxHeartbeats 4000000 in
theorem fnExactFactOk_walk (f : Fc) (w : World) (hf : f.Wf) :
    Calls Try.prog 3 #[.agg #[.int .i64 f.k, .int .i64 f.i, .int .i64 f.l, .int .i64 f.a, .int .i64 f.s]] w fun e w' => e = .returned (.bool true) ∧ Below w.heap.size w w' := by
  obtain ⟨r, hr⟩ : ∃ r, r = decide (FactGood f) := ⟨_, rfl⟩
  have HT := Lib.hid (fun W => toFact_any f W)
  have HS := Lib.hid (fun W => sFactOk_any f W)
  have HI := Lib.hid (fun W => factOk_any f W)
  rw [← hr] at HS HI
  clear hr hf
  have hrr : (r != r) = false := by simp
  go_enter Try.func3, Try.ntmps3
  have hk := bel1 w (.cells #[.int .i64 f.k, .int .i64 f.i, .int .i64 f.l, .int .i64 f.a, .int .i64 f.s] 23)
  have V_arg_w1 : Hid ((w.alloc (.cells #[.int .i64 f.k, .int .i64 f.i, .int .i64 f.l, .int .i64 f.a, .int .i64 f.s] 23)).heap[w.heap.size]? = some (.cells #[.int .i64 f.k, .int .i64 f.i, .int .i64 f.l, .int .i64 f.a, .int .i64 f.s] 23 (0, 0))) := heap_alloc_new _ _
  have Bw1 : Hid (Below w.heap.size w (w.alloc (.cells #[.int .i64 f.k, .int .i64 f.i, .int .i64 f.l, .int .i64 f.a, .int .i64 f.s] 23))) := hk
  have zw1 : w.heap.size + 1 ≤ (w.alloc (.cells #[.int .i64 f.k, .int .i64 f.i, .int .i64 f.l, .int .i64 f.a, .int .i64 f.s] 23)).heap.size := Nat.le_of_eq (sz1 _ _).symm
  have yw1 : (w.alloc (.cells #[.int .i64 f.k, .int .i64 f.i, .int .i64 f.l, .int .i64 f.a, .int .i64 f.s] 23)).heap.size ≤ w.heap.size + 1 := Nat.le_of_eq (sz1 _ _)
  clear hk
  go_wp2_with fail
  generalize w.alloc (.cells #[.int .i64 f.k, .int .i64 f.i, .int .i64 f.l, .int .i64 f.a, .int .i64 f.s] 23) = w1 at *
  refine (HT.out _).mono ?_
  rintro e w2 ⟨rfl, hb⟩
  have zw2 := hb.size
  have hk : Kp (fun _ => False) w1 w2 := Kp.of_below hb
  have V_arg_w2 : Hid (w2.heap[w.heap.size]? = some (.cells #[.int .i64 f.k, .int .i64 f.i, .int .i64 f.l, .int .i64 f.a, .int .i64 f.s] 23 (0, 0))) := (hk.block _ (by omega) (fun h => h)).trans V_arg_w1.out
  have Bw2 : Hid (Below w.heap.size w w2) := Bw1.out.trans (hb.mono Bw1.out.size)
  clear V_arg_w1 Bw1
  clear hb hk
  go_wp2_with fail
  refine (HS.out _).mono ?_
  rintro e w3 ⟨rfl, hb⟩
  have zw3 := hb.size
  have hk : Kp (fun _ => False) w2 w3 := Kp.of_below hb
  have V_arg_w3 : Hid (w3.heap[w.heap.size]? = some (.cells #[.int .i64 f.k, .int .i64 f.i, .int .i64 f.l, .int .i64 f.a, .int .i64 f.s] 23 (0, 0))) := (hk.block _ (by omega) (fun h => h)).trans V_arg_w2.out
  have Bw3 : Hid (Below w.heap.size w w3) := Bw2.out.trans (hb.mono Bw2.out.size)
  clear V_arg_w2 Bw2
  clear hb hk
  have c_arg0 := blkc V_arg_w3.out 0 rfl
  have c_arg1 := blkc V_arg_w3.out 1 rfl
  have c_arg2 := blkc V_arg_w3.out 2 rfl
  have c_arg3 := blkc V_arg_w3.out 3 rfl
  have c_arg4 := blkc V_arg_w3.out 4 rfl
  go_wp2_with fail
  clear c_arg0 c_arg1 c_arg2 c_arg3 c_arg4
  refine (HT.out _).mono ?_
  rintro e w4 ⟨rfl, hb⟩
  have zw4 := hb.size
  have hk : Kp (fun _ => False) w3 w4 := Kp.of_below hb
  have V_arg_w4 : Hid (w4.heap[w.heap.size]? = some (.cells #[.int .i64 f.k, .int .i64 f.i, .int .i64 f.l, .int .i64 f.a, .int .i64 f.s] 23 (0, 0))) := (hk.block _ (by omega) (fun h => h)).trans V_arg_w3.out
  have Bw4 : Hid (Below w.heap.size w w4) := Bw3.out.trans (hb.mono Bw3.out.size)
  clear V_arg_w3 Bw3
  clear hb hk
  go_wp2_with fail
  refine (HI.out _).mono ?_
  rintro e w5 ⟨rfl, hb⟩
  have zw5 := hb.size
  have hk : Kp (fun _ => False) w4 w5 := Kp.of_below hb
  have V_arg_w5 : Hid (w5.heap[w.heap.size]? = some (.cells #[.int .i64 f.k, .int .i64 f.i, .int .i64 f.l, .int .i64 f.a, .int .i64 f.s] 23 (0, 0))) := (hk.block _ (by omega) (fun h => h)).trans V_arg_w4.out
  have Bw5 : Hid (Below w.heap.size w w5) := Bw4.out.trans (hb.mono Bw4.out.size)
  clear V_arg_w4 Bw4
  clear hb hk
  go_wp2
  go_ret
  exact ⟨rfl, Bw5.out⟩

set_option maxRecDepth 100000 in
theorem fnExactFactOk_lifted (os : Os) (started : os.Started) (H : Type) (enc : TypeId × Value → H) :
    ReturnsInHanded {} Try.checked os 3 .any (Rows.fnExactFactOkSpec.pre6 enc Try.prog Try.f3 Rows.fnExactFactOkRow.domain false) (Rows.fnExactFactOkSpec.post enc Try.prog Try.f3 false true false false) := by
  refine returnsInHanded_of_change (C := Try.checked) own started (by kernel_rfl) Try.func3
    (ChangeSpec.witness6 (enc := enc) (C := Try.checked) false ⟨#[], #[.agg #[.int .i64 0, .int .i64 0, .int .i64 0, .int .i64 0, .int .i64 0]], []⟩ 8 (by kernel_rfl) (by kernel_rfl) (by kernel_rfl) (by kernel_rfl)) ?_
  intro W base args ds gs before hval0 hW hcnd _
  have hval : ∀ (j : Nat) t v, Try.f3.params[j]? = some t → args[j]? = some v → Value.okWide Try.prog W .any base t v := hval0
  have hW' := hW
  obtain ⟨p, q, hA0, hV, rfl, hfz, hnd⟩ := hW
  have hA : DataW.TrodAll enc Try.prog W 0 (fun _ => true) true Try.f3.params.toList args.toList ds p := hA0
  rw [Try.params3] at hA hval
  obtain ⟨v0, vs0, d0, ds0, p0, q0, hargs, rfl, rfl, h0, r0⟩ := trodAll_cons hA
  obtain ⟨rfl, rfl, rfl⟩ := trodAll_nil r0
  obtain rfl : args = #[v0] := by cases args; simp_all
  obtain ⟨rfl, rfl⟩ := trodVars_none hV
  have k0 := h0
  have lt0 : ∀ x ∈ p0, x.block < W.heap.size := by obtain ⟨m, hm⟩ := k0; exact DataW.trod_lt m _ _ _ hm
  obtain ⟨f0, rfl, wf0⟩ := open_fact (hval 0 23 v0 rfl rfl) h0
  clear hA0 hval0
  refine (fnExactFactOk_walk f0 W wf0).mono fun e W' ⟨he, bel⟩ => ?_
  subst he
  exact ⟨_, rfl, _, _, _, [], _, [], hW', trodAll_mk1 (shut_bool Try.underlying4 _), (trodAll_cons_mk (Below.trod laidOut (by kernel_rfl) (of_decide_eq_true (by kernel_rfl)) k0 bel lt0) (trodAll_mk0)), rfl, bel.frame _, fun h => by cases h⟩

/-- The given statement: for every input the law returns true, and its arguments read as before. -/
theorem fnExactFactOk_holds : Rows.FnExactFactOkSaid :=
  OpenClaim.holds_of_wide 3 Try.f3 rfl rfl rfl rfl rfl rfl rfl ⟨rfl, rfl, rfl, rfl, rfl⟩ rfl rfl rfl rfl rfl (by kernel_rfl) Try.func3 (by kernel_rfl)
    (of_decide_eq_true (by kernel_rfl)) (by unfold Func.isWrapper; first | (rw [if_pos (by decide +kernel)]; kernel_rfl) | (rw [if_neg (by decide +kernel)]; exact ⟨rfl, rfl⟩))
    (fun os started H enc _ => fnExactFactOk_lifted os started H enc)
#print axioms fnExactFactOk_holds
end Go.Proofs.Ythcchnaoenjhlaa
