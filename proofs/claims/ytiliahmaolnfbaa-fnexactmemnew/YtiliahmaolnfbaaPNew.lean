/- MemNew of the program answers as the model at every number, in new memory. No condition. -/
import Derived.Test.YtiliahmaolnfbaaXNew
import Derived.Test.YtiliahmaolnfbaaGrow
import Derived.Test.YtiliahmaolnfbaaOpen
namespace Go.Proofs.Ytiliahmaolnfbaa
open Go.ChangeShapes Go.WideShapes Go.ChangeAt Go.RowKit
set_option linter.unusedVariables false

theorem fnExactMemNew_walk (k : Int) (w : World) (hk : (Lit.int .i64 k).wf = true) :
    Calls Try.prog 7 #[.int .i64 k] w fun e w' => e = .returned (.bool true) ∧ Below w.heap.size w w' := by
  by_cases hw : 0 ≤ k ∧ k ≤ 64
  · obtain ⟨m, rfl⟩ := Int.eq_ofNat_of_zero_le hw.1
    have hm : m ≤ 64 := by omega
    exact fnExactMemNew_core m true (List.replicate m 0) w
      (fun w' => (sNew m w' hm).mono fun _ _ ⟨A', c', he, ho, hb⟩ => ⟨A', m, c', he, hm, ho, hb⟩)
      (fun w' => (iNew m w' hm).mono fun _ _ ⟨A', c', he, ho, hb⟩ => ⟨A', m, c', he, hm, ho, hb⟩)
  · exact fnExactMemNew_core k false [] w
      (fun w' => (sNew_no k w' hw).mono fun _ _ ⟨he, hb⟩ => ⟨none, 0, 0, he, by omega, Own.zero, hb⟩)
      (fun w' => (iNew_no k w' hw).mono fun _ _ ⟨he, hb⟩ => ⟨none, 0, 0, he, by omega, Own.zero, hb⟩)

set_option maxRecDepth 100000 in
theorem fnExactMemNew_lifted (os : Os) (started : os.Started) (H : Type) (enc : TypeId × Value → H) :
    ReturnsInHanded {} Try.checked os 7 .any (Rows.fnExactMemNewSpec.pre6 enc Try.prog Try.f7 Rows.fnExactMemNewRow.domain false) (Rows.fnExactMemNewSpec.post enc Try.prog Try.f7 false true false false) := by
  refine returnsInHanded_of_change (C := Try.checked) own started (by kernel_rfl) Try.func7
    (ChangeSpec.witness6 (enc := enc) (C := Try.checked) false ⟨#[], #[.int .i64 0], []⟩ 8 (by kernel_rfl) (by kernel_rfl) (by kernel_rfl) (by kernel_rfl)) ?_
  intro W base args ds gs before hval0 hW hcnd _
  have hval : ∀ (j : Nat) t v, Try.f7.params[j]? = some t → args[j]? = some v → Value.okWide Try.prog W .any base t v := hval0
  have hW' := hW
  obtain ⟨p, q, hA0, hV, rfl, hfz, hnd⟩ := hW
  have hA : DataW.TrodAll enc Try.prog W 0 (fun _ => true) true Try.f7.params.toList args.toList ds p := hA0
  rw [Try.params7] at hA hval
  obtain ⟨v0, vs0, d0, ds0, p0, q0, hargs, rfl, rfl, h0, r0⟩ := trodAll_cons hA
  obtain ⟨rfl, rfl, rfl⟩ := trodAll_nil r0
  obtain rfl : args = #[v0] := by cases args; simp_all
  obtain ⟨rfl, rfl⟩ := trodVars_none hV
  obtain ⟨a0, rfl, rfl, rfl, w0⟩ := open_int Try.underlying3 (hval 0 3 v0 rfl rfl) h0
  clear hA0 hval0
  refine (fnExactMemNew_walk a0 W w0).mono fun e W' ⟨he, bel⟩ => ?_
  subst he
  exact ⟨_, rfl, _, _, _, [], _, [], hW', trodAll_mk1 (shut_bool Try.underlying4 _), (trodAll_cons_mk (shut_int Try.underlying3 w0) (trodAll_mk0)), rfl, bel.frame _, fun h => by cases h⟩

/-- The given statement: for every input the law returns true, and its arguments read as before. -/
theorem fnExactMemNew_holds : Rows.FnExactMemNewSaid :=
  OpenClaim.holds_of_wide 7 Try.f7 rfl rfl rfl rfl rfl rfl rfl ⟨rfl, rfl, rfl, rfl, rfl⟩ rfl rfl rfl rfl rfl (by kernel_rfl) Try.func7 (by kernel_rfl)
    (of_decide_eq_true (by kernel_rfl)) (by unfold Func.isWrapper; first | (rw [if_pos (by decide +kernel)]; kernel_rfl) | (rw [if_neg (by decide +kernel)]; exact ⟨rfl, rfl⟩))
    (fun os started H enc _ => fnExactMemNew_lifted os started H enc)
#print axioms fnExactMemNew_holds
end Go.Proofs.Ytiliahmaolnfbaa
