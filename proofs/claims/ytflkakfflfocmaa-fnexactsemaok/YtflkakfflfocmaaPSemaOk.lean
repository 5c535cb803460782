/- SemaOk of the program answers as the model at every argument. No condition. -/
import Derived.Test.YtflkakfflfocmaaSSema
import Derived.Test.YtflkakfflfocmaaISema
import Derived.Test.YtflkakfflfocmaaOpenS
namespace Go.Proofs.Ytflkakfflfocmaa
open Go.ChangeShapes Go.WideShapes Go.ChangeAt Go.RowKit
set_option linter.unusedVariables false

set_option maxHeartbeats 1000000 in
theorem fnExactSemaOk_walk (a b c : Int)  (w : World) (wa : (Lit.int .i64 a).wf = true) (wb : (Lit.int .i64 b).wf = true) (wc : (Lit.int .i64 c).wf = true) :
    Calls Try.prog 4 #[.agg #[.int .i64 a, .int .i64 b, .int .i64 c]] w fun e w' => e = .returned (.bool true) ∧ Below w.heap.size w w' := by
  have HT := Lib.hid (fun W => toSema_any a b c W)
  have HS := Lib.hid (fun W => sSemaOk_any a b c W)
  have HI := Lib.hid (fun W => semaOk_any a b c W)
  generalize decide (SemaGood a b c) = q at *
  clear wa wb wc
  go_enter Try.func4, Try.ntmps4
  go_wp2_with fail
  refine (HT.out _).mono ?_
  rintro e w1 ⟨rfl, h1⟩
  obtain ⟨u1, n1⟩ := one_newS h1
  obtain ⟨⟨ac0, ac1, ac2⟩, af0, af1, af2⟩ := blk3 u1
  have al : w.heap.size < w1.heap.size := (Array.getElem?_eq_some_iff.1 u1).1
  have B1 : Hid (Below w.heap.size w w1) := n1
  clear h1 n1 u1
  go_wp2_with fail
  refine (HS.out _).mono ?_
  rintro e w2 ⟨rfl, h2⟩
  have n2 := h2
  obtain ⟨bc2, bf2⟩ := bcell n2
  replace ac0 := (bc2 _ _ al).trans ac0
  replace ac1 := (bc2 _ _ al).trans ac1
  replace ac2 := (bc2 _ _ al).trans ac2
  replace al : w.heap.size < w2.heap.size := Nat.lt_of_lt_of_le al n2.size
  clear bc2 bf2
  have B2 : Hid (Below w.heap.size w w2) := B1.out.trans (n2.mono B1.out.size)
  clear h2 n2
  go_wp2_with fail
  refine (HT.out _).mono ?_
  rintro e w3 ⟨rfl, h3⟩
  have n3 := h3
  obtain ⟨bc3, bf3⟩ := bcell n3
  replace ac0 := (bc3 _ _ al).trans ac0
  replace ac1 := (bc3 _ _ al).trans ac1
  replace ac2 := (bc3 _ _ al).trans ac2
  replace al : w.heap.size < w3.heap.size := Nat.lt_of_lt_of_le al n3.size
  clear bc3 bf3
  have B3 : Hid (Below w.heap.size w w3) := B2.out.trans (n3.mono B2.out.size)
  clear h3 n3
  go_wp2_with fail
  refine (HI.out _).mono ?_
  rintro e w4 ⟨rfl, h4⟩
  have n4 := h4
  obtain ⟨bc4, bf4⟩ := bcell n4
  replace ac0 := (bc4 _ _ al).trans ac0
  replace ac1 := (bc4 _ _ al).trans ac1
  replace ac2 := (bc4 _ _ al).trans ac2
  replace al : w.heap.size < w4.heap.size := Nat.lt_of_lt_of_le al n4.size
  clear bc4 bf4
  have B4 : Hid (Below w.heap.size w w4) := B3.out.trans (n4.mono B3.out.size)
  clear h4 n4
  go_wp2
  go_ret
  exact ⟨rfl, (by repeat (first | exact Below.refl _ _ | refine Below.drew ?_ | refine Below.setCell ?_ (by first | omega | (simp; done) | (simp; omega) | (simp [*]; done)) _ | refine Below.alloc ?_ (by first | omega | (simp; done) | (simp; omega) | (simp [*]; done)) _ | refine Below.trans ?_ (Below.mono (B4.out) (by first | omega | (simp; done) | (simp; omega) | (simp [*]; done)))))⟩

set_option maxRecDepth 100000 in
theorem fnExactSemaOk_lifted (os : Os) (started : os.Started) (H : Type) (enc : TypeId × Value → H) :
    ReturnsInHanded {} Try.checked os 4 .any (Rows.fnExactSemaOkSpec.pre6 enc Try.prog Try.f4 Rows.fnExactSemaOkRow.domain false) (Rows.fnExactSemaOkSpec.post enc Try.prog Try.f4 false true false false) := by
  refine returnsInHanded_of_change (C := Try.checked) own started (by kernel_rfl) Try.func4
    (ChangeSpec.witness6 (enc := enc) (C := Try.checked) false ⟨#[], #[.agg #[.int .i64 0, .int .i64 0, .int .i64 0]], []⟩ 8 (by kernel_rfl) (by kernel_rfl) (by kernel_rfl) (by kernel_rfl)) ?_
  intro W base args ds gs before hval0 hW hcnd _
  have hval : ∀ (j : Nat) t v, Try.f4.params[j]? = some t → args[j]? = some v → Value.okWide Try.prog W .any base t v := hval0
  have hW' := hW
  obtain ⟨p, q, hA0, hV, rfl, hfz, hnd⟩ := hW
  have hA : DataW.TrodAll enc Try.prog W 0 (fun _ => true) true Try.f4.params.toList args.toList ds p := hA0
  rw [Try.params4] at hA hval
  obtain ⟨v0, vs0, d0, ds0, p0, q0, hargs, rfl, rfl, h0, r0⟩ := trodAll_cons hA
  obtain ⟨rfl, rfl, rfl⟩ := trodAll_nil r0
  obtain rfl : args = #[v0] := by cases args; simp_all
  obtain ⟨rfl, rfl⟩ := trodVars_none hV
  have k0 := h0
  have lt0 : ∀ x ∈ p0, x.block < W.heap.size := by obtain ⟨m, hm⟩ := k0; exact DataW.trod_lt m _ _ _ hm
  obtain ⟨a0, b0, c0, rfl, wa0, wb0, wc0⟩ := open_sema (hval 0 35 v0 rfl rfl) h0
  clear hA0 hval0
  refine (fnExactSemaOk_walk a0 b0 c0 W wa0 wb0 wc0).mono fun e W' ⟨he, bel⟩ => ?_
  subst he
  exact ⟨_, rfl, _, _, _, [], _, [], hW', trodAll_mk1 (shut_bool Try.underlying4 _), (trodAll_cons_mk (Below.trod laidOut (by kernel_rfl) (of_decide_eq_true (by kernel_rfl)) k0 bel lt0) (trodAll_mk0)), rfl, bel.frame _, fun h => by cases h⟩

/-- The given statement: for every input the law returns true, and its arguments read as before. -/
theorem fnExactSemaOk_holds : Rows.FnExactSemaOkSaid :=
  OpenClaim.holds_of_wide 4 Try.f4 rfl rfl rfl rfl rfl rfl rfl ⟨rfl, rfl, rfl, rfl, rfl⟩ rfl rfl rfl rfl rfl (by kernel_rfl) Try.func4 (by kernel_rfl)
    (of_decide_eq_true (by kernel_rfl)) (by unfold Func.isWrapper; first | (rw [if_pos (by decide +kernel)]; kernel_rfl) | (rw [if_neg (by decide +kernel)]; exact ⟨rfl, rfl⟩))
    (fun os started H enc _ => fnExactSemaOk_lifted os started H enc)
#print axioms fnExactSemaOk_holds
end Go.Proofs.Ytflkakfflfocmaa
