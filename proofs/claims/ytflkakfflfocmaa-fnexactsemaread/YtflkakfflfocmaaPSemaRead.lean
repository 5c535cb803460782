/- SemaRead of the program answers as the model at every argument. No condition. -/
import Derived.Test.YtflkakfflfocmaaSSema
import Derived.Test.YtflkakfflfocmaaISema
import Derived.Test.YtflkakfflfocmaaOpenS
namespace Go.Proofs.Ytflkakfflfocmaa
open Go.ChangeShapes Go.WideShapes Go.ChangeAt Go.RowKit
set_option linter.unusedVariables false

set_option maxHeartbeats 1000000 in
theorem fnExactSemaRead_walk (x : Int) (w : World) (wx : (Lit.int .u32 x).wf = true) :
    Calls Try.prog 6 #[.int .u32 x] w fun e w' => e = .returned (.bool true) ∧ Below w.heap.size w w' := by
  obtain ⟨X, rfl, hX⟩ := nat_of_wf wx
  have HS := Lib.hid (fun W => sSemaRead_any X W hX)
  have HI := Lib.hid (fun W => semaRead_any X W hX)
  obtain ⟨p0, p1, p2, hp⟩ : ∃ p0 p1 p2 : Int, semaIf (decide (SGoodX X)) ((cOf X : Int)) ((eOf X : Int)) ((rOf X : Int)) = #[.int .i64 p0, .int .i64 p1, .int .i64 p2] := by
    unfold semaIf
    split
    · exact ⟨_, _, _, rfl⟩
    · exact ⟨_, _, _, rfl⟩
  rw [hp] at HS HI
  clear hp
  generalize decide (SGoodX X) = q at *
  generalize (X : Int) = x at *
  have HE := Lib.hid (fun W => eqSema_any p0 p1 p2 W)
  go_enter Try.func6, Try.ntmps6
  go_wp2_with fail
  refine (HS.out _).mono ?_
  rintro e w1 ⟨rfl, h1⟩
  have n1 := h1
  have B1 : Hid (Below w.heap.size w w1) := n1
  clear h1 n1
  go_wp2_with fail
  refine (HI.out _).mono ?_
  rintro e w2 ⟨rfl, h2⟩
  obtain ⟨u2, n2⟩ := one_newS h2
  obtain ⟨⟨sc0, sc1, sc2⟩, sf0, sf1, sf2⟩ := blk3 u2
  have sl : w1.heap.size < w2.heap.size := (Array.getElem?_eq_some_iff.1 u2).1
  have B2 : Hid (Below w.heap.size w w2) := B1.out.trans (n2.mono B1.out.size)
  clear h2 n2 u2
  go_wp2_with fail
  refine (HE.out _).mono ?_
  rintro e w3 ⟨rfl, h3⟩
  have bz := B2.out.size
  have B3 : Hid (Below w.heap.size w w3) := (by repeat (first | exact Below.refl _ _ | refine Below.drew ?_ | refine Below.setCell ?_ (by first | omega | (simp; done) | (simp; omega) | (simp [*]; done)) _ | refine Below.alloc ?_ (by first | omega | (simp; done) | (simp; omega) | (simp [*]; done)) _ | refine Below.trans ?_ (Below.mono (B2.out) (by first | omega | (simp; done) | (simp; omega) | (simp [*]; done))) | refine Below.trans ?_ (Below.mono (h3) (by first | omega | (simp; done) | (simp; omega) | (simp [*]; done)))))
  clear h3
  go_wp2
  go_ret
  exact ⟨rfl, (by repeat (first | exact Below.refl _ _ | refine Below.drew ?_ | refine Below.setCell ?_ (by first | omega | (simp; done) | (simp; omega) | (simp [*]; done)) _ | refine Below.alloc ?_ (by first | omega | (simp; done) | (simp; omega) | (simp [*]; done)) _ | refine Below.trans ?_ (Below.mono (B3.out) (by first | omega | (simp; done) | (simp; omega) | (simp [*]; done)))))⟩

set_option maxRecDepth 100000 in
theorem fnExactSemaRead_lifted (os : Os) (started : os.Started) (H : Type) (enc : TypeId × Value → H) :
    ReturnsInHanded {} Try.checked os 6 .any (Rows.fnExactSemaReadSpec.pre6 enc Try.prog Try.f6 Rows.fnExactSemaReadRow.domain false) (Rows.fnExactSemaReadSpec.post enc Try.prog Try.f6 false true false false) := by
  refine returnsInHanded_of_change (C := Try.checked) own started (by kernel_rfl) Try.func6
    (ChangeSpec.witness6 (enc := enc) (C := Try.checked) false ⟨#[], #[.int .u32 0], []⟩ 8 (by kernel_rfl) (by kernel_rfl) (by kernel_rfl) (by kernel_rfl)) ?_
  intro W base args ds gs before hval0 hW hcnd _
  have hval : ∀ (j : Nat) t v, Try.f6.params[j]? = some t → args[j]? = some v → Value.okWide Try.prog W .any base t v := hval0
  have hW' := hW
  obtain ⟨p, q, hA0, hV, rfl, hfz, hnd⟩ := hW
  have hA : DataW.TrodAll enc Try.prog W 0 (fun _ => true) true Try.f6.params.toList args.toList ds p := hA0
  rw [Try.params6] at hA hval
  obtain ⟨v0, vs0, d0, ds0, p0, q0, hargs, rfl, rfl, h0, r0⟩ := trodAll_cons hA
  obtain ⟨rfl, rfl, rfl⟩ := trodAll_nil r0
  obtain rfl : args = #[v0] := by cases args; simp_all
  obtain ⟨rfl, rfl⟩ := trodVars_none hV
  obtain ⟨a0, rfl, rfl, rfl, w0⟩ := open_int Try.underlying27 (hval 0 27 v0 rfl rfl) h0
  clear hA0 hval0
  refine (fnExactSemaRead_walk a0 W w0).mono fun e W' ⟨he, bel⟩ => ?_
  subst he
  exact ⟨_, rfl, _, _, _, [], _, [], hW', trodAll_mk1 (shut_bool Try.underlying4 _), (trodAll_cons_mk (shut_int Try.underlying27 w0) (trodAll_mk0)), rfl, bel.frame _, fun h => by cases h⟩

/-- The given statement: for every input the law returns true, and its arguments read as before. -/
theorem fnExactSemaRead_holds : Rows.FnExactSemaReadSaid :=
  OpenClaim.holds_of_wide 6 Try.f6 rfl rfl rfl rfl rfl rfl rfl ⟨rfl, rfl, rfl, rfl, rfl⟩ rfl rfl rfl rfl rfl (by kernel_rfl) Try.func6 (by kernel_rfl)
    (of_decide_eq_true (by kernel_rfl)) (by unfold Func.isWrapper; first | (rw [if_pos (by decide +kernel)]; kernel_rfl) | (rw [if_neg (by decide +kernel)]; exact ⟨rfl, rfl⟩))
    (fun os started H enc _ => fnExactSemaRead_lifted os started H enc)
#print axioms fnExactSemaRead_holds
end Go.Proofs.Ytflkakfflfocmaa
