/- SemaPost of the program answers as the model at every argument. No condition. -/
import Derived.Test.YtflkakfflfocmaaSSema
import Derived.Test.YtflkakfflfocmaaISemaW
import Derived.Test.YtflkakfflfocmaaOpenS
namespace Go.Proofs.Ytflkakfflfocmaa
open Go.ChangeShapes Go.WideShapes Go.ChangeAt Go.RowKit
set_option linter.unusedVariables false

set_option maxHeartbeats 1000000 in
theorem fnExactSemaPost_walk (a b c : Int) (n : Int) (w : World) (wa : (Lit.int .i64 a).wf = true) (wb : (Lit.int .i64 b).wf = true) (wc : (Lit.int .i64 c).wf = true) (wn : (Lit.int .i64 n).wf = true) :
    Calls Try.prog 8 #[.agg #[.int .i64 a, .int .i64 b, .int .i64 c], .int .i64 n] w fun e w' => e = .returned (.bool true) ∧ Below w.heap.size w w' := by
  have HT := Lib.hid (fun W => toSema_any a b c W)
  have HS := Lib.hid (fun W => sSemaPost_any a b c n W)
  have HI := Lib.hid (fun W => semaPost_any a b c n W)
  obtain ⟨p0, p1, p2, hp⟩ : ∃ p0 p1 p2 : Int, semaIf (decide (PostOk a b c n)) (a + n) (b - n) (c) = #[.int .i64 p0, .int .i64 p1, .int .i64 p2] := by
    unfold semaIf
    split
    · exact ⟨_, _, _, rfl⟩
    · exact ⟨_, _, _, rfl⟩
  rw [hp] at HS HI
  clear hp
  generalize decide (PostOk a b c n) = q at *
  have HE := Lib.hid (fun W => eqSema_any p0 p1 p2 W)
  clear wa wb wc
  go_enter Try.func8, Try.ntmps8
  go_wp2_with fail
  refine (HT.out _).mono ?_
  rintro e w1 ⟨rfl, h1⟩
  obtain ⟨u1, n1⟩ := one_newS h1
  obtain ⟨⟨ac0, ac1, ac2⟩, af0, af1, af2⟩ := blk3 u1
  have al : w.heap.size < w1.heap.size := (Array.getElem?_eq_some_iff.1 u1).1
  have B1 : Hid (Below w.heap.size w w1) := n1
  clear h1 n1 u1
  go_wp2_with fail
  refine (HS.out _).mono ?_
  rintro e w2 ⟨rfl, h2⟩
  have n2 := h2
  obtain ⟨bc2, bf2⟩ := bcell n2
  replace ac0 := (bc2 _ _ al).trans ac0
  replace ac1 := (bc2 _ _ al).trans ac1
  replace ac2 := (bc2 _ _ al).trans ac2
  replace al : w.heap.size < w2.heap.size := Nat.lt_of_lt_of_le al n2.size
  clear bc2 bf2
  have B2 : Hid (Below w.heap.size w w2) := B1.out.trans (n2.mono B1.out.size)
  clear h2 n2
  go_wp2_with fail
  refine (HT.out _).mono ?_
  rintro e w3 ⟨rfl, h3⟩
  obtain ⟨u3, n3⟩ := one_newS h3
  obtain ⟨⟨sc0, sc1, sc2⟩, sf0, sf1, sf2⟩ := blk3 u3
  have sl : w2.heap.size < w3.heap.size := (Array.getElem?_eq_some_iff.1 u3).1
  obtain ⟨bc3, bf3⟩ := bcell n3
  replace ac0 := (bc3 _ _ al).trans ac0
  replace ac1 := (bc3 _ _ al).trans ac1
  replace ac2 := (bc3 _ _ al).trans ac2
  replace al : w.heap.size < w3.heap.size := Nat.lt_of_lt_of_le al n3.size
  clear bc3 bf3
  have B3 : Hid (Below w.heap.size w w3) := B2.out.trans (n3.mono B2.out.size)
  clear h3 n3 u3
  go_wp2_with fail
  refine (HI.out _).mono ?_
  rintro e w4 ⟨rfl, h4⟩
  have n4 := h4
  obtain ⟨bc4, bf4⟩ := bcell n4
  replace ac0 := (bc4 _ _ al).trans ac0
  replace ac1 := (bc4 _ _ al).trans ac1
  replace ac2 := (bc4 _ _ al).trans ac2
  replace al : w.heap.size < w4.heap.size := Nat.lt_of_lt_of_le al n4.size
  replace sc0 := (bc4 _ _ sl).trans sc0
  replace sc1 := (bc4 _ _ sl).trans sc1
  replace sc2 := (bc4 _ _ sl).trans sc2
  replace sl : w2.heap.size < w4.heap.size := Nat.lt_of_lt_of_le sl n4.size
  clear bc4 bf4
  have B4 : Hid (Below w.heap.size w w4) := B3.out.trans (n4.mono B3.out.size)
  clear h4 n4
  go_wp2_with fail
  refine (HE.out _).mono ?_
  rintro e w5 ⟨rfl, h5⟩
  have bz := B4.out.size
  have B5 : Hid (Below w.heap.size w w5) := (by repeat (first | exact Below.refl _ _ | refine Below.drew ?_ | refine Below.setCell ?_ (by first | omega | (simp; done) | (simp; omega) | (simp [*]; done)) _ | refine Below.alloc ?_ (by first | omega | (simp; done) | (simp; omega) | (simp [*]; done)) _ | refine Below.trans ?_ (Below.mono (B4.out) (by first | omega | (simp; done) | (simp; omega) | (simp [*]; done))) | refine Below.trans ?_ (Below.mono (h5) (by first | omega | (simp; done) | (simp; omega) | (simp [*]; done)))))
  clear h5
  go_wp2
  go_ret
  exact ⟨rfl, (by repeat (first | exact Below.refl _ _ | refine Below.drew ?_ | refine Below.setCell ?_ (by first | omega | (simp; done) | (simp; omega) | (simp [*]; done)) _ | refine Below.alloc ?_ (by first | omega | (simp; done) | (simp; omega) | (simp [*]; done)) _ | refine Below.trans ?_ (Below.mono (B5.out) (by first | omega | (simp; done) | (simp; omega) | (simp [*]; done)))))⟩

set_option maxRecDepth 100000 in
theorem fnExactSemaPost_lifted (os : Os) (started : os.Started) (H : Type) (enc : TypeId × Value → H) :
    ReturnsInHanded {} Try.checked os 8 .any (Rows.fnExactSemaPostSpec.pre6 enc Try.prog Try.f8 Rows.fnExactSemaPostRow.domain false) (Rows.fnExactSemaPostSpec.post enc Try.prog Try.f8 false true false false) := by
  refine returnsInHanded_of_change (C := Try.checked) own started (by kernel_rfl) Try.func8
    (ChangeSpec.witness6 (enc := enc) (C := Try.checked) false ⟨#[], #[.agg #[.int .i64 0, .int .i64 0, .int .i64 0], .int .i64 0], []⟩ 8 (by kernel_rfl) (by kernel_rfl) (by kernel_rfl) (by kernel_rfl)) ?_
  intro W base args ds gs before hval0 hW hcnd _
  have hval : ∀ (j : Nat) t v, Try.f8.params[j]? = some t → args[j]? = some v → Value.okWide Try.prog W .any base t v := hval0
  have hW' := hW
  obtain ⟨p, q, hA0, hV, rfl, hfz, hnd⟩ := hW
  have hA : DataW.TrodAll enc Try.prog W 0 (fun _ => true) true Try.f8.params.toList args.toList ds p := hA0
  rw [Try.params8] at hA hval
  obtain ⟨v0, vs0, d0, ds0, p0, q0, hargs, rfl, rfl, h0, r0⟩ := trodAll_cons hA
  obtain ⟨v1, vs1, d1, ds1, p1, q1, rfl, rfl, rfl, h1, r1⟩ := trodAll_cons r0
  obtain ⟨rfl, rfl, rfl⟩ := trodAll_nil r1
  obtain rfl : args = #[v0, v1] := by cases args; simp_all
  obtain ⟨rfl, rfl⟩ := trodVars_none hV
  have k0 := h0
  have lt0 : ∀ x ∈ p0, x.block < W.heap.size := by obtain ⟨m, hm⟩ := k0; exact DataW.trod_lt m _ _ _ hm
  obtain ⟨a0, b0, c0, rfl, wa0, wb0, wc0⟩ := open_sema (hval 0 35 v0 rfl rfl) h0
  obtain ⟨a1, rfl, rfl, rfl, w1⟩ := open_int Try.underlying3 (hval 1 3 v1 rfl rfl) h1
  clear hA0 hval0
  refine (fnExactSemaPost_walk a0 b0 c0 a1 W wa0 wb0 wc0 w1).mono fun e W' ⟨he, bel⟩ => ?_
  subst he
  exact ⟨_, rfl, _, _, _, [], _, [], hW', trodAll_mk1 (shut_bool Try.underlying4 _), (trodAll_cons_mk (Below.trod laidOut (by kernel_rfl) (of_decide_eq_true (by kernel_rfl)) k0 bel lt0) (trodAll_cons_mk (shut_int Try.underlying3 w1) (trodAll_mk0))), rfl, bel.frame _, fun h => by cases h⟩

/-- The given statement: for every input the law returns true, and its arguments read as before. -/
theorem fnExactSemaPost_holds : Rows.FnExactSemaPostSaid :=
  OpenClaim.holds_of_wide 8 Try.f8 rfl rfl rfl rfl rfl rfl rfl ⟨rfl, rfl, rfl, rfl, rfl⟩ rfl rfl rfl rfl rfl (by kernel_rfl) Try.func8 (by kernel_rfl)
    (of_decide_eq_true (by kernel_rfl)) (by unfold Func.isWrapper; first | (rw [if_pos (by decide +kernel)]; kernel_rfl) | (rw [if_neg (by decide +kernel)]; exact ⟨rfl, rfl⟩))
    (fun os started H enc _ => fnExactSemaPost_lifted os started H enc)
#print axioms fnExactSemaPost_holds
end Go.Proofs.Ytflkakfflfocmaa
