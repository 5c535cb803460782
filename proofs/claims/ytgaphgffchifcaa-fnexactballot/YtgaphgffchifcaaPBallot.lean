/- Ballot of the program answers as the model at every list of bools, and leaves its argument as it was. No condition. -/
import Derived.Test.YtgaphgffchifcaaBallot
namespace Go.Proofs.Ytgaphgffchifcaa
open Go.ChangeShapes Go.WideShapes Go.ChangeAt Go.RowKit
set_option linter.unusedVariables false

set_option maxRecDepth 100000 in
set_option maxHeartbeats 1000000 in
theorem fnExactBallot_walk (A : Option Addr) (n c : Nat) (zs : List Bool) (w : World) (h : RdB w w.heap.size A n zs) (hm : n ≤ maxLen) (hf : True) :
    Calls Try.prog 6 #[.slice A n c] w fun e w' => e = .returned (.bool true) ∧ Below w.heap.size w w' := by
  clear hf
  by_cases hn : n ≤ 1048576
  · have H := Lib.hid h
    have hn' : ¬ (1048576 : Int) < (n : Int) := by omega
    clear h hm
    go_enter Try.func6, Try.ntmps6
    go_wp2_with fail
    refine (toB_any A n c _ zs w H.out (Nat.le_refl _) hn).mono ?_
    rintro e w1 ⟨g1, rfl, ho1, hb1⟩
    have O1 := Lib.hid ho1
    have B1 := Lib.hid hb1
    clear ho1 hb1
    go_wp2_with fail
    refine (sBallot_any (some ⟨g1, 0, none⟩) n n _ zs w1 O1.out.rd (Nat.le_refl _)).mono ?_
    rintro e w2 ⟨rfl, hb2⟩
    have z1 := B1.out.size
    have z2 := hb2.size
    have B2 : Hid (Below w.heap.size w w2) := B1.out.trans (hb2.mono z1)
    clear hb2 B1 O1
    go_wp2_with fail
    refine (toB_any A n c _ zs w2 (H.out.below B2.out) (by omega) hn).mono ?_
    rintro e w3 ⟨g3, rfl, ho3, hb3⟩
    have O3 := Lib.hid ho3
    have z3 := hb3.size
    have B3 : Hid (Below w.heap.size w w3) := B2.out.trans (hb3.mono (by omega))
    clear ho3 hb3 B2
    go_wp2_with fail
    refine (ballot_any (some ⟨g3, 0, none⟩) n n _ zs w3 O3.out.rd).mono ?_
    rintro e w4 ⟨rfl, rfl⟩
    have HT := Lib.hid (toB_any A n c _ zs w3 (H.out.below B3.out) (by omega) hn)
    generalize ballotB n = bb at *
    go_wp2_with fail
    refine HT.out.mono ?_
    rintro e w5 ⟨g5, rfl, ho5, hb5⟩
    have O5 := Lib.hid ho5
    have O3b := Lib.hid (O3.out.below hb5)
    have B5 : Hid (Below w.heap.size w w5) := B3.out.trans (hb5.mono (by omega))
    have HE := Lib.hid (eqB_any (some ⟨g3, 0, none⟩) (some ⟨g5, 0, none⟩) n n n n _ _ zs zs w5 O3b.out.rd O5.out.rd (by unfold maxLen; omega) (by unfold maxLen; omega))
    rw [decide_eq_true rfl] at HE
    clear ho5 hb5 HT B3 O3
    go_wp2_with fail
    refine HE.out.mono ?_
    rintro e w6 ⟨rfl, k6, rfl⟩
    have B6 : Hid (Below w.heap.size w (w5.drewN k6)) := ⟨B5.out.os, B5.out.tape, B5.out.output, B5.out.size, B5.out.block⟩
    clear HE O3b O5 B5
    generalize w5.drewN k6 = w6 at *
    go_wp2
    go_ret
    exact ⟨rfl, B6.out⟩
  · have hn' : (1048576 : Int) < (n : Int) := by omega
    clear h
    go_enter Try.func6, Try.ntmps6
    go_wp2
    go_ret
    exact ⟨rfl, Below.refl _ _⟩

set_option maxRecDepth 100000 in
theorem fnExactBallot_lifted (os : Os) (started : os.Started) (H : Type) (enc : TypeId × Value → H) :
    ReturnsInHanded {} Try.checked os 6 .any (Rows.fnExactBallotSpec.pre6 enc Try.prog Try.f6 Rows.fnExactBallotRow.domain false) (Rows.fnExactBallotSpec.post enc Try.prog Try.f6 false true false false) := by
  refine returnsInHanded_of_change (C := Try.checked) own started (by kernel_rfl) Try.func6
    (ChangeSpec.witness6 (enc := enc) (C := Try.checked) false ⟨#[], #[.slice none 0 0], []⟩ 8 (by kernel_rfl) (by kernel_rfl) (by kernel_rfl) (by kernel_rfl)) ?_
  intro W base args ds gs before hval0 hW hcnd _
  have hval : ∀ (j : Nat) t v, Try.f6.params[j]? = some t → args[j]? = some v → Value.okWide Try.prog W .any base t v := hval0
  have hW' := hW
  obtain ⟨p, q, hA0, hV, rfl, hfz, hnd⟩ := hW
  have hA : DataW.TrodAll enc Try.prog W 0 (fun _ => true) true Try.f6.params.toList args.toList ds p := hA0
  rw [Try.params6] at hA hval
  obtain ⟨v0, vs0, d0, ds0, p0, q0, hargs, rfl, rfl, h0, r0⟩ := trodAll_cons hA
  obtain ⟨rfl, rfl, rfl⟩ := trodAll_nil r0
  obtain rfl : args = #[v0] := by cases args; simp_all
  obtain ⟨rfl, rfl⟩ := trodVars_none hV
  have k0 := h0
  have lt0 : ∀ x ∈ p0, x.block < W.heap.size := by obtain ⟨m, hm⟩ := k0; exact DataW.trod_lt m _ _ _ hm
  obtain ⟨A0, n0, c0, z0, rfl, m0, rd0, f0⟩ := open_boolS (hval 0 29 v0 rfl rfl) h0
  clear hA0 hval0
  refine (fnExactBallot_walk A0 n0 c0 z0 W rd0 m0 f0).mono fun e W' ⟨he, bel⟩ => ?_
  subst he
  exact ⟨_, rfl, _, _, _, [], _, [], hW', trodAll_mk1 (shut_bool Try.underlying4 _), (trodAll_cons_mk (Below.trod laidOut (by kernel_rfl) (of_decide_eq_true (by kernel_rfl)) k0 bel lt0) (trodAll_mk0)), rfl, bel.frame _, fun h => by cases h⟩

/-- The given statement: for every input the law returns true, and its arguments read as before. -/
theorem fnExactBallot_holds : Rows.FnExactBallotSaid :=
  OpenClaim.holds_of_wide 6 Try.f6 rfl rfl rfl rfl rfl rfl rfl ⟨rfl, rfl, rfl, rfl, rfl⟩ rfl rfl rfl rfl rfl (by kernel_rfl) Try.func6 (by kernel_rfl)
    (of_decide_eq_true (by kernel_rfl)) (by unfold Func.isWrapper; first | (rw [if_pos (by decide +kernel)]; kernel_rfl) | (rw [if_neg (by decide +kernel)]; exact ⟨rfl, rfl⟩))
    (fun os started H enc _ => fnExactBallot_lifted os started H enc)
#print axioms fnExactBallot_holds
end Go.Proofs.Ytgaphgffchifcaa
