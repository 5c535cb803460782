/- Claim of the program answers as the model at every argument, in memory of its own. No condition. -/
import Derived.Test.YtomcdfaomfkmjaaSClaim
import Derived.Test.YtomcdfaomfkmjaaEqI
import Derived.Test.YtomcdfaomfkmjaaMarkI
import Derived.Test.YtomcdfaomfkmjaaOpenB
namespace Go.Proofs.Ytomcdfaomfkmjaa
open Go.ChangeShapes Go.WideShapes Go.ChangeAt Go.RowKit
set_option linter.unusedVariables false

theorem clL_len16 (X : Nat) (K n : Int) : (clL X K n).length ≤ 16 := by
  by_cases h : ClaimOk X K n
  · exact (clL_len h).2.2
  · rw [(cl_no h).1]; simp

set_option maxRecDepth 100000 in
set_option maxHeartbeats 1000000 in
theorem fnExactClaim_walk (a0 a1 a2 : Int) (w : World) (hw0 : (Lit.int .u32 a0).wf = true) (hw1 : (Lit.int .i64 a1).wf = true) (hw2 : (Lit.int .i64 a2).wf = true) :
    Calls Try.prog 7 #[.int .u32 a0, .int .i64 a1, .int .i64 a2] w fun e w' => e = .returned (.bool true) ∧ Below w.heap.size w w' := by
  obtain ⟨X, rfl, hX⟩ := nat_of_wf hw0
  obtain ⟨n0, n1⟩ := int_of_wf hw2
  have HS := Lib.hid (fun W => sClaim_any X a1 a2 W hX n0 n1)
  have HI := Lib.hid (fun W => claim_any X a1 a2 W hX n0 n1)
  have hl := clL_len16 X a1 a2
  generalize clO X a1 a2 = zs at *
  generalize (clL X a1 a2).length = n at *
  generalize (clY X a1 a2 : Int) = y at *
  generalize decide (ClaimOk X a1 a2) = q at *
  clear hX hw0 hw1 hw2 n0 n1
  go_enter Try.func7, Try.ntmps7
  go_wp2_with fail
  refine (HS.out _).mono ?_
  rintro e w1 ⟨A0, c0, rfl, ho0, hb1⟩
  have O0 := Lib.hid ho0
  have B1 := Lib.hid hb1
  clear ho0 hb1
  go_wp2_with fail
  refine (HI.out _).mono ?_
  rintro e w2 ⟨A1, c1, rfl, ho1, hb2⟩
  have O1 := Lib.hid ho1
  have O0b := Lib.hid (O0.out.below hb2)
  have z1 := B1.out.size
  have z2 := hb2.size
  have B2 : Hid (Below w.heap.size w w2) := B1.out.trans (hb2.mono z1)
  have HE := Lib.hid (eqI_any A1 A0 n n c1 c0 _ _ zs zs w2 O1.out.rd O0b.out.rd (by unfold maxLen; omega) (by unfold maxLen; omega))
  rw [decide_eq_true rfl] at HE
  have R0 := Lib.hid O0.out.range
  clear ho1 hb2 B1 O0
  go_wp2_with fail
  refine HE.out.mono ?_
  rintro e w3 ⟨rfl, k3, rfl⟩
  have O1b : Hid (OwnK 3 .i64 (w2.drewN k3) w1.heap.size A1 n c1 zs) := O1.out
  have O0c : Hid (OwnK 3 .i64 (w2.drewN k3) w.heap.size A0 n c0 zs) := O0b.out
  have B3 : Hid (Below w.heap.size w (w2.drewN k3)) := ⟨B2.out.os, B2.out.tape, B2.out.output, B2.out.size, B2.out.block⟩
  have z3 : (w2.drewN k3).heap.size = w2.heap.size := rfl
  clear HE O1 O0b B2
  generalize w2.drewN k3 = w3 at *
  go_wp2_with fail
  refine (markS_any A1 n c1 _ zs w3 O1b.out (by omega)).mono ?_
  rintro e w4 ⟨rfl, ho4, hg4⟩
  have O1d := Lib.hid ho4
  have R1 := Lib.hid O1b.out.range
  have O0d : Hid (OwnK 3 .i64 w4 w.heap.size A0 n c0 zs) := O0c.out.far hg4 (fun g hg e => by
    have h1 := R0.out g hg
    have h2 := R1.out g e
    omega)
  have B4 : Hid (Below w.heap.size w w4) := B3.out.grown hg4 (by omega) (fun g hg => by have := R1.out g hg; omega)
  have z4 := hg4.size
  have HH := Lib.hid (heldI_any A1 n c1 _ w4 O1d.out.rd (by omega))
  clear ho4 hg4 O1b O0c B3
  go_wp2_with fail
  refine HH.out.mono ?_
  rintro e w5 ⟨rfl, rfl⟩
  have hq : ¬ (1 : Int) + (n : Int) < 0 := by omega
  clear HH
  go_wp2_with fail
  refine (HI.out _).mono ?_
  rintro e w6 ⟨A2, c2, rfl, ho2, hb6⟩
  have O2 := Lib.hid ho2
  have O0e := Lib.hid (O0d.out.below hb6)
  have O1e := Lib.hid (O1d.out.below hb6)
  have z6 := hb6.size
  have B6 : Hid (Below w.heap.size w w6) := B4.out.trans (hb6.mono (by omega))
  have HE := Lib.hid (eqI_any A2 A0 n n c2 c0 _ _ zs zs w6 O2.out.rd O0e.out.rd (by unfold maxLen; omega) (by unfold maxLen; omega))
  rw [decide_eq_true rfl] at HE
  clear ho2 hb6 O0d O1d B4
  go_wp2_with fail
  refine HE.out.mono ?_
  rintro e w7 ⟨rfl, k7, rfl⟩
  have O1f : Hid (OwnK 3 .i64 (w6.drewN k7) w1.heap.size A1 n c1 (marks n)) := O1e.out
  have B7 : Hid (Below w.heap.size w (w6.drewN k7)) := ⟨B6.out.os, B6.out.tape, B6.out.output, B6.out.size, B6.out.block⟩
  clear HE O2 O0e O1e B6
  generalize w6.drewN k7 = w7 at *
  have HH := Lib.hid (heldI_any A1 n c1 _ w7 O1f.out.rd (by omega))
  go_wp2_with fail
  refine HH.out.mono ?_
  rintro e w8 ⟨rfl, rfl⟩
  clear HH
  go_wp2
  go_ret
  exact ⟨rfl, B7.out⟩

set_option maxRecDepth 100000 in
theorem fnExactClaim_lifted (os : Os) (started : os.Started) (H : Type) (enc : TypeId × Value → H) :
    ReturnsInHanded {} Try.checked os 7 .any (Rows.fnExactClaimSpec.pre6 enc Try.prog Try.f7 Rows.fnExactClaimRow.domain false) (Rows.fnExactClaimSpec.post enc Try.prog Try.f7 false true false false) := by
  refine returnsInHanded_of_change (C := Try.checked) own started (by kernel_rfl) Try.func7
    (ChangeSpec.witness6 (enc := enc) (C := Try.checked) false ⟨#[], #[.int .u32 0, .int .i64 0, .int .i64 0], []⟩ 8 (by kernel_rfl) (by kernel_rfl) (by kernel_rfl) (by kernel_rfl)) ?_
  intro W base args ds gs before hval0 hW hcnd _
  have hval : ∀ (j : Nat) t v, Try.f7.params[j]? = some t → args[j]? = some v → Value.okWide Try.prog W .any base t v := hval0
  have hW' := hW
  obtain ⟨p, q, hA0, hV, rfl, hfz, hnd⟩ := hW
  have hA : DataW.TrodAll enc Try.prog W 0 (fun _ => true) true Try.f7.params.toList args.toList ds p := hA0
  rw [Try.params7] at hA hval
  obtain ⟨v0, vs0, d0, ds0, p0, q0, hargs, rfl, rfl, h0, r0⟩ := trodAll_cons hA
  obtain ⟨v1, vs1, d1, ds1, p1, q1, rfl, rfl, rfl, h1, r1⟩ := trodAll_cons r0
  obtain ⟨v2, vs2, d2, ds2, p2, q2, rfl, rfl, rfl, h2, r2⟩ := trodAll_cons r1
  obtain ⟨rfl, rfl, rfl⟩ := trodAll_nil r2
  obtain rfl : args = #[v0, v1, v2] := by cases args; simp_all
  obtain ⟨rfl, rfl⟩ := trodVars_none hV
  obtain ⟨a0, rfl, rfl, rfl, w0⟩ := open_int Try.underlying24 (hval 0 24 v0 rfl rfl) h0
  obtain ⟨a1, rfl, rfl, rfl, w1⟩ := open_int Try.underlying3 (hval 1 3 v1 rfl rfl) h1
  obtain ⟨a2, rfl, rfl, rfl, w2⟩ := open_int Try.underlying3 (hval 2 3 v2 rfl rfl) h2
  clear hA0 hval0
  refine (fnExactClaim_walk a0 a1 a2 W w0 w1 w2).mono fun e W' ⟨he, bel⟩ => ?_
  subst he
  exact ⟨_, rfl, _, _, _, [], _, [], hW', trodAll_mk1 (shut_bool Try.underlying4 _), (trodAll_cons_mk (shut_int Try.underlying24 w0) (trodAll_cons_mk (shut_int Try.underlying3 w1) (trodAll_cons_mk (shut_int Try.underlying3 w2) (trodAll_mk0)))), rfl, bel.frame _, fun h => by cases h⟩

/-- The given statement: for every input the law returns true, and its arguments read as before. -/
theorem fnExactClaim_holds : Rows.FnExactClaimSaid :=
  OpenClaim.holds_of_wide 7 Try.f7 rfl rfl rfl rfl rfl rfl rfl ⟨rfl, rfl, rfl, rfl, rfl⟩ rfl rfl rfl rfl rfl (by kernel_rfl) Try.func7 (by kernel_rfl)
    (of_decide_eq_true (by kernel_rfl)) (by unfold Func.isWrapper; first | (rw [if_pos (by decide +kernel)]; kernel_rfl) | (rw [if_neg (by decide +kernel)]; exact ⟨rfl, rfl⟩))
    (fun os started H enc _ => fnExactClaim_lifted os started H enc)
#print axioms fnExactClaim_holds
end Go.Proofs.Ytomcdfaomfkmjaa
