/- GroupOf of the program answers as the model at every argument and leaves its argument as it was. No condition. -/
import Derived.Test.YtgaphgffchifcaaIGrpA
import Derived.Test.YtgaphgffchifcaaWordS
import Derived.Test.YtgaphgffchifcaaToI
import Derived.Test.YtgaphgffchifcaaOpenI
namespace Go.Proofs.Ytgaphgffchifcaa
open Go.ChangeShapes Go.WideShapes Go.ChangeAt Go.RowKit
set_option linter.unusedVariables false

set_option maxRecDepth 100000 in
set_option maxHeartbeats 2000000 in
theorem fnExactGroupOf_walk (A : Option Addr) (n c : Nat) (zs : List Int) (a1 : Int) (w : World) (h : RdK .i64 w w.heap.size A n zs) (hm : n ≤ maxLen) (hf : ∀ z ∈ zs, -9223372036854775808 ≤ z ∧ z < 9223372036854775808) (hw1 : (Lit.int .u32 a1).wf = true) :
    Calls Try.prog 10 #[.slice A n c, .int .u32 a1] w fun e w' => e = .returned (.bool true) ∧ Below w.heap.size w w' := by
  obtain ⟨X, rfl, hX⟩ := nat_of_wf hw1
  clear hw1
  by_cases hn : n ≤ 1048576
  · have H := Lib.hid h
    have hn' : ¬ (1048576 : Int) < (n : Int) := by omega
    have HS : Hid (∀ (g B : Nat) W, RdK .i64 W B (some ⟨g, 0, none⟩) n zs → B ≤ W.heap.size → Calls Try.prog 27 #[.slice (some ⟨g, 0, none⟩) n n, .int .u32 (X : Int)] W fun e w' => e = .returned (.int .u32 (groupOfV n X zs : Int)) ∧ Below W.heap.size W w') := fun g B W h1 h2 => sGroupOf_any (some ⟨g, 0, none⟩) n n B X zs W h1 h2 hX
    have HI : Hid (∀ (g B : Nat) W, RdK .i64 W B (some ⟨g, 0, none⟩) n zs → B ≤ W.heap.size → Calls Try.prog 26 #[.slice (some ⟨g, 0, none⟩) n n, .int .u32 (X : Int)] W fun e w' => e = .returned (.int .u32 (groupOfV n X zs : Int)) ∧ Below W.heap.size W w') := fun g B W h1 h2 => iGroupOf_any (some ⟨g, 0, none⟩) n n B X zs W h1 h2 hX hf
    generalize groupOfV n X zs = r at *
    clear h hm hf hX
    go_enter Try.func10, Try.ntmps10
    go_wp2_with fail
    refine (toI_any A n c _ zs w H.out (Nat.le_refl _) hn).mono ?_
    rintro e w1 ⟨g1, rfl, ho1, hb1⟩
    have O1 := Lib.hid ho1
    have B1 := Lib.hid hb1
    have z1 := hb1.size
    clear ho1 hb1
    go_wp2_with fail
    refine (HS.out g1 _ w1 O1.out.rd (Nat.le_refl _)).mono ?_
    rintro e w2 ⟨rfl, hb2⟩
    have z2 := hb2.size
    have B2 : Hid (Below w.heap.size w w2) := B1.out.trans (hb2.mono z1)
    clear hb2 O1 B1
    go_wp2_with fail
    refine (toI_any A n c _ zs w2 (H.out.below B2.out) (by omega) hn).mono ?_
    rintro e w3 ⟨g3, rfl, ho3, hb3⟩
    have O3 := Lib.hid ho3
    have z3 := hb3.size
    have B3 : Hid (Below w.heap.size w w3) := B2.out.trans (hb3.mono (by omega))
    clear ho3 hb3 B2
    go_wp2_with fail
    refine (HI.out g3 _ w3 O3.out.rd (Nat.le_refl _)).mono ?_
    rintro e w4 ⟨rfl, hb4⟩
    have O3b := Lib.hid (O3.out.below hb4)
    have z4 := hb4.size
    have B4 : Hid (Below w.heap.size w w4) := B3.out.trans (hb4.mono (by omega))
    clear hb4 B3 O3
    go_wp2_with fail
    refine (toI_any A n c _ zs w4 (H.out.below B4.out) (by omega) hn).mono ?_
    rintro e w6 ⟨g6, rfl, ho6, hb6⟩
    have O6 := Lib.hid ho6
    have O36 := Lib.hid (O3b.out.below hb6)
    have B6 : Hid (Below w.heap.size w w6) := B4.out.trans (hb6.mono (by omega))
    have HE := Lib.hid (eqI_any (some ⟨g3, 0, none⟩) (some ⟨g6, 0, none⟩) n n n n _ _ zs zs w6 O36.out.rd O6.out.rd (by unfold maxLen; omega) (by unfold maxLen; omega))
    rw [decide_eq_true rfl] at HE
    clear ho6 hb6 B4
    go_wp2_with fail
    refine HE.out.mono ?_
    rintro e w7 ⟨rfl, k7, rfl⟩
    have B7 : Hid (Below w.heap.size w (w6.drewN k7)) := ⟨B6.out.os, B6.out.tape, B6.out.output, B6.out.size, B6.out.block⟩
    clear HE B6
    generalize w6.drewN k7 = w7 at *
    go_wp2
    go_ret
    exact ⟨rfl, B7.out⟩
  · have hn' : (1048576 : Int) < (n : Int) := by omega
    clear h
    go_enter Try.func10, Try.ntmps10
    go_wp2
    go_ret
    exact ⟨rfl, Below.refl _ _⟩

set_option maxRecDepth 100000 in
theorem fnExactGroupOf_lifted (os : Os) (started : os.Started) (H : Type) (enc : TypeId × Value → H) :
    ReturnsInHanded {} Try.checked os 10 .any (Rows.fnExactGroupOfSpec.pre6 enc Try.prog Try.f10 Rows.fnExactGroupOfRow.domain false) (Rows.fnExactGroupOfSpec.post enc Try.prog Try.f10 false true false false) := by
  refine returnsInHanded_of_change (C := Try.checked) own started (by kernel_rfl) Try.func10
    (ChangeSpec.witness6 (enc := enc) (C := Try.checked) false ⟨#[], #[.slice none 0 0, .int .u32 0], []⟩ 8 (by kernel_rfl) (by kernel_rfl) (by kernel_rfl) (by kernel_rfl)) ?_
  intro W base args ds gs before hval0 hW hcnd _
  have hval : ∀ (j : Nat) t v, Try.f10.params[j]? = some t → args[j]? = some v → Value.okWide Try.prog W .any base t v := hval0
  have hW' := hW
  obtain ⟨p, q, hA0, hV, rfl, hfz, hnd⟩ := hW
  have hA : DataW.TrodAll enc Try.prog W 0 (fun _ => true) true Try.f10.params.toList args.toList ds p := hA0
  rw [Try.params10] at hA hval
  obtain ⟨v0, vs0, d0, ds0, p0, q0, hargs, rfl, rfl, h0, r0⟩ := trodAll_cons hA
  obtain ⟨v1, vs1, d1, ds1, p1, q1, rfl, rfl, rfl, h1, r1⟩ := trodAll_cons r0
  obtain ⟨rfl, rfl, rfl⟩ := trodAll_nil r1
  obtain rfl : args = #[v0, v1] := by cases args; simp_all
  obtain ⟨rfl, rfl⟩ := trodVars_none hV
  have k0 := h0
  have lt0 : ∀ x ∈ p0, x.block < W.heap.size := by obtain ⟨m, hm⟩ := k0; exact DataW.trod_lt m _ _ _ hm
  obtain ⟨A0, n0, c0, z0, rfl, m0, rd0, f0⟩ := open_intS (hval 0 33 v0 rfl rfl) h0
  obtain ⟨a1, rfl, rfl, rfl, w1⟩ := open_int Try.underlying24 (hval 1 24 v1 rfl rfl) h1
  clear hA0 hval0
  refine (fnExactGroupOf_walk A0 n0 c0 z0 a1 W rd0 m0 f0 w1).mono fun e W' ⟨he, bel⟩ => ?_
  subst he
  exact ⟨_, rfl, _, _, _, [], _, [], hW', trodAll_mk1 (shut_bool Try.underlying4 _), (trodAll_cons_mk (Below.trod laidOut (by kernel_rfl) (of_decide_eq_true (by kernel_rfl)) k0 bel lt0) (trodAll_cons_mk (shut_int Try.underlying24 w1) (trodAll_mk0))), rfl, bel.frame _, fun h => by cases h⟩

/-- The given statement: for every input the law returns true, and its arguments read as before. -/
theorem fnExactGroupOf_holds : Rows.FnExactGroupOfSaid :=
  OpenClaim.holds_of_wide 10 Try.f10 rfl rfl rfl rfl rfl rfl rfl ⟨rfl, rfl, rfl, rfl, rfl⟩ rfl rfl rfl rfl rfl (by kernel_rfl) Try.func10 (by kernel_rfl)
    (of_decide_eq_true (by kernel_rfl)) (by unfold Func.isWrapper; first | (rw [if_pos (by decide +kernel)]; kernel_rfl) | (rw [if_neg (by decide +kernel)]; exact ⟨rfl, rfl⟩))
    (fun os started H enc _ => fnExactGroupOf_lifted os started H enc)
#print axioms fnExactGroupOf_holds
end Go.Proofs.Ytgaphgffchifcaa
