/- ReqOk of the program answers as the model at every argument, and leaves its argument as it was. No condition. -/
import Derived.Test.YtflccpoaacidgaaIReq
import Derived.Test.YtflccpoaacidgaaLawR
import Derived.Test.YtflccpoaacidgaaOpenW
import Derived.Test.YtflccpoaacidgaaIWarp
namespace Go.Proofs.Ytflccpoaacidgaa
open Go.ChangeShapes Go.WideShapes Go.ChangeAt Go.RowKit
set_option linter.unusedVariables false

set_option maxRecDepth 100000 in
set_option maxHeartbeats 4000000 in
theorem fnExactReqOk_walk (kd : Int) (A : Option Addr) (n c : Nat) (zs : List Int) (w : World) (hk : (Lit.int .i64 kd).wf = true) (h : RdK .i64 w w.heap.size A n zs) (hm : n ≤ maxLen) (hf : Fits zs) :
    Calls Try.prog 4 #[.agg #[.int .i64 kd, .slice A n c]] w fun e w' => e = .returned (.bool true) ∧ Below w.heap.size w w' := by
  by_cases hn : n ≤ 1048576
  · have HQ : Hid (∀ r, r = decide (ReqGood kd zs) → (∀ g W, RdK .i64 W W.heap.size (some ⟨g, 0, none⟩) n zs → Calls Try.prog 15 #[.agg #[.int .i64 kd, .slice (some ⟨g, 0, none⟩) n n]] W fun e w' => e = .returned (.bool r) ∧ Below W.heap.size W w') ∧ (∀ g W, RdK .i64 W W.heap.size (some ⟨g, 0, none⟩) n zs → Calls Try.prog 17 #[.agg #[.int .i64 kd, .slice (some ⟨g, 0, none⟩) n n]] W fun e w' => e = .returned (.bool r) ∧ Below W.heap.size W w')) := fun r hr => ⟨fun g W hw => hr ▸ sReqOk_any kd _ n n _ zs W hw (Nat.le_refl _) hm, fun g W hw => hr ▸ reqOk_any kd _ n n _ zs W hw (Nat.le_refl _) hm⟩
    obtain ⟨r, hr⟩ : ∃ r, r = decide (ReqGood kd zs) := ⟨_, rfl⟩
    have HS := Lib.hid (HQ.out r hr).1
    have HI := Lib.hid (HQ.out r hr).2
    clear HQ hr
    have hbb : (r != r) = false := by simp
    have HT : Hid (∀ W, Below w.heap.size w W → Calls Try.prog 16 #[.agg #[.int .i64 kd, .slice A n c]] W fun e w' => ∃ g, e = .returned (.agg #[.int .i64 kd, .slice (some ⟨g, 0, none⟩) n n]) ∧ OwnK 3 .i64 w' W.heap.size (some ⟨g, 0, none⟩) n n zs ∧ Below W.heap.size W w') := fun W hb => toReq_any kd A n c w.heap.size zs W (h.below hb) hb.size hn
    have HZ := Lib.hid (fun W => szReq_yes kd A n c 1048576 W (Int.le_refl _) (by omega))
    have hq : ¬ (1048576 : Int) - (n : Int) < 0 := by omega
    clear h hk hf
    go_enter Try.func4, Try.ntmps4
    go_wp2_with fail
    refine (HZ.out _).mono ?_
    rintro e w1 ⟨rfl, hb⟩
    obtain ⟨ha, hB1, z1⟩ := nw1 hb
    have a0 := blkc ha 0 rfl
    have a1 := blkc ha 1 rfl
    have B1 := Lib.hid hB1
    have HA := Lib.hid ha
    clear hb ha hB1 HZ
    go_wp2_with fail
    refine (HT.out _ B1.out).mono ?_
    rintro e w2 ⟨g1, rfl, ho, hb⟩
    have O1 := Lib.hid ho
    have B2 := Lib.hid (B1.out.trans (hb.mono B1.out.size))
    have HA2 := Lib.hid ((hb.block _ z1).trans HA.out)
    have z2 : w.heap.size < w2.heap.size := by have := hb.size; omega
    clear ho hb a0 a1 HA B1 z1
    go_wp2_with fail
    refine (HS.out _ _ O1.out.rd).mono ?_
    rintro e w3 ⟨rfl, hb⟩
    have B3 := Lib.hid (B2.out.trans (hb.mono B2.out.size))
    have HA3 := Lib.hid ((hb.block _ z2).trans HA2.out)
    have z3 : w.heap.size < w3.heap.size := by have := hb.size; omega
    have a0 := blkc HA3.out 0 rfl
    have a1 := blkc HA3.out 1 rfl
    clear hb O1 HA2 B2 z2
    go_wp2_with fail
    refine (HT.out _ B3.out).mono ?_
    rintro e w4 ⟨g2, rfl, ho, hb⟩
    have O4 := Lib.hid ho
    have B4 := Lib.hid (B3.out.trans (hb.mono B3.out.size))
    have HA4 := Lib.hid ((hb.block _ z3).trans HA3.out)
    have z4 : w.heap.size < w4.heap.size := by have := hb.size; omega
    clear ho hb a0 a1 HA3 B3
    have O5 := Lib.hid (O4.out.alloc (.cells #[.int .i64 kd, .slice (some ⟨g2, 0, none⟩) n n] 32))
    have HX5 := Lib.hid (HI.out g2 (w4.alloc (.cells #[.int .i64 kd, .slice (some ⟨g2, 0, none⟩) n n] 32)) O5.out.rd)
    go_wp2_with fail
    refine HX5.out.mono ?_
    rintro e w5 ⟨rfl, hb⟩
    obtain ⟨hx, hB5, z5⟩ := nw1 hb
    have B5 := Lib.hid (B4.out.trans (hB5.mono B4.out.size))
    have HA5 := Lib.hid ((hB5.block _ z4).trans HA4.out)
    have O6 := Lib.hid (O5.out.below hb)
    have R6 := Lib.hid O6.out.rd
    have a0 := blkc HA5.out 0 rfl
    have a1 := blkc HA5.out 1 rfl
    have x0 := blkc hx 0 rfl
    have x1 := blkc hx 1 rfl
    have zz : w4.heap.size < w5.heap.size := z5
    clear hb hx hB5 HX5 O4 O5 HA4 B4 HS HI
    go_wp2_with fail
    have xx : w5.cell? ⟨w4.heap.size, 0, none⟩ = some (.int .i64 kd) ∧ w5.cell? ⟨w4.heap.size, 1, none⟩ = some (.slice (some ⟨g2, 0, none⟩) n n) ∧ w5.cell? ⟨w.heap.size, 0, none⟩ = some (.int .i64 kd) ∧ w5.cell? ⟨w.heap.size, 1, none⟩ = some (.slice A n c) := ⟨x0, x1, a0, a1⟩
    have xd : w5.drew.cell? ⟨w4.heap.size, 0, none⟩ = some (.int .i64 kd) ∧ w5.drew.cell? ⟨w4.heap.size, 1, none⟩ = some (.slice (some ⟨g2, 0, none⟩) n n) ∧ w5.drew.cell? ⟨w.heap.size, 0, none⟩ = some (.int .i64 kd) ∧ w5.drew.cell? ⟨w.heap.size, 1, none⟩ = some (.slice A n c) := xx
    have D0 : Hid (Below w5.heap.size w5 w5.drew) := (Below.refl _ _).drew
    have xS : Hid (∀ w', Below w5.heap.size w5 w' → w'.cell? ⟨w4.heap.size, 0, none⟩ = some (.int .i64 kd) ∧ w'.cell? ⟨w4.heap.size, 1, none⟩ = some (.slice (some ⟨g2, 0, none⟩) n n) ∧ w'.cell? ⟨w.heap.size, 0, none⟩ = some (.int .i64 kd) ∧ w'.cell? ⟨w.heap.size, 1, none⟩ = some (.slice A n c)) := fun w' hb => ⟨later_at0 hb xx.1, later_at0 hb xx.2.1, later_at0 hb xx.2.2.1, later_at0 hb xx.2.2.2⟩
    have CT : Hid (∀ W', Below w5.heap.size w5 W' → Calls Try.prog 16 #[.agg #[.int .i64 kd, .slice A n c]] W' fun e w' => ∃ g, e = .returned (.agg #[.int .i64 kd, .slice (some ⟨g, 0, none⟩) n n]) ∧ Hid (RdK .i64 w' w'.heap.size (some ⟨g, 0, none⟩) n zs) ∧ Hid (Below w5.heap.size w5 w') ∧ (w'.cell? ⟨w4.heap.size, 0, none⟩ = some (.int .i64 kd) ∧ w'.cell? ⟨w4.heap.size, 1, none⟩ = some (.slice (some ⟨g2, 0, none⟩) n n) ∧ w'.cell? ⟨w.heap.size, 0, none⟩ = some (.int .i64 kd) ∧ w'.cell? ⟨w.heap.size, 1, none⟩ = some (.slice A n c))) := fun W' hb => (HT.out W' (B5.out.trans (hb.mono B5.out.size))).mono fun e w' ⟨g, he, ho, hb2⟩ => ⟨g, he, ho.rd, hb.trans (hb2.mono hb.size), xS.out w' (hb.trans (hb2.mono hb.size))⟩
    have CE : Hid (∀ W' g, Below w5.heap.size w5 W' → RdK .i64 W' W'.heap.size (some ⟨g, 0, none⟩) n zs → Calls Try.prog 18 #[.agg #[.int .i64 kd, .slice (some ⟨g2, 0, none⟩) n n], .agg #[.int .i64 kd, .slice (some ⟨g, 0, none⟩) n n]] W' fun e w' => e = .returned (.bool true) ∧ Hid (Below w5.heap.size w5 w') ∧ (w'.cell? ⟨w4.heap.size, 0, none⟩ = some (.int .i64 kd) ∧ w'.cell? ⟨w4.heap.size, 1, none⟩ = some (.slice (some ⟨g2, 0, none⟩) n n) ∧ w'.cell? ⟨w.heap.size, 0, none⟩ = some (.int .i64 kd) ∧ w'.cell? ⟨w.heap.size, 1, none⟩ = some (.slice A n c))) := fun W' g hb hr => (eqReq_any kd _ _ n n n _ _ zs W' (R6.out.below hb) hr hb.size (Nat.le_refl _) hm).mono fun e w' ⟨he, hb2⟩ => ⟨he, hb.trans (hb2.mono hb.size), xS.out w' (hb.trans (hb2.mono hb.size))⟩
    clear a0 a1 x0 x1
    go_region_held3 (fun w' => w'.cell? ⟨w4.heap.size, 0, none⟩ = some (.int .i64 kd) ∧ w'.cell? ⟨w4.heap.size, 1, none⟩ = some (.slice (some ⟨g2, 0, none⟩) n n) ∧ w'.cell? ⟨w.heap.size, 0, none⟩ = some (.int .i64 kd) ∧ w'.cell? ⟨w.heap.size, 1, none⟩ = some (.slice A n c))
      (first | exact xx | exact xd | exact xt | exact xe)
      (first | (go_at_call 16; (with_reducible refine (CT.out _ D0.out).mono ?_); rintro e wt ⟨g3, rfl, RT, BT, xt⟩)
             | (go_at_call 18; (with_reducible refine (CE.out _ _ BT.out RT.out).mono ?_); rintro e we ⟨rfl, BE, xe⟩))
    all_goals
      go_wp2
      go_ret
      exact ⟨rfl, B5.out.trans (BE.out.mono B5.out.size)⟩
  · have HZ := Lib.hid (fun W => szReq_no kd A n c 1048576 W (Int.le_refl _) (by omega) hm (by omega))
    clear h hk hf
    go_enter Try.func4, Try.ntmps4
    go_wp2_with fail
    refine (HZ.out _).mono ?_
    rintro e w1 ⟨rfl, hb⟩
    have B1 := Lib.hid (nw1 hb).2.1
    clear hb
    go_wp2
    go_ret
    exact ⟨rfl, B1.out⟩

set_option maxRecDepth 100000 in
theorem fnExactReqOk_lifted (os : Os) (started : os.Started) (H : Type) (enc : TypeId × Value → H) :
    ReturnsInHanded {} Try.checked os 4 .any (Rows.fnExactReqOkSpec.pre6 enc Try.prog Try.f4 Rows.fnExactReqOkRow.domain false) (Rows.fnExactReqOkSpec.post enc Try.prog Try.f4 false true false false) := by
  refine returnsInHanded_of_change (C := Try.checked) own started (by kernel_rfl) Try.func4
    (ChangeSpec.witness6 (enc := enc) (C := Try.checked) false ⟨#[], #[.agg #[.int .i64 0, .slice none 0 0]], []⟩ 8 (by kernel_rfl) (by kernel_rfl) (by kernel_rfl) (by kernel_rfl)) ?_
  intro W base args ds gs before hval0 hW hcnd _
  have hval : ∀ (j : Nat) t v, Try.f4.params[j]? = some t → args[j]? = some v → Value.okWide Try.prog W .any base t v := hval0
  have hW' := hW
  obtain ⟨p, q, hA0, hV, rfl, hfz, hnd⟩ := hW
  have hA : DataW.TrodAll enc Try.prog W 0 (fun _ => true) true Try.f4.params.toList args.toList ds p := hA0
  rw [Try.params4] at hA hval
  obtain ⟨v0, vs0, d0, ds0, p0, q0, hargs, rfl, rfl, h0, r0⟩ := trodAll_cons hA
  obtain ⟨rfl, rfl, rfl⟩ := trodAll_nil r0
  obtain rfl : args = #[v0] := by cases args; simp_all
  obtain ⟨rfl, rfl⟩ := trodVars_none hV
  have k0 := h0
  have lt0 : ∀ x ∈ p0, x.block < W.heap.size := by obtain ⟨m, hm⟩ := k0; exact DataW.trod_lt m _ _ _ hm
  obtain ⟨kd0, A0, n0, c0, z0, rfl, wk0, m0, rd0, f0⟩ := open_req (hval 0 29 v0 rfl rfl) h0
  clear hA0 hval0
  refine (fnExactReqOk_walk kd0 A0 n0 c0 z0 W wk0 rd0 m0 f0).mono fun e W' ⟨he, bel⟩ => ?_
  subst he
  exact ⟨_, rfl, _, _, _, [], _, [], hW', trodAll_mk1 (shut_bool Try.underlying4 _), (trodAll_cons_mk (Below.trod laidOut (by kernel_rfl) (of_decide_eq_true (by kernel_rfl)) k0 bel lt0) (trodAll_mk0)), rfl, bel.frame _, fun h => by cases h⟩

/-- The given statement: for every input the law returns true, and its arguments read as before. -/
theorem fnExactReqOk_holds : Rows.FnExactReqOkSaid :=
  OpenClaim.holds_of_wide 4 Try.f4 rfl rfl rfl rfl rfl rfl rfl ⟨rfl, rfl, rfl, rfl, rfl⟩ rfl rfl rfl rfl rfl (by kernel_rfl) Try.func4 (by kernel_rfl)
    (of_decide_eq_true (by kernel_rfl)) (by unfold Func.isWrapper; first | (rw [if_pos (by decide +kernel)]; kernel_rfl) | (rw [if_neg (by decide +kernel)]; exact ⟨rfl, rfl⟩))
    (fun os started H enc _ => fnExactReqOk_lifted os started H enc)
#print axioms fnExactReqOk_holds
end Go.Proofs.Ytflccpoaacidgaa
