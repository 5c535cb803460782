/- Groups of the program answers as the model at every argument, leaves its argument as it was, and answers in memory of its own. No condition. -/
import Derived.Test.YtgaphgffchifcaaIGrpA
import Derived.Test.YtgaphgffchifcaaWordS
import Derived.Test.YtgaphgffchifcaaToI
import Derived.Test.YtgaphgffchifcaaOpenI
namespace Go.Proofs.Ytgaphgffchifcaa
open Go.ChangeShapes Go.WideShapes Go.ChangeAt Go.RowKit
set_option linter.unusedVariables false

set_option maxRecDepth 100000 in
set_option maxHeartbeats 2000000 in
theorem fnExactGroups_walk (A : Option Addr) (n c : Nat) (zs : List Int) (a1 : Int) (w : World) (h : RdK .i64 w w.heap.size A n zs) (hm : n ≤ maxLen) (hf : ∀ z ∈ zs, -9223372036854775808 ≤ z ∧ z < 9223372036854775808) (hw1 : (Lit.int .u32 a1).wf = true) :
    Calls Try.prog 11 #[.slice A n c, .int .u32 a1] w fun e w' => e = .returned (.bool true) ∧ Below w.heap.size w w' := by
  obtain ⟨X, rfl, hX⟩ := nat_of_wf hw1
  clear hw1
  by_cases hn : n ≤ 1048576
  · have H := Lib.hid h
    have hn' : ¬ (1048576 : Int) < (n : Int) := by omega
    have HS : Hid (∀ (g B : Nat) W, RdK .i64 W B (some ⟨g, 0, none⟩) n zs → B ≤ W.heap.size → Calls Try.prog 25 #[.slice (some ⟨g, 0, none⟩) n n, .int .u32 (X : Int)] W fun e w' => ∃ A' c', e = .returned (.slice A' (ints (groupsV n X zs)).length c') ∧ OwnK 24 .u32 w' W.heap.size A' (ints (groupsV n X zs)).length c' (ints (groupsV n X zs)) ∧ Below W.heap.size W w') := fun g B W h1 h2 => by rw [ints_len]; exact sGroups_any (some ⟨g, 0, none⟩) n n B X zs W h1 h2 hX
    have HI : Hid (∀ (g B : Nat) W, RdK .i64 W B (some ⟨g, 0, none⟩) n zs → B ≤ W.heap.size → Calls Try.prog 24 #[.slice (some ⟨g, 0, none⟩) n n, .int .u32 (X : Int)] W fun e w' => ∃ A' c', e = .returned (.slice A' (ints (groupsV n X zs)).length c') ∧ OwnK 24 .u32 w' W.heap.size A' (ints (groupsV n X zs)).length c' (ints (groupsV n X zs)) ∧ Below W.heap.size W w') := fun g B W h1 h2 => by rw [ints_len]; exact iGroups_any (some ⟨g, 0, none⟩) n n B X zs W h1 h2 hX hf
    have hl : (ints (groupsV n X zs)).length ≤ 32 := by rw [ints_len]; exact groupsV_len n X zs
    generalize ints (groupsV n X zs) = r at *
    generalize hrl : r.length = k at *
    clear h hm hf hX hrl
    go_enter Try.func11, Try.ntmps11
    go_wp2_with fail
    refine (toI_any A n c _ zs w H.out (Nat.le_refl _) hn).mono ?_
    rintro e w1 ⟨g1, rfl, ho1, hb1⟩
    have O1 := Lib.hid ho1
    have B1 := Lib.hid hb1
    have z1 := hb1.size
    clear ho1 hb1
    go_wp2_with fail
    refine (HS.out g1 _ w1 O1.out.rd (Nat.le_refl _)).mono ?_
    rintro e w2 ⟨A0, c0, rfl, ho0, hb2⟩
    have O0 := Lib.hid ho0
    have R0 := Lib.hid ho0.range
    have z2 := hb2.size
    have B2 : Hid (Below w.heap.size w w2) := B1.out.trans (hb2.mono z1)
    clear ho0 hb2 O1 B1
    go_wp2_with fail
    refine (toI_any A n c _ zs w2 (H.out.below B2.out) (by omega) hn).mono ?_
    rintro e w3 ⟨g3, rfl, ho3, hb3⟩
    have O3 := Lib.hid ho3
    have R3 := OwnK.range ho3 g3 rfl
    have O0b := Lib.hid (O0.out.below hb3)
    have z3 := hb3.size
    have B3 : Hid (Below w.heap.size w w3) := B2.out.trans (hb3.mono (by omega))
    clear ho3 hb3 B2 O0
    go_wp2_with fail
    refine (HI.out g3 _ w3 O3.out.rd (Nat.le_refl _)).mono ?_
    rintro e w4 ⟨A1, c1, rfl, ho4, hb4⟩
    have OG := Lib.hid ho4
    have RG := Lib.hid ho4.range
    have O0c := Lib.hid (O0b.out.below hb4)
    have O3b := Lib.hid (O3.out.below hb4)
    have z4 := hb4.size
    have B4 : Hid (Below w.heap.size w w4) := B3.out.trans (hb4.mono (by omega))
    have HE := Lib.hid (eqU_any A1 A0 k k c1 c0 _ _ r r w4 OG.out.rd O0c.out.rd (by unfold maxLen; omega) (by unfold maxLen; omega))
    rw [decide_eq_true rfl] at HE
    clear ho4 hb4 B3 O3 O0b
    go_wp2_with fail
    refine HE.out.mono ?_
    rintro e w5 ⟨rfl, k5, rfl⟩
    have OG5 : Hid (OwnK 24 .u32 (w4.drewN k5) w3.heap.size A1 k c1 r) := OG.out
    have O05 : Hid (OwnK 24 .u32 (w4.drewN k5) w1.heap.size A0 k c0 r) := O0c.out
    have O35 : Hid (OwnK 3 .i64 (w4.drewN k5) w2.heap.size (some ⟨g3, 0, none⟩) n n zs) := O3b.out
    have B5 : Hid (Below w.heap.size w (w4.drewN k5)) := ⟨B4.out.os, B4.out.tape, B4.out.output, B4.out.size, B4.out.block⟩
    have z5 : (w4.drewN k5).heap.size = w4.heap.size := rfl
    clear HE OG O0c O3b B4
    generalize w4.drewN k5 = w5 at *
    go_wp2_with fail
    refine (toI_any A n c _ zs w5 (H.out.below B5.out) (by omega) hn).mono ?_
    rintro e w6 ⟨g6, rfl, ho6, hb6⟩
    have O6 := Lib.hid ho6
    have OG6 := Lib.hid (OG5.out.below hb6)
    have O06 := Lib.hid (O05.out.below hb6)
    have O36 := Lib.hid (O35.out.below hb6)
    have z6 := hb6.size
    have B6 : Hid (Below w.heap.size w w6) := B5.out.trans (hb6.mono (by omega))
    have HE := Lib.hid (eqI_any (some ⟨g3, 0, none⟩) (some ⟨g6, 0, none⟩) n n n n _ _ zs zs w6 O36.out.rd O6.out.rd (by unfold maxLen; omega) (by unfold maxLen; omega))
    rw [decide_eq_true rfl] at HE
    clear ho6 hb6 OG5 O05 O35 B5
    go_wp2_with fail
    refine HE.out.mono ?_
    rintro e w7 ⟨rfl, k7, rfl⟩
    have OG7 : Hid (OwnK 24 .u32 (w6.drewN k7) w3.heap.size A1 k c1 r) := OG6.out
    have O07 : Hid (OwnK 24 .u32 (w6.drewN k7) w1.heap.size A0 k c0 r) := O06.out
    have O37 : Hid (OwnK 3 .i64 (w6.drewN k7) w2.heap.size (some ⟨g3, 0, none⟩) n n zs) := O36.out
    have B7 : Hid (Below w.heap.size w (w6.drewN k7)) := ⟨B6.out.os, B6.out.tape, B6.out.output, B6.out.size, B6.out.block⟩
    have z7 : (w6.drewN k7).heap.size = w6.heap.size := rfl
    clear HE OG6 O06 O36 B6 O6
    generalize w6.drewN k7 = w7 at *
    go_wp2_with fail
    refine (markS_any (some ⟨g3, 0, none⟩) n n _ zs w7 O37.out (by omega)).mono ?_
    rintro e w8 ⟨rfl, ho8, hg8⟩
    have OG8 : Hid (OwnK 24 .u32 w8 w3.heap.size A1 k c1 r) := OG7.out.far hg8 (fun g hg e => by
      have h1 := RG.out g hg
      have h2 : g3 = g := by injection e
      omega)
    have O08 : Hid (OwnK 24 .u32 w8 w1.heap.size A0 k c0 r) := O07.out.far hg8 (fun g hg e => by
      have h1 := R0.out g hg
      have h2 : g3 = g := by injection e
      omega)
    have z8 := hg8.size
    have B8 : Hid (Below w.heap.size w w8) := B7.out.grown hg8 (by omega) (fun g hg => by
      have h2 : g3 = g := by injection hg
      omega)
    have hq : ¬ (1 : Int) + (n : Int) < 0 := by omega
    have HE := Lib.hid (eqU_any A1 A0 k k c1 c0 _ _ r r w8 OG8.out.rd O08.out.rd (by unfold maxLen; omega) (by unfold maxLen; omega))
    rw [decide_eq_true rfl] at HE
    clear ho8 hg8 OG7 O07 O37 B7
    go_wp2_with fail
    refine HE.out.mono ?_
    rintro e w9 ⟨rfl, k9, rfl⟩
    have OG9 : Hid (OwnK 24 .u32 (w8.drewN k9) w3.heap.size A1 k c1 r) := OG8.out
    have O09 : Hid (OwnK 24 .u32 (w8.drewN k9) w1.heap.size A0 k c0 r) := O08.out
    have B9 : Hid (Below w.heap.size w (w8.drewN k9)) := ⟨B8.out.os, B8.out.tape, B8.out.output, B8.out.size, B8.out.block⟩
    have z9 : (w8.drewN k9).heap.size = w8.heap.size := rfl
    clear HE OG8 O08 B8
    generalize w8.drewN k9 = w9 at *
    go_wp2_with fail
    refine (markU_any A1 k c1 _ r w9 OG9.out (by omega)).mono ?_
    rintro e w10 ⟨rfl, ho10, hg10⟩
    have OG10 := Lib.hid ho10
    have RG10 := Lib.hid OG9.out.range
    have O010 : Hid (OwnK 24 .u32 w10 w1.heap.size A0 k c0 r) := O09.out.far hg10 (fun g hg e => by
      have h1 := R0.out g hg
      have h2 := RG10.out g e
      omega)
    have z10 := hg10.size
    have B10 : Hid (Below w.heap.size w w10) := B9.out.grown hg10 (by omega) (fun g hg => by have := RG10.out g hg; omega)
    have HH := Lib.hid (heldU_any A1 k c1 _ w10 OG10.out.rd (by omega))
    clear ho10 hg10 OG9 O09 B9
    go_wp2_with fail
    refine HH.out.mono ?_
    rintro e w11 ⟨rfl, rfl⟩
    have hq2 : ¬ (1 : Int) + (k : Int) < 0 := by omega
    clear HH
    have HT := Lib.hid (toI_any A n c _ zs w10 (H.out.below B10.out) (by omega) hn)
    go_wp2_with fail
    refine HT.out.mono ?_
    rintro e w12 ⟨g12, rfl, ho12, hb12⟩
    have O12 := Lib.hid ho12
    have OG12 := Lib.hid (OG10.out.below hb12)
    have O012 := Lib.hid (O010.out.below hb12)
    have z12 := hb12.size
    have B12 : Hid (Below w.heap.size w w12) := B10.out.trans (hb12.mono (by omega))
    clear ho12 hb12 OG10 O010 B10 HT
    go_wp2_with fail
    refine (HI.out g12 _ w12 O12.out.rd (Nat.le_refl _)).mono ?_
    rintro e w13 ⟨A2, c2, rfl, ho13, hb13⟩
    have O2 := Lib.hid ho13
    have OG13 := Lib.hid (OG12.out.below hb13)
    have O013 := Lib.hid (O012.out.below hb13)
    have B13 : Hid (Below w.heap.size w w13) := B12.out.trans (hb13.mono (by omega))
    have HE := Lib.hid (eqU_any A2 A0 k k c2 c0 _ _ r r w13 O2.out.rd O013.out.rd (by unfold maxLen; omega) (by unfold maxLen; omega))
    rw [decide_eq_true rfl] at HE
    clear ho13 hb13 OG12 O012 B12 O12
    go_wp2_with fail
    refine HE.out.mono ?_
    rintro e w14 ⟨rfl, k14, rfl⟩
    have OG14 : Hid (OwnK 24 .u32 (w13.drewN k14) w3.heap.size A1 k c1 (marks k)) := OG13.out
    have B14 : Hid (Below w.heap.size w (w13.drewN k14)) := ⟨B13.out.os, B13.out.tape, B13.out.output, B13.out.size, B13.out.block⟩
    clear HE O2 OG13 O013 B13
    generalize w13.drewN k14 = w14 at *
    have HH := Lib.hid (heldU_any A1 k c1 _ w14 OG14.out.rd (by omega))
    go_wp2_with fail
    refine HH.out.mono ?_
    rintro e w15 ⟨rfl, rfl⟩
    clear HH
    go_wp2
    go_ret
    exact ⟨rfl, B14.out⟩
  · have hn' : (1048576 : Int) < (n : Int) := by omega
    clear h
    go_enter Try.func11, Try.ntmps11
    go_wp2
    go_ret
    exact ⟨rfl, Below.refl _ _⟩

set_option maxRecDepth 100000 in
theorem fnExactGroups_lifted (os : Os) (started : os.Started) (H : Type) (enc : TypeId × Value → H) :
    ReturnsInHanded {} Try.checked os 11 .any (Rows.fnExactGroupsSpec.pre6 enc Try.prog Try.f11 Rows.fnExactGroupsRow.domain false) (Rows.fnExactGroupsSpec.post enc Try.prog Try.f11 false true false false) := by
  refine returnsInHanded_of_change (C := Try.checked) own started (by kernel_rfl) Try.func11
    (ChangeSpec.witness6 (enc := enc) (C := Try.checked) false ⟨#[], #[.slice none 0 0, .int .u32 0], []⟩ 8 (by kernel_rfl) (by kernel_rfl) (by kernel_rfl) (by kernel_rfl)) ?_
  intro W base args ds gs before hval0 hW hcnd _
  have hval : ∀ (j : Nat) t v, Try.f11.params[j]? = some t → args[j]? = some v → Value.okWide Try.prog W .any base t v := hval0
  have hW' := hW
  obtain ⟨p, q, hA0, hV, rfl, hfz, hnd⟩ := hW
  have hA : DataW.TrodAll enc Try.prog W 0 (fun _ => true) true Try.f11.params.toList args.toList ds p := hA0
  rw [Try.params11] at hA hval
  obtain ⟨v0, vs0, d0, ds0, p0, q0, hargs, rfl, rfl, h0, r0⟩ := trodAll_cons hA
  obtain ⟨v1, vs1, d1, ds1, p1, q1, rfl, rfl, rfl, h1, r1⟩ := trodAll_cons r0
  obtain ⟨rfl, rfl, rfl⟩ := trodAll_nil r1
  obtain rfl : args = #[v0, v1] := by cases args; simp_all
  obtain ⟨rfl, rfl⟩ := trodVars_none hV
  have k0 := h0
  have lt0 : ∀ x ∈ p0, x.block < W.heap.size := by obtain ⟨m, hm⟩ := k0; exact DataW.trod_lt m _ _ _ hm
  obtain ⟨A0, n0, c0, z0, rfl, m0, rd0, f0⟩ := open_intS (hval 0 33 v0 rfl rfl) h0
  obtain ⟨a1, rfl, rfl, rfl, w1⟩ := open_int Try.underlying24 (hval 1 24 v1 rfl rfl) h1
  clear hA0 hval0
  refine (fnExactGroups_walk A0 n0 c0 z0 a1 W rd0 m0 f0 w1).mono fun e W' ⟨he, bel⟩ => ?_
  subst he
  exact ⟨_, rfl, _, _, _, [], _, [], hW', trodAll_mk1 (shut_bool Try.underlying4 _), (trodAll_cons_mk (Below.trod laidOut (by kernel_rfl) (of_decide_eq_true (by kernel_rfl)) k0 bel lt0) (trodAll_cons_mk (shut_int Try.underlying24 w1) (trodAll_mk0))), rfl, bel.frame _, fun h => by cases h⟩

/-- The given statement: for every input the law returns true, and its arguments read as before. -/
theorem fnExactGroups_holds : Rows.FnExactGroupsSaid :=
  OpenClaim.holds_of_wide 11 Try.f11 rfl rfl rfl rfl rfl rfl rfl ⟨rfl, rfl, rfl, rfl, rfl⟩ rfl rfl rfl rfl rfl (by kernel_rfl) Try.func11 (by kernel_rfl)
    (of_decide_eq_true (by kernel_rfl)) (by unfold Func.isWrapper; first | (rw [if_pos (by decide +kernel)]; kernel_rfl) | (rw [if_neg (by decide +kernel)]; exact ⟨rfl, rfl⟩))
    (fun os started H enc _ => fnExactGroups_lifted os started H enc)
#print axioms fnExactGroups_holds
end Go.Proofs.Ytgaphgffchifcaa
