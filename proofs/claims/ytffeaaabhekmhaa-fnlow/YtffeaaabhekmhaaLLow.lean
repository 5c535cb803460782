/- FnLow: the selected lowest bits belong to the word, are as many as requested, and no lower one is left out; the free bits do not belong to it. Proved for every code. No condition. -/
import Derived.Test.YtffeaaabhekmhaaOnes
import Derived.Test.YtffeaaabhekmhaaILow
import Derived.Test.YtffeaaabhekmhaaBList
import Derived.Test.YtffeaaabhekmhaaLawMath
import Derived.Test.YtffeaaabhekmhaaDrawFree
import Derived.Test.YtffeaaabhekmhaaOpenY
namespace Go.Proofs.Ytffeaaabhekmhaa
open Go.ChangeShapes Go.WideShapes Go.ChangeAt Go.RowKit
set_option linter.unusedVariables false

theorem take_at {L : List Nat} {m k : Nat} (h : k < (L.take m).length) : (ints (L.take m))[k]?.getD 0 = (ints L)[k]?.getD 0 := by
  have h1 : k < L.length := by rw [List.length_take] at h; omega
  rw [ints_at _ h, ints_at _ h1, List.getElem_take]
theorem drewN_below {B : Nat} {w w' : World} (h : Below B w w') (q : Nat) : Below B w (w'.drewN q) := ⟨h.os, h.tape, h.output, h.size, h.block⟩

theorem later_rd {kd : IntKind} {w w' : World} {B n : Nat} {A : Option Addr} {zs : List Int} (h : RdK kd w w.heap.size A n zs) (hb : Below B w w') (hB : w.heap.size ≤ B) : RdK kd w' w.heap.size A n zs := h.keep fun _ hp => hb.cell (by omega)

set_option maxRecDepth 100000 in
set_option maxHeartbeats 4000000 in
theorem fnLow_walk (A : Option Addr) (n c : Nat) (bs : List Int) (w0 : World) (h : RdK .u8 w0 w0.heap.size A n bs) (hm0 : n ≤ maxLen) (hf : ∀ z ∈ bs, 0 ≤ z ∧ z < 256) :
    Calls Try.prog 4 #[.slice A n c] w0 fun e w' => e = .returned (.bool true) ∧ Below w0.heap.size w0 w' := by
  have H := Lib.hid h
  have HF := Lib.hid hf
  clear h hf
  by_cases hn' : n ≤ 1048576
  · have hn : ¬ (1048576 : Int) < (n : Int) := by omega
    go_enter Try.func4, Try.ntmps4
    go_wp2_with fail
    refine (big_any A n c w0).mono ?_
    rintro e w1 ⟨rfl, rfl⟩
    go_wp2_with fail
    refine (drawFreeLow A n c bs w0 H.out HF.out hn').mono ?_
    rintro e w1 ⟨X, wd, N, rfl, hX, hwd, hN, hb1⟩
    have HX := Lib.hid hX
    have HB := Lib.hid hb1
    have z1 := hb1.size
    have hNb := int_of_wf hN
    have hwb := int_of_wf hwd
    -- the two words and what is known of them
    have CF : Hid (∀ W, Calls Try.prog 24 #[.int .u32 (X : Int), .int .i64 wd, .int .i64 N] W fun e w' => e = .returned (.int .u32 ((orL ((onesTo (freeV X wd) 32).take N.toNat) : Nat) : Int)) ∧ Below W.heap.size W w') := fun W => freeLow_any X wd N W hX hNb.1 hNb.2
    have CT : Hid (∀ W, Calls Try.prog 22 #[.int .u32 (X : Int), .int .i64 N] W fun e w' => e = .returned (.int .u32 ((orL ((onesTo X 32).take N.toNat) : Nat) : Int)) ∧ Below W.heap.size W w') := fun W => takeLow_any X N W hX hNb.1 hNb.2
    have SF : Hid (∀ W, Calls Try.prog 25 #[.int .u32 (X : Int), .int .i64 wd, .int .i64 N] W fun e w' => e = .returned (.int .u32 ((orL ((onesTo (freeV X wd) 32).take N.toNat) : Nat) : Int)) ∧ Below W.heap.size W w') := fun W => sFreeLow_any X wd N W hX
    have ST : Hid (∀ W, Calls Try.prog 26 #[.int .u32 (X : Int), .int .i64 N] W fun e w' => e = .returned (.int .u32 ((orL ((onesTo X 32).take N.toNat) : Nat) : Int)) ∧ Below W.heap.size W w') := fun W => sTakeLow_any X N W hX
    have hF0 := orL_lt (ones_take_lt (freeV X wd) N.toNat)
    have hT0 := orL_lt (ones_take_lt X N.toNat)
    have aF : bits .and .u32 ((orL ((onesTo (freeV X wd) 32).take N.toNat) : Nat) : Int) (X : Int) = 0 := by rw [u32_and_nat _ _ hF0 hX, free_and hX]; rfl
    have aT : bits .and .u32 ((orL ((onesTo X 32).take N.toNat) : Nat) : Int) (X : Int) = ((orL ((onesTo X 32).take N.toNat) : Nat) : Int) := by rw [u32_and_nat _ _ hT0 hX, take_and]
    have CH : Hid (∀ W, Calls Try.prog 21 #[.int .u32 ((orL ((onesTo (freeV X wd) 32).take N.toNat) : Nat) : Int)] W fun e w' => e = .returned (.int .i64 (highOf (onesTo (orL ((onesTo (freeV X wd) 32).take N.toNat)) 32))) ∧ Below W.heap.size W w') := fun W => highest_any _ W hF0
    have hH := high_free (n := N.toNat) (wd := wd) hX
    have CO : Hid (∀ W, Calls Try.prog 19 #[.int .u32 ((orL ((onesTo (freeV X wd) 32).take N.toNat) : Nat) : Int)] W fun e w' => e = .returned (.int .i64 ((onesTo (orL ((onesTo (freeV X wd) 32).take N.toNat)) 32).length : Int)) ∧ Below W.heap.size W w') := fun W => ones_any _ W hF0
    have HNone := Lib.hid (fun h => free_none (X := X) (wd := wd) (N := N) h)
    have HLen := Lib.hid (fun (hw : IsWidth wd) (h : 0 ≤ N) => free_len (N := N) hX hw h)
    have CA : Hid (∀ W, Calls Try.prog 17 #[.int .u32 (X : Int)] W fun e w' => ∃ A c, e = .returned (.slice A (onesTo X 32).length c) ∧ OwnK 3 .i64 w' W.heap.size A (onesTo X 32).length c (ints (onesTo X 32)) ∧ Below W.heap.size W w') := fun W => bitList_any X W hX
    have CM : Hid (∀ W, Calls Try.prog 17 #[.int .u32 ((orL ((onesTo X 32).take N.toNat) : Nat) : Int)] W fun e w' => ∃ A c, e = .returned (.slice A ((onesTo X 32).take N.toNat).length c) ∧ OwnK 3 .i64 w' W.heap.size A ((onesTo X 32).take N.toNat).length c (ints ((onesTo X 32).take N.toNat)) ∧ Below W.heap.size W w') := fun W => by
      have := bitList_any _ W hT0
      rw [ones_take] at this
      exact this
    have hL := onesTo_len X 32
    generalize orL ((onesTo (freeV X wd) 32).take N.toNat) = F0 at *
    generalize orL ((onesTo X 32).take N.toNat) = T0 at *
    generalize highOf (onesTo F0 32) = hi at *
    have ho := onesTo_len F0 32
    generalize (onesTo F0 32).length = oF at *
    generalize onesTo X 32 = L at *
    have hM : ((L.take N.toNat).length : Int) = if N < 0 then 0 else if (L.length : Int) < N then (L.length : Int) else N := by
      rw [List.length_take]
      split
      · omega
      · split <;> omega
    have HM := Lib.hid hM
    clear hX hb1 H HF hN hwd hF0 hT0 hM
    go_wp2_with fail
    refine (CF.out _).mono ?_
    rintro e w2 ⟨rfl, hb2⟩
    have z2 := hb2.size
    have B2 : Hid (Below w0.heap.size w0 w2) := HB.out.trans (hb2.mono z1)
    clear hb2 HB CF
    go_wp2_with fail
    refine (CT.out _).mono ?_
    rintro e w3 ⟨rfl, hb3⟩
    have z3 := hb3.size
    have B3 : Hid (Below w0.heap.size w0 w3) := B2.out.trans (hb3.mono (by omega))
    clear hb3 B2 CT
    go_wp2_with fail
    refine (SF.out _).mono ?_
    rintro e w4 ⟨rfl, hb4⟩
    have z4 := hb4.size
    have B4 : Hid (Below w0.heap.size w0 w4) := B3.out.trans (hb4.mono (by omega))
    clear hb4 B3 SF
    go_wp2_with fail
    refine (ST.out _).mono ?_
    rintro e w5 ⟨rfl, hb5⟩
    have z5 := hb5.size
    have B5 : Hid (Below w0.heap.size w0 w5) := B4.out.trans (hb5.mono (by omega))
    clear hb5 B4 ST
    go_wp2_with fail
    refine (CH.out _).mono ?_
    rintro e w6 ⟨rfl, hb6⟩
    have z6 := hb6.size
    have B6 : Hid (Below w0.heap.size w0 w6) := B5.out.trans (hb6.mono (by omega))
    clear hb6 B5 CH
    have HT := Lib.hid (fun k => take_at (L := L) (m := N.toNat) (k := k))
    have hTL : (L.take N.toNat).length ≤ L.length := by rw [List.length_take]; omega
    generalize L.take N.toNat = M at *
    have hcase : (wd < 0 ∧ ¬ 0 ≤ hi) ∨ (¬ wd < 0 ∧ ¬ wd ≤ hi) := by
      by_cases h0 : wd < 0
      · exact .inl ⟨h0, by omega⟩
      · exact .inr ⟨h0, by omega⟩
    clear hH
    rcases hcase with ⟨d1, d2⟩ | ⟨d1, d2⟩
    · go_wp2_with fail
      refine (CA.out _).mono ?_
      rintro e w7 ⟨A7, c7, rfl, ho7, hb7⟩
      have z7 := hb7.size
      have O7 := Lib.hid ho7
      have B7 : Hid (Below w0.heap.size w0 w7) := B6.out.trans (hb7.mono (by omega))
      clear hb7 ho7 B6 CA
      go_wp2_with fail
      refine (CM.out _).mono ?_
      rintro e w8 ⟨A8, c8, rfl, ho8, hb8⟩
      have z8 := hb8.size
      have R7 := Lib.hid (O7.out.below hb8).rd
      have R8 := Lib.hid ho8.rd
      have B8 : Hid (Below w0.heap.size w0 w8) := B7.out.trans (hb8.mono (by omega))
      clear hb8 ho8 B7 O7 CM
      go_wp2
      go_loopw [10] (fun i wr => ∃ k : Nat, k ≤ M.length ∧ i = .int .i64 k ∧ ∃ q, wr = w8.drewN q) (fun i _ => M.length - (intOf i).toNat)
      case atStart => exact ⟨0, Nat.zero_le _, rfl, 0, rfl⟩
      case round =>
        obtain ⟨k, hk, rfl, q, rfl⟩ := hrel
        by_cases hlt : k < M.length
        · obtain ⟨g7, o7, rfl, _, hc7⟩ := R7.out.2 (by omega)
          obtain ⟨g8, o8, rfl, _, hc8⟩ := R8.out.2 (by omega)
          have c1 := hc7 k (by omega)
          have c2 := hc8 k hlt
          rw [HT.out k hlt] at c2
          clear hc7 hc8
          generalize (ints L)[k]?.getD 0 = z at *
          have hb : (z != z) = false := by simp
          go_wp2
          go_quiet (fail)
          go_wp2
          go_roundw
          case rel => exact ⟨k + 1, by omega, by go_num, _, rfl⟩
          case measure => simp [intOf]; omega
        · have B9 : Hid (Below w0.heap.size w0 (w8.drewN q)) := drewN_below B8.out q
          have z9 : w0.heap.size ≤ (w8.drewN q).heap.size := B9.out.size
          generalize w8.drewN q = w9 at *
          clear R7 R8 B8 HT
          have F0z := HNone.out (.inl (fun hw => by unfold IsWidth at hw; omega))
          subst F0z
          go_wp2
          go_ret
          exact ⟨rfl, B9.out⟩
    · go_wp2_with fail
      refine (CA.out _).mono ?_
      rintro e w7 ⟨A7, c7, rfl, ho7, hb7⟩
      have z7 := hb7.size
      have O7 := Lib.hid ho7
      have B7 : Hid (Below w0.heap.size w0 w7) := B6.out.trans (hb7.mono (by omega))
      clear hb7 ho7 B6 CA
      go_wp2_with fail
      refine (CM.out _).mono ?_
      rintro e w8 ⟨A8, c8, rfl, ho8, hb8⟩
      have z8 := hb8.size
      have R7 := Lib.hid (O7.out.below hb8).rd
      have R8 := Lib.hid ho8.rd
      have B8 : Hid (Below w0.heap.size w0 w8) := B7.out.trans (hb8.mono (by omega))
      clear hb8 ho8 B7 O7 CM
      go_wp2
      go_loopw [10] (fun i wr => ∃ k : Nat, k ≤ M.length ∧ i = .int .i64 k ∧ ∃ q, wr = w8.drewN q) (fun i _ => M.length - (intOf i).toNat)
      case atStart => exact ⟨0, Nat.zero_le _, rfl, 0, rfl⟩
      case round =>
        obtain ⟨k, hk, rfl, q, rfl⟩ := hrel
        by_cases hlt : k < M.length
        · obtain ⟨g7, o7, rfl, _, hc7⟩ := R7.out.2 (by omega)
          obtain ⟨g8, o8, rfl, _, hc8⟩ := R8.out.2 (by omega)
          have c1 := hc7 k (by omega)
          have c2 := hc8 k hlt
          rw [HT.out k hlt] at c2
          clear hc7 hc8
          generalize (ints L)[k]?.getD 0 = z at *
          have hb : (z != z) = false := by simp
          go_wp2
          go_quiet (fail)
          go_wp2
          go_roundw
          case rel => exact ⟨k + 1, by omega, by go_num, _, rfl⟩
          case measure => simp [intOf]; omega
        · have B9 : Hid (Below w0.heap.size w0 (w8.drewN q)) := drewN_below B8.out q
          have z9 : w0.heap.size ≤ (w8.drewN q).heap.size := B9.out.size
          generalize w8.drewN q = w9 at *
          clear R7 R8 B8 HT
          by_cases hv : ¬ IsWidth wd ∨ N < 0
          · have F0z := HNone.out hv
            subst F0z
            by_cases e2 : 32 < wd
            · clear hv
              go_wp2
              go_ret
              exact ⟨rfl, B9.out⟩
            · have e3 : N < 0 := by
                rcases hv with hv | hv
                · exact absurd (show IsWidth wd from ⟨by omega, by omega⟩) hv
                · exact hv
              clear hv
              go_wp2
              go_ret
              exact ⟨rfl, B9.out⟩
          · have hw : IsWidth wd := by
              by_cases hw : IsWidth wd
              · exact hw
              · exact absurd (.inl hw) hv
            have hN0 : 0 ≤ N := by
              by_cases h0 : N < 0
              · exact absurd (.inr h0) hv
              · omega
            have e5 := HLen.out hw hN0
            have ha : bits .and .u32 (X : Int) (maskV wd : Int) = ((X &&& maskV wd : Nat) : Int) := u32_and_nat _ _ HX.out (maskV_lt wd)
            have C2 : Hid (∀ W, Calls Try.prog 19 #[.int .u32 (bits .and .u32 (X : Int) (maskV wd : Int))] W fun e w' => e = .returned (.int .i64 ((onesTo (X &&& maskV wd) 32).length : Int)) ∧ Below W.heap.size W w') := fun W => by
              rw [ha]
              exact ones_any _ W (Nat.lt_of_le_of_lt Nat.and_le_left HX.out)
            have hb2 := onesTo_len (X &&& maskV wd) 32
            generalize (onesTo (X &&& maskV wd) 32).length = oM at *
            have hw' := hw
            unfold IsWidth at hw'
            clear HNone HLen hv ha hw
            have e6 : ¬ wd < 0 := by omega
            have e7 : ¬ 32 < wd := by omega
            have e8 : ¬ N < 0 := by omega
            have hM := HM.out
            rw [if_neg e8] at hM
            have HM2 := Lib.hid hM
            have E5 := Lib.hid e5
            clear hM HM e5
            go_wp2_with fail
            refine (CO.out _).mono ?_
            rintro e wa ⟨rfl, hba⟩
            have za := hba.size
            have Ba : Hid (Below w0.heap.size w0 wa) := B9.out.trans (hba.mono z9)
            clear hba B9 CO
            go_wp2_with fail
            refine (maskOf_any wd wa).mono ?_
            rintro e wb ⟨rfl, rfl⟩
            go_wp2_with fail
            refine (C2.out _).mono ?_
            rintro e wc ⟨rfl, hbc⟩
            have Bc : Hid (Below w0.heap.size w0 wc) := Ba.out.trans (hbc.mono (by omega))
            clear hbc Ba C2
            by_cases m1 : wd - (oM : Int) < N
            · have q1 : (oF : Int) = wd - (oM : Int) := by have := E5.out; omega
              by_cases m2 : (L.length : Int) < N
              · have q2 : (M.length : Int) = (L.length : Int) := by have := HM2.out; rw [if_pos m2] at this; exact this
                clear E5 HM2
                go_wp2
                go_ret
                exact ⟨rfl, Bc.out⟩
              · have q2 : (M.length : Int) = N := by have := HM2.out; rw [if_neg m2] at this; exact this
                clear E5 HM2
                go_wp2
                go_ret
                exact ⟨rfl, Bc.out⟩
            · have q1 : (oF : Int) = N := by have := E5.out; omega
              by_cases m2 : (L.length : Int) < N
              · have q2 : (M.length : Int) = (L.length : Int) := by have := HM2.out; rw [if_pos m2] at this; exact this
                clear E5 HM2
                go_wp2
                go_ret
                exact ⟨rfl, Bc.out⟩
              · have q2 : (M.length : Int) = N := by have := HM2.out; rw [if_neg m2] at this; exact this
                clear E5 HM2
                go_wp2
                go_ret
                exact ⟨rfl, Bc.out⟩
  · have hn : (1048576 : Int) < (n : Int) := by omega
    clear H HF
    go_enter Try.func4, Try.ntmps4
    go_wp2_with fail
    refine (big_any A n c w0).mono ?_
    rintro e w1 ⟨rfl, rfl⟩
    go_wp2
    go_ret
    exact ⟨rfl, Below.refl _ _⟩

set_option maxRecDepth 100000 in
theorem fnLow_lifted (os : Os) (started : os.Started) (H : Type) (enc : TypeId × Value → H) :
    ReturnsInHanded {} Try.checked os 4 .any (Rows.fnLowSpec.pre6 enc Try.prog Try.f4 Rows.fnLowRow.domain false) (Rows.fnLowSpec.post enc Try.prog Try.f4 false true false false) := by
  refine returnsInHanded_of_change (C := Try.checked) own started (by kernel_rfl) Try.func4
    (ChangeSpec.witness6 (enc := enc) (C := Try.checked) false ⟨#[], #[.slice none 0 0], []⟩ 8 (by kernel_rfl) (by kernel_rfl) (by kernel_rfl) (by kernel_rfl)) ?_
  intro W base args ds gs before hval0 hW hcnd _
  have hval : ∀ (j : Nat) t v, Try.f4.params[j]? = some t → args[j]? = some v → Value.okWide Try.prog W .any base t v := hval0
  have hW' := hW
  obtain ⟨p, q, hA0, hV, rfl, hfz, hnd⟩ := hW
  have hA : DataW.TrodAll enc Try.prog W 0 (fun _ => true) true Try.f4.params.toList args.toList ds p := hA0
  rw [Try.params4] at hA hval
  obtain ⟨v0, vs0, d0, ds0, p0, q0, hargs, rfl, rfl, h0, r0⟩ := trodAll_cons hA
  obtain ⟨rfl, rfl, rfl⟩ := trodAll_nil r0
  obtain rfl : args = #[v0] := by cases args; simp_all
  obtain ⟨rfl, rfl⟩ := trodVars_none hV
  have k0 := h0
  have lt0 : ∀ x ∈ p0, x.block < W.heap.size := by obtain ⟨m, hm⟩ := k0; exact DataW.trod_lt m _ _ _ hm
  obtain ⟨A0, n0, c0, z0, rfl, m0, rd0, f0⟩ := open_bytes (hval 0 22 v0 rfl rfl) h0
  clear hA0 hval0
  refine (fnLow_walk A0 n0 c0 z0 W rd0 m0 f0).mono fun e W' ⟨he, bel⟩ => ?_
  subst he
  exact ⟨_, rfl, _, _, _, [], _, [], hW', trodAll_mk1 (shut_bool Try.underlying4 _), (trodAll_cons_mk (Below.trod laidOut (by kernel_rfl) (of_decide_eq_true (by kernel_rfl)) k0 bel lt0) (trodAll_mk0)), rfl, bel.frame _, fun h => by cases h⟩

/-- The given statement: for every input the law returns true, and its arguments read as before. -/
theorem fnLow_holds : Rows.FnLowSaid :=
  OpenClaim.holds_of_wide 4 Try.f4 rfl rfl rfl rfl rfl rfl rfl ⟨rfl, rfl, rfl, rfl, rfl⟩ rfl rfl rfl rfl rfl (by kernel_rfl) Try.func4 (by kernel_rfl)
    (of_decide_eq_true (by kernel_rfl)) (by unfold Func.isWrapper; first | (rw [if_pos (by decide +kernel)]; kernel_rfl) | (rw [if_neg (by decide +kernel)]; exact ⟨rfl, rfl⟩))
    (fun os started H enc _ => fnLow_lifted os started H enc)
#print axioms fnLow_holds
end Go.Proofs.Ytffeaaabhekmhaa
