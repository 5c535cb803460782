/- FnBitsBack: a word is determined by its bits; their number is Ones, from Lowest to Highest. Proved for every code. No condition. -/
import Derived.Test.YtffeaaabhekmhaaOnes
import Derived.Test.YtffeaaabhekmhaaILow
import Derived.Test.YtffeaaabhekmhaaBList
import Derived.Test.YtffeaaabhekmhaaLawMath
import Derived.Test.YtffeaaabhekmhaaDrawB
import Derived.Test.YtffeaaabhekmhaaOpenY
import Derived.Deep.RegionHeld3
namespace Go.Proofs.Ytffeaaabhekmhaa
open Go.ChangeShapes Go.WideShapes Go.ChangeAt Go.RowKit
set_option linter.unusedVariables false

theorem later_row {w w' : World} {g k : Nat} {v : Value} {B : Nat} (hb : Below B w w') (h : w.cell? ⟨g, k, none⟩ = some v) (hg : g < B) : w'.cell? ⟨g, k, none⟩ = some v := (hb.cell (p := ⟨g, k, none⟩) hg).trans h

set_option maxRecDepth 100000 in
set_option maxHeartbeats 4000000 in
theorem fnBitsBack_walk (A : Option Addr) (n c : Nat) (bs : List Int) (w0 : World) (h : RdK .u8 w0 w0.heap.size A n bs) (hm0 : n ≤ maxLen) (hf : ∀ z ∈ bs, 0 ≤ z ∧ z < 256) :
    Calls Try.prog 3 #[.slice A n c] w0 fun e w' => e = .returned (.bool true) ∧ Below w0.heap.size w0 w' := by
  have H := Lib.hid h
  have HF := Lib.hid hf
  clear h hf
  by_cases hn' : n ≤ 1048576
  · have hn : ¬ (1048576 : Int) < (n : Int) := by omega
    go_enter Try.func3, Try.ntmps3
    go_wp2_with fail
    refine (big_any A n c w0).mono ?_
    rintro e w1 ⟨rfl, rfl⟩
    go_wp2_with fail
    refine (drawBitList A n c bs w0 H.out HF.out hn').mono ?_
    rintro e w1 ⟨X, rfl, hX, hb1⟩
    have HX := Lib.hid hX
    have B1 := Lib.hid hb1
    have z1 := hb1.size
    have hl := onesTo_len X 32
    have OF := ofA_ones hX
    have HT1 := Lib.hid (fun h => ones_one (X := X) h)
    clear hX hb1 H HF
    go_wp2_with fail
    refine (bitList_any X _ HX.out).mono ?_
    rintro e w2 ⟨A2, c2, rfl, ho2, hb2⟩
    have O2 := Lib.hid ho2
    have z2 := hb2.size
    have B2 : Hid (Below w0.heap.size w0 w2) := B1.out.trans (hb2.mono z1)
    have CO := bitsOf_any A2 _ c2 _ _ w2 ho2.rd (by omega)
    rw [OF.1, OF.2] at CO
    have HC := Lib.hid CO
    clear ho2 hb2 CO OF B1
    go_wp2_with fail
    refine HC.out.mono ?_
    rintro e w3 ⟨rfl, rfl⟩
    clear HC
    go_wp2_with fail
    refine (ones_any X _ HX.out).mono ?_
    rintro e w4 ⟨rfl, hb4⟩
    have O4 := Lib.hid (O2.out.below hb4)
    have z4 := hb4.size
    have B4 : Hid (Below w0.heap.size w0 w4) := B2.out.trans (hb4.mono (by omega))
    have HL : Hid (∀ W, Calls Try.prog 20 #[.int .u32 (X : Int)] W fun e w' => e = .returned (.int .i64 (lowOf (onesTo X 32))) ∧ Below W.heap.size W w') := fun W => lowest_any X W HX.out
    have HH : Hid (∀ W, Calls Try.prog 21 #[.int .u32 (X : Int)] W fun e w' => e = .returned (.int .i64 (highOf (onesTo X 32))) ∧ Below W.heap.size W w') := fun W => highest_any X W HX.out
    have HA : Hid (∀ W, Calls Try.prog 22 #[.int .u32 (X : Int), .int .i64 32] W fun e w' => e = .returned (.int .u32 (X : Int)) ∧ Below W.heap.size W w') := fun W => by
      have := takeLow_any X 32 W HX.out (by omega) (by omega)
      rw [show (32 : Int).toNat = 32 from rfl, take_all HX.out] at this
      exact this
    obtain ⟨Y, hY, HB, HO⟩ : ∃ Y : Nat, Y < 4294967296 ∧ Hid (∀ W, Calls Try.prog 22 #[.int .u32 (X : Int), .int .i64 1] W fun e w' => e = .returned (.int .u32 (Y : Int)) ∧ Below W.heap.size W w') ∧ Hid (0 < (onesTo X 32).length → ∀ W, Calls Try.prog 19 #[.int .u32 (Y : Int)] W fun e w' => e = .returned (.int .i64 1) ∧ Below W.heap.size W w') := by
      have hlt := orL_lt (ones_take_lt X 1)
      refine ⟨orL ((onesTo X 32).take 1), hlt, fun W => takeLow_any X 1 W HX.out (by omega) (by omega), fun h W => ?_⟩
      have := ones_any (orL ((onesTo X 32).take 1)) W hlt
      rw [HT1.out h] at this
      exact this
    have HY := Lib.hid hY
    clear hb4 O2 B2 HT1 hY
    generalize onesTo X 32 = l at *
    by_cases h0 : l.length = 0
    · obtain ⟨e1, e2⟩ := low_nil h0
      rw [e1] at HL
      rw [e2] at HH
      rw [h0]
      clear O4 HO HB HA e1 e2
      go_wp2_with fail
      refine (HL.out _).mono ?_
      rintro e w5 ⟨rfl, hb5⟩
      have z5 := hb5.size
      have B5 : Hid (Below w0.heap.size w0 w5) := B4.out.trans (hb5.mono (by omega))
      clear hb5 B4
      go_wp2_with fail
      refine (HH.out _).mono ?_
      rintro e w6 ⟨rfl, hb6⟩
      have B6 : Hid (Below w0.heap.size w0 w6) := B5.out.trans (hb6.mono (by omega))
      clear hb6 B5
      go_wp2
      go_ret
      exact ⟨rfl, B6.out⟩
    · have hpos : 0 < l.length := by omega
      have HO2 := Lib.hid (HO.out hpos)
      obtain ⟨g, rfl, _, hg⟩ := O4.out.form hpos
      have x1 := O4.out.cell rfl hpos
      have x2 := O4.out.cell rfl (show l.length - 1 < l.length by omega)
      rw [low_at hpos] at x1
      rw [high_at hpos] at x2
      generalize lowOf l = lo at *
      generalize highOf l = hi at *
      obtain ⟨m, hm⟩ : ∃ m, l.length = m + 1 := ⟨l.length - 1, by omega⟩
      rw [hm] at x2 hl ⊢
      rw [Nat.add_sub_cancel] at x2
      have n0 : ¬ ((m + 1 : Nat) : Int) = 0 := by omega
      have i0 : (0 : Int) ≤ (m : Int) := by omega
      have i1 : (m : Int) ≤ 31 := by omega
      have i2 : (m : Int) < (m : Int) + 1 := by omega
      have i3 : IntKind.i64.wrap (m : Int) = (m : Int) := IntWalk.i64_in _ (by omega)
      have i4 : IntKind.i64.wrap ((m : Int) + 1 - 1) = (m : Int) := by rw [Int.add_sub_cancel]; exact i3
      have i5 : IntKind.i64.wrap (((m + 1 : Nat) : Int) - 1) = (m : Int) := by rw [show ((m + 1 : Nat) : Int) - 1 = (m : Int) by omega]; exact i3
      have K1 : Hid (∀ W, Below w4.heap.size w4 W → W.cell? ⟨g, 0, none⟩ = some (.int .i64 lo) ∧ W.cell? ⟨g, m, none⟩ = some (.int .i64 hi)) := fun W hW => ⟨later_row hW x1 hg, later_row hW x2 hg⟩
      have b0 : Hid (Below w4.heap.size w4 w4.drew) := (Below.refl _ _).drew
      have LL : Hid (∀ W, Below w4.heap.size w4 W → Calls Try.prog 20 #[.int .u32 (X : Int)] W fun e w' => e = .returned (.int .i64 lo) ∧ Hid (Below w4.heap.size w4 w') ∧ (w'.cell? ⟨g, 0, none⟩ = some (.int .i64 lo) ∧ w'.cell? ⟨g, m, none⟩ = some (.int .i64 hi))) := fun W hW => (HL.out W).mono fun _ _ ⟨he, hb⟩ => ⟨he, hW.trans (hb.mono hW.size), K1.out _ (hW.trans (hb.mono hW.size))⟩
      have LH : Hid (∀ W, Below w4.heap.size w4 W → Calls Try.prog 21 #[.int .u32 (X : Int)] W fun e w' => e = .returned (.int .i64 hi) ∧ Hid (Below w4.heap.size w4 w') ∧ (w'.cell? ⟨g, 0, none⟩ = some (.int .i64 lo) ∧ w'.cell? ⟨g, m, none⟩ = some (.int .i64 hi))) := fun W hW => (HH.out W).mono fun _ _ ⟨he, hb⟩ => ⟨he, hW.trans (hb.mono hW.size), K1.out _ (hW.trans (hb.mono hW.size))⟩
      have LA : Hid (∀ W, Below w4.heap.size w4 W → Calls Try.prog 22 #[.int .u32 (X : Int), .int .i64 32] W fun e w' => e = .returned (.int .u32 (X : Int)) ∧ Hid (Below w4.heap.size w4 w') ∧ (w'.cell? ⟨g, 0, none⟩ = some (.int .i64 lo) ∧ w'.cell? ⟨g, m, none⟩ = some (.int .i64 hi))) := fun W hW => (HA.out W).mono fun _ _ ⟨he, hb⟩ => ⟨he, hW.trans (hb.mono hW.size), K1.out _ (hW.trans (hb.mono hW.size))⟩
      have LB : Hid (∀ W, Below w4.heap.size w4 W → Calls Try.prog 22 #[.int .u32 (X : Int), .int .i64 1] W fun e w' => e = .returned (.int .u32 (Y : Int)) ∧ Hid (Below w4.heap.size w4 w') ∧ (w'.cell? ⟨g, 0, none⟩ = some (.int .i64 lo) ∧ w'.cell? ⟨g, m, none⟩ = some (.int .i64 hi))) := fun W hW => (HB.out W).mono fun _ _ ⟨he, hb⟩ => ⟨he, hW.trans (hb.mono hW.size), K1.out _ (hW.trans (hb.mono hW.size))⟩
      have LO : Hid (∀ W, Below w4.heap.size w4 W → Calls Try.prog 19 #[.int .u32 (Y : Int)] W fun e w' => e = .returned (.int .i64 1) ∧ Hid (Below w4.heap.size w4 w') ∧ (w'.cell? ⟨g, 0, none⟩ = some (.int .i64 lo) ∧ w'.cell? ⟨g, m, none⟩ = some (.int .i64 hi))) := fun W hW => (HO2.out W).mono fun _ _ ⟨he, hb⟩ => ⟨he, hW.trans (hb.mono hW.size), K1.out _ (hW.trans (hb.mono hW.size))⟩
      have x0 := K1.out _ (Below.refl _ w4)
      have x0' := K1.out _ b0.out
      clear HL HH HA HB HO HO2 O4 K1 hpos h0 hm
      clear x1 x2
      go_wp2_with fail
      go_region_held3 (fun w' => w'.cell? ⟨g, 0, none⟩ = some (.int .i64 lo) ∧ w'.cell? ⟨g, m, none⟩ = some (.int .i64 hi))
        (first | exact x0 | exact x0' | exact x5 | exact x6 | exact x7 | exact x8 | exact x9)
        (first | (go_at_call 20; refine (LL.out _ b0.out).mono ?_; rintro e w5 ⟨rfl, b5, x5⟩)
               | (go_at_call 21; refine (LH.out _ b5.out).mono ?_; rintro e w6 ⟨rfl, b6, x6⟩)
               | (go_at_call 22; with_reducible refine (LA.out _ b6.out).mono ?_; rintro e w7 ⟨rfl, b7, x7⟩)
               | (go_at_call 22; with_reducible refine (LB.out _ b7.out).mono ?_; rintro e w8 ⟨rfl, b8, x8⟩)
               | (go_at_call 19; refine (LO.out _ b8.out).mono ?_; rintro e w9 ⟨rfl, b9, x9⟩))
      go_wp2
      go_ret
      exact ⟨rfl, B4.out.trans (b9.out.mono (by omega))⟩
  · have hn : (1048576 : Int) < (n : Int) := by omega
    clear H HF
    go_enter Try.func3, Try.ntmps3
    go_wp2_with fail
    refine (big_any A n c w0).mono ?_
    rintro e w1 ⟨rfl, rfl⟩
    go_wp2
    go_ret
    exact ⟨rfl, Below.refl _ _⟩

set_option maxRecDepth 100000 in
theorem fnBitsBack_lifted (os : Os) (started : os.Started) (H : Type) (enc : TypeId × Value → H) :
    ReturnsInHanded {} Try.checked os 3 .any (Rows.fnBitsBackSpec.pre6 enc Try.prog Try.f3 Rows.fnBitsBackRow.domain false) (Rows.fnBitsBackSpec.post enc Try.prog Try.f3 false true false false) := by
  refine returnsInHanded_of_change (C := Try.checked) own started (by kernel_rfl) Try.func3
    (ChangeSpec.witness6 (enc := enc) (C := Try.checked) false ⟨#[], #[.slice none 0 0], []⟩ 8 (by kernel_rfl) (by kernel_rfl) (by kernel_rfl) (by kernel_rfl)) ?_
  intro W base args ds gs before hval0 hW hcnd _
  have hval : ∀ (j : Nat) t v, Try.f3.params[j]? = some t → args[j]? = some v → Value.okWide Try.prog W .any base t v := hval0
  have hW' := hW
  obtain ⟨p, q, hA0, hV, rfl, hfz, hnd⟩ := hW
  have hA : DataW.TrodAll enc Try.prog W 0 (fun _ => true) true Try.f3.params.toList args.toList ds p := hA0
  rw [Try.params3] at hA hval
  obtain ⟨v0, vs0, d0, ds0, p0, q0, hargs, rfl, rfl, h0, r0⟩ := trodAll_cons hA
  obtain ⟨rfl, rfl, rfl⟩ := trodAll_nil r0
  obtain rfl : args = #[v0] := by cases args; simp_all
  obtain ⟨rfl, rfl⟩ := trodVars_none hV
  have k0 := h0
  have lt0 : ∀ x ∈ p0, x.block < W.heap.size := by obtain ⟨m, hm⟩ := k0; exact DataW.trod_lt m _ _ _ hm
  obtain ⟨A0, n0, c0, z0, rfl, m0, rd0, f0⟩ := open_bytes (hval 0 22 v0 rfl rfl) h0
  clear hA0 hval0
  refine (fnBitsBack_walk A0 n0 c0 z0 W rd0 m0 f0).mono fun e W' ⟨he, bel⟩ => ?_
  subst he
  exact ⟨_, rfl, _, _, _, [], _, [], hW', trodAll_mk1 (shut_bool Try.underlying4 _), (trodAll_cons_mk (Below.trod laidOut (by kernel_rfl) (of_decide_eq_true (by kernel_rfl)) k0 bel lt0) (trodAll_mk0)), rfl, bel.frame _, fun h => by cases h⟩

/-- The given statement: for every input the law returns true, and its arguments read as before. -/
theorem fnBitsBack_holds : Rows.FnBitsBackSaid :=
  OpenClaim.holds_of_wide 3 Try.f3 rfl rfl rfl rfl rfl rfl rfl ⟨rfl, rfl, rfl, rfl, rfl⟩ rfl rfl rfl rfl rfl (by kernel_rfl) Try.func3 (by kernel_rfl)
    (of_decide_eq_true (by kernel_rfl)) (by unfold Func.isWrapper; first | (rw [if_pos (by decide +kernel)]; kernel_rfl) | (rw [if_neg (by decide +kernel)]; exact ⟨rfl, rfl⟩))
    (fun os started H enc _ => fnBitsBack_lifted os started H enc)
#print axioms fnBitsBack_holds
end Go.Proofs.Ytffeaaabhekmhaa
