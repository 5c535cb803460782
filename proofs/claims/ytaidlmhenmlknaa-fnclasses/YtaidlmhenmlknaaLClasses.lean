/- FnClasses: the blocks of a class fill a chunk; the class of a size is the smallest with enough room; larger sizes need the smallest sufficient number of chunks. Proved for every code. No condition. -/
import Derived.Test.YtaidlmhenmlknaaClassW
import Derived.Test.YtaidlmhenmlknaaDrawC
import Derived.Test.YtaidlmhenmlknaaOpenY
namespace Go.Proofs.Ytaidlmhenmlknaa
open Go.ChangeShapes Go.WideShapes Go.ChangeAt Go.RowKit
set_option linter.unusedVariables false

set_option maxRecDepth 100000 in
set_option maxHeartbeats 4000000 in
theorem fnClasses_walk (A : Option Addr) (n c : Nat) (bs : List Int) (w0 : World) (h : RdK .u8 w0 w0.heap.size A n bs) (hm0 : n ≤ maxLen) (hf : ∀ z ∈ bs, 0 ≤ z ∧ z < 256) :
    Calls Try.prog 3 #[.slice A n c] w0 fun e w' => e = .returned (.bool true) ∧ Below w0.heap.size w0 w' := by
  have H := Lib.hid h
  have HF := Lib.hid hf
  clear h hf
  by_cases hn' : n ≤ 1048576
  · have hn : ¬ (1048576 : Int) < (n : Int) := by omega
    go_enter Try.func3, Try.ntmps3
    go_wp2_with fail
    refine (big_any A n c w0).mono ?_
    rintro e w1 ⟨rfl, rfl⟩
    go_wp2_with fail
    refine (drawChunksFor A n c bs w0 H.out HF.out hn').mono ?_
    rintro e w1 ⟨s, rfl, _, HB⟩
    clear H HF hn hn'
    have HC := Lib.hid (classOf_any s w1)
    have HD := Lib.hid (sClassOf_any s w1)
    have HR := Lib.hid (chunksFor_any s w1)
    have HQ := Lib.hid (sChunksFor_any s w1)
    have HS := Lib.hid (fun k => classSize_any k w1)
    have HP := Lib.hid (fun k => perPage_any k w1)
    go_wp2_with fail
    refine HC.out.mono ?_
    rintro e w1 ⟨rfl, rfl⟩
    go_wp2_with fail
    refine HR.out.mono ?_
    rintro e w1 ⟨rfl, rfl⟩
    go_wp2_with fail
    refine HD.out.mono ?_
    rintro e w1 ⟨rfl, rfl⟩
    go_wp2_with fail
    refine HQ.out.mono ?_
    rintro e w1 ⟨rfl, rfl⟩
    clear HC HD HR HQ
    by_cases h16 : 1 ≤ s ∧ s ≤ 16
    · have hr : chunksV s = 0 := chunksV_out (by omega)
      rw [hr]
      obtain ⟨k, hk, e1, e2, e3⟩ : ∃ k : Nat, k < 5 ∧ classV s = k ∧ s ≤ sizeV k ∧ (k = 0 ∨ sizeV ((k : Int) - 1) < s) := by
        rcases (show s ≤ 1 ∨ (1 < s ∧ s ≤ 2) ∨ (2 < s ∧ s ≤ 4) ∨ (4 < s ∧ s ≤ 8) ∨ 8 < s by omega) with h | h | h | h | h
        · exact ⟨0, by omega, by unfold classV; repeat (split <;> try omega), by show s ≤ 1; omega, .inl rfl⟩
        · exact ⟨1, by omega, by unfold classV; repeat (split <;> try omega), by show s ≤ 2; omega, .inr (by show 1 < s; omega)⟩
        · exact ⟨2, by omega, by unfold classV; repeat (split <;> try omega), by show s ≤ 4; omega, .inr (by show 2 < s; omega)⟩
        · exact ⟨3, by omega, by unfold classV; repeat (split <;> try omega), by show s ≤ 8; omega, .inr (by show 4 < s; omega)⟩
        · exact ⟨4, by omega, by unfold classV; repeat (split <;> try omega), by show s ≤ 16; omega, .inr (by show 8 < s; omega)⟩
      rw [e1]
      clear e1 hr h16
      rcases (show k = 0 ∨ k = 1 ∨ k = 2 ∨ k = 3 ∨ k = 4 by omega) with rfl | rfl | rfl | rfl | rfl
      · replace e2 : s ≤ 1 := e2
        clear e3 hk
        go_wp2_with fail
        refine (HS.out _).mono ?_
        rintro e w1 ⟨rfl, rfl⟩
        simp only [sizeV]
        go_wp2_with fail
        refine (HS.out _).mono ?_
        rintro e w1 ⟨rfl, rfl⟩
        simp only [sizeV]
        go_wp2_with fail
        refine (HP.out _).mono ?_
        rintro e w1 ⟨rfl, rfl⟩
        simp only [perV]
        go_wp2
        go_ret
        exact ⟨rfl, HB.out⟩
      all_goals
        have e4 := e3.resolve_left (by omega)
        clear e3 hk
        simp [sizeV] at e2 e4
        go_wp2_with fail
        refine (HS.out _).mono ?_
        rintro e w1 ⟨rfl, rfl⟩
        simp [sizeV]
        go_wp2_with fail
        refine (HS.out _).mono ?_
        rintro e w1 ⟨rfl, rfl⟩
        simp [sizeV]
        go_wp2_with fail
        refine (HS.out _).mono ?_
        rintro e w1 ⟨rfl, rfl⟩
        simp [sizeV]
        go_wp2_with fail
        refine (HP.out _).mono ?_
        rintro e w1 ⟨rfl, rfl⟩
        simp [perV]
        go_wp2
        go_ret
        exact ⟨rfl, HB.out⟩
    · have hk : classV s = -1 := by
        by_cases h1 : s < 1
        · exact classV_low h1
        · exact classV_high (by omega)
      rw [hk]
      clear hk HS HP
      by_cases h1 : s < 1
      · have hr : chunksV s = 0 := chunksV_out (by omega)
        rw [hr]
        clear hr h16
        go_wp2
        go_ret
        exact ⟨rfl, HB.out⟩
      · by_cases h2 : 256 < s
        · have hr : chunksV s = 0 := chunksV_out (by omega)
          rw [hr]
          clear hr h16
          go_wp2
          go_ret
          exact ⟨rfl, HB.out⟩
        · obtain ⟨r, hr, r1, r2, r3, r4⟩ : ∃ r, chunksV s = r ∧ 1 < r ∧ r ≤ 16 ∧ s ≤ 16 * r ∧ 16 * (r - 1) < s := ⟨_, chunksV_in (s := s) (by omega) (by omega), by omega, by omega, by omega, by omega⟩
          rw [hr]
          have r0 : ¬ r = 0 := by omega
          clear hr h16
          go_wp2
          go_ret
          exact ⟨rfl, HB.out⟩
  · have hn : (1048576 : Int) < (n : Int) := by omega
    clear H HF
    go_enter Try.func3, Try.ntmps3
    go_wp2_with fail
    refine (big_any A n c w0).mono ?_
    rintro e w1 ⟨rfl, rfl⟩
    go_wp2
    go_ret
    exact ⟨rfl, Below.refl _ _⟩

set_option maxRecDepth 100000 in
theorem fnClasses_lifted (os : Os) (started : os.Started) (H : Type) (enc : TypeId × Value → H) :
    ReturnsInHanded {} Try.checked os 3 .any (Rows.fnClassesSpec.pre6 enc Try.prog Try.f3 Rows.fnClassesRow.domain false) (Rows.fnClassesSpec.post enc Try.prog Try.f3 false true false false) := by
  refine returnsInHanded_of_change (C := Try.checked) own started (by kernel_rfl) Try.func3
    (ChangeSpec.witness6 (enc := enc) (C := Try.checked) false ⟨#[], #[.slice none 0 0], []⟩ 8 (by kernel_rfl) (by kernel_rfl) (by kernel_rfl) (by kernel_rfl)) ?_
  intro W base args ds gs before hval0 hW hcnd _
  have hval : ∀ (j : Nat) t v, Try.f3.params[j]? = some t → args[j]? = some v → Value.okWide Try.prog W .any base t v := hval0
  have hW' := hW
  obtain ⟨p, q, hA0, hV, rfl, hfz, hnd⟩ := hW
  have hA : DataW.TrodAll enc Try.prog W 0 (fun _ => true) true Try.f3.params.toList args.toList ds p := hA0
  rw [Try.params3] at hA hval
  obtain ⟨v0, vs0, d0, ds0, p0, q0, hargs, rfl, rfl, h0, r0⟩ := trodAll_cons hA
  obtain ⟨rfl, rfl, rfl⟩ := trodAll_nil r0
  obtain rfl : args = #[v0] := by cases args; simp_all
  obtain ⟨rfl, rfl⟩ := trodVars_none hV
  have k0 := h0
  have lt0 : ∀ x ∈ p0, x.block < W.heap.size := by obtain ⟨m, hm⟩ := k0; exact DataW.trod_lt m _ _ _ hm
  obtain ⟨A0, n0, c0, z0, rfl, m0, rd0, f0⟩ := open_bytes (hval 0 22 v0 rfl rfl) h0
  clear hA0 hval0
  refine (fnClasses_walk A0 n0 c0 z0 W rd0 m0 f0).mono fun e W' ⟨he, bel⟩ => ?_
  subst he
  exact ⟨_, rfl, _, _, _, [], _, [], hW', trodAll_mk1 (shut_bool Try.underlying4 _), (trodAll_cons_mk (Below.trod laidOut (by kernel_rfl) (of_decide_eq_true (by kernel_rfl)) k0 bel lt0) (trodAll_mk0)), rfl, bel.frame _, fun h => by cases h⟩

/-- The given statement: for every input the law returns true, and its arguments read as before. -/
theorem fnClasses_holds : Rows.FnClassesSaid :=
  OpenClaim.holds_of_wide 3 Try.f3 rfl rfl rfl rfl rfl rfl rfl ⟨rfl, rfl, rfl, rfl, rfl⟩ rfl rfl rfl rfl rfl (by kernel_rfl) Try.func3 (by kernel_rfl)
    (of_decide_eq_true (by kernel_rfl)) (by unfold Func.isWrapper; first | (rw [if_pos (by decide +kernel)]; kernel_rfl) | (rw [if_neg (by decide +kernel)]; exact ⟨rfl, rfl⟩))
    (fun os started H enc _ => fnClasses_lifted os started H enc)
#print axioms fnClasses_holds
end Go.Proofs.Ytaidlmhenmlknaa
