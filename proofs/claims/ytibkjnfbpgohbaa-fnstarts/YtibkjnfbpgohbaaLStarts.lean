/- FnStarts: where warps begin to look. Proved for every code. No condition. -/
import Derived.Test.YtibkjnfbpgohbaaDrawSt
import Derived.Test.YtibkjnfbpgohbaaIStart
import Derived.Test.YtibkjnfbpgohbaaOpenY
namespace Go.Proofs.Ytibkjnfbpgohbaa
open Go.ChangeShapes Go.WideShapes Go.ChangeAt Go.RowKit
set_option linter.unusedVariables false

theorem starts_apart {K ch : Int} (hK : 0 ≤ K ∧ K ≤ 4) (h : 1 ≤ ch ∧ ch ≤ 16) : ((3 * K) % ch = (5 + 3 * K) % ch) ↔ (ch = 1 ∨ ch = 5) := by
  obtain ⟨h1, h2⟩ := h
  rcases (show ch = 1 ∨ ch = 2 ∨ ch = 3 ∨ ch = 4 ∨ ch = 5 ∨ ch = 6 ∨ ch = 7 ∨ ch = 8 ∨ ch = 9 ∨ ch = 10 ∨ ch = 11 ∨ ch = 12 ∨ ch = 13 ∨ ch = 14 ∨ ch = 15 ∨ ch = 16 by omega) with
    rfl | rfl | rfl | rfl | rfl | rfl | rfl | rfl | rfl | rfl | rfl | rfl | rfl | rfl | rfl | rfl <;> omega

set_option maxRecDepth 100000 in
set_option maxHeartbeats 4000000 in
theorem fnStarts_walk (A : Option Addr) (n c : Nat) (bs : List Int) (w0 : World) (h : RdK .u8 w0 w0.heap.size A n bs) (hm0 : n ≤ maxLen) (hf : ∀ z ∈ bs, 0 ≤ z ∧ z < 256) :
    Calls Try.prog 3 #[.slice A n c] w0 fun e w' => e = .returned (.bool true) ∧ Below w0.heap.size w0 w' := by
  have H := Lib.hid h
  have HF := Lib.hid hf
  clear h hf
  by_cases hn' : n ≤ 1048576
  · have hn : ¬ (1048576 : Int) < (n : Int) := by omega
    go_enter Try.func3, Try.ntmps3
    go_wp2_with fail
    refine (big_any A n c w0).mono ?_
    rintro e w1 ⟨rfl, rfl⟩
    go_wp2_with fail
    refine (drawStart A n c bs w0 H.out HF.out hn').mono ?_
    rintro e w1 ⟨id, K, ch, rfl, hB⟩
    have B1 := Lib.hid hB
    have HI := Lib.hid (fun id W => warpStart_any id K ch W)
    have HS := Lib.hid (fun W => sWarpStart_any id K ch W)
    clear hB H HF hn hn'
    by_cases hok : StartOk id K ch
    · obtain ⟨z0, z1⟩ := startV_bounds hok
      have hS := hok
      obtain ⟨i0, i1, hK, c0, c1⟩ := hS
      obtain ⟨k0, k1⟩ := hK
      have e0 : startV 0 K ch = (3 * K) % ch := by rw [startV_yes (show StartOk 0 K ch from ⟨by omega, by omega, ⟨k0, k1⟩, c0, c1⟩)]; simp
      have e1 : startV 1 K ch = (5 + 3 * K) % ch := by rw [startV_yes (show StartOk 1 K ch from ⟨by omega, by omega, ⟨k0, k1⟩, c0, c1⟩)]; simp
      have hap := starts_apart (K := K) (ch := ch) (by omega) (by omega)
      rw [← e0, ← e1] at hap
      have H0 := Lib.hid (HI.out 0)
      have H1 := Lib.hid (HI.out 1)
      have Ha := Lib.hid (HI.out id)
      clear HI e0 e1
      generalize startV id K ch = a at *
      generalize startV 0 K ch = b at *
      generalize startV 1 K ch = d at *
      have z2 : ¬ a < 0 := by omega
      go_wp2_with fail
      refine (Ha.out _).mono ?_
      rintro e w2 ⟨rfl, rfl⟩
      go_wp2_with fail
      refine (HS.out _).mono ?_
      rintro e w2 ⟨rfl, rfl⟩
      go_wp2_with fail
      refine (H0.out _).mono ?_
      rintro e w2 ⟨rfl, rfl⟩
      go_wp2_with fail
      refine (H1.out _).mono ?_
      rintro e w2 ⟨rfl, rfl⟩
      clear Ha HS H0 H1 hok
      by_cases hc1 : ch = 1
      · have hbd : b = d := hap.2 (Or.inl hc1)
        subst hbd
        subst hc1
        clear hap c0 c1
        go_wp2
        go_ret
        exact ⟨rfl, B1.out⟩
      · by_cases hc5 : ch = 5
        · have hbd : b = d := hap.2 (Or.inr hc5)
          subst hbd
          subst hc5
          clear hap c0 c1 hc1
          go_wp2
          go_ret
          exact ⟨rfl, B1.out⟩
        · have hbd : ¬ b = d := fun h => by rcases hap.1 h with h | h <;> omega
          have hbe : (b == d) = false := by simp [hbd]
          have h1e : (ch == 1) = false := by simp [hc1]
          have h5e : (ch == 5) = false := by simp [hc5]
          clear hap
          go_wp2
          go_ret
          exact ⟨rfl, B1.out⟩
    · have Ha := Lib.hid (HI.out id)
      rw [startV_no hok] at Ha HS
      clear HI hok
      go_wp2_with fail
      refine (Ha.out _).mono ?_
      rintro e w2 ⟨rfl, rfl⟩
      go_wp2_with fail
      refine (HS.out _).mono ?_
      rintro e w2 ⟨rfl, rfl⟩
      go_wp2_with fail
      refine (HS.out _).mono ?_
      rintro e w2 ⟨rfl, rfl⟩
      go_wp2
      go_ret
      exact ⟨rfl, B1.out⟩
  · have hn : (1048576 : Int) < (n : Int) := by omega
    clear H HF
    go_enter Try.func3, Try.ntmps3
    go_wp2_with fail
    refine (big_any A n c w0).mono ?_
    rintro e w1 ⟨rfl, rfl⟩
    go_wp2
    go_ret
    exact ⟨rfl, Below.refl _ _⟩

set_option maxRecDepth 100000 in
theorem fnStarts_lifted (os : Os) (started : os.Started) (H : Type) (enc : TypeId × Value → H) :
    ReturnsInHanded {} Try.checked os 3 .any (Rows.fnStartsSpec.pre6 enc Try.prog Try.f3 Rows.fnStartsRow.domain false) (Rows.fnStartsSpec.post enc Try.prog Try.f3 false true false false) := by
  refine returnsInHanded_of_change (C := Try.checked) own started (by kernel_rfl) Try.func3
    (ChangeSpec.witness6 (enc := enc) (C := Try.checked) false ⟨#[], #[.slice none 0 0], []⟩ 8 (by kernel_rfl) (by kernel_rfl) (by kernel_rfl) (by kernel_rfl)) ?_
  intro W base args ds gs before hval0 hW hcnd _
  have hval : ∀ (j : Nat) t v, Try.f3.params[j]? = some t → args[j]? = some v → Value.okWide Try.prog W .any base t v := hval0
  have hW' := hW
  obtain ⟨p, q, hA0, hV, rfl, hfz, hnd⟩ := hW
  have hA : DataW.TrodAll enc Try.prog W 0 (fun _ => true) true Try.f3.params.toList args.toList ds p := hA0
  rw [Try.params3] at hA hval
  obtain ⟨v0, vs0, d0, ds0, p0, q0, hargs, rfl, rfl, h0, r0⟩ := trodAll_cons hA
  obtain ⟨rfl, rfl, rfl⟩ := trodAll_nil r0
  obtain rfl : args = #[v0] := by cases args; simp_all
  obtain ⟨rfl, rfl⟩ := trodVars_none hV
  have k0 := h0
  have lt0 : ∀ x ∈ p0, x.block < W.heap.size := by obtain ⟨m, hm⟩ := k0; exact DataW.trod_lt m _ _ _ hm
  obtain ⟨A0, n0, c0, z0, rfl, m0, rd0, f0⟩ := open_bytes (hval 0 22 v0 rfl rfl) h0
  clear hA0 hval0
  refine (fnStarts_walk A0 n0 c0 z0 W rd0 m0 f0).mono fun e W' ⟨he, bel⟩ => ?_
  subst he
  exact ⟨_, rfl, _, _, _, [], _, [], hW', trodAll_mk1 (shut_bool Try.underlying4 _), (trodAll_cons_mk (Below.trod laidOut (by kernel_rfl) (of_decide_eq_true (by kernel_rfl)) k0 bel lt0) (trodAll_mk0)), rfl, bel.frame _, fun h => by cases h⟩

/-- The given statement: for every input the law returns true, and its arguments read as before. -/
theorem fnStarts_holds : Rows.FnStartsSaid :=
  OpenClaim.holds_of_wide 3 Try.f3 rfl rfl rfl rfl rfl rfl rfl ⟨rfl, rfl, rfl, rfl, rfl⟩ rfl rfl rfl rfl rfl (by kernel_rfl) Try.func3 (by kernel_rfl)
    (of_decide_eq_true (by kernel_rfl)) (by unfold Func.isWrapper; first | (rw [if_pos (by decide +kernel)]; kernel_rfl) | (rw [if_neg (by decide +kernel)]; exact ⟨rfl, rfl⟩))
    (fun os started H enc _ => fnStarts_lifted os started H enc)
#print axioms fnStarts_holds
end Go.Proofs.Ytibkjnfbpgohbaa
