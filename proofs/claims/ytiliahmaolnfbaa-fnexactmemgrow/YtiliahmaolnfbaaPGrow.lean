/- MemGrow of the program answers as the model at every memory and number, in new memory, and leaves its argument as it was. No condition. -/
import Derived.Test.YtiliahmaolnfbaaXGrow
import Derived.Test.YtiliahmaolnfbaaGrow
import Derived.Test.YtiliahmaolnfbaaSpec
import Derived.Test.YtiliahmaolnfbaaOpen
namespace Go.Proofs.Ytiliahmaolnfbaa
open Go.ChangeShapes Go.WideShapes Go.ChangeAt Go.RowKit
set_option linter.unusedVariables false

set_option maxHeartbeats 400000 in
theorem fnExactMemGrow_big (A : Option Addr) (n c : Nat) (k : Int) (w : World) (hm : n ≤ maxLen) (hn : ¬ n ≤ 1048576) :
    Calls Try.prog 15 #[.agg #[.slice A n c], .int .i64 k] w fun e w' => e = .returned (.bool true) ∧ Below w.heap.size w w' := by
  have hsz := szMem_any A n c 1048576 (w.alloc (.cells #[.slice A n c] 48)) hm (by omega) (by omega)
  rw [if_pos (by omega)] at hsz
  have HS := Lib.hid hsz
  clear hsz
  go_enter Try.func15, Try.ntmps15
  go_wp2_with fail
  refine HS.out.mono ?_
  rintro e w1 ⟨rfl, hb1⟩
  have B1 := Lib.hid hb1
  clear hb1
  go_wp2
  go_ret
  exact ⟨rfl, (by repeat (first | exact Below.refl _ _ | refine Below.drew ?_ | refine Below.setCell ?_ (by first | omega | (simp; done) | (simp; omega) | (simp [*]; done)) _ | refine Below.alloc ?_ (by first | omega | (simp; done) | (simp; omega) | (simp [*]; done)) _ | refine Below.trans ?_ (Below.mono (B1.out) (by first | omega | (simp; done) | (simp; omega) | (simp [*]; done)))))⟩

theorem fnExactMemGrow_walk (A : Option Addr) (n c : Nat) (zs : List Int) (k : Int) (w : World) (h : Rd w w.heap.size A n zs) (hm : n ≤ maxLen) (hf : ∀ z ∈ zs, 0 ≤ z ∧ z < 4294967296) (hk : (Lit.int .i64 k).wf = true) :
    Calls Try.prog 15 #[.agg #[.slice A n c], .int .i64 k] w fun e w' => e = .returned (.bool true) ∧ Below w.heap.size w w' := by
  by_cases hn : n ≤ 1048576
  · have hl := h.1
    by_cases hw : CanG n k
    · obtain ⟨h1, h2, h3⟩ := hw
      obtain ⟨m, rfl⟩ := Int.eq_ofNat_of_zero_le h2
      have hnm : n + m ≤ 64 := by omega
      exact fnExactMemGrow_core A n c w.heap.size m true zs (zs ++ List.replicate m 0) w h (Nat.le_refl _) hn
        (fun A' c' B' w' h' hB => (sGrow A' n c' B' m zs w' h' hB hnm).mono (fun _ _ ⟨A', c', he, ho, hb⟩ => ⟨A', n + m, c', he, hnm, ho, hb⟩))
        (fun A' c' B' w' h' hB => (iGrow A' n c' B' m zs w' h' hB hnm).mono (fun _ _ ⟨A', c', he, ho, hb⟩ => ⟨A', n + m, c', he, hnm, ho, hb⟩))
    · exact fnExactMemGrow_core A n c w.heap.size k false zs [] w h (Nat.le_refl _) hn
        (fun A' c' B' w' _ _ => (sGrow_no A' n c' k w' hw hn).mono (fun _ _ ⟨he, hb⟩ => ⟨none, 0, 0, he, by omega, Own.zero, hb⟩))
        (fun A' c' B' w' _ _ => (iGrow_no A' n c' k w' hw hn).mono (fun _ _ ⟨he, hb⟩ => ⟨none, 0, 0, he, by omega, Own.zero, hb⟩))
  · exact fnExactMemGrow_big A n c k w hm hn

set_option maxRecDepth 100000 in
theorem fnExactMemGrow_lifted (os : Os) (started : os.Started) (H : Type) (enc : TypeId × Value → H) :
    ReturnsInHanded {} Try.checked os 15 .any (Rows.fnExactMemGrowSpec.pre6 enc Try.prog Try.f15 Rows.fnExactMemGrowRow.domain false) (Rows.fnExactMemGrowSpec.post enc Try.prog Try.f15 false true false false) := by
  refine returnsInHanded_of_change (C := Try.checked) own started (by kernel_rfl) Try.func15
    (ChangeSpec.witness6 (enc := enc) (C := Try.checked) false ⟨#[], #[.agg #[.slice none 0 0], .int .i64 0], []⟩ 8 (by kernel_rfl) (by kernel_rfl) (by kernel_rfl) (by kernel_rfl)) ?_
  intro W base args ds gs before hval0 hW hcnd _
  have hval : ∀ (j : Nat) t v, Try.f15.params[j]? = some t → args[j]? = some v → Value.okWide Try.prog W .any base t v := hval0
  have hW' := hW
  obtain ⟨p, q, hA0, hV, rfl, hfz, hnd⟩ := hW
  have hA : DataW.TrodAll enc Try.prog W 0 (fun _ => true) true Try.f15.params.toList args.toList ds p := hA0
  rw [Try.params15] at hA hval
  obtain ⟨v0, vs0, d0, ds0, p0, q0, hargs, rfl, rfl, h0, r0⟩ := trodAll_cons hA
  obtain ⟨v1, vs1, d1, ds1, p1, q1, rfl, rfl, rfl, h1, r1⟩ := trodAll_cons r0
  obtain ⟨rfl, rfl, rfl⟩ := trodAll_nil r1
  obtain rfl : args = #[v0, v1] := by cases args; simp_all
  obtain ⟨rfl, rfl⟩ := trodVars_none hV
  have k0 := h0
  have lt0 : ∀ x ∈ p0, x.block < W.heap.size := by obtain ⟨m, hm⟩ := k0; exact DataW.trod_lt m _ _ _ hm
  obtain ⟨A0, n0, c0, z0, rfl, m0, rd0, f0⟩ := open_mem (hval 0 48 v0 rfl rfl) h0
  obtain ⟨a1, rfl, rfl, rfl, w1⟩ := open_int Try.underlying3 (hval 1 3 v1 rfl rfl) h1
  clear hA0 hval0
  refine (fnExactMemGrow_walk A0 n0 c0 z0 a1 W rd0 m0 f0 w1).mono fun e W' ⟨he, bel⟩ => ?_
  subst he
  exact ⟨_, rfl, _, _, _, [], _, [], hW', trodAll_mk1 (shut_bool Try.underlying4 _), (trodAll_cons_mk (Below.trod laidOut (by kernel_rfl) (of_decide_eq_true (by kernel_rfl)) k0 bel lt0) (trodAll_cons_mk (shut_int Try.underlying3 w1) (trodAll_mk0))), rfl, bel.frame _, fun h => by cases h⟩

/-- The given statement: for every input the law returns true, and its arguments read as before. -/
theorem fnExactMemGrow_holds : Rows.FnExactMemGrowSaid :=
  OpenClaim.holds_of_wide 15 Try.f15 rfl rfl rfl rfl rfl rfl rfl ⟨rfl, rfl, rfl, rfl, rfl⟩ rfl rfl rfl rfl rfl (by kernel_rfl) Try.func15 (by kernel_rfl)
    (of_decide_eq_true (by kernel_rfl)) (by unfold Func.isWrapper; first | (rw [if_pos (by decide +kernel)]; kernel_rfl) | (rw [if_neg (by decide +kernel)]; exact ⟨rfl, rfl⟩))
    (fun os started H enc _ => fnExactMemGrow_lifted os started H enc)
#print axioms fnExactMemGrow_holds
end Go.Proofs.Ytiliahmaolnfbaa
