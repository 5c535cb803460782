/- MemOr of the program answers as the model at every memory, index and word, in new memory, and leaves its argument as it was. No condition. -/
import Derived.Test.YtiliahmaolnfbaaXOr
import Derived.Test.YtiliahmaolnfbaaBits
import Derived.Test.YtiliahmaolnfbaaSpec
import Derived.Test.YtiliahmaolnfbaaOpen
namespace Go.Proofs.Ytiliahmaolnfbaa
open Go.ChangeShapes Go.WideShapes Go.ChangeAt Go.RowKit
set_option linter.unusedVariables false

set_option maxHeartbeats 400000 in
theorem fnExactMemOr_big (A : Option Addr) (n c : Nat) (at_ : Int) (x : Int) (w : World) (hm : n ≤ maxLen) (hn : ¬ n ≤ 1048576) :
    Calls Try.prog 13 #[.agg #[.slice A n c], .int .i64 at_, .int .u32 x] w fun e w' => e = .returned (.bool true) ∧ Below w.heap.size w w' := by
  have hsz := szMem_any A n c 1048576 (w.alloc (.cells #[.slice A n c] 48)) hm (by omega) (by omega)
  rw [if_pos (by omega)] at hsz
  have HS := Lib.hid hsz
  clear hsz
  go_enter Try.func13, Try.ntmps13
  go_wp2_with fail
  refine HS.out.mono ?_
  rintro e w1 ⟨rfl, hb1⟩
  have B1 := Lib.hid hb1
  clear hb1
  go_wp2
  go_ret
  exact ⟨rfl, (by repeat (first | exact Below.refl _ _ | refine Below.drew ?_ | refine Below.setCell ?_ (by first | omega | (simp; done) | (simp; omega) | (simp [*]; done)) _ | refine Below.alloc ?_ (by first | omega | (simp; done) | (simp; omega) | (simp [*]; done)) _ | refine Below.trans ?_ (Below.mono (B1.out) (by first | omega | (simp; done) | (simp; omega) | (simp [*]; done)))))⟩

theorem fnExactMemOr_walk (A : Option Addr) (n c : Nat) (zs : List Int) (at_ : Int) (x : Int) (w : World) (h : Rd w w.heap.size A n zs) (hm : n ≤ maxLen) (hf : ∀ z ∈ zs, 0 ≤ z ∧ z < 4294967296) (hat : (Lit.int .i64 at_).wf = true) (hx : (Lit.int .u32 x).wf = true) :
    Calls Try.prog 13 #[.agg #[.slice A n c], .int .i64 at_, .int .u32 x] w fun e w' => e = .returned (.bool true) ∧ Below w.heap.size w w' := by
  by_cases hn : n ≤ 1048576
  · have hl := h.1
    have hx' := u32_of_wf hx
    obtain ⟨X, rfl⟩ := Int.eq_ofNat_of_zero_le hx'.1
    have hX : X < 4294967296 := by have := hx'.2; omega
    by_cases hw : HasW n at_
    · obtain ⟨h1, h2, h3⟩ := hw
      obtain ⟨k, rfl⟩ := Int.eq_ofNat_of_zero_le h2
      have hz := at_bounds hf (show k < zs.length by omega)
      obtain ⟨O, hO⟩ := Int.eq_ofNat_of_zero_le hz.1
      have hO2 : O < 4294967296 := by have := hz.2; omega
      have e : bits .or .u32 (zs[k]?.getD 0) (X : Int) = ((O ||| X : Nat) : Int) := by rw [hO]; exact u32_or_nat O X hO2 hX
      refine fnExactMemOr_core A n c w.heap.size k X O true zs (zs.set k ((O ||| X : Nat) : Int)) w h (Nat.le_refl _) hn (fun A' c' B' w' h' hB => sOr A' n c' B' k X O zs w' h' hB h1 (by omega) hO hO2 hX) (fun A' c' B' w' h' hB => ?_)
      have q := iOr A' n c' B' k X zs w' h' hB h1 (by omega)
      rw [e, hO] at q
      exact q.mono (fun _ _ ⟨A', c', he, ho, hb⟩ => ⟨A', n, c', he, by omega, ho, hb⟩)
    · exact fnExactMemOr_core A n c w.heap.size at_ X 0 false zs [] w h (Nat.le_refl _) hn
        (fun A' c' B' w' _ _ => sOr_no A' n c' at_ X w' hw hn hX)
        (fun A' c' B' w' _ _ => (iOr_no A' n c' at_ X w' hw hn).mono (fun _ _ ⟨he, hb⟩ => ⟨none, 0, 0, he, by omega, Own.zero, hb⟩))
  · exact fnExactMemOr_big A n c at_ x w hm hn

set_option maxRecDepth 100000 in
theorem fnExactMemOr_lifted (os : Os) (started : os.Started) (H : Type) (enc : TypeId × Value → H) :
    ReturnsInHanded {} Try.checked os 13 .any (Rows.fnExactMemOrSpec.pre6 enc Try.prog Try.f13 Rows.fnExactMemOrRow.domain false) (Rows.fnExactMemOrSpec.post enc Try.prog Try.f13 false true false false) := by
  refine returnsInHanded_of_change (C := Try.checked) own started (by kernel_rfl) Try.func13
    (ChangeSpec.witness6 (enc := enc) (C := Try.checked) false ⟨#[], #[.agg #[.slice none 0 0], .int .i64 0, .int .u32 0], []⟩ 8 (by kernel_rfl) (by kernel_rfl) (by kernel_rfl) (by kernel_rfl)) ?_
  intro W base args ds gs before hval0 hW hcnd _
  have hval : ∀ (j : Nat) t v, Try.f13.params[j]? = some t → args[j]? = some v → Value.okWide Try.prog W .any base t v := hval0
  have hW' := hW
  obtain ⟨p, q, hA0, hV, rfl, hfz, hnd⟩ := hW
  have hA : DataW.TrodAll enc Try.prog W 0 (fun _ => true) true Try.f13.params.toList args.toList ds p := hA0
  rw [Try.params13] at hA hval
  obtain ⟨v0, vs0, d0, ds0, p0, q0, hargs, rfl, rfl, h0, r0⟩ := trodAll_cons hA
  obtain ⟨v1, vs1, d1, ds1, p1, q1, rfl, rfl, rfl, h1, r1⟩ := trodAll_cons r0
  obtain ⟨v2, vs2, d2, ds2, p2, q2, rfl, rfl, rfl, h2, r2⟩ := trodAll_cons r1
  obtain ⟨rfl, rfl, rfl⟩ := trodAll_nil r2
  obtain rfl : args = #[v0, v1, v2] := by cases args; simp_all
  obtain ⟨rfl, rfl⟩ := trodVars_none hV
  have k0 := h0
  have lt0 : ∀ x ∈ p0, x.block < W.heap.size := by obtain ⟨m, hm⟩ := k0; exact DataW.trod_lt m _ _ _ hm
  obtain ⟨A0, n0, c0, z0, rfl, m0, rd0, f0⟩ := open_mem (hval 0 48 v0 rfl rfl) h0
  obtain ⟨a1, rfl, rfl, rfl, w1⟩ := open_int Try.underlying3 (hval 1 3 v1 rfl rfl) h1
  obtain ⟨a2, rfl, rfl, rfl, w2⟩ := open_int Try.underlying27 (hval 2 27 v2 rfl rfl) h2
  clear hA0 hval0
  refine (fnExactMemOr_walk A0 n0 c0 z0 a1 a2 W rd0 m0 f0 w1 w2).mono fun e W' ⟨he, bel⟩ => ?_
  subst he
  exact ⟨_, rfl, _, _, _, [], _, [], hW', trodAll_mk1 (shut_bool Try.underlying4 _), (trodAll_cons_mk (Below.trod laidOut (by kernel_rfl) (of_decide_eq_true (by kernel_rfl)) k0 bel lt0) (trodAll_cons_mk (shut_int Try.underlying3 w1) (trodAll_cons_mk (shut_int Try.underlying27 w2) (trodAll_mk0)))), rfl, bel.frame _, fun h => by cases h⟩

/-- The given statement: for every input the law returns true, and its arguments read as before. -/
theorem fnExactMemOr_holds : Rows.FnExactMemOrSaid :=
  OpenClaim.holds_of_wide 13 Try.f13 rfl rfl rfl rfl rfl rfl rfl ⟨rfl, rfl, rfl, rfl, rfl⟩ rfl rfl rfl rfl rfl (by kernel_rfl) Try.func13 (by kernel_rfl)
    (of_decide_eq_true (by kernel_rfl)) (by unfold Func.isWrapper; first | (rw [if_pos (by decide +kernel)]; kernel_rfl) | (rw [if_neg (by decide +kernel)]; exact ⟨rfl, rfl⟩))
    (fun os started H enc _ => fnExactMemOr_lifted os started H enc)
#print axioms fnExactMemOr_holds
end Go.Proofs.Ytiliahmaolnfbaa
