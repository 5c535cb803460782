/- FnRelease: a released block was allocated and can be claimed again; releasing it twice fails. Proved for every code. No condition. -/
import Derived.Test.YtomcdfaomfkmjaaDrawRel
import Derived.Test.YtomcdfaomfkmjaaClaimL
import Derived.Test.YtomcdfaomfkmjaaOpenY
namespace Go.Proofs.Ytomcdfaomfkmjaa
open Go.ChangeShapes Go.WideShapes Go.ChangeAt Go.RowKit
set_option linter.unusedVariables false

theorem relY_lt (X : Nat) (off : Int) : relY X off < 4294967296 := by
  unfold relY
  split
  · exact packA_lt _ _ _ _
  · omega
theorem relS_bounds (X : Nat) (off : Int) : 0 ≤ relS X off ∧ relS X off ≤ 16 := by
  by_cases h : RelOk X off
  · obtain ⟨b, q0, q1, q2, q3, q4, _⟩ := rel_facts h
    rw [(rel_yes h).2.1]
    omega
  · rw [(rel_no h).2.1]; omega

set_option maxRecDepth 100000 in
set_option maxHeartbeats 4000000 in
theorem fnRelease_walk (A : Option Addr) (n c : Nat) (bs : List Int) (w0 : World) (h : RdK .u8 w0 w0.heap.size A n bs) (hm0 : n ≤ maxLen) (hf : ∀ z ∈ bs, 0 ≤ z ∧ z < 256) :
    Calls Try.prog 4 #[.slice A n c] w0 fun e w' => e = .returned (.bool true) ∧ Below w0.heap.size w0 w' := by
  have H := Lib.hid h
  have HF := Lib.hid hf
  clear h hf
  by_cases hn' : n ≤ 1048576
  · have hn : ¬ (1048576 : Int) < (n : Int) := by omega
    go_enter Try.func4, Try.ntmps4
    go_wp2_with fail
    refine (big_any A n c w0).mono ?_
    rintro e w1 ⟨rfl, rfl⟩
    go_wp2_with fail
    refine (drawRelease A n c bs w0 H.out HF.out hn').mono ?_
    rintro e w1 ⟨X, off, rfl, HX, B1⟩
    clear H HF hn' hn
    have HS := Lib.hid (fun W => sRelease_any X off W HX.out)
    have HI := Lib.hid (fun W => release_any X off W HX.out)
    by_cases hr : RelOk X off
    · obtain ⟨k1, k2, k3, k4⟩ := rel_law hr
      have hY := relY_lt X off
      have HI2 := Lib.hid (fun W => release_any (relY X off) off W hY)
      have HA := Lib.hid (fun W => blockAt_any (relY X off) off W hY)
      have HC := Lib.hid (fun W => ctlRead_any (relY X off) W hY)
      have HTX := Lib.hid (fun W => takenWords_any X W HX.out)
      have HTY := Lib.hid (fun W => takenWords_any (relY X off) W hY)
      have HCl := Lib.hid (fun W => classOf_any (relS X off) W)
      have HRX := Lib.hid (fun W => room_any X (classV (relS X off)) W HX.out)
      have HRY := Lib.hid (fun W => room_any (relY X off) (classV (relS X off)) W hY)
      have hr2 : ¬ RelOk (relY X off) off := fun h => k2 h.1
      rw [(rel_no hr2).1, (rel_no hr2).2.1, (rel_no hr2).2.2] at HI2
      rw [(at_no k2).1, (at_no k2).2.1, (at_no k2).2.2] at HA
      rw [decide_eq_true k1] at HC
      rw [decide_eq_true hr] at HI HS
      unfold readV at HC
      have hsb := relS_bounds X off
      have hsub : IntKind.i64.wrap (takenV X - takenV (relY X off)) = relS X off := by rw [k3]; exact IntWalk.i64_in _ (by omega)
      have hgt : (roomV X (classV (relS X off)) : Int) < (roomV (relY X off) (classV (relS X off)) : Int) := by omega
      generalize ((readN (relY X off) (stOf (relY X off)) : Nat) : Int) = d0 at *
      generalize ((readN (relY X off) (clOf (relY X off)) : Nat) : Int) = d1 at *
      generalize ((readN (relY X off) (mpOf (relY X off)) : Nat) : Int) = d2 at *
      generalize ((readN (relY X off) (rnOf (relY X off)) : Nat) : Int) = d3 at *
      clear k1 k2 k3 k4 hr hr2 hY hsb HX
      generalize ((roomV X (classV (relS X off)) : Nat) : Int) = rX at *
      generalize ((roomV (relY X off) (classV (relS X off)) : Nat) : Int) = rY at *
      generalize takenV X = tX at *
      generalize takenV (relY X off) = tY at *
      generalize classV (relS X off) = cl at *
      generalize ((relY X off : Nat) : Int) = y at *
      generalize relS X off = z at *
      go_wp2_with fail
      refine (HS.out _).mono ?_
      rintro e w2 ⟨rfl, hb2⟩
      have B2 := Lib.hid (B1.out.trans (hb2.mono B1.out.size))
      clear hb2 B1
      go_wp2_with fail
      refine (HI.out _).mono ?_
      rintro e w3 ⟨rfl, hb3⟩
      have B3 := Lib.hid (B2.out.trans (hb3.mono B2.out.size))
      clear hb3 B2
      go_wp2_with fail
      refine (HI2.out _).mono ?_
      rintro e w4 ⟨rfl, hb4⟩
      have B4 := Lib.hid (B3.out.trans (hb4.mono B3.out.size))
      clear hb4 B3
      go_wp2_with fail
      refine (HA.out _).mono ?_
      rintro e w5 ⟨rfl, hb5⟩
      have B5 := Lib.hid (B4.out.trans (hb5.mono B4.out.size))
      clear hb5 B4
      go_wp2_with fail
      refine (HC.out _).mono ?_
      rintro e w6 ⟨rfl, hb6⟩
      have B6 := Lib.hid (B5.out.trans (hb6.mono B5.out.size))
      have B6' := Lib.hid (B6.out.alloc B6.out.size (.cells #[.int .i64 d0, .int .i64 d1, .int .u32 d2, .int .i64 d3] 42))
      clear hb6 B5 B6
      go_wp2_with fail
      refine (HTX.out _).mono ?_
      rintro e w7 ⟨rfl, hb7⟩
      have B7 := Lib.hid (B6'.out.trans (hb7.mono B6'.out.size))
      clear hb7 B6'
      go_wp2_with fail
      refine (HTY.out _).mono ?_
      rintro e w8 ⟨rfl, hb8⟩
      have B8 := Lib.hid (B7.out.trans (hb8.mono B7.out.size))
      clear hb8 B7
      go_wp2_with fail
      refine (HCl.out _).mono ?_
      rintro e w9 ⟨rfl, rfl⟩
      go_wp2_with fail
      refine (HRY.out _).mono ?_
      rintro e w10 ⟨rfl, hb10⟩
      have B10 := Lib.hid (B8.out.trans (hb10.mono B8.out.size))
      clear hb10 B8
      go_wp2_with fail
      refine (HCl.out _).mono ?_
      rintro e w9 ⟨rfl, rfl⟩
      go_wp2_with fail
      refine (HRX.out _).mono ?_
      rintro e w11 ⟨rfl, hb11⟩
      have B11 := Lib.hid (B10.out.trans (hb11.mono B10.out.size))
      clear hb11 B10
      go_wp2
      go_ret
      exact ⟨rfl, B11.out⟩
    · rw [(rel_no hr).1, (rel_no hr).2.1, (rel_no hr).2.2] at HI HS
      clear hr HX
      go_wp2_with fail
      refine (HS.out _).mono ?_
      rintro e w2 ⟨rfl, hb2⟩
      have B2 := Lib.hid (B1.out.trans (hb2.mono B1.out.size))
      clear hb2 B1
      go_wp2_with fail
      refine (HI.out _).mono ?_
      rintro e w3 ⟨rfl, hb3⟩
      have B3 := Lib.hid (B2.out.trans (hb3.mono B2.out.size))
      clear hb3 B2
      go_wp2
      go_ret
      exact ⟨rfl, B3.out⟩
  · have hn : (1048576 : Int) < (n : Int) := by omega
    go_enter Try.func4, Try.ntmps4
    go_wp2_with fail
    refine (big_any A n c w0).mono ?_
    rintro e w1 ⟨rfl, rfl⟩
    go_wp2
    go_ret
    exact ⟨rfl, Below.refl _ _⟩

set_option maxRecDepth 100000 in
theorem fnRelease_lifted (os : Os) (started : os.Started) (H : Type) (enc : TypeId × Value → H) :
    ReturnsInHanded {} Try.checked os 4 .any (Rows.fnReleaseSpec.pre6 enc Try.prog Try.f4 Rows.fnReleaseRow.domain false) (Rows.fnReleaseSpec.post enc Try.prog Try.f4 false true false false) := by
  refine returnsInHanded_of_change (C := Try.checked) own started (by kernel_rfl) Try.func4
    (ChangeSpec.witness6 (enc := enc) (C := Try.checked) false ⟨#[], #[.slice none 0 0], []⟩ 8 (by kernel_rfl) (by kernel_rfl) (by kernel_rfl) (by kernel_rfl)) ?_
  intro W base args ds gs before hval0 hW hcnd _
  have hval : ∀ (j : Nat) t v, Try.f4.params[j]? = some t → args[j]? = some v → Value.okWide Try.prog W .any base t v := hval0
  have hW' := hW
  obtain ⟨p, q, hA0, hV, rfl, hfz, hnd⟩ := hW
  have hA : DataW.TrodAll enc Try.prog W 0 (fun _ => true) true Try.f4.params.toList args.toList ds p := hA0
  rw [Try.params4] at hA hval
  obtain ⟨v0, vs0, d0, ds0, p0, q0, hargs, rfl, rfl, h0, r0⟩ := trodAll_cons hA
  obtain ⟨rfl, rfl, rfl⟩ := trodAll_nil r0
  obtain rfl : args = #[v0] := by cases args; simp_all
  obtain ⟨rfl, rfl⟩ := trodVars_none hV
  have k0 := h0
  have lt0 : ∀ x ∈ p0, x.block < W.heap.size := by obtain ⟨m, hm⟩ := k0; exact DataW.trod_lt m _ _ _ hm
  obtain ⟨A0, n0, c0, z0, rfl, m0, rd0, f0⟩ := open_bytes (hval 0 22 v0 rfl rfl) h0
  clear hA0 hval0
  refine (fnRelease_walk A0 n0 c0 z0 W rd0 m0 f0).mono fun e W' ⟨he, bel⟩ => ?_
  subst he
  exact ⟨_, rfl, _, _, _, [], _, [], hW', trodAll_mk1 (shut_bool Try.underlying4 _), (trodAll_cons_mk (Below.trod laidOut (by kernel_rfl) (of_decide_eq_true (by kernel_rfl)) k0 bel lt0) (trodAll_mk0)), rfl, bel.frame _, fun h => by cases h⟩

/-- The given statement: for every input the law returns true, and its arguments read as before. -/
theorem fnRelease_holds : Rows.FnReleaseSaid :=
  OpenClaim.holds_of_wide 4 Try.f4 rfl rfl rfl rfl rfl rfl rfl ⟨rfl, rfl, rfl, rfl, rfl⟩ rfl rfl rfl rfl rfl (by kernel_rfl) Try.func4 (by kernel_rfl)
    (of_decide_eq_true (by kernel_rfl)) (by unfold Func.isWrapper; first | (rw [if_pos (by decide +kernel)]; kernel_rfl) | (rw [if_neg (by decide +kernel)]; exact ⟨rfl, rfl⟩))
    (fun os started H enc _ => fnRelease_lifted os started H enc)
#print axioms fnRelease_holds
end Go.Proofs.Ytomcdfaomfkmjaa
