/- FnHead: HeadWord has no block of a page, nothing can be claimed from it or from HeldWord; it counts as one chunk, HeldWord as none. Proved for every code. No condition. -/
import Derived.Test.YtomcdfaomfkmjaaDrawHd
import Derived.Test.YtomcdfaomfkmjaaSRoom
import Derived.Test.YtomcdfaomfkmjaaClaimL
import Derived.Test.YtomcdfaomfkmjaaOpenY
namespace Go.Proofs.Ytomcdfaomfkmjaa
open Go.ChangeShapes Go.WideShapes Go.ChangeAt Go.RowKit
set_option linter.unusedVariables false

theorem held_read : GoodX 3145728 ∧ readV 3145728 = #[.int .i64 3, .int .i64 0, .int .u32 0, .int .i64 0] := by
  have h := good_pack held_good
  rw [held_pack] at h
  exact h
theorem held_room (K : Int) : roomV 3145728 K = 0 := room_not (fun h => by
  have h1 : stOf 3145728 = 3 := rfl
  rcases h.2.2 with h2 | h2
  · omega
  · omega)
theorem held_taken : takenV 3145728 = 0 := by
  have h1 : stOf 3145728 = 3 := rfl
  unfold takenV
  rw [if_neg (fun h => by omega), if_neg (fun h => by omega)]
theorem head_facts {R : Int} (h : CtlGood 2 0 0 R) : (∀ K, roomV (packA 2 0 0 R) K = 0) ∧ takenV (packA 2 0 0 R) = 16 ∧ ∀ off, ¬ AtOk (packA 2 0 0 R) off := by
  obtain ⟨e1, _⟩ := unpack h
  have hg := (good_pack h).1
  rw [packA_good h] at *
  refine ⟨fun K => room_not (fun h => ?_), ?_, fun off h => ?_⟩
  · rcases h.2.2 with h2 | h2 <;> omega
  · unfold takenV
    rw [if_neg (fun h => by omega), if_pos ⟨hg, by omega⟩]
  · have := h.2.1
    omega
theorem none_at (off : Int) : ¬ AtOk 0 off := fun h => by
  have h1 : stOf 0 = 0 := rfl
  have := h.2.1
  omega

set_option maxRecDepth 100000 in
set_option maxHeartbeats 4000000 in
theorem fnHead_walk (A : Option Addr) (n c : Nat) (bs : List Int) (w0 : World) (h : RdK .u8 w0 w0.heap.size A n bs) (hm0 : n ≤ maxLen) (hf : ∀ z ∈ bs, 0 ≤ z ∧ z < 256) :
    Calls Try.prog 5 #[.slice A n c] w0 fun e w' => e = .returned (.bool true) ∧ Below w0.heap.size w0 w' := by
  have H := Lib.hid h
  have HF := Lib.hid hf
  clear h hf
  by_cases hn' : n ≤ 1048576
  · have hn : ¬ (1048576 : Int) < (n : Int) := by omega
    go_enter Try.func5, Try.ntmps5
    go_wp2_with fail
    refine (big_any A n c w0).mono ?_
    rintro e w1 ⟨rfl, rfl⟩
    go_wp2_with fail
    refine (drawHeadWord A n c bs w0 H.out HF.out hn').mono ?_
    rintro e w1 ⟨R, rfl, HW, B1⟩
    clear H HF hn' hn HW
    have HI := Lib.hid (fun W => headWord_any R W)
    have HS := Lib.hid (fun W => sHeadWord_any R W)
    have HX := packA_lt 2 0 0 R
    have HR := Lib.hid (fun K W => room_any (packA 2 0 0 R) K W HX)
    have HT := Lib.hid (fun W => takenWords_any (packA 2 0 0 R) W HX)
    have HB := Lib.hid (fun W => blockAt_any (packA 2 0 0 R) 0 W HX)
    have HRh : Hid (∀ (K : Int) (W : World), Calls Try.prog 18 #[.int .u32 3145728, .int .i64 K] W fun e w' => e = .returned (.int .i64 0) ∧ Below W.heap.size W w') := fun K W => by
      have := room_any 3145728 K W (by omega)
      rwa [held_room] at this
    have HTh : Hid (∀ W : World, Calls Try.prog 19 #[.int .u32 3145728] W fun e w' => e = .returned (.int .i64 0) ∧ Below W.heap.size W w') := fun W => by
      have := takenWords_any 3145728 W (by omega)
      rwa [held_taken] at this
    have HCh : Hid (∀ W : World, Calls Try.prog 27 #[.int .u32 3145728] W fun e w' => e = .returned (.tuple #[.agg #[.int .i64 3, .int .i64 0, .int .u32 0, .int .i64 0], .bool true]) ∧ Below W.heap.size W w') := fun W => by
      have := ctlRead_any 3145728 W (by omega)
      rwa [held_read.2, decide_eq_true held_read.1] at this
    have hA : ¬ AtOk (packA 2 0 0 R) 0 := by
      by_cases hg : CtlGood 2 0 0 R
      · exact (head_facts hg).2.2 0
      · rw [packA_bad hg]; exact none_at 0
    rw [(at_no hA).1, (at_no hA).2.1, (at_no hA).2.2] at HB
    obtain ⟨q, hq⟩ : ∃ q, decide (CtlGood 2 0 0 R) = q := ⟨_, rfl⟩
    have HK : q = true → (∀ K, roomV (packA 2 0 0 R) K = 0) ∧ takenV (packA 2 0 0 R) = 16 := fun e => by
      have hg : CtlGood 2 0 0 R := of_decide_eq_true (hq.trans e)
      exact ⟨(head_facts hg).1, (head_facts hg).2.1⟩
    rw [hq] at HI HS
    clear hA HX hq
    generalize packA 2 0 0 R = X at *
    cases q with
    | true =>
      obtain ⟨k1, k2⟩ := HK rfl
      simp only [k1] at HR
      rw [k2] at HT
      clear HK k1 k2
      go_wp2_with fail
      refine (HI.out _).mono ?_
      rintro e w2 ⟨rfl, hb2⟩
      have B2 := Lib.hid (B1.out.trans (hb2.mono B1.out.size))
      clear hb2 B1
      go_wp2_with fail
      refine (HS.out _).mono ?_
      rintro e w3 ⟨rfl, hb3⟩
      have B3 := Lib.hid (B2.out.trans (hb3.mono B2.out.size))
      clear hb3 B2
      go_wp2_with fail
      refine (heldWord_any _).mono ?_
      rintro e w4 ⟨rfl, hb4⟩
      have B4 := Lib.hid (B3.out.trans (hb4.mono B3.out.size))
      clear hb4 B3
      go_wp2_with fail
      refine (HCh.out _).mono ?_
      rintro e w5 ⟨rfl, hb5⟩
      have B5 := Lib.hid (B4.out.trans (hb5.mono B4.out.size))
      clear hb5 B4 HI HS HCh
      go_wp2
      go_loopw [11] (fun i wr => ∃ k : Nat, k ≤ 5 ∧ i = .int .i64 k ∧ Hid (Below (w5.heap.size + 1) (w5.alloc (.cells #[.int .i64 3, .int .i64 0, .int .u32 0, .int .i64 0] 42)) wr)) (fun i _ => 5 - (intOf i).toNat)
      case atStart => exact ⟨0, by omega, rfl, Below.refl _ _⟩
      case round =>
        obtain ⟨k, hk, rfl, BR⟩ := hrel
        by_cases hlt : k < 5
        · go_wp2_with fail
          refine (HRh.out _ _).mono ?_
          rintro e w6 ⟨rfl, hb6⟩
          have B6 := Lib.hid (below_on BR.out (by simp) hb6)
          clear hb6 BR
          go_wp2_with fail
          refine (HR.out _ _).mono ?_
          rintro e w7 ⟨rfl, hb7⟩
          have B7 := Lib.hid (below_on B6.out (by simp) hb7)
          clear hb7 B6
          go_wp2
          go_roundw
          case rel => exact ⟨k + 1, by omega, by go_num, B7⟩
          case measure => simp [intOf]; omega
        · obtain rfl : k = 5 := by omega
          go_wp2_with fail
          refine (HB.out _).mono ?_
          rintro e w6 ⟨rfl, hb6⟩
          have B6 := Lib.hid (below_on BR.out (by simp) hb6)
          obtain ⟨c0, _, _, _⟩ := new4 B6.out
          clear hb6 BR
          go_wp2_with fail
          refine (HT.out _).mono ?_
          rintro e w7 ⟨rfl, hb7⟩
          have B7 := Lib.hid (below_on B6.out (by simp) hb7)
          clear hb7 B6
          go_wp2_with fail
          refine (HTh.out _).mono ?_
          rintro e w8 ⟨rfl, hb8⟩
          have B8 := Lib.hid (below_on B7.out (by simp) hb8)
          clear hb8 B7
          go_wp2
          go_ret
          exact ⟨rfl, (B5.out.alloc B5.out.size _).trans (B8.out.mono (by have := B5.out.size; omega))⟩
    | false =>
      clear HK
      go_wp2_with fail
      refine (HI.out _).mono ?_
      rintro e w2 ⟨rfl, hb2⟩
      have B2 := Lib.hid (B1.out.trans (hb2.mono B1.out.size))
      clear hb2 B1
      go_wp2_with fail
      refine (HS.out _).mono ?_
      rintro e w3 ⟨rfl, hb3⟩
      have B3 := Lib.hid (B2.out.trans (hb3.mono B2.out.size))
      clear hb3 B2
      go_wp2_with fail
      refine (heldWord_any _).mono ?_
      rintro e w4 ⟨rfl, hb4⟩
      have B4 := Lib.hid (B3.out.trans (hb4.mono B3.out.size))
      clear hb4 B3
      go_wp2_with fail
      refine (HCh.out _).mono ?_
      rintro e w5 ⟨rfl, hb5⟩
      have B5 := Lib.hid (B4.out.trans (hb5.mono B4.out.size))
      clear hb5 B4 HI HS HCh
      go_wp2
      go_loopw [11] (fun i wr => ∃ k : Nat, k ≤ 5 ∧ i = .int .i64 k ∧ Hid (Below (w5.heap.size + 1) (w5.alloc (.cells #[.int .i64 3, .int .i64 0, .int .u32 0, .int .i64 0] 42)) wr)) (fun i _ => 5 - (intOf i).toNat)
      case atStart => exact ⟨0, by omega, rfl, Below.refl _ _⟩
      case round =>
        obtain ⟨k, hk, rfl, BR⟩ := hrel
        by_cases hlt : k < 5
        · go_wp2_with fail
          refine (HRh.out _ _).mono ?_
          rintro e w6 ⟨rfl, hb6⟩
          have B6 := Lib.hid (below_on BR.out (by simp) hb6)
          clear hb6 BR
          go_wp2
          go_roundw
          case rel => exact ⟨k + 1, by omega, by go_num, B6⟩
          case measure => simp [intOf]; omega
        · obtain rfl : k = 5 := by omega
          go_wp2_with fail
          refine (HB.out _).mono ?_
          rintro e w6 ⟨rfl, hb6⟩
          have B6 := Lib.hid (below_on BR.out (by simp) hb6)
          obtain ⟨c0, _, _, _⟩ := new4 B6.out
          clear hb6 BR
          go_wp2_with fail
          refine (HTh.out _).mono ?_
          rintro e w8 ⟨rfl, hb8⟩
          have B8 := Lib.hid (below_on B6.out (by simp) hb8)
          clear hb8 B6
          go_wp2
          go_ret
          exact ⟨rfl, (B5.out.alloc B5.out.size _).trans (B8.out.mono (by have := B5.out.size; omega))⟩
  · have hn : (1048576 : Int) < (n : Int) := by omega
    go_enter Try.func5, Try.ntmps5
    go_wp2_with fail
    refine (big_any A n c w0).mono ?_
    rintro e w1 ⟨rfl, rfl⟩
    go_wp2
    go_ret
    exact ⟨rfl, Below.refl _ _⟩

set_option maxRecDepth 100000 in
theorem fnHead_lifted (os : Os) (started : os.Started) (H : Type) (enc : TypeId × Value → H) :
    ReturnsInHanded {} Try.checked os 5 .any (Rows.fnHeadSpec.pre6 enc Try.prog Try.f5 Rows.fnHeadRow.domain false) (Rows.fnHeadSpec.post enc Try.prog Try.f5 false true false false) := by
  refine returnsInHanded_of_change (C := Try.checked) own started (by kernel_rfl) Try.func5
    (ChangeSpec.witness6 (enc := enc) (C := Try.checked) false ⟨#[], #[.slice none 0 0], []⟩ 8 (by kernel_rfl) (by kernel_rfl) (by kernel_rfl) (by kernel_rfl)) ?_
  intro W base args ds gs before hval0 hW hcnd _
  have hval : ∀ (j : Nat) t v, Try.f5.params[j]? = some t → args[j]? = some v → Value.okWide Try.prog W .any base t v := hval0
  have hW' := hW
  obtain ⟨p, q, hA0, hV, rfl, hfz, hnd⟩ := hW
  have hA : DataW.TrodAll enc Try.prog W 0 (fun _ => true) true Try.f5.params.toList args.toList ds p := hA0
  rw [Try.params5] at hA hval
  obtain ⟨v0, vs0, d0, ds0, p0, q0, hargs, rfl, rfl, h0, r0⟩ := trodAll_cons hA
  obtain ⟨rfl, rfl, rfl⟩ := trodAll_nil r0
  obtain rfl : args = #[v0] := by cases args; simp_all
  obtain ⟨rfl, rfl⟩ := trodVars_none hV
  have k0 := h0
  have lt0 : ∀ x ∈ p0, x.block < W.heap.size := by obtain ⟨m, hm⟩ := k0; exact DataW.trod_lt m _ _ _ hm
  obtain ⟨A0, n0, c0, z0, rfl, m0, rd0, f0⟩ := open_bytes (hval 0 22 v0 rfl rfl) h0
  clear hA0 hval0
  refine (fnHead_walk A0 n0 c0 z0 W rd0 m0 f0).mono fun e W' ⟨he, bel⟩ => ?_
  subst he
  exact ⟨_, rfl, _, _, _, [], _, [], hW', trodAll_mk1 (shut_bool Try.underlying4 _), (trodAll_cons_mk (Below.trod laidOut (by kernel_rfl) (of_decide_eq_true (by kernel_rfl)) k0 bel lt0) (trodAll_mk0)), rfl, bel.frame _, fun h => by cases h⟩

/-- The given statement: for every input the law returns true, and its arguments read as before. -/
theorem fnHead_holds : Rows.FnHeadSaid :=
  OpenClaim.holds_of_wide 5 Try.f5 rfl rfl rfl rfl rfl rfl rfl ⟨rfl, rfl, rfl, rfl, rfl⟩ rfl rfl rfl rfl rfl (by kernel_rfl) Try.func5 (by kernel_rfl)
    (of_decide_eq_true (by kernel_rfl)) (by unfold Func.isWrapper; first | (rw [if_pos (by decide +kernel)]; kernel_rfl) | (rw [if_neg (by decide +kernel)]; exact ⟨rfl, rfl⟩))
    (fun os started H enc _ => fnHead_lifted os started H enc)
#print axioms fnHead_holds
end Go.Proofs.Ytomcdfaomfkmjaa
