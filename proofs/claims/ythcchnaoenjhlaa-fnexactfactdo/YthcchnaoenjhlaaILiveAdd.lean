/- The contract of the program's LiveAdd: the list with the block added, in memory of the call's own. -/
import Derived.Test.YthcchnaoenjhlaaILiveOk
import Derived.Test.YthcchnaoenjhlaaLiveC
import Derived.Test.YthcchnaoenjhlaaISet
import Derived.Test.YthcchnaoenjhlaaSeqP
namespace Go.Proofs.Ythcchnaoenjhlaa
open Go.RowKit Go.Maps

theorem wfP_cons {ps : List (Int × Int)} {b : Int × Int} (h : WfP ps) (hb : Wf2 b) : WfP (sortV (b :: ps)) := fun p hp => by
  rcases List.mem_cons.1 ((sortV_perm _).mem_iff.1 hp) with rfl | hp
  · exact ⟨int_of_wf hb.1, int_of_wf hb.2⟩
  · exact h p hp
theorem mem_added {ps : List (Int × Int)} {b : Int × Int} (h : WfP ps) (hb : Wf2 b) (p : Int × Int) : p ∈ sortV (b :: ps) ↔ Wf2 p ∧ (decide (p = b) || decide (p ∈ ps)) = true := by
  rw [(sortV_perm _).mem_iff, List.mem_cons]
  simp only [Bool.or_eq_true, decide_eq_true_eq]
  constructor
  · rintro (rfl | hp)
    · exact ⟨hb, .inl rfl⟩
    · exact ⟨h.wf2 hp, .inr hp⟩
  · exact fun h => h.2

set_option maxRecDepth 100000 in
set_option maxHeartbeats 4000000 in
theorem liveAdd_any (A : Option Addr) (n c B : Nat) (ps : List (Int × Int)) (z x y : Int) (w : World) (h : RdP w B A n ps) (hB : B ≤ w.heap.size) (hm : n ≤ maxLen) (hW : WfP ps) (hb : Wf2 (x, y)) :
    Calls Try.prog 94 #[.slice A n c, .int .i64 z, .agg #[.int .i64 x, .int .i64 y]] w fun e w' => ∃ A' c', e = .returned (.tuple #[.slice A' (addR ps z (x, y)).length c', .bool (addOk ps z (x, y))]) ∧ OwnP w' w.heap.size A' (addR ps z (x, y)).length c' (addR ps z (x, y)) ∧ Below w.heap.size w w' := by
  have HC := Lib.hid (liveOk_any A n c B ps z (w.alloc (.cells #[.int .i64 x, .int .i64 y] 71)) (h.alloc hB _) (by simp; omega) hm hW)
  cases hv : liveOkV ps z with
  | false =>
    rw [hv] at HC
    have hr : addR ps z (x, y) = [] := by unfold addR addOk; rw [hv]; rfl
    have hr2 : addOk ps z (x, y) = false := by unfold addOk; rw [hv]; rfl
    rw [hr, hr2]
    clear h hW hv hr hr2
    go_enter Try.func94, Try.ntmps94
    go_wp2_with fail
    refine HC.out.mono ?_
    rintro e w1 ⟨rfl, hb1⟩
    have HB := Lib.hid (one_new hb1).2.1
    clear hb1 HC
    go_wp2
    go_ret2
    exact ⟨none, 0, rfl, OwnP.zero, HB.out⟩
  | true =>
    rw [hv] at HC
    have hn : n ≤ 300 := by rw [← h.1]; exact (liveOkV_z hv).1.2.2
    have H := Lib.hid h
    have HW := Lib.hid hW
    have HV := Lib.hid hv
    have HWb := Lib.hid hb
    clear h hW hv hb hm
    go_enter Try.func94, Try.ntmps94
    go_wp2_with fail
    refine HC.out.mono ?_
    rintro e w1 ⟨rfl, hb1⟩
    obtain ⟨hn0, hb2, hz⟩ := one_new hb1
    have HN1 : Hid (BlkAt w1 w.heap.size x y) := hn0
    have HB1 := Lib.hid hb2
    clear hb1 HC hn0 hb2
    go_wp2_with fail
    refine (blockSetOf_any A n c B ps w1 (H.out.below (HB1.out.mono hB)) (by omega) (by omega) HW.out).mono ?_
    rintro e w2 ⟨rfl, hs2, hb2⟩
    have HN2 := Lib.hid (HN1.out.below hb2)
    have HB2 := Lib.hid (HB1.out.trans (hb2.mono HB1.out.size))
    have HS2 := Lib.hid hs2
    clear hs2 hb2 HN1 HB1
    have c0 := HN2.out.cell0
    have c1 := HN2.out.cell1
    have hlk := HS2.out.look HWb.out
    unfold valP at hlk
    by_cases hin : (x, y) ∈ ps
    · have hr0 := add_twice (z := z) hin
      have hr : addR ps z (x, y) = [] := by unfold addR addOk; rw [hr0, Bool.and_false]; rfl
      have hr2 : addOk ps z (x, y) = false := by unfold addOk; rw [hr0, Bool.and_false]
      have HR := Lib.hid hr
      have HR2 := Lib.hid hr2
      simp only [hin, decide_true] at hlk
      clear hr hr2 hr0
      go_wp2
      go_ret2
      rw [HR.out, HR2.out]
      exact ⟨none, 0, rfl, OwnP.zero, HB2.out⟩
    · simp only [hin, decide_false] at hlk
      obtain ⟨w3, hup, hs3, hg3⟩ := HS2.out.store (by unfold maxLen; omega) HWb.out
      have HS3 := Lib.hid hs3
      have HB3 := Lib.hid (HB2.out.grown hg3 HB2.out.size (fun j hj => by injection hj with hj; omega))
      have HSo := Lib.hid (sorted_any w1.heap.size (n + 1) _ (sortV ((x, y) :: ps)) w3 hs3 (by omega) (sort_pw HV.out hin) (mem_added HW.out HWb.out) (by rw [sortV_len, List.length_cons, H.out.1]; omega))
      have HL := Lib.hid (show (sortV ((x, y) :: ps)).length = n + 1 by rw [sortV_len, List.length_cons, H.out.1])
      have HWt := Lib.hid (wfP_cons HW.out HWb.out)
      obtain ⟨ha1, ha2⟩ := add_sorted (b := (x, y)) HV.out
      have HA1 := Lib.hid ha1
      have HA2 := Lib.hid ha2
      unfold valP at hup
      clear hs3 hg3 HS2 ha1 ha2
      generalize sortV ((x, y) :: ps) = ts at *
      go_wp2_with fail
      refine HSo.out.mono ?_
      rintro e w4 ⟨A4, c4, rfl, ho4, hb4⟩
      have HO4 := Lib.hid ho4
      have HB4 := Lib.hid (HB3.out.trans (hb4.mono HB3.out.size))
      have HC4 := Lib.hid (liveOk_any A4 ts.length c4 _ ts z w4 ho4.rd (Nat.le_refl _) (by rw [HL.out]; unfold maxLen; omega) HWt.out)
      have hz3 := HB3.out.size
      clear ho4 hb4 HSo HB3 HS3 HN2 HB2 c0 c1 hlk hup
      cases hv2 : liveOkV (insV ps (x, y)) z with
      | false =>
        rw [HA1.out, hv2] at HC4
        have hr : addR ps z (x, y) = [] := by unfold addR addOk; rw [hv2, Bool.and_false]; rfl
        have hr2 : addOk ps z (x, y) = false := by unfold addOk; rw [hv2, Bool.and_false]
        have HR := Lib.hid hr
        have HR2 := Lib.hid hr2
        clear hr hr2 hv2
        go_wp2_with fail
        refine HC4.out.mono ?_
        rintro e w5 ⟨rfl, hb5⟩
        have HB5 := Lib.hid (HB4.out.trans (hb5.mono HB4.out.size))
        clear hb5 HC4 HB4
        go_wp2
        go_ret2
        rw [HR.out, HR2.out]
        exact ⟨none, 0, rfl, OwnP.zero, HB5.out⟩
      | true =>
        rw [HA1.out, hv2] at HC4
        have e1 := HA2.out hv2
        have hr2 : addOk ps z (x, y) = true := by unfold addOk; rw [hv2, HV.out]; rfl
        have hr : addR ps z (x, y) = ts := by unfold addR; rw [if_pos hr2, e1]
        have HR := Lib.hid hr
        have HR2 := Lib.hid hr2
        clear hr hr2 hv2 e1 HA2
        go_wp2_with fail
        refine HC4.out.mono ?_
        rintro e w5 ⟨rfl, hb5⟩
        have HB5 := Lib.hid (HB4.out.trans (hb5.mono HB4.out.size))
        have HO5 := Lib.hid (HO4.out.below hb5)
        clear hb5 HC4 HB4 HO4
        go_wp2
        go_ret2
        rw [HR.out, HR2.out]
        exact ⟨A4, c4, rfl, HO5.out.from_ hz3, HB5.out⟩

end Go.Proofs.Ythcchnaoenjhlaa
