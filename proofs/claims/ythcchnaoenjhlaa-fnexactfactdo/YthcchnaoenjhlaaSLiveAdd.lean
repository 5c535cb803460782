/- The contract of the model's LiveAdd: the list with the block added, in memory of the call's own. -/
import Derived.Test.YthcchnaoenjhlaaSLiveCut
import Derived.Test.YthcchnaoenjhlaaBlkP
import Derived.Test.YthcchnaoenjhlaaSetP
namespace Go.Proofs.Ythcchnaoenjhlaa
open Go.RowKit Go.Sort

theorem while_at {x : Int} : ∀ {ps : List (Int × Int)} {k : Nat}, k ≤ ps.length → (∀ j, j < k → pa ps j < x) → (k < ps.length → ¬ pa ps k < x) → ps.takeWhile (fun p => decide (p.1 < x)) = ps.take k ∧ ps.dropWhile (fun p => decide (p.1 < x)) = ps.drop k
  | [], k, h, _, _ => by simp at h; subst h; simp
  | p :: ps, 0, _, _, h2 => by
    have := h2 (by simp)
    have e : pa (p :: ps) 0 = p.1 := by simp [pa]
    rw [e] at this
    simp [this]
  | p :: ps, k + 1, h, h1, h2 => by
    have h3 := h1 0 (by omega)
    have e : pa (p :: ps) 0 = p.1 := by simp [pa]
    rw [e] at h3
    have ih := while_at (ps := ps) (k := k) (by simpa using h) (fun j hj => by have := h1 (j + 1) (by omega); simpa [pa] using this) (fun hk => by have := h2 (by simpa using hk); simpa [pa] using this)
    simp [h3, ih.1, ih.2]
theorem wfP_ins {ps : List (Int × Int)} {b : Int × Int} (h : WfP ps) (hb : Wf2 b) : WfP (insV ps b) := fun p hp => by
  rcases List.mem_cons.1 ((insV_perm ps b).mem_iff.1 hp) with rfl | hp
  · exact ⟨int_of_wf hb.1, int_of_wf hb.2⟩
  · exact h p hp

set_option maxRecDepth 100000 in
set_option maxHeartbeats 8000000 in
theorem sLiveAdd_any (g n c B : Nat) (ps : List (Int × Int)) (z x y : Int) (w : World) (h : RdP w B (some ⟨g, 0, none⟩) n ps) (hB : B ≤ w.heap.size) (hm : n ≤ maxLen) (hW : WfP ps) (hb : Wf2 (x, y)) (hgB : g < B) (hc : n ≤ c) (hc2 : c ≤ maxLen) :
    Calls Try.prog 41 #[.slice (some ⟨g, 0, none⟩) n c, .int .i64 z, .agg #[.int .i64 x, .int .i64 y]] w fun e w' => ∃ A' c', e = .returned (.tuple #[.slice A' (addR ps z (x, y)).length c', .bool (addOk ps z (x, y))]) ∧ OwnP w' w.heap.size A' (addR ps z (x, y)).length c' (addR ps z (x, y)) ∧ Below w.heap.size w w' := by
  have HC := Lib.hid (sLiveOk_any (some ⟨g, 0, none⟩) n c B ps z (w.alloc (.cells #[.int .i64 x, .int .i64 y] 71)) (h.alloc hB _) (by simp; omega) hm hW)
  unfold maxLen at hc2
  cases hv : liveOkV ps z with
  | false =>
    rw [hv] at HC
    have hr : addR ps z (x, y) = [] := by unfold addR addOk; rw [hv]; rfl
    have hr2 : addOk ps z (x, y) = false := by unfold addOk; rw [hv]; rfl
    rw [hr, hr2]
    clear h hW hv hr hr2
    go_enter Try.func41, Try.ntmps41
    go_wp2_with fail
    refine HC.out.mono ?_
    rintro e w1 ⟨rfl, hb1⟩
    have HB := Lib.hid (one_new hb1).2.1
    clear hb1 HC
    go_wp2
    go_ret2
    exact ⟨none, 0, rfl, OwnP.zero, HB.out⟩
  | true =>
    rw [hv] at HC
    have hn : n ≤ 300 := by rw [← h.1]; exact (liveOkV_z hv).1.2.2
    have HL := Lib.hid h.1
    have H := Lib.hid h
    have HV := Lib.hid hv
    have HWi := Lib.hid (wfP_ins hW hb)
    clear h hW hv hm hb
    go_enter Try.func41, Try.ntmps41
    go_wp2_with fail
    refine HC.out.mono ?_
    rintro e w0 ⟨rfl, hb1⟩
    obtain ⟨hn0, hb2, hz⟩ := one_new hb1
    have HN0 : Hid (BlkAt w0 w.heap.size x y) := hn0
    have HB0 := Lib.hid hb2
    clear hb1 HC hn0 hb2 hz
    go_wp2
    go_loopw [8] (fun i w1 => ∃ k : Nat, k ≤ n ∧ i = .int .i64 k ∧ Hid (∀ j, j < k → pa ps j < x) ∧ Hid (BlkAt w1 w.heap.size x y) ∧ Hid (Below w.heap.size w w1)) (fun i _ => n - (intOf i).toNat)
    case atStart => exact ⟨0, Nat.zero_le _, rfl, fun j hj => absurd hj (by omega), HN0, HB0⟩
    case round =>
      obtain ⟨k, hk, rfl, HK, HN, HB⟩ := hrel
      clear HN0 HB0
      have HRd := Lib.hid (H.out.below (HB.out.mono hB))
      have HCr : Hid (∀ i, i < n → wr.cell? ⟨g, i * 2, none⟩ = some (.int .i64 (pa ps i)) ∧ wr.cell? ⟨g, i * 2 + 1, none⟩ = some (.int .i64 (pb ps i))) := fun i hi => by
        obtain ⟨g', o', e, _, hcc⟩ := HRd.out.2 (by omega)
        injection e with e
        injection e with e1 e2
        subst e1 e2
        have := hcc i hi
        rwa [Nat.zero_add] at this
      have sxr : (fun w' : World => w'.cell? ⟨w.heap.size, 0, none⟩ = some (.int .i64 x) ∧ w'.cell? ⟨w.heap.size, 1, none⟩ = some (.int .i64 y)) wr := ⟨HN.out.cell0, HN.out.cell1⟩
      have b0 := sxr.1
      have b1 := sxr.2
      clear HRd
      by_cases hlt : k < n
      · have hkn : decide ((k : Int) < (n : Int)) = true := by simp; omega
        have c1 := (HCr.out k hlt).1
        have hkl : k < ps.length := by rw [HL.out]; exact hlt
        by_cases d : pa ps k < x
        · have HK2 : Hid (∀ j, j < k + 1 → pa ps j < x) := fun j hj => by
            by_cases e : j = k
            · rw [e]; exact d
            · exact HK.out j (by omega)
          have hd : decide (pa ps k < x) = true := decide_eq_true d
          generalize pa ps k = u at *
          clear HCr sxr
          go_wp2
          go_quiet (fail)
          go_wp2
          go_roundw
          case rel => exact ⟨k + 1, by omega, by go_num, HK2, HN.out, ⟨HB.out.os, HB.out.tape, HB.out.output, HB.out.size, HB.out.block⟩⟩
          case measure => simp [intOf]; omega
        · have HT := Lib.hid (while_at (by rw [HL.out]; exact hk) HK.out (fun _ => d))
          have hd : decide (pa ps k < x) = false := decide_eq_false d
          generalize pa ps k = u at *
          have f1 : (k : Int) ≤ (c : Int) := by omega
          have f2 : k ≤ c := by omega
          have f3 : (k : Int) ≤ (n : Int) := by omega
          have f5 : ¬ c = k := by omega
          go_wp2
          go_quiet (fail)
          have HCe : Hid (∀ i, i < n → (wr.drewN nq).cell? ⟨g, i * 2, none⟩ = some (.int .i64 (pa ps i)) ∧ (wr.drewN nq).cell? ⟨g, i * 2 + 1, none⟩ = some (.int .i64 (pb ps i))) := HCr.out
          have HB1 : Hid (Below w.heap.size w (wr.drewN nq)) := ⟨HB.out.os, HB.out.tape, HB.out.output, HB.out.size, HB.out.block⟩
          have HN1 : Hid (BlkAt (wr.drewN nq) w.heap.size x y) := HN.out
          have sx0 : (fun w' : World => w'.cell? ⟨w.heap.size, 0, none⟩ = some (.int .i64 x) ∧ w'.cell? ⟨w.heap.size, 1, none⟩ = some (.int .i64 y)) (wr.drewN nq) := sxr
          clear HCr HB HN sxr b0 b1 c1 d hd
          generalize wr.drewN nq = w1 at *
          have c1 := sx0.1
          have c2 := sx0.2
          go_wp2_with fail
          refine wp_region_noPanic ?_
          refine wp_region_held_drew (S := fun w' : World => w'.cell? ⟨w.heap.size, 0, none⟩ = some (.int .i64 x) ∧ w'.cell? ⟨w.heap.size, 1, none⟩ = some (.int .i64 y)) (by kernel_rfl) sx0 (fun hHeld => ?_)
          change wpAnyH _ _ _ _ _ _ _ _ (World.drew _)
          have HCd : Hid (∀ i, i < n → w1.drew.cell? ⟨g, i * 2, none⟩ = some (.int .i64 (pa ps i)) ∧ w1.drew.cell? ⟨g, i * 2 + 1, none⟩ = some (.int .i64 (pb ps i))) := HCe.out
          have HBd : Hid (Below w.heap.size w w1.drew) := HB1.out.drew
          have sx : (fun w' : World => w'.cell? ⟨w.heap.size, 0, none⟩ = some (.int .i64 x) ∧ w'.cell? ⟨w.heap.size, 1, none⟩ = some (.int .i64 y)) w1.drew := sx0
          have hbx : w.heap.size < w1.drew.heap.size := HN1.out.lt
          have hgd : g < w1.drew.heap.size := Nat.lt_of_lt_of_le (Nat.lt_of_lt_of_le hgB hB) (Nat.le_of_lt hbx)
          clear HCe HB1 sx0 HN1 c1 c2
          generalize w1.drew = w2 at *
          have hz2 := HBd.out.size
          refine wpAnyH_take (i := 1) (v := ?v1) rfl (by kernel_rfl) (by kernel_rfl) (by kernel_rfl) (fun _ _ _ h => h) (Or.inl ⟨by rfl, ?hy1⟩) (by assumption) ?rest1
          case hy1 =>
            intro wz hSw
            clear hSw
            go_simp <;> with_reducible rfl
          try simp only [List.getElem_toArray, List.getElem_cons_zero, List.getElem_cons_succ, Act.put, List.setIfInBounds_toArray, List.set_cons_zero, List.set_cons_succ]
          refine wpAnyH_take (i := 2) (v := ?v2) rfl (by kernel_rfl) (by kernel_rfl) (by kernel_rfl) (fun _ _ _ h => h) (Or.inl ⟨by rfl, ?hy2⟩) (by assumption) ?rest2
          case hy2 =>
            intro wz hSw
            clear hSw
            go_simp <;> with_reducible rfl
          try simp only [List.getElem_toArray, List.getElem_cons_zero, List.getElem_cons_succ, Act.put, List.setIfInBounds_toArray, List.set_cons_zero, List.set_cons_succ]
          refine wpAnyH_take (i := 3) (v := ?v3) rfl (by kernel_rfl) (by kernel_rfl) (by kernel_rfl) (fun _ _ _ h => h) (Or.inl ⟨by rfl, ?hy3⟩) (by assumption) ?rest3
          case hy3 =>
            intro wz hSw
            clear hSw
            go_simp <;> with_reducible rfl
          try simp only [List.getElem_toArray, List.getElem_cons_zero, List.getElem_cons_succ, Act.put, List.setIfInBounds_toArray, List.set_cons_zero, List.set_cons_succ]
          refine wpAnyH_take (i := 5) (v := ?v4) rfl (by kernel_rfl) (by kernel_rfl) (by kernel_rfl) (fun _ _ _ h => h) (Or.inl ⟨by rfl, ?hy4⟩) (by assumption) ?rest4
          case hy4 =>
            intro wz hSw
            go_simp <;> with_reducible rfl
          try simp only [List.getElem_toArray, List.getElem_cons_zero, List.getElem_cons_succ, Act.put, List.setIfInBounds_toArray, List.set_cons_zero, List.set_cons_succ]
          refine wpAnyH_take (i := 8) (v := ?v5) rfl (by kernel_rfl) (by kernel_rfl) (by kernel_rfl) (fun _ _ _ h => h) (Or.inl ⟨by rfl, ?hy5⟩) (by assumption) ?rest5
          case hy5 =>
            intro wz hSw
            clear hSw
            go_simp <;> with_reducible rfl
          try simp only [List.getElem_toArray, List.getElem_cons_zero, List.getElem_cons_succ, Act.put, List.setIfInBounds_toArray, List.set_cons_zero, List.set_cons_succ]
          refine wpAnyH_take (i := 9) (v := ?v6) rfl (by kernel_rfl) (by kernel_rfl) (by kernel_rfl) (fun _ _ _ h => h) (Or.inl ⟨by rfl, ?hy6⟩) (by assumption) ?rest6
          case hy6 =>
            intro wz hSw
            clear hSw
            go_simp <;> with_reducible rfl
          try simp only [List.getElem_toArray, List.getElem_cons_zero, List.getElem_cons_succ, Act.put, List.setIfInBounds_toArray, List.set_cons_zero, List.set_cons_succ]
          refine wpAnyH_take (i := 10) (v := ?v7) rfl (by kernel_rfl) (by kernel_rfl) (by kernel_rfl) (fun _ _ _ h => h) (Or.inl ⟨by rfl, ?hy7⟩) (by assumption) ?rest7
          case hy7 =>
            intro wz hSw
            clear hSw
            go_simp <;> with_reducible rfl
          try simp only [List.getElem_toArray, List.getElem_cons_zero, List.getElem_cons_succ, Act.put, List.setIfInBounds_toArray, List.set_cons_zero, List.set_cons_succ]
          refine wpAnyH_ready (rs := [0, 6]) (by kernel_rfl) (by simp) (AllReadyH.cons rfl (fun K hK => ?_) (AllReadyH.cons rfl (fun K hK => ?_) AllReadyH.nil))
          · go_simp
            have OE : Hid (OwnP (w2.alloc (.cells #[] 71)) w2.heap.size (some ⟨w2.heap.size, 0, none⟩) 0 0 []) := World.ownsRow_made w2 #[] 0 (Nat.le_refl _) (Nat.zero_le _) (by simp)
            have BE : Hid (Below w2.heap.size w2 (w2.alloc (.cells #[] 71))) := (Below.refl _ w2).alloc (Nat.le_refl _) _
            clear hHeld
            refine hK.out _ _ (⟨older sx.1 _, older sx.2 _⟩) (fun hHeld => ?_)
            clear hK K
            try simp only [List.getElem_toArray, List.getElem_cons_zero, List.getElem_cons_succ, Act.put, List.setIfInBounds_toArray, List.set_cons_zero, List.set_cons_succ]
            refine wpAnyH_ready (rs := [4, 6]) (by kernel_rfl) (by simp) (AllReadyH.cons rfl (fun K hK => ?_) (AllReadyH.cons rfl (fun K hK => ?_) AllReadyH.nil))
            · refine step_cat_p rfl (.tmp 30) (.tmp 33) rfl w2.heap.size 0 0 _ [] (ps.take k) g 0 k c (by first | rfl | (rw [Nat.zero_add]; rfl) | simp) rfl OE.out (by simp; have := HL.out; omega) (fun i hi => ?_) (by omega) BE.out.size ?_
              · rw [Nat.zero_add, pa_take hi, pb_take hi]
                have := HCd.out i (by omega)
                exact ⟨(BE.out.cell (p := ⟨g, i * 2, none⟩) hgd).trans this.1, (BE.out.cell (p := ⟨g, i * 2 + 1, none⟩) hgd).trans this.2⟩
              intro A4 c4 w4 O4 B4 G4
              have B4' : Hid (Below w2.heap.size w2 w4) := BE.out.trans B4.out
              have sx_w4 : (fun w' : World => w'.cell? ⟨w.heap.size, 0, none⟩ = some (.int .i64 x) ∧ w'.cell? ⟨w.heap.size, 1, none⟩ = some (.int .i64 y)) w4 := ⟨(B4'.out.cell (p := ⟨w.heap.size, 0, none⟩) hbx).trans sx.1, (B4'.out.cell (p := ⟨w.heap.size, 1, none⟩) hbx).trans sx.2⟩
              clear hHeld
              refine hK.out _ _ (sx_w4) (fun hHeld => ?_)
              clear hK K
              try simp only [List.getElem_toArray, List.getElem_cons_zero, List.getElem_cons_succ, Act.put, List.setIfInBounds_toArray, List.set_cons_zero, List.set_cons_succ]
              refine wpAnyH_ready (rs := [6]) (by kernel_rfl) (by simp) (AllReadyH.cons rfl (fun K hK => ?_) AllReadyH.nil)
              go_simp
              have V5 := Lib.hid (BlkAt.new w4 x y)
              have O5 := Lib.hid (O4.out.alloc (.cells #[.int .i64 x, .int .i64 y] 71))
              have B5 : Hid (Below w2.heap.size w2 (w4.alloc (.cells #[.int .i64 x, .int .i64 y] 71))) := B4'.out.alloc B4'.out.size _
              clear hHeld
              refine hK.out _ _ (⟨older sx_w4.1 _, older sx_w4.2 _⟩) (fun hHeld => ?_)
              clear hK K
              try simp only [List.getElem_toArray, List.getElem_cons_zero, List.getElem_cons_succ, Act.put, List.setIfInBounds_toArray, List.set_cons_zero, List.set_cons_succ]
              have hzc : (w4.alloc (.cells #[.int .i64 x, .int .i64 y] 71)).heap.size = w4.heap.size + 1 := World.size_alloc _ _
              clear O4 B4 G4 B4' sx_w4
              generalize hb4 : w4.heap.size = b4 at *
              generalize w4.alloc (.cells #[.int .i64 x, .int .i64 y] 71) = w5 at *
              refine wpAnyH_ready (rs := [7]) (by kernel_rfl) (by simp) (AllReadyH.cons rfl (fun K hK => ?_) AllReadyH.nil)
              refine step_cat_p rfl (.tmp 34) (.tmp 36) rfl w2.heap.size (0 + k) c4 A4 _ [(x, y)] (b4) 0 1 1 (by first | rfl | (rw [Nat.zero_add]; rfl) | simp) (by first | rfl | (rw [Nat.zero_add]; rfl) | simp) O5.out rfl (fun i hi => ?_) (by omega) B5.out.size ?_
              · obtain rfl : i = 0 := by omega
                exact ⟨by simpa [pa] using V5.out.cell0, by simpa [pb] using V5.out.cell1⟩
              intro A6 c6 w6 O6 B6 _
              have B6' : Hid (Below w2.heap.size w2 w6) := B5.out.trans B6.out
              have sx_w6 : (fun w' : World => w'.cell? ⟨w.heap.size, 0, none⟩ = some (.int .i64 x) ∧ w'.cell? ⟨w.heap.size, 1, none⟩ = some (.int .i64 y)) w6 := ⟨(B6'.out.cell (p := ⟨w.heap.size, 0, none⟩) hbx).trans sx.1, (B6'.out.cell (p := ⟨w.heap.size, 1, none⟩) hbx).trans sx.2⟩
              clear hHeld
              refine hK.out _ _ (sx_w6) (fun hHeld => ?_)
              clear hK K
              try simp only [List.getElem_toArray, List.getElem_cons_zero, List.getElem_cons_succ, Act.put, List.setIfInBounds_toArray, List.set_cons_zero, List.set_cons_succ]
              refine wpAnyH_ready (rs := [11]) (by kernel_rfl) (by simp) (AllReadyH.cons rfl (fun K hK => ?_) AllReadyH.nil)
              refine step_cat_p rfl (.tmp 37) (.tmp 40) rfl w2.heap.size (0 + k + 1) c6 A6 _ (ps.drop k) g (k * 2) (n - k) (c - k) (by first | rfl | (rw [Nat.zero_add]; rfl) | simp) rfl O6.out (by simp; have := HL.out; omega) (fun i hi => ?_) (by omega) B6'.out.size ?_
              · rw [pa_drop, pb_drop, show k * 2 + i * 2 = (k + i) * 2 by omega]
                have := HCd.out (k + i) (by omega)
                exact ⟨(B6'.out.cell (p := ⟨g, (k + i) * 2, none⟩) hgd).trans this.1, (B6'.out.cell (p := ⟨g, (k + i) * 2 + 1, none⟩) hgd).trans this.2⟩
              intro A7 c7 w7 O7 B7 _
              have B7' : Hid (Below w2.heap.size w2 w7) := B6'.out.trans B7.out
              have sx_w7 : (fun w' : World => w'.cell? ⟨w.heap.size, 0, none⟩ = some (.int .i64 x) ∧ w'.cell? ⟨w.heap.size, 1, none⟩ = some (.int .i64 y)) w7 := ⟨(B7'.out.cell (p := ⟨w.heap.size, 0, none⟩) hbx).trans sx.1, (B7'.out.cell (p := ⟨w.heap.size, 1, none⟩) hbx).trans sx.2⟩
              clear hHeld
              refine hK.out _ _ (sx_w7) (fun hHeld => ?_)
              clear hK K
              try simp only [List.getElem_toArray, List.getElem_cons_zero, List.getElem_cons_succ, Act.put, List.setIfInBounds_toArray, List.set_cons_zero, List.set_cons_succ]
              refine wpAnyH_take (i := 12) (v := ?v8) rfl (by kernel_rfl) (by kernel_rfl) (by kernel_rfl) (fun _ _ _ h => h) (Or.inl ⟨by rfl, ?hy8⟩) (by assumption) ?rest8
              case hy8 =>
                intro wz hSw
                clear hSw
                go_simp <;> with_reducible rfl
              try simp only [List.getElem_toArray, List.getElem_cons_zero, List.getElem_cons_succ, Act.put, List.setIfInBounds_toArray, List.set_cons_zero, List.set_cons_succ]
              refine wpAnyH_done (by kernel_rfl) ?_ _
              refine NoPanic.normal ?_
              have O8 : Hid (OwnP w7 w2.heap.size A7 (n + 1) c7 (insV ps (x, y))) := by
                have e1 : insV ps (x, y) = ([] ++ ps.take k) ++ [(x, y)] ++ ps.drop k := by
                  unfold insV
                  rw [HT.out.1, HT.out.2]
                  simp
                rw [e1]
                have := O7.out
                rwa [show 0 + k + 1 + (n - k) = n + 1 by omega] at this
              have hnn : k + 1 + (n - k) = n + 1 := by omega
              have B8 : Hid (Below w.heap.size w w7) := HBd.out.trans (B7'.out.mono hz2)
              have HC8 := Lib.hid (sLiveOk_any A7 (n + 1) c7 _ (insV ps (x, y)) z w7 O8.out.rd (Nat.le_refl _) (by unfold maxLen; omega) HWi.out)
              clear O7 B7 B7' O6 B6 B6' O5 B5 V5 HCd HBd sx_w6 sx_w7 hHeld
              rw [show 0 + k + 1 + (n - k) = n + 1 by omega]
              cases hv2 : liveOkV (insV ps (x, y)) z with
              | false =>
                rw [hv2] at HC8
                have HR := Lib.hid (show addR ps z (x, y) = [] ∧ addOk ps z (x, y) = false by unfold addR addOk; rw [hv2, Bool.and_false]; exact ⟨rfl, rfl⟩)
                clear hv2
                go_wp2_with fail
                refine HC8.out.mono ?_
                rintro e w9 ⟨rfl, hb9⟩
                have HB9 := Lib.hid (B8.out.trans (hb9.mono B8.out.size))
                clear hb9 HC8
                go_wp2
                go_ret2
                rw [HR.out.1, HR.out.2]
                exact ⟨none, 0, rfl, OwnP.zero, HB9.out⟩
              | true =>
                rw [hv2] at HC8
                have HR := Lib.hid (show addR ps z (x, y) = insV ps (x, y) ∧ addOk ps z (x, y) = true by unfold addR addOk; rw [hv2, HV.out]; exact ⟨rfl, rfl⟩)
                clear hv2
                go_wp2_with fail
                refine HC8.out.mono ?_
                rintro e w9 ⟨rfl, hb9⟩
                have HB9 := Lib.hid (B8.out.trans (hb9.mono B8.out.size))
                have HO9 := Lib.hid (O8.out.below hb9)
                clear hb9 HC8
                go_wp2
                go_ret2
                have hl9 := HO9.out.len
                rw [HR.out.1, HR.out.2, hl9]
                exact ⟨A7, c7, rfl, HO9.out.from_ hz2, HB9.out⟩
            · go_simp
              have OE2 := Lib.hid (OE.out.alloc (.cells #[.int .i64 x, .int .i64 y] 71))
              have BE2 : Hid (Below w2.heap.size w2 ((w2.alloc (.cells #[] 71)).alloc (.cells #[.int .i64 x, .int .i64 y] 71))) := BE.out.alloc BE.out.size _
              have VE : Hid (BlkAt ((w2.alloc (.cells #[] 71)).alloc (.cells #[.int .i64 x, .int .i64 y] 71)) (w2.heap.size + 1) x y) := by have := BlkAt.new (w2.alloc (.cells #[] 71)) x y; rw [World.size_alloc] at this; exact this
              clear hHeld
              refine hK.out _ _ (⟨older (older sx.1 _) _, older (older sx.2 _) _⟩) (fun hHeld => ?_)
              clear hK K
              try simp only [List.getElem_toArray, List.getElem_cons_zero, List.getElem_cons_succ, Act.put, List.setIfInBounds_toArray, List.set_cons_zero, List.set_cons_succ]
              refine wpAnyH_ready (rs := [4]) (by kernel_rfl) (by simp) (AllReadyH.cons rfl (fun K hK => ?_) AllReadyH.nil)
              refine step_cat_p rfl (.tmp 30) (.tmp 33) rfl w2.heap.size 0 0 _ [] (ps.take k) g 0 k c (by first | rfl | (rw [Nat.zero_add]; rfl) | simp) rfl OE2.out (by simp; have := HL.out; omega) (fun i hi => ?_) (by omega) BE2.out.size ?_
              · rw [Nat.zero_add, pa_take hi, pb_take hi]
                have := HCd.out i (by omega)
                exact ⟨(BE2.out.cell (p := ⟨g, i * 2, none⟩) hgd).trans this.1, (BE2.out.cell (p := ⟨g, i * 2 + 1, none⟩) hgd).trans this.2⟩
              intro A4 c4 w4 O4 B4 G4
              have B4' : Hid (Below w2.heap.size w2 w4) := BE2.out.trans B4.out
              have sx_w4 : (fun w' : World => w'.cell? ⟨w.heap.size, 0, none⟩ = some (.int .i64 x) ∧ w'.cell? ⟨w.heap.size, 1, none⟩ = some (.int .i64 y)) w4 := ⟨(B4'.out.cell (p := ⟨w.heap.size, 0, none⟩) hbx).trans sx.1, (B4'.out.cell (p := ⟨w.heap.size, 1, none⟩) hbx).trans sx.2⟩
              have V4 := Lib.hid (VE.out.far G4.out (by simp [Value.ownBlock]))
              clear hHeld
              refine hK.out _ _ (sx_w4) (fun hHeld => ?_)
              clear hK K
              try simp only [List.getElem_toArray, List.getElem_cons_zero, List.getElem_cons_succ, Act.put, List.setIfInBounds_toArray, List.set_cons_zero, List.set_cons_succ]
              refine wpAnyH_ready (rs := [7]) (by kernel_rfl) (by simp) (AllReadyH.cons rfl (fun K hK => ?_) AllReadyH.nil)
              refine step_cat_p rfl (.tmp 34) (.tmp 36) rfl w2.heap.size (0 + k) c4 A4 _ [(x, y)] (w2.heap.size + 1) 0 1 1 (by first | rfl | (rw [Nat.zero_add]; rfl) | simp) (by first | rfl | (rw [Nat.zero_add]; rfl) | simp) O4.out rfl (fun i hi => ?_) (by omega) B4'.out.size ?_
              · obtain rfl : i = 0 := by omega
                exact ⟨by simpa [pa] using V4.out.cell0, by simpa [pb] using V4.out.cell1⟩
              intro A6 c6 w6 O6 B6 _
              have B6' : Hid (Below w2.heap.size w2 w6) := B4'.out.trans B6.out
              have sx_w6 : (fun w' : World => w'.cell? ⟨w.heap.size, 0, none⟩ = some (.int .i64 x) ∧ w'.cell? ⟨w.heap.size, 1, none⟩ = some (.int .i64 y)) w6 := ⟨(B6'.out.cell (p := ⟨w.heap.size, 0, none⟩) hbx).trans sx.1, (B6'.out.cell (p := ⟨w.heap.size, 1, none⟩) hbx).trans sx.2⟩
              clear hHeld
              refine hK.out _ _ (sx_w6) (fun hHeld => ?_)
              clear hK K
              try simp only [List.getElem_toArray, List.getElem_cons_zero, List.getElem_cons_succ, Act.put, List.setIfInBounds_toArray, List.set_cons_zero, List.set_cons_succ]
              refine wpAnyH_ready (rs := [11]) (by kernel_rfl) (by simp) (AllReadyH.cons rfl (fun K hK => ?_) AllReadyH.nil)
              refine step_cat_p rfl (.tmp 37) (.tmp 40) rfl w2.heap.size (0 + k + 1) c6 A6 _ (ps.drop k) g (k * 2) (n - k) (c - k) (by first | rfl | (rw [Nat.zero_add]; rfl) | simp) rfl O6.out (by simp; have := HL.out; omega) (fun i hi => ?_) (by omega) B6'.out.size ?_
              · rw [pa_drop, pb_drop, show k * 2 + i * 2 = (k + i) * 2 by omega]
                have := HCd.out (k + i) (by omega)
                exact ⟨(B6'.out.cell (p := ⟨g, (k + i) * 2, none⟩) hgd).trans this.1, (B6'.out.cell (p := ⟨g, (k + i) * 2 + 1, none⟩) hgd).trans this.2⟩
              intro A7 c7 w7 O7 B7 _
              have B7' : Hid (Below w2.heap.size w2 w7) := B6'.out.trans B7.out
              have sx_w7 : (fun w' : World => w'.cell? ⟨w.heap.size, 0, none⟩ = some (.int .i64 x) ∧ w'.cell? ⟨w.heap.size, 1, none⟩ = some (.int .i64 y)) w7 := ⟨(B7'.out.cell (p := ⟨w.heap.size, 0, none⟩) hbx).trans sx.1, (B7'.out.cell (p := ⟨w.heap.size, 1, none⟩) hbx).trans sx.2⟩
              clear hHeld
              refine hK.out _ _ (sx_w7) (fun hHeld => ?_)
              clear hK K
              try simp only [List.getElem_toArray, List.getElem_cons_zero, List.getElem_cons_succ, Act.put, List.setIfInBounds_toArray, List.set_cons_zero, List.set_cons_succ]
              refine wpAnyH_take (i := 12) (v := ?v9) rfl (by kernel_rfl) (by kernel_rfl) (by kernel_rfl) (fun _ _ _ h => h) (Or.inl ⟨by rfl, ?hy9⟩) (by assumption) ?rest9
              case hy9 =>
                intro wz hSw
                clear hSw
                go_simp <;> with_reducible rfl
              try simp only [List.getElem_toArray, List.getElem_cons_zero, List.getElem_cons_succ, Act.put, List.setIfInBounds_toArray, List.set_cons_zero, List.set_cons_succ]
              refine wpAnyH_done (by kernel_rfl) ?_ _
              refine NoPanic.normal ?_
              have O8 : Hid (OwnP w7 w2.heap.size A7 (n + 1) c7 (insV ps (x, y))) := by
                have e1 : insV ps (x, y) = ([] ++ ps.take k) ++ [(x, y)] ++ ps.drop k := by
                  unfold insV
                  rw [HT.out.1, HT.out.2]
                  simp
                rw [e1]
                have := O7.out
                rwa [show 0 + k + 1 + (n - k) = n + 1 by omega] at this
              have hnn : k + 1 + (n - k) = n + 1 := by omega
              have B8 : Hid (Below w.heap.size w w7) := HBd.out.trans (B7'.out.mono hz2)
              have HC8 := Lib.hid (sLiveOk_any A7 (n + 1) c7 _ (insV ps (x, y)) z w7 O8.out.rd (Nat.le_refl _) (by unfold maxLen; omega) HWi.out)
              clear O7 B7 B7' O6 B6 B6' O4 B4' V4 HCd HBd sx_w6 sx_w7 hHeld
              rw [show 0 + k + 1 + (n - k) = n + 1 by omega]
              cases hv2 : liveOkV (insV ps (x, y)) z with
              | false =>
                rw [hv2] at HC8
                have HR := Lib.hid (show addR ps z (x, y) = [] ∧ addOk ps z (x, y) = false by unfold addR addOk; rw [hv2, Bool.and_false]; exact ⟨rfl, rfl⟩)
                clear hv2
                go_wp2_with fail
                refine HC8.out.mono ?_
                rintro e w9 ⟨rfl, hb9⟩
                have HB9 := Lib.hid (B8.out.trans (hb9.mono B8.out.size))
                clear hb9 HC8
                go_wp2
                go_ret2
                rw [HR.out.1, HR.out.2]
                exact ⟨none, 0, rfl, OwnP.zero, HB9.out⟩
              | true =>
                rw [hv2] at HC8
                have HR := Lib.hid (show addR ps z (x, y) = insV ps (x, y) ∧ addOk ps z (x, y) = true by unfold addR addOk; rw [hv2, HV.out]; exact ⟨rfl, rfl⟩)
                clear hv2
                go_wp2_with fail
                refine HC8.out.mono ?_
                rintro e w9 ⟨rfl, hb9⟩
                have HB9 := Lib.hid (B8.out.trans (hb9.mono B8.out.size))
                have HO9 := Lib.hid (O8.out.below hb9)
                clear hb9 HC8
                go_wp2
                go_ret2
                have hl9 := HO9.out.len
                rw [HR.out.1, HR.out.2, hl9]
                exact ⟨A7, c7, rfl, HO9.out.from_ hz2, HB9.out⟩
          · go_simp
            clear hHeld
            refine hK.out _ _ (⟨older sx.1 _, older sx.2 _⟩) (fun hHeld => ?_)
            clear hK K
            try simp only [List.getElem_toArray, List.getElem_cons_zero, List.getElem_cons_succ, Act.put, List.setIfInBounds_toArray, List.set_cons_zero, List.set_cons_succ]
            refine wpAnyH_ready (rs := [0]) (by kernel_rfl) (by simp) (AllReadyH.cons rfl (fun K hK => ?_) AllReadyH.nil)
            go_simp
            have OE2 : Hid (OwnP ((w2.alloc (.cells #[.int .i64 x, .int .i64 y] 71)).alloc (.cells #[] 71)) w2.heap.size (some ⟨w2.heap.size + 1, 0, none⟩) 0 0 []) := by
              have : OwnP ((w2.alloc (.cells #[.int .i64 x, .int .i64 y] 71)).alloc (.cells #[] 71)) w2.heap.size (some ⟨(w2.alloc (.cells #[.int .i64 x, .int .i64 y] 71)).heap.size, 0, none⟩) 0 0 [] := World.ownsRow_made (w2.alloc (.cells #[.int .i64 x, .int .i64 y] 71)) #[] 0 (by simp) (Nat.zero_le _) (by simp)
              rw [World.size_alloc] at this
              exact this
            have BE2 : Hid (Below w2.heap.size w2 ((w2.alloc (.cells #[.int .i64 x, .int .i64 y] 71)).alloc (.cells #[] 71))) := ((Below.refl _ w2).alloc (Nat.le_refl _) _).alloc (by simp) _
            have VE := Lib.hid ((BlkAt.new w2 x y).alloc (.cells #[] 71))
            clear hHeld
            refine hK.out _ _ (⟨older (older sx.1 _) _, older (older sx.2 _) _⟩) (fun hHeld => ?_)
            clear hK K
            try simp only [List.getElem_toArray, List.getElem_cons_zero, List.getElem_cons_succ, Act.put, List.setIfInBounds_toArray, List.set_cons_zero, List.set_cons_succ]
            refine wpAnyH_ready (rs := [4]) (by kernel_rfl) (by simp) (AllReadyH.cons rfl (fun K hK => ?_) AllReadyH.nil)
            refine step_cat_p rfl (.tmp 30) (.tmp 33) rfl w2.heap.size 0 0 _ [] (ps.take k) g 0 k c (by first | rfl | (rw [Nat.zero_add]; rfl) | simp) rfl OE2.out (by simp; have := HL.out; omega) (fun i hi => ?_) (by omega) BE2.out.size ?_
            · rw [Nat.zero_add, pa_take hi, pb_take hi]
              have := HCd.out i (by omega)
              exact ⟨(BE2.out.cell (p := ⟨g, i * 2, none⟩) hgd).trans this.1, (BE2.out.cell (p := ⟨g, i * 2 + 1, none⟩) hgd).trans this.2⟩
            intro A4 c4 w4 O4 B4 G4
            have B4' : Hid (Below w2.heap.size w2 w4) := BE2.out.trans B4.out
            have sx_w4 : (fun w' : World => w'.cell? ⟨w.heap.size, 0, none⟩ = some (.int .i64 x) ∧ w'.cell? ⟨w.heap.size, 1, none⟩ = some (.int .i64 y)) w4 := ⟨(B4'.out.cell (p := ⟨w.heap.size, 0, none⟩) hbx).trans sx.1, (B4'.out.cell (p := ⟨w.heap.size, 1, none⟩) hbx).trans sx.2⟩
            have V4 := Lib.hid (VE.out.far G4.out (by simp [Value.ownBlock]))
            clear hHeld
            refine hK.out _ _ (sx_w4) (fun hHeld => ?_)
            clear hK K
            try simp only [List.getElem_toArray, List.getElem_cons_zero, List.getElem_cons_succ, Act.put, List.setIfInBounds_toArray, List.set_cons_zero, List.set_cons_succ]
            refine wpAnyH_ready (rs := [7]) (by kernel_rfl) (by simp) (AllReadyH.cons rfl (fun K hK => ?_) AllReadyH.nil)
            refine step_cat_p rfl (.tmp 34) (.tmp 36) rfl w2.heap.size (0 + k) c4 A4 _ [(x, y)] (w2.heap.size) 0 1 1 (by first | rfl | (rw [Nat.zero_add]; rfl) | simp) (by first | rfl | (rw [Nat.zero_add]; rfl) | simp) O4.out rfl (fun i hi => ?_) (by omega) B4'.out.size ?_
            · obtain rfl : i = 0 := by omega
              exact ⟨by simpa [pa] using V4.out.cell0, by simpa [pb] using V4.out.cell1⟩
            intro A6 c6 w6 O6 B6 _
            have B6' : Hid (Below w2.heap.size w2 w6) := B4'.out.trans B6.out
            have sx_w6 : (fun w' : World => w'.cell? ⟨w.heap.size, 0, none⟩ = some (.int .i64 x) ∧ w'.cell? ⟨w.heap.size, 1, none⟩ = some (.int .i64 y)) w6 := ⟨(B6'.out.cell (p := ⟨w.heap.size, 0, none⟩) hbx).trans sx.1, (B6'.out.cell (p := ⟨w.heap.size, 1, none⟩) hbx).trans sx.2⟩
            clear hHeld
            refine hK.out _ _ (sx_w6) (fun hHeld => ?_)
            clear hK K
            try simp only [List.getElem_toArray, List.getElem_cons_zero, List.getElem_cons_succ, Act.put, List.setIfInBounds_toArray, List.set_cons_zero, List.set_cons_succ]
            refine wpAnyH_ready (rs := [11]) (by kernel_rfl) (by simp) (AllReadyH.cons rfl (fun K hK => ?_) AllReadyH.nil)
            refine step_cat_p rfl (.tmp 37) (.tmp 40) rfl w2.heap.size (0 + k + 1) c6 A6 _ (ps.drop k) g (k * 2) (n - k) (c - k) (by first | rfl | (rw [Nat.zero_add]; rfl) | simp) rfl O6.out (by simp; have := HL.out; omega) (fun i hi => ?_) (by omega) B6'.out.size ?_
            · rw [pa_drop, pb_drop, show k * 2 + i * 2 = (k + i) * 2 by omega]
              have := HCd.out (k + i) (by omega)
              exact ⟨(B6'.out.cell (p := ⟨g, (k + i) * 2, none⟩) hgd).trans this.1, (B6'.out.cell (p := ⟨g, (k + i) * 2 + 1, none⟩) hgd).trans this.2⟩
            intro A7 c7 w7 O7 B7 _
            have B7' : Hid (Below w2.heap.size w2 w7) := B6'.out.trans B7.out
            have sx_w7 : (fun w' : World => w'.cell? ⟨w.heap.size, 0, none⟩ = some (.int .i64 x) ∧ w'.cell? ⟨w.heap.size, 1, none⟩ = some (.int .i64 y)) w7 := ⟨(B7'.out.cell (p := ⟨w.heap.size, 0, none⟩) hbx).trans sx.1, (B7'.out.cell (p := ⟨w.heap.size, 1, none⟩) hbx).trans sx.2⟩
            clear hHeld
            refine hK.out _ _ (sx_w7) (fun hHeld => ?_)
            clear hK K
            try simp only [List.getElem_toArray, List.getElem_cons_zero, List.getElem_cons_succ, Act.put, List.setIfInBounds_toArray, List.set_cons_zero, List.set_cons_succ]
            refine wpAnyH_take (i := 12) (v := ?v10) rfl (by kernel_rfl) (by kernel_rfl) (by kernel_rfl) (fun _ _ _ h => h) (Or.inl ⟨by rfl, ?hy10⟩) (by assumption) ?rest10
            case hy10 =>
              intro wz hSw
              clear hSw
              go_simp <;> with_reducible rfl
            try simp only [List.getElem_toArray, List.getElem_cons_zero, List.getElem_cons_succ, Act.put, List.setIfInBounds_toArray, List.set_cons_zero, List.set_cons_succ]
            refine wpAnyH_done (by kernel_rfl) ?_ _
            refine NoPanic.normal ?_
            have O8 : Hid (OwnP w7 w2.heap.size A7 (n + 1) c7 (insV ps (x, y))) := by
              have e1 : insV ps (x, y) = ([] ++ ps.take k) ++ [(x, y)] ++ ps.drop k := by
                unfold insV
                rw [HT.out.1, HT.out.2]
                simp
              rw [e1]
              have := O7.out
              rwa [show 0 + k + 1 + (n - k) = n + 1 by omega] at this
            have hnn : k + 1 + (n - k) = n + 1 := by omega
            have B8 : Hid (Below w.heap.size w w7) := HBd.out.trans (B7'.out.mono hz2)
            have HC8 := Lib.hid (sLiveOk_any A7 (n + 1) c7 _ (insV ps (x, y)) z w7 O8.out.rd (Nat.le_refl _) (by unfold maxLen; omega) HWi.out)
            clear O7 B7 B7' O6 B6 B6' O4 B4' V4 HCd HBd sx_w6 sx_w7 hHeld
            rw [show 0 + k + 1 + (n - k) = n + 1 by omega]
            cases hv2 : liveOkV (insV ps (x, y)) z with
            | false =>
              rw [hv2] at HC8
              have HR := Lib.hid (show addR ps z (x, y) = [] ∧ addOk ps z (x, y) = false by unfold addR addOk; rw [hv2, Bool.and_false]; exact ⟨rfl, rfl⟩)
              clear hv2
              go_wp2_with fail
              refine HC8.out.mono ?_
              rintro e w9 ⟨rfl, hb9⟩
              have HB9 := Lib.hid (B8.out.trans (hb9.mono B8.out.size))
              clear hb9 HC8
              go_wp2
              go_ret2
              rw [HR.out.1, HR.out.2]
              exact ⟨none, 0, rfl, OwnP.zero, HB9.out⟩
            | true =>
              rw [hv2] at HC8
              have HR := Lib.hid (show addR ps z (x, y) = insV ps (x, y) ∧ addOk ps z (x, y) = true by unfold addR addOk; rw [hv2, HV.out]; exact ⟨rfl, rfl⟩)
              clear hv2
              go_wp2_with fail
              refine HC8.out.mono ?_
              rintro e w9 ⟨rfl, hb9⟩
              have HB9 := Lib.hid (B8.out.trans (hb9.mono B8.out.size))
              have HO9 := Lib.hid (O8.out.below hb9)
              clear hb9 HC8
              go_wp2
              go_ret2
              have hl9 := HO9.out.len
              rw [HR.out.1, HR.out.2, hl9]
              exact ⟨A7, c7, rfl, HO9.out.from_ hz2, HB9.out⟩
      · have hkn : decide ((k : Int) < (n : Int)) = false := by simp; omega
        obtain rfl : n = k := by omega
        have HT := Lib.hid (while_at (by rw [HL.out]; exact hk) HK.out (fun h => by have := HL.out; omega))
        have hd0 : ps.drop n = [] := List.drop_eq_nil_of_le (by rw [HL.out]; exact Nat.le_refl _)
        by_cases hcz : c = n
        · subst hcz
          have f1 : (c : Int) ≤ (c : Int) := by omega
          go_wp2
          go_quiet (fail)
          have HCe : Hid (∀ i, i < c → (wr.drewN nq).cell? ⟨g, i * 2, none⟩ = some (.int .i64 (pa ps i)) ∧ (wr.drewN nq).cell? ⟨g, i * 2 + 1, none⟩ = some (.int .i64 (pb ps i))) := HCr.out
          have HB1 : Hid (Below w.heap.size w (wr.drewN nq)) := ⟨HB.out.os, HB.out.tape, HB.out.output, HB.out.size, HB.out.block⟩
          have HN1 : Hid (BlkAt (wr.drewN nq) w.heap.size x y) := HN.out
          have sx0 : (fun w' : World => w'.cell? ⟨w.heap.size, 0, none⟩ = some (.int .i64 x) ∧ w'.cell? ⟨w.heap.size, 1, none⟩ = some (.int .i64 y)) (wr.drewN nq) := sxr
          clear HCr HB HN sxr b0 b1
          generalize wr.drewN nq = w1 at *
          have c1 := sx0.1
          have c2 := sx0.2
          go_wp2_with fail
          refine wp_region_noPanic ?_
          refine wp_region_held_drew (S := fun w' : World => w'.cell? ⟨w.heap.size, 0, none⟩ = some (.int .i64 x) ∧ w'.cell? ⟨w.heap.size, 1, none⟩ = some (.int .i64 y)) (by kernel_rfl) sx0 (fun hHeld => ?_)
          change wpAnyH _ _ _ _ _ _ _ _ (World.drew _)
          have HCd : Hid (∀ i, i < c → w1.drew.cell? ⟨g, i * 2, none⟩ = some (.int .i64 (pa ps i)) ∧ w1.drew.cell? ⟨g, i * 2 + 1, none⟩ = some (.int .i64 (pb ps i))) := HCe.out
          have HBd : Hid (Below w.heap.size w w1.drew) := HB1.out.drew
          have sx : (fun w' : World => w'.cell? ⟨w.heap.size, 0, none⟩ = some (.int .i64 x) ∧ w'.cell? ⟨w.heap.size, 1, none⟩ = some (.int .i64 y)) w1.drew := sx0
          have hbx : w.heap.size < w1.drew.heap.size := HN1.out.lt
          have hgd : g < w1.drew.heap.size := Nat.lt_of_lt_of_le (Nat.lt_of_lt_of_le hgB hB) (Nat.le_of_lt hbx)
          clear HCe HB1 sx0 HN1 c1 c2
          generalize w1.drew = w2 at *
          have hz2 := HBd.out.size
          refine wpAnyH_take (i := 1) (v := ?v11) rfl (by kernel_rfl) (by kernel_rfl) (by kernel_rfl) (fun _ _ _ h => h) (Or.inl ⟨by rfl, ?hy11⟩) (by assumption) ?rest11
          case hy11 =>
            intro wz hSw
            clear hSw
            go_simp <;> with_reducible rfl
          try simp only [List.getElem_toArray, List.getElem_cons_zero, List.getElem_cons_succ, Act.put, List.setIfInBounds_toArray, List.set_cons_zero, List.set_cons_succ]
          refine wpAnyH_take (i := 2) (v := ?v12) rfl (by kernel_rfl) (by kernel_rfl) (by kernel_rfl) (fun _ _ _ h => h) (Or.inl ⟨by rfl, ?hy12⟩) (by assumption) ?rest12
          case hy12 =>
            intro wz hSw
            clear hSw
            go_simp <;> with_reducible rfl
          try simp only [List.getElem_toArray, List.getElem_cons_zero, List.getElem_cons_succ, Act.put, List.setIfInBounds_toArray, List.set_cons_zero, List.set_cons_succ]
          refine wpAnyH_take (i := 3) (v := ?v13) rfl (by kernel_rfl) (by kernel_rfl) (by kernel_rfl) (fun _ _ _ h => h) (Or.inl ⟨by rfl, ?hy13⟩) (by assumption) ?rest13
          case hy13 =>
            intro wz hSw
            clear hSw
            go_simp <;> with_reducible rfl
          try simp only [List.getElem_toArray, List.getElem_cons_zero, List.getElem_cons_succ, Act.put, List.setIfInBounds_toArray, List.set_cons_zero, List.set_cons_succ]
          refine wpAnyH_take (i := 5) (v := ?v14) rfl (by kernel_rfl) (by kernel_rfl) (by kernel_rfl) (fun _ _ _ h => h) (Or.inl ⟨by rfl, ?hy14⟩) (by assumption) ?rest14
          case hy14 =>
            intro wz hSw
            go_simp <;> with_reducible rfl
          try simp only [List.getElem_toArray, List.getElem_cons_zero, List.getElem_cons_succ, Act.put, List.setIfInBounds_toArray, List.set_cons_zero, List.set_cons_succ]
          refine wpAnyH_take (i := 8) (v := ?v15) rfl (by kernel_rfl) (by kernel_rfl) (by kernel_rfl) (fun _ _ _ h => h) (Or.inl ⟨by rfl, ?hy15⟩) (by assumption) ?rest15
          case hy15 =>
            intro wz hSw
            clear hSw
            go_simp <;> with_reducible rfl
          try simp only [List.getElem_toArray, List.getElem_cons_zero, List.getElem_cons_succ, Act.put, List.setIfInBounds_toArray, List.set_cons_zero, List.set_cons_succ]
          refine wpAnyH_take (i := 9) (v := ?v16) rfl (by kernel_rfl) (by kernel_rfl) (by kernel_rfl) (fun _ _ _ h => h) (Or.inl ⟨by rfl, ?hy16⟩) (by assumption) ?rest16
          case hy16 =>
            intro wz hSw
            clear hSw
            go_simp <;> with_reducible rfl
          try simp only [List.getElem_toArray, List.getElem_cons_zero, List.getElem_cons_succ, Act.put, List.setIfInBounds_toArray, List.set_cons_zero, List.set_cons_succ]
          refine wpAnyH_take (i := 10) (v := ?v17) rfl (by kernel_rfl) (by kernel_rfl) (by kernel_rfl) (fun _ _ _ h => h) (Or.inl ⟨by rfl, ?hy17⟩) (by assumption) ?rest17
          case hy17 =>
            intro wz hSw
            clear hSw
            go_simp <;> with_reducible rfl
          try simp only [List.getElem_toArray, List.getElem_cons_zero, List.getElem_cons_succ, Act.put, List.setIfInBounds_toArray, List.set_cons_zero, List.set_cons_succ]
          refine wpAnyH_ready (rs := [0, 6]) (by kernel_rfl) (by simp) (AllReadyH.cons rfl (fun K hK => ?_) (AllReadyH.cons rfl (fun K hK => ?_) AllReadyH.nil))
          · go_simp
            have OE : Hid (OwnP (w2.alloc (.cells #[] 71)) w2.heap.size (some ⟨w2.heap.size, 0, none⟩) 0 0 []) := World.ownsRow_made w2 #[] 0 (Nat.le_refl _) (Nat.zero_le _) (by simp)
            have BE : Hid (Below w2.heap.size w2 (w2.alloc (.cells #[] 71))) := (Below.refl _ w2).alloc (Nat.le_refl _) _
            clear hHeld
            refine hK.out _ _ (⟨older sx.1 _, older sx.2 _⟩) (fun hHeld => ?_)
            clear hK K
            try simp only [List.getElem_toArray, List.getElem_cons_zero, List.getElem_cons_succ, Act.put, List.setIfInBounds_toArray, List.set_cons_zero, List.set_cons_succ]
            refine wpAnyH_ready (rs := [4, 6]) (by kernel_rfl) (by simp) (AllReadyH.cons rfl (fun K hK => ?_) (AllReadyH.cons rfl (fun K hK => ?_) AllReadyH.nil))
            · refine step_cat_p rfl (.tmp 30) (.tmp 33) rfl w2.heap.size 0 0 _ [] (ps.take c) g 0 c c (by first | rfl | (rw [Nat.zero_add]; rfl) | simp) rfl OE.out (by simp; have := HL.out; omega) (fun i hi => ?_) (by omega) BE.out.size ?_
              · rw [Nat.zero_add, pa_take hi, pb_take hi]
                have := HCd.out i (by omega)
                exact ⟨(BE.out.cell (p := ⟨g, i * 2, none⟩) hgd).trans this.1, (BE.out.cell (p := ⟨g, i * 2 + 1, none⟩) hgd).trans this.2⟩
              intro A4 c4 w4 O4 B4 G4
              have B4' : Hid (Below w2.heap.size w2 w4) := BE.out.trans B4.out
              have sx_w4 : (fun w' : World => w'.cell? ⟨w.heap.size, 0, none⟩ = some (.int .i64 x) ∧ w'.cell? ⟨w.heap.size, 1, none⟩ = some (.int .i64 y)) w4 := ⟨(B4'.out.cell (p := ⟨w.heap.size, 0, none⟩) hbx).trans sx.1, (B4'.out.cell (p := ⟨w.heap.size, 1, none⟩) hbx).trans sx.2⟩
              clear hHeld
              refine hK.out _ _ (sx_w4) (fun hHeld => ?_)
              clear hK K
              try simp only [List.getElem_toArray, List.getElem_cons_zero, List.getElem_cons_succ, Act.put, List.setIfInBounds_toArray, List.set_cons_zero, List.set_cons_succ]
              refine wpAnyH_ready (rs := [6]) (by kernel_rfl) (by simp) (AllReadyH.cons rfl (fun K hK => ?_) AllReadyH.nil)
              go_simp
              have V5 := Lib.hid (BlkAt.new w4 x y)
              have O5 := Lib.hid (O4.out.alloc (.cells #[.int .i64 x, .int .i64 y] 71))
              have B5 : Hid (Below w2.heap.size w2 (w4.alloc (.cells #[.int .i64 x, .int .i64 y] 71))) := B4'.out.alloc B4'.out.size _
              clear hHeld
              refine hK.out _ _ (⟨older sx_w4.1 _, older sx_w4.2 _⟩) (fun hHeld => ?_)
              clear hK K
              try simp only [List.getElem_toArray, List.getElem_cons_zero, List.getElem_cons_succ, Act.put, List.setIfInBounds_toArray, List.set_cons_zero, List.set_cons_succ]
              have hzc : (w4.alloc (.cells #[.int .i64 x, .int .i64 y] 71)).heap.size = w4.heap.size + 1 := World.size_alloc _ _
              clear O4 B4 G4 B4' sx_w4
              generalize hb4 : w4.heap.size = b4 at *
              generalize w4.alloc (.cells #[.int .i64 x, .int .i64 y] 71) = w5 at *
              refine wpAnyH_ready (rs := [7]) (by kernel_rfl) (by simp) (AllReadyH.cons rfl (fun K hK => ?_) AllReadyH.nil)
              refine step_cat_p rfl (.tmp 34) (.tmp 36) rfl w2.heap.size (0 + c) c4 A4 _ [(x, y)] (b4) 0 1 1 (by first | rfl | (rw [Nat.zero_add]; rfl) | simp) (by first | rfl | (rw [Nat.zero_add]; rfl) | simp) O5.out rfl (fun i hi => ?_) (by omega) B5.out.size ?_
              · obtain rfl : i = 0 := by omega
                exact ⟨by simpa [pa] using V5.out.cell0, by simpa [pb] using V5.out.cell1⟩
              intro A6 c6 w6 O6 B6 _
              have B6' : Hid (Below w2.heap.size w2 w6) := B5.out.trans B6.out
              have sx_w6 : (fun w' : World => w'.cell? ⟨w.heap.size, 0, none⟩ = some (.int .i64 x) ∧ w'.cell? ⟨w.heap.size, 1, none⟩ = some (.int .i64 y)) w6 := ⟨(B6'.out.cell (p := ⟨w.heap.size, 0, none⟩) hbx).trans sx.1, (B6'.out.cell (p := ⟨w.heap.size, 1, none⟩) hbx).trans sx.2⟩
              clear hHeld
              refine hK.out _ _ (sx_w6) (fun hHeld => ?_)
              clear hK K
              try simp only [List.getElem_toArray, List.getElem_cons_zero, List.getElem_cons_succ, Act.put, List.setIfInBounds_toArray, List.set_cons_zero, List.set_cons_succ]
              refine wpAnyH_ready (rs := [11]) (by kernel_rfl) (by simp) (AllReadyH.cons rfl (fun K hK => ?_) AllReadyH.nil)
              refine step_cat_p rfl (.tmp 37) (.tmp 40) rfl w2.heap.size (0 + c + 1) c6 A6 _ [] g 0 0 0 (by first | rfl | (rw [Nat.zero_add]; rfl) | simp) (by first | rfl | (rw [Nat.zero_add]; rfl) | simp) O6.out rfl (fun i hi => absurd hi (by omega)) (by omega) B6'.out.size ?_
              intro A7 c7 w7 O7 B7 _
              have B7' : Hid (Below w2.heap.size w2 w7) := B6'.out.trans B7.out
              have sx_w7 : (fun w' : World => w'.cell? ⟨w.heap.size, 0, none⟩ = some (.int .i64 x) ∧ w'.cell? ⟨w.heap.size, 1, none⟩ = some (.int .i64 y)) w7 := ⟨(B7'.out.cell (p := ⟨w.heap.size, 0, none⟩) hbx).trans sx.1, (B7'.out.cell (p := ⟨w.heap.size, 1, none⟩) hbx).trans sx.2⟩
              clear hHeld
              refine hK.out _ _ (sx_w7) (fun hHeld => ?_)
              clear hK K
              try simp only [List.getElem_toArray, List.getElem_cons_zero, List.getElem_cons_succ, Act.put, List.setIfInBounds_toArray, List.set_cons_zero, List.set_cons_succ]
              refine wpAnyH_take (i := 12) (v := ?v18) rfl (by kernel_rfl) (by kernel_rfl) (by kernel_rfl) (fun _ _ _ h => h) (Or.inl ⟨by rfl, ?hy18⟩) (by assumption) ?rest18
              case hy18 =>
                intro wz hSw
                clear hSw
                go_simp <;> with_reducible rfl
              try simp only [List.getElem_toArray, List.getElem_cons_zero, List.getElem_cons_succ, Act.put, List.setIfInBounds_toArray, List.set_cons_zero, List.set_cons_succ]
              refine wpAnyH_done (by kernel_rfl) ?_ _
              refine NoPanic.normal ?_
              have O8 : Hid (OwnP w7 w2.heap.size A7 (c + 1) c7 (insV ps (x, y))) := by
                have e1 : insV ps (x, y) = ([] ++ ps.take c) ++ [(x, y)] ++ [] := by
                  unfold insV
                  rw [HT.out.1, HT.out.2, hd0]
                  simp
                rw [e1]
                have := O7.out
                rwa [show 0 + c + 1 + 0 = c + 1 by omega] at this
              have hnn : c + 1 + 0 = c + 1 := by omega
              have B8 : Hid (Below w.heap.size w w7) := HBd.out.trans (B7'.out.mono hz2)
              have HC8 := Lib.hid (sLiveOk_any A7 (c + 1) c7 _ (insV ps (x, y)) z w7 O8.out.rd (Nat.le_refl _) (by unfold maxLen; omega) HWi.out)
              clear O7 B7 B7' O6 B6 B6' O5 B5 V5 HCd HBd sx_w6 sx_w7 hHeld
              rw [show 0 + c + 1 + 0 = c + 1 by omega]
              cases hv2 : liveOkV (insV ps (x, y)) z with
              | false =>
                rw [hv2] at HC8
                have HR := Lib.hid (show addR ps z (x, y) = [] ∧ addOk ps z (x, y) = false by unfold addR addOk; rw [hv2, Bool.and_false]; exact ⟨rfl, rfl⟩)
                clear hv2
                go_wp2_with fail
                refine HC8.out.mono ?_
                rintro e w9 ⟨rfl, hb9⟩
                have HB9 := Lib.hid (B8.out.trans (hb9.mono B8.out.size))
                clear hb9 HC8
                go_wp2
                go_ret2
                rw [HR.out.1, HR.out.2]
                exact ⟨none, 0, rfl, OwnP.zero, HB9.out⟩
              | true =>
                rw [hv2] at HC8
                have HR := Lib.hid (show addR ps z (x, y) = insV ps (x, y) ∧ addOk ps z (x, y) = true by unfold addR addOk; rw [hv2, HV.out]; exact ⟨rfl, rfl⟩)
                clear hv2
                go_wp2_with fail
                refine HC8.out.mono ?_
                rintro e w9 ⟨rfl, hb9⟩
                have HB9 := Lib.hid (B8.out.trans (hb9.mono B8.out.size))
                have HO9 := Lib.hid (O8.out.below hb9)
                clear hb9 HC8
                go_wp2
                go_ret2
                have hl9 := HO9.out.len
                rw [HR.out.1, HR.out.2, hl9]
                exact ⟨A7, c7, rfl, HO9.out.from_ hz2, HB9.out⟩
            · go_simp
              have OE2 := Lib.hid (OE.out.alloc (.cells #[.int .i64 x, .int .i64 y] 71))
              have BE2 : Hid (Below w2.heap.size w2 ((w2.alloc (.cells #[] 71)).alloc (.cells #[.int .i64 x, .int .i64 y] 71))) := BE.out.alloc BE.out.size _
              have VE : Hid (BlkAt ((w2.alloc (.cells #[] 71)).alloc (.cells #[.int .i64 x, .int .i64 y] 71)) (w2.heap.size + 1) x y) := by have := BlkAt.new (w2.alloc (.cells #[] 71)) x y; rw [World.size_alloc] at this; exact this
              clear hHeld
              refine hK.out _ _ (⟨older (older sx.1 _) _, older (older sx.2 _) _⟩) (fun hHeld => ?_)
              clear hK K
              try simp only [List.getElem_toArray, List.getElem_cons_zero, List.getElem_cons_succ, Act.put, List.setIfInBounds_toArray, List.set_cons_zero, List.set_cons_succ]
              refine wpAnyH_ready (rs := [4]) (by kernel_rfl) (by simp) (AllReadyH.cons rfl (fun K hK => ?_) AllReadyH.nil)
              refine step_cat_p rfl (.tmp 30) (.tmp 33) rfl w2.heap.size 0 0 _ [] (ps.take c) g 0 c c (by first | rfl | (rw [Nat.zero_add]; rfl) | simp) rfl OE2.out (by simp; have := HL.out; omega) (fun i hi => ?_) (by omega) BE2.out.size ?_
              · rw [Nat.zero_add, pa_take hi, pb_take hi]
                have := HCd.out i (by omega)
                exact ⟨(BE2.out.cell (p := ⟨g, i * 2, none⟩) hgd).trans this.1, (BE2.out.cell (p := ⟨g, i * 2 + 1, none⟩) hgd).trans this.2⟩
              intro A4 c4 w4 O4 B4 G4
              have B4' : Hid (Below w2.heap.size w2 w4) := BE2.out.trans B4.out
              have sx_w4 : (fun w' : World => w'.cell? ⟨w.heap.size, 0, none⟩ = some (.int .i64 x) ∧ w'.cell? ⟨w.heap.size, 1, none⟩ = some (.int .i64 y)) w4 := ⟨(B4'.out.cell (p := ⟨w.heap.size, 0, none⟩) hbx).trans sx.1, (B4'.out.cell (p := ⟨w.heap.size, 1, none⟩) hbx).trans sx.2⟩
              have V4 := Lib.hid (VE.out.far G4.out (by simp [Value.ownBlock]))
              clear hHeld
              refine hK.out _ _ (sx_w4) (fun hHeld => ?_)
              clear hK K
              try simp only [List.getElem_toArray, List.getElem_cons_zero, List.getElem_cons_succ, Act.put, List.setIfInBounds_toArray, List.set_cons_zero, List.set_cons_succ]
              refine wpAnyH_ready (rs := [7]) (by kernel_rfl) (by simp) (AllReadyH.cons rfl (fun K hK => ?_) AllReadyH.nil)
              refine step_cat_p rfl (.tmp 34) (.tmp 36) rfl w2.heap.size (0 + c) c4 A4 _ [(x, y)] (w2.heap.size + 1) 0 1 1 (by first | rfl | (rw [Nat.zero_add]; rfl) | simp) (by first | rfl | (rw [Nat.zero_add]; rfl) | simp) O4.out rfl (fun i hi => ?_) (by omega) B4'.out.size ?_
              · obtain rfl : i = 0 := by omega
                exact ⟨by simpa [pa] using V4.out.cell0, by simpa [pb] using V4.out.cell1⟩
              intro A6 c6 w6 O6 B6 _
              have B6' : Hid (Below w2.heap.size w2 w6) := B4'.out.trans B6.out
              have sx_w6 : (fun w' : World => w'.cell? ⟨w.heap.size, 0, none⟩ = some (.int .i64 x) ∧ w'.cell? ⟨w.heap.size, 1, none⟩ = some (.int .i64 y)) w6 := ⟨(B6'.out.cell (p := ⟨w.heap.size, 0, none⟩) hbx).trans sx.1, (B6'.out.cell (p := ⟨w.heap.size, 1, none⟩) hbx).trans sx.2⟩
              clear hHeld
              refine hK.out _ _ (sx_w6) (fun hHeld => ?_)
              clear hK K
              try simp only [List.getElem_toArray, List.getElem_cons_zero, List.getElem_cons_succ, Act.put, List.setIfInBounds_toArray, List.set_cons_zero, List.set_cons_succ]
              refine wpAnyH_ready (rs := [11]) (by kernel_rfl) (by simp) (AllReadyH.cons rfl (fun K hK => ?_) AllReadyH.nil)
              refine step_cat_p rfl (.tmp 37) (.tmp 40) rfl w2.heap.size (0 + c + 1) c6 A6 _ [] g 0 0 0 (by first | rfl | (rw [Nat.zero_add]; rfl) | simp) (by first | rfl | (rw [Nat.zero_add]; rfl) | simp) O6.out rfl (fun i hi => absurd hi (by omega)) (by omega) B6'.out.size ?_
              intro A7 c7 w7 O7 B7 _
              have B7' : Hid (Below w2.heap.size w2 w7) := B6'.out.trans B7.out
              have sx_w7 : (fun w' : World => w'.cell? ⟨w.heap.size, 0, none⟩ = some (.int .i64 x) ∧ w'.cell? ⟨w.heap.size, 1, none⟩ = some (.int .i64 y)) w7 := ⟨(B7'.out.cell (p := ⟨w.heap.size, 0, none⟩) hbx).trans sx.1, (B7'.out.cell (p := ⟨w.heap.size, 1, none⟩) hbx).trans sx.2⟩
              clear hHeld
              refine hK.out _ _ (sx_w7) (fun hHeld => ?_)
              clear hK K
              try simp only [List.getElem_toArray, List.getElem_cons_zero, List.getElem_cons_succ, Act.put, List.setIfInBounds_toArray, List.set_cons_zero, List.set_cons_succ]
              refine wpAnyH_take (i := 12) (v := ?v19) rfl (by kernel_rfl) (by kernel_rfl) (by kernel_rfl) (fun _ _ _ h => h) (Or.inl ⟨by rfl, ?hy19⟩) (by assumption) ?rest19
              case hy19 =>
                intro wz hSw
                clear hSw
                go_simp <;> with_reducible rfl
              try simp only [List.getElem_toArray, List.getElem_cons_zero, List.getElem_cons_succ, Act.put, List.setIfInBounds_toArray, List.set_cons_zero, List.set_cons_succ]
              refine wpAnyH_done (by kernel_rfl) ?_ _
              refine NoPanic.normal ?_
              have O8 : Hid (OwnP w7 w2.heap.size A7 (c + 1) c7 (insV ps (x, y))) := by
                have e1 : insV ps (x, y) = ([] ++ ps.take c) ++ [(x, y)] ++ [] := by
                  unfold insV
                  rw [HT.out.1, HT.out.2, hd0]
                  simp
                rw [e1]
                have := O7.out
                rwa [show 0 + c + 1 + 0 = c + 1 by omega] at this
              have hnn : c + 1 + 0 = c + 1 := by omega
              have B8 : Hid (Below w.heap.size w w7) := HBd.out.trans (B7'.out.mono hz2)
              have HC8 := Lib.hid (sLiveOk_any A7 (c + 1) c7 _ (insV ps (x, y)) z w7 O8.out.rd (Nat.le_refl _) (by unfold maxLen; omega) HWi.out)
              clear O7 B7 B7' O6 B6 B6' O4 B4' V4 HCd HBd sx_w6 sx_w7 hHeld
              rw [show 0 + c + 1 + 0 = c + 1 by omega]
              cases hv2 : liveOkV (insV ps (x, y)) z with
              | false =>
                rw [hv2] at HC8
                have HR := Lib.hid (show addR ps z (x, y) = [] ∧ addOk ps z (x, y) = false by unfold addR addOk; rw [hv2, Bool.and_false]; exact ⟨rfl, rfl⟩)
                clear hv2
                go_wp2_with fail
                refine HC8.out.mono ?_
                rintro e w9 ⟨rfl, hb9⟩
                have HB9 := Lib.hid (B8.out.trans (hb9.mono B8.out.size))
                clear hb9 HC8
                go_wp2
                go_ret2
                rw [HR.out.1, HR.out.2]
                exact ⟨none, 0, rfl, OwnP.zero, HB9.out⟩
              | true =>
                rw [hv2] at HC8
                have HR := Lib.hid (show addR ps z (x, y) = insV ps (x, y) ∧ addOk ps z (x, y) = true by unfold addR addOk; rw [hv2, HV.out]; exact ⟨rfl, rfl⟩)
                clear hv2
                go_wp2_with fail
                refine HC8.out.mono ?_
                rintro e w9 ⟨rfl, hb9⟩
                have HB9 := Lib.hid (B8.out.trans (hb9.mono B8.out.size))
                have HO9 := Lib.hid (O8.out.below hb9)
                clear hb9 HC8
                go_wp2
                go_ret2
                have hl9 := HO9.out.len
                rw [HR.out.1, HR.out.2, hl9]
                exact ⟨A7, c7, rfl, HO9.out.from_ hz2, HB9.out⟩
          · go_simp
            clear hHeld
            refine hK.out _ _ (⟨older sx.1 _, older sx.2 _⟩) (fun hHeld => ?_)
            clear hK K
            try simp only [List.getElem_toArray, List.getElem_cons_zero, List.getElem_cons_succ, Act.put, List.setIfInBounds_toArray, List.set_cons_zero, List.set_cons_succ]
            refine wpAnyH_ready (rs := [0]) (by kernel_rfl) (by simp) (AllReadyH.cons rfl (fun K hK => ?_) AllReadyH.nil)
            go_simp
            have OE2 : Hid (OwnP ((w2.alloc (.cells #[.int .i64 x, .int .i64 y] 71)).alloc (.cells #[] 71)) w2.heap.size (some ⟨w2.heap.size + 1, 0, none⟩) 0 0 []) := by
              have : OwnP ((w2.alloc (.cells #[.int .i64 x, .int .i64 y] 71)).alloc (.cells #[] 71)) w2.heap.size (some ⟨(w2.alloc (.cells #[.int .i64 x, .int .i64 y] 71)).heap.size, 0, none⟩) 0 0 [] := World.ownsRow_made (w2.alloc (.cells #[.int .i64 x, .int .i64 y] 71)) #[] 0 (by simp) (Nat.zero_le _) (by simp)
              rw [World.size_alloc] at this
              exact this
            have BE2 : Hid (Below w2.heap.size w2 ((w2.alloc (.cells #[.int .i64 x, .int .i64 y] 71)).alloc (.cells #[] 71))) := ((Below.refl _ w2).alloc (Nat.le_refl _) _).alloc (by simp) _
            have VE := Lib.hid ((BlkAt.new w2 x y).alloc (.cells #[] 71))
            clear hHeld
            refine hK.out _ _ (⟨older (older sx.1 _) _, older (older sx.2 _) _⟩) (fun hHeld => ?_)
            clear hK K
            try simp only [List.getElem_toArray, List.getElem_cons_zero, List.getElem_cons_succ, Act.put, List.setIfInBounds_toArray, List.set_cons_zero, List.set_cons_succ]
            refine wpAnyH_ready (rs := [4]) (by kernel_rfl) (by simp) (AllReadyH.cons rfl (fun K hK => ?_) AllReadyH.nil)
            refine step_cat_p rfl (.tmp 30) (.tmp 33) rfl w2.heap.size 0 0 _ [] (ps.take c) g 0 c c (by first | rfl | (rw [Nat.zero_add]; rfl) | simp) rfl OE2.out (by simp; have := HL.out; omega) (fun i hi => ?_) (by omega) BE2.out.size ?_
            · rw [Nat.zero_add, pa_take hi, pb_take hi]
              have := HCd.out i (by omega)
              exact ⟨(BE2.out.cell (p := ⟨g, i * 2, none⟩) hgd).trans this.1, (BE2.out.cell (p := ⟨g, i * 2 + 1, none⟩) hgd).trans this.2⟩
            intro A4 c4 w4 O4 B4 G4
            have B4' : Hid (Below w2.heap.size w2 w4) := BE2.out.trans B4.out
            have sx_w4 : (fun w' : World => w'.cell? ⟨w.heap.size, 0, none⟩ = some (.int .i64 x) ∧ w'.cell? ⟨w.heap.size, 1, none⟩ = some (.int .i64 y)) w4 := ⟨(B4'.out.cell (p := ⟨w.heap.size, 0, none⟩) hbx).trans sx.1, (B4'.out.cell (p := ⟨w.heap.size, 1, none⟩) hbx).trans sx.2⟩
            have V4 := Lib.hid (VE.out.far G4.out (by simp [Value.ownBlock]))
            clear hHeld
            refine hK.out _ _ (sx_w4) (fun hHeld => ?_)
            clear hK K
            try simp only [List.getElem_toArray, List.getElem_cons_zero, List.getElem_cons_succ, Act.put, List.setIfInBounds_toArray, List.set_cons_zero, List.set_cons_succ]
            refine wpAnyH_ready (rs := [7]) (by kernel_rfl) (by simp) (AllReadyH.cons rfl (fun K hK => ?_) AllReadyH.nil)
            refine step_cat_p rfl (.tmp 34) (.tmp 36) rfl w2.heap.size (0 + c) c4 A4 _ [(x, y)] (w2.heap.size) 0 1 1 (by first | rfl | (rw [Nat.zero_add]; rfl) | simp) (by first | rfl | (rw [Nat.zero_add]; rfl) | simp) O4.out rfl (fun i hi => ?_) (by omega) B4'.out.size ?_
            · obtain rfl : i = 0 := by omega
              exact ⟨by simpa [pa] using V4.out.cell0, by simpa [pb] using V4.out.cell1⟩
            intro A6 c6 w6 O6 B6 _
            have B6' : Hid (Below w2.heap.size w2 w6) := B4'.out.trans B6.out
            have sx_w6 : (fun w' : World => w'.cell? ⟨w.heap.size, 0, none⟩ = some (.int .i64 x) ∧ w'.cell? ⟨w.heap.size, 1, none⟩ = some (.int .i64 y)) w6 := ⟨(B6'.out.cell (p := ⟨w.heap.size, 0, none⟩) hbx).trans sx.1, (B6'.out.cell (p := ⟨w.heap.size, 1, none⟩) hbx).trans sx.2⟩
            clear hHeld
            refine hK.out _ _ (sx_w6) (fun hHeld => ?_)
            clear hK K
            try simp only [List.getElem_toArray, List.getElem_cons_zero, List.getElem_cons_succ, Act.put, List.setIfInBounds_toArray, List.set_cons_zero, List.set_cons_succ]
            refine wpAnyH_ready (rs := [11]) (by kernel_rfl) (by simp) (AllReadyH.cons rfl (fun K hK => ?_) AllReadyH.nil)
            refine step_cat_p rfl (.tmp 37) (.tmp 40) rfl w2.heap.size (0 + c + 1) c6 A6 _ [] g 0 0 0 (by first | rfl | (rw [Nat.zero_add]; rfl) | simp) (by first | rfl | (rw [Nat.zero_add]; rfl) | simp) O6.out rfl (fun i hi => absurd hi (by omega)) (by omega) B6'.out.size ?_
            intro A7 c7 w7 O7 B7 _
            have B7' : Hid (Below w2.heap.size w2 w7) := B6'.out.trans B7.out
            have sx_w7 : (fun w' : World => w'.cell? ⟨w.heap.size, 0, none⟩ = some (.int .i64 x) ∧ w'.cell? ⟨w.heap.size, 1, none⟩ = some (.int .i64 y)) w7 := ⟨(B7'.out.cell (p := ⟨w.heap.size, 0, none⟩) hbx).trans sx.1, (B7'.out.cell (p := ⟨w.heap.size, 1, none⟩) hbx).trans sx.2⟩
            clear hHeld
            refine hK.out _ _ (sx_w7) (fun hHeld => ?_)
            clear hK K
            try simp only [List.getElem_toArray, List.getElem_cons_zero, List.getElem_cons_succ, Act.put, List.setIfInBounds_toArray, List.set_cons_zero, List.set_cons_succ]
            refine wpAnyH_take (i := 12) (v := ?v20) rfl (by kernel_rfl) (by kernel_rfl) (by kernel_rfl) (fun _ _ _ h => h) (Or.inl ⟨by rfl, ?hy20⟩) (by assumption) ?rest20
            case hy20 =>
              intro wz hSw
              clear hSw
              go_simp <;> with_reducible rfl
            try simp only [List.getElem_toArray, List.getElem_cons_zero, List.getElem_cons_succ, Act.put, List.setIfInBounds_toArray, List.set_cons_zero, List.set_cons_succ]
            refine wpAnyH_done (by kernel_rfl) ?_ _
            refine NoPanic.normal ?_
            have O8 : Hid (OwnP w7 w2.heap.size A7 (c + 1) c7 (insV ps (x, y))) := by
              have e1 : insV ps (x, y) = ([] ++ ps.take c) ++ [(x, y)] ++ [] := by
                unfold insV
                rw [HT.out.1, HT.out.2, hd0]
                simp
              rw [e1]
              have := O7.out
              rwa [show 0 + c + 1 + 0 = c + 1 by omega] at this
            have hnn : c + 1 + 0 = c + 1 := by omega
            have B8 : Hid (Below w.heap.size w w7) := HBd.out.trans (B7'.out.mono hz2)
            have HC8 := Lib.hid (sLiveOk_any A7 (c + 1) c7 _ (insV ps (x, y)) z w7 O8.out.rd (Nat.le_refl _) (by unfold maxLen; omega) HWi.out)
            clear O7 B7 B7' O6 B6 B6' O4 B4' V4 HCd HBd sx_w6 sx_w7 hHeld
            rw [show 0 + c + 1 + 0 = c + 1 by omega]
            cases hv2 : liveOkV (insV ps (x, y)) z with
            | false =>
              rw [hv2] at HC8
              have HR := Lib.hid (show addR ps z (x, y) = [] ∧ addOk ps z (x, y) = false by unfold addR addOk; rw [hv2, Bool.and_false]; exact ⟨rfl, rfl⟩)
              clear hv2
              go_wp2_with fail
              refine HC8.out.mono ?_
              rintro e w9 ⟨rfl, hb9⟩
              have HB9 := Lib.hid (B8.out.trans (hb9.mono B8.out.size))
              clear hb9 HC8
              go_wp2
              go_ret2
              rw [HR.out.1, HR.out.2]
              exact ⟨none, 0, rfl, OwnP.zero, HB9.out⟩
            | true =>
              rw [hv2] at HC8
              have HR := Lib.hid (show addR ps z (x, y) = insV ps (x, y) ∧ addOk ps z (x, y) = true by unfold addR addOk; rw [hv2, HV.out]; exact ⟨rfl, rfl⟩)
              clear hv2
              go_wp2_with fail
              refine HC8.out.mono ?_
              rintro e w9 ⟨rfl, hb9⟩
              have HB9 := Lib.hid (B8.out.trans (hb9.mono B8.out.size))
              have HO9 := Lib.hid (O8.out.below hb9)
              clear hb9 HC8
              go_wp2
              go_ret2
              have hl9 := HO9.out.len
              rw [HR.out.1, HR.out.2, hl9]
              exact ⟨A7, c7, rfl, HO9.out.from_ hz2, HB9.out⟩
        · have f1 : (n : Int) ≤ (c : Int) := by omega
          have f2 : n ≤ c := by omega
          have f5 : ¬ c = n := hcz
          go_wp2
          go_quiet (fail)
          have HCe : Hid (∀ i, i < n → (wr.drewN nq).cell? ⟨g, i * 2, none⟩ = some (.int .i64 (pa ps i)) ∧ (wr.drewN nq).cell? ⟨g, i * 2 + 1, none⟩ = some (.int .i64 (pb ps i))) := HCr.out
          have HB1 : Hid (Below w.heap.size w (wr.drewN nq)) := ⟨HB.out.os, HB.out.tape, HB.out.output, HB.out.size, HB.out.block⟩
          have HN1 : Hid (BlkAt (wr.drewN nq) w.heap.size x y) := HN.out
          have sx0 : (fun w' : World => w'.cell? ⟨w.heap.size, 0, none⟩ = some (.int .i64 x) ∧ w'.cell? ⟨w.heap.size, 1, none⟩ = some (.int .i64 y)) (wr.drewN nq) := sxr
          clear HCr HB HN sxr b0 b1
          generalize wr.drewN nq = w1 at *
          have c1 := sx0.1
          have c2 := sx0.2
          go_wp2_with fail
          refine wp_region_noPanic ?_
          refine wp_region_held_drew (S := fun w' : World => w'.cell? ⟨w.heap.size, 0, none⟩ = some (.int .i64 x) ∧ w'.cell? ⟨w.heap.size, 1, none⟩ = some (.int .i64 y)) (by kernel_rfl) sx0 (fun hHeld => ?_)
          change wpAnyH _ _ _ _ _ _ _ _ (World.drew _)
          have HCd : Hid (∀ i, i < n → w1.drew.cell? ⟨g, i * 2, none⟩ = some (.int .i64 (pa ps i)) ∧ w1.drew.cell? ⟨g, i * 2 + 1, none⟩ = some (.int .i64 (pb ps i))) := HCe.out
          have HBd : Hid (Below w.heap.size w w1.drew) := HB1.out.drew
          have sx : (fun w' : World => w'.cell? ⟨w.heap.size, 0, none⟩ = some (.int .i64 x) ∧ w'.cell? ⟨w.heap.size, 1, none⟩ = some (.int .i64 y)) w1.drew := sx0
          have hbx : w.heap.size < w1.drew.heap.size := HN1.out.lt
          have hgd : g < w1.drew.heap.size := Nat.lt_of_lt_of_le (Nat.lt_of_lt_of_le hgB hB) (Nat.le_of_lt hbx)
          clear HCe HB1 sx0 HN1 c1 c2
          generalize w1.drew = w2 at *
          have hz2 := HBd.out.size
          refine wpAnyH_take (i := 1) (v := ?v21) rfl (by kernel_rfl) (by kernel_rfl) (by kernel_rfl) (fun _ _ _ h => h) (Or.inl ⟨by rfl, ?hy21⟩) (by assumption) ?rest21
          case hy21 =>
            intro wz hSw
            clear hSw
            go_simp <;> with_reducible rfl
          try simp only [List.getElem_toArray, List.getElem_cons_zero, List.getElem_cons_succ, Act.put, List.setIfInBounds_toArray, List.set_cons_zero, List.set_cons_succ]
          refine wpAnyH_take (i := 2) (v := ?v22) rfl (by kernel_rfl) (by kernel_rfl) (by kernel_rfl) (fun _ _ _ h => h) (Or.inl ⟨by rfl, ?hy22⟩) (by assumption) ?rest22
          case hy22 =>
            intro wz hSw
            clear hSw
            go_simp <;> with_reducible rfl
          try simp only [List.getElem_toArray, List.getElem_cons_zero, List.getElem_cons_succ, Act.put, List.setIfInBounds_toArray, List.set_cons_zero, List.set_cons_succ]
          refine wpAnyH_take (i := 3) (v := ?v23) rfl (by kernel_rfl) (by kernel_rfl) (by kernel_rfl) (fun _ _ _ h => h) (Or.inl ⟨by rfl, ?hy23⟩) (by assumption) ?rest23
          case hy23 =>
            intro wz hSw
            clear hSw
            go_simp <;> with_reducible rfl
          try simp only [List.getElem_toArray, List.getElem_cons_zero, List.getElem_cons_succ, Act.put, List.setIfInBounds_toArray, List.set_cons_zero, List.set_cons_succ]
          refine wpAnyH_take (i := 5) (v := ?v24) rfl (by kernel_rfl) (by kernel_rfl) (by kernel_rfl) (fun _ _ _ h => h) (Or.inl ⟨by rfl, ?hy24⟩) (by assumption) ?rest24
          case hy24 =>
            intro wz hSw
            go_simp <;> with_reducible rfl
          try simp only [List.getElem_toArray, List.getElem_cons_zero, List.getElem_cons_succ, Act.put, List.setIfInBounds_toArray, List.set_cons_zero, List.set_cons_succ]
          refine wpAnyH_take (i := 8) (v := ?v25) rfl (by kernel_rfl) (by kernel_rfl) (by kernel_rfl) (fun _ _ _ h => h) (Or.inl ⟨by rfl, ?hy25⟩) (by assumption) ?rest25
          case hy25 =>
            intro wz hSw
            clear hSw
            go_simp <;> with_reducible rfl
          try simp only [List.getElem_toArray, List.getElem_cons_zero, List.getElem_cons_succ, Act.put, List.setIfInBounds_toArray, List.set_cons_zero, List.set_cons_succ]
          refine wpAnyH_take (i := 9) (v := ?v26) rfl (by kernel_rfl) (by kernel_rfl) (by kernel_rfl) (fun _ _ _ h => h) (Or.inl ⟨by rfl, ?hy26⟩) (by assumption) ?rest26
          case hy26 =>
            intro wz hSw
            clear hSw
            go_simp <;> with_reducible rfl
          try simp only [List.getElem_toArray, List.getElem_cons_zero, List.getElem_cons_succ, Act.put, List.setIfInBounds_toArray, List.set_cons_zero, List.set_cons_succ]
          refine wpAnyH_take (i := 10) (v := ?v27) rfl (by kernel_rfl) (by kernel_rfl) (by kernel_rfl) (fun _ _ _ h => h) (Or.inl ⟨by rfl, ?hy27⟩) (by assumption) ?rest27
          case hy27 =>
            intro wz hSw
            clear hSw
            go_simp <;> with_reducible rfl
          try simp only [List.getElem_toArray, List.getElem_cons_zero, List.getElem_cons_succ, Act.put, List.setIfInBounds_toArray, List.set_cons_zero, List.set_cons_succ]
          refine wpAnyH_ready (rs := [0, 6]) (by kernel_rfl) (by simp) (AllReadyH.cons rfl (fun K hK => ?_) (AllReadyH.cons rfl (fun K hK => ?_) AllReadyH.nil))
          · go_simp
            have OE : Hid (OwnP (w2.alloc (.cells #[] 71)) w2.heap.size (some ⟨w2.heap.size, 0, none⟩) 0 0 []) := World.ownsRow_made w2 #[] 0 (Nat.le_refl _) (Nat.zero_le _) (by simp)
            have BE : Hid (Below w2.heap.size w2 (w2.alloc (.cells #[] 71))) := (Below.refl _ w2).alloc (Nat.le_refl _) _
            clear hHeld
            refine hK.out _ _ (⟨older sx.1 _, older sx.2 _⟩) (fun hHeld => ?_)
            clear hK K
            try simp only [List.getElem_toArray, List.getElem_cons_zero, List.getElem_cons_succ, Act.put, List.setIfInBounds_toArray, List.set_cons_zero, List.set_cons_succ]
            refine wpAnyH_ready (rs := [4, 6]) (by kernel_rfl) (by simp) (AllReadyH.cons rfl (fun K hK => ?_) (AllReadyH.cons rfl (fun K hK => ?_) AllReadyH.nil))
            · refine step_cat_p rfl (.tmp 30) (.tmp 33) rfl w2.heap.size 0 0 _ [] (ps.take n) g 0 n c (by first | rfl | (rw [Nat.zero_add]; rfl) | simp) rfl OE.out (by simp; have := HL.out; omega) (fun i hi => ?_) (by omega) BE.out.size ?_
              · rw [Nat.zero_add, pa_take hi, pb_take hi]
                have := HCd.out i (by omega)
                exact ⟨(BE.out.cell (p := ⟨g, i * 2, none⟩) hgd).trans this.1, (BE.out.cell (p := ⟨g, i * 2 + 1, none⟩) hgd).trans this.2⟩
              intro A4 c4 w4 O4 B4 G4
              have B4' : Hid (Below w2.heap.size w2 w4) := BE.out.trans B4.out
              have sx_w4 : (fun w' : World => w'.cell? ⟨w.heap.size, 0, none⟩ = some (.int .i64 x) ∧ w'.cell? ⟨w.heap.size, 1, none⟩ = some (.int .i64 y)) w4 := ⟨(B4'.out.cell (p := ⟨w.heap.size, 0, none⟩) hbx).trans sx.1, (B4'.out.cell (p := ⟨w.heap.size, 1, none⟩) hbx).trans sx.2⟩
              clear hHeld
              refine hK.out _ _ (sx_w4) (fun hHeld => ?_)
              clear hK K
              try simp only [List.getElem_toArray, List.getElem_cons_zero, List.getElem_cons_succ, Act.put, List.setIfInBounds_toArray, List.set_cons_zero, List.set_cons_succ]
              refine wpAnyH_ready (rs := [6]) (by kernel_rfl) (by simp) (AllReadyH.cons rfl (fun K hK => ?_) AllReadyH.nil)
              go_simp
              have V5 := Lib.hid (BlkAt.new w4 x y)
              have O5 := Lib.hid (O4.out.alloc (.cells #[.int .i64 x, .int .i64 y] 71))
              have B5 : Hid (Below w2.heap.size w2 (w4.alloc (.cells #[.int .i64 x, .int .i64 y] 71))) := B4'.out.alloc B4'.out.size _
              clear hHeld
              refine hK.out _ _ (⟨older sx_w4.1 _, older sx_w4.2 _⟩) (fun hHeld => ?_)
              clear hK K
              try simp only [List.getElem_toArray, List.getElem_cons_zero, List.getElem_cons_succ, Act.put, List.setIfInBounds_toArray, List.set_cons_zero, List.set_cons_succ]
              have hzc : (w4.alloc (.cells #[.int .i64 x, .int .i64 y] 71)).heap.size = w4.heap.size + 1 := World.size_alloc _ _
              clear O4 B4 G4 B4' sx_w4
              generalize hb4 : w4.heap.size = b4 at *
              generalize w4.alloc (.cells #[.int .i64 x, .int .i64 y] 71) = w5 at *
              refine wpAnyH_ready (rs := [7]) (by kernel_rfl) (by simp) (AllReadyH.cons rfl (fun K hK => ?_) AllReadyH.nil)
              refine step_cat_p rfl (.tmp 34) (.tmp 36) rfl w2.heap.size (0 + n) c4 A4 _ [(x, y)] (b4) 0 1 1 (by first | rfl | (rw [Nat.zero_add]; rfl) | simp) (by first | rfl | (rw [Nat.zero_add]; rfl) | simp) O5.out rfl (fun i hi => ?_) (by omega) B5.out.size ?_
              · obtain rfl : i = 0 := by omega
                exact ⟨by simpa [pa] using V5.out.cell0, by simpa [pb] using V5.out.cell1⟩
              intro A6 c6 w6 O6 B6 _
              have B6' : Hid (Below w2.heap.size w2 w6) := B5.out.trans B6.out
              have sx_w6 : (fun w' : World => w'.cell? ⟨w.heap.size, 0, none⟩ = some (.int .i64 x) ∧ w'.cell? ⟨w.heap.size, 1, none⟩ = some (.int .i64 y)) w6 := ⟨(B6'.out.cell (p := ⟨w.heap.size, 0, none⟩) hbx).trans sx.1, (B6'.out.cell (p := ⟨w.heap.size, 1, none⟩) hbx).trans sx.2⟩
              clear hHeld
              refine hK.out _ _ (sx_w6) (fun hHeld => ?_)
              clear hK K
              try simp only [List.getElem_toArray, List.getElem_cons_zero, List.getElem_cons_succ, Act.put, List.setIfInBounds_toArray, List.set_cons_zero, List.set_cons_succ]
              refine wpAnyH_ready (rs := [11]) (by kernel_rfl) (by simp) (AllReadyH.cons rfl (fun K hK => ?_) AllReadyH.nil)
              refine step_cat_p rfl (.tmp 37) (.tmp 40) rfl w2.heap.size (0 + n + 1) c6 A6 _ [] g (n * 2) 0 (c - n) (by first | rfl | (rw [Nat.zero_add]; rfl) | simp) (by first | rfl | (rw [Nat.zero_add]; rfl) | simp) O6.out rfl (fun i hi => absurd hi (by omega)) (by omega) B6'.out.size ?_
              intro A7 c7 w7 O7 B7 _
              have B7' : Hid (Below w2.heap.size w2 w7) := B6'.out.trans B7.out
              have sx_w7 : (fun w' : World => w'.cell? ⟨w.heap.size, 0, none⟩ = some (.int .i64 x) ∧ w'.cell? ⟨w.heap.size, 1, none⟩ = some (.int .i64 y)) w7 := ⟨(B7'.out.cell (p := ⟨w.heap.size, 0, none⟩) hbx).trans sx.1, (B7'.out.cell (p := ⟨w.heap.size, 1, none⟩) hbx).trans sx.2⟩
              clear hHeld
              refine hK.out _ _ (sx_w7) (fun hHeld => ?_)
              clear hK K
              try simp only [List.getElem_toArray, List.getElem_cons_zero, List.getElem_cons_succ, Act.put, List.setIfInBounds_toArray, List.set_cons_zero, List.set_cons_succ]
              refine wpAnyH_take (i := 12) (v := ?v28) rfl (by kernel_rfl) (by kernel_rfl) (by kernel_rfl) (fun _ _ _ h => h) (Or.inl ⟨by rfl, ?hy28⟩) (by assumption) ?rest28
              case hy28 =>
                intro wz hSw
                clear hSw
                go_simp <;> with_reducible rfl
              try simp only [List.getElem_toArray, List.getElem_cons_zero, List.getElem_cons_succ, Act.put, List.setIfInBounds_toArray, List.set_cons_zero, List.set_cons_succ]
              refine wpAnyH_done (by kernel_rfl) ?_ _
              refine NoPanic.normal ?_
              have O8 : Hid (OwnP w7 w2.heap.size A7 (n + 1) c7 (insV ps (x, y))) := by
                have e1 : insV ps (x, y) = ([] ++ ps.take n) ++ [(x, y)] ++ [] := by
                  unfold insV
                  rw [HT.out.1, HT.out.2, hd0]
                  simp
                rw [e1]
                have := O7.out
                rwa [show 0 + n + 1 + 0 = n + 1 by omega] at this
              have hnn : n + 1 + 0 = n + 1 := by omega
              have B8 : Hid (Below w.heap.size w w7) := HBd.out.trans (B7'.out.mono hz2)
              have HC8 := Lib.hid (sLiveOk_any A7 (n + 1) c7 _ (insV ps (x, y)) z w7 O8.out.rd (Nat.le_refl _) (by unfold maxLen; omega) HWi.out)
              clear O7 B7 B7' O6 B6 B6' O5 B5 V5 HCd HBd sx_w6 sx_w7 hHeld
              rw [show 0 + n + 1 + 0 = n + 1 by omega]
              cases hv2 : liveOkV (insV ps (x, y)) z with
              | false =>
                rw [hv2] at HC8
                have HR := Lib.hid (show addR ps z (x, y) = [] ∧ addOk ps z (x, y) = false by unfold addR addOk; rw [hv2, Bool.and_false]; exact ⟨rfl, rfl⟩)
                clear hv2
                go_wp2_with fail
                refine HC8.out.mono ?_
                rintro e w9 ⟨rfl, hb9⟩
                have HB9 := Lib.hid (B8.out.trans (hb9.mono B8.out.size))
                clear hb9 HC8
                go_wp2
                go_ret2
                rw [HR.out.1, HR.out.2]
                exact ⟨none, 0, rfl, OwnP.zero, HB9.out⟩
              | true =>
                rw [hv2] at HC8
                have HR := Lib.hid (show addR ps z (x, y) = insV ps (x, y) ∧ addOk ps z (x, y) = true by unfold addR addOk; rw [hv2, HV.out]; exact ⟨rfl, rfl⟩)
                clear hv2
                go_wp2_with fail
                refine HC8.out.mono ?_
                rintro e w9 ⟨rfl, hb9⟩
                have HB9 := Lib.hid (B8.out.trans (hb9.mono B8.out.size))
                have HO9 := Lib.hid (O8.out.below hb9)
                clear hb9 HC8
                go_wp2
                go_ret2
                have hl9 := HO9.out.len
                rw [HR.out.1, HR.out.2, hl9]
                exact ⟨A7, c7, rfl, HO9.out.from_ hz2, HB9.out⟩
            · go_simp
              have OE2 := Lib.hid (OE.out.alloc (.cells #[.int .i64 x, .int .i64 y] 71))
              have BE2 : Hid (Below w2.heap.size w2 ((w2.alloc (.cells #[] 71)).alloc (.cells #[.int .i64 x, .int .i64 y] 71))) := BE.out.alloc BE.out.size _
              have VE : Hid (BlkAt ((w2.alloc (.cells #[] 71)).alloc (.cells #[.int .i64 x, .int .i64 y] 71)) (w2.heap.size + 1) x y) := by have := BlkAt.new (w2.alloc (.cells #[] 71)) x y; rw [World.size_alloc] at this; exact this
              clear hHeld
              refine hK.out _ _ (⟨older (older sx.1 _) _, older (older sx.2 _) _⟩) (fun hHeld => ?_)
              clear hK K
              try simp only [List.getElem_toArray, List.getElem_cons_zero, List.getElem_cons_succ, Act.put, List.setIfInBounds_toArray, List.set_cons_zero, List.set_cons_succ]
              refine wpAnyH_ready (rs := [4]) (by kernel_rfl) (by simp) (AllReadyH.cons rfl (fun K hK => ?_) AllReadyH.nil)
              refine step_cat_p rfl (.tmp 30) (.tmp 33) rfl w2.heap.size 0 0 _ [] (ps.take n) g 0 n c (by first | rfl | (rw [Nat.zero_add]; rfl) | simp) rfl OE2.out (by simp; have := HL.out; omega) (fun i hi => ?_) (by omega) BE2.out.size ?_
              · rw [Nat.zero_add, pa_take hi, pb_take hi]
                have := HCd.out i (by omega)
                exact ⟨(BE2.out.cell (p := ⟨g, i * 2, none⟩) hgd).trans this.1, (BE2.out.cell (p := ⟨g, i * 2 + 1, none⟩) hgd).trans this.2⟩
              intro A4 c4 w4 O4 B4 G4
              have B4' : Hid (Below w2.heap.size w2 w4) := BE2.out.trans B4.out
              have sx_w4 : (fun w' : World => w'.cell? ⟨w.heap.size, 0, none⟩ = some (.int .i64 x) ∧ w'.cell? ⟨w.heap.size, 1, none⟩ = some (.int .i64 y)) w4 := ⟨(B4'.out.cell (p := ⟨w.heap.size, 0, none⟩) hbx).trans sx.1, (B4'.out.cell (p := ⟨w.heap.size, 1, none⟩) hbx).trans sx.2⟩
              have V4 := Lib.hid (VE.out.far G4.out (by simp [Value.ownBlock]))
              clear hHeld
              refine hK.out _ _ (sx_w4) (fun hHeld => ?_)
              clear hK K
              try simp only [List.getElem_toArray, List.getElem_cons_zero, List.getElem_cons_succ, Act.put, List.setIfInBounds_toArray, List.set_cons_zero, List.set_cons_succ]
              refine wpAnyH_ready (rs := [7]) (by kernel_rfl) (by simp) (AllReadyH.cons rfl (fun K hK => ?_) AllReadyH.nil)
              refine step_cat_p rfl (.tmp 34) (.tmp 36) rfl w2.heap.size (0 + n) c4 A4 _ [(x, y)] (w2.heap.size + 1) 0 1 1 (by first | rfl | (rw [Nat.zero_add]; rfl) | simp) (by first | rfl | (rw [Nat.zero_add]; rfl) | simp) O4.out rfl (fun i hi => ?_) (by omega) B4'.out.size ?_
              · obtain rfl : i = 0 := by omega
                exact ⟨by simpa [pa] using V4.out.cell0, by simpa [pb] using V4.out.cell1⟩
              intro A6 c6 w6 O6 B6 _
              have B6' : Hid (Below w2.heap.size w2 w6) := B4'.out.trans B6.out
              have sx_w6 : (fun w' : World => w'.cell? ⟨w.heap.size, 0, none⟩ = some (.int .i64 x) ∧ w'.cell? ⟨w.heap.size, 1, none⟩ = some (.int .i64 y)) w6 := ⟨(B6'.out.cell (p := ⟨w.heap.size, 0, none⟩) hbx).trans sx.1, (B6'.out.cell (p := ⟨w.heap.size, 1, none⟩) hbx).trans sx.2⟩
              clear hHeld
              refine hK.out _ _ (sx_w6) (fun hHeld => ?_)
              clear hK K
              try simp only [List.getElem_toArray, List.getElem_cons_zero, List.getElem_cons_succ, Act.put, List.setIfInBounds_toArray, List.set_cons_zero, List.set_cons_succ]
              refine wpAnyH_ready (rs := [11]) (by kernel_rfl) (by simp) (AllReadyH.cons rfl (fun K hK => ?_) AllReadyH.nil)
              refine step_cat_p rfl (.tmp 37) (.tmp 40) rfl w2.heap.size (0 + n + 1) c6 A6 _ [] g (n * 2) 0 (c - n) (by first | rfl | (rw [Nat.zero_add]; rfl) | simp) (by first | rfl | (rw [Nat.zero_add]; rfl) | simp) O6.out rfl (fun i hi => absurd hi (by omega)) (by omega) B6'.out.size ?_
              intro A7 c7 w7 O7 B7 _
              have B7' : Hid (Below w2.heap.size w2 w7) := B6'.out.trans B7.out
              have sx_w7 : (fun w' : World => w'.cell? ⟨w.heap.size, 0, none⟩ = some (.int .i64 x) ∧ w'.cell? ⟨w.heap.size, 1, none⟩ = some (.int .i64 y)) w7 := ⟨(B7'.out.cell (p := ⟨w.heap.size, 0, none⟩) hbx).trans sx.1, (B7'.out.cell (p := ⟨w.heap.size, 1, none⟩) hbx).trans sx.2⟩
              clear hHeld
              refine hK.out _ _ (sx_w7) (fun hHeld => ?_)
              clear hK K
              try simp only [List.getElem_toArray, List.getElem_cons_zero, List.getElem_cons_succ, Act.put, List.setIfInBounds_toArray, List.set_cons_zero, List.set_cons_succ]
              refine wpAnyH_take (i := 12) (v := ?v29) rfl (by kernel_rfl) (by kernel_rfl) (by kernel_rfl) (fun _ _ _ h => h) (Or.inl ⟨by rfl, ?hy29⟩) (by assumption) ?rest29
              case hy29 =>
                intro wz hSw
                clear hSw
                go_simp <;> with_reducible rfl
              try simp only [List.getElem_toArray, List.getElem_cons_zero, List.getElem_cons_succ, Act.put, List.setIfInBounds_toArray, List.set_cons_zero, List.set_cons_succ]
              refine wpAnyH_done (by kernel_rfl) ?_ _
              refine NoPanic.normal ?_
              have O8 : Hid (OwnP w7 w2.heap.size A7 (n + 1) c7 (insV ps (x, y))) := by
                have e1 : insV ps (x, y) = ([] ++ ps.take n) ++ [(x, y)] ++ [] := by
                  unfold insV
                  rw [HT.out.1, HT.out.2, hd0]
                  simp
                rw [e1]
                have := O7.out
                rwa [show 0 + n + 1 + 0 = n + 1 by omega] at this
              have hnn : n + 1 + 0 = n + 1 := by omega
              have B8 : Hid (Below w.heap.size w w7) := HBd.out.trans (B7'.out.mono hz2)
              have HC8 := Lib.hid (sLiveOk_any A7 (n + 1) c7 _ (insV ps (x, y)) z w7 O8.out.rd (Nat.le_refl _) (by unfold maxLen; omega) HWi.out)
              clear O7 B7 B7' O6 B6 B6' O4 B4' V4 HCd HBd sx_w6 sx_w7 hHeld
              rw [show 0 + n + 1 + 0 = n + 1 by omega]
              cases hv2 : liveOkV (insV ps (x, y)) z with
              | false =>
                rw [hv2] at HC8
                have HR := Lib.hid (show addR ps z (x, y) = [] ∧ addOk ps z (x, y) = false by unfold addR addOk; rw [hv2, Bool.and_false]; exact ⟨rfl, rfl⟩)
                clear hv2
                go_wp2_with fail
                refine HC8.out.mono ?_
                rintro e w9 ⟨rfl, hb9⟩
                have HB9 := Lib.hid (B8.out.trans (hb9.mono B8.out.size))
                clear hb9 HC8
                go_wp2
                go_ret2
                rw [HR.out.1, HR.out.2]
                exact ⟨none, 0, rfl, OwnP.zero, HB9.out⟩
              | true =>
                rw [hv2] at HC8
                have HR := Lib.hid (show addR ps z (x, y) = insV ps (x, y) ∧ addOk ps z (x, y) = true by unfold addR addOk; rw [hv2, HV.out]; exact ⟨rfl, rfl⟩)
                clear hv2
                go_wp2_with fail
                refine HC8.out.mono ?_
                rintro e w9 ⟨rfl, hb9⟩
                have HB9 := Lib.hid (B8.out.trans (hb9.mono B8.out.size))
                have HO9 := Lib.hid (O8.out.below hb9)
                clear hb9 HC8
                go_wp2
                go_ret2
                have hl9 := HO9.out.len
                rw [HR.out.1, HR.out.2, hl9]
                exact ⟨A7, c7, rfl, HO9.out.from_ hz2, HB9.out⟩
          · go_simp
            clear hHeld
            refine hK.out _ _ (⟨older sx.1 _, older sx.2 _⟩) (fun hHeld => ?_)
            clear hK K
            try simp only [List.getElem_toArray, List.getElem_cons_zero, List.getElem_cons_succ, Act.put, List.setIfInBounds_toArray, List.set_cons_zero, List.set_cons_succ]
            refine wpAnyH_ready (rs := [0]) (by kernel_rfl) (by simp) (AllReadyH.cons rfl (fun K hK => ?_) AllReadyH.nil)
            go_simp
            have OE2 : Hid (OwnP ((w2.alloc (.cells #[.int .i64 x, .int .i64 y] 71)).alloc (.cells #[] 71)) w2.heap.size (some ⟨w2.heap.size + 1, 0, none⟩) 0 0 []) := by
              have : OwnP ((w2.alloc (.cells #[.int .i64 x, .int .i64 y] 71)).alloc (.cells #[] 71)) w2.heap.size (some ⟨(w2.alloc (.cells #[.int .i64 x, .int .i64 y] 71)).heap.size, 0, none⟩) 0 0 [] := World.ownsRow_made (w2.alloc (.cells #[.int .i64 x, .int .i64 y] 71)) #[] 0 (by simp) (Nat.zero_le _) (by simp)
              rw [World.size_alloc] at this
              exact this
            have BE2 : Hid (Below w2.heap.size w2 ((w2.alloc (.cells #[.int .i64 x, .int .i64 y] 71)).alloc (.cells #[] 71))) := ((Below.refl _ w2).alloc (Nat.le_refl _) _).alloc (by simp) _
            have VE := Lib.hid ((BlkAt.new w2 x y).alloc (.cells #[] 71))
            clear hHeld
            refine hK.out _ _ (⟨older (older sx.1 _) _, older (older sx.2 _) _⟩) (fun hHeld => ?_)
            clear hK K
            try simp only [List.getElem_toArray, List.getElem_cons_zero, List.getElem_cons_succ, Act.put, List.setIfInBounds_toArray, List.set_cons_zero, List.set_cons_succ]
            refine wpAnyH_ready (rs := [4]) (by kernel_rfl) (by simp) (AllReadyH.cons rfl (fun K hK => ?_) AllReadyH.nil)
            refine step_cat_p rfl (.tmp 30) (.tmp 33) rfl w2.heap.size 0 0 _ [] (ps.take n) g 0 n c (by first | rfl | (rw [Nat.zero_add]; rfl) | simp) rfl OE2.out (by simp; have := HL.out; omega) (fun i hi => ?_) (by omega) BE2.out.size ?_
            · rw [Nat.zero_add, pa_take hi, pb_take hi]
              have := HCd.out i (by omega)
              exact ⟨(BE2.out.cell (p := ⟨g, i * 2, none⟩) hgd).trans this.1, (BE2.out.cell (p := ⟨g, i * 2 + 1, none⟩) hgd).trans this.2⟩
            intro A4 c4 w4 O4 B4 G4
            have B4' : Hid (Below w2.heap.size w2 w4) := BE2.out.trans B4.out
            have sx_w4 : (fun w' : World => w'.cell? ⟨w.heap.size, 0, none⟩ = some (.int .i64 x) ∧ w'.cell? ⟨w.heap.size, 1, none⟩ = some (.int .i64 y)) w4 := ⟨(B4'.out.cell (p := ⟨w.heap.size, 0, none⟩) hbx).trans sx.1, (B4'.out.cell (p := ⟨w.heap.size, 1, none⟩) hbx).trans sx.2⟩
            have V4 := Lib.hid (VE.out.far G4.out (by simp [Value.ownBlock]))
            clear hHeld
            refine hK.out _ _ (sx_w4) (fun hHeld => ?_)
            clear hK K
            try simp only [List.getElem_toArray, List.getElem_cons_zero, List.getElem_cons_succ, Act.put, List.setIfInBounds_toArray, List.set_cons_zero, List.set_cons_succ]
            refine wpAnyH_ready (rs := [7]) (by kernel_rfl) (by simp) (AllReadyH.cons rfl (fun K hK => ?_) AllReadyH.nil)
            refine step_cat_p rfl (.tmp 34) (.tmp 36) rfl w2.heap.size (0 + n) c4 A4 _ [(x, y)] (w2.heap.size) 0 1 1 (by first | rfl | (rw [Nat.zero_add]; rfl) | simp) (by first | rfl | (rw [Nat.zero_add]; rfl) | simp) O4.out rfl (fun i hi => ?_) (by omega) B4'.out.size ?_
            · obtain rfl : i = 0 := by omega
              exact ⟨by simpa [pa] using V4.out.cell0, by simpa [pb] using V4.out.cell1⟩
            intro A6 c6 w6 O6 B6 _
            have B6' : Hid (Below w2.heap.size w2 w6) := B4'.out.trans B6.out
            have sx_w6 : (fun w' : World => w'.cell? ⟨w.heap.size, 0, none⟩ = some (.int .i64 x) ∧ w'.cell? ⟨w.heap.size, 1, none⟩ = some (.int .i64 y)) w6 := ⟨(B6'.out.cell (p := ⟨w.heap.size, 0, none⟩) hbx).trans sx.1, (B6'.out.cell (p := ⟨w.heap.size, 1, none⟩) hbx).trans sx.2⟩
            clear hHeld
            refine hK.out _ _ (sx_w6) (fun hHeld => ?_)
            clear hK K
            try simp only [List.getElem_toArray, List.getElem_cons_zero, List.getElem_cons_succ, Act.put, List.setIfInBounds_toArray, List.set_cons_zero, List.set_cons_succ]
            refine wpAnyH_ready (rs := [11]) (by kernel_rfl) (by simp) (AllReadyH.cons rfl (fun K hK => ?_) AllReadyH.nil)
            refine step_cat_p rfl (.tmp 37) (.tmp 40) rfl w2.heap.size (0 + n + 1) c6 A6 _ [] g (n * 2) 0 (c - n) (by first | rfl | (rw [Nat.zero_add]; rfl) | simp) (by first | rfl | (rw [Nat.zero_add]; rfl) | simp) O6.out rfl (fun i hi => absurd hi (by omega)) (by omega) B6'.out.size ?_
            intro A7 c7 w7 O7 B7 _
            have B7' : Hid (Below w2.heap.size w2 w7) := B6'.out.trans B7.out
            have sx_w7 : (fun w' : World => w'.cell? ⟨w.heap.size, 0, none⟩ = some (.int .i64 x) ∧ w'.cell? ⟨w.heap.size, 1, none⟩ = some (.int .i64 y)) w7 := ⟨(B7'.out.cell (p := ⟨w.heap.size, 0, none⟩) hbx).trans sx.1, (B7'.out.cell (p := ⟨w.heap.size, 1, none⟩) hbx).trans sx.2⟩
            clear hHeld
            refine hK.out _ _ (sx_w7) (fun hHeld => ?_)
            clear hK K
            try simp only [List.getElem_toArray, List.getElem_cons_zero, List.getElem_cons_succ, Act.put, List.setIfInBounds_toArray, List.set_cons_zero, List.set_cons_succ]
            refine wpAnyH_take (i := 12) (v := ?v30) rfl (by kernel_rfl) (by kernel_rfl) (by kernel_rfl) (fun _ _ _ h => h) (Or.inl ⟨by rfl, ?hy30⟩) (by assumption) ?rest30
            case hy30 =>
              intro wz hSw
              clear hSw
              go_simp <;> with_reducible rfl
            try simp only [List.getElem_toArray, List.getElem_cons_zero, List.getElem_cons_succ, Act.put, List.setIfInBounds_toArray, List.set_cons_zero, List.set_cons_succ]
            refine wpAnyH_done (by kernel_rfl) ?_ _
            refine NoPanic.normal ?_
            have O8 : Hid (OwnP w7 w2.heap.size A7 (n + 1) c7 (insV ps (x, y))) := by
              have e1 : insV ps (x, y) = ([] ++ ps.take n) ++ [(x, y)] ++ [] := by
                unfold insV
                rw [HT.out.1, HT.out.2, hd0]
                simp
              rw [e1]
              have := O7.out
              rwa [show 0 + n + 1 + 0 = n + 1 by omega] at this
            have hnn : n + 1 + 0 = n + 1 := by omega
            have B8 : Hid (Below w.heap.size w w7) := HBd.out.trans (B7'.out.mono hz2)
            have HC8 := Lib.hid (sLiveOk_any A7 (n + 1) c7 _ (insV ps (x, y)) z w7 O8.out.rd (Nat.le_refl _) (by unfold maxLen; omega) HWi.out)
            clear O7 B7 B7' O6 B6 B6' O4 B4' V4 HCd HBd sx_w6 sx_w7 hHeld
            rw [show 0 + n + 1 + 0 = n + 1 by omega]
            cases hv2 : liveOkV (insV ps (x, y)) z with
            | false =>
              rw [hv2] at HC8
              have HR := Lib.hid (show addR ps z (x, y) = [] ∧ addOk ps z (x, y) = false by unfold addR addOk; rw [hv2, Bool.and_false]; exact ⟨rfl, rfl⟩)
              clear hv2
              go_wp2_with fail
              refine HC8.out.mono ?_
              rintro e w9 ⟨rfl, hb9⟩
              have HB9 := Lib.hid (B8.out.trans (hb9.mono B8.out.size))
              clear hb9 HC8
              go_wp2
              go_ret2
              rw [HR.out.1, HR.out.2]
              exact ⟨none, 0, rfl, OwnP.zero, HB9.out⟩
            | true =>
              rw [hv2] at HC8
              have HR := Lib.hid (show addR ps z (x, y) = insV ps (x, y) ∧ addOk ps z (x, y) = true by unfold addR addOk; rw [hv2, HV.out]; exact ⟨rfl, rfl⟩)
              clear hv2
              go_wp2_with fail
              refine HC8.out.mono ?_
              rintro e w9 ⟨rfl, hb9⟩
              have HB9 := Lib.hid (B8.out.trans (hb9.mono B8.out.size))
              have HO9 := Lib.hid (O8.out.below hb9)
              clear hb9 HC8
              go_wp2
              go_ret2
              have hl9 := HO9.out.len
              rw [HR.out.1, HR.out.2, hl9]
              exact ⟨A7, c7, rfl, HO9.out.from_ hz2, HB9.out⟩

end Go.Proofs.Ythcchnaoenjhlaa
