/- The contract of the model's LiveFree: the free runs, in memory of the call's own. -/
import Derived.Test.YtlaegdfaaoaiaaaSLiveOk
import Derived.Test.YtlaegdfaaoaiaaaLiveF
import Derived.Test.YtlaegdfaaoaiaaaAppP
namespace Go.Proofs.Ytlaegdfaaoaiaaa
open Go.RowKit

set_option maxRecDepth 100000 in
set_option maxHeartbeats 4000000 in
theorem sLiveFree_any (A : Option Addr) (n c B : Nat) (ps : List (Int × Int)) (z : Int) (w : World) (h : RdP w B A n ps) (hB : B ≤ w.heap.size) (hm : n ≤ maxLen) (hW : WfP ps) :
    Calls Try.prog 32 #[.slice A n c, .int .i64 z] w fun e w' => ∃ A' c', e = .returned (.slice A' (freeV ps z).length c') ∧ OwnP w' w.heap.size A' (freeV ps z).length c' (freeV ps z) ∧ Below w.heap.size w w' := by
  have HC := Lib.hid (fun W (hb : Below w.heap.size w W) => sLiveOk_any A n c B ps z W (h.below (hb.mono hB)) (Nat.le_trans hB hb.size) hm hW)
  have HO0 : Hid (OwnP (w.alloc (.cells #[] 26)) w.heap.size (some ⟨w.heap.size, 0, none⟩) 0 0 []) := World.ownsRow_made w #[] 0 (Nat.le_refl _) (Nat.zero_le _) (by simp)
  have HB0 := Lib.hid ((Below.refl _ w).alloc (Nat.le_refl _) (.cells #[] 26))
  cases hv : liveOkV ps z with
  | false =>
    rw [hv] at HC
    have hr : freeV ps z = [] := by unfold freeV; rw [hv]; rfl
    rw [hr]
    have HC0 := Lib.hid (HC.out _ HB0.out)
    clear h hW hv HC
    go_enter Try.func32, Try.ntmps32
    go_wp2
    refine wp_loop_rounds 1 ?_
    rw [rounds_succ]
    go_wp2_with fail
    refine HC0.out.mono ?_
    rintro e w1 ⟨rfl, hb⟩
    have HO1 := Lib.hid (HO0.out.below hb)
    have HB := Lib.hid (HB0.out.trans (hb.mono HB0.out.size))
    clear hb HC0 HO0 HB0
    go_wp2
    go_ret
    exact ⟨_, _, rfl, HO1.out, HB.out⟩
  | true =>
    rw [hv] at HC
    obtain ⟨⟨hz0, hz1, hlen⟩, _⟩ := liveOkV_z hv
    have hn : n ≤ 300 := by rw [← h.1]; exact hlen
    have HX := Lib.hid (fun k (hk : k < n + 1) => (live_ext hv (by rw [h.1]; exact hk)).1)
    have HL := Lib.hid (show (ps ++ [(z, (0 : Int))]).length = n + 1 by simp [h.1])
    have HL0 := Lib.hid h.1
    have HF := Lib.hid (show freeV ps z = [] ++ gapsQ 0 ((ps ++ [(z, 0)]).drop 0) by unfold freeV; rw [if_pos hv]; rfl)
    have H := Lib.hid h
    clear h hW hv hlen hm
    go_enter Try.func32, Try.ntmps32
    go_wp2
    go_loopw [5, 6, 7] (fun s e i wr => ∃ (k m ca : Nat) (E : Int) (Ac : Option Addr) (acc : List (Int × Int)), k ≤ n + 1 ∧ m ≤ k ∧ i = .int .i64 k ∧ e = .int .i64 E ∧ 0 ≤ E ∧ E ≤ z ∧ s = .slice Ac m ca ∧ Hid (freeV ps z = acc ++ gapsQ E ((ps ++ [(z, 0)]).drop k)) ∧ Hid (OwnP wr w.heap.size Ac m ca acc) ∧ Hid (Below w.heap.size w wr)) (fun _ _ i _ => n + 1 - (intOf i).toNat)
    case atStart => exact ⟨0, 0, 0, 0, _, [], Nat.zero_le _, Nat.le_refl _, rfl, rfl, Int.le_refl _, hz0, rfl, HF, HO0, HB0⟩
    case round =>
      obtain ⟨k, m, ca, E, Ac, acc, hk, hmk, rfl, rfl, hE0, hE1, rfl, HK, HO, HBr⟩ := hrel
      have HCr := Lib.hid (HC.out wr HBr.out)
      clear HF HC HO0 HB0
      by_cases hlt : k < n + 1
      · have hx := HX.out k hlt
        have hkl : k < (ps ++ [(z, (0 : Int))]).length := by rw [HL.out]; exact hlt
        have hkn : decide ((k : Int) ≤ (n : Int)) = true := by simp; omega
        have HYes := fun h => HK.out.trans (congrArg (acc ++ ·) (gapsQ_yes (e := E) hkl h))
        have HNo := fun h => HK.out.trans (congrArg (acc ++ ·) (gapsQ_no (e := E) hkl h))
        go_wp2_with fail
        refine HCr.out.mono ?_
        rintro e w1 ⟨rfl, hb⟩
        have HO1 := Lib.hid (HO.out.below hb)
        have HB1 := Lib.hid (HBr.out.trans (hb.mono HBr.out.size))
        have hs1 := HB1.out.size
        have HRd := Lib.hid (H.out.below (HB1.out.mono hB))
        clear hb HCr HK HO HBr
        by_cases hl : k < n
        · have hkn2 : decide ((k : Int) < (n : Int)) = true := by simp; omega
          obtain ⟨g, o, rfl, hg, hc⟩ := HRd.out.2 (by omega)
          obtain ⟨c1, c2⟩ := hc k hl
          have e1 := pa_left (qs := [(z, (0 : Int))]) (show k < ps.length by rw [HL0.out]; exact hl)
          have e2 := pb_left (qs := [(z, (0 : Int))]) (show k < ps.length by rw [HL0.out]; exact hl)
          rw [← e1] at c1
          rw [← e2] at c2
          clear e1 e2 hc
          generalize pa (ps ++ [(z, 0)]) k = x at *
          generalize pb (ps ++ [(z, 0)]) k = y at *
          by_cases d : E < x
          · have HR := Lib.hid (HYes d)
            clear HYes HNo
            go_wp2_with (first
              | (at_builtin; refine wpList_push_p rfl _ _ rfl w.heap.size m ca Ac acc E (x - E) _ rfl rfl rfl HO1.out (by omega) hs1 ?_
                 intro A5 c5 w5 HO5 HB5 HG5
                 have HR5 := Lib.hid (H.out.below ((HB1.out.trans HB5.out).mono hB))
                 obtain ⟨c1', c2'⟩ : w5.cell? ⟨g, o + k * 2, none⟩ = some (.int .i64 x) ∧ w5.cell? ⟨g, o + k * 2 + 1, none⟩ = some (.int .i64 y) := ⟨(HB5.out.cell (p := ⟨g, o + k * 2, none⟩) (by show g < _; omega)).trans c1, (HB5.out.cell (p := ⟨g, o + k * 2 + 1, none⟩) (by show g < _; omega)).trans c2⟩
                 have HB6 := Lib.hid (HB1.out.trans HB5.out)
                 have HR2 := Lib.hid (show freeV ps z = (acc ++ [(E, x - E)]) ++ gapsQ (x + y) ((ps ++ [(z, 0)]).drop (k + 1)) by rw [HR.out]; simp)
                 clear HR HG5 HB5 HO1 HR5 c1 c2)
              | fail)
            go_quiet (fail)
            go_wp2
            go_roundw
            case rel => exact ⟨k + 1, m + 1, c5, x + y, A5, _, by omega, by omega, by go_num, by go_num, by omega, by omega, rfl, HR2, HO5.out, ⟨HB6.out.os, HB6.out.tape, HB6.out.output, HB6.out.size, HB6.out.block⟩⟩
            case measure => simp [intOf]; omega
          · have HR := Lib.hid (HNo (by omega))
            clear HYes HNo
            go_wp2
            go_quiet (fail)
            go_wp2
            go_roundw
            case rel => exact ⟨k + 1, m, ca, x + y, Ac, acc, by omega, by omega, by go_num, by go_num, by omega, by omega, rfl, HR, HO1.out, ⟨HB1.out.os, HB1.out.tape, HB1.out.output, HB1.out.size, HB1.out.block⟩⟩
            case measure => simp [intOf]; omega
        · have hkn2 : decide ((k : Int) < (n : Int)) = false := by simp; omega
          have hke : k = ps.length := by rw [HL0.out]; omega
          have e1 : pa (ps ++ [(z, 0)]) k = z := by rw [hke]; exact pa_last
          have e2 : pb (ps ++ [(z, 0)]) k = 0 := by rw [hke]; exact pb_last
          rw [e1] at HYes HNo
          rw [e2] at HYes HNo
          clear e1 e2 hke hx
          have hend := gapsQ_end (qs := ps ++ [(z, (0 : Int))]) (k := k + 1) (e := z + 0) (by rw [HL.out]; omega)
          have hend2 := gapsQ_end (qs := ps ++ [(z, (0 : Int))]) (k := k + 1) (e := E) (by rw [HL.out]; omega)
          by_cases d : E < z
          · have HR := Lib.hid (HYes d)
            have HR2 := Lib.hid (show freeV ps z = (acc ++ [(E, z - E)]) ++ gapsQ E ((ps ++ [(z, 0)]).drop (k + 1)) by rw [HR.out, hend, hend2]; simp)
            clear HYes HNo HR hend hend2
            go_wp2_with (first
              | (at_builtin; refine wpList_push_p rfl _ _ rfl w.heap.size m ca Ac acc E (z - E) _ rfl rfl rfl HO1.out (by omega) hs1 ?_
                 intro A5 c5 w5 HO5 HB5 HG5
                 have HB6 := Lib.hid (HB1.out.trans HB5.out)
                 clear HG5 HB5 HO1)
              | fail)
            go_roundw
            case rel => exact ⟨k + 1, m + 1, c5, E, A5, _, by omega, by omega, by go_num, rfl, by omega, by omega, rfl, HR2, HO5, HB6⟩
            case measure => simp [intOf]; omega
          · have HR := Lib.hid (HNo (by omega))
            have HR2 := Lib.hid (show freeV ps z = acc ++ gapsQ E ((ps ++ [(z, 0)]).drop (k + 1)) by rw [HR.out, hend, hend2])
            clear HYes HNo HR hend hend2
            go_wp2
            go_roundw
            case rel => exact ⟨k + 1, m, ca, E, Ac, acc, by omega, by omega, by go_num, rfl, by omega, by omega, rfl, HR2, HO1, HB1⟩
            case measure => simp [intOf]; omega
      · have HR := Lib.hid (show freeV ps z = acc by rw [HK.out, gapsQ_end (by rw [HL.out]; omega)]; simp)
        have hl := HO.out.len
        have hkn : decide ((k : Int) ≤ (n : Int)) = false := by simp; omega
        go_wp2_with fail
        refine HCr.out.mono ?_
        rintro e w1 ⟨rfl, hb⟩
        have HO1 := Lib.hid (HO.out.below hb)
        have HB1 := Lib.hid (HBr.out.trans (hb.mono HBr.out.size))
        clear hb HCr HK HO HBr
        go_wp2
        go_ret
        rw [HR.out, hl]
        exact ⟨Ac, ca, rfl, HO1.out, HB1.out⟩

end Go.Proofs.Ytlaegdfaaoaiaaa
