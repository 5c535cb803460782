/- The contract of the program's LiveFree: the free runs, in memory of the call's own. -/
import Derived.Test.YtlaegdfaaoaiaaaILiveOk
import Derived.Test.YtlaegdfaaoaiaaaBlkP
import Derived.Test.YtlaegdfaaoaiaaaLiveF
import Derived.Test.YtlaegdfaaoaiaaaCloneP
namespace Go.Proofs.Ytlaegdfaaoaiaaa
open Go.RowKit

set_option maxRecDepth 100000 in
set_option maxHeartbeats 2000000 in
theorem liveFree_any (g o n c B : Nat) (ps : List (Int × Int)) (z : Int) (w : World) (h : RdP w B (some ⟨g, o, none⟩) n ps) (hB : B ≤ w.heap.size) (hm : n ≤ maxLen) (hW : WfP ps) :
    Calls Try.prog 18 #[.slice (some ⟨g, o, none⟩) n c, .int .i64 z] w fun e w' => ∃ A' c', e = .returned (.slice A' (freeV ps z).length c') ∧ OwnP w' w.heap.size A' (freeV ps z).length c' (freeV ps z) ∧ Below w.heap.size w w' := by
  have HC := Lib.hid (liveOk_any (some ⟨g, o, none⟩) n c B ps z w h hB hm hW)
  cases hv : liveOkV ps z with
  | false =>
    rw [hv] at HC
    have hr : freeV ps z = [] := by unfold freeV; rw [hv]; rfl
    rw [hr]
    clear h hW hv
    go_enter Try.func18, Try.ntmps18
    go_wp2_with fail
    refine HC.out.mono ?_
    rintro e w1 ⟨rfl, hb⟩
    have HB := Lib.hid hb
    clear hb HC
    go_wp2
    go_ret
    exact ⟨none, 0, rfl, OwnP.zero, HB.out⟩
  | true =>
    rw [hv] at HC
    obtain ⟨⟨hz0, hz1, hlen⟩, _⟩ := liveOkV_z hv
    have hn : n ≤ 300 := by rw [← h.1]; exact hlen
    have HX := Lib.hid (fun k (hk : k < n + 1) => (live_ext hv (by rw [h.1]; exact hk)).1)
    have HL := Lib.hid (show (ps ++ [(z, (0 : Int))]).length = n + 1 by simp [h.1])
    have HF := Lib.hid (show freeV ps z = [] ++ gapsQ 0 ((ps ++ [(z, 0)]).drop 0) by unfold freeV; rw [if_pos hv]; rfl)
    have H := Lib.hid h
    clear h hW hv hlen hm
    go_enter Try.func18, Try.ntmps18
    go_wp2_with fail
    refine HC.out.mono ?_
    rintro e w1 ⟨rfl, hb⟩
    have HB1 := Lib.hid hb
    clear hb HC
    go_wp2_with fail
    refine (clone_any g o n c B ps w1 (H.out.below (HB1.out.mono hB)) (by omega)).mono ?_
    rintro e w2 ⟨A2, c2, rfl, ho, hb⟩
    have HO2 := Lib.hid ho
    have HB2 := Lib.hid (HB1.out.trans (hb.mono HB1.out.size))
    have hs2 := hb.size
    have HB1z := HB1.out.size
    clear ho hb HB1 H
    go_wp2_with (first
      | (at_builtin; refine wpList_push_p rfl _ _ rfl w1.heap.size n c2 A2 ps z 0 _ rfl rfl rfl HO2.out (by omega) hs2 ?_; intro A3 c3 w3 HO3 HB3 _)
      | fail)
    have HB4 := Lib.hid (show Below w.heap.size w w3 from HB2.out.trans (HB3.out.mono (by have := HB1z; omega)))
    have HR3 := Lib.hid HO3.out.rd
    have hs3 := HB4.out.size
    clear HO2 HO3 HB2 HB3
    go_wp2
    go_loopw [5, 6, 20] (fun s e i wr => ∃ (k m ca : Nat) (E : Int) (Ac : Option Addr) (acc : List (Int × Int)), k ≤ n + 1 ∧ m ≤ k ∧ i = .int .i64 k ∧ e = .int .i64 E ∧ 0 ≤ E ∧ E ≤ z ∧ s = .slice Ac m ca ∧ Hid (freeV ps z = acc ++ gapsQ E ((ps ++ [(z, 0)]).drop k)) ∧ Hid (OwnP wr w3.heap.size Ac m ca acc) ∧ Hid (Below w3.heap.size w3 wr)) (fun _ _ i _ => n + 1 - (intOf i).toNat)
    case atStart => exact ⟨0, 0, 0, 0, none, [], Nat.zero_le _, Nat.le_refl _, rfl, rfl, Int.le_refl _, hz0, rfl, HF, OwnP.zero, Below.refl _ _⟩
    case round =>
      obtain ⟨k, m, ca, E, Ac, acc, hk, hmk, rfl, rfl, hE0, hE1, rfl, HK, HO, HBr⟩ := hrel
      clear HF
      have hsr := HBr.out.size
      by_cases hlt : k < n + 1
      · obtain ⟨g3, o3, rfl, hg, hc⟩ := HR3.out.2 (by omega)
        have c1 : wr.cell? ⟨g3, o3 + k * 2, none⟩ = some (.int .i64 (pa (ps ++ [(z, 0)]) k)) := (HBr.out.cell (p := ⟨g3, o3 + k * 2, none⟩) (by show g3 < _; omega)).trans (hc k hlt).1
        have c2 : wr.cell? ⟨g3, o3 + k * 2 + 1, none⟩ = some (.int .i64 (pb (ps ++ [(z, 0)]) k)) := (HBr.out.cell (p := ⟨g3, o3 + k * 2 + 1, none⟩) (by show g3 < _; omega)).trans (hc k hlt).2
        have hx := HX.out k hlt
        have hkl : k < (ps ++ [(z, (0 : Int))]).length := by rw [HL.out]; exact hlt
        have HYes := fun h => HK.out.trans (congrArg (acc ++ ·) (gapsQ_yes (e := E) hkl h))
        have HNo := fun h => HK.out.trans (congrArg (acc ++ ·) (gapsQ_no (e := E) hkl h))
        have HO1 := fun x y => Lib.hid (HO.out.alloc (.cells #[.int .i64 x, .int .i64 y] 26))
        have HBl := fun x y => Lib.hid (HBr.out.alloc hsr (.cells #[.int .i64 x, .int .i64 y] 26))
        have HV := fun x y => Lib.hid (BlkAt.new wr x y)
        have HRg := Lib.hid HO.out.range
        generalize pa (ps ++ [(z, 0)]) k = x at *
        generalize pb (ps ++ [(z, 0)]) k = y at *
        clear hc HK HO HBr
        by_cases d : E < x
        · have HR := Lib.hid (HYes d)
          clear HYes HNo
          go_wp2_with (first
            | (at_builtin; refine wpList_push_p rfl _ _ rfl w3.heap.size m ca Ac acc E (x - E) _ rfl rfl (by simp) (HO1 x y).out (by omega) (by simp; omega) ?_
               intro A5 c5 w5 HO5 HB5 HG5
               have HV5 := Lib.hid (((HV x y).out.alloc _).far HG5.out (fun e => by have := HRg.out _ e.symm; omega))
               have v0 := HV5.out.cell0
               have v1 := HV5.out.cell1
               have HB6 := Lib.hid ((HBl x y).out.trans HB5.out)
               have HR2 := Lib.hid (show freeV ps z = (acc ++ [(E, x - E)]) ++ gapsQ (x + y) ((ps ++ [(z, 0)]).drop (k + 1)) by rw [HR.out]; simp)
               clear HR HG5 HB5 HO1 HBl HV)
            | fail)
          go_roundw
          case rel => exact ⟨k + 1, m + 1, c5, x + y, A5, _, by omega, by omega, by go_num, by go_num, by omega, by omega, rfl, HR2, HO5, HB6⟩
          case measure => simp [intOf]; omega
        · have HR := Lib.hid (HNo d)
          have HO2 := HO1 x y
          have HB2 := HBl x y
          clear HYes HNo HO1 HBl HV
          go_wp2
          go_roundw
          case rel => exact ⟨k + 1, m, ca, x + y, Ac, acc, by omega, by omega, by go_num, by go_num, by omega, by omega, rfl, HR, HO2, HB2⟩
          case measure => simp [intOf]; omega
      · have HR := Lib.hid (show freeV ps z = acc by rw [HK.out, gapsQ_end (by rw [HL.out]; omega)]; simp)
        have hl := HO.out.len
        go_wp2
        go_ret
        rw [HR.out, hl]
        exact ⟨Ac, ca, rfl, HO.out.from_ hs3, HB4.out.trans (HBr.out.mono hs3)⟩

end Go.Proofs.Ytlaegdfaaoaiaaa
