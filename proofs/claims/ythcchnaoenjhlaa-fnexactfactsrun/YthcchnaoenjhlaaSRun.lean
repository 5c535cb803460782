/- FactsRun of the model. -/
import Derived.Test.YthcchnaoenjhlaaRunM
import Derived.Test.YthcchnaoenjhlaaSFactDo
namespace Go.Proofs.Ythcchnaoenjhlaa
open Go.RowKit
set_option linter.unusedVariables false

set_option maxRecDepth 100000 in
set_option maxHeartbeats 4000000 in
theorem sFactsRun_any (A : Option Addr) (n c B : Nat) (fs : List Fc) (w : World) (h : RdF w B A n fs) (hB : B ≤ w.heap.size) (hm : n ≤ maxLen) (hff : ∀ f ∈ fs, f.Wf) :
    Calls Try.prog 20 #[.slice A n c] w fun e w' => ∃ A' c', e = .returned (.tuple #[.slice A' (runV fs).1.length c', .int .i64 (runV fs).2]) ∧ OwnP w' w.heap.size A' (runV fs).1.length c' (runV fs).1 ∧ Below w.heap.size w w' := by
  unfold maxLen at hm
  have O0 : Hid (OwnP (w.alloc (.cells #[] 71)) w.heap.size (some ⟨w.heap.size, 0, none⟩) 0 0 []) := World.ownsRow_made w #[] 0 (Nat.le_refl _) (Nat.zero_le _) (by simp)
  have B0 := Lib.hid (bel1 w (.cells #[] 71))
  by_cases hn : n ≤ 2000
  · have HR : Hid (runV fs = runL [] ((0 : Nat) : Int) (fs.drop 0)) := (show _ = _ from by unfold runV; rw [if_pos (by rw [h.1]; exact hn)]; rfl)
    have HL := Lib.hid h.1
    have H2 := Lib.hid h.2
    have HF := Lib.hid hff
    have HW0 : Hid (WfP []) := (show WfP [] from by intro p hp; simp at hp)
    clear h hff
    go_enter Try.func20, Try.ntmps20
    go_wp2
    go_loopw [4, 5] (fun v j wr => ∃ (k m : Nat) (A1 : Option Addr) (c1 : Nat) (ps : List (Int × Int)), k ≤ n ∧ j = .int .i64 k ∧ v = .slice A1 m c1 ∧ Hid (OwnP wr w.heap.size A1 m c1 ps ∧ A1 ≠ none) ∧ Hid (WfP ps ∧ ps.length ≤ 300) ∧ Hid (runV fs = runL ps (k : Int) (fs.drop k)) ∧ Hid (Below w.heap.size w wr)) (fun _ j _ => n - (intOf j).toNat)
    case atStart => exact ⟨0, 0, (some ⟨w.heap.size, 0, none⟩), 0, [], Nat.zero_le _, rfl, rfl, ⟨O0.out, by simp⟩, ⟨HW0.out, by simp⟩, HR, B0⟩
    case round =>
      obtain ⟨k, m, A1, c1, ps, hk, rfl, rfl, HP, HW, HN, HB⟩ := hrel
      clear O0 B0 HR HW0
      have hsz := HB.out.size
      have hml := HP.out.1.len
      have hpl := HW.out.2
      by_cases hlt : k < n
      · obtain ⟨g, o, rfl, hg, hc⟩ := H2.out (by omega)
        have HN2 := Lib.hid (HN.out.trans (run_next (ps := ps) (by rw [HL.out]; exact hlt)))
        have hxf : (fat fs k).Wf := by rw [← fat_eq (by rw [HL.out]; exact hlt)]; exact HF.out _ (List.getElem_mem _)
        have h5 := (hc k hlt).below HB.out (by omega)
        clear hc HN
        generalize fat fs k = x at *
        obtain ⟨y1, y2, y3, y4, y5⟩ := h5
        have HW2 := Lib.hid (doR_wf HW.out.1 hxf)
        have hRl := doR_len ps x
        have HBx := HB
        obtain ⟨ga, hga⟩ : ∃ g, A1 = some ⟨g, 0, none⟩ := by
          rcases HP.out.1.2 with ⟨hv, h0⟩ | ⟨g, cap, cur, hv, _⟩
          · injection hv with h1 h2 h3
            exact absurd h1 HP.out.2
          · injection hv with h1 h2 h3
            exact ⟨g, h1⟩
        subst hga
        have hcap := HP.out.1.cap
        have hgr := (HP.out.1.range ga rfl).2
        have HPx := Lib.hid HP.out.1
        have HD := Lib.hid (sFactDo_any ga m c1 _ ps x wr HPx.out.rd (Nat.le_refl _) (by unfold maxLen; omega) HW.out.1 hxf hgr hcap.1 hcap.2)
        clear hgr
        generalize doR ps x = R at *
        generalize (doV ps x).isSome = q at *
        cases q with
        | true =>
          rw [if_pos rfl] at HN2
          go_wp2_with fail
          refine HD.out.mono ?_
          rintro e w2 ⟨A', c', rfl, hne, ho, hb⟩
          have HP3 := Lib.hid (ho.from_ HBx.out.size)
          have HB3 := Lib.hid (HBx.out.trans (hb.mono HBx.out.size))
          have HN3 : Hid (A' ≠ none) := (by first | exact hne rfl | exact hne trivial)
          clear ho hb HP HPx HB HBx HD y1 y2 y3 y4 y5
          go_wp2
          go_roundw
          case rel => exact ⟨k + 1, R.length, A', c', R, by omega, by go_num, rfl, ⟨HP3.out, HN3.out⟩, ⟨HW2.out, hRl⟩, HN2, HB3⟩
          case measure => simp [intOf]; omega
        | false =>
          rw [if_neg (by simp)] at HN2
          go_wp2_with fail
          refine HD.out.mono ?_
          rintro e w2 ⟨A', c', rfl, hne, ho, hb⟩
          have HB3 := Lib.hid (HBx.out.trans (hb.mono HBx.out.size))
          clear ho hb HP HPx HB HBx HD y1 y2 y3 y4 y5
          go_wp2
          refine bodyPost_ret (results_tmp2 rfl _ _ _) rfl ?_
          rw [HN2.out]
          exact ⟨none, 0, rfl, OwnP.zero, HB3.out⟩
      · have HE := Lib.hid (HN.out.trans (run_end (ps := ps) (by rw [HL.out]; omega)))
        clear HN
        go_wp2
        refine bodyPost_ret (results_tmp2 rfl _ _ _) rfl ?_
        rw [HE.out]
        exact ⟨A1, c1, by rw [hml]; rfl, by rw [hml]; exact HP.out.1, HB.out⟩
  · have HR : Hid (runV fs = ([], 0)) := (show _ = _ from by unfold runV; rw [if_neg (by rw [h.1]; exact hn)])
    clear h hff
    go_enter Try.func20, Try.ntmps20
    go_wp2
    refine bodyPost_ret (results_tmp2 rfl _ _ _) rfl ?_
    rw [HR.out]
    exact ⟨_, 0, rfl, O0.out, B0.out⟩

  end Go.Proofs.Ythcchnaoenjhlaa
