/- FactsRun of the program. -/
import Derived.Test.YthcchnaoenjhlaaRunM
import Derived.Test.YthcchnaoenjhlaaIFactDo
namespace Go.Proofs.Ythcchnaoenjhlaa
open Go.RowKit
set_option linter.unusedVariables false

set_option maxRecDepth 100000 in
set_option maxHeartbeats 4000000 in
theorem factsRun_any (A : Option Addr) (n c B : Nat) (fs : List Fc) (w : World) (h : RdF w B A n fs) (hB : B ≤ w.heap.size) (hm : n ≤ maxLen) (hff : ∀ f ∈ fs, f.Wf) :
    Calls Try.prog 22 #[.slice A n c] w fun e w' => ∃ A' c', e = .returned (.tuple #[.slice A' (runV fs).1.length c', .int .i64 (runV fs).2]) ∧ OwnP w' w.heap.size A' (runV fs).1.length c' (runV fs).1 ∧ Below w.heap.size w w' := by
  unfold maxLen at hm
  have O0 : Hid (OwnP w w.heap.size none 0 0 []) := OwnP.zero
  have B0 : Hid (Below w.heap.size w w) := Below.refl _ _
  by_cases hn : n ≤ 2000
  · have HR : Hid (runV fs = runL [] ((0 : Nat) : Int) (fs.drop 0)) := (show _ = _ from by unfold runV; rw [if_pos (by rw [h.1]; exact hn)]; rfl)
    have HL := Lib.hid h.1
    have H2 := Lib.hid h.2
    have HF := Lib.hid hff
    have HW0 : Hid (WfP []) := (show WfP [] from by intro p hp; simp at hp)
    clear h hff
    go_enter Try.func22, Try.ntmps22
    go_wp2
    go_loopw [4, 14] (fun v j wr => ∃ (k m : Nat) (A1 : Option Addr) (c1 : Nat) (ps : List (Int × Int)), k ≤ n ∧ j = .int .i64 k ∧ v = .slice A1 m c1 ∧ Hid (OwnP wr w.heap.size A1 m c1 ps) ∧ Hid (WfP ps ∧ ps.length ≤ 300) ∧ Hid (runV fs = runL ps (k : Int) (fs.drop k)) ∧ Hid (Below w.heap.size w wr)) (fun _ j _ => n - (intOf j).toNat)
    case atStart => exact ⟨0, 0, none, 0, [], Nat.zero_le _, rfl, rfl, O0, ⟨HW0.out, by simp⟩, HR, B0⟩
    case round =>
      obtain ⟨k, m, A1, c1, ps, hk, rfl, rfl, HP, HW, HN, HB⟩ := hrel
      clear O0 B0 HR HW0
      have hsz := HB.out.size
      have hml := HP.out.len
      have hpl := HW.out.2
      by_cases hlt : k < n
      · obtain ⟨g, o, rfl, hg, hc⟩ := H2.out (by omega)
        have HN2 := Lib.hid (HN.out.trans (run_next (ps := ps) (by rw [HL.out]; exact hlt)))
        have hxf : (fat fs k).Wf := by rw [← fat_eq (by rw [HL.out]; exact hlt)]; exact HF.out _ (List.getElem_mem _)
        have h5 := (hc k hlt).below HB.out (by omega)
        clear hc HN
        generalize fat fs k = x at *
        obtain ⟨y1, y2, y3, y4, y5⟩ := h5
        have HW2 := Lib.hid (doR_wf HW.out.1 hxf)
        have hRl := doR_len ps x
        have HBx := Lib.hid (HB.out.alloc HB.out.size (.cells #[.int .i64 x.k, .int .i64 x.i, .int .i64 x.l, .int .i64 x.a, .int .i64 x.s] 25))
        have HPx := Lib.hid (HP.out.alloc (.cells #[.int .i64 x.k, .int .i64 x.i, .int .i64 x.l, .int .i64 x.a, .int .i64 x.s] 25))
        have HD := Lib.hid (factDo_any A1 m c1 _ ps x (wr.alloc (.cells #[.int .i64 x.k, .int .i64 x.i, .int .i64 x.l, .int .i64 x.a, .int .i64 x.s] 25)) HPx.out.rd (Nat.le_refl _) (by unfold maxLen; omega) HW.out.1 hxf HPx.out.plain)
        generalize doR ps x = R at *
        generalize (doV ps x).isSome = q at *
        cases q with
        | true =>
          rw [if_pos rfl] at HN2
          go_wp2_with fail
          refine HD.out.mono ?_
          rintro e w2 ⟨A', c', rfl, ho, hb⟩
          have HP3 := Lib.hid (ho.from_ HBx.out.size)
          have HB3 := Lib.hid (HBx.out.trans (hb.mono HBx.out.size))
          clear ho hb HP HPx HB HBx HD y1 y2 y3 y4 y5
          go_wp2
          go_roundw
          case rel => exact ⟨k + 1, R.length, A', c', R, by omega, by go_num, rfl, HP3, ⟨HW2.out, hRl⟩, HN2, HB3⟩
          case measure => simp [intOf]; omega
        | false =>
          rw [if_neg (by simp)] at HN2
          go_wp2_with fail
          refine HD.out.mono ?_
          rintro e w2 ⟨A', c', rfl, ho, hb⟩
          have HB3 := Lib.hid (HBx.out.trans (hb.mono HBx.out.size))
          clear ho hb HP HPx HB HBx HD y1 y2 y3 y4 y5
          go_wp2
          refine bodyPost_ret (results_tmp2 rfl _ _ _) rfl ?_
          rw [HN2.out]
          exact ⟨none, 0, rfl, OwnP.zero, HB3.out⟩
      · have HE := Lib.hid (HN.out.trans (run_end (ps := ps) (by rw [HL.out]; omega)))
        clear HN
        go_wp2
        refine bodyPost_ret (results_tmp2 rfl _ _ _) rfl ?_
        rw [HE.out]
        exact ⟨A1, c1, by rw [hml]; rfl, by rw [hml]; exact HP.out, HB.out⟩
  · have HR : Hid (runV fs = ([], 0)) := (show _ = _ from by unfold runV; rw [if_neg (by rw [h.1]; exact hn)])
    clear h hff
    go_enter Try.func22, Try.ntmps22
    go_wp2
    refine bodyPost_ret (results_tmp2 rfl _ _ _) rfl ?_
    rw [HR.out]
    exact ⟨_, 0, rfl, O0.out, B0.out⟩

  end Go.Proofs.Ythcchnaoenjhlaa
