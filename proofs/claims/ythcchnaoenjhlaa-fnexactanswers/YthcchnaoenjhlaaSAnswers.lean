/- Answers of the model. -/
import Derived.Test.YthcchnaoenjhlaaAnsM
namespace Go.Proofs.Ythcchnaoenjhlaa
open Go.RowKit
set_option linter.unusedVariables false

set_option maxRecDepth 100000 in
set_option maxHeartbeats 4000000 in
theorem sAnswers_any (A : Option Addr) (n c B : Nat) (fs : List Fc) (i l : Int) (w : World) (h : RdF w B A n fs) (hB : B ≤ w.heap.size) (hm : n ≤ maxLen) :
    Calls Try.prog 33 #[.slice A n c, .int .i64 i, .int .i64 l] w fun e w' => ∃ A' c', e = .returned (.slice A' (answersV fs i l).length c') ∧ OwnK 3 .i64 w' w.heap.size A' (answersV fs i l).length c' (answersV fs i l) ∧ Below w.heap.size w w' := by
  unfold maxLen at hm
  have O0 : Hid (OwnK 3 .i64 (w.alloc (.cells #[] 3)) w.heap.size (some ⟨w.heap.size, 0, none⟩) 0 0 (ansL (fs.take 0) i l)) := World.ownsRow_made w #[] 0 (Nat.le_refl _) (Nat.zero_le _) (by simp)
  have B0 := Lib.hid (bel1 w (.cells #[] 3))
  by_cases hn : n ≤ 2000
  · have hn2 : decide ((n : Int) ≤ 2000) = true := by simp; omega
    have hn3 : (n : Int) ≤ 2000 := by omega
    have HR : Hid (answersV fs i l = ansL (fs.take n) i l) := (show _ = _ from by unfold answersV; rw [if_pos (by rw [h.1]; exact hn), ← h.1, List.take_length])
    have HL := Lib.hid h.1
    have H2 := Lib.hid h.2
    clear h
    go_enter Try.func33, Try.ntmps33
    go_wp2
    go_loopw [7, 8] (fun v j wr => ∃ (k m : Nat) (A1 : Option Addr) (c1 : Nat), k ≤ n ∧ j = .int .i64 k ∧ v = .slice A1 m c1 ∧ m ≤ k ∧ Hid (OwnK 3 .i64 wr w.heap.size A1 m c1 (ansL (fs.take k) i l)) ∧ Hid (Below w.heap.size w wr)) (fun _ j _ => n - (intOf j).toNat)
    case atStart => exact ⟨0, 0, _, 0, Nat.zero_le _, rfl, rfl, Nat.le_refl _, O0, B0⟩
    case round =>
      obtain ⟨k, m, A1, c1, hk, rfl, rfl, hmk, HO, HB⟩ := hrel
      clear O0 B0
      have hsz := HB.out.size
      by_cases hlt : k < n
      · have hkn : decide ((k : Int) < (n : Int)) = true := by simp; omega
        obtain ⟨g, o, rfl, hg, hc⟩ := H2.out (by omega)
        have HN := Lib.hid (ansL_next (fs := fs) (k := k) i l (by rw [HL.out]; exact hlt))
        have h5 := (hc k hlt).below HB.out (by omega)
        clear hc
        generalize fat fs k = x at *
        obtain ⟨y1, y2, y3, y4, y5⟩ := h5
        by_cases e1 : x.i = i
        · have f1 : (x.i != i) = false := by simp [e1]
          by_cases e2 : x.l = l
          · have f2 : (x.l != l) = false := by simp [e2]
            rw [if_pos ⟨e1, e2⟩] at HN
            clear e1 e2
            by_cases k1 : x.k = 1
            · have q1 : (x.k == 1) = true := by simp [k1]
              have HV : Hid (ansV x = x.a) := (show _ = _ from by simp [ansV, k1])
              rw [HV.out] at HN
              clear k1 HV
              go_wp2_with (at_builtin; refine wpList_push_int rfl (.tmp 47) (.tmp 53) rfl w.heap.size m c1 A1 _ _ rfl rfl HO.out (by omega) hsz ?_)
              intro A' c' w' HO' HB'
              have HB3 := Lib.hid (HB.out.trans HB'.out)
              have HO3 : Hid (OwnK 3 .i64 w' w.heap.size A' (m + 1) c' (ansL (fs.take (k + 1)) i l)) := (show OwnK _ _ _ _ _ _ _ _ from by rw [HN.out]; exact HO'.out)
              clear HO' HB' HO HB
              go_wp2
              go_roundw
              case rel => exact ⟨k + 1, m + 1, A', c', by omega, by go_num, rfl, by omega, HO3, HB3⟩
              case measure => simp [intOf]; omega
            · have q1 : (x.k == 1) = false := by simp [k1]
              by_cases k2 : x.k = 2
              · have q2 : (x.k == 2) = true := by simp [k2]
                have HV : Hid (ansV x = 1) := (show _ = _ from by simp [ansV, k2])
                rw [HV.out] at HN
                clear k1 k2 HV
                go_wp2_with (at_builtin; refine wpList_push_int rfl (.tmp 57) (.tmp 58) rfl w.heap.size m c1 A1 _ _ rfl rfl HO.out (by omega) hsz ?_)
                intro A' c' w' HO' HB'
                have HB3 := Lib.hid (HB.out.trans HB'.out)
                have HO3 : Hid (OwnK 3 .i64 w' w.heap.size A' (m + 1) c' (ansL (fs.take (k + 1)) i l)) := (show OwnK _ _ _ _ _ _ _ _ from by rw [HN.out]; exact HO'.out)
                clear HO' HB' HO HB
                go_wp2
                go_roundw
                case rel => exact ⟨k + 1, m + 1, A', c', by omega, by go_num, rfl, by omega, HO3, HB3⟩
                case measure => simp [intOf]; omega
              · have q2 : (x.k == 2) = false := by simp [k2]
                have HV : Hid (ansV x = -2) := (show _ = _ from by simp [ansV, k1, k2])
                rw [HV.out] at HN
                clear k1 k2 HV
                go_wp2_with (at_builtin; refine wpList_push_int rfl (.tmp 42) (.tmp 43) rfl w.heap.size m c1 A1 _ _ rfl rfl HO.out (by omega) hsz ?_)
                intro A' c' w' HO' HB'
                have HB3 := Lib.hid (HB.out.trans HB'.out)
                have HO3 : Hid (OwnK 3 .i64 w' w.heap.size A' (m + 1) c' (ansL (fs.take (k + 1)) i l)) := (show OwnK _ _ _ _ _ _ _ _ from by rw [HN.out]; exact HO'.out)
                clear HO' HB' HO HB
                go_wp2
                go_roundw
                case rel => exact ⟨k + 1, m + 1, A', c', by omega, by go_num, rfl, by omega, HO3, HB3⟩
                case measure => simp [intOf]; omega
          · have f2 : (x.l != l) = true := by simp [e2]
            rw [if_neg (fun hh => e2 hh.2), List.append_nil] at HN
            have HO3 : Hid (OwnK 3 .i64 wr w.heap.size A1 m c1 (ansL (fs.take (k + 1)) i l)) := (show OwnK _ _ _ _ _ _ _ _ from by rw [HN.out]; exact HO.out)
            clear e1 e2 HO
            go_wp2
            go_roundw
            case rel => exact ⟨k + 1, m, A1, c1, by omega, by go_num, rfl, by omega, HO3, HB⟩
            case measure => simp [intOf]; omega
        · have f1 : (x.i != i) = true := by simp [e1]
          rw [if_neg (fun hh => e1 hh.1), List.append_nil] at HN
          have HO3 : Hid (OwnK 3 .i64 wr w.heap.size A1 m c1 (ansL (fs.take (k + 1)) i l)) := (show OwnK _ _ _ _ _ _ _ _ from by rw [HN.out]; exact HO.out)
          clear e1 HO
          go_wp2
          go_roundw
          case rel => exact ⟨k + 1, m, A1, c1, by omega, by go_num, rfl, by omega, HO3, HB⟩
          case measure => simp [intOf]; omega
      · have hkf : decide ((k : Int) < (n : Int)) = false := by simp; omega
        have hkn : k = n := by omega
        subst hkn
        have hlen := HO.out.len
        go_wp2
        go_ret
        rw [HR.out]
        exact ⟨A1, c1, by rw [hlen]; rfl, by rw [hlen]; exact HO.out, HB.out⟩
  · have hn2 : decide ((n : Int) ≤ 2000) = false := by simp; omega
    have hn3 : ¬ (n : Int) ≤ 2000 := by omega
    have hn4 : decide ((0 : Int) < (n : Int)) = true := by simp; omega
    have HR : Hid (answersV fs i l = []) := (show _ = _ from by unfold answersV; rw [if_neg (by rw [h.1]; exact hn)])
    clear h
    go_enter Try.func33, Try.ntmps33
    go_wp2
    refine wp_loop_rounds 1 ?_
    rw [rounds_succ]
    go_wp2
    go_ret
    rw [HR.out]
    exact ⟨_, 0, rfl, by simpa [ansL] using O0.out, B0.out⟩

end Go.Proofs.Ythcchnaoenjhlaa
