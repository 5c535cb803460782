/- The contract of the model's LiveSum: how many words the blocks have. -/
import Derived.Test.YtlaegdfaaoaiaaaSLiveOk
namespace Go.Proofs.Ytlaegdfaaoaiaaa
open Go.RowKit

set_option maxHeartbeats 1000000 in
theorem sLiveSum_any (A : Option Addr) (n c B : Nat) (ps : List (Int × Int)) (z : Int) (w : World) (h : RdP w B A n ps) (hB : B ≤ w.heap.size) (hm : n ≤ maxLen) (hW : WfP ps) :
    Calls Try.prog 20 #[.slice A n c, .int .i64 z] w fun e w' => e = .returned (.int .i64 (liveSumV ps z)) ∧ Below w.heap.size w w' := by
  have HC := Lib.hid (sLiveOk_any A n c B ps z w h hB hm hW)
  unfold maxLen at hm
  cases hv : liveOkV ps z with
  | false =>
    rw [hv] at HC
    have HR : Hid (liveSumV ps z = -1) := by
      have : liveSumV ps z = -1 := by unfold liveSumV; rw [hv]; rfl
      exact this
    clear h hW hv
    go_enter Try.func20, Try.ntmps20
    go_wp2_with fail
    refine HC.out.mono ?_
    rintro e w1 ⟨rfl, hb⟩
    have HB := Lib.hid hb
    clear hb HC
    go_wp2
    go_ret
    exact ⟨by rw [HR.out]; rfl, HB.out⟩
  | true =>
    rw [hv] at HC
    have HL := Lib.hid h.1
    have H2 := Lib.hid h.2
    have HV := Lib.hid hv
    clear h hW hv
    go_enter Try.func20, Try.ntmps20
    go_wp2_with fail
    refine HC.out.mono ?_
    rintro e w1 ⟨rfl, hb⟩
    have HB := Lib.hid hb
    clear hb HC
    go_wp2
    go_loopw [5, 6] (fun s i wr => ∃ k : Nat, k ≤ n ∧ i = .int .i64 k ∧ s = .int .i64 (sumTo ps k) ∧ Hid (Below w.heap.size w wr)) (fun _ i _ => n - (intOf i).toNat)
    case atStart => exact ⟨0, Nat.zero_le _, rfl, by rw [sumTo_zero], HB⟩
    case round =>
      obtain ⟨k, hk, rfl, rfl, HBr⟩ := hrel
      clear HB
      by_cases hlt : k < n
      · obtain ⟨g, o, rfl, hg, hc⟩ := H2.out (by omega)
        have c1 : wr.cell? ⟨g, o + k * 2, none⟩ = some (.int .i64 (pa ps k)) := (HBr.out.cell (p := ⟨g, o + k * 2, none⟩) (by show g < _; omega)).trans (hc k hlt).1
        have c2 : wr.cell? ⟨g, o + k * 2 + 1, none⟩ = some (.int .i64 (pb ps k)) := (HBr.out.cell (p := ⟨g, o + k * 2 + 1, none⟩) (by show g < _; omega)).trans (hc k hlt).2
        have hkl : k < ps.length := by rw [HL.out]; exact hlt
        have b1 := live_sum HV.out k
        have b2 := live_at HV.out hkl
        have HN := Lib.hid (sumTo_next hkl)
        generalize pa ps k = x at *
        generalize pb ps k = y at *
        generalize sumTo ps k = s at *
        clear hc
        go_wp2
        go_roundw
        case rel => exact ⟨k + 1, by omega, by go_num, by rw [HN.out], HBr⟩
        case measure => simp [intOf]; omega
      · have HR : Hid (liveSumV ps z = sumTo ps k) := by
          have : liveSumV ps z = sumTo ps k := by unfold liveSumV; rw [if_pos HV.out, HL.out, show n = k by omega]
          exact this
        go_wp2
        go_ret
        exact ⟨by rw [HR.out]; rfl, HBr.out⟩

end Go.Proofs.Ytlaegdfaaoaiaaa
