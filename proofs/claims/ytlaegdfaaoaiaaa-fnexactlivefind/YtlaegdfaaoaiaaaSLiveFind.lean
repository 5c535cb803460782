/- The contract of the model's LiveFind: the block that has the word. -/
import Derived.Test.YtlaegdfaaoaiaaaSLiveOk
import Derived.Test.YtlaegdfaaoaiaaaILiveFind
namespace Go.Proofs.Ytlaegdfaaoaiaaa
open Go.RowKit

set_option maxHeartbeats 1000000 in
theorem sLiveFind_any (A : Option Addr) (n c B : Nat) (ps : List (Int × Int)) (z a : Int) (w : World) (h : RdP w B A n ps) (hB : B ≤ w.heap.size) (hm : n ≤ maxLen) (hW : WfP ps) :
    Calls Try.prog 30 #[.slice A n c, .int .i64 z, .int .i64 a] w fun e w' => e = .returned (foundV (findV ps z a)) ∧ Below w.heap.size w w' := by
  have HC := Lib.hid (fun W (hb : Below w.heap.size w W) => sLiveOk_any A n c B ps z W (h.below (hb.mono hB)) (Nat.le_trans hB hb.size) hm hW)
  unfold maxLen at hm
  cases hv : liveOkV ps z with
  | false =>
    rw [hv] at HC
    have HR := Lib.hid (show findV ps z a = none by unfold findV; rw [hv]; rfl)
    clear h hW hv
    go_enter Try.func30, Try.ntmps30
    go_wp2
    refine wp_loop_rounds 1 ?_
    rw [rounds_succ]
    go_wp2_with fail
    refine (HC.out _ ((Below.refl _ _).alloc (Nat.le_refl _) _)).mono ?_
    rintro e w1 ⟨rfl, hb⟩
    obtain ⟨hn0, hb1, hz⟩ := one_new hb
    have HN0 : Hid (BlkAt w1 w.heap.size 0 0) := hn0
    have HB := Lib.hid hb1
    have c0 := HN0.out.cell0
    have c1 := HN0.out.cell1
    have f0 := HN0.out.free 0
    have f1 := HN0.out.free 1
    clear hb HC hn0 hb1
    go_wp2
    refine bodyPost_ret (v := foundV none) (by simp [results, Try.results30, go_sem, foundV, c0, c1]) rfl ?_
    exact ⟨by rw [HR.out], (HB.out.setCell (Nat.le_refl _) _).setCell (Nat.le_refl _) _⟩
  | true =>
    rw [hv] at HC
    have HL := Lib.hid h.1
    have H2 := Lib.hid h.2
    have HV := Lib.hid hv
    have HK0 := Lib.hid (show findV ps z a = (ps.drop 0).find? (hasW a) by unfold findV; rw [if_pos hv]; rfl)
    have HN0 := Lib.hid (BlkAt.new w 0 0)
    have HB := Lib.hid ((Below.refl _ w).alloc (Nat.le_refl _) (.cells #[.int .i64 0, .int .i64 0] 26))
    clear h hW hv
    go_enter Try.func30, Try.ntmps30
    go_wp2
    go_loopw [8] (fun i wr => ∃ k : Nat, k ≤ n ∧ i = .int .i64 k ∧ Hid (findV ps z a = (ps.drop k).find? (hasW a)) ∧ Hid (BlkAt wr w.heap.size 0 0) ∧ Hid (Below w.heap.size w wr)) (fun i _ => n - (intOf i).toNat)
    case atStart => exact ⟨0, Nat.zero_le _, rfl, HK0, HN0, HB⟩
    case round =>
      obtain ⟨k, hk, rfl, HK, HNr, HBr⟩ := hrel
      clear HB HN0 HK0
      have HCr := Lib.hid (HC.out wr HBr.out)
      clear HC
      by_cases hlt : k < n
      · have hkn : decide ((k : Int) < (n : Int)) = true := by simp; omega
        go_wp2_with fail
        refine HCr.out.mono ?_
        rintro e w1 ⟨rfl, hb⟩
        have HN1 := Lib.hid (HNr.out.below hb)
        have HB1 := Lib.hid (HBr.out.trans (hb.mono HBr.out.size))
        clear hb HCr HNr HBr
        have hz := HN1.out.lt
        have b0 := HN1.out.cell0
        have b1 := HN1.out.cell1
        have f0 := HN1.out.free 0
        have f1 := HN1.out.free 1
        obtain ⟨g, o, rfl, hg, hc⟩ := H2.out (by omega)
        have c1 : w1.cell? ⟨g, o + k * 2, none⟩ = some (.int .i64 (pa ps k)) := (HB1.out.cell (p := ⟨g, o + k * 2, none⟩) (by show g < _; omega)).trans (hc k hlt).1
        have c2 : w1.cell? ⟨g, o + k * 2 + 1, none⟩ = some (.int .i64 (pb ps k)) := (HB1.out.cell (p := ⟨g, o + k * 2 + 1, none⟩) (by show g < _; omega)).trans (hc k hlt).2
        have hkl : k < ps.length := by rw [HL.out]; exact hlt
        have b2 := live_at HV.out hkl
        have HHit := fun h1 h2 => HK.out.trans (find_hit (a := a) hkl h1 h2)
        have HMiss := fun h => HK.out.trans (find_miss (a := a) hkl h)
        generalize pa ps k = x at *
        generalize pb ps k = y at *
        clear hc
        by_cases d1 : x ≤ a
        · have e1 : decide (x ≤ a) = true := by simp [d1]
          by_cases d2 : a < x + y
          · have e2 : decide (a < x + y) = true := by simp [d2]
            have HR := Lib.hid (HHit d1 d2)
            clear HHit HMiss
            go_wp2
            go_quiet (fail)
            have HN2 : Hid (BlkAt (w1.drewN nq) w.heap.size 0 0) := HN1.out
            go_wp2
            have e0 := (HN2.out.set0 x).cell0
            have e1 := (HN2.out.set x y).cell1
            refine bodyPost_ret (v := foundV (some (x, y))) (by simp [results, Try.results30, go_sem, foundV, e0, e1]) rfl ?_
            exact ⟨by rw [HR.out], ((⟨HB1.out.os, HB1.out.tape, HB1.out.output, HB1.out.size, HB1.out.block⟩ : Below w.heap.size w (w1.drewN nq)).setCell (Nat.le_refl _) _).setCell (Nat.le_refl _) _⟩
          · have e2 : decide (a < x + y) = false := by simp [d2]
            have HR := Lib.hid (HMiss (by omega))
            clear HHit HMiss
            go_wp2
            go_quiet (fail)
            go_wp2
            go_roundw
            case rel => exact ⟨k + 1, by omega, by go_num, HR, HN1.out, ⟨HB1.out.os, HB1.out.tape, HB1.out.output, HB1.out.size, HB1.out.block⟩⟩
            case measure => simp [intOf]; omega
        · have e1 : decide (x ≤ a) = false := by simp [d1]
          have HR := Lib.hid (HMiss (by omega))
          clear HHit HMiss
          go_wp2
          go_quiet (fail)
          go_wp2
          go_roundw
          case rel => exact ⟨k + 1, by omega, by go_num, HR, HN1.out, ⟨HB1.out.os, HB1.out.tape, HB1.out.output, HB1.out.size, HB1.out.block⟩⟩
          case measure => simp [intOf]; omega
      · have HR := Lib.hid (HK.out.trans (find_end (by rw [HL.out]; omega)))
        have hkn : decide ((k : Int) < (n : Int)) = false := by simp; omega
        go_wp2_with fail
        refine HCr.out.mono ?_
        rintro e w1 ⟨rfl, hb⟩
        have HN1 := Lib.hid (HNr.out.below hb)
        have HB1 := Lib.hid (HBr.out.trans (hb.mono HBr.out.size))
        clear hb HCr HNr HBr
        have hz := HN1.out.lt
        have b0 := HN1.out.cell0
        have b1 := HN1.out.cell1
        have f0 := HN1.out.free 0
        have f1 := HN1.out.free 1
        go_wp2
        refine bodyPost_ret (v := foundV none) (by simp [results, Try.results30, go_sem, foundV, b0, b1]) rfl ?_
        exact ⟨by rw [HR.out], (HB1.out.setCell (Nat.le_refl _) _).setCell (Nat.le_refl _) _⟩

end Go.Proofs.Ytlaegdfaaoaiaaa
