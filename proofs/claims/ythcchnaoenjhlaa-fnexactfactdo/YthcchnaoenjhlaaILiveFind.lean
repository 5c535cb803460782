/- The contract of the program's LiveFind: the block that has the word. -/
import Derived.Test.YthcchnaoenjhlaaILiveOk
import Derived.Test.YthcchnaoenjhlaaBlkP
namespace Go.Proofs.Ythcchnaoenjhlaa
open Go.RowKit

/-- What is answered for a block that was found or not. -/
def foundV (o : Option (Int × Int)) : Value := .tuple #[.agg #[.int .i64 (o.getD (0, 0)).1, .int .i64 (o.getD (0, 0)).2], .bool o.isSome]

set_option maxHeartbeats 1000000 in
theorem liveFind_any (A : Option Addr) (n c B : Nat) (ps : List (Int × Int)) (z a : Int) (w : World) (h : RdP w B A n ps) (hB : B ≤ w.heap.size) (hm : n ≤ maxLen) (hW : WfP ps) :
    Calls Try.prog 129 #[.slice A n c, .int .i64 z, .int .i64 a] w fun e w' => e = .returned (foundV (findV ps z a)) ∧ Below w.heap.size w w' := by
  have HC := Lib.hid (liveOk_any A n c B ps z (w.alloc (.cells #[.int .i64 0, .int .i64 0] 71)) (h.alloc hB _) (by simp; omega) hm hW)
  unfold maxLen at hm
  cases hv : liveOkV ps z with
  | false =>
    rw [hv] at HC
    have HR := Lib.hid (show findV ps z a = none by unfold findV; rw [hv]; rfl)
    clear h hW hv
    go_enter Try.func129, Try.ntmps129
    go_wp2_with fail
    refine HC.out.mono ?_
    rintro e w1 ⟨rfl, hb⟩
    obtain ⟨hn0, hb1, hz⟩ := one_new hb
    have HN0 : Hid (BlkAt w1 w.heap.size 0 0) := hn0
    have HB := Lib.hid hb1
    have c0 := HN0.out.cell0
    have c1 := HN0.out.cell1
    have f0 := HN0.out.free 0
    have f1 := HN0.out.free 1
    clear hb HC hn0 hb1
    go_wp2
    refine bodyPost_ret (v := foundV none) (by simp [results, Try.results129, go_sem, foundV, c0, c1]) rfl ?_
    exact ⟨by rw [HR.out], (HB.out.setCell (Nat.le_refl _) _).setCell (Nat.le_refl _) _⟩
  | true =>
    rw [hv] at HC
    have HL := Lib.hid h.1
    have H2 := Lib.hid h.2
    have HV := Lib.hid hv
    have HK0 := Lib.hid (show findV ps z a = (ps.drop 0).find? (hasW a) by unfold findV; rw [if_pos hv]; rfl)
    clear h hW hv
    go_enter Try.func129, Try.ntmps129
    go_wp2_with fail
    refine HC.out.mono ?_
    rintro e w1 ⟨rfl, hb⟩
    obtain ⟨hn0, hb1, hz⟩ := one_new hb
    have HN0 : Hid (BlkAt w1 w.heap.size 0 0) := hn0
    have HB := Lib.hid hb1
    clear hb HC hn0 hb1
    go_wp2
    go_loopw [17] (fun i wr => ∃ k : Nat, k ≤ n ∧ i = .int .i64 k ∧ Hid (findV ps z a = (ps.drop k).find? (hasW a)) ∧ Hid (BlkAt wr w.heap.size 0 0) ∧ Hid (Below w.heap.size w wr)) (fun i _ => n - (intOf i).toNat)
    case atStart => exact ⟨0, Nat.zero_le _, rfl, HK0, HN0, HB⟩
    case round =>
      obtain ⟨k, hk, rfl, HK, HNr, HBr⟩ := hrel
      clear HB HN0 HK0 hz
      have hz := HNr.out.lt
      have b0 := HNr.out.cell0
      have b1 := HNr.out.cell1
      have f0 := HNr.out.free 0
      have f1 := HNr.out.free 1
      by_cases hlt : k < n
      · obtain ⟨g, o, rfl, hg, hc⟩ := H2.out (by omega)
        have c1 : wr.cell? ⟨g, o + k * 2, none⟩ = some (.int .i64 (pa ps k)) := (HBr.out.cell (p := ⟨g, o + k * 2, none⟩) (by show g < _; omega)).trans (hc k hlt).1
        have c2 : wr.cell? ⟨g, o + k * 2 + 1, none⟩ = some (.int .i64 (pb ps k)) := (HBr.out.cell (p := ⟨g, o + k * 2 + 1, none⟩) (by show g < _; omega)).trans (hc k hlt).2
        have HB2 : ∀ x y, Hid (Below w.heap.size w (wr.alloc (.cells #[x, y] 71))) := fun x y => HBr.out.alloc HBr.out.size _
        have HN2 : ∀ x y, Hid (BlkAt (wr.alloc (.cells #[x, y] 71)) w.heap.size 0 0) := fun x y => HNr.out.alloc _
        have hkl : k < ps.length := by rw [HL.out]; exact hlt
        have b2 := live_at HV.out hkl
        have HHit := fun h1 h2 => HK.out.trans (find_hit (a := a) hkl h1 h2)
        have HMiss := fun h => HK.out.trans (find_miss (a := a) hkl h)
        generalize pa ps k = x at *
        generalize pb ps k = y at *
        clear hc
        by_cases d1 : x ≤ a
        · by_cases d2 : a < x + y
          · have HR := Lib.hid (HHit d1 d2)
            have HE := Lib.hid ((HNr.out.set x y).alloc (.cells #[.int .i64 x, .int .i64 y] 71))
            clear HHit HMiss
            go_wp2
            have e0 := HE.out.cell0
            have e1 := HE.out.cell1
            refine bodyPost_ret (v := foundV (some (x, y))) (by simp [results, Try.results129, go_sem, foundV, e0, e1]) rfl ?_
            have hz2 := HBr.out.size
            exact ⟨by rw [HR.out], Below.alloc ((HBr.out.setCell (Nat.le_refl _) _).setCell (Nat.le_refl _) _) (by simpa using hz2) _⟩
          · have HR := Lib.hid (HMiss (by omega))
            clear HHit HMiss
            go_wp2
            go_roundw
            case rel => exact ⟨k + 1, by omega, by go_num, HR, HN2 _ _, HB2 _ _⟩
            case measure => simp [intOf]; omega
        · have HR := Lib.hid (HMiss (by omega))
          clear HHit HMiss
          go_wp2
          go_roundw
          case rel => exact ⟨k + 1, by omega, by go_num, HR, HN2 _ _, HB2 _ _⟩
          case measure => simp [intOf]; omega
      · have HR := Lib.hid (HK.out.trans (find_end (by rw [HL.out]; omega)))
        go_wp2
        refine bodyPost_ret (v := foundV none) (by simp [results, Try.results129, go_sem, foundV, b0, b1]) rfl ?_
        exact ⟨by rw [HR.out], (HBr.out.setCell (Nat.le_refl _) _).setCell (Nat.le_refl _) _⟩

end Go.Proofs.Ythcchnaoenjhlaa
