/- The contract of the model's l07Row and WarpNew. -/
import Derived.Test.YtooegpebimpjcaaNewB
import Derived.Test.YtooegpebimpjcaaWarpM
import Derived.LoopN
namespace Go.Proofs.Ytooegpebimpjcaa
open Go.RowKit
set_option linter.unusedVariables false

set_option maxRecDepth 100000 in
set_option maxHeartbeats 2000000 in
theorem sRow7_any (x : Int) (w : World) : Calls Try.prog 85 #[.int .i64 x] w fun e w' => ∃ A c, e = .returned (.slice A 8 c) ∧ OwnK 3 .i64 w' w.heap.size A 8 c (List.replicate 8 x) ∧ Below w.heap.size w w' := by
  go_enter Try.func85, Try.ntmps85
  go_wp2
  have HO : Hid (OwnK 3 .i64 (w.alloc (.cells #[] 3)) w.heap.size (some ⟨w.heap.size, 0, none⟩) 0 0 []) := World.ownsRow_made w #[] 0 (Nat.le_refl _) (Nat.zero_le _) (by simp)
  have HB := Lib.hid (bel1 w (.cells #[] 3))
  go_loopw [3, 4] (fun s i wr => ∃ (k : Nat) (A : Option Addr) (c : Nat), k ≤ 8 ∧ i = .int .i64 k ∧ s = .slice A k c ∧ Hid (OwnK 3 .i64 wr w.heap.size A k c (List.replicate k x)) ∧ Hid (Below w.heap.size w wr)) (fun _ i _ => 8 - (intOf i).toNat)
  case atStart => exact ⟨0, _, _, Nat.zero_le _, rfl, rfl, HO, HB⟩
  case round =>
    obtain ⟨k, A, c, hk, rfl, rfl, HOr, HBr⟩ := hrel
    clear HO HB
    by_cases hlt : k < 8
    · have hz := HBr.out.size
      go_wp2_with (at_builtin; refine wpList_push_int rfl _ _ rfl w.heap.size k c A (List.replicate k x) x rfl rfl HOr.out (by omega) hz ?_; intro A' c' w' HO' HB')
      have HN : Hid (OwnK 3 .i64 w' w.heap.size A' (k + 1) c' (List.replicate (k + 1) x)) := by
        have := HO'.out
        rwa [← List.replicate_succ'] at this
      have HM := Lib.hid (HBr.out.trans HB'.out)
      clear HO' HB' HOr HBr
      go_roundw
      case rel => exact ⟨k + 1, A', c', by omega, by go_num, rfl, HN, HM⟩
      case measure => simp [intOf]; omega
    · obtain rfl : k = 8 := by omega
      go_wp2
      go_ret
      exact ⟨A, c, rfl, HOr.out, HBr.out⟩

set_option maxRecDepth 100000 in
set_option maxHeartbeats 2000000 in
theorem sWarpNew_any (w : World) : Calls Try.prog 49 #[] w fun e w' => ∃ g c g2 d, e = .returned (.agg #[.int .i64 0, .slice (some ⟨g, 0, none⟩) 8 c, .slice (some ⟨g2, 0, none⟩) 8 d, .int .u32 0, .int .i64 0, .int .i64 0, .int .i64 0, .int .u32 0]) ∧ OwnK 3 .i64 w' w.heap.size (some ⟨g, 0, none⟩) 8 c (List.replicate 8 (-1)) ∧ OwnK 3 .i64 w' (g + 1) (some ⟨g2, 0, none⟩) 8 d (List.replicate 8 (-1)) ∧ Below w.heap.size w w' := by
  have HR := Lib.hid (fun W => sRow7_any (-1) W)
  go_enter Try.func49, Try.ntmps49
  go_wp2_with fail
  refine (HR.out _).mono ?_
  rintro e w2 ⟨A, c, rfl, ho, hb⟩
  obtain ⟨hr1, hB2, z2⟩ := nw1 hb
  obtain ⟨g, rfl, hg0, hg1⟩ := ho.form (by omega)
  rw [sz1] at hg0
  have O2 := Lib.hid (ho.from_ (b1 := w.heap.size + 1) (Nat.le_of_eq (sz1 _ _).symm))
  have B2 := Lib.hid hB2
  have R2 := Lib.hid hr1
  clear ho hb hr1 hB2
  go_wp2_with fail
  refine (HR.out _).mono ?_
  rintro e w4 ⟨A2, d, rfl, ho, hb⟩
  have O4 : Hid (OwnK 3 .i64 w4 (w.heap.size + 1) (some ⟨g, 0, none⟩) 8 c (List.replicate 8 (-1))) := O2.out.below hb
  obtain ⟨g2, rfl, hh0, hh1⟩ := ho.form (by omega)
  have hz := hb.size
  have hr := (hb.block w.heap.size (by omega)).trans R2.out
  have O4b : Hid (OwnK 3 .i64 w4 w2.heap.size (some ⟨g2, 0, none⟩) 8 d (List.replicate 8 (-1))) := ho
  have B4 : Hid (Below w.heap.size w w4) := B2.out.trans (hb.mono (by omega))
  have z5 : w.heap.size < w4.heap.size := by omega
  have n1 : ¬ w.heap.size = g := by omega
  have n2 : ¬ w.heap.size = g2 := by omega
  clear ho hb hz O2 B2 R2 HR
  have r0 := blkc hr 0 rfl
  have r1 := blkc hr 1 rfl
  have r2 := blkc hr 2 rfl
  have r3 := blkc hr 3 rfl
  have r4 := blkc hr 4 rfl
  have r5 := blkc hr 5 rfl
  have r6 := blkc hr 6 rfl
  have r7 := blkc hr 7 rfl
  have fr := blkf hr
  clear hr
  go_wp2
  refine bodyPost_ret (v := .agg #[.int .i64 0, .slice (some ⟨g, 0, none⟩) 8 c, .slice (some ⟨g2, 0, none⟩) 8 d, .int .u32 0, .int .i64 0, .int .i64 0, .int .i64 0, .int .u32 0]) (by simp [results, Try.results49, go_sem, r0, r1, r2, r3, r4, r5, r6, r7]) rfl ⟨g, c, g2, d, rfl, ?_, ?_, ?_⟩
  · exact OwnK.from_ (b0 := w.heap.size + 1) (by repeat' (first | (with_reducible exact O4.out) | (with_reducible refine OwnK.low ?_ ?_ _) | omega | (simp; done) | (simp; omega))) (by omega)
  · exact OwnK.from_ (b0 := w2.heap.size) (by repeat' (first | (with_reducible exact O4b.out) | (with_reducible refine OwnK.low ?_ ?_ _) | omega | (simp; done) | (simp; omega))) (by omega)
  · exact (by repeat' (first | (with_reducible exact B4.out) | (with_reducible refine Below.setCell ?_ ?_ _) | (with_reducible refine Below.alloc ?_ ?_ _) | omega | (simp; done) | (simp; omega)))

end Go.Proofs.Ytooegpebimpjcaa
