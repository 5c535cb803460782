/- The contract of the model's l07Row and WarpNew. -/
/- The model's GiveAll. -/
import Derived.Test.YtefcaeldkdbjdaaGreatCopyI
import Derived.Test.YtefcaeldkdbjdaaGreatWarpM
import Derived.LoopN
import Derived.Test.YtefcaeldkdbjdaaGreatIGive
import Derived.RegionTactic
namespace Go.Proofs.YtefcaeldkdbjdaaGreat
open Go.RowKit
set_option linter.unusedVariables false

set_option maxRecDepth 100000 in
set_option maxHeartbeats 2000000 in
theorem sRow7_any (x : Int) (w : World) : Calls Tryz.prog 17 #[.int .i64 x] w fun e w' => ∃ A c, e = .returned (.slice A 8 c) ∧ OwnK 3 .i64 w' w.heap.size A 8 c (List.replicate 8 x) ∧ Below w.heap.size w w' := by
  go_enter Tryz.func17, Tryz.ntmps17
  go_wp2
  have HO : Hid (OwnK 3 .i64 (w.alloc (.cells #[] 3)) w.heap.size (some ⟨w.heap.size, 0, none⟩) 0 0 []) := World.ownsRow_made w #[] 0 (Nat.le_refl _) (Nat.zero_le _) (by simp)
  have HB := Lib.hid (bel1 w (.cells #[] 3))
  go_loopw [3, 4] (fun s i wr => ∃ (k : Nat) (A : Option Addr) (c : Nat), k ≤ 8 ∧ i = .int .i64 k ∧ s = .slice A k c ∧ Hid (OwnK 3 .i64 wr w.heap.size A k c (List.replicate k x)) ∧ Hid (Below w.heap.size w wr)) (fun _ i _ => 8 - (intOf i).toNat)
  case atStart => exact ⟨0, _, _, Nat.zero_le _, rfl, rfl, HO, HB⟩
  case round =>
    obtain ⟨k, A, c, hk, rfl, rfl, HOr, HBr⟩ := hrel
    clear HO HB
    by_cases hlt : k < 8
    · have hz := HBr.out.size
      go_wp2_with (at_builtin; refine wpList_push_int rfl _ _ rfl w.heap.size k c A (List.replicate k x) x rfl rfl HOr.out (by omega) hz ?_; intro A' c' w' HO' HB')
      have HN : Hid (OwnK 3 .i64 w' w.heap.size A' (k + 1) c' (List.replicate (k + 1) x)) := by
        have := HO'.out
        rwa [← List.replicate_succ'] at this
      have HM := Lib.hid (HBr.out.trans HB'.out)
      clear HO' HB' HOr HBr
      go_roundw
      case rel => exact ⟨k + 1, A', c', by omega, by go_num, rfl, HN, HM⟩
      case measure => simp [intOf]; omega
    · obtain rfl : k = 8 := by omega
      go_wp2
      go_ret
      exact ⟨A, c, rfl, HOr.out, HBr.out⟩

end Go.Proofs.YtefcaeldkdbjdaaGreat

namespace Go.Proofs.YtefcaeldkdbjdaaGreat
open Go.RowKit
set_option linter.unusedVariables false

set_option maxRecDepth 100000 in
set_option maxHeartbeats 1000000 in
theorem sGiveAll_no0 (A : Option Addr) (n c : Nat) (B : Option Addr) (m d : Nat) (i : Int) (w : World)
    (hM : ∀ W, Below w.heap.size w W → Calls Tryz.prog 15 #[.agg #[.slice A n c, .slice B m d]] W fun e w' => e = .returned (.bool false) ∧ Below W.heap.size W w') :
    Calls Tryz.prog 5 #[.agg #[.slice A n c, .slice B m d], .int .i64 i] w fun e w' => e = .returned (.tuple #[.agg #[.int .i64 0, .slice none 0 0], .bool false]) ∧ Below w.heap.size w w' := by
  have HM := Lib.hid hM
  have HB0 := Lib.hid (bel2 w (.cells #[.slice A n c, .slice B m d] 37) (.cells #[.int .i64 0, .slice none 0 0] 31))
  clear hM
  go_enter Tryz.func5, Tryz.ntmps5
  go_wp2_with fail
  refine (HM.out _ HB0.out).mono ?_
  rintro e w1 ⟨rfl, hb⟩
  obtain ⟨hA, hR, hB1, z1⟩ := nw2 hb
  have B1 := Lib.hid hB1
  have r0 := blkc hR 0 rfl
  have r1 := blkc hR 1 rfl
  have fr := blkf hR
  clear hb hA hR hB1 HM HB0
  go_wp2
  refine bodyPost_ret (v := .tuple #[.agg #[.int .i64 0, .slice none 0 0], .bool false]) (by simp [results, Tryz.results5, go_sem, r0, r1]) rfl ⟨rfl, ?_⟩
  exact (by repeat' (first | (with_reducible exact B1.out) | (with_reducible refine Below.setCell ?_ ?_ _) | (with_reducible refine Below.alloc ?_ ?_ _) | omega | (simp; done) | (simp; omega)))

set_option maxRecDepth 100000 in
set_option maxHeartbeats 1000000 in
theorem sGiveAll_no1 (A : Option Addr) (n c : Nat) (B : Option Addr) (m d : Nat) (i : Int) (w : World) (hi : i < 0)
    (hM : ∀ W, Below w.heap.size w W → Calls Tryz.prog 15 #[.agg #[.slice A n c, .slice B m d]] W fun e w' => e = .returned (.bool true) ∧ Below W.heap.size W w') :
    Calls Tryz.prog 5 #[.agg #[.slice A n c, .slice B m d], .int .i64 i] w fun e w' => e = .returned (.tuple #[.agg #[.int .i64 0, .slice none 0 0], .bool false]) ∧ Below w.heap.size w w' := by
  have HM := Lib.hid hM
  have HB0 := Lib.hid (bel2 w (.cells #[.slice A n c, .slice B m d] 37) (.cells #[.int .i64 0, .slice none 0 0] 31))
  clear hM
  have d0 : decide (i < 0) = true := decide_eq_true hi
  go_enter Tryz.func5, Tryz.ntmps5
  go_wp2_with fail
  refine (HM.out _ HB0.out).mono ?_
  rintro e w1 ⟨rfl, hb⟩
  obtain ⟨hA, hR, hB1, z1⟩ := nw2 hb
  have B1 := Lib.hid hB1
  have r0 := blkc hR 0 rfl
  have r1 := blkc hR 1 rfl
  have fr := blkf hR
  clear hb hA hR hB1 HM HB0
  go_wp2
  refine bodyPost_ret (v := .tuple #[.agg #[.int .i64 0, .slice none 0 0], .bool false]) (by simp [results, Tryz.results5, go_sem, r0, r1]) rfl ⟨rfl, ?_⟩
  exact (by repeat' (first | (with_reducible exact B1.out) | (with_reducible refine Below.setCell ?_ ?_ _) | (with_reducible refine Below.alloc ?_ ?_ _) | omega | (simp; done) | (simp; omega)))

set_option maxRecDepth 100000 in
set_option maxHeartbeats 1000000 in
theorem sGiveAll_no2 (A : Option Addr) (n c : Nat) (B : Option Addr) (m d : Nat) (i : Int) (w : World) (hi : (m : Int) ≤ i)
    (hM : ∀ W, Below w.heap.size w W → Calls Tryz.prog 15 #[.agg #[.slice A n c, .slice B m d]] W fun e w' => e = .returned (.bool true) ∧ Below W.heap.size W w') :
    Calls Tryz.prog 5 #[.agg #[.slice A n c, .slice B m d], .int .i64 i] w fun e w' => e = .returned (.tuple #[.agg #[.int .i64 0, .slice none 0 0], .bool false]) ∧ Below w.heap.size w w' := by
  have HM := Lib.hid hM
  have HB0 := Lib.hid (bel2 w (.cells #[.slice A n c, .slice B m d] 37) (.cells #[.int .i64 0, .slice none 0 0] 31))
  clear hM
  have d0 : decide (i < 0) = false := decide_eq_false (by omega)
  have d1 : decide ((m : Int) ≤ i) = true := decide_eq_true hi
  go_enter Tryz.func5, Tryz.ntmps5
  go_wp2_with fail
  refine (HM.out _ HB0.out).mono ?_
  rintro e w1 ⟨rfl, hb⟩
  obtain ⟨hA, hR, hB1, z1⟩ := nw2 hb
  have B1 := Lib.hid hB1
  have r0 := blkc hR 0 rfl
  have r1 := blkc hR 1 rfl
  have fr := blkf hR
  have a1 := blkc hA 1 rfl
  clear hb hA hR hB1 HM HB0
  go_wp2
  refine bodyPost_ret (v := .tuple #[.agg #[.int .i64 0, .slice none 0 0], .bool false]) (by simp [results, Tryz.results5, go_sem, r0, r1]) rfl ⟨rfl, ?_⟩
  exact (by repeat' (first | (with_reducible exact B1.out) | (with_reducible refine Below.setCell ?_ ?_ _) | (with_reducible refine Below.alloc ?_ ?_ _) | omega | (simp; done) | (simp; omega)))

set_option maxRecDepth 100000 in
set_option maxHeartbeats 1000000 in
theorem sGiveAll_no3 (A : Option Addr) (n c : Nat) (B : Option Addr) (m d : Nat) (Q2 : Nat) (xs : List Wc) (V : Nat → WV) (i : Nat) (w : World) (h2 : RdW w Q2 B m xs) (hQ2 : Q2 ≤ w.heap.size) (hm : m ≤ maxLen) (hV : ∀ i, i < m → (wat xs i).v = V i) (hi : i < m) (hk : (V i).kd ≠ 0)
    (hM : ∀ W, Below w.heap.size w W → Calls Tryz.prog 15 #[.agg #[.slice A n c, .slice B m d]] W fun e w' => e = .returned (.bool true) ∧ Below W.heap.size W w') :
    Calls Tryz.prog 5 #[.agg #[.slice A n c, .slice B m d], .int .i64 (i : Int)] w fun e w' => e = .returned (.tuple #[.agg #[.int .i64 0, .slice none 0 0], .bool false]) ∧ Below w.heap.size w w' := by
  have HM := Lib.hid hM
  have HB0 := Lib.hid (bel2 w (.cells #[.slice A n c, .slice B m d] 37) (.cells #[.int .i64 0, .slice none 0 0] 31))
  clear hM
  have d0 : decide ((i : Int) < 0) = false := decide_eq_false (by omega)
  have d1 : decide ((m : Int) ≤ (i : Int)) = false := decide_eq_false (by omega)
  have H2 := Lib.hid h2
  have HV := Lib.hid hV
  unfold maxLen at hm
  have hz1 : ((V i).kd != 0) = true := by simpa using hk
  clear h2 hV hk
  go_enter Tryz.func5, Tryz.ntmps5
  go_wp2_with fail
  refine (HM.out _ HB0.out).mono ?_
  rintro e w1 ⟨rfl, hb⟩
  obtain ⟨hA, hR, hB1, z1⟩ := nw2 hb
  have B1 := Lib.hid hB1
  have r0 := blkc hR 0 rfl
  have r1 := blkc hR 1 rfl
  have fr := blkf hR
  have a1 := blkc hA 1 rfl
  obtain ⟨g, o, rfl, hg, e8⟩ := H2.out.at8 hi
  have hv := HV.out i hi
  have e9 := e8.below (hB1.mono hQ2) hg
  unfold At8 at e9
  rw [hv] at e9
  have c0 := e9.1
  clear e8 e9 hv
  generalize (V i).kd = v0 at *
  clear hb hA hR hB1 HM HB0
  go_wp2
  refine bodyPost_ret (v := .tuple #[.agg #[.int .i64 0, .slice none 0 0], .bool false]) (by simp [results, Tryz.results5, go_sem, r0, r1]) rfl ⟨rfl, ?_⟩
  exact (by repeat' (first | (with_reducible exact B1.out) | (with_reducible refine Below.setCell ?_ ?_ _) | (with_reducible refine Below.alloc ?_ ?_ _) | omega | (simp; done) | (simp; omega)))

set_option maxRecDepth 100000 in
set_option maxHeartbeats 2000000 in
theorem sGiveAll_yes (A : Option Addr) (n c : Nat) (B : Option Addr) (m d Q2 : Nat) (xs : List Wc) (V : Nat → WV) (i : Nat) (ps : List (Int × Int)) (w : World) (h2 : RdW w Q2 B m xs) (hQ2 : Q2 ≤ w.heap.size) (hm : m ≤ maxLen) (hV : ∀ i, i < m → (wat xs i).v = V i) (hi : i < m) (hk : (V i).kd = 0) (N : Nat) (hN : N = min 8 ps.length)
    (hM : ∀ W, Below w.heap.size w W → Calls Tryz.prog 15 #[.agg #[.slice A n c, .slice B m d]] W fun e w' => e = .returned (.bool true) ∧ Below W.heap.size W w')
    (hA : ∀ W, Below w.heap.size w W → Calls Tryz.prog 16 #[.agg #[.slice A n c]] W fun e w' => ∃ A' c', e = .returned (.tuple #[.slice A' ps.length c', .bool true]) ∧ OwnP w' W.heap.size A' ps.length c' ps ∧ Below W.heap.size W w') :
    Calls Tryz.prog 5 #[.agg #[.slice A n c, .slice B m d], .int .i64 (i : Int)] w fun e w' => ∃ A' c', e = .returned (.tuple #[.agg #[.int .i64 2, .slice A' 8 c'], .bool true]) ∧ OwnK 3 .i64 w' w.heap.size A' 8 c' (giveK ps N) ∧ Below w.heap.size w w' := by
  have HR := Lib.hid (fun W => sRow7_any (-1) W)
  have HM := Lib.hid hM
  have HA := Lib.hid hA
  have H2 := Lib.hid h2
  have HV := Lib.hid hV
  have HK := Lib.hid hk
  have hN8 : (N : Int) ≤ 8 := by omega
  have hNl : (N : Int) ≤ (ps.length : Int) := by omega
  have HN := Lib.hid hN
  have HB0 := Lib.hid (bel2 w (.cells #[.slice A n c, .slice B m d] 37) (.cells #[.int .i64 0, .slice none 0 0] 31))
  have d0 : decide ((i : Int) < 0) = false := decide_eq_false (by omega)
  have d1 : decide ((m : Int) ≤ (i : Int)) = false := decide_eq_false (by omega)
  unfold maxLen at hm
  clear h2 hV hM hA hk hN
  go_enter Tryz.func5, Tryz.ntmps5
  go_wp2_with fail
  refine (HM.out _ HB0.out).mono ?_
  rintro e w1 ⟨rfl, hb⟩
  obtain ⟨hA, hR, hB1, z1⟩ := nw2 hb
  have B1 := Lib.hid hB1
  have M1 := Lib.hid hA
  have R1 := Lib.hid hR
  have a0 := blkc hA 0 rfl
  have a1 := blkc hA 1 rfl
  obtain ⟨g, o, rfl, hg, e8⟩ := H2.out.at8 hi
  have hv := HV.out i hi
  have e9 := e8.below (hB1.mono hQ2) hg
  unfold At8 at e9
  rw [hv] at e9
  have c0 := e9.1
  rw [HK.out] at c0
  clear hb hA hR hB1 HM HB0 e8 e9 hv
  go_wp2_with fail
  refine (HA.out _ B1.out).mono ?_
  rintro e w2 ⟨A4, c4, rfl, hp, hb⟩
  have z2 := hb.size
  have R2 := Lib.hid ((hb.block _ (by omega)).trans R1.out)
  have B2 := Lib.hid (B1.out.trans (hb.mono B1.out.size))
  have P2 := Lib.hid hp
  clear hp hb HA M1 R1 B1 a0 a1 c0
  go_wp2_with fail
  refine (HR.out _).mono ?_
  rintro e w3 ⟨A2, c2, rfl, ho, hb⟩
  have z3 := hb.size
  obtain ⟨g2, rfl, hg2, hg2'⟩ := ho.form (by omega)
  have hk := bel1 w3 (.cells #[.int .i64 2, .slice (some ⟨g2, 0, none⟩) 8 c2] 31)
  have R3 : Hid ((w3.alloc (.cells #[.int .i64 2, .slice (some ⟨g2, 0, none⟩) 8 c2] 31)).heap[w.heap.size + 1]? = some (.cells #[.int .i64 0, .slice none 0 0] 31 (0, 0))) := (hk.block _ (by omega)).trans ((hb.block _ (by omega)).trans R2.out)
  have L3 : Hid ((w3.alloc (.cells #[.int .i64 2, .slice (some ⟨g2, 0, none⟩) 8 c2] 31)).heap[w3.heap.size]? = some (.cells #[.int .i64 2, .slice (some ⟨g2, 0, none⟩) 8 c2] 31 (0, 0))) := heap_alloc_new _ _
  have D3 : Hid (Below w2.heap.size w2 (w3.alloc (.cells #[.int .i64 2, .slice (some ⟨g2, 0, none⟩) 8 c2] 31))) := hb.trans (hk.mono z3)
  have O3 : Hid (OwnK 3 .i64 (w3.alloc (.cells #[.int .i64 2, .slice (some ⟨g2, 0, none⟩) 8 c2] 31)) w2.heap.size (some ⟨g2, 0, none⟩) 8 c2 (List.replicate 8 (-1))) := ho.alloc _
  have y3 : w3.heap.size + 1 ≤ (w3.alloc (.cells #[.int .i64 2, .slice (some ⟨g2, 0, none⟩) 8 c2] 31)).heap.size := Nat.le_of_eq (sz1 _ _).symm
  have RP := Lib.hid P2.out.rd
  clear ho hb HR R2 P2 hk
  go_wp2
  go_loopw [9] (fun i wr => ∃ k : Nat, k ≤ N ∧ i = .int .i64 (k : Int) ∧ Hid (OwnK 3 .i64 wr w2.heap.size (some ⟨g2, 0, none⟩) 8 c2 (giveK ps k)) ∧ Hid (wr.heap[w3.heap.size]? = some (.cells #[.int .i64 2, .slice (some ⟨g2, 0, none⟩) 8 c2] 31 (0, 0))) ∧ Hid (wr.heap[w.heap.size + 1]? = some (.cells #[.int .i64 0, .slice none 0 0] 31 (0, 0))) ∧ Hid (Below w2.heap.size w2 wr)) (fun i _ => N - (intOf i).toNat)
  case atStart => exact ⟨0, Nat.zero_le _, rfl, O3, L3, R3, D3⟩
  case round =>
    obtain ⟨k, hk, rfl, HO, HL, HR, HD⟩ := hrel
    clear O3 L3 R3 D3
    by_cases hlt : k < N
    · obtain ⟨g4, o4, rfl, hg4, hc4⟩ := RP.out.2 (by omega)
      have p1 := (HD.out.cell (p := ⟨g4, o4 + k * 2, none⟩) hg4).trans (hc4 k (by omega)).1
      have ki : (k : Int) < 8 := by omega
      have kl : (k : Int) < (ps.length : Int) := by omega
      have dk : decide ((k : Int) < 8) = true := decide_eq_true ki
      have dl : decide ((k : Int) < (ps.length : Int)) = true := decide_eq_true kl
      have l1 := blkc HL.out 1 rfl
      have fr := HO.out.free rfl k
      have ex := HO.out.cell rfl (i := k) (by omega)
      have O5 : Hid (OwnK 3 .i64 (wr.drew.setCell ⟨g2, k, none⟩ (.int .i64 (pa ps k))) w2.heap.size (some ⟨g2, 0, none⟩) 8 c2 (giveK ps (k + 1))) := OwnK.store (w := wr.drew) HO.out
      have L5 : Hid ((wr.drew.setCell ⟨g2, k, none⟩ (.int .i64 (pa ps k))).heap[w3.heap.size]? = some (.cells #[.int .i64 2, .slice (some ⟨g2, 0, none⟩) 8 c2] 31 (0, 0))) := (Below.heap_setCell _ _ _ _ (by simp; omega)).trans HL.out
      have R5 : Hid ((wr.drew.setCell ⟨g2, k, none⟩ (.int .i64 (pa ps k))).heap[w.heap.size + 1]? = some (.cells #[.int .i64 0, .slice none 0 0] 31 (0, 0))) := (Below.heap_setCell _ _ _ _ (by simp; omega)).trans HR.out
      have D5 : Hid (Below w2.heap.size w2 (wr.drew.setCell ⟨g2, k, none⟩ (.int .i64 (pa ps k)))) := HD.out.drew.setCell (by show _ ≤ g2; omega) _
      clear HO HL HR HD hc4
      go_wp2
      go_region
      all_goals
        go_wp2
        go_roundw
        case rel => exact ⟨k + 1, by omega, by go_num, O5, L5, R5, D5⟩
        case measure => simp [intOf]; omega
    · obtain rfl : k = N := by omega
      have l0 := blkc HL.out 0 rfl
      have l1 := blkc HL.out 1 rfl
      have r0 := blkc HR.out 0 rfl
      have r1 := blkc HR.out 1 rfl
      have fr := blkf HR.out
      have dk : decide ((k : Int) < 8) = false ∨ decide ((k : Int) < (ps.length : Int)) = false ∧ (k : Int) < 8 := by
        rcases Nat.lt_or_ge ps.length 8 with h | h
        · exact .inr ⟨decide_eq_false (by have := HN.out; omega), by have := HN.out; omega⟩
        · exact .inl (decide_eq_false (by have := HN.out; omega))
      clear HL HR
      have HB : Hid (Below w.heap.size w wr) := B2.out.trans (HD.out.mono B2.out.size)
      clear HD
      rcases dk with dk | ⟨dk, dk8⟩
      · have dk' : ¬ (k : Int) < 8 := of_decide_eq_false dk
        go_wp2
        refine bodyPost_ret (v := .tuple #[.agg #[.int .i64 2, .slice (some ⟨g2, 0, none⟩) 8 c2], .bool true]) (by simp [results, Tryz.results5, go_sem, r0, r1]) rfl ⟨_, c2, rfl, ?_, ?_⟩
        · exact OwnK.from_ (b0 := w2.heap.size) (by repeat' (first | (with_reducible exact HO.out) | (with_reducible refine OwnK.low ?_ ?_ _) | omega | (simp; done) | (simp; omega))) (by omega)
        · exact (by repeat' (first | (with_reducible exact HB.out) | (with_reducible refine Below.setCell ?_ ?_ _) | omega | (simp; done) | (simp; omega)))
      · have dk' : ¬ (k : Int) < (ps.length : Int) := of_decide_eq_false dk
        have dk2 : decide ((k : Int) < 8) = true := decide_eq_true (by omega)
        go_wp2
        refine bodyPost_ret (v := .tuple #[.agg #[.int .i64 2, .slice (some ⟨g2, 0, none⟩) 8 c2], .bool true]) (by simp [results, Tryz.results5, go_sem, r0, r1]) rfl ⟨_, c2, rfl, ?_, ?_⟩
        · exact OwnK.from_ (b0 := w2.heap.size) (by repeat' (first | (with_reducible exact HO.out) | (with_reducible refine OwnK.low ?_ ?_ _) | omega | (simp; done) | (simp; omega))) (by omega)
        · exact (by repeat' (first | (with_reducible exact HB.out) | (with_reducible refine Below.setCell ?_ ?_ _) | omega | (simp; done) | (simp; omega)))

end Go.Proofs.YtefcaeldkdbjdaaGreat
