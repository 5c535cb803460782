/- The contracts of the laws' helpers on warps: copy, compare, size, mark, held. -/
/- The contracts of the laws' own functions over lists of warps: copies, comparisons, sizes. -/
/- The contracts of the laws' own functions over memories, under a name of their own beside those over ints. -/
/- The contracts of the laws' own functions over machines: copies, comparisons, sizes. -/
/- The contracts of the laws' marks over lists of warps. -/
/- The contracts of MemNew and MemGrow, and of the laws' marks over memories, under a name of their own beside those over ints. -/
/- The contracts of the laws' marks over machines. -/
/- The laws' size of a machine, told with the sum of what it holds. -/
/- The laws' markReq, and what a region that makes a warp's variable needs. -/
/- The walk of FnExactGiveAll, over the contracts of what it calls. -/
import Derived.Test.YtefcaeldkdbjdaaGreatLawR
import Derived.Test.YtefcaeldkdbjdaaGreatCopyI
import Derived.Test.YtefcaeldkdbjdaaGreatIWarp
import Derived.Test.YtefcaeldkdbjdaaGreatOwnM
import Derived.Test.YtefcaeldkdbjdaaGreatBase
import Derived.Lib.SmallJoins
import Derived.Conc.RwLib
import Derived.Conc.MuLone
import Derived.KernelRfl
import Derived.Laws.CopyOwn
import Derived.Maps.AppendAt
namespace Go.Proofs.YtefcaeldkdbjdaaGreat
open Go.RowKit
set_option linter.unusedVariables false

set_option maxHeartbeats 1000000 in
theorem szWarp_yes (kd : Int) (A : Option Addr) (n c : Nat) (B : Option Addr) (m d td : Nat) (ph pr hd : Int) (sn : Nat) (l : Int) (w : World) (hl : l ≤ 1048576) (hn : (n : Int) + m ≤ l) : Calls Tryz.prog 31 #[.agg #[.int .i64 kd, .slice A n c, .slice B m d, .int .u32 (td : Int), .int .i64 ph, .int .i64 pr, .int .i64 hd, .int .u32 (sn : Int)], .int .i64 l] w fun e w' => e = .returned (.int .i64 (l - n - m)) ∧ Below w.heap.size w w' := by
  have h1 : ¬ l - (n : Int) < 0 := by omega
  have h1b : ¬ l - (n : Int) - (m : Int) < 0 := by omega
  have HS := Lib.hid (fun W => szI_yes A n c l W hl (by omega))
  have HS2 := Lib.hid (fun W => szI_yes B m d (l - n) W (by omega) (by omega))
  have h2 : (0 : Int) ≤ n := by omega
  have h3 : (0 : Int) ≤ m := by omega
  clear hn
  go_enter Tryz.func31, Tryz.ntmps31
  go_wp2_with fail
  refine (HS.out _).mono ?_
  rintro e w1 ⟨rfl, rfl⟩
  go_wp2_with fail
  refine (HS2.out _).mono ?_
  rintro e w1 ⟨rfl, rfl⟩
  go_wp2
  go_ret
  exact ⟨rfl, (Below.refl _ _).alloc (Nat.le_refl _) _⟩

set_option maxHeartbeats 1000000 in
theorem szWarp_no (kd : Int) (A : Option Addr) (n c : Nat) (B : Option Addr) (m d td : Nat) (ph pr hd : Int) (sn : Nat) (l : Int) (w : World) (hl : l ≤ 1048576) (h0 : 0 ≤ l) (hm : n ≤ maxLen) (hm2 : m ≤ maxLen) (hn : l < (n : Int) + m) : Calls Tryz.prog 31 #[.agg #[.int .i64 kd, .slice A n c, .slice B m d, .int .u32 (td : Int), .int .i64 ph, .int .i64 pr, .int .i64 hd, .int .u32 (sn : Int)], .int .i64 l] w fun e w' => e = .returned (.int .i64 (-1)) ∧ Below w.heap.size w w' := by
  by_cases hn1 : (n : Int) ≤ l
  · have HS := Lib.hid (fun W => szI_yes A n c l W hl hn1)
    have HS2 := Lib.hid (fun W => szI_no B m d (l - n) W (by omega) (by omega) hm2 (by omega))
    have h1 : ¬ l - (n : Int) < 0 := by omega
    have h2 : (0 : Int) ≤ n := by omega
    clear hn hm hm2 hn1
    go_enter Tryz.func31, Tryz.ntmps31
    go_wp2_with fail
    refine (HS.out _).mono ?_
    rintro e w1 ⟨rfl, rfl⟩
    go_wp2_with fail
    refine (HS2.out _).mono ?_
    rintro e w1 ⟨rfl, rfl⟩
    go_wp2
    go_ret
    exact ⟨rfl, (Below.refl _ _).alloc (Nat.le_refl _) _⟩
  · have HS := Lib.hid (fun W => szI_no A n c l W hl h0 hm (by omega))
    clear hn hm hm2 hn1
    go_enter Tryz.func31, Tryz.ntmps31
    go_wp2_with fail
    refine (HS.out _).mono ?_
    rintro e w1 ⟨rfl, rfl⟩
    go_wp2
    go_ret
    exact ⟨rfl, (Below.refl _ _).alloc (Nat.le_refl _) _⟩

set_option maxRecDepth 100000 in
set_option maxHeartbeats 4000000 in
theorem toWarp_any (kd : Int) (A : Option Addr) (n c : Nat) (B : Option Addr) (m d td : Nat) (ph pr hd : Int) (sn : Nat) (B1 B2 : Nat) (vs gs : List Int) (w : World) (h : RdK .i64 w B1 A n vs) (hB : B1 ≤ w.heap.size) (hn : n ≤ 1048576) (h2 : RdK .i64 w B2 B m gs) (hB2 : B2 ≤ w.heap.size) (hm : m ≤ 1048576) :
    Calls Tryz.prog 39 #[.agg #[.int .i64 kd, .slice A n c, .slice B m d, .int .u32 (td : Int), .int .i64 ph, .int .i64 pr, .int .i64 hd, .int .u32 (sn : Int)]] w fun e w' => ∃ g g2, e = .returned (.agg #[.int .i64 kd, .slice (some ⟨g, 0, none⟩) n n, .slice (some ⟨g2, 0, none⟩) m m, .int .u32 (td : Int), .int .i64 ph, .int .i64 pr, .int .i64 hd, .int .u32 (sn : Int)]) ∧ OwnK 3 .i64 w' w.heap.size (some ⟨g, 0, none⟩) n n vs ∧ OwnK 3 .i64 w' (g + 1) (some ⟨g2, 0, none⟩) m m gs ∧ Below w.heap.size w w' := by
  have HT : Hid (∀ W, Below w.heap.size w W → Calls Tryz.prog 61 #[.slice A n c] W fun e w' => ∃ g, e = .returned (.slice (some ⟨g, 0, none⟩) n n) ∧ OwnK 3 .i64 w' W.heap.size (some ⟨g, 0, none⟩) n n vs ∧ Below W.heap.size W w') := fun W hb => toI_any A n c B1 vs W (h.below (hb.mono hB)) (Nat.le_trans hB hb.size) hn
  have HT2 : Hid (∀ W, Below w.heap.size w W → Calls Tryz.prog 61 #[.slice B m d] W fun e w' => ∃ g, e = .returned (.slice (some ⟨g, 0, none⟩) m m) ∧ OwnK 3 .i64 w' W.heap.size (some ⟨g, 0, none⟩) m m gs ∧ Below W.heap.size W w') := fun W hb => toI_any B m d B2 gs W (h2.below (hb.mono hB2)) (Nat.le_trans hB2 hb.size) hm
  clear h hB hn h2 hB2 hm
  go_enter Tryz.func39, Tryz.ntmps39
  go_wp2_with fail
  refine (HT.out _ (bel3 _ _ _ _)).mono ?_
  rintro e w4 ⟨g, rfl, ho, hb⟩
  rw [sz3] at ho
  have O4 := Lib.hid ho
  obtain ⟨hx, hr, ha, hB4, z4⟩ := nw3 hb
  have B4 := Lib.hid hB4
  have X4 := Lib.hid hx
  have R4 := Lib.hid hr
  have A4 := Lib.hid ha
  have a1 := blkc ha 1 rfl
  have fa := blkf ha
  have x2 := blkc hx 2 rfl
  clear ho hb HT hr ha hB4 hx
  go_wp2_with fail
  refine (HT2.out _ (by repeat (first | exact B4.out | refine Below.setCell ?_ (by first | omega | (simp; done) | (simp; omega) | (simp [*]; done)) _))).mono ?_
  rintro e w5 ⟨g2, rfl, ho, hb⟩
  have hz5 := hb.size
  have e4 : (w4.setCell ⟨w.heap.size + 2, 1, none⟩ (.slice (some ⟨g, 0, none⟩) n n)).heap.size = w4.heap.size := by simp [World.setCell]
  have hz5' : w4.heap.size ≤ w5.heap.size := Nat.le_trans (Nat.le_of_eq e4.symm) hz5
  have hA := heap_setCell_same w4 (w.heap.size + 2) 1 _ _ (.slice (some ⟨g, 0, none⟩) n n) A4.out
  have ha : w5.heap[w.heap.size + 2]? = some (.cells #[.int .i64 kd, .slice (some ⟨g, 0, none⟩) n n, .slice none 0 0, .int .u32 0, .int .i64 0, .int .i64 0, .int .i64 0, .int .u32 0] 49 (0, 0)) := (hb.block _ (Nat.lt_of_lt_of_le z4 (Nat.le_of_eq e4.symm))).trans hA
  have hx : w5.heap[w.heap.size]? = some (.cells #[.int .i64 kd, .slice A n c, .slice B m d, .int .u32 (td : Int), .int .i64 ph, .int .i64 pr, .int .i64 hd, .int .u32 (sn : Int)] 68 (0, 0)) := (hb.block _ (Nat.lt_of_lt_of_le (by omega) (Nat.le_of_eq e4.symm))).trans ((Below.heap_setCell _ _ _ _ (show w.heap.size ≠ w.heap.size + 2 by omega)).trans X4.out)
  have hr := (hb.block _ (Nat.lt_of_lt_of_le (show w.heap.size + 1 < w4.heap.size by omega) (Nat.le_of_eq e4.symm))).trans ((Below.heap_setCell _ _ _ _ (show w.heap.size + 1 ≠ w.heap.size + 2 by omega)).trans R4.out)
  have hg := O4.out.range g rfl
  have O5a : Hid (OwnK 3 .i64 w5 (w.heap.size + 3) (some ⟨g, 0, none⟩) n n vs) := (O4.out.low (p := ⟨w.heap.size + 2, 1, none⟩) (by simp) (.slice (some ⟨g, 0, none⟩) n n)).below hb
  have O5b : Hid (OwnK 3 .i64 w5 w4.heap.size (some ⟨g2, 0, none⟩) m m gs) := ho.from_ (Nat.le_of_eq e4.symm)
  have B5 : Hid (Below w.heap.size w w5) := (B4.out.setCell (p := ⟨w.heap.size + 2, 1, none⟩) (by simp) _).trans (hb.mono (by rw [e4]; omega))
  have z5 : w.heap.size + 2 < w5.heap.size := by omega
  have hg2 := O5b.out.range g2 rfl
  have a0' := blkc ha 0 rfl
  have a1' := blkc ha 1 rfl
  have a2' := blkc ha 2 rfl
  have a3' := blkc ha 3 rfl
  have a4' := blkc ha 4 rfl
  have a5' := blkc ha 5 rfl
  have a6' := blkc ha 6 rfl
  have a7' := blkc ha 7 rfl
  have fa' := blkf ha
  have x3 := blkc hx 3 rfl
  have x4 := blkc hx 4 rfl
  have x5 := blkc hx 5 rfl
  have x6 := blkc hx 6 rfl
  have x7 := blkc hx 7 rfl
  have r0 := blkc hr 0 rfl
  have r1 := blkc hr 1 rfl
  have r2 := blkc hr 2 rfl
  have r3 := blkc hr 3 rfl
  have r4 := blkc hr 4 rfl
  have r5 := blkc hr 5 rfl
  have r6 := blkc hr 6 rfl
  have r7 := blkc hr 7 rfl
  have fr := blkf hr
  clear ho hb HT2 X4 R4 A4 a1 fa x2 hA ha hx hr e4 hz5 hz5' O4 B4 z4
  go_wp2
  refine bodyPost_ret (v := .agg #[.int .i64 kd, .slice (some ⟨g, 0, none⟩) n n, .slice (some ⟨g2, 0, none⟩) m m, .int .u32 (td : Int), .int .i64 ph, .int .i64 pr, .int .i64 hd, .int .u32 (sn : Int)]) (by simp [results, Tryz.results39, go_sem, r0, r1, r2, r3, r4, r5, r6, r7]) rfl ⟨g, g2, rfl, ?_, ?_, ?_⟩
  · exact OwnK.from_ (b0 := w.heap.size + 3) (by repeat' (first | (with_reducible exact O5a.out) | (with_reducible refine OwnK.low ?_ ?_ _) | omega | (simp; done) | (simp; omega))) (by omega)
  · exact OwnK.from_ (b0 := w4.heap.size) (by repeat' (first | (with_reducible exact O5b.out) | (with_reducible refine OwnK.low ?_ ?_ _) | omega | (simp; done) | (simp; omega))) (by omega)
  · exact (by repeat' (first | (with_reducible exact B5.out) | (with_reducible refine Below.setCell ?_ ?_ _) | (with_reducible refine Below.alloc ?_ ?_ _) | omega | (simp; done) | (simp; omega)))


set_option maxRecDepth 100000 in
set_option maxHeartbeats 2000000 in
theorem eqWarp_any (kd : Int) (A A2 : Option Addr) (n c c2 : Nat) (B B2 : Option Addr) (m d d2 td : Nat) (ph pr hd : Int) (sn Q1 Q2 Q3 Q4 : Nat) (vs gs : List Int) (w : World) (h1 : RdK .i64 w Q1 A n vs) (h2 : RdK .i64 w Q2 A2 n vs) (h3 : RdK .i64 w Q3 B m gs) (h4 : RdK .i64 w Q4 B2 m gs)
    (q1 : Q1 ≤ w.heap.size) (q2 : Q2 ≤ w.heap.size) (q3 : Q3 ≤ w.heap.size) (q4 : Q4 ≤ w.heap.size) (hn : n ≤ maxLen) (hm : m ≤ maxLen) :
    Calls Tryz.prog 45 #[.agg #[.int .i64 kd, .slice A n c, .slice B m d, .int .u32 (td : Int), .int .i64 ph, .int .i64 pr, .int .i64 hd, .int .u32 (sn : Int)], .agg #[.int .i64 kd, .slice A2 n c2, .slice B2 m d2, .int .u32 (td : Int), .int .i64 ph, .int .i64 pr, .int .i64 hd, .int .u32 (sn : Int)]] w fun e w' => e = .returned (.bool true) ∧ Below w.heap.size w w' := by
  have HE : Hid (∀ W, Below w.heap.size w W → Calls Tryz.prog 23 #[.slice A n c, .slice A2 n c2] W fun e w' => e = .returned (.bool true) ∧ ∃ k, w' = W.drewN k) := fun W hb => (eqI_any A A2 n n c c2 Q1 Q2 vs vs W (h1.below (hb.mono q1)) (h2.below (hb.mono q2)) hn hn).mono fun e w' ⟨he, hk⟩ => ⟨by rw [he]; simp, hk⟩
  have HE2 : Hid (∀ W, Below w.heap.size w W → Calls Tryz.prog 23 #[.slice B m d, .slice B2 m d2] W fun e w' => e = .returned (.bool true) ∧ ∃ k, w' = W.drewN k) := fun W hb => (eqI_any B B2 m m d d2 Q3 Q4 gs gs W (h3.below (hb.mono q3)) (h4.below (hb.mono q4)) hm hm).mono fun e w' ⟨he, hk⟩ => ⟨by rw [he]; simp, hk⟩
  clear h1 h2 h3 h4 hm hn q1 q2 q3 q4
  have b1 : (kd != kd) = false := by simp
  have b2 : ((td : Int) != (td : Int)) = false := by simp
  have b3 : (ph != ph) = false := by simp
  have b4 : (pr != pr) = false := by simp
  have b5 : (hd != hd) = false := by simp
  have b6 : ((sn : Int) != (sn : Int)) = false := by simp
  have B0 := Lib.hid (bel2 w (.cells #[.int .i64 kd, .slice A n c, .slice B m d, .int .u32 (td : Int), .int .i64 ph, .int .i64 pr, .int .i64 hd, .int .u32 (sn : Int)] 49) (.cells #[.int .i64 kd, .slice A2 n c2, .slice B2 m d2, .int .u32 (td : Int), .int .i64 ph, .int .i64 pr, .int .i64 hd, .int .u32 (sn : Int)] 49))
  go_enter Tryz.func45, Tryz.ntmps45
  go_wp2_with fail
  refine (HE.out _ B0.out).mono ?_
  rintro e w1 ⟨rfl, k, rfl⟩
  have B1 := Lib.hid (bel_drewN B0.out k)
  go_wp2_with fail
  refine (HE2.out _ B1.out).mono ?_
  rintro e w1 ⟨rfl, k2, rfl⟩
  clear HE HE2
  go_wp2
  go_ret
  exact ⟨rfl, bel_drewN B0.out _⟩

end Go.Proofs.YtefcaeldkdbjdaaGreat

namespace Go.Proofs.YtefcaeldkdbjdaaGreat
open Go.RowKit
set_option linter.unusedVariables false

set_option maxRecDepth 100000 in
set_option maxHeartbeats 4000000 in
theorem toWarpS_any (A : Option Addr) (n c B : Nat) (xs : List Wc) (w : World) (h : RdW w B A n xs) (hB : B ≤ w.heap.size) (hn : n ≤ 1048576) (hf : ∀ i, i < n → (wat xs i).v.vs.length ≤ 1048576 ∧ (wat xs i).v.gs.length ≤ 1048576) :
    Calls Tryz.prog 19 #[.slice A n c] w fun e w' => ∃ g ys, e = .returned (.slice (some ⟨g, 0, none⟩) n n) ∧ OwnM w' w.heap.size (some ⟨g, 0, none⟩) n n ys ∧ vals8 ys = vals8 xs ∧ Below w.heap.size w w' := by
  obtain ⟨i0, hi, hz0, hz1, hz2⟩ := info_parts info_warpW
  have hb2 : i0.bytes * n ≤ 281474976710656 := by rw [hz2]; omega
  have hb3 : n ≤ maxLen := by unfold maxLen; omega
  have HL := Lib.hid h.1
  have H2 := Lib.hid h
  have HI := Lib.hid hi
  have HZ0 := Lib.hid hz0
  have HZ1 := Lib.hid hz1
  have HF := Lib.hid hf
  clear h hi hz0 hz1 hf
  go_enter Tryz.func19, Tryz.ntmps19
  go_wp2_with (at_make; refine wpList_make_full _ rfl _ _ 35 rfl w.heap.size 49 i0 (.agg #[.int .i64 0, .slice none 0 0, .slice none 0 0, .int .u32 0, .int .i64 0, .int .i64 0, .int .i64 0, .int .u32 0]) 8 Tryz.underlying35 HI.out HZ0.out HZ1.out .i64 .i64 _ _ n rfl rfl rfl rfl hb2 hb3 (Nat.le_refl _) ?_)
  intro w1 hown hgr
  have HO : Hid (OwnW w1 w.heap.size (some ⟨w.heap.size, 0, none⟩) n n (List.replicate n zeroW)) := by
    show w1.ownsRow _ _ _ _ _ (flatW _)
    rw [flatW_zeros]
    exact hown
  have HB : Hid (Below w.heap.size w w1) := (Below.refl _ _).grown hgr (Nat.le_refl _) (by simp)
  have h0 : w.heap.size < w1.heap.size := by
    rcases hown.2 with ⟨hv, _⟩ | ⟨g', cap, cur, hv, hb', hh, _⟩
    · simp at hv
    · obtain rfl : w.heap.size = g' := by injection hv with v1; injection v1 with v1; injection v1
      exact (Array.getElem?_eq_some_iff.1 hh).1
  clear hown hgr
  go_wp2
  go_loopw [4] (fun i wr => ∃ (k : Nat) (ys : List Wc), k ≤ n ∧ i = .int .i64 k ∧ Hid (ys.length = n) ∧ Hid (OwnW wr w.heap.size (some ⟨w.heap.size, 0, none⟩) n n ys) ∧ Hid (Inner wr w.heap.size k ys) ∧ Hid (Dis (some w.heap.size) k ys) ∧ Hid (∀ i, i < k → (wat ys i).v = (wat xs i).v) ∧ w.heap.size < wr.heap.size ∧ Hid (Below w.heap.size w wr)) (fun i _ => n - (intOf i).toNat)
  case atStart => exact ⟨0, _, Nat.zero_le _, rfl, by simp [Hid], HO, fun i hi => absurd hi (by omega), fun i hi => absurd hi (by omega), fun i hi => absurd hi (by omega), h0, HB⟩
  case round =>
    obtain ⟨k, ys, hk, rfl, HLy, HOr, HIr, HDr, HVr, hsz, HBr⟩ := hrel
    clear HO HB h0
    by_cases hlt : k < n
    · obtain ⟨g, o, rfl, hg, h8⟩ := H2.out.at8 hlt
      obtain ⟨c0, c1, c2, c3, c4, c5, c6, c7⟩ := h8.below (HBr.out.mono hB) hg
      have hrows := H2.out.rows hlt
      have HR1 := Lib.hid (hrows.1.below (HBr.out.mono hB))
      have HR2 := Lib.hid (hrows.2.below (HBr.out.mono hB))
      have hbs := Nat.le_trans hB HBr.out.size
      have hf1 := (HF.out k hlt).1
      have hf2 := (HF.out k hlt).2
      clear h8 hrows
      go_wp2_with (go_at_call 39; refine (toWarp_any _ _ _ _ _ _ _ _ _ _ _ _ _ _ _ _ _ HR1.out hbs hf1 HR2.out hbs hf2).mono ?_; rintro e w2 ⟨g1, g2, rfl, ho1, ho2, hb2⟩
                   have HO2 := Lib.hid (HOr.out.below hb2)
                   have HI2 := Lib.hid (HIr.out.below hb2)
                   have q1 := World.ownsRow.lt ho1 g1 rfl
                   have q2 := World.ownsRow.lt ho2 g2 rfl
                   have z2 := hb2.size
                   have HB2 := Lib.hid (HBr.out.trans (hb2.mono HBr.out.size))
                   have e8 := HO2.out.at8 rfl hlt
                   have e0 := e8.1
                   have e1 := e8.2.1
                   have e2 := e8.2.2.1
                   have e3 := e8.2.2.2.1
                   have e4 := e8.2.2.2.2.1
                   have e5 := e8.2.2.2.2.2.1
                   have e6 := e8.2.2.2.2.2.2.1
                   have e7 := e8.2.2.2.2.2.2.2
                   have f0 := HO2.out.free rfl
                   have hly : k < ys.length := by rw [HLy.out]; exact hlt
                   have K8 : Hid (Kp (fun q => q = w.heap.size) w2 ((((((((w2.setCell ⟨w.heap.size, k * 8, none⟩ (.int .i64 (wat xs k).v.kd)).setCell ⟨w.heap.size, k * 8 + 1, none⟩ (.slice (some ⟨g1, 0, none⟩) (wat xs k).v.vs.length (wat xs k).v.vs.length)).setCell ⟨w.heap.size, k * 8 + 2, none⟩ (.slice (some ⟨g2, 0, none⟩) (wat xs k).v.gs.length (wat xs k).v.gs.length)).setCell ⟨w.heap.size, k * 8 + 3, none⟩ (.int .u32 ((wat xs k).v.td : Int))).setCell ⟨w.heap.size, k * 8 + 4, none⟩ (.int .i64 (wat xs k).v.ph)).setCell ⟨w.heap.size, k * 8 + 5, none⟩ (.int .i64 (wat xs k).v.pr)).setCell ⟨w.heap.size, k * 8 + 6, none⟩ (.int .i64 (wat xs k).v.hd)).setCell ⟨w.heap.size, k * 8 + 7, none⟩ (.int .u32 ((wat xs k).v.sn : Int)))) := Kp.set8 _ _ _ _ _ _ _ _ _ _ _ _ _ _ _ _ _ _
                   have HN : Hid (OwnW ((((((((w2.setCell ⟨w.heap.size, k * 8, none⟩ (.int .i64 (wat xs k).v.kd)).setCell ⟨w.heap.size, k * 8 + 1, none⟩ (.slice (some ⟨g1, 0, none⟩) (wat xs k).v.vs.length (wat xs k).v.vs.length)).setCell ⟨w.heap.size, k * 8 + 2, none⟩ (.slice (some ⟨g2, 0, none⟩) (wat xs k).v.gs.length (wat xs k).v.gs.length)).setCell ⟨w.heap.size, k * 8 + 3, none⟩ (.int .u32 ((wat xs k).v.td : Int))).setCell ⟨w.heap.size, k * 8 + 4, none⟩ (.int .i64 (wat xs k).v.ph)).setCell ⟨w.heap.size, k * 8 + 5, none⟩ (.int .i64 (wat xs k).v.pr)).setCell ⟨w.heap.size, k * 8 + 6, none⟩ (.int .i64 (wat xs k).v.hd)).setCell ⟨w.heap.size, k * 8 + 7, none⟩ (.int .u32 ((wat xs k).v.sn : Int))) w.heap.size (some ⟨w.heap.size, 0, none⟩) n n (ys.set k ⟨(wat xs k).v, some ⟨g1, 0, none⟩, (wat xs k).v.vs.length, some ⟨g2, 0, none⟩, (wat xs k).v.gs.length⟩)) := HO2.out.store (y := ⟨(wat xs k).v, some ⟨g1, 0, none⟩, (wat xs k).v.vs.length, some ⟨g2, 0, none⟩, (wat xs k).v.gs.length⟩) hlt
                   have HIN : Hid (Inner ((((((((w2.setCell ⟨w.heap.size, k * 8, none⟩ (.int .i64 (wat xs k).v.kd)).setCell ⟨w.heap.size, k * 8 + 1, none⟩ (.slice (some ⟨g1, 0, none⟩) (wat xs k).v.vs.length (wat xs k).v.vs.length)).setCell ⟨w.heap.size, k * 8 + 2, none⟩ (.slice (some ⟨g2, 0, none⟩) (wat xs k).v.gs.length (wat xs k).v.gs.length)).setCell ⟨w.heap.size, k * 8 + 3, none⟩ (.int .u32 ((wat xs k).v.td : Int))).setCell ⟨w.heap.size, k * 8 + 4, none⟩ (.int .i64 (wat xs k).v.ph)).setCell ⟨w.heap.size, k * 8 + 5, none⟩ (.int .i64 (wat xs k).v.pr)).setCell ⟨w.heap.size, k * 8 + 6, none⟩ (.int .i64 (wat xs k).v.hd)).setCell ⟨w.heap.size, k * 8 + 7, none⟩ (.int .u32 ((wat xs k).v.sn : Int))) w.heap.size (k + 1) (ys.set k ⟨(wat xs k).v, some ⟨g1, 0, none⟩, (wat xs k).v.vs.length, some ⟨g2, 0, none⟩, (wat xs k).v.gs.length⟩)) :=
                     Inner.next (HI2.out.kp K8.out (fun i hi q hq e => by obtain ⟨d1, d2⟩ := HDr.out i hi q; rcases hq with hq | hq; (exact (d1 hq).1 (by rw [e])); (exact (d2 hq).1 (by rw [e])))) hly ((ho1.from_ (by omega)).kp K8.out (fun q hq => by have := World.ownsRow.lt ho1 q hq; omega)) ((ho2.from_ (by omega)).kp K8.out (fun q hq => by have := World.ownsRow.lt ho2 q hq; omega))
                   have HDN : Hid (Dis (some w.heap.size) (k + 1) (ys.set k ⟨(wat xs k).v, some ⟨g1, 0, none⟩, (wat xs k).v.vs.length, some ⟨g2, 0, none⟩, (wat xs k).v.gs.length⟩)) :=
                     HDr.out.next (lo := wr.heap.size) hly (fun i hi q hq => (HIr.out.lt hi hq).2) (fun q hq => by injection hq with hq; omega) (fun q hq => ⟨(World.ownsRow.lt ho1 q hq).1, fun h2 => by have := World.ownsRow.lt ho2 q h2; (have e3 : g1 = q := by simpa [Value.ownBlock] using hq); omega⟩) (fun q hq => by have := World.ownsRow.lt ho2 q hq; omega)
                   have HVN : Hid (∀ i, i < k + 1 → (wat (ys.set k ⟨(wat xs k).v, some ⟨g1, 0, none⟩, (wat xs k).v.vs.length, some ⟨g2, 0, none⟩, (wat xs k).v.gs.length⟩) i).v = (wat xs i).v) := fun i hi => by
                     rw [wat_set hly]
                     by_cases e : k = i
                     · subst e; simp
                     · rw [if_neg e]; exact HVr.out i (by omega)
                   have HM : Hid (Below w.heap.size w ((((((((w2.setCell ⟨w.heap.size, k * 8, none⟩ (.int .i64 (wat xs k).v.kd)).setCell ⟨w.heap.size, k * 8 + 1, none⟩ (.slice (some ⟨g1, 0, none⟩) (wat xs k).v.vs.length (wat xs k).v.vs.length)).setCell ⟨w.heap.size, k * 8 + 2, none⟩ (.slice (some ⟨g2, 0, none⟩) (wat xs k).v.gs.length (wat xs k).v.gs.length)).setCell ⟨w.heap.size, k * 8 + 3, none⟩ (.int .u32 ((wat xs k).v.td : Int))).setCell ⟨w.heap.size, k * 8 + 4, none⟩ (.int .i64 (wat xs k).v.ph)).setCell ⟨w.heap.size, k * 8 + 5, none⟩ (.int .i64 (wat xs k).v.pr)).setCell ⟨w.heap.size, k * 8 + 6, none⟩ (.int .i64 (wat xs k).v.hd)).setCell ⟨w.heap.size, k * 8 + 7, none⟩ (.int .u32 ((wat xs k).v.sn : Int)))) := Kp.bel K8.out HB2.out HB2.out.size (fun q hq => by omega)
                   have zN : w.heap.size < ((((((((w2.setCell ⟨w.heap.size, k * 8, none⟩ (.int .i64 (wat xs k).v.kd)).setCell ⟨w.heap.size, k * 8 + 1, none⟩ (.slice (some ⟨g1, 0, none⟩) (wat xs k).v.vs.length (wat xs k).v.vs.length)).setCell ⟨w.heap.size, k * 8 + 2, none⟩ (.slice (some ⟨g2, 0, none⟩) (wat xs k).v.gs.length (wat xs k).v.gs.length)).setCell ⟨w.heap.size, k * 8 + 3, none⟩ (.int .u32 ((wat xs k).v.td : Int))).setCell ⟨w.heap.size, k * 8 + 4, none⟩ (.int .i64 (wat xs k).v.ph)).setCell ⟨w.heap.size, k * 8 + 5, none⟩ (.int .i64 (wat xs k).v.pr)).setCell ⟨w.heap.size, k * 8 + 6, none⟩ (.int .i64 (wat xs k).v.hd)).setCell ⟨w.heap.size, k * 8 + 7, none⟩ (.int .u32 ((wat xs k).v.sn : Int))).heap.size := by simp; omega
                   have LN : Hid ((ys.set k ⟨(wat xs k).v, some ⟨g1, 0, none⟩, (wat xs k).v.vs.length, some ⟨g2, 0, none⟩, (wat xs k).v.gs.length⟩).length = n) := by simp [HLy.out, Hid]
                   clear hb2 ho1 ho2 HOr HIr HDr HVr HO2 HI2 HB2 HLy HBr K8 e8 c0 c1 c2 c3 c4 c5 c6 c7 HR1 HR2 hf1 hf2)
      go_roundw
      case rel => exact ⟨k + 1, _, by omega, by go_num, LN, HN, HIN, HDN, HVN, zN, HM⟩
      case measure => simp [intOf]; omega
    · obtain rfl : k = n := by omega
      go_wp2
      go_ret
      refine ⟨_, ys, rfl, ⟨HOr.out, HIr.out, HDr.out⟩, ?_, HBr.out⟩
      unfold vals8
      apply List.ext_getElem
      · simp [HLy.out, HL.out]
      · intro i h1 h2
        have h1' : i < ys.length := by simpa using h1
        have h2' : i < xs.length := by simpa using h2
        have := HVr.out i (by rw [← HLy.out]; exact h1')
        simpa [wat, h1', h2'] using this

set_option maxRecDepth 100000 in
set_option maxHeartbeats 4000000 in
theorem eqWarpS_any (A1 A2 : Option Addr) (n c1 c2 B1 B2 : Nat) (xs ys : List Wc) (w : World) (h1 : RdW w B1 A1 n xs) (h2 : RdW w B2 A2 n ys) (hv : vals8 xs = vals8 ys) (hB1 : B1 ≤ w.heap.size) (hB2 : B2 ≤ w.heap.size) (hm : n ≤ maxLen) (hf : ∀ i, i < n → (wat xs i).v.vs.length ≤ maxLen ∧ (wat xs i).v.gs.length ≤ maxLen) :
    Calls Tryz.prog 25 #[.slice A1 n c1, .slice A2 n c2] w fun e w' => e = .returned (.bool true) ∧ Below w.heap.size w w' := by
  have HV : Hid (∀ i, i < n → (wat ys i).v = (wat xs i).v) := fun i hi => by
    rw [wat_v (xs := ys) rfl (by rw [h2.1]; exact hi), ← hv, ← wat_v (xs := xs) rfl (by rw [h1.1]; exact hi)]
  have H1 := Lib.hid h1
  have H2 := Lib.hid h2
  have HF := Lib.hid hf
  have hbb : ((n : Int) != (n : Int)) = false := by simp
  unfold maxLen at hm
  clear h1 h2 hv hf
  go_enter Tryz.func25, Tryz.ntmps25
  go_wp2
  go_loopw [5] (fun i wr => ∃ k : Nat, k ≤ n ∧ i = .int .i64 k ∧ Hid (Below w.heap.size w wr)) (fun i _ => n - (intOf i).toNat)
  case atStart => exact ⟨0, Nat.zero_le _, rfl, Below.refl _ _⟩
  case round =>
    obtain ⟨k, hk, rfl, HB⟩ := hrel
    by_cases hlt : k < n
    · obtain ⟨g1, o1, rfl, hg1, q1⟩ := H1.out.at8 hlt
      obtain ⟨g2, o2, rfl, hg2, q2⟩ := H2.out.at8 hlt
      have r1 := H1.out.rows hlt
      have r2 := H2.out.rows hlt
      have hv := HV.out k hlt
      rw [hv] at r2
      have hfk := HF.out k hlt
      obtain ⟨a0, a1, a2, a3, a4, a5, a6, a7⟩ := q1.below (HB.out.mono hB1) hg1
      obtain ⟨b0, b1, b2, b3, b4, b5, b6, b7⟩ := q2.below (HB.out.mono hB2) hg2
      rw [hv] at b0 b1 b2 b3 b4 b5 b6 b7
      have hsz := HB.out.size
      have x0 : wr.cell? ⟨g1, o1 + k * 8, none⟩ = some (.int .i64 (wat xs k).v.kd) ∧ wr.cell? ⟨g1, o1 + k * 8 + 1, none⟩ = some (.slice (wat xs k).A (wat xs k).v.vs.length (wat xs k).c) ∧ wr.cell? ⟨g1, o1 + k * 8 + 2, none⟩ = some (.slice (wat xs k).B (wat xs k).v.gs.length (wat xs k).d) ∧ wr.cell? ⟨g1, o1 + k * 8 + 3, none⟩ = some (.int .u32 ((wat xs k).v.td : Int)) ∧ wr.cell? ⟨g1, o1 + k * 8 + 4, none⟩ = some (.int .i64 (wat xs k).v.ph) ∧ wr.cell? ⟨g1, o1 + k * 8 + 5, none⟩ = some (.int .i64 (wat xs k).v.pr) ∧ wr.cell? ⟨g1, o1 + k * 8 + 6, none⟩ = some (.int .i64 (wat xs k).v.hd) ∧ wr.cell? ⟨g1, o1 + k * 8 + 7, none⟩ = some (.int .u32 ((wat xs k).v.sn : Int)) ∧ wr.cell? ⟨g2, o2 + k * 8, none⟩ = some (.int .i64 (wat xs k).v.kd) ∧ wr.cell? ⟨g2, o2 + k * 8 + 1, none⟩ = some (.slice (wat ys k).A (wat xs k).v.vs.length (wat ys k).c) ∧ wr.cell? ⟨g2, o2 + k * 8 + 2, none⟩ = some (.slice (wat ys k).B (wat xs k).v.gs.length (wat ys k).d) ∧ wr.cell? ⟨g2, o2 + k * 8 + 3, none⟩ = some (.int .u32 ((wat xs k).v.td : Int)) ∧ wr.cell? ⟨g2, o2 + k * 8 + 4, none⟩ = some (.int .i64 (wat xs k).v.ph) ∧ wr.cell? ⟨g2, o2 + k * 8 + 5, none⟩ = some (.int .i64 (wat xs k).v.pr) ∧ wr.cell? ⟨g2, o2 + k * 8 + 6, none⟩ = some (.int .i64 (wat xs k).v.hd) ∧ wr.cell? ⟨g2, o2 + k * 8 + 7, none⟩ = some (.int .u32 ((wat xs k).v.sn : Int)) := ⟨a0, a1, a2, a3, a4, a5, a6, a7, b0, b1, b2, b3, b4, b5, b6, b7⟩
      have x0d : wr.drew.cell? ⟨g1, o1 + k * 8, none⟩ = some (.int .i64 (wat xs k).v.kd) ∧ wr.drew.cell? ⟨g1, o1 + k * 8 + 1, none⟩ = some (.slice (wat xs k).A (wat xs k).v.vs.length (wat xs k).c) ∧ wr.drew.cell? ⟨g1, o1 + k * 8 + 2, none⟩ = some (.slice (wat xs k).B (wat xs k).v.gs.length (wat xs k).d) ∧ wr.drew.cell? ⟨g1, o1 + k * 8 + 3, none⟩ = some (.int .u32 ((wat xs k).v.td : Int)) ∧ wr.drew.cell? ⟨g1, o1 + k * 8 + 4, none⟩ = some (.int .i64 (wat xs k).v.ph) ∧ wr.drew.cell? ⟨g1, o1 + k * 8 + 5, none⟩ = some (.int .i64 (wat xs k).v.pr) ∧ wr.drew.cell? ⟨g1, o1 + k * 8 + 6, none⟩ = some (.int .i64 (wat xs k).v.hd) ∧ wr.drew.cell? ⟨g1, o1 + k * 8 + 7, none⟩ = some (.int .u32 ((wat xs k).v.sn : Int)) ∧ wr.drew.cell? ⟨g2, o2 + k * 8, none⟩ = some (.int .i64 (wat xs k).v.kd) ∧ wr.drew.cell? ⟨g2, o2 + k * 8 + 1, none⟩ = some (.slice (wat ys k).A (wat xs k).v.vs.length (wat ys k).c) ∧ wr.drew.cell? ⟨g2, o2 + k * 8 + 2, none⟩ = some (.slice (wat ys k).B (wat xs k).v.gs.length (wat ys k).d) ∧ wr.drew.cell? ⟨g2, o2 + k * 8 + 3, none⟩ = some (.int .u32 ((wat xs k).v.td : Int)) ∧ wr.drew.cell? ⟨g2, o2 + k * 8 + 4, none⟩ = some (.int .i64 (wat xs k).v.ph) ∧ wr.drew.cell? ⟨g2, o2 + k * 8 + 5, none⟩ = some (.int .i64 (wat xs k).v.pr) ∧ wr.drew.cell? ⟨g2, o2 + k * 8 + 6, none⟩ = some (.int .i64 (wat xs k).v.hd) ∧ wr.drew.cell? ⟨g2, o2 + k * 8 + 7, none⟩ = some (.int .u32 ((wat xs k).v.sn : Int)) := x0
      have D0 : Hid (Below wr.heap.size wr wr.drew) := (Below.refl _ _).drew
      have xS : Hid (∀ w', Below wr.heap.size wr w' → w'.cell? ⟨g1, o1 + k * 8, none⟩ = some (.int .i64 (wat xs k).v.kd) ∧ w'.cell? ⟨g1, o1 + k * 8 + 1, none⟩ = some (.slice (wat xs k).A (wat xs k).v.vs.length (wat xs k).c) ∧ w'.cell? ⟨g1, o1 + k * 8 + 2, none⟩ = some (.slice (wat xs k).B (wat xs k).v.gs.length (wat xs k).d) ∧ w'.cell? ⟨g1, o1 + k * 8 + 3, none⟩ = some (.int .u32 ((wat xs k).v.td : Int)) ∧ w'.cell? ⟨g1, o1 + k * 8 + 4, none⟩ = some (.int .i64 (wat xs k).v.ph) ∧ w'.cell? ⟨g1, o1 + k * 8 + 5, none⟩ = some (.int .i64 (wat xs k).v.pr) ∧ w'.cell? ⟨g1, o1 + k * 8 + 6, none⟩ = some (.int .i64 (wat xs k).v.hd) ∧ w'.cell? ⟨g1, o1 + k * 8 + 7, none⟩ = some (.int .u32 ((wat xs k).v.sn : Int)) ∧ w'.cell? ⟨g2, o2 + k * 8, none⟩ = some (.int .i64 (wat xs k).v.kd) ∧ w'.cell? ⟨g2, o2 + k * 8 + 1, none⟩ = some (.slice (wat ys k).A (wat xs k).v.vs.length (wat ys k).c) ∧ w'.cell? ⟨g2, o2 + k * 8 + 2, none⟩ = some (.slice (wat ys k).B (wat xs k).v.gs.length (wat ys k).d) ∧ w'.cell? ⟨g2, o2 + k * 8 + 3, none⟩ = some (.int .u32 ((wat xs k).v.td : Int)) ∧ w'.cell? ⟨g2, o2 + k * 8 + 4, none⟩ = some (.int .i64 (wat xs k).v.ph) ∧ w'.cell? ⟨g2, o2 + k * 8 + 5, none⟩ = some (.int .i64 (wat xs k).v.pr) ∧ w'.cell? ⟨g2, o2 + k * 8 + 6, none⟩ = some (.int .i64 (wat xs k).v.hd) ∧ w'.cell? ⟨g2, o2 + k * 8 + 7, none⟩ = some (.int .u32 ((wat xs k).v.sn : Int))) := fun w' hb => ⟨later_at0 hb x0.1, later_at0 hb x0.2.1, later_at0 hb x0.2.2.1, later_at0 hb x0.2.2.2.1, later_at0 hb x0.2.2.2.2.1, later_at0 hb x0.2.2.2.2.2.1, later_at0 hb x0.2.2.2.2.2.2.1, later_at0 hb x0.2.2.2.2.2.2.2.1, later_at0 hb x0.2.2.2.2.2.2.2.2.1, later_at0 hb x0.2.2.2.2.2.2.2.2.2.1, later_at0 hb x0.2.2.2.2.2.2.2.2.2.2.1, later_at0 hb x0.2.2.2.2.2.2.2.2.2.2.2.1, later_at0 hb x0.2.2.2.2.2.2.2.2.2.2.2.2.1, later_at0 hb x0.2.2.2.2.2.2.2.2.2.2.2.2.2.1, later_at0 hb x0.2.2.2.2.2.2.2.2.2.2.2.2.2.2.1, later_at0 hb x0.2.2.2.2.2.2.2.2.2.2.2.2.2.2.2⟩
      have CE : Hid (∀ W', Below wr.heap.size wr W' → Calls Tryz.prog 45 #[.agg #[.int .i64 (wat xs k).v.kd, .slice (wat xs k).A (wat xs k).v.vs.length (wat xs k).c, .slice (wat xs k).B (wat xs k).v.gs.length (wat xs k).d, .int .u32 ((wat xs k).v.td : Int), .int .i64 (wat xs k).v.ph, .int .i64 (wat xs k).v.pr, .int .i64 (wat xs k).v.hd, .int .u32 ((wat xs k).v.sn : Int)], .agg #[.int .i64 (wat xs k).v.kd, .slice (wat ys k).A (wat xs k).v.vs.length (wat ys k).c, .slice (wat ys k).B (wat xs k).v.gs.length (wat ys k).d, .int .u32 ((wat xs k).v.td : Int), .int .i64 (wat xs k).v.ph, .int .i64 (wat xs k).v.pr, .int .i64 (wat xs k).v.hd, .int .u32 ((wat xs k).v.sn : Int)]] W' fun e w' => e = .returned (.bool true) ∧ Hid (Below wr.heap.size wr w') ∧ (w'.cell? ⟨g1, o1 + k * 8, none⟩ = some (.int .i64 (wat xs k).v.kd) ∧ w'.cell? ⟨g1, o1 + k * 8 + 1, none⟩ = some (.slice (wat xs k).A (wat xs k).v.vs.length (wat xs k).c) ∧ w'.cell? ⟨g1, o1 + k * 8 + 2, none⟩ = some (.slice (wat xs k).B (wat xs k).v.gs.length (wat xs k).d) ∧ w'.cell? ⟨g1, o1 + k * 8 + 3, none⟩ = some (.int .u32 ((wat xs k).v.td : Int)) ∧ w'.cell? ⟨g1, o1 + k * 8 + 4, none⟩ = some (.int .i64 (wat xs k).v.ph) ∧ w'.cell? ⟨g1, o1 + k * 8 + 5, none⟩ = some (.int .i64 (wat xs k).v.pr) ∧ w'.cell? ⟨g1, o1 + k * 8 + 6, none⟩ = some (.int .i64 (wat xs k).v.hd) ∧ w'.cell? ⟨g1, o1 + k * 8 + 7, none⟩ = some (.int .u32 ((wat xs k).v.sn : Int)) ∧ w'.cell? ⟨g2, o2 + k * 8, none⟩ = some (.int .i64 (wat xs k).v.kd) ∧ w'.cell? ⟨g2, o2 + k * 8 + 1, none⟩ = some (.slice (wat ys k).A (wat xs k).v.vs.length (wat ys k).c) ∧ w'.cell? ⟨g2, o2 + k * 8 + 2, none⟩ = some (.slice (wat ys k).B (wat xs k).v.gs.length (wat ys k).d) ∧ w'.cell? ⟨g2, o2 + k * 8 + 3, none⟩ = some (.int .u32 ((wat xs k).v.td : Int)) ∧ w'.cell? ⟨g2, o2 + k * 8 + 4, none⟩ = some (.int .i64 (wat xs k).v.ph) ∧ w'.cell? ⟨g2, o2 + k * 8 + 5, none⟩ = some (.int .i64 (wat xs k).v.pr) ∧ w'.cell? ⟨g2, o2 + k * 8 + 6, none⟩ = some (.int .i64 (wat xs k).v.hd) ∧ w'.cell? ⟨g2, o2 + k * 8 + 7, none⟩ = some (.int .u32 ((wat xs k).v.sn : Int)))) := fun W' hb => (eqWarp_any _ _ _ _ _ _ _ _ _ _ _ _ _ _ _ _ B1 B2 B1 B2 _ _ W' (r1.1.below ((HB.out.trans (hb.mono hsz)).mono hB1)) (r2.1.below ((HB.out.trans (hb.mono hsz)).mono hB2)) (r1.2.below ((HB.out.trans (hb.mono hsz)).mono hB1)) (r2.2.below ((HB.out.trans (hb.mono hsz)).mono hB2)) (Nat.le_trans hB1 (Nat.le_trans hsz hb.size)) (Nat.le_trans hB2 (Nat.le_trans hsz hb.size)) (Nat.le_trans hB1 (Nat.le_trans hsz hb.size)) (Nat.le_trans hB2 (Nat.le_trans hsz hb.size)) hfk.1 hfk.2).mono fun e w' ⟨he, hb2⟩ => ⟨he, hb.trans (hb2.mono hb.size), xS.out w' (hb.trans (hb2.mono hb.size))⟩
      clear r1 r2 hv q1 q2 hfk
      go_wp2_with fail
      go_cut [26] from 11 to 26 (fun s0 wx => s0 = .bool false ∧ Hid (Below wr.heap.size wr wx))
      case first =>
        go_region_held3 (fun w' => w'.cell? ⟨g1, o1 + k * 8, none⟩ = some (.int .i64 (wat xs k).v.kd) ∧ w'.cell? ⟨g1, o1 + k * 8 + 1, none⟩ = some (.slice (wat xs k).A (wat xs k).v.vs.length (wat xs k).c) ∧ w'.cell? ⟨g1, o1 + k * 8 + 2, none⟩ = some (.slice (wat xs k).B (wat xs k).v.gs.length (wat xs k).d) ∧ w'.cell? ⟨g1, o1 + k * 8 + 3, none⟩ = some (.int .u32 ((wat xs k).v.td : Int)) ∧ w'.cell? ⟨g1, o1 + k * 8 + 4, none⟩ = some (.int .i64 (wat xs k).v.ph) ∧ w'.cell? ⟨g1, o1 + k * 8 + 5, none⟩ = some (.int .i64 (wat xs k).v.pr) ∧ w'.cell? ⟨g1, o1 + k * 8 + 6, none⟩ = some (.int .i64 (wat xs k).v.hd) ∧ w'.cell? ⟨g1, o1 + k * 8 + 7, none⟩ = some (.int .u32 ((wat xs k).v.sn : Int)) ∧ w'.cell? ⟨g2, o2 + k * 8, none⟩ = some (.int .i64 (wat xs k).v.kd) ∧ w'.cell? ⟨g2, o2 + k * 8 + 1, none⟩ = some (.slice (wat ys k).A (wat xs k).v.vs.length (wat ys k).c) ∧ w'.cell? ⟨g2, o2 + k * 8 + 2, none⟩ = some (.slice (wat ys k).B (wat xs k).v.gs.length (wat ys k).d) ∧ w'.cell? ⟨g2, o2 + k * 8 + 3, none⟩ = some (.int .u32 ((wat xs k).v.td : Int)) ∧ w'.cell? ⟨g2, o2 + k * 8 + 4, none⟩ = some (.int .i64 (wat xs k).v.ph) ∧ w'.cell? ⟨g2, o2 + k * 8 + 5, none⟩ = some (.int .i64 (wat xs k).v.pr) ∧ w'.cell? ⟨g2, o2 + k * 8 + 6, none⟩ = some (.int .i64 (wat xs k).v.hd) ∧ w'.cell? ⟨g2, o2 + k * 8 + 7, none⟩ = some (.int .u32 ((wat xs k).v.sn : Int)))
          (first | (with_reducible exact x0) | (with_reducible exact x0d) | (with_reducible exact xe))
          (first | (go_at_call 45; (with_reducible refine (CE.out _ D0.out).mono ?_); rintro e we ⟨rfl, BE, xe⟩))
        all_goals (go_wp2_with fail; go_meet; exact ⟨rfl, BE⟩)
      case rest =>
        obtain ⟨rfl, hb0⟩ := hcut
        have HB2 := Lib.hid (HB.out.trans (hb0.out.mono hsz))
        clear hb0 HB x0 x0d D0 xS CE a0 a1 a2 a3 a4 a5 a6 a7 b0 b1 b2 b3 b4 b5 b6 b7
        go_wp2
        go_roundw
        case rel => exact ⟨k + 1, by omega, by go_num, HB2⟩
        case measure => simp [intOf]; omega
    · go_wp2
      go_ret
      exact ⟨rfl, HB.out⟩

set_option maxRecDepth 100000 in
set_option maxHeartbeats 1000000 in
theorem szWarpS_any (A : Option Addr) (n c B : Nat) (xs : List Wc) (l : Int) (w : World) (h : RdW w B A n xs) (hB : B ≤ w.heap.size) (hm : n ≤ maxLen) (hf : ∀ i, i < n → (wat xs i).v.vs.length ≤ maxLen ∧ (wat xs i).v.gs.length ≤ maxLen) (hl : l ≤ 1048576) (h0 : 0 ≤ l) :
    Calls Tryz.prog 14 #[.slice A n c, .int .i64 l] w fun e w' => ∃ r : Int, e = .returned (.int .i64 r) ∧ r ≤ l ∧ (r = -1 ∨ (0 ≤ r ∧ (n : Int) ≤ l ∧ ∀ i, i < n → ((wat xs i).v.vs.length : Int) + (wat xs i).v.gs.length ≤ l)) ∧ Below w.heap.size w w' := by
  have H1 := Lib.hid h
  have HF := Lib.hid hf
  clear h hf
  unfold maxLen at hm
  by_cases hn : (n : Int) ≤ l
  · have hnn : ¬ l - (n : Int) < 0 := by omega
    go_enter Tryz.func14, Tryz.ntmps14
    go_wp2
    go_loopw [1, 5] (fun s i wr => ∃ (k : Nat) (r : Int), k ≤ n ∧ i = .int .i64 k ∧ s = .int .i64 r ∧ 0 ≤ r ∧ r ≤ l ∧ Hid (∀ i, i < k → ((wat xs i).v.vs.length : Int) + (wat xs i).v.gs.length ≤ l) ∧ Hid (Below w.heap.size w wr)) (fun _ i _ => n - (intOf i).toNat)
    case atStart => exact ⟨0, _, Nat.zero_le _, rfl, rfl, by omega, by omega, fun i hi => absurd hi (by omega), Below.refl _ _⟩
    case round =>
      obtain ⟨k, r, hk, rfl, rfl, hr0, hrl, HK, HB⟩ := hrel
      by_cases hlt : k < n
      · obtain ⟨g1, o1, rfl, hg1, q1⟩ := H1.out.at8 hlt
        obtain ⟨a0, a1, a2, a3, a4, a5, a6, a7⟩ := q1.below (HB.out.mono hB) hg1
        have hfk := HF.out k hlt
        have hf1 := hfk.1
        have hf2 := hfk.2
        clear q1 hfk
        by_cases hy : ((wat xs k).v.vs.length : Int) + (wat xs k).v.gs.length ≤ r
        · have HS := Lib.hid (fun W => szWarp_yes (wat xs k).v.kd (wat xs k).A (wat xs k).v.vs.length (wat xs k).c (wat xs k).B (wat xs k).v.gs.length (wat xs k).d (wat xs k).v.td (wat xs k).v.ph (wat xs k).v.pr (wat xs k).v.hd (wat xs k).v.sn r W (by omega) hy)
          have hn2 : ¬ r - ((wat xs k).v.vs.length : Int) - ((wat xs k).v.gs.length : Int) < 0 := by omega
          have HKN : Hid (∀ i, i < k + 1 → ((wat xs i).v.vs.length : Int) + (wat xs i).v.gs.length ≤ l) := fun i hi => by
            by_cases e : i = k
            · subst e; omega
            · exact HK.out i (by omega)
          have r1 : 0 ≤ r - ((wat xs k).v.vs.length : Int) - ((wat xs k).v.gs.length : Int) := by omega
          have r2 : r - ((wat xs k).v.vs.length : Int) - ((wat xs k).v.gs.length : Int) ≤ l := by omega
          clear hf1 hf2 HK
          go_wp2_with fail
          refine (HS.out _).mono ?_
          rintro e w2 ⟨rfl, hb⟩
          have HB2 := Lib.hid (HB.out.trans (hb.mono HB.out.size))
          clear hb HB HS a0 a1 a2 a3 a4 a5 a6 a7
          go_wp2
          go_roundw
          case rel => exact ⟨k + 1, _, by omega, by go_num, rfl, r1, r2, HKN, HB2⟩
          case measure => simp [intOf]; omega
        · have HS := Lib.hid (fun W => szWarp_no (wat xs k).v.kd (wat xs k).A (wat xs k).v.vs.length (wat xs k).c (wat xs k).B (wat xs k).v.gs.length (wat xs k).d (wat xs k).v.td (wat xs k).v.ph (wat xs k).v.pr (wat xs k).v.hd (wat xs k).v.sn r W (by omega) (by omega) hf1 hf2 (by omega))
          clear hf1 hf2 hy
          go_wp2_with fail
          refine (HS.out _).mono ?_
          rintro e w2 ⟨rfl, hb⟩
          have HB2 := Lib.hid (HB.out.trans (hb.mono HB.out.size))
          clear hb HB HS a0 a1 a2 a3 a4 a5 a6 a7
          go_wp2
          go_ret
          exact ⟨-1, rfl, by omega, .inl rfl, HB2.out⟩
      · obtain rfl : k = n := by omega
        go_wp2
        go_ret
        exact ⟨r, rfl, hrl, .inr ⟨hr0, hn, HK.out⟩, HB.out⟩
  · have hnn : l - (n : Int) < 0 := by omega
    go_enter Tryz.func14, Tryz.ntmps14
    go_wp2
    go_ret
    exact ⟨-1, rfl, by omega, .inl rfl, Below.refl _ _⟩

end Go.Proofs.YtefcaeldkdbjdaaGreat

namespace Go.Proofs.YtefcaeldkdbjdaaGreat.U
open Go.RowKit

set_option maxHeartbeats 400000 in
theorem szU_any (A : Option Addr) (n c : Nat) (left : Int) (w : World) (hn : n ≤ maxLen) (h0 : 0 ≤ left) (h1 : left ≤ 1048576) :
    Calls Tryz.prog 30 #[.slice A n c, .int .i64 left] w fun e w' => e = .returned (.int .i64 (if left - n < 0 then -1 else left - n)) ∧ w = w' := by
  unfold maxLen at hn
  by_cases h : left - n < 0
  · rw [if_pos h]
    go_enter Tryz.func30, Tryz.ntmps30
    go_wp2
    go_ret
    exact ⟨rfl, rfl⟩
  · rw [if_neg h]
    go_enter Tryz.func30, Tryz.ntmps30
    go_wp2
    go_ret
    exact ⟨rfl, rfl⟩

theorem take_next {z1 z2 : List Int} {k : Nat} (h : z1.take k = z2.take k) (h1 : k < z1.length) (h2 : k < z2.length) (e : z1[k]?.getD 0 = z2[k]?.getD 0) : z1.take (k + 1) = z2.take (k + 1) := by
  simp only [List.getElem?_eq_getElem h1, List.getElem?_eq_getElem h2, Option.getD_some] at e
  rw [List.take_succ_eq_append_getElem h1, List.take_succ_eq_append_getElem h2, h, e]
theorem ne_at {z1 z2 : List Int} {k : Nat} (e : ¬ z1[k]?.getD 0 = z2[k]?.getD 0) : ¬ z1 = z2 := by
  rintro rfl; exact e rfl
theorem eq_all {z1 z2 : List Int} {k : Nat} (h : z1.take k = z2.take k) (h1 : z1.length ≤ k) (h2 : z2.length ≤ k) : z1 = z2 := by
  rwa [List.take_of_length_le h1, List.take_of_length_le h2] at h

set_option maxHeartbeats 400000 in
theorem eqU_any (A1 A2 : Option Addr) (n1 n2 c1 c2 B1 B2 : Nat) (z1 z2 : List Int) (w : World) (h1 : Rd w B1 A1 n1 z1) (h2 : Rd w B2 A2 n2 z2) (m1 : n1 ≤ maxLen) (m2 : n2 ≤ maxLen) :
    Calls Tryz.prog 44 #[.slice A1 n1 c1, .slice A2 n2 c2] w fun e w' => e = .returned (.bool (decide (z1 = z2))) ∧ ∃ k, w' = w.drewN k := by
  unfold maxLen at m1 m2
  by_cases hn : n1 = n2
  · subst hn
    have HL := Lib.hid h1.1
    have HM := Lib.hid h2.1
    have H1 := Lib.hid h1.2
    have H2 := Lib.hid h2.2
    clear h1 h2
    go_enter Tryz.func44, Tryz.ntmps44
    go_wp2
    go_loopw [5] (fun i wr => ∃ k : Nat, k ≤ n1 ∧ i = .int .i64 k ∧ (∃ q, wr = w.drewN q) ∧ Hid (z1.take k = z2.take k)) (fun i _ => n1 - (intOf i).toNat)
    case atStart => exact ⟨0, Nat.zero_le _, rfl, ⟨0, rfl⟩, rfl⟩
    case round =>
      obtain ⟨k, hk, rfl, ⟨q, rfl⟩, HT⟩ := hrel
      by_cases hlt : k < n1
      · obtain ⟨g1, o1, rfl, _, hc1⟩ := H1.out (by omega)
        obtain ⟨g2, o2, rfl, _, hc2⟩ := H2.out (by omega)
        have c1 := hc1 k hlt
        have c2 := hc2 k hlt
        clear hc1 hc2
        by_cases he : z1[k]?.getD 0 = z2[k]?.getD 0
        · have HN := Lib.hid (take_next HT.out (by have := HL.out; omega) (by have := HM.out; omega) he)
          have hb : (z1[k]?.getD 0 != z2[k]?.getD 0) = false := by simp [he]
          have HE := Lib.hid he
          clear he
          go_wp2
          go_quiet (fail)
          go_wp2
          go_roundw
          case rel => exact ⟨k + 1, by omega, by go_num, ⟨_, rfl⟩, HN.out⟩
          case measure => simp [intOf]; omega
        · have HN := Lib.hid (ne_at he)
          have hb : (z1[k]?.getD 0 != z2[k]?.getD 0) = true := by simp [he]
          clear he
          go_wp2
          go_quiet (fail)
          go_wp2
          go_ret
          exact ⟨by simp [HN.out], _, World.drewN_drewN _ _ _⟩
      · have HN := Lib.hid (eq_all HT.out (by have := HL.out; omega) (by have := HM.out; omega))
        go_wp2
        go_ret
        exact ⟨by simp [HN.out], _, rfl⟩
  · have HN : Hid (¬ z1 = z2) := fun e => hn (by rw [← h1.1, ← h2.1, e])
    have hb : ((n1 : Int) != (n2 : Int)) = true := by simp; omega
    clear hn h1 h2
    go_enter Tryz.func44, Tryz.ntmps44
    go_wp2
    go_ret
    exact ⟨by simp [HN.out], 0, rfl⟩

end Go.Proofs.YtefcaeldkdbjdaaGreat.U

namespace Go.Proofs.YtefcaeldkdbjdaaGreat.U
open Go.RowKit

theorem info_u32 : (Tryz.prog.info? 47).map (fun i => (i.zero, i.size, i.bytes)) = some (some (.int .u32 0), 1, 4) := by kernel_rfl

set_option maxHeartbeats 400000 in
theorem szMem_any (A : Option Addr) (n c : Nat) (left : Int) (w : World) (hn : n ≤ maxLen) (h0 : 0 ≤ left) (h1 : left ≤ 1048576) :
    Calls Tryz.prog 13 #[.agg #[.slice A n c], .int .i64 left] w fun e w' => e = .returned (.int .i64 (if left - n < 0 then -1 else left - n)) ∧ Below w.heap.size w w' := by
  by_cases h : left - n < 0
  · have hc := szU_any A n c left (w.alloc (.cells #[.slice A n c] 24)) hn h0 h1
    rw [if_pos h] at hc ⊢
    go_enter Tryz.func13, Tryz.ntmps13
    go_wp2_with fail
    refine hc.mono ?_
    rintro e w' ⟨rfl, rfl⟩
    go_wp2
    go_ret
    exact ⟨rfl, (Below.refl _ _).alloc (Nat.le_refl _) _⟩
  · have hc := szU_any A n c left (w.alloc (.cells #[.slice A n c] 24)) hn h0 h1
    rw [if_neg h] at hc ⊢
    go_enter Tryz.func13, Tryz.ntmps13
    go_wp2_with fail
    refine hc.mono ?_
    rintro e w' ⟨rfl, rfl⟩
    have h' : 0 ≤ left - n := by omega
    go_wp2
    go_ret
    exact ⟨rfl, (Below.refl _ _).alloc (Nat.le_refl _) _⟩

/-- The first k numbers of zs, then zeros. -/
def fillTo (zs : List Int) (n k : Nat) : List Int := zs.take k ++ List.replicate (n - k) 0
theorem fill_len {zs : List Int} {n k : Nat} (hl : zs.length = n) (hk : k ≤ n) : (fillTo zs n k).length = n := by simp [fillTo]; omega
theorem fill_next {zs : List Int} {n k : Nat} (hl : zs.length = n) (hk : k < n) : (fillTo zs n k).set k (zs[k]?.getD 0) = fillTo zs n (k + 1) := by
  have h1 : k < zs.length := by omega
  unfold fillTo
  rw [List.take_succ_eq_append_getElem h1, show n - k = (n - (k + 1)) + 1 from by omega, List.replicate_succ, List.set_append]
  simp only [List.getElem?_eq_getElem h1, Option.getD_some, List.length_take, Nat.min_eq_left (Nat.le_of_lt h1), Nat.lt_irrefl, if_false, Nat.sub_self, List.set_cons_zero, List.append_assoc, List.cons_append, List.nil_append]
theorem fill_all {zs : List Int} {n k : Nat} (hl : zs.length = n) (hk : n ≤ k) : fillTo zs n k = zs := by
  unfold fillTo
  rw [List.take_of_length_le (by omega), show n - k = 0 from by omega]; simp

set_option maxHeartbeats 1000000 in
theorem toU_any (A : Option Addr) (n c B : Nat) (zs : List Int) (w : World) (h : Rd w B A n zs) (hB : B ≤ w.heap.size) (hn : n ≤ 1048576) :
    Calls Tryz.prog 38 #[.slice A n c] w fun e w' => ∃ g, e = .returned (.slice (some ⟨g, 0, none⟩) n n) ∧ Own w' w.heap.size (some ⟨g, 0, none⟩) n n zs ∧ Below w.heap.size w w' := by
  obtain ⟨i0, hi, hz0, hz1, hz2⟩ := info_parts info_u32
  have hb2 : i0.bytes * n ≤ 281474976710656 := by rw [hz2]; omega
  have hb3 : n ≤ maxLen := by unfold maxLen; omega
  have HL := Lib.hid h.1
  have H2 := Lib.hid h.2
  have HI := Lib.hid hi
  have HZ0 := Lib.hid hz0
  have HZ1 := Lib.hid hz1
  clear h hi hz0 hz1 hz2
  go_enter Tryz.func38, Tryz.ntmps38
  go_wp2_with (at_make; refine wpList_make_full _ rfl _ _ 22 rfl w.heap.size 47 i0 (.int .u32 0) 1 Tryz.underlying22 HI.out HZ0.out HZ1.out .i64 .i64 _ _ n rfl rfl rfl rfl hb2 hb3 (Nat.le_refl _) ?_)
  intro w1 hown hgr
  have HO : Hid (Own w1 w.heap.size (some ⟨w.heap.size, 0, none⟩) n n (fillTo zs n 0)) := by
    have := toList_madeCells_one (.int .u32 0) n
    have h3 : w1.ownsRow w.heap.size 47 1 (.slice (some ⟨w.heap.size, 0, none⟩) n n) n (List.replicate n (.int .u32 0)) := this ▸ hown
    show w1.ownsRow _ _ _ _ _ ((fillTo zs n 0).map _)
    simpa [fillTo] using h3
  have HB : Hid (Below w.heap.size w w1) := (Below.refl _ _).grown hgr (Nat.le_refl _) (by simp)
  clear hown hgr
  go_wp2
  go_loopw [4] (fun i wr => ∃ k : Nat, k ≤ n ∧ i = .int .i64 k ∧ Hid (Own wr w.heap.size (some ⟨w.heap.size, 0, none⟩) n n (fillTo zs n k)) ∧ Hid (Below w.heap.size w wr)) (fun i _ => n - (intOf i).toNat)
  case atStart => exact ⟨0, Nat.zero_le _, rfl, HO, HB⟩
  case round =>
    obtain ⟨k, hk, rfl, HOr, HBr⟩ := hrel
    clear HO HB
    by_cases hlt : k < n
    · obtain ⟨g, o, rfl, hg, hc⟩ := H2.out (by omega)
      have c1 : wr.cell? ⟨g, o + k, none⟩ = some (.int .u32 (zs[k]?.getD 0)) := (HBr.out.cell (p := ⟨g, o + k, none⟩) (by show g < _; omega)).trans (hc k hlt)
      have c2 := HOr.out.cell rfl hlt
      have f2 := HOr.out.free rfl k
      have HN : Hid (Own (wr.setCell ⟨w.heap.size, k, none⟩ (.int .u32 (zs[k]?.getD 0))) w.heap.size (some ⟨w.heap.size, 0, none⟩) n n (fillTo zs n (k + 1))) := by
        rw [← fill_next HL.out hlt]; exact HOr.out.store
      have HM : Hid (Below w.heap.size w (wr.setCell ⟨w.heap.size, k, none⟩ (.int .u32 (zs[k]?.getD 0)))) := HBr.out.setCell (Nat.le_refl _) _
      clear hc HOr HBr
      go_wp2
      go_roundw
      case rel => exact ⟨k + 1, by omega, by go_num, HN, HM⟩
      case measure => simp [intOf]; omega
    · go_wp2
      go_ret
      refine ⟨w.heap.size, rfl, ?_, HBr.out⟩
      have := HOr.out
      rwa [fill_all HL.out (by omega)] at this

set_option maxHeartbeats 400000 in
theorem toMem_any (A : Option Addr) (n c B : Nat) (zs : List Int) (w : World) (h : Rd w B A n zs) (hB : B ≤ w.heap.size) (hn : n ≤ 1048576) :
    Calls Tryz.prog 18 #[.agg #[.slice A n c]] w fun e w' => ∃ g, e = .returned (.agg #[.slice (some ⟨g, 0, none⟩) n n]) ∧ Own w' w.heap.size (some ⟨g, 0, none⟩) n n zs ∧ Below w.heap.size w w' := by
  have H := Lib.hid h
  clear h
  go_enter Tryz.func18, Tryz.ntmps18
  go_wp2_with fail
  refine (toU_any A n c B zs _ (((H.out.alloc hB _).alloc (by simp; omega) _).alloc (by simp; omega) _) (by simp; omega) hn).mono ?_
  rintro e w1 ⟨g, rfl, ho, hb⟩
  obtain ⟨k1, k2⟩ := bcell hb
  have hz := hb.size
  simp at hz
  have HO := Lib.hid ho
  have HB := Lib.hid hb
  clear ho hb
  go_wp2
  refine bodyPost_ret (v := .agg #[.slice (some ⟨g, 0, none⟩) n n]) (by simp [results, Tryz.results18, go_sem, k1]) rfl ⟨g, rfl, ?_, (by repeat (first | exact Below.refl _ _ | refine Below.drew ?_ | refine Below.setCell ?_ (by first | omega | (simp; done) | (simp; omega) | (simp [*]; done)) _ | refine Below.alloc ?_ (by first | omega | (simp; done) | (simp; omega) | (simp [*]; done)) _ | refine Below.trans ?_ (Below.mono (HB.out) (by first | omega | (simp; done) | (simp; omega) | (simp [*]; done)))))⟩
  refine Own.from_ (b0 := w.heap.size + 1 + 1 + 1) ?_ (by omega)
  exact Own.low (Own.low (by simpa using HO.out) (by simp) _) (by simp) _

theorem below_drewN {B : Nat} {a w : World} (h : Below B a w) (n : Nat) : Below B a (w.drewN n) := ⟨h.os, h.tape, h.output, h.size, h.block⟩

set_option maxHeartbeats 400000 in
theorem eqMem_any (A1 A2 : Option Addr) (n1 n2 c1 c2 B1 B2 : Nat) (z1 z2 : List Int) (w : World) (h1 : Rd w B1 A1 n1 z1) (h2 : Rd w B2 A2 n2 z2) (l1 : B1 ≤ w.heap.size) (l2 : B2 ≤ w.heap.size) (m1 : n1 ≤ 1048576) (m2 : n2 ≤ 1048576) :
    Calls Tryz.prog 24 #[.agg #[.slice A1 n1 c1], .agg #[.slice A2 n2 c2]] w fun e w' => e = .returned (.bool (decide (z1 = z2))) ∧ Below w.heap.size w w' := by
  have H1 := Lib.hid h1
  have H2 := Lib.hid h2
  clear h1 h2
  by_cases hz : z1 = z2
  all_goals
    have HC := Lib.hid (eqU_any A1 A2 n1 n2 c1 c2 B1 B2 z1 z2 _ (((H1.out.alloc l1 (.cells #[.slice A1 n1 c1] 34)).alloc (by simp; omega) (.cells #[.slice A2 n2 c2] 34))) ((H2.out.alloc l2 _).alloc (by simp; omega) _) (by unfold maxLen; omega) (by unfold maxLen; omega))
    have HZ := Lib.hid hz
    simp only [hz, decide_true, decide_false] at HC ⊢
    clear hz
    go_enter Tryz.func24, Tryz.ntmps24
    go_wp2_with fail
    refine HC.out.mono ?_
    rintro e w1 ⟨rfl, k, rfl⟩
    go_wp2
    go_ret
    exact ⟨rfl, below_drewN (by repeat (first | exact Below.refl _ _ | refine Below.drew ?_ | refine Below.setCell ?_ (by first | omega | (simp; done) | (simp; omega) | (simp [*]; done)) _ | refine Below.alloc ?_ (by first | omega | (simp; done) | (simp; omega) | (simp [*]; done)) _)) _⟩

end Go.Proofs.YtefcaeldkdbjdaaGreat.U

namespace Go.Proofs.YtefcaeldkdbjdaaGreat
open Go.RowKit
set_option linter.unusedVariables false

theorem OwnM.apart {w : World} {b0 n c : Nat} {A : Option Addr} {xs : List Wc} {p : Addr} (h : OwnM w b0 A n c xs) (hp : ∀ q, InM A n c xs q → q ≠ p.block) (u : Value) : OwnM (w.setCell p u) b0 A n c xs :=
  h.kp (Kp.setCell w p u) (fun q hq => hp q (.inl hq)) (fun i hi q hq => hp q (.inr ⟨i, hi, hq⟩))
theorem OwnM.low {w : World} {b0 n c : Nat} {A : Option Addr} {xs : List Wc} {p : Addr} (h : OwnM w b0 A n c xs) (hp : p.block < b0) (u : Value) : OwnM (w.setCell p u) b0 A n c xs := h.apart (fun q hq => by have := h.lt hq; omega) u
theorem OwnM.from_ {w : World} {b0 b1 n c : Nat} {A : Option Addr} {xs : List Wc} (h : OwnM w b0 A n c xs) (hb : b1 ≤ b0) : OwnM w b1 A n c xs :=
  ⟨h.1.from_ hb, fun i hi => ⟨(h.2.1 i hi).1.from_ hb, (h.2.1 i hi).2.from_ hb⟩, h.2.2⟩
theorem OwnM.alloc {w : World} {b0 n c : Nat} {A : Option Addr} {xs : List Wc} (h : OwnM w b0 A n c xs) (o : Obj) : OwnM (w.alloc o) b0 A n c xs := h.below (bel1 w o)

set_option maxRecDepth 100000 in
set_option maxHeartbeats 2000000 in
theorem toMach_any (A : Option Addr) (n c B1 : Nat) (zs : List Int) (B : Option Addr) (m d B2 : Nat) (xs : List Wc) (w : World) (h1 : Rd w B1 A n zs) (hB1 : B1 ≤ w.heap.size) (hn : n ≤ 1048576) (h2 : RdW w B2 B m xs) (hB2 : B2 ≤ w.heap.size) (hm : m ≤ 1048576) (hf : ∀ i, i < m → (wat xs i).v.vs.length ≤ 1048576 ∧ (wat xs i).v.gs.length ≤ 1048576) :
    Calls Tryz.prog 6 #[.agg #[.slice A n c, .slice B m d]] w fun e w' => ∃ g g2 ys, e = .returned (.agg #[.slice (some ⟨g, 0, none⟩) n n, .slice (some ⟨g2, 0, none⟩) m m]) ∧ Own w' w.heap.size (some ⟨g, 0, none⟩) n n zs ∧ OwnM w' (g + 1) (some ⟨g2, 0, none⟩) m m ys ∧ vals8 ys = vals8 xs ∧ Below w.heap.size w w' := by
  have HT : Hid (∀ W, Below w.heap.size w W → Calls Tryz.prog 18 #[.agg #[.slice A n c]] W fun e w' => ∃ g, e = .returned (.agg #[.slice (some ⟨g, 0, none⟩) n n]) ∧ Own w' W.heap.size (some ⟨g, 0, none⟩) n n zs ∧ Below W.heap.size W w') := fun W hb => U.toMem_any A n c B1 zs W (h1.below (hb.mono hB1)) (Nat.le_trans hB1 hb.size) hn
  have HT2 : Hid (∀ W, Below w.heap.size w W → Calls Tryz.prog 19 #[.slice B m d] W fun e w' => ∃ g ys, e = .returned (.slice (some ⟨g, 0, none⟩) m m) ∧ OwnM w' W.heap.size (some ⟨g, 0, none⟩) m m ys ∧ vals8 ys = vals8 xs ∧ Below W.heap.size W w') := fun W hb => toWarpS_any B m d B2 xs W (h2.below (hb.mono hB2)) (Nat.le_trans hB2 hb.size) hm hf
  have HB0 := Lib.hid (bel3 w (.cells #[.slice A n c, .slice B m d] 27) (.cells #[.slice none 0 0, .slice none 0 0] 37) (.cells #[.slice none 0 0, .slice none 0 0] 37))
  clear h1 h2 hf
  go_enter Tryz.func6, Tryz.ntmps6
  go_wp2_with fail
  refine (HT.out _ HB0.out).mono ?_
  rintro e w1 ⟨g, rfl, ho, hb⟩
  obtain ⟨h2, h3, h4, hB1', z1⟩ := nw3 hb
  rw [sz3] at ho
  have hg := (World.ownsRow.lt ho g rfl)
  have O1 := Lib.hid ho
  have B1w := Lib.hid hB1'
  have L3 := Lib.hid h3
  have L4 := Lib.hid h4
  have a0 := blkc h2 0 rfl
  have a1 := blkc h2 1 rfl
  have s0 := blkc h4 0 rfl
  have s1 := blkc h4 1 rfl
  have fs := blkf h4
  obtain ⟨W1, hW1⟩ : ∃ W1, W1 = w1.setCell ⟨w.heap.size + 2, 0, none⟩ (.slice (some ⟨g, 0, none⟩) n n) := ⟨_, rfl⟩
  have sW : W1.heap.size = w1.heap.size := by rw [hW1]; simp
  have BW : Hid (Below w.heap.size w W1) := by rw [hW1]; exact B1w.out.setCell (by simp) _
  have L4c : Hid (W1.heap[w.heap.size + 2]? = some (.cells #[.slice (some ⟨g, 0, none⟩) n n, .slice none 0 0] 37 (0, 0))) := by rw [hW1]; exact Joins.block_setCell L4.out _
  have L3c := Lib.hid (Eq.trans (show W1.heap[w.heap.size + 1]? = w1.heap[w.heap.size + 1]? from by rw [hW1]; exact Below.heap_setCell _ _ _ _ (by simp)) L3.out)
  have OW : Hid (Own W1 (w.heap.size + 3) (some ⟨g, 0, none⟩) n n zs) := by rw [hW1]; exact O1.out.low (by simp) _
  have HW := Lib.hid hW1
  clear ho hb HT h2 h3 h4 hB1' hW1 HB0 O1 B1w L3 L4
  go_wp2_with fail
  clear a0 a1 s0 s1 fs
  rw [← HW.out]
  clear HW
  refine (HT2.out _ BW.out).mono ?_
  rintro e w2 ⟨g2, ys, rfl, ho2, hv, hb⟩
  have z2 := hb.size
  have O2 := Lib.hid ho2
  have HV := Lib.hid hv
  have OA : Hid (Own w2 (w.heap.size + 3) (some ⟨g, 0, none⟩) n n zs) := OW.out.below (hb.mono (by omega))
  have B2w := Lib.hid (BW.out.trans (hb.mono BW.out.size))
  have L3 := Lib.hid ((hb.block _ (by omega)).trans L3c.out)
  have L4 := Lib.hid ((hb.block _ (by omega)).trans L4c.out)
  have s0 := blkc L4.out 0 rfl
  have s1 := blkc L4.out 1 rfl
  have fs := blkf L4.out
  have r0 := blkc L3.out 0 rfl
  have r1 := blkc L3.out 1 rfl
  have fr := blkf L3.out
  clear HT2 hb ho2 hv BW L3c L4c OW L3 L4
  go_wp2
  refine bodyPost_ret (v := .agg #[.slice (some ⟨g, 0, none⟩) n n, .slice (some ⟨g2, 0, none⟩) m m]) (by simp [results, Tryz.results6, go_sem, r0, r1]) rfl ⟨g, g2, ys, rfl, ?_, ?_, HV.out, ?_⟩
  · exact Own.from_ (b0 := w.heap.size + 3) (by repeat' (first | (with_reducible exact OA.out) | (with_reducible refine Own.low ?_ ?_ _) | omega | (simp; done) | (simp; omega))) (by omega)
  · exact OwnM.from_ (b0 := W1.heap.size) (by repeat' (first | (with_reducible exact O2.out) | (with_reducible refine OwnM.low ?_ ?_ _) | omega | (simp; done) | (simp; omega))) (by omega)
  · exact (by repeat' (first | (with_reducible exact B2w.out) | (with_reducible refine Below.setCell ?_ ?_ _) | (with_reducible refine Below.alloc ?_ ?_ _) | omega | (simp; done) | (simp; omega)))

set_option maxRecDepth 100000 in
set_option maxHeartbeats 1000000 in
theorem eqMach_any (A1 A2 : Option Addr) (n c1 c2 : Nat) (B1 B2 : Option Addr) (m d1 d2 Q1 Q2 Q3 Q4 : Nat) (zs : List Int) (xs ys : List Wc) (w : World) (h1 : Rd w Q1 A1 n zs) (h2 : Rd w Q2 A2 n zs) (h3 : RdW w Q3 B1 m xs) (h4 : RdW w Q4 B2 m ys) (hv : vals8 xs = vals8 ys) (q1 : Q1 ≤ w.heap.size) (q2 : Q2 ≤ w.heap.size) (q3 : Q3 ≤ w.heap.size) (q4 : Q4 ≤ w.heap.size)
    (hn : n ≤ 1048576) (hm : m ≤ maxLen) (hf : ∀ i, i < m → (wat xs i).v.vs.length ≤ maxLen ∧ (wat xs i).v.gs.length ≤ maxLen) :
    Calls Tryz.prog 9 #[.agg #[.slice A1 n c1, .slice B1 m d1], .agg #[.slice A2 n c2, .slice B2 m d2]] w fun e w' => e = .returned (.bool true) ∧ Below w.heap.size w w' := by
  have HE : Hid (∀ W, Below w.heap.size w W → Calls Tryz.prog 24 #[.agg #[.slice A1 n c1], .agg #[.slice A2 n c2]] W fun e w' => e = .returned (.bool true) ∧ Below W.heap.size W w') := fun W hb => (U.eqMem_any A1 A2 n n c1 c2 Q1 Q2 zs zs W (h1.below (hb.mono q1)) (h2.below (hb.mono q2)) (Nat.le_trans q1 hb.size) (Nat.le_trans q2 hb.size) hn hn).mono fun e w' ⟨he, hk⟩ => ⟨by rw [he]; simp, hk⟩
  have HE2 : Hid (∀ W, Below w.heap.size w W → Calls Tryz.prog 25 #[.slice B1 m d1, .slice B2 m d2] W fun e w' => e = .returned (.bool true) ∧ Below W.heap.size W w') := fun W hb => eqWarpS_any B1 B2 m d1 d2 Q3 Q4 xs ys W (h3.below (hb.mono q3)) (h4.below (hb.mono q4)) hv (Nat.le_trans q3 hb.size) (Nat.le_trans q4 hb.size) hm hf
  have HB0 := Lib.hid (bel2 w (.cells #[.slice A1 n c1, .slice B1 m d1] 37) (.cells #[.slice A2 n c2, .slice B2 m d2] 37))
  clear h1 h2 h3 h4 hf
  go_enter Tryz.func9, Tryz.ntmps9
  go_wp2_with fail
  refine (HE.out _ HB0.out).mono ?_
  rintro e w1 ⟨rfl, hb⟩
  obtain ⟨h2, h3, hB1', z1⟩ := nw2 hb
  have B1w := Lib.hid hB1'
  have a1 := blkc h2 1 rfl
  have b1 := blkc h3 1 rfl
  clear hb h2 h3 hB1' HE HB0
  go_wp2_with fail
  refine (HE2.out _ B1w.out).mono ?_
  rintro e w2 ⟨rfl, hb⟩
  have B2w := Lib.hid (B1w.out.trans (hb.mono B1w.out.size))
  clear hb HE2 B1w a1 b1
  go_wp2
  go_ret
  exact ⟨rfl, B2w.out⟩

set_option maxHeartbeats 1000000 in
theorem szMach_any (A : Option Addr) (n c : Nat) (B : Option Addr) (m d Q : Nat) (xs : List Wc) (w : World) (hn : n ≤ maxLen) (h : RdW w Q B m xs) (hQ : Q ≤ w.heap.size) (hm : m ≤ maxLen) (hf : ∀ i, i < m → (wat xs i).v.vs.length ≤ maxLen ∧ (wat xs i).v.gs.length ≤ maxLen) :
    Calls Tryz.prog 4 #[.agg #[.slice A n c, .slice B m d], .int .i64 1048576] w fun e w' => ∃ r : Int, e = .returned (.int .i64 r) ∧ (r = -1 ∨ (0 ≤ r ∧ r ≤ 1048576 ∧ n ≤ 1048576 ∧ m ≤ 1048576 ∧ ∀ i, i < m → (wat xs i).v.vs.length ≤ 1048576 ∧ (wat xs i).v.gs.length ≤ 1048576)) ∧ Below w.heap.size w w' := by
  have HS := Lib.hid (fun W => U.szMem_any A n c 1048576 W hn (by omega) (by omega))
  have HB0 := Lib.hid (bel1 w (.cells #[.slice A n c, .slice B m d] 27))
  by_cases h0 : (1048576 : Int) - n < 0
  · simp only [if_pos h0] at HS
    clear h hf h0
    go_enter Tryz.func4, Tryz.ntmps4
    go_wp2_with fail
    refine (HS.out _).mono ?_
    rintro e w1 ⟨rfl, hb⟩
    have B1 := Lib.hid (HB0.out.trans (hb.mono HB0.out.size))
    clear hb
    go_wp2
    go_ret
    exact ⟨-1, rfl, .inl rfl, B1.out⟩
  · simp only [if_neg h0] at HS
    have HW : Hid (∀ W, Below w.heap.size w W → Calls Tryz.prog 14 #[.slice B m d, .int .i64 (1048576 - (n : Int))] W fun e w' => ∃ r : Int, e = .returned (.int .i64 r) ∧ r ≤ 1048576 - (n : Int) ∧ (r = -1 ∨ (0 ≤ r ∧ (m : Int) ≤ 1048576 - (n : Int) ∧ ∀ i, i < m → ((wat xs i).v.vs.length : Int) + (wat xs i).v.gs.length ≤ 1048576 - (n : Int))) ∧ Below W.heap.size W w') := fun W hb => szWarpS_any B m d Q xs (1048576 - (n : Int)) W (h.below (hb.mono hQ)) (Nat.le_trans hQ hb.size) hm hf (by omega) (by omega)
    clear h hf
    go_enter Tryz.func4, Tryz.ntmps4
    go_wp2_with fail
    refine (HS.out _).mono ?_
    rintro e w1 ⟨rfl, hb⟩
    obtain ⟨h2, hB1, z1⟩ := nw1 hb
    have B1 := Lib.hid hB1
    have a1 := blkc h2 1 rfl
    clear hb h2 hB1 HS HB0
    go_wp2_with fail
    refine (HW.out _ B1.out).mono ?_
    rintro e w2 ⟨r, rfl, hr, hor, hb⟩
    have B2 := Lib.hid (B1.out.trans (hb.mono B1.out.size))
    have HO := Lib.hid hor
    clear hb HW B1 a1 hor
    by_cases hz : r < 0
    · have HR : Hid (r = -1) := by rcases HO.out with e | ⟨e, _⟩; (exact e); omega
      go_wp2
      go_ret
      exact ⟨-1, rfl, .inl rfl, B2.out⟩
    · go_wp2
      go_ret
      refine ⟨r, rfl, .inr ?_, B2.out⟩
      rcases HO.out with e | ⟨e, e2, e3⟩
      · omega
      · exact ⟨e, by omega, by omega, by omega, fun i hi => by have := e3 i hi; omega⟩

end Go.Proofs.YtefcaeldkdbjdaaGreat

namespace Go.Proofs.YtefcaeldkdbjdaaGreat
open Go.RowKit
set_option linter.unusedVariables false

theorem marksF_len (q : Int) (n : Nat) : (marksF q n).length = n := by simp [marksF]
/-- A warp whose numbers are all marked, from q on. -/
def mkW (q : Int) (x : Wc) : Wc :=
  { x with v := ⟨q, marksF (q + 1) x.v.vs.length, marksF (q + 1 + (x.v.vs.length : Int)) x.v.gs.length, (q + 1 + (x.v.vs.length : Int) + (x.v.gs.length : Int)).toNat, q + 1 + (x.v.vs.length : Int) + (x.v.gs.length : Int) + 1, q + 1 + (x.v.vs.length : Int) + (x.v.gs.length : Int) + 1 + 1, q + 1 + (x.v.vs.length : Int) + (x.v.gs.length : Int) + 1 + 1 + 1, (q + 1 + (x.v.vs.length : Int) + (x.v.gs.length : Int) + 1 + 1 + 1 + 1).toNat⟩ }
/-- Where the marks of the k-th warp begin. -/
def posK (q : Int) (xs : List Wc) : Nat → Int
  | 0 => q
  | k + 1 => posK q xs k + 1 + ((wat xs k).v.vs.length : Int) + ((wat xs k).v.gs.length : Int) + 1 + 1 + 1 + 1 + 1
theorem posK_ge (q : Int) (xs : List Wc) : ∀ k, q ≤ posK q xs k
  | 0 => Int.le_refl _
  | k + 1 => by have := posK_ge q xs k; simp only [posK]; omega
theorem posK_mono (q : Int) (xs : List Wc) {j k : Nat} (h : j ≤ k) : posK q xs j ≤ posK q xs k := by
  induction k with
  | zero => obtain rfl : j = 0 := by omega
            exact Int.le_refl _
  | succ k ih =>
    rcases Nat.lt_or_ge j (k + 1) with h1 | h1
    · have := ih (by omega); simp only [posK]; omega
    · obtain rfl : j = k + 1 := by omega
      exact Int.le_refl _
/-- The list whose first k warps are marked. -/
def mkL (q : Int) (xs : List Wc) (k : Nat) : List Wc := (List.range xs.length).map (fun i => if i < k then mkW (posK q xs i) (wat xs i) else wat xs i)
theorem mkL_len (q : Int) (xs : List Wc) (k : Nat) : (mkL q xs k).length = xs.length := by simp [mkL]
theorem wat_mkL {q : Int} {xs : List Wc} {k i : Nat} (h : i < xs.length) : wat (mkL q xs k) i = if i < k then mkW (posK q xs i) (wat xs i) else wat xs i := by
  simp [wat, mkL, h]
theorem ext_wat {a b : List Wc} (hl : a.length = b.length) (h : ∀ i, i < a.length → wat a i = wat b i) : a = b := by
  apply List.ext_getElem hl
  intro i h1 h2
  have := h i h1
  simpa [wat, h1, h2] using this
theorem mkL_zero (q : Int) (xs : List Wc) : mkL q xs 0 = xs := ext_wat (mkL_len _ _ _) (fun i hi => by rw [mkL_len] at hi; rw [wat_mkL hi]; simp)
theorem mkL_next {q : Int} {xs : List Wc} {k : Nat} (h : k < xs.length) : (mkL q xs k).set k (mkW (posK q xs k) (wat xs k)) = mkL q xs (k + 1) := by
  refine ext_wat (by simp [mkL_len]) (fun i hi => ?_)
  rw [List.length_set, mkL_len] at hi
  rw [wat_set (by rw [mkL_len]; exact h), wat_mkL hi, wat_mkL hi]
  by_cases e : k = i
  · subst e; simp
  · by_cases e2 : i < k
    · simp [e, e2, show i < k + 1 by omega]
    · simp [e, e2, show ¬ i < k + 1 by omega]
theorem set_same {α : Type} {L : List α} {i : Nat} {v : α} (h : L[i]? = some v) : L.set i v = L := by
  apply List.ext_getElem?
  intro j
  rw [List.getElem?_set]
  by_cases e : i = j
  · subst e
    rw [if_pos rfl, h]
    have := (List.getElem?_eq_some_iff.1 h).1
    simp [this]
  · rw [if_neg e]
/-- Six stores mark one warp's own cells. -/
theorem flatW_mark {q : Int} {xs : List Wc} {k : Nat} (hk : k < xs.length) (h0 : 0 ≤ posK q xs k) :
    (((((((flatW (mkL q xs k)).set (k * 8) (.int .i64 ((posK q xs k)))).set (k * 8 + 3) (.int .u32 ((posK q xs k) + 1 + ((wat xs k).v.vs.length : Int) + ((wat xs k).v.gs.length : Int)))).set (k * 8 + 4) (.int .i64 ((posK q xs k) + 1 + ((wat xs k).v.vs.length : Int) + ((wat xs k).v.gs.length : Int) + 1))).set (k * 8 + 5) (.int .i64 ((posK q xs k) + 1 + ((wat xs k).v.vs.length : Int) + ((wat xs k).v.gs.length : Int) + 1 + 1))).set (k * 8 + 6) (.int .i64 ((posK q xs k) + 1 + ((wat xs k).v.vs.length : Int) + ((wat xs k).v.gs.length : Int) + 1 + 1 + 1))).set (k * 8 + 7) (.int .u32 ((posK q xs k) + 1 + ((wat xs k).v.vs.length : Int) + ((wat xs k).v.gs.length : Int) + 1 + 1 + 1 + 1))) = flatW (mkL q xs (k + 1)) := by
  have hl : k < (mkL q xs k).length := by rw [mkL_len]; exact hk
  have hw : wat (mkL q xs k) k = wat xs k := by rw [wat_mkL hk]; simp
  have e := flatW_set (mkL q xs k) k (mkW (posK q xs k) (wat xs k)) hl
  rw [mkL_next hk] at e
  rw [← e]
  have a1 : ((flatW (mkL q xs k)).set (k * 8) (.int .i64 (posK q xs k)))[k * 8 + 1]? = some (.slice (wat xs k).A (marksF (posK q xs k + 1) (wat xs k).v.vs.length).length (wat xs k).c) := by
    rw [List.getElem?_set_ne (by omega), flatW_at _ k 1 hl (by omega), hw, marksF_len]
    rfl
  have a2 : ((flatW (mkL q xs k)).set (k * 8) (.int .i64 (posK q xs k)))[k * 8 + 2]? = some (.slice (wat xs k).B (marksF (posK q xs k + 1 + ((wat xs k).v.vs.length : Int)) (wat xs k).v.gs.length).length (wat xs k).d) := by
    rw [List.getElem?_set_ne (by omega), flatW_at _ k 2 hl (by omega), hw, marksF_len]
    rfl
  have b1 := set_same a1
  have b2 := set_same a2
  have t1 : ((((posK q xs k) + 1 + ((wat xs k).v.vs.length : Int) + ((wat xs k).v.gs.length : Int)).toNat : Nat) : Int) = (posK q xs k) + 1 + ((wat xs k).v.vs.length : Int) + ((wat xs k).v.gs.length : Int) := by omega
  have t2 : ((((posK q xs k) + 1 + ((wat xs k).v.vs.length : Int) + ((wat xs k).v.gs.length : Int) + 1 + 1 + 1 + 1).toNat : Nat) : Int) = (posK q xs k) + 1 + ((wat xs k).v.vs.length : Int) + ((wat xs k).v.gs.length : Int) + 1 + 1 + 1 + 1 := by omega
  simp only [mkW, t1, t2]
  rw [b1, b2]

theorem cell_kp {r : Nat → Prop} {w w' : World} (K : Kp r w w') {g : Nat} (hr : ¬ r g) (hg : g < w.heap.size) (o : Nat) : w'.cell? ⟨g, o, none⟩ = w.cell? ⟨g, o, none⟩ := by
  have h := K.block g hg hr
  simp [World.cell?, h]

/-- The rows of a list: the first rows of the first ka warps are marked, the second rows of the first kb. -/
def MkIn (w : World) (b0 n : Nat) (q : Int) (xs : List Wc) (ka kb : Nat) : Prop :=
  ∀ i, i < n → OwnK 3 .i64 w b0 (wat xs i).A (wat xs i).v.vs.length (wat xs i).c (if i < ka then marksF (posK q xs i + 1) (wat xs i).v.vs.length else (wat xs i).v.vs) ∧ OwnK 3 .i64 w b0 (wat xs i).B (wat xs i).v.gs.length (wat xs i).d (if i < kb then marksF (posK q xs i + 1 + ((wat xs i).v.vs.length : Int)) (wat xs i).v.gs.length else (wat xs i).v.gs)
theorem MkIn.kp {w w' : World} {b0 n ka kb : Nat} {q : Int} {xs : List Wc} {r : Nat → Prop} (h : MkIn w b0 n q xs ka kb) (K : Kp r w w') (hr : ∀ i, i < n → ∀ p, rowA xs i = some p ∨ rowB xs i = some p → ¬ r p) : MkIn w' b0 n q xs ka kb :=
  fun i hi => ⟨(h i hi).1.kp K (fun p hp => hr i hi p (.inl hp)), (h i hi).2.kp K (fun p hp => hr i hi p (.inr hp))⟩
theorem MkIn.stepA {w w' : World} {b0 n k kb : Nat} {q : Int} {xs : List Wc} {g : Option Nat} (h : MkIn w b0 n q xs k kb) (hk : k < n) (D : Dis g n xs) (hg : w.grownBy w' (rowA xs k)) (ho : OwnK 3 .i64 w' b0 (wat xs k).A (wat xs k).v.vs.length (wat xs k).c (marksF (posK q xs k + 1) (wat xs k).v.vs.length)) : MkIn w' b0 n q xs (k + 1) kb := by
  intro i hi
  have K : Kp (fun p => some p = rowA xs k) w w' := Kp.of_grown hg (fun p hp => hp)
  refine ⟨?_, ?_⟩
  · by_cases e : i = k
    · subst e; simpa using ho
    · have h2 := (h i hi).1.kp K (fun p hp e2 => ((D i hi p).1 hp).2.2 k hk (fun e3 => e e3.symm) e2.symm)
      by_cases e4 : i < k
      · rw [if_pos e4] at h2; rw [if_pos (by omega)]; exact h2
      · rw [if_neg e4] at h2; rw [if_neg (by omega)]; exact h2
  · exact (h i hi).2.kp K (fun p hp e2 => ((D k hk p).1 e2.symm).2.1 i hi hp)
theorem MkIn.stepB {w w' : World} {b0 n k ka : Nat} {q : Int} {xs : List Wc} {g : Option Nat} (h : MkIn w b0 n q xs ka k) (hk : k < n) (D : Dis g n xs) (hg : w.grownBy w' (rowB xs k)) (ho : OwnK 3 .i64 w' b0 (wat xs k).B (wat xs k).v.gs.length (wat xs k).d (marksF (posK q xs k + 1 + ((wat xs k).v.vs.length : Int)) (wat xs k).v.gs.length)) : MkIn w' b0 n q xs ka (k + 1) := by
  intro i hi
  have K : Kp (fun p => some p = rowB xs k) w w' := Kp.of_grown hg (fun p hp => hp)
  refine ⟨?_, ?_⟩
  · exact (h i hi).1.kp K (fun p hp e2 => ((D i hi p).1 hp).2.1 k hk e2.symm)
  · by_cases e : i = k
    · subst e; simpa using ho
    · have h2 := (h i hi).2.kp K (fun p hp e2 => ((D i hi p).2 hp).2 k hk (fun e3 => e e3.symm) e2.symm)
      by_cases e4 : i < k
      · rw [if_pos e4] at h2; rw [if_pos (by omega)]; exact h2
      · rw [if_neg e4] at h2; rw [if_neg (by omega)]; exact h2

set_option maxRecDepth 100000 in
set_option maxHeartbeats 4000000 in
theorem markWarpS_any (A : Option Addr) (n c b0 : Nat) (q : Int) (xs : List Wc) (w : World) (h : OwnM w b0 A n c xs) (hn : n ≤ 2000000) (h0 : 0 ≤ q) (hq : posK q xs n ≤ 50000000) (hf : ∀ i, i < n → (wat xs i).v.vs.length ≤ 2000000 ∧ (wat xs i).v.gs.length ≤ 2000000) :
    Calls Tryz.prog 27 #[.slice A n c, .int .i64 q] w fun e w' => e = .returned (.int .i64 (posK q xs n)) ∧ OwnM w' b0 A n c (mkL q xs n) ∧ Kp (InM A n c xs) w w' := by
  have HL := Lib.hid h.len
  have HD := Lib.hid h.2.2
  have HO : Hid (OwnW w b0 A n c (mkL q xs 0)) := by rw [mkL_zero]; exact h.1
  have HI : Hid (MkIn w b0 n q xs 0 0) := fun i hi => by simpa using h.2.1 i hi
  have HF := Lib.hid hf
  have HQ := Lib.hid hq
  have H0 := Lib.hid h0
  clear h hf hq h0
  go_enter Tryz.func27, Tryz.ntmps27
  go_wp2
  go_loopw [1, 5] (fun s i wr => ∃ k : Nat, k ≤ n ∧ i = .int .i64 k ∧ s = .int .i64 (posK q xs k) ∧ Hid (OwnW wr b0 A n c (mkL q xs k)) ∧ Hid (MkIn wr b0 n q xs k k) ∧ Hid (Kp (InM A n c xs) w wr)) (fun _ i _ => n - (intOf i).toNat)
  case atStart => exact ⟨0, Nat.zero_le _, rfl, rfl, HO, HI, Kp.refl _ _⟩
  case round =>
    obtain ⟨k, hk, rfl, rfl, HOr, HIr, HKr⟩ := hrel
    clear HO HI
    by_cases hlt : k < n
    · obtain ⟨g, hA, hg0, hg1⟩ := HOr.out.form (by omega)
      subst hA
      have hkl : k < xs.length := by rw [HL.out]; exact hlt
      have hp0 : 0 ≤ posK q xs k := Int.le_trans H0.out (posK_ge q xs k)
      have hp1 : posK q xs (k + 1) ≤ 50000000 := Int.le_trans (posK_mono q xs (by omega)) HQ.out
      simp only [posK] at hp1
      have hfk := HF.out k hlt
      have hf1 := hfk.1
      have hf2 := hfk.2
      have hgA : ∀ i, i < n → ∀ p, rowA xs i = some p ∨ rowB xs i = some p → p ≠ g := fun i hi p hp e => by
        obtain ⟨d1, d2⟩ := HD.out i hi p
        rcases hp with hp | hp
        · exact (d1 hp).1 (by rw [e]; rfl)
        · exact (d2 hp).1 (by rw [e]; rfl)
      have e8 := HOr.out.at8 rfl hlt
      rw [wat_mkL hkl] at e8
      simp only [Nat.lt_irrefl, if_false] at e8
      obtain ⟨c0, c1, c2, c3, c4, c5, c6, c7⟩ := e8
      have fr := HOr.out.free rfl
      -- the first store
      have KA : Hid (Kp (fun p => p = g) wr (wr.setCell ⟨g, k * 8, none⟩ (.int .i64 ((posK q xs k))))) := Kp.setCell wr ⟨g, k * 8, none⟩ _
      have RA := Lib.hid (World.ownsRow.stored HOr.out (k * 8) (.int .i64 ((posK q xs k)))).1
      have IA : Hid (MkIn (wr.setCell ⟨g, k * 8, none⟩ (.int .i64 ((posK q xs k)))) b0 n q xs k k) := HIr.out.kp KA.out hgA
      have KK : Hid (Kp (InM (some ⟨g, 0, none⟩) n c xs) w (wr.setCell ⟨g, k * 8, none⟩ (.int .i64 ((posK q xs k))))) := HKr.out.trans (KA.out.mono (fun p hp => .inl (by rw [hp]; rfl)))
      have hoA := (IA.out k hlt).1
      simp only [Nat.lt_irrefl, if_false] at hoA
      have HOA := Lib.hid hoA
      have w1s : (wr.setCell ⟨g, k * 8, none⟩ (.int .i64 ((posK q xs k)))).heap.size = wr.heap.size := by simp
      have wp1 : IntKind.i64.wrap ((posK q xs k) + 1) = (posK q xs k) + 1 := IntWalk.i64_in _ (by omega)
      have d1 : (wr.setCell ⟨g, k * 8, none⟩ (.int .i64 ((posK q xs k)))).cell? ⟨g, k * 8 + 1, none⟩ = some (.slice (wat xs k).A (wat xs k).v.vs.length (wat xs k).c) := (World.cell?_setCell_other _ ⟨g, k * 8, none⟩ ⟨g, k * 8 + 1, none⟩ _ (by intro e; injection e with _ e; omega)).trans c1
      have d2 : (wr.setCell ⟨g, k * 8, none⟩ (.int .i64 ((posK q xs k)))).cell? ⟨g, k * 8 + 2, none⟩ = some (.slice (wat xs k).B (wat xs k).v.gs.length (wat xs k).d) := (World.cell?_setCell_other _ ⟨g, k * 8, none⟩ ⟨g, k * 8 + 2, none⟩ _ (by intro e; injection e with _ e; omega)).trans c2
      clear hoA KA HOr HIr HKr hfk
      go_wp2_with fail
      refine (markF_any _ _ _ b0 ((posK q xs k) + 1) _ _ HOA.out hf1 (by omega) (by omega)).mono ?_
      rintro e w2 ⟨rfl, ho, hg⟩
      have K2 : Hid (Kp (fun p => some p = rowA xs k) (wr.setCell ⟨g, k * 8, none⟩ (.int .i64 ((posK q xs k)))) w2) := Kp.of_grown hg (fun p hp => hp)
      have IB := Lib.hid (IA.out.stepA hlt HD.out hg ho)
      have hgA2 : ¬ some g = rowA xs k := fun e => hgA k hlt g (.inl e.symm) rfl
      have hgB2 : ¬ some g = rowB xs k := fun e => hgA k hlt g (.inr e.symm) rfl
      have RB := Lib.hid (row_kp RA.out K2.out (fun p hp e => hgA2 (by (have e3 : g = p := by simpa [Value.ownBlock] using hp); rw [e3]; exact e)))
      have KK2 : Hid (Kp (InM (some ⟨g, 0, none⟩) n c xs) w w2) := KK.out.trans (K2.out.mono (fun p hp => .inr ⟨k, hlt, .inl hp.symm⟩))
      have z1 : g < (wr.setCell ⟨g, k * 8, none⟩ (.int .i64 ((posK q xs k)))).heap.size := by rw [w1s]; exact hg1
      have z2 : g < w2.heap.size := Nat.lt_of_lt_of_le z1 K2.out.size
      have d2b := (cell_kp K2.out hgA2 z1 (k * 8 + 2)).trans d2
      have hoB := (IB.out k hlt).2
      simp only [Nat.lt_irrefl, if_false] at hoB
      have HOB := Lib.hid hoB
      clear ho hg RA IA KK HOA d1 hoB
      go_wp2_with fail
      refine (markF_any _ _ _ b0 ((posK q xs k) + 1 + ((wat xs k).v.vs.length : Int)) _ _ HOB.out hf2 (by omega) (by omega)).mono ?_
      rintro e w3 ⟨rfl, ho, hg⟩
      have K3 : Hid (Kp (fun p => some p = rowB xs k) w2 w3) := Kp.of_grown hg (fun p hp => hp)
      have IC := Lib.hid (IB.out.stepB hlt HD.out hg ho)
      have RC := Lib.hid (row_kp RB.out K3.out (fun p hp e => hgB2 (by (have e3 : g = p := by simpa [Value.ownBlock] using hp); rw [e3]; exact e)))
      have KK3 : Hid (Kp (InM (some ⟨g, 0, none⟩) n c xs) w w3) := KK2.out.trans (K3.out.mono (fun p hp => .inr ⟨k, hlt, .inr hp.symm⟩))
      have g3 := (cell_kp K3.out hgB2 z2 (k * 8 + 3)).trans ((cell_kp K2.out hgA2 z1 (k * 8 + 3)).trans ((World.cell?_setCell_other _ ⟨g, k * 8, none⟩ ⟨g, k * 8 + 3, none⟩ _ (by intro e; injection e with _ e; omega)).trans c3))
      have g4 := (cell_kp K3.out hgB2 z2 (k * 8 + 4)).trans ((cell_kp K2.out hgA2 z1 (k * 8 + 4)).trans ((World.cell?_setCell_other _ ⟨g, k * 8, none⟩ ⟨g, k * 8 + 4, none⟩ _ (by intro e; injection e with _ e; omega)).trans c4))
      have g5 := (cell_kp K3.out hgB2 z2 (k * 8 + 5)).trans ((cell_kp K2.out hgA2 z1 (k * 8 + 5)).trans ((World.cell?_setCell_other _ ⟨g, k * 8, none⟩ ⟨g, k * 8 + 5, none⟩ _ (by intro e; injection e with _ e; omega)).trans c5))
      have g6 := (cell_kp K3.out hgB2 z2 (k * 8 + 6)).trans ((cell_kp K2.out hgA2 z1 (k * 8 + 6)).trans ((World.cell?_setCell_other _ ⟨g, k * 8, none⟩ ⟨g, k * 8 + 6, none⟩ _ (by intro e; injection e with _ e; omega)).trans c6))
      have g7 := (cell_kp K3.out hgB2 z2 (k * 8 + 7)).trans ((cell_kp K2.out hgA2 z1 (k * 8 + 7)).trans ((World.cell?_setCell_other _ ⟨g, k * 8, none⟩ ⟨g, k * 8 + 7, none⟩ _ (by intro e; injection e with _ e; omega)).trans c7))
      have fg : ∀ i, w3.frozen? ⟨g, i, none⟩ = false := fun i => World.ownsRow.frozenAt RC.out i
      have HN : Hid (OwnW (((((w3.setCell ⟨g, k * 8 + 3, none⟩ (.int .u32 ((posK q xs k) + 1 + ((wat xs k).v.vs.length : Int) + ((wat xs k).v.gs.length : Int)))).setCell ⟨g, k * 8 + 4, none⟩ (.int .i64 ((posK q xs k) + 1 + ((wat xs k).v.vs.length : Int) + ((wat xs k).v.gs.length : Int) + 1))).setCell ⟨g, k * 8 + 5, none⟩ (.int .i64 ((posK q xs k) + 1 + ((wat xs k).v.vs.length : Int) + ((wat xs k).v.gs.length : Int) + 1 + 1))).setCell ⟨g, k * 8 + 6, none⟩ (.int .i64 ((posK q xs k) + 1 + ((wat xs k).v.vs.length : Int) + ((wat xs k).v.gs.length : Int) + 1 + 1 + 1))).setCell ⟨g, k * 8 + 7, none⟩ (.int .u32 ((posK q xs k) + 1 + ((wat xs k).v.vs.length : Int) + ((wat xs k).v.gs.length : Int) + 1 + 1 + 1 + 1))) b0 (some ⟨g, 0, none⟩) n c (mkL q xs (k + 1))) := by
        have h5 := (World.ownsRow.stored (World.ownsRow.stored (World.ownsRow.stored (World.ownsRow.stored (World.ownsRow.stored RC.out (k * 8 + 3) (.int .u32 ((posK q xs k) + 1 + ((wat xs k).v.vs.length : Int) + ((wat xs k).v.gs.length : Int)))).1 (k * 8 + 4) (.int .i64 ((posK q xs k) + 1 + ((wat xs k).v.vs.length : Int) + ((wat xs k).v.gs.length : Int) + 1))).1 (k * 8 + 5) (.int .i64 ((posK q xs k) + 1 + ((wat xs k).v.vs.length : Int) + ((wat xs k).v.gs.length : Int) + 1 + 1))).1 (k * 8 + 6) (.int .i64 ((posK q xs k) + 1 + ((wat xs k).v.vs.length : Int) + ((wat xs k).v.gs.length : Int) + 1 + 1 + 1))).1 (k * 8 + 7) (.int .u32 ((posK q xs k) + 1 + ((wat xs k).v.vs.length : Int) + ((wat xs k).v.gs.length : Int) + 1 + 1 + 1 + 1))).1
        rw [flatW_mark hkl hp0] at h5
        exact h5
      have K5 : Hid (Kp (fun p => p = g) w3 (((((w3.setCell ⟨g, k * 8 + 3, none⟩ (.int .u32 ((posK q xs k) + 1 + ((wat xs k).v.vs.length : Int) + ((wat xs k).v.gs.length : Int)))).setCell ⟨g, k * 8 + 4, none⟩ (.int .i64 ((posK q xs k) + 1 + ((wat xs k).v.vs.length : Int) + ((wat xs k).v.gs.length : Int) + 1))).setCell ⟨g, k * 8 + 5, none⟩ (.int .i64 ((posK q xs k) + 1 + ((wat xs k).v.vs.length : Int) + ((wat xs k).v.gs.length : Int) + 1 + 1))).setCell ⟨g, k * 8 + 6, none⟩ (.int .i64 ((posK q xs k) + 1 + ((wat xs k).v.vs.length : Int) + ((wat xs k).v.gs.length : Int) + 1 + 1 + 1))).setCell ⟨g, k * 8 + 7, none⟩ (.int .u32 ((posK q xs k) + 1 + ((wat xs k).v.vs.length : Int) + ((wat xs k).v.gs.length : Int) + 1 + 1 + 1 + 1)))) := ((((Kp.setCell w3 ⟨g, k * 8 + 3, none⟩ _).trans (Kp.setCell _ ⟨g, k * 8 + 4, none⟩ _)).trans (Kp.setCell _ ⟨g, k * 8 + 5, none⟩ _)).trans (Kp.setCell _ ⟨g, k * 8 + 6, none⟩ _)).trans (Kp.setCell _ ⟨g, k * 8 + 7, none⟩ _)
      have IN : Hid (MkIn (((((w3.setCell ⟨g, k * 8 + 3, none⟩ (.int .u32 ((posK q xs k) + 1 + ((wat xs k).v.vs.length : Int) + ((wat xs k).v.gs.length : Int)))).setCell ⟨g, k * 8 + 4, none⟩ (.int .i64 ((posK q xs k) + 1 + ((wat xs k).v.vs.length : Int) + ((wat xs k).v.gs.length : Int) + 1))).setCell ⟨g, k * 8 + 5, none⟩ (.int .i64 ((posK q xs k) + 1 + ((wat xs k).v.vs.length : Int) + ((wat xs k).v.gs.length : Int) + 1 + 1))).setCell ⟨g, k * 8 + 6, none⟩ (.int .i64 ((posK q xs k) + 1 + ((wat xs k).v.vs.length : Int) + ((wat xs k).v.gs.length : Int) + 1 + 1 + 1))).setCell ⟨g, k * 8 + 7, none⟩ (.int .u32 ((posK q xs k) + 1 + ((wat xs k).v.vs.length : Int) + ((wat xs k).v.gs.length : Int) + 1 + 1 + 1 + 1))) b0 n q xs (k + 1) (k + 1)) := IC.out.kp K5.out hgA
      have KN : Hid (Kp (InM (some ⟨g, 0, none⟩) n c xs) w (((((w3.setCell ⟨g, k * 8 + 3, none⟩ (.int .u32 ((posK q xs k) + 1 + ((wat xs k).v.vs.length : Int) + ((wat xs k).v.gs.length : Int)))).setCell ⟨g, k * 8 + 4, none⟩ (.int .i64 ((posK q xs k) + 1 + ((wat xs k).v.vs.length : Int) + ((wat xs k).v.gs.length : Int) + 1))).setCell ⟨g, k * 8 + 5, none⟩ (.int .i64 ((posK q xs k) + 1 + ((wat xs k).v.vs.length : Int) + ((wat xs k).v.gs.length : Int) + 1 + 1))).setCell ⟨g, k * 8 + 6, none⟩ (.int .i64 ((posK q xs k) + 1 + ((wat xs k).v.vs.length : Int) + ((wat xs k).v.gs.length : Int) + 1 + 1 + 1))).setCell ⟨g, k * 8 + 7, none⟩ (.int .u32 ((posK q xs k) + 1 + ((wat xs k).v.vs.length : Int) + ((wat xs k).v.gs.length : Int) + 1 + 1 + 1 + 1)))) := KK3.out.trans (K5.out.mono (fun p hp => .inl (by rw [hp]; rfl)))
      have wp4 : IntKind.i64.wrap ((posK q xs k) + 1 + ((wat xs k).v.vs.length : Int) + ((wat xs k).v.gs.length : Int) + 1) = (posK q xs k) + 1 + ((wat xs k).v.vs.length : Int) + ((wat xs k).v.gs.length : Int) + 1 := IntWalk.i64_in _ (by omega)
      have wp5 : IntKind.i64.wrap ((posK q xs k) + 1 + ((wat xs k).v.vs.length : Int) + ((wat xs k).v.gs.length : Int) + 1 + 1) = (posK q xs k) + 1 + ((wat xs k).v.vs.length : Int) + ((wat xs k).v.gs.length : Int) + 1 + 1 := IntWalk.i64_in _ (by omega)
      have wp6 : IntKind.i64.wrap ((posK q xs k) + 1 + ((wat xs k).v.vs.length : Int) + ((wat xs k).v.gs.length : Int) + 1 + 1 + 1) = (posK q xs k) + 1 + ((wat xs k).v.vs.length : Int) + ((wat xs k).v.gs.length : Int) + 1 + 1 + 1 := IntWalk.i64_in _ (by omega)
      have wp7 : IntKind.i64.wrap ((posK q xs k) + 1 + ((wat xs k).v.vs.length : Int) + ((wat xs k).v.gs.length : Int) + 1 + 1 + 1 + 1) = (posK q xs k) + 1 + ((wat xs k).v.vs.length : Int) + ((wat xs k).v.gs.length : Int) + 1 + 1 + 1 + 1 := IntWalk.i64_in _ (by omega)
      have wp8 : IntKind.i64.wrap ((posK q xs k) + 1 + ((wat xs k).v.vs.length : Int) + ((wat xs k).v.gs.length : Int) + 1 + 1 + 1 + 1 + 1) = (posK q xs k) + 1 + ((wat xs k).v.vs.length : Int) + ((wat xs k).v.gs.length : Int) + 1 + 1 + 1 + 1 + 1 := IntWalk.i64_in _ (by omega)
      have wu3 : IntKind.u32.wrap ((posK q xs k) + 1 + ((wat xs k).v.vs.length : Int) + ((wat xs k).v.gs.length : Int)) = (posK q xs k) + 1 + ((wat xs k).v.vs.length : Int) + ((wat xs k).v.gs.length : Int) := IntWalk.u32_in _ (by omega)
      have wu7 : IntKind.u32.wrap ((posK q xs k) + 1 + ((wat xs k).v.vs.length : Int) + ((wat xs k).v.gs.length : Int) + 1 + 1 + 1 + 1) = (posK q xs k) + 1 + ((wat xs k).v.vs.length : Int) + ((wat xs k).v.gs.length : Int) + 1 + 1 + 1 + 1 := IntWalk.u32_in _ (by omega)
      clear ho hg RB IB KK2 K2 K3 d2 d2b c0 c1 c2 c3 c4 c5 c6 c7 RC IC KK3 K5 HOB fr
      go_wp2
      go_roundw
      case rel => exact ⟨k + 1, by omega, by go_num, rfl, HN, IN, KN⟩
      case measure => simp [intOf]; omega
    · obtain rfl : k = n := by omega
      go_wp2
      go_ret
      refine ⟨rfl, ⟨HOr.out, fun i hi => ?_, fun i hi p => ?_⟩, HKr.out⟩
      · have hil : i < xs.length := by rw [HL.out]; exact hi
        have h2 := HIr.out i hi
        rw [if_pos hi, if_pos hi] at h2
        rw [wat_mkL hil, if_pos hi]
        simpa [mkW, marksF_len] using h2
      · have hr : ∀ j, j < k → rowA (mkL q xs k) j = rowA xs j ∧ rowB (mkL q xs k) j = rowB xs j := fun j hj => by
          have hjl : j < xs.length := by rw [HL.out]; exact hj
          unfold rowA rowB
          rw [wat_mkL hjl, if_pos hj]
          simp [mkW, marksF_len]
        obtain ⟨d1, d2⟩ := HD.out i hi p
        rw [(hr i hi).1, (hr i hi).2]
        refine ⟨fun hp => ?_, fun hp => ?_⟩
        · obtain ⟨x1, x2, x3⟩ := d1 hp
          exact ⟨x1, fun j hj => by rw [(hr j hj).2]; exact x2 j hj, fun j hj hne => by rw [(hr j hj).1]; exact x3 j hj hne⟩
        · obtain ⟨x1, x2⟩ := d2 hp
          exact ⟨x1, fun j hj hne => by rw [(hr j hj).2]; exact x2 j hj hne⟩

end Go.Proofs.YtefcaeldkdbjdaaGreat


namespace Go.Proofs.YtefcaeldkdbjdaaGreat.U

end Go.Proofs.YtefcaeldkdbjdaaGreat.U


namespace Go.Proofs.YtefcaeldkdbjdaaGreat.U
open Go.RowKit Go.MuLone

theorem lock_there {w : World} {b g k : Nat} {x : Value} (c0 : w.cell? ⟨b, 0, none⟩ = some (.int .i32 0)) (hg : g ≠ b) :
    ((w.setCell ⟨b, 0, none⟩ (.int .i32 1)).setCell ⟨g, k, none⟩ x).cell? ⟨b, 0, none⟩ = some (.int .i32 1) :=
  (World.cell?_setCell_other _ ⟨g, k, none⟩ ⟨b, 0, none⟩ _ (fun e => hg (by injection e))).trans (World.cell?_setCell_same w ⟨b, 0, none⟩ (.int .i32 1) c0)

theorem below_back {w : World} {b b0 g k : Nat} {x : Value} (hb : b0 ≤ b) (hg : b0 ≤ g) :
    Below b0 w (((w.setCell ⟨b, 0, none⟩ (.int .i32 1)).setCell ⟨g, k, none⟩ x).setCell ⟨b, 0, none⟩ (.int .i32 0)) :=
  (((Below.refl _ _).setCell hb _).setCell hg _).setCell hb _
theorem below_back0 {w : World} {b b0 : Nat} (hb : b0 ≤ b) :
    Below b0 w ((w.setCell ⟨b, 0, none⟩ (.int .i32 1)).setCell ⟨b, 0, none⟩ (.int .i32 0)) :=
  ((Below.refl _ _).setCell hb _).setCell hb _


end Go.Proofs.YtefcaeldkdbjdaaGreat.U


namespace Go.Proofs.YtefcaeldkdbjdaaGreat.U
open Go.RowKit


section
variable {P : Program} (w : World)

theorem zeroCells_one (z : Value) (n : Nat) : Builtin.zeroCells #[z] n = (List.replicate n z).toArray := by
  apply Array.ext'
  simp only [Builtin.zeroCells, List.size_toArray, List.length_cons, List.length_nil, Nat.mul_one, Array.toList_map, Array.toList_range, Nat.zero_add]
  apply List.ext_getElem
  · simp
  · intro i h1 h2
    simp [Nat.mod_one]

theorem run_append_zeros (base : Nat) (t k ty e : TypeId) (i : TypeInfo) (ht : P.underlying t = some (.slice e)) (hk : P.underlying k = some (.int .i64)) (hi : P.info? e = some i) (hz : i.zero = some (.int .u32 0))
    (hsize : i.size = 1) (hby : i.bytes = 4)
    (v : Value) (n : Nat) (xs : List Value) (hown : w.ownsRow base e 1 v n xs) (m : Nat) (hsm : n + m ≤ 100000) (hbase : base ≤ w.heap.size) :
    ∃ v' w', (Builtin.append_ #[t, k] ty #[v, .int .i64 m]).run P w = .ok v' w' ∧ w'.ownsRow base e 1 v' (n + m) (xs ++ List.replicate m (.int .u32 0)) ∧ w.grownBy w' v.ownBlock := by
  have hwr : IntKind.i64.wrap (m : Int) = (m : Int) := IntWalk.i64_in _ (by omega)
  have hneg : ¬ ((m : Int) < 0) := by omega
  have hbig : ¬ (281474976710656 < (m : Int) * 4) := by omega
  have hlen : (xs ++ List.replicate m (Value.int .u32 0)).length = (n + m) * 1 := by rw [List.length_append, hown.1, List.length_replicate]; omega
  have h63 : n + m ≤ maxLen := by unfold maxLen; omega
  have grown : ∀ (old : Nat), ∀ (row : Option Nat),
      (w.drew.alloc (.cells (xs.toArray ++ (List.replicate m (Value.int .u32 0)).toArray ++ Builtin.zeroCells #[.int .u32 0] (grownCap w (n + m) old e - (n + m))) e)).ownsRow base e 1
        (.slice (some ⟨w.heap.size, 0, none⟩) (n + m) (grownCap w (n + m) old e)) (n + m) (xs ++ List.replicate m (.int .u32 0)) ∧
      w.grownBy (w.drew.alloc (.cells (xs.toArray ++ (List.replicate m (Value.int .u32 0)).toArray ++ Builtin.zeroCells #[.int .u32 0] (grownCap w (n + m) old e - (n + m))) e)) row := by
    intro old row
    have hge := grownCap_ge w (n + m) old e
    have hcm : grownCap w (n + m) old e ≤ maxLen := grownCap_le_maxLen w (n + m) old e h63
    refine ⟨⟨hlen, .inr ⟨w.heap.size, _, _, rfl, hbase, _root_.Go.heap_alloc_new w.drew _, hge, hcm, ?_, ?_⟩⟩, ⟨rfl, rfl, rfl, by simp, fun k hk _ => Below.heap_alloc w.drew _ k hk⟩⟩
    · simp only [Array.size_append, List.size_toArray, size_zeroCells, hown.1, List.length_replicate, List.length_cons, List.length_nil]
      omega
    · simp only [Array.toList_append, List.append_assoc]
      rw [← List.append_assoc, ← hlen]
      exact List.take_left
  have has : ∀ W : World, (asInt (.int .i64 (m : Int))).run P W = .ok (m : Int) W := fun W => by simp [asInt, asIntOf]
  rcases hown.2 with ⟨rfl, rfl⟩ | ⟨g, cap, cur, rfl, hbg, hg, hnc, hcm, hcs, htake⟩
  · have hx : xs = [] := List.eq_nil_of_length_eq_zero (by simpa using hown.1)
    subst hx
    by_cases hm : m = 0
    · subst hm
      refine ⟨.slice none 0 0, w, ?_, World.ownsRow_nil w base e 1, ⟨rfl, rfl, rfl, Nat.le_refl _, fun _ _ _ => rfl⟩⟩
      simp only [Int.natCast_zero] at has hwr
      simp [Builtin.append_, run_underlying ht, run_underlying hk, sizeOf, typeInfo, hi, hby, has, hwr]
    · have hgr := grown 0 (Value.ownBlock (.slice none 0 0))
      simp only [Nat.zero_add, List.nil_append, Array.empty_append] at hgr ⊢
      refine ⟨_, _, ?_, hgr.1, hgr.2⟩
      have h48' : ¬ (281474976710656 < Builtin.nextslicecap m 0 * 4) := by rw [nextslicecap_zero (by omega)]; omega
      have h63' : ¬ (9223372036854775807 < (m : Int)) := by omega
      simp [Builtin.append_, run_underlying ht, run_underlying hk, sizeOf, typeInfo, zeroValue, hi, hz, hsize, hby, has, hwr, hneg, hbig, hm, h63', h48', Question.forced, run_firstCells_none, newRow, grownCap, zeroCells_one, Value.cells]
  · by_cases hroom : n + m ≤ cap
    · by_cases hm : m = 0
      · subst hm
        simp only [Int.natCast_zero] at has hwr
        refine ⟨.slice (some ⟨g, 0, none⟩) n cap, w, ?_, by simpa using hown, ⟨rfl, rfl, rfl, Nat.le_refl _, fun _ _ _ => rfl⟩⟩
        have hr : n ≤ cap := by omega
        simp [Builtin.append_, run_underlying ht, run_underlying hk, sizeOf, typeInfo, hi, hby, has, hwr, hr, storeCells]
      · have hst := run_storeCells_at P g n e (List.replicate m (.int .u32 0)) 0 cur w hg (by simp; omega) (by simp [Value.oneCell'])
        simp only [Nat.add_zero] at hst
        have hadd : (⟨g, 0, none⟩ : Addr).add n = ⟨g, n, none⟩ := by unfold Addr.add; split <;> simp_all
        refine ⟨.slice (some ⟨g, 0, none⟩) (n + m) cap, w.setRow g (cur.toList.take n ++ List.replicate m (Value.int .u32 0) ++ cur.toList.drop (n + (List.replicate m (Value.int .u32 0)).length)).toArray, ?_, ⟨hlen, .inr ⟨g, cap, _, rfl, hbg, setRow_heap w g cur _ e _ hg, hroom, hcm, ?_, ?_⟩⟩, ⟨rfl, rfl, rfl, by simp, fun k _ hk => setRow_other w g k _ (fun e => hk (by simp [Value.ownBlock, e]))⟩⟩
        · simp [Builtin.append_, run_underlying ht, run_underlying hk, sizeOf, typeInfo, zeroValue, hi, hz, hsize, hby, has, hwr, hneg, hbig, hm, hroom, zeroCells_one, Value.cells, hadd, hst]
        · simp only [List.size_toArray, List.length_append, List.length_take, List.length_drop, Array.length_toList, List.length_replicate]
          omega
        · rw [Nat.mul_one] at htake
          rw [htake, ← hlen]
          exact List.take_left
    · have holds : ∀ j u, xs[j]? = some u → w.cell? ((⟨g, 0, none⟩ : Addr).add j) = some u := hown.cells (g := g) rfl
      have hgr := grown cap (Value.ownBlock (.slice (some ⟨g, 0, none⟩) n cap))
      refine ⟨_, _, ?_, hgr.1, hgr.2⟩
      have h48' : ¬ (281474976710656 < Builtin.nextslicecap (n + m) cap * 4) := by have := growslice_fits (bytes := 4) (show cap < n + m by omega) (by omega); omega
      have h63' : ¬ (9223372036854775807 < ((n : Int) + (m : Int))) := by omega
      have hm : m ≠ 0 := by omega
      have hfo := run_firstCells_some (P := P) w.drew 1 n ⟨g, 0, none⟩ n cap xs hown.1 (by simpa using holds)
      simp [Builtin.append_, run_underlying ht, run_underlying hk, sizeOf, typeInfo, zeroValue, hi, hz, hsize, hby, has, hwr, hneg, hbig, hm, hroom, h63', h48', Question.forced, hfo, newRow, grownCap, zeroCells_one, Value.cells]

theorem wpList_append_zeros {ops : Array Oper} {rest : List Oper} {o : Oper} {a : Act} {Q : Exit → Act → World → Prop} (hgd : o.guard = none) (s x : Operand) (t k : TypeId)
    (ho : o.op = .call { callee := .builtin .append, args := #[s, x], argTypes := #[t, k] })
    (base : Nat) (e : TypeId) (i : TypeInfo) (ht : P.underlying t = some (.slice e)) (hk : P.underlying k = some (.int .i64)) (hi : P.info? e = some i) (hz : i.zero = some (.int .u32 0)) (hsize : i.size = 1) (hby : i.bytes = 4)
    (v : Value) (n : Nat) (xs : List Value) (hs : a.eval s = v) (hown : w.ownsRow base e 1 v n xs) (m : Nat) (hx : a.eval x = .int .i64 m) (hsm : n + m ≤ 100000) (hbase : base ≤ w.heap.size)
    (h : ∀ v' w', w'.ownsRow base e 1 v' (n + m) (xs ++ List.replicate m (.int .u32 0)) → w.grownBy w' v.ownBlock → wpList P ops Q rest (a.put o.dst v') w') : wpList P ops Q (o :: rest) a w := by
  refine wpList_plain hgd fun K hK => ?_
  obtain ⟨v', w', hr, h2, h3⟩ := run_append_zeros (P := P) w base t k o.type e i ht hk hi hz hsize hby v n xs hown m hsm hbase
  unfold Oper.wp execOp
  simp only [ho, resolve, invoke, builtin, Sem.run_bind, Sem.run_pure, Result.andThen_ok, List.map_toArray, List.map_cons, List.map_nil, hs, hx, hr]
  exact hK _ _ (h v' w' h2 h3)
end

end Go.Proofs.YtefcaeldkdbjdaaGreat.U


namespace Go.Proofs.YtefcaeldkdbjdaaGreat.U
open Go.RowKit Go.MuLone


theorem info_size_u32 : (Tryz.prog.info? 47).map (·.size) = some 1 := by kernel_rfl

/-- The block of an own slice whose capacity is its length, written out. -/
theorem _root_.Go.Proofs.YtefcaeldkdbjdaaGreat.Own.block {w : World} {b0 g n : Nat} {zs : List Int} (h : Own w b0 (some ⟨g, 0, none⟩) n n zs) : b0 ≤ g ∧ w.heap[g]? = some (.cells (zs.map (Value.int .u32)).toArray 47 (0, 0)) := by
  rcases h.2 with ⟨h', _⟩ | ⟨g', cap, cur, hv, hb, hh, _, _, hs, ht⟩
  · simp at h'
  · obtain ⟨rfl, rfl⟩ : g = g' ∧ n = cap := by injection hv with h1 h2 h3; injection h1 with h1; injection h1 with h1; exact ⟨h1, h3⟩
    refine ⟨hb, ?_⟩
    rw [List.take_of_length_le (by rw [Array.length_toList, hs]; exact Nat.le_refl _)] at ht
    rw [hh, ← ht]
theorem _root_.Go.Proofs.YtefcaeldkdbjdaaGreat.Own.of_block {w : World} {b0 g n : Nat} {zs : List Int} (hb : b0 ≤ g) (hl : zs.length = n) (hn : n ≤ maxLen) (h : w.heap[g]? = some (.cells (zs.map (Value.int .u32)).toArray 47 (0, 0))) : Own w b0 (some ⟨g, 0, none⟩) n n zs :=
  ⟨by simp [hl], .inr ⟨g, n, _, rfl, hb, h, Nat.le_refl _, hn, by simp [hl], by rw [List.take_of_length_le (by simp [hl])]⟩⟩

theorem wpList_copy_all {w : World} {ops : Array Oper} {rest : List Oper} {o : Oper} {a : Act} {Q : Exit → Act → World → Prop} (hgd : o.guard = none) (d s : Operand)
    (ho : o.op = .call { callee := .builtin .copy, args := #[d, s], argTypes := #[22, 22] })
    (g n c B b0 : Nat) (A : Option Addr) (ys zs : List Int) (hd : a.eval d = .slice (some ⟨g, 0, none⟩) n n) (hs : a.eval s = .slice A n c) (hn : n ≤ maxLen)
    (hO : Own w b0 (some ⟨g, 0, none⟩) n n ys) (hR : Rd w B A n zs)
    (h : ∀ w', Hid (Own w' b0 (some ⟨g, 0, none⟩) n n zs) → Hid (Below g w w') → wpList Tryz.prog ops Q rest (a.put o.dst (goInt n)) w') : wpList Tryz.prog ops Q (o :: rest) a w := by
  have hl := hO.len
  have hz := hR.1
  obtain ⟨hb, hh⟩ := hO.block
  refine wpList_copy_splice hgd d s 22 22 ho 47 Tryz.underlying22 info_size_u32 _ _ n n n c hd hs g 0 (ys.map (Value.int .u32)) 47 hh (zs.map (Value.int .u32)) (by simp [hz]) ?_ (by simp [hz, hl]) (ints_oneCell _ _) g w (Below.refl _ _) (Nat.le_refl _) ?_
  · intro hp
    obtain ⟨g1, o1, rfl, _, hc⟩ := hR.2 (by simpa [hz] using hp)
    refine ⟨rfl, _, rfl, fun j v hj => ?_⟩
    have hlt : j < n := by
      have := (List.getElem?_eq_some_iff.1 hj).1
      simpa [hz] using this
    have e : v = .int .u32 (zs[j]?.getD 0) := by
      have hj' : j < zs.length := by omega
      simp [hj'] at hj ⊢
      exact hj.symm
    rw [e, ← hc j hlt]
    congr 1
    unfold Addr.add; split <;> simp_all
  · intro w' hw hbw
    have e : splice (ys.map (Value.int .u32)) 0 (zs.map (Value.int .u32)) = zs.map (Value.int .u32) := by
      unfold splice
      rw [List.drop_eq_nil_of_le (by simp [hz, hl])]; simp
    have hw' := hw.out
    rw [e] at hw'
    have := h w' (Own.of_block hb hz hn hw') hbw
    simpa [hz] using this

/-- Is there a word at this index of a valid memory of n words? -/
def HasW (n : Nat) (at_ : Int) : Prop := n ≤ 64 ∧ 0 ≤ at_ ∧ at_ < n


end Go.Proofs.YtefcaeldkdbjdaaGreat.U


namespace Go.Proofs.YtefcaeldkdbjdaaGreat.U
open Go.RowKit


theorem run_append_none (w : World) (ty : TypeId) (b0 : Nat) (v : Value) (n c : Nat) (xs : List Value) (h : w.ownsRow b0 47 1 v n xs) :
    (Builtin.append_ #[22, 22] ty #[v, .slice none 0 c]).run Tryz.prog w = .ok v w := by
  obtain ⟨i0, hi, hz0, hz1, hz2⟩ := info_parts info_u32
  rcases h.2 with ⟨rfl, rfl⟩ | ⟨g, cap, cur, rfl, _, _, hnc, _⟩
  · simp [Builtin.append_, run_underlying Tryz.underlying22, sizeOf, typeInfo, hi, Builtin.lenOf, Builtin.firstCells]
  · simp [Builtin.append_, run_underlying Tryz.underlying22, sizeOf, typeInfo, hi, Builtin.lenOf, Builtin.firstCells, hnc, storeCells]

theorem own_shape {w : World} {b0 n : Nat} {v : Value} {zs : List Int} (h : w.ownsRow b0 47 1 v n (zs.map (Value.int .u32))) : ∃ A c, v = .slice A n c ∧ Own w b0 A n c zs := by
  rcases h.2 with ⟨rfl, rfl⟩ | ⟨g, cap, cur, rfl, r⟩
  · exact ⟨_, _, rfl, h⟩
  · exact ⟨_, _, rfl, h⟩

set_option maxRecDepth 100000 in
theorem run_append_rd (w : World) (ty : TypeId) (b0 B n m c : Nat) (v : Value) (A : Option Addr) (ys zs : List Int) (hO : w.ownsRow b0 47 1 v n (ys.map (Value.int .u32))) (hR : Rd w B A m zs) (hnm : n + m ≤ 10000000) (hb : b0 ≤ w.heap.size) :
    ∃ A' c' w', (Builtin.append_ #[22, 22] ty #[v, .slice A m c]).run Tryz.prog w = .ok (.slice A' (n + m) c') w' ∧ Own w' b0 A' (n + m) c' (ys ++ zs) ∧ Below b0 w w' ∧ w.grownBy w' v.ownBlock := by
  obtain ⟨i0, hi, hz0, hz1, hz2⟩ := info_parts info_u32
  rcases A with _ | ad
  · have hm : m = 0 := by
      rcases Nat.eq_zero_or_pos m with h0 | h0
      · exact h0
      · obtain ⟨g, o, e, _⟩ := hR.2 h0
        cases e
    subst hm
    have hz : zs = [] := List.eq_nil_of_length_eq_zero hR.1
    subst hz
    obtain ⟨A', c', rfl, hO'⟩ := own_shape hO
    exact ⟨A', c', w, run_append_none w ty b0 _ n c _ hO, by simpa using hO', Below.refl _ _, ⟨rfl, rfl, rfl, Nat.le_refl _, fun _ _ _ => rfl⟩⟩
  · have hcells : ∀ j u, (zs.map (Value.int .u32))[j]? = some u → w.cell? (ad.add j) = some u := by
      intro j u hj
      have hlt : j < zs.length := by
        have := (List.getElem?_eq_some_iff.1 hj).1
        simpa using this
      obtain ⟨g, o, e, _, hc⟩ := hR.2 (by have := hR.1; omega)
      injection e with e
      subst e
      have e2 : u = .int .u32 (zs[j]?.getD 0) := by
        simp [hlt] at hj ⊢
        exact hj.symm
      rw [e2, ← hc j (by have := hR.1; omega)]
      congr 1
      unfold Addr.add; split <;> simp_all
    obtain ⟨v', w', hrun, h2, h3, _, h5⟩ := run_append_own_at (P := Tryz.prog) w b0 22 ty 47 i0 (.int .u32 0) 1 4 Tryz.underlying22 hi hz0 hz1 hz2 rfl (by omega) v n _ hO ad m c (zs.map (Value.int .u32)) (by simp [hR.1]) hcells (ints_oneCell _ _) (by unfold maxLen; omega) (by omega) hb
    rw [← List.map_append] at h2
    obtain ⟨A', c', rfl, hO'⟩ := own_shape h2
    exact ⟨A', c', w', hrun, hO', (Below.refl _ _).grown h3 hb (fun k hk => (World.ownsRow.lt hO k hk).1), h3⟩

theorem wpList_append_fresh {w : World} {ops : Array Oper} {rest : List Oper} {o : Oper} {a : Act} {Q : Exit → Act → World → Prop} (hgd : o.guard = none) (s x : Operand)
    (ho : o.op = .call { callee := .builtin .append, args := #[s, x], argTypes := #[22, 22] })
    (b0 B m c c0 : Nat) (A0 A : Option Addr) (zs : List Int) (hs : a.eval s = .slice A0 0 c0) (hx : a.eval x = .slice A m c) (hO : Own w b0 A0 0 c0 []) (hR : Rd w B A m zs) (hm : m ≤ 10000000) (hb : b0 ≤ w.heap.size)
    (h : ∀ A' c' w', Hid (Own w' b0 A' m c' zs) → Hid (Below b0 w w') → wpList Tryz.prog ops Q rest (a.put o.dst (.slice A' m c')) w') : wpList Tryz.prog ops Q (o :: rest) a w := by
  refine wpList_plain hgd fun K hK => ?_
  obtain ⟨A', c', w', hr, h2, h3, _⟩ := run_append_rd w o.type b0 B 0 m c (.slice A0 0 c0) A [] zs hO hR (by omega) hb
  rw [Nat.zero_add, List.nil_append] at *
  unfold Oper.wp execOp
  simp only [ho, resolve, invoke, builtin, Sem.run_bind, Sem.run_pure, Result.andThen_ok, List.map_toArray, List.map_cons, List.map_nil, hs, hx, hr]
  exact hK _ _ (h A' c' w' h2 h3)


end Go.Proofs.YtefcaeldkdbjdaaGreat.U


namespace Go.Proofs.YtefcaeldkdbjdaaGreat.U
open Go.RowKit Go.MuLone

theorem later_free {w w' : World} {b o B : Nat} (hb : Below B w w') (h : w.frozen? ⟨b, o, none⟩ = false) (hl : b < B) : w'.frozen? ⟨b, o, none⟩ = false :=
  (hb.frozen (p := ⟨b, o, none⟩) hl).trans h
theorem older_free {w : World} {b o : Nat} (h : w.frozen? ⟨b, o, none⟩ = false) (hl : b < w.heap.size) (ob : Obj) : (w.alloc ob).frozen? ⟨b, o, none⟩ = false :=
  (World.frozen?_of_block (w := w) (a := ⟨b, o, none⟩) (Below.heap_alloc w ob b hl)).trans h
theorem later_at {w w' : World} {b o B : Nat} {v : Value} (hb : Below B w w') (h : w.cell? ⟨b, o, none⟩ = some v) (hl : b < B) : w'.cell? ⟨b, o, none⟩ = some v :=
  (hb.cell (p := ⟨b, o, none⟩) hl).trans h

/-- May a memory of n words grow by k? -/
def CanG (n : Nat) (k : Int) : Prop := n ≤ 64 ∧ 0 ≤ k ∧ k ≤ 64 - (n : Int)


end Go.Proofs.YtefcaeldkdbjdaaGreat.U


namespace Go.Proofs.YtefcaeldkdbjdaaGreat.U
open Go.RowKit


/-- 1, 2, .. in the first k places, then as it was. -/
def markTo (zs : List Int) (k : Nat) : List Int := (List.range k).map (fun i : Nat => 1 + (i : Int)) ++ zs.drop k
/-- 1, 2, .., n. -/
def marks (n : Nat) : List Int := (List.range n).map (fun i : Nat => 1 + (i : Int))
theorem mark_next {zs : List Int} {k : Nat} (h : k < zs.length) : (markTo zs k).set k (1 + (k : Int)) = markTo zs (k + 1) := by
  unfold markTo
  rw [List.range_succ, List.map_append, List.drop_eq_getElem_cons h, List.set_append]
  simp
  rw [List.drop_eq_getElem_cons h]
  rfl
theorem mark_all {zs : List Int} {k n : Nat} (h : zs.length = n) (hk : n ≤ k) (hk' : k ≤ n) : markTo zs k = marks n := by
  obtain rfl : k = n := by omega
  unfold markTo marks
  rw [List.drop_eq_nil_of_le (by omega)]; simp
theorem marks_at {n k : Nat} (h : k < n) : (marks n)[k]?.getD 0 = 1 + (k : Int) := by simp [marks, h]
theorem marks_len (n : Nat) : (marks n).length = n := by simp [marks]

theorem grown_far {w w' : World} {row : Option Nat} {b o : Nat} {v : Value} (hg : w.grownBy w' row) (h : w.cell? ⟨b, o, none⟩ = some v) (hne : some b ≠ row) : w'.cell? ⟨b, o, none⟩ = some v := hg.cell h hne

set_option maxHeartbeats 1000000 in
theorem markU_any (g n c b0 : Nat) (zs : List Int) (w : World) (h : Own w b0 (some ⟨g, 0, none⟩) n c zs) (hn : n ≤ 1048640) :
    Calls Tryz.prog 46 #[.slice (some ⟨g, 0, none⟩) n c, .int .i64 1] w fun e w' => e = .returned (.int .i64 (1 + n)) ∧ Own w' b0 (some ⟨g, 0, none⟩) n c (marks n) ∧ w.grownBy w' (some g) := by
  have H := Lib.hid h
  have HL := Lib.hid h.len
  clear h
  go_enter Tryz.func46, Tryz.ntmps46
  go_wp2
  go_loopw [1, 5] (fun q i wr => ∃ k : Nat, k ≤ n ∧ i = .int .i64 k ∧ q = .int .i64 (1 + k) ∧ Hid (Own wr b0 (some ⟨g, 0, none⟩) n c (markTo zs k)) ∧ Hid (w.grownBy wr (some g))) (fun _ i _ => n - (intOf i).toNat)
  case atStart => exact ⟨0, Nat.zero_le _, rfl, rfl, by simpa [markTo] using H, World.grownBy.refl _ _⟩
  case round =>
    obtain ⟨k, hk, rfl, rfl, HO, HG⟩ := hrel
    by_cases hlt : k < n
    · have c2 := HO.out.cell rfl hlt
      have f2 := HO.out.free rfl k
      have HN : Hid (Own (wr.setCell ⟨g, k, none⟩ (.int .u32 (1 + (k : Int)))) b0 (some ⟨g, 0, none⟩) n c (markTo zs (k + 1))) := by
        rw [← mark_next (by have := HL.out; omega)]; exact HO.out.store
      have HM : Hid (w.grownBy (wr.setCell ⟨g, k, none⟩ (.int .u32 (1 + (k : Int)))) (some g)) :=
        ⟨HG.out.os, HG.out.tape, HG.out.output, by simpa [World.setCell] using HG.out.size, fun i hi hne => (Below.heap_setCell wr ⟨g, k, none⟩ _ i (fun e => hne (by simp [e]))).trans (HG.out.block i hi hne)⟩
      clear HO HG
      go_wp2
      go_roundw
      case rel => exact ⟨k + 1, by omega, by go_num, by go_num, HN, HM⟩
      case measure => simp [intOf]; omega
    · go_wp2
      go_ret
      have e := mark_all HL.out (show n ≤ k by omega) hk
      refine ⟨?_, by rw [← e]; exact HO.out, HG.out⟩
      have : k = n := by omega
      rw [this]
      rfl

/-- Nothing has turned but the row of this slice, and what is new. -/
theorem markU_zero (w : World) : Calls Tryz.prog 46 #[.slice none 0 0, .int .i64 1] w fun e w' => e = .returned (.int .i64 1) ∧ w = w' := by
  go_enter Tryz.func46, Tryz.ntmps46
  go_wp2
  refine wp_loop_rounds 1 ?_
  rw [rounds_succ]
  go_wp2
  go_ret
  exact ⟨rfl, rfl⟩

set_option maxHeartbeats 1000000 in
theorem markMem_any (A : Option Addr) (n c b0 : Nat) (zs : List Int) (w : World) (h : Own w b0 A n c zs) (hn : n ≤ 1048640) :
    Calls Tryz.prog 26 #[.agg #[.slice A n c], .int .i64 1] w fun e w' => e = .returned (.int .i64 (1 + n)) ∧ Own w' b0 A n c (marks n) ∧ w.grownBy w' (Value.slice A n c).ownBlock := by
  have H := Lib.hid h
  clear h
  rcases H.out.2 with ⟨hv, h0⟩ | ⟨g, cap, cur, hv, _⟩
  · injection hv with h1 h2 h3
    subst h1 h2 h3
    go_enter Tryz.func26, Tryz.ntmps26
    go_wp2_with fail
    refine (markU_zero _).mono ?_
    rintro e w1 ⟨rfl, rfl⟩
    go_wp2
    go_ret
    exact ⟨rfl, Own.zero, World.grownBy_alloc _ _ _⟩
  · injection hv with h1 h2 h3
    subst h1 h3
    go_enter Tryz.func26, Tryz.ntmps26
    go_wp2_with fail
    refine (markU_any g n c b0 zs _ (H.out.alloc _) hn).mono ?_
    rintro e w1 ⟨rfl, ho, hg⟩
    have O := Lib.hid ho
    have G := Lib.hid hg
    clear ho hg
    go_wp2
    go_ret
    refine ⟨rfl, O.out, ?_⟩
    exact ⟨G.out.os, G.out.tape, G.out.output, Nat.le_trans (by simp) G.out.size, fun i hi hne => (G.out.block i (by simp; omega) hne).trans (Below.heap_alloc w _ i hi)⟩


end Go.Proofs.YtefcaeldkdbjdaaGreat.U

namespace Go.Proofs.YtefcaeldkdbjdaaGreat
open Go.RowKit
set_option linter.unusedVariables false

/-- The blocks of a machine. -/
def InMach (A : Option Addr) (n c : Nat) (B : Option Addr) (m d : Nat) (xs : List Wc) (k : Nat) : Prop := some k = (Value.slice A n c).ownBlock ∨ InM B m d xs k

set_option maxHeartbeats 2000000 in
theorem markMach_any (A : Option Addr) (n c b0 : Nat) (zs : List Int) (B : Option Addr) (m d b1 : Nat) (xs : List Wc) (w : World) (h1 : Own w b0 A n c zs) (h2 : OwnM w b1 B m d xs) (hne : ∀ p, (Value.slice A n c).ownBlock = some p → ¬ InM B m d xs p)
    (hn : n ≤ 1048576) (hm : m ≤ 2000000) (hq : posK (1 + (n : Int)) xs m ≤ 50000000) (hf : ∀ i, i < m → (wat xs i).v.vs.length ≤ 2000000 ∧ (wat xs i).v.gs.length ≤ 2000000) :
    Calls Tryz.prog 10 #[.agg #[.slice A n c, .slice B m d], .int .i64 1] w fun e w' => e = .returned (.int .i64 (posK (1 + (n : Int)) xs m)) ∧ Own w' b0 A n c (U.marks n) ∧ OwnM w' b1 B m d (mkL (1 + (n : Int)) xs m) ∧ Kp (InMach A n c B m d xs) w w' := by
  have O1 := Lib.hid (h1.alloc (.cells #[.slice A n c, .slice B m d] 37))
  have O2 := Lib.hid (h2.alloc (.cells #[.slice A n c, .slice B m d] 37))
  have hA1 : ∀ p, (Value.slice A n c).ownBlock = some p → p < w.heap.size := fun p hp => (World.ownsRow.lt h1 p hp).2
  have K1 : Hid (Kp (InMach A n c B m d xs) w (w.alloc (.cells #[.slice A n c, .slice B m d] 37))) := Kp.of_below (bel1 _ _)
  have HA : Hid ((w.alloc (.cells #[.slice A n c, .slice B m d] 37)).heap[w.heap.size]? = some (.cells #[.slice A n c, .slice B m d] 37 (0, 0))) := heap_alloc_new w _
  have HN := Lib.hid hne
  clear h1 h2 hne
  go_enter Tryz.func10, Tryz.ntmps10
  go_wp2_with fail
  refine (U.markMem_any A n c b0 zs _ O1.out (by omega)).mono ?_
  rintro e w2 ⟨rfl, ho, hg⟩
  have KM : Hid (Kp (fun k => some k = (Value.slice A n c).ownBlock) (w.alloc (.cells #[.slice A n c, .slice B m d] 37)) w2) := Kp.of_grown hg (fun k hk => hk)
  have O1b := Lib.hid ho
  have O2b : Hid (OwnM w2 b1 B m d xs) := O2.out.kp KM.out (fun p hp e => HN.out p e.symm (.inl hp)) (fun i hi p hp e => HN.out p e.symm (.inr ⟨i, hi, hp⟩))
  have K2 : Hid (Kp (InMach A n c B m d xs) w w2) := K1.out.trans (KM.out.mono (fun p hp => .inl hp))
  have ha := (KM.out.block w.heap.size (by simp) (fun e => by have := hA1 _ e.symm; omega)).trans HA.out
  have a1 := blkc ha 1 rfl
  clear ho hg O1 O2 K1 HA ha hA1 KM
  go_wp2_with fail
  refine (markWarpS_any B m d b1 (1 + (n : Int)) xs w2 O2b.out hm (by omega) hq hf).mono ?_
  rintro e w3 ⟨rfl, ho, hk⟩
  have O2c := Lib.hid ho
  have O1c : Hid (Own w3 b0 A n c (U.marks n)) := row_kp O1b.out hk (fun p hp => HN.out p hp)
  have K3 : Hid (Kp (InMach A n c B m d xs) w w3) := K2.out.trans (hk.mono (fun p hp => .inr hp))
  clear ho hk O1b O2b K2 a1
  go_wp2
  go_ret
  exact ⟨rfl, O1c.out, O2c.out, K3.out⟩

end Go.Proofs.YtefcaeldkdbjdaaGreat

namespace Go.Proofs.YtefcaeldkdbjdaaGreat
open Go.RowKit
set_option linter.unusedVariables false

theorem posK_shift (q : Int) (xs : List Wc) : ∀ k, posK q xs k = q + posK 0 xs k
  | 0 => by simp [posK]
  | k + 1 => by simp only [posK, posK_shift q xs k]; omega

set_option maxRecDepth 100000 in
set_option maxHeartbeats 1000000 in
theorem szWarpSum_any (A : Option Addr) (n c B : Nat) (xs : List Wc) (l : Int) (w : World) (h : RdW w B A n xs) (hB : B ≤ w.heap.size) (hm : n ≤ maxLen) (hf : ∀ i, i < n → (wat xs i).v.vs.length ≤ maxLen ∧ (wat xs i).v.gs.length ≤ maxLen) (hl : l ≤ 1048576) (h0 : 0 ≤ l) :
    Calls Tryz.prog 14 #[.slice A n c, .int .i64 l] w fun e w' => ∃ r : Int, e = .returned (.int .i64 r) ∧ r ≤ l ∧ (r = -1 ∨ (0 ≤ r ∧ (n : Int) ≤ l ∧ posK 0 xs n + r = 5 * (n : Int) + l ∧ ∀ i, i < n → ((wat xs i).v.vs.length : Int) + (wat xs i).v.gs.length ≤ l)) ∧ Below w.heap.size w w' := by
  have H1 := Lib.hid h
  have HF := Lib.hid hf
  clear h hf
  unfold maxLen at hm
  by_cases hn : (n : Int) ≤ l
  · have hnn : ¬ l - (n : Int) < 0 := by omega
    go_enter Tryz.func14, Tryz.ntmps14
    go_wp2
    go_loopw [1, 5] (fun s i wr => ∃ (k : Nat) (r : Int), k ≤ n ∧ i = .int .i64 k ∧ s = .int .i64 r ∧ 0 ≤ r ∧ r ≤ l ∧ Hid (∀ i, i < k → ((wat xs i).v.vs.length : Int) + (wat xs i).v.gs.length ≤ l) ∧ Hid (posK 0 xs k + r = 6 * (k : Int) + l - n) ∧ Hid (Below w.heap.size w wr)) (fun _ i _ => n - (intOf i).toNat)
    case atStart => exact ⟨0, _, Nat.zero_le _, rfl, rfl, by omega, by omega, fun i hi => absurd hi (by omega), (by show _ = _; simp only [posK]; omega), Below.refl _ _⟩
    case round =>
      obtain ⟨k, r, hk, rfl, rfl, hr0, hrl, HK, HP, HB⟩ := hrel
      by_cases hlt : k < n
      · obtain ⟨g1, o1, rfl, hg1, q1⟩ := H1.out.at8 hlt
        obtain ⟨a0, a1, a2, a3, a4, a5, a6, a7⟩ := q1.below (HB.out.mono hB) hg1
        have hfk := HF.out k hlt
        have hf1 := hfk.1
        have hf2 := hfk.2
        clear q1 hfk
        by_cases hy : ((wat xs k).v.vs.length : Int) + (wat xs k).v.gs.length ≤ r
        · have HS := Lib.hid (fun W => szWarp_yes (wat xs k).v.kd (wat xs k).A (wat xs k).v.vs.length (wat xs k).c (wat xs k).B (wat xs k).v.gs.length (wat xs k).d (wat xs k).v.td (wat xs k).v.ph (wat xs k).v.pr (wat xs k).v.hd (wat xs k).v.sn r W (by omega) hy)
          have hn2 : ¬ r - ((wat xs k).v.vs.length : Int) - ((wat xs k).v.gs.length : Int) < 0 := by omega
          have HKN : Hid (∀ i, i < k + 1 → ((wat xs i).v.vs.length : Int) + (wat xs i).v.gs.length ≤ l) := fun i hi => by
            by_cases e : i = k
            · subst e; omega
            · exact HK.out i (by omega)
          have HPN : Hid (posK 0 xs (k + 1) + (r - ((wat xs k).v.vs.length : Int) - ((wat xs k).v.gs.length : Int)) = 6 * ((k + 1 : Nat) : Int) + l - n) := by
            have := HP.out
            show _ = _
            simp only [posK]
            omega
          have r1 : 0 ≤ r - ((wat xs k).v.vs.length : Int) - ((wat xs k).v.gs.length : Int) := by omega
          have r2 : r - ((wat xs k).v.vs.length : Int) - ((wat xs k).v.gs.length : Int) ≤ l := by omega
          clear hf1 hf2 HK HP
          go_wp2_with fail
          refine (HS.out _).mono ?_
          rintro e w2 ⟨rfl, hb⟩
          have HB2 := Lib.hid (HB.out.trans (hb.mono HB.out.size))
          clear hb HB HS a0 a1 a2 a3 a4 a5 a6 a7
          go_wp2
          go_roundw
          case rel => exact ⟨k + 1, _, by omega, by go_num, rfl, r1, r2, HKN, HPN, HB2⟩
          case measure => simp [intOf]; omega
        · have HS := Lib.hid (fun W => szWarp_no (wat xs k).v.kd (wat xs k).A (wat xs k).v.vs.length (wat xs k).c (wat xs k).B (wat xs k).v.gs.length (wat xs k).d (wat xs k).v.td (wat xs k).v.ph (wat xs k).v.pr (wat xs k).v.hd (wat xs k).v.sn r W (by omega) (by omega) hf1 hf2 (by omega))
          clear hf1 hf2 hy HP
          go_wp2_with fail
          refine (HS.out _).mono ?_
          rintro e w2 ⟨rfl, hb⟩
          have HB2 := Lib.hid (HB.out.trans (hb.mono HB.out.size))
          clear hb HB HS a0 a1 a2 a3 a4 a5 a6 a7
          go_wp2
          go_ret
          exact ⟨-1, rfl, by omega, .inl rfl, HB2.out⟩
      · obtain rfl : k = n := by omega
        go_wp2
        go_ret
        exact ⟨r, rfl, hrl, .inr ⟨hr0, hn, by have := HP.out; omega, HK.out⟩, HB.out⟩
  · have hnn : l - (n : Int) < 0 := by omega
    go_enter Tryz.func14, Tryz.ntmps14
    go_wp2
    go_ret
    exact ⟨-1, rfl, by omega, .inl rfl, Below.refl _ _⟩

set_option maxHeartbeats 1000000 in
theorem szMachSum_any (A : Option Addr) (n c : Nat) (B : Option Addr) (m d Q : Nat) (xs : List Wc) (w : World) (hn : n ≤ maxLen) (h : RdW w Q B m xs) (hQ : Q ≤ w.heap.size) (hm : m ≤ maxLen) (hf : ∀ i, i < m → (wat xs i).v.vs.length ≤ maxLen ∧ (wat xs i).v.gs.length ≤ maxLen) :
    Calls Tryz.prog 4 #[.agg #[.slice A n c, .slice B m d], .int .i64 1048576] w fun e w' => ∃ r : Int, e = .returned (.int .i64 r) ∧ (r = -1 ∨ (0 ≤ r ∧ r ≤ 1048576 ∧ n ≤ 1048576 ∧ m ≤ 1048576 ∧ posK (1 + (n : Int)) xs m ≤ 50000000 ∧ ∀ i, i < m → (wat xs i).v.vs.length ≤ 1048576 ∧ (wat xs i).v.gs.length ≤ 1048576)) ∧ Below w.heap.size w w' := by
  have HS := Lib.hid (fun W => U.szMem_any A n c 1048576 W hn (by omega) (by omega))
  have HB0 := Lib.hid (bel1 w (.cells #[.slice A n c, .slice B m d] 27))
  by_cases h0 : (1048576 : Int) - n < 0
  · simp only [if_pos h0] at HS
    clear h hf h0
    go_enter Tryz.func4, Tryz.ntmps4
    go_wp2_with fail
    refine (HS.out _).mono ?_
    rintro e w1 ⟨rfl, hb⟩
    have B1 := Lib.hid (HB0.out.trans (hb.mono HB0.out.size))
    clear hb
    go_wp2
    go_ret
    exact ⟨-1, rfl, .inl rfl, B1.out⟩
  · simp only [if_neg h0] at HS
    have HW : Hid (∀ W, Below w.heap.size w W → Calls Tryz.prog 14 #[.slice B m d, .int .i64 (1048576 - (n : Int))] W fun e w' => ∃ r : Int, e = .returned (.int .i64 r) ∧ r ≤ 1048576 - (n : Int) ∧ (r = -1 ∨ (0 ≤ r ∧ (m : Int) ≤ 1048576 - (n : Int) ∧ posK 0 xs m + r = 5 * (m : Int) + (1048576 - (n : Int)) ∧ ∀ i, i < m → ((wat xs i).v.vs.length : Int) + (wat xs i).v.gs.length ≤ 1048576 - (n : Int))) ∧ Below W.heap.size W w') := fun W hb => szWarpSum_any B m d Q xs (1048576 - (n : Int)) W (h.below (hb.mono hQ)) (Nat.le_trans hQ hb.size) hm hf (by omega) (by omega)
    clear h hf
    go_enter Tryz.func4, Tryz.ntmps4
    go_wp2_with fail
    refine (HS.out _).mono ?_
    rintro e w1 ⟨rfl, hb⟩
    obtain ⟨h2, hB1, z1⟩ := nw1 hb
    have B1 := Lib.hid hB1
    have a1 := blkc h2 1 rfl
    clear hb h2 hB1 HS HB0
    go_wp2_with fail
    refine (HW.out _ B1.out).mono ?_
    rintro e w2 ⟨r, rfl, hr, hor, hb⟩
    have B2 := Lib.hid (B1.out.trans (hb.mono B1.out.size))
    have HO := Lib.hid hor
    clear hb HW B1 a1 hor
    by_cases hz : r < 0
    · have HR : Hid (r = -1) := by rcases HO.out with e | ⟨e, _⟩; (exact e); omega
      go_wp2
      go_ret
      exact ⟨-1, rfl, .inl rfl, B2.out⟩
    · go_wp2
      go_ret
      refine ⟨r, rfl, .inr ?_, B2.out⟩
      rcases HO.out with e | ⟨e, e2, e4, e3⟩
      · omega
      · exact ⟨e, by omega, by omega, by omega, by rw [posK_shift]; omega, fun i hi => by have := e3 i hi; omega⟩

end Go.Proofs.YtefcaeldkdbjdaaGreat

namespace Go.Proofs.YtefcaeldkdbjdaaGreat
open Go.ChangeShapes Go.WideShapes Go.ChangeAt Go.RowKit
set_option linter.unusedVariables false

set_option maxHeartbeats 1000000 in
theorem markReq_any {ty : TypeId} (rk : Int) (D : Option Addr) (o f b0 : Nat) (q : Int) (us : List Int) (w : World) (h : OwnK ty .i64 w b0 D o f us) (ho : o ≤ 2000000) (h0 : 0 ≤ q) (hq : q ≤ 10000000) :
    Calls Tryz.prog 11 #[.agg #[.int .i64 rk, .slice D o f], .int .i64 q] w fun e w' => e = .returned (.int .i64 (q + o)) ∧ OwnK ty .i64 w' b0 D o f (marksF q o) ∧ Kp (In2 (.slice D o f) (.slice D o f)) w w' := by
  have O1 := Lib.hid (h.alloc (.cells #[.int .i64 rk, .slice D o f] 31))
  have K1 : Hid (Kp (In2 (.slice D o f) (.slice D o f)) w (w.alloc (.cells #[.int .i64 rk, .slice D o f] 31))) := Kp.of_below (bel1 _ _)
  clear h
  go_enter Tryz.func11, Tryz.ntmps11
  go_wp2_with fail
  refine (markF_any D o f b0 q us _ O1.out ho h0 (by omega)).mono ?_
  rintro e w2 ⟨rfl, ho, hg⟩
  have O2 := Lib.hid ho
  have K2 : Hid (Kp (In2 (.slice D o f) (.slice D o f)) w w2) := K1.out.trans (Kp.of_grown hg (fun k hk => .inl hk))
  clear ho hg O1 K1
  go_wp2
  go_ret
  exact ⟨rfl, O2.out, K2.out⟩

theorem rdk_alloc {kd : IntKind} {w : World} {A : Option Addr} {n : Nat} {zs : List Int} (h : RdK kd w w.heap.size A n zs) (o : Obj) : RdK kd (w.alloc o) (w.alloc o).heap.size A n zs := by
  have h2 := h.below (bel1 w o)
  exact ⟨h2.1, fun hn => by obtain ⟨g, o', e, hg, hc⟩ := h2.2 hn; exact ⟨g, o', e, by rw [sz1]; omega, hc⟩⟩
theorem rdk_next {kd : IntKind} {w w' : World} {A : Option Addr} {n : Nat} {zs : List Int} (h : RdK kd w w.heap.size A n zs) (hb : Below w.heap.size w w') : RdK kd w' w'.heap.size A n zs := by
  have h2 := h.below hb
  have hs := hb.size
  exact ⟨h2.1, fun hn => by obtain ⟨g, o', e, hg, hc⟩ := h2.2 hn; exact ⟨g, o', e, by omega, hc⟩⟩

theorem nw1d {w w1 : World} {o1 : Obj} (h : Below (w.alloc o1).drew.heap.size (w.alloc o1).drew w1) : w1.heap[w.heap.size]? = some o1 ∧ Below w.heap.size w w1 ∧ w.heap.size < w1.heap.size := nw1 (((Below.refl (w.alloc o1).heap.size (w.alloc o1)).drew).trans h)

/-- Eight stores into a block of eight cells. -/
theorem block_set8 {w : World} {g : Nat} {a0 a1 a2 a3 a4 a5 a6 a7 : Value} {t : TypeId} (h : w.heap[g]? = some (.cells #[a0, a1, a2, a3, a4, a5, a6, a7] t (0, 0))) (c0 c1 c2 c3 c4 c5 c6 c7 : Value) :
    ((((((((w.setCell ⟨g, 0, none⟩ c0).setCell ⟨g, 1, none⟩ c1).setCell ⟨g, 2, none⟩ c2).setCell ⟨g, 3, none⟩ c3).setCell ⟨g, 4, none⟩ c4).setCell ⟨g, 5, none⟩ c5).setCell ⟨g, 6, none⟩ c6).setCell ⟨g, 7, none⟩ c7).heap[g]? = some (.cells #[c0, c1, c2, c3, c4, c5, c6, c7] t (0, 0)) := by
  have h0 : (w.setCell ⟨g, 0, none⟩ c0).heap[g]? = some (.cells #[c0, a1, a2, a3, a4, a5, a6, a7] t (0, 0)) := Joins.block_setCell (i := 0) h c0
  have h1 : ((w.setCell ⟨g, 0, none⟩ c0).setCell ⟨g, 1, none⟩ c1).heap[g]? = some (.cells #[c0, c1, a2, a3, a4, a5, a6, a7] t (0, 0)) := Joins.block_setCell (i := 1) h0 c1
  have h2 : (((w.setCell ⟨g, 0, none⟩ c0).setCell ⟨g, 1, none⟩ c1).setCell ⟨g, 2, none⟩ c2).heap[g]? = some (.cells #[c0, c1, c2, a3, a4, a5, a6, a7] t (0, 0)) := Joins.block_setCell (i := 2) h1 c2
  have h3 : ((((w.setCell ⟨g, 0, none⟩ c0).setCell ⟨g, 1, none⟩ c1).setCell ⟨g, 2, none⟩ c2).setCell ⟨g, 3, none⟩ c3).heap[g]? = some (.cells #[c0, c1, c2, c3, a4, a5, a6, a7] t (0, 0)) := Joins.block_setCell (i := 3) h2 c3
  have h4 : (((((w.setCell ⟨g, 0, none⟩ c0).setCell ⟨g, 1, none⟩ c1).setCell ⟨g, 2, none⟩ c2).setCell ⟨g, 3, none⟩ c3).setCell ⟨g, 4, none⟩ c4).heap[g]? = some (.cells #[c0, c1, c2, c3, c4, a5, a6, a7] t (0, 0)) := Joins.block_setCell (i := 4) h3 c4
  have h5 : ((((((w.setCell ⟨g, 0, none⟩ c0).setCell ⟨g, 1, none⟩ c1).setCell ⟨g, 2, none⟩ c2).setCell ⟨g, 3, none⟩ c3).setCell ⟨g, 4, none⟩ c4).setCell ⟨g, 5, none⟩ c5).heap[g]? = some (.cells #[c0, c1, c2, c3, c4, c5, a6, a7] t (0, 0)) := Joins.block_setCell (i := 5) h4 c5
  have h6 : (((((((w.setCell ⟨g, 0, none⟩ c0).setCell ⟨g, 1, none⟩ c1).setCell ⟨g, 2, none⟩ c2).setCell ⟨g, 3, none⟩ c3).setCell ⟨g, 4, none⟩ c4).setCell ⟨g, 5, none⟩ c5).setCell ⟨g, 6, none⟩ c6).heap[g]? = some (.cells #[c0, c1, c2, c3, c4, c5, c6, a7] t (0, 0)) := Joins.block_setCell (i := 6) h5 c6
  have h7 : ((((((((w.setCell ⟨g, 0, none⟩ c0).setCell ⟨g, 1, none⟩ c1).setCell ⟨g, 2, none⟩ c2).setCell ⟨g, 3, none⟩ c3).setCell ⟨g, 4, none⟩ c4).setCell ⟨g, 5, none⟩ c5).setCell ⟨g, 6, none⟩ c6).setCell ⟨g, 7, none⟩ c7).heap[g]? = some (.cells #[c0, c1, c2, c3, c4, c5, c6, c7] t (0, 0)) := Joins.block_setCell (i := 7) h6 c7
  exact h7

section
variable {w u : World} {E b0 N ca da T : Nat} {Aa Ba : Option Addr} {V G : List Int} {K : Int} {z0 z1 z2 z3 z4 z5 z6 z7 : Value} {r : Bool}
/-- The answer of a submission lies in a variable that was made before the call. -/
theorem sub_set (h : u.heap[E]? = some (.cells #[z0, z1, z2, z3, z4, z5, z6, z7] 49 (0, 0))) (hE : w.heap.size ≤ E) (hE2 : E < b0) (oA : OwnK 3 .i64 u b0 Aa N ca V) (oB : OwnK 3 .i64 u b0 Ba N da G) (oD : ∀ g, (Value.slice Aa N ca).ownBlock = some g → (Value.slice Ba N da).ownBlock ≠ some g) (hb : Below w.heap.size w u) :
    ∃ (bb : Nat) (Ab : Option Addr) (cb : Nat) (Bb : Option Addr) (db : Nat), Value.pointer (some ⟨E, 0, none⟩) = .pointer (some ⟨bb, 0, none⟩) ∧ Value.bool r = .bool r ∧ Hid (((((((((u.setCell ⟨E, 0, none⟩ (.int .i64 K)).setCell ⟨E, 1, none⟩ (.slice Aa N ca)).setCell ⟨E, 2, none⟩ (.slice Ba N da)).setCell ⟨E, 3, none⟩ (.int .u32 (T : Int))).setCell ⟨E, 4, none⟩ (.int .i64 0)).setCell ⟨E, 5, none⟩ (.int .i64 0)).setCell ⟨E, 6, none⟩ (.int .i64 0)).setCell ⟨E, 7, none⟩ (.int .u32 0)).heap[bb]? = some (.cells #[.int .i64 K, .slice Ab N cb, .slice Bb N db, .int .u32 (T : Int), .int .i64 0, .int .i64 0, .int .i64 0, .int .u32 0] 49 (0, 0))) ∧ w.heap.size ≤ bb ∧ bb < ((((((((u.setCell ⟨E, 0, none⟩ (.int .i64 K)).setCell ⟨E, 1, none⟩ (.slice Aa N ca)).setCell ⟨E, 2, none⟩ (.slice Ba N da)).setCell ⟨E, 3, none⟩ (.int .u32 (T : Int))).setCell ⟨E, 4, none⟩ (.int .i64 0)).setCell ⟨E, 5, none⟩ (.int .i64 0)).setCell ⟨E, 6, none⟩ (.int .i64 0)).setCell ⟨E, 7, none⟩ (.int .u32 0)).heap.size ∧ Hid (OwnK 3 .i64 ((((((((u.setCell ⟨E, 0, none⟩ (.int .i64 K)).setCell ⟨E, 1, none⟩ (.slice Aa N ca)).setCell ⟨E, 2, none⟩ (.slice Ba N da)).setCell ⟨E, 3, none⟩ (.int .u32 (T : Int))).setCell ⟨E, 4, none⟩ (.int .i64 0)).setCell ⟨E, 5, none⟩ (.int .i64 0)).setCell ⟨E, 6, none⟩ (.int .i64 0)).setCell ⟨E, 7, none⟩ (.int .u32 0)) w.heap.size Ab N cb V) ∧ Hid (OwnK 3 .i64 ((((((((u.setCell ⟨E, 0, none⟩ (.int .i64 K)).setCell ⟨E, 1, none⟩ (.slice Aa N ca)).setCell ⟨E, 2, none⟩ (.slice Ba N da)).setCell ⟨E, 3, none⟩ (.int .u32 (T : Int))).setCell ⟨E, 4, none⟩ (.int .i64 0)).setCell ⟨E, 5, none⟩ (.int .i64 0)).setCell ⟨E, 6, none⟩ (.int .i64 0)).setCell ⟨E, 7, none⟩ (.int .u32 0)) w.heap.size Bb N db G) ∧ Hid (∀ g, (Value.slice Ab N cb).ownBlock = some g → (Value.slice Bb N db).ownBlock ≠ some g) ∧ Hid (Below w.heap.size w ((((((((u.setCell ⟨E, 0, none⟩ (.int .i64 K)).setCell ⟨E, 1, none⟩ (.slice Aa N ca)).setCell ⟨E, 2, none⟩ (.slice Ba N da)).setCell ⟨E, 3, none⟩ (.int .u32 (T : Int))).setCell ⟨E, 4, none⟩ (.int .i64 0)).setCell ⟨E, 5, none⟩ (.int .i64 0)).setCell ⟨E, 6, none⟩ (.int .i64 0)).setCell ⟨E, 7, none⟩ (.int .u32 0))) := by
  have hlt : E < u.heap.size := (Array.getElem?_eq_some_iff.1 h).1
  have hA : ∀ q, (Value.slice Aa N ca).ownBlock = some q → q ≠ E := fun q hq => by have := World.ownsRow.lt oA q hq; omega
  have hB : ∀ q, (Value.slice Ba N da).ownBlock = some q → q ≠ E := fun q hq => by have := World.ownsRow.lt oB q hq; omega
  refine ⟨E, Aa, ca, Ba, da, rfl, rfl, block_set8 h _ _ _ _ _ _ _ _, hE, by simp; omega, ?_, ?_, oD, ?_⟩
  · exact ((((((((oA.apart (p := ⟨E, 0, none⟩) hA _).apart (p := ⟨E, 1, none⟩) hA _).apart (p := ⟨E, 2, none⟩) hA _).apart (p := ⟨E, 3, none⟩) hA _).apart (p := ⟨E, 4, none⟩) hA _).apart (p := ⟨E, 5, none⟩) hA _).apart (p := ⟨E, 6, none⟩) hA _).apart (p := ⟨E, 7, none⟩) hA _).from_ (by omega)
  · exact ((((((((oB.apart (p := ⟨E, 0, none⟩) hB _).apart (p := ⟨E, 1, none⟩) hB _).apart (p := ⟨E, 2, none⟩) hB _).apart (p := ⟨E, 3, none⟩) hB _).apart (p := ⟨E, 4, none⟩) hB _).apart (p := ⟨E, 5, none⟩) hB _).apart (p := ⟨E, 6, none⟩) hB _).apart (p := ⟨E, 7, none⟩) hB _).from_ (by omega)
  · exact (((((((hb.setCell (p := ⟨E, 0, none⟩) hE _).setCell (p := ⟨E, 1, none⟩) hE _).setCell (p := ⟨E, 2, none⟩) hE _).setCell (p := ⟨E, 3, none⟩) hE _).setCell (p := ⟨E, 4, none⟩) hE _).setCell (p := ⟨E, 5, none⟩) hE _).setCell (p := ⟨E, 6, none⟩) hE _).setCell (p := ⟨E, 7, none⟩) hE _
/-- It lies in a variable that was made behind the call. -/
theorem sub_new (hw : w.heap.size ≤ b0) (oA : OwnK 3 .i64 u b0 Aa N ca V) (oB : OwnK 3 .i64 u b0 Ba N da G) (oD : ∀ g, (Value.slice Aa N ca).ownBlock = some g → (Value.slice Ba N da).ownBlock ≠ some g) (hb : Below w.heap.size w u) :
    ∃ (bb : Nat) (Ab : Option Addr) (cb : Nat) (Bb : Option Addr) (db : Nat), Value.pointer (some ⟨u.heap.size, 0, none⟩) = .pointer (some ⟨bb, 0, none⟩) ∧ Value.bool r = .bool r ∧ Hid ((u.alloc (.cells #[.int .i64 K, .slice Aa N ca, .slice Ba N da, .int .u32 (T : Int), .int .i64 0, .int .i64 0, .int .i64 0, .int .u32 0] 49)).heap[bb]? = some (.cells #[.int .i64 K, .slice Ab N cb, .slice Bb N db, .int .u32 (T : Int), .int .i64 0, .int .i64 0, .int .i64 0, .int .u32 0] 49 (0, 0))) ∧ w.heap.size ≤ bb ∧ bb < (u.alloc (.cells #[.int .i64 K, .slice Aa N ca, .slice Ba N da, .int .u32 (T : Int), .int .i64 0, .int .i64 0, .int .i64 0, .int .u32 0] 49)).heap.size ∧ Hid (OwnK 3 .i64 (u.alloc (.cells #[.int .i64 K, .slice Aa N ca, .slice Ba N da, .int .u32 (T : Int), .int .i64 0, .int .i64 0, .int .i64 0, .int .u32 0] 49)) w.heap.size Ab N cb V) ∧ Hid (OwnK 3 .i64 (u.alloc (.cells #[.int .i64 K, .slice Aa N ca, .slice Ba N da, .int .u32 (T : Int), .int .i64 0, .int .i64 0, .int .i64 0, .int .u32 0] 49)) w.heap.size Bb N db G) ∧ Hid (∀ g, (Value.slice Ab N cb).ownBlock = some g → (Value.slice Bb N db).ownBlock ≠ some g) ∧ Hid (Below w.heap.size w (u.alloc (.cells #[.int .i64 K, .slice Aa N ca, .slice Ba N da, .int .u32 (T : Int), .int .i64 0, .int .i64 0, .int .i64 0, .int .u32 0] 49))) :=
  ⟨u.heap.size, Aa, ca, Ba, da, rfl, rfl, heap_alloc_new _ _, hb.size, by rw [sz1]; omega, (oA.from_ hw).alloc _, (oB.from_ hw).alloc _, oD, hb.alloc hb.size _⟩
end

end Go.Proofs.YtefcaeldkdbjdaaGreat

namespace Go.Proofs.YtefcaeldkdbjdaaGreat
open Go.ChangeShapes Go.WideShapes Go.ChangeAt Go.RowKit
set_option linter.unusedVariables false

theorem lens_sameGA {n : Nat} {xs ys : List Wc} {k : Nat} (hl : xs.length = n) (hl2 : ys.length = n) (hv : vals8 ys = vals8 xs) (h : ∀ i, i < n → (wat xs i).v.vs.length ≤ k ∧ (wat xs i).v.gs.length ≤ k) : ∀ i, i < n → (wat ys i).v.vs.length ≤ k ∧ (wat ys i).v.gs.length ≤ k := fun i hi => by
  rw [wat_v (xs := ys) rfl (by rw [hl2]; exact hi), hv, ← wat_v (xs := xs) rfl (by rw [hl]; exact hi)]
  exact h i hi
theorem posK_sameGA {q : Int} {xs ys : List Wc} {n : Nat} (hl2 : ys.length = n) (hl : xs.length = n) (hv : vals8 ys = vals8 xs) : posK q ys n = posK q xs n := by
  have hh : ∀ k, k ≤ n → posK q ys k = posK q xs k := by
    intro k
    induction k with
    | zero => intro _; rfl
    | succ k ih =>
      intro hk
      have e : (wat ys k).v = (wat xs k).v := by rw [wat_v (xs := ys) rfl (by rw [hl2]; omega), hv, ← wat_v (xs := xs) rfl (by rw [hl]; omega)]
      simp only [posK, ih (by omega), e]
  exact hh n (Nat.le_refl _)
theorem machG_kp {w w' : World} {b b1 N c P d : Nat} {A B : Option Addr} {zs : List Int} {xs : List Wc} {r : Nat → Prop} (h : Own w b A N c zs ∧ OwnM w b1 B P d xs) (k : Kp r w w') (h1 : ∀ q, some q = (Value.slice A N c).ownBlock → ¬ r q) (h2 : ∀ q, (Value.slice B P d).ownBlock = some q → ¬ r q) (h3 : ∀ i, i < P → ∀ q, rowA xs i = some q ∨ rowB xs i = some q → ¬ r q) : Own w' b A N c zs ∧ OwnM w' b1 B P d xs :=
  ⟨row_kp h.1 k (fun q hq => h1 q hq.symm), h.2.kp k h2 h3⟩

set_option maxHeartbeats 1000000 in
theorem heldReq_any (rk : Int) (A : Option Addr) (n c : Nat) (w : World) (h : RdK .i64 w w.heap.size A n (marksF 1 n)) (hn : n ≤ 1000000) :
    Calls Tryz.prog 12 #[.agg #[.int .i64 rk, .slice A n c], .int .i64 1] w fun e w' => e = .returned (.int .i64 (1 + n)) ∧ Below w.heap.size w w' := by
  have HH : Hid (∀ W, Below w.heap.size w W → Calls Tryz.prog 29 #[.slice A n c, .int .i64 1] W fun e w' => e = .returned (.int .i64 (1 + n)) ∧ W = w') := fun W hb => heldF_any A n c _ 1 W (h.below hb) (by omega) (by omega) (by omega)
  have hn0 : ¬ (1 + (n : Int)) < 0 := by omega
  have HB0 := Lib.hid (bel1 w (.cells #[.int .i64 rk, .slice A n c] 31))
  clear h
  go_enter Tryz.func12, Tryz.ntmps12
  go_wp2_with fail
  refine (HH.out _ HB0.out).mono ?_
  rintro e w1 ⟨rfl, rfl⟩
  go_wp2
  go_ret
  exact ⟨rfl, HB0.out⟩

set_option maxRecDepth 100000 in
set_option maxHeartbeats 8000000 in
theorem fnExactGiveAll_all (A : Option Addr) (n c : Nat) (zs : List Int) (B : Option Addr) (m d : Nat) (xs : List Wc) (wi rk : Int) (r : Bool) (N : Nat) (R : List Int) (w : World) (hN : N ≤ 8) (h1 : Rd w w.heap.size A n zs) (hm1 : n ≤ maxLen) (h2 : RdW w w.heap.size B m xs) (hm2 : m ≤ maxLen) (hf : ∀ i, i < m → (wat xs i).v.vs.length ≤ maxLen ∧ (wat xs i).v.gs.length ≤ maxLen)
    (hs : ∀ W g g2 ys, Rd W W.heap.size (some ⟨g, 0, none⟩) n zs → RdW W W.heap.size (some ⟨g2, 0, none⟩) m ys → vals8 ys = vals8 xs → Calls Tryz.prog 5 #[.agg #[.slice (some ⟨g, 0, none⟩) n n, .slice (some ⟨g2, 0, none⟩) m m], .int .i64 wi] W fun e w' => ∃ Ao co, e = .returned (.tuple #[.agg #[.int .i64 rk, .slice Ao N co], .bool r]) ∧ OwnK 3 .i64 w' W.heap.size Ao N co R ∧ Below W.heap.size W w')
    (hi : ∀ W g g2 ys, Rd W W.heap.size (some ⟨g, 0, none⟩) n zs → RdW W W.heap.size (some ⟨g2, 0, none⟩) m ys → vals8 ys = vals8 xs → Calls Tryz.prog 7 #[.agg #[.slice (some ⟨g, 0, none⟩) n n, .slice (some ⟨g2, 0, none⟩) m m], .int .i64 wi] W fun e w' => ∃ Ao co, e = .returned (.tuple #[.agg #[.int .i64 rk, .slice Ao N co], .bool r]) ∧ OwnK 3 .i64 w' W.heap.size Ao N co R ∧ Below W.heap.size W w') :
    Calls Tryz.prog 3 #[.agg #[.slice A n c, .slice B m d], .int .i64 wi] w fun e w' => e = .returned (.bool true) ∧ Below w.heap.size w w' := by
  have HS := Lib.hid hs
  have HI := Lib.hid hi
  have H1 := Lib.hid h1
  have H2 := Lib.hid h2
  have HF := Lib.hid hf
  have hNm : N ≤ maxLen := by unfold maxLen; omega
  have hrr : (r != r) = false := by simp
  have HB0 := Lib.hid (bel1 w (.cells #[.slice A n c, .slice B m d] 27))
  have HZ : Hid (∀ W, Below w.heap.size w W → Calls Tryz.prog 4 #[.agg #[.slice A n c, .slice B m d], .int .i64 1048576] W fun e w' => ∃ r : Int, e = .returned (.int .i64 r) ∧ (r = -1 ∨ (0 ≤ r ∧ r ≤ 1048576 ∧ n ≤ 1048576 ∧ m ≤ 1048576 ∧ posK (1 + (n : Int)) xs m ≤ 50000000 ∧ ∀ i, i < m → (wat xs i).v.vs.length ≤ 1048576 ∧ (wat xs i).v.gs.length ≤ 1048576)) ∧ Below W.heap.size W w') := fun W hb => szMachSum_any A n c B m d w.heap.size xs W hm1 (h2.below hb) hb.size hm2 hf
  clear hs hi h1 h2 hf
  go_enter Tryz.func3, Tryz.ntmps3
  go_wp2_with fail
  refine (HZ.out _ HB0.out).mono ?_
  rintro e w1 ⟨r0, rfl, hr0, hb⟩
  obtain ⟨hA, hB1, z1⟩ := nw1 hb
  have V_w1 := Lib.hid hA
  have B_w1 := Lib.hid hB1
  clear hb hA hB1 HZ HB0
  rcases hr0 with rfl | ⟨p1, p2, p3, p4, p6, p5⟩
  · have hq : (-1 : Int) < 0 := by omega
    go_wp2
    go_ret
    exact ⟨rfl, B_w1.out⟩
  have hq : ¬ r0 < 0 := by omega
  have HP5 := Lib.hid p5
  have HP6 := Lib.hid p6
  have HT : Hid (∀ W, Below w.heap.size w W → Calls Tryz.prog 6 #[.agg #[.slice A n c, .slice B m d]] W fun e w' => ∃ g g2 ys, e = .returned (.agg #[.slice (some ⟨g, 0, none⟩) n n, .slice (some ⟨g2, 0, none⟩) m m]) ∧ Own w' W.heap.size (some ⟨g, 0, none⟩) n n zs ∧ OwnM w' (g + 1) (some ⟨g2, 0, none⟩) m m ys ∧ vals8 ys = vals8 xs ∧ Below W.heap.size W w') := fun W hb => toMach_any A n c w.heap.size zs B m d w.heap.size xs W (H1.out.below hb) hb.size p3 (H2.out.below hb) hb.size p4 p5
  clear p5 p6
  have c_V0 := blkc V_w1.out 0 rfl
  have c_V1 := blkc V_w1.out 1 rfl
  go_wp2_with fail
  clear c_V0 c_V1
  refine (HT.out _ B_w1.out).mono ?_
  rintro e w2 ⟨gS, hS, yS, rfl, ho, hM, hv, hb⟩
  have zw2 := hb.size
  have hk : Kp (fun _ => False) w1 w2 := Kp.of_below hb
  have V_w2 : Hid (w2.heap[w.heap.size]? = some (.cells #[.slice A n c, .slice B m d] 27 (0, 0))) := (hk.block _ (by omega) (fun h => h)).trans V_w1.out
  have B_w2 : Hid (Below w.heap.size w w2) := B_w1.out.trans (hb.mono B_w1.out.size)
  clear B_w1 V_w1
  have YS := Lib.hid hv
  have LS := Lib.hid hM.len
  have tS : w1.heap.size ≤ gS := (World.ownsRow.lt ho _ rfl).1
  have MS_w2 : Hid (Own w2 w1.heap.size (some ⟨gS, 0, none⟩) n n zs ∧ OwnM w2 (gS + 1) (some ⟨hS, 0, none⟩) m m yS) := ⟨ho, hM⟩
  have RMS : Hid (∀ q, InMach (some ⟨gS, 0, none⟩) n n (some ⟨hS, 0, none⟩) m m yS q → w1.heap.size ≤ q ∧ q < w2.heap.size) := fun q hq => by rcases hq with hq | hq; (exact World.ownsRow.lt ho q hq.symm); (have := hM.lt hq; omega)
  have DMS : Hid (∀ p, (Value.slice (some ⟨gS, 0, none⟩) n n).ownBlock = some p → ¬ InM (some ⟨hS, 0, none⟩) m m yS p) := fun p hp hq => by have q := hM.lt hq; have e : gS = p := (by cases hp; rfl); omega
  clear hb hk ho hM hv
  go_wp2_with fail
  refine (HS.out _ _ _ _ MS_w2.out.1.rd MS_w2.out.2.rd YS.out).mono ?_
  rintro e w3 ⟨AS, cS, rfl, ho, hb⟩
  have zw3 := hb.size
  have hk : Kp (fun _ => False) w2 w3 := Kp.of_below hb
  have V_w3 : Hid (w3.heap[w.heap.size]? = some (.cells #[.slice A n c, .slice B m d] 27 (0, 0))) := (hk.block _ (by omega) (fun h => h)).trans V_w2.out
  have MS_w3 : Hid (Own w3 w1.heap.size (some ⟨gS, 0, none⟩) n n zs ∧ OwnM w3 (gS + 1) (some ⟨hS, 0, none⟩) m m yS) := machG_kp MS_w2.out hk (fun _ _ h => h) (fun _ _ h => h) (fun _ _ _ _ h => h)
  have B_w3 : Hid (Below w.heap.size w w3) := B_w2.out.trans (hb.mono B_w2.out.size)
  clear B_w2 V_w2 MS_w2
  have LS_w3 : Hid (OwnK 3 .i64 w3 w2.heap.size AS N cS R) := ho
  have RLS : Hid (∀ q, (Value.slice AS N cS).ownBlock = some q → w2.heap.size ≤ q ∧ q < w3.heap.size) := fun q hq => World.ownsRow.lt ho q hq
  clear hb hk ho
  clear MS_w3
  have hk0 := bel1 w3 (.cells #[.int .i64 rk, .slice AS N cS] 31)
  have hk : Kp (fun _ => False) w3 (w3.alloc (.cells #[.int .i64 rk, .slice AS N cS] 31)) := Kp.of_below hk0
  have V_w4 : Hid ((w3.alloc (.cells #[.int .i64 rk, .slice AS N cS] 31)).heap[w.heap.size]? = some (.cells #[.slice A n c, .slice B m d] 27 (0, 0))) := (hk0.block _ (by omega)).trans V_w3.out
  have LS_w4 : Hid (OwnK 3 .i64 (w3.alloc (.cells #[.int .i64 rk, .slice AS N cS] 31)) w2.heap.size AS N cS R) := row_kp LS_w3.out hk (fun _ _ h => h)
  clear V_w3 LS_w3
  have WS_w4 : Hid ((w3.alloc (.cells #[.int .i64 rk, .slice AS N cS] 31)).heap[w3.heap.size]? = some (.cells #[.int .i64 rk, .slice AS N cS] 31 (0, 0))) := heap_alloc_new _ _
  have B_w4 : Hid (Below w.heap.size w (w3.alloc (.cells #[.int .i64 rk, .slice AS N cS] 31))) := B_w3.out.alloc B_w3.out.size _
  have zw4 : w3.heap.size + 1 ≤ (w3.alloc (.cells #[.int .i64 rk, .slice AS N cS] 31)).heap.size := Nat.le_of_eq (sz1 _ _).symm
  clear hk0 hk B_w3
  have c_V0 := blkc V_w4.out 0 rfl
  have c_V1 := blkc V_w4.out 1 rfl
  go_wp2_with fail
  clear c_V0 c_V1
  generalize w3.alloc (.cells #[.int .i64 rk, .slice AS N cS] 31) = w4 at *
  refine (HT.out _ B_w4.out).mono ?_
  rintro e w5 ⟨gX, hX, yX, rfl, ho, hM, hv, hb⟩
  have zw5 := hb.size
  have hk : Kp (fun _ => False) w4 w5 := Kp.of_below hb
  have V_w5 : Hid (w5.heap[w.heap.size]? = some (.cells #[.slice A n c, .slice B m d] 27 (0, 0))) := (hk.block _ (by omega) (fun h => h)).trans V_w4.out
  have LS_w5 : Hid (OwnK 3 .i64 w5 w2.heap.size AS N cS R) := row_kp LS_w4.out hk (fun _ _ h => h)
  have WS_w5 : Hid (w5.heap[w3.heap.size]? = some (.cells #[.int .i64 rk, .slice AS N cS] 31 (0, 0))) := (hk.block _ (by omega) (fun h => h)).trans WS_w4.out
  have B_w5 : Hid (Below w.heap.size w w5) := B_w4.out.trans (hb.mono B_w4.out.size)
  clear B_w4 V_w4 LS_w4 WS_w4
  have YX := Lib.hid hv
  have LX := Lib.hid hM.len
  have tX : w4.heap.size ≤ gX := (World.ownsRow.lt ho _ rfl).1
  have MX_w5 : Hid (Own w5 w4.heap.size (some ⟨gX, 0, none⟩) n n zs ∧ OwnM w5 (gX + 1) (some ⟨hX, 0, none⟩) m m yX) := ⟨ho, hM⟩
  have RMX : Hid (∀ q, InMach (some ⟨gX, 0, none⟩) n n (some ⟨hX, 0, none⟩) m m yX q → w4.heap.size ≤ q ∧ q < w5.heap.size) := fun q hq => by rcases hq with hq | hq; (exact World.ownsRow.lt ho q hq.symm); (have := hM.lt hq; omega)
  have DMX : Hid (∀ p, (Value.slice (some ⟨gX, 0, none⟩) n n).ownBlock = some p → ¬ InM (some ⟨hX, 0, none⟩) m m yX p) := fun p hp hq => by have q := hM.lt hq; have e : gX = p := (by cases hp; rfl); omega
  clear hb hk ho hM hv
  have hk0 := bel1 w5 (.cells #[.slice (some ⟨gX, 0, none⟩) n n, .slice (some ⟨hX, 0, none⟩) m m] 37)
  have hk : Kp (fun _ => False) w5 (w5.alloc (.cells #[.slice (some ⟨gX, 0, none⟩) n n, .slice (some ⟨hX, 0, none⟩) m m] 37)) := Kp.of_below hk0
  have V_w6 : Hid ((w5.alloc (.cells #[.slice (some ⟨gX, 0, none⟩) n n, .slice (some ⟨hX, 0, none⟩) m m] 37)).heap[w.heap.size]? = some (.cells #[.slice A n c, .slice B m d] 27 (0, 0))) := (hk0.block _ (by omega)).trans V_w5.out
  have LS_w6 : Hid (OwnK 3 .i64 (w5.alloc (.cells #[.slice (some ⟨gX, 0, none⟩) n n, .slice (some ⟨hX, 0, none⟩) m m] 37)) w2.heap.size AS N cS R) := row_kp LS_w5.out hk (fun _ _ h => h)
  have WS_w6 : Hid ((w5.alloc (.cells #[.slice (some ⟨gX, 0, none⟩) n n, .slice (some ⟨hX, 0, none⟩) m m] 37)).heap[w3.heap.size]? = some (.cells #[.int .i64 rk, .slice AS N cS] 31 (0, 0))) := (hk0.block _ (by omega)).trans WS_w5.out
  have MX_w6 : Hid (Own (w5.alloc (.cells #[.slice (some ⟨gX, 0, none⟩) n n, .slice (some ⟨hX, 0, none⟩) m m] 37)) w4.heap.size (some ⟨gX, 0, none⟩) n n zs ∧ OwnM (w5.alloc (.cells #[.slice (some ⟨gX, 0, none⟩) n n, .slice (some ⟨hX, 0, none⟩) m m] 37)) (gX + 1) (some ⟨hX, 0, none⟩) m m yX) := machG_kp MX_w5.out hk (fun _ _ h => h) (fun _ _ h => h) (fun _ _ _ _ h => h)
  clear V_w5 LS_w5 WS_w5 MX_w5
  have X_w6 : Hid ((w5.alloc (.cells #[.slice (some ⟨gX, 0, none⟩) n n, .slice (some ⟨hX, 0, none⟩) m m] 37)).heap[w5.heap.size]? = some (.cells #[.slice (some ⟨gX, 0, none⟩) n n, .slice (some ⟨hX, 0, none⟩) m m] 37 (0, 0))) := heap_alloc_new _ _
  have B_w6 : Hid (Below w.heap.size w (w5.alloc (.cells #[.slice (some ⟨gX, 0, none⟩) n n, .slice (some ⟨hX, 0, none⟩) m m] 37))) := B_w5.out.alloc B_w5.out.size _
  have zw6 : w5.heap.size + 1 ≤ (w5.alloc (.cells #[.slice (some ⟨gX, 0, none⟩) n n, .slice (some ⟨hX, 0, none⟩) m m] 37)).heap.size := Nat.le_of_eq (sz1 _ _).symm
  clear hk0 hk B_w5
  go_wp2_with fail
  generalize w5.alloc (.cells #[.slice (some ⟨gX, 0, none⟩) n n, .slice (some ⟨hX, 0, none⟩) m m] 37) = w6 at *
  refine (HI.out _ _ _ _ MX_w6.out.1.rd MX_w6.out.2.rd YX.out).mono ?_
  rintro e w7 ⟨AG, cG, rfl, ho, hb⟩
  have zw7 := hb.size
  have hk : Kp (fun _ => False) w6 w7 := Kp.of_below hb
  have V_w7 : Hid (w7.heap[w.heap.size]? = some (.cells #[.slice A n c, .slice B m d] 27 (0, 0))) := (hk.block _ (by omega) (fun h => h)).trans V_w6.out
  have LS_w7 : Hid (OwnK 3 .i64 w7 w2.heap.size AS N cS R) := row_kp LS_w6.out hk (fun _ _ h => h)
  have WS_w7 : Hid (w7.heap[w3.heap.size]? = some (.cells #[.int .i64 rk, .slice AS N cS] 31 (0, 0))) := (hk.block _ (by omega) (fun h => h)).trans WS_w6.out
  have MX_w7 : Hid (Own w7 w4.heap.size (some ⟨gX, 0, none⟩) n n zs ∧ OwnM w7 (gX + 1) (some ⟨hX, 0, none⟩) m m yX) := machG_kp MX_w6.out hk (fun _ _ h => h) (fun _ _ h => h) (fun _ _ _ _ h => h)
  have X_w7 : Hid (w7.heap[w5.heap.size]? = some (.cells #[.slice (some ⟨gX, 0, none⟩) n n, .slice (some ⟨hX, 0, none⟩) m m] 37 (0, 0))) := (hk.block _ (by omega) (fun h => h)).trans X_w6.out
  have B_w7 : Hid (Below w.heap.size w w7) := B_w6.out.trans (hb.mono B_w6.out.size)
  clear B_w6 V_w6 LS_w6 WS_w6 MX_w6 X_w6
  have LG_w7 : Hid (OwnK 3 .i64 w7 w6.heap.size AG N cG R) := ho
  have RLG : Hid (∀ q, (Value.slice AG N cG).ownBlock = some q → w6.heap.size ≤ q ∧ q < w7.heap.size) := fun q hq => World.ownsRow.lt ho q hq
  clear hb hk ho
  have hk0 := bel1 w7 (.cells #[.int .i64 rk, .slice AG N cG] 31)
  have hk : Kp (fun _ => False) w7 (w7.alloc (.cells #[.int .i64 rk, .slice AG N cG] 31)) := Kp.of_below hk0
  have V_w8 : Hid ((w7.alloc (.cells #[.int .i64 rk, .slice AG N cG] 31)).heap[w.heap.size]? = some (.cells #[.slice A n c, .slice B m d] 27 (0, 0))) := (hk0.block _ (by omega)).trans V_w7.out
  have LS_w8 : Hid (OwnK 3 .i64 (w7.alloc (.cells #[.int .i64 rk, .slice AG N cG] 31)) w2.heap.size AS N cS R) := row_kp LS_w7.out hk (fun _ _ h => h)
  have WS_w8 : Hid ((w7.alloc (.cells #[.int .i64 rk, .slice AG N cG] 31)).heap[w3.heap.size]? = some (.cells #[.int .i64 rk, .slice AS N cS] 31 (0, 0))) := (hk0.block _ (by omega)).trans WS_w7.out
  have MX_w8 : Hid (Own (w7.alloc (.cells #[.int .i64 rk, .slice AG N cG] 31)) w4.heap.size (some ⟨gX, 0, none⟩) n n zs ∧ OwnM (w7.alloc (.cells #[.int .i64 rk, .slice AG N cG] 31)) (gX + 1) (some ⟨hX, 0, none⟩) m m yX) := machG_kp MX_w7.out hk (fun _ _ h => h) (fun _ _ h => h) (fun _ _ _ _ h => h)
  have X_w8 : Hid ((w7.alloc (.cells #[.int .i64 rk, .slice AG N cG] 31)).heap[w5.heap.size]? = some (.cells #[.slice (some ⟨gX, 0, none⟩) n n, .slice (some ⟨hX, 0, none⟩) m m] 37 (0, 0))) := (hk0.block _ (by omega)).trans X_w7.out
  have LG_w8 : Hid (OwnK 3 .i64 (w7.alloc (.cells #[.int .i64 rk, .slice AG N cG] 31)) w6.heap.size AG N cG R) := row_kp LG_w7.out hk (fun _ _ h => h)
  clear V_w7 LS_w7 WS_w7 MX_w7 X_w7 LG_w7
  have WG_w8 : Hid ((w7.alloc (.cells #[.int .i64 rk, .slice AG N cG] 31)).heap[w7.heap.size]? = some (.cells #[.int .i64 rk, .slice AG N cG] 31 (0, 0))) := heap_alloc_new _ _
  have B_w8 : Hid (Below w.heap.size w (w7.alloc (.cells #[.int .i64 rk, .slice AG N cG] 31))) := B_w7.out.alloc B_w7.out.size _
  have zw8 : w7.heap.size + 1 ≤ (w7.alloc (.cells #[.int .i64 rk, .slice AG N cG] 31)).heap.size := Nat.le_of_eq (sz1 _ _).symm
  clear hk0 hk B_w7
  have c_WS0 := blkc WS_w8.out 0 rfl
  have c_WS1 := blkc WS_w8.out 1 rfl
  go_wp2_with fail
  clear c_WS0 c_WS1
  generalize w7.alloc (.cells #[.int .i64 rk, .slice AG N cG] 31) = w8 at *
  refine (eqReq_any rk AG AS N cG cS _ _ R w8 LG_w8.out.rd LS_w8.out.rd (Nat.le_refl _) (Nat.le_refl _) hNm).mono ?_
  rintro e w9 ⟨rfl, hb⟩
  have zw9 := hb.size
  have hk : Kp (fun _ => False) w8 w9 := Kp.of_below hb
  have V_w9 : Hid (w9.heap[w.heap.size]? = some (.cells #[.slice A n c, .slice B m d] 27 (0, 0))) := (hk.block _ (by omega) (fun h => h)).trans V_w8.out
  have LS_w9 : Hid (OwnK 3 .i64 w9 w2.heap.size AS N cS R) := row_kp LS_w8.out hk (fun _ _ h => h)
  have WS_w9 : Hid (w9.heap[w3.heap.size]? = some (.cells #[.int .i64 rk, .slice AS N cS] 31 (0, 0))) := (hk.block _ (by omega) (fun h => h)).trans WS_w8.out
  have MX_w9 : Hid (Own w9 w4.heap.size (some ⟨gX, 0, none⟩) n n zs ∧ OwnM w9 (gX + 1) (some ⟨hX, 0, none⟩) m m yX) := machG_kp MX_w8.out hk (fun _ _ h => h) (fun _ _ h => h) (fun _ _ _ _ h => h)
  have X_w9 : Hid (w9.heap[w5.heap.size]? = some (.cells #[.slice (some ⟨gX, 0, none⟩) n n, .slice (some ⟨hX, 0, none⟩) m m] 37 (0, 0))) := (hk.block _ (by omega) (fun h => h)).trans X_w8.out
  have LG_w9 : Hid (OwnK 3 .i64 w9 w6.heap.size AG N cG R) := row_kp LG_w8.out hk (fun _ _ h => h)
  have WG_w9 : Hid (w9.heap[w7.heap.size]? = some (.cells #[.int .i64 rk, .slice AG N cG] 31 (0, 0))) := (hk.block _ (by omega) (fun h => h)).trans WG_w8.out
  have B_w9 : Hid (Below w.heap.size w w9) := B_w8.out.trans (hb.mono B_w8.out.size)
  clear B_w8 V_w8 LS_w8 WS_w8 MX_w8 X_w8 LG_w8 WG_w8
  clear hb hk
  have x0 : w9.cell? ⟨w5.heap.size, 0, none⟩ = some (.slice (some ⟨gX, 0, none⟩) n n) ∧ w9.cell? ⟨w5.heap.size, 1, none⟩ = some (.slice (some ⟨hX, 0, none⟩) m m) ∧ w9.cell? ⟨w.heap.size, 0, none⟩ = some (.slice A n c) ∧ w9.cell? ⟨w.heap.size, 1, none⟩ = some (.slice B m d) := ⟨blkc X_w9.out 0 rfl, blkc X_w9.out 1 rfl, blkc V_w9.out 0 rfl, blkc V_w9.out 1 rfl⟩
  have x0d : w9.drew.cell? ⟨w5.heap.size, 0, none⟩ = some (.slice (some ⟨gX, 0, none⟩) n n) ∧ w9.drew.cell? ⟨w5.heap.size, 1, none⟩ = some (.slice (some ⟨hX, 0, none⟩) m m) ∧ w9.drew.cell? ⟨w.heap.size, 0, none⟩ = some (.slice A n c) ∧ w9.drew.cell? ⟨w.heap.size, 1, none⟩ = some (.slice B m d) := x0
  have D0 : Hid (Below w9.heap.size w9 w9.drew) := (Below.refl _ _).drew
  have xS : Hid (∀ w', Below w9.heap.size w9 w' → w'.cell? ⟨w5.heap.size, 0, none⟩ = some (.slice (some ⟨gX, 0, none⟩) n n) ∧ w'.cell? ⟨w5.heap.size, 1, none⟩ = some (.slice (some ⟨hX, 0, none⟩) m m) ∧ w'.cell? ⟨w.heap.size, 0, none⟩ = some (.slice A n c) ∧ w'.cell? ⟨w.heap.size, 1, none⟩ = some (.slice B m d)) := fun w' hb => ⟨later_at0 hb x0.1, later_at0 hb x0.2.1, later_at0 hb x0.2.2.1, later_at0 hb x0.2.2.2⟩
  have CT : Hid (∀ W', Below w9.heap.size w9 W' → Calls Tryz.prog 6 #[.agg #[.slice A n c, .slice B m d]] W' fun e w' => ∃ g g2 ys, e = .returned (.agg #[.slice (some ⟨g, 0, none⟩) n n, .slice (some ⟨g2, 0, none⟩) m m]) ∧ Hid (Rd w' w'.heap.size (some ⟨g, 0, none⟩) n zs) ∧ Hid (RdW w' w'.heap.size (some ⟨g2, 0, none⟩) m ys) ∧ Hid (vals8 ys = vals8 xs) ∧ Hid (Below w9.heap.size w9 w') ∧ (w'.cell? ⟨w5.heap.size, 0, none⟩ = some (.slice (some ⟨gX, 0, none⟩) n n) ∧ w'.cell? ⟨w5.heap.size, 1, none⟩ = some (.slice (some ⟨hX, 0, none⟩) m m) ∧ w'.cell? ⟨w.heap.size, 0, none⟩ = some (.slice A n c) ∧ w'.cell? ⟨w.heap.size, 1, none⟩ = some (.slice B m d))) := fun W' hb => (HT.out W' (B_w9.out.trans (hb.mono B_w9.out.size))).mono fun e w' ⟨g, g2, ys, he, ho, hM, hv, hb2⟩ => ⟨g, g2, ys, he, ho.rd, hM.rd, hv, hb.trans (hb2.mono hb.size), xS.out w' (hb.trans (hb2.mono hb.size))⟩
  have CE : Hid (∀ W' g g2 ys, Below w9.heap.size w9 W' → Rd W' W'.heap.size (some ⟨g, 0, none⟩) n zs → RdW W' W'.heap.size (some ⟨g2, 0, none⟩) m ys → vals8 ys = vals8 xs → Calls Tryz.prog 9 #[.agg #[.slice (some ⟨gX, 0, none⟩) n n, .slice (some ⟨hX, 0, none⟩) m m], .agg #[.slice (some ⟨g, 0, none⟩) n n, .slice (some ⟨g2, 0, none⟩) m m]] W' fun e w' => e = .returned (.bool true) ∧ Hid (Below w9.heap.size w9 w') ∧ (w'.cell? ⟨w5.heap.size, 0, none⟩ = some (.slice (some ⟨gX, 0, none⟩) n n) ∧ w'.cell? ⟨w5.heap.size, 1, none⟩ = some (.slice (some ⟨hX, 0, none⟩) m m) ∧ w'.cell? ⟨w.heap.size, 0, none⟩ = some (.slice A n c) ∧ w'.cell? ⟨w.heap.size, 1, none⟩ = some (.slice B m d))) := fun W' g g2 ys hb k1 k2 k3 => (eqMach_any _ _ n n n _ _ m m m w9.heap.size W'.heap.size w9.heap.size W'.heap.size zs yX ys W' (MX_w9.out.1.rd.below hb) k1 (MX_w9.out.2.rd.below hb) k2 (YX.out.trans k3.symm) hb.size (Nat.le_refl _) hb.size (Nat.le_refl _) p3 hm2 (lens_sameGA H2.out.1 LX.out YX.out HF.out)).mono fun e w' ⟨he, hb2⟩ => ⟨he, hb.trans (hb2.mono hb.size), xS.out w' (hb.trans (hb2.mono hb.size))⟩
  go_wp2_with fail
  go_cut [49] (fun s0 wx => s0 = .bool false ∧ Hid (Below w9.heap.size w9 wx))
  case first =>
    go_region_held3 (fun w' => w'.cell? ⟨w5.heap.size, 0, none⟩ = some (.slice (some ⟨gX, 0, none⟩) n n) ∧ w'.cell? ⟨w5.heap.size, 1, none⟩ = some (.slice (some ⟨hX, 0, none⟩) m m) ∧ w'.cell? ⟨w.heap.size, 0, none⟩ = some (.slice A n c) ∧ w'.cell? ⟨w.heap.size, 1, none⟩ = some (.slice B m d))
      (first | (with_reducible exact x0) | (with_reducible exact x0d) | (with_reducible exact xt) | (with_reducible exact xe))
      (first | (go_at_call 6; (with_reducible refine (CT.out _ D0.out).mono ?_); rintro e wt ⟨gq, hq, yq, rfl, RT, RM, RV, BT, xt⟩)
             | (go_at_call 9; (with_reducible refine (CE.out _ _ _ _ BT.out RT.out RM.out RV.out).mono ?_); rintro e we ⟨rfl, BE, xe⟩))
    all_goals (go_wp2_with fail; go_meet; exact ⟨rfl, BE⟩)
  obtain ⟨rfl, hb0⟩ := hcut
  have hb := hb0.out
  have zwc := hb.size
  have hk : Kp (fun _ => False) w9 wc := Kp.of_below hb
  clear x0 x0d D0 xS CT CE hb0
  have V_wc : Hid (wc.heap[w.heap.size]? = some (.cells #[.slice A n c, .slice B m d] 27 (0, 0))) := (hk.block _ (by omega) (fun h => h)).trans V_w9.out
  have LS_wc : Hid (OwnK 3 .i64 wc w2.heap.size AS N cS R) := row_kp LS_w9.out hk (fun _ _ h => h)
  have WS_wc : Hid (wc.heap[w3.heap.size]? = some (.cells #[.int .i64 rk, .slice AS N cS] 31 (0, 0))) := (hk.block _ (by omega) (fun h => h)).trans WS_w9.out
  have MX_wc : Hid (Own wc w4.heap.size (some ⟨gX, 0, none⟩) n n zs ∧ OwnM wc (gX + 1) (some ⟨hX, 0, none⟩) m m yX) := machG_kp MX_w9.out hk (fun _ _ h => h) (fun _ _ h => h) (fun _ _ _ _ h => h)
  have X_wc : Hid (wc.heap[w5.heap.size]? = some (.cells #[.slice (some ⟨gX, 0, none⟩) n n, .slice (some ⟨hX, 0, none⟩) m m] 37 (0, 0))) := (hk.block _ (by omega) (fun h => h)).trans X_w9.out
  have LG_wc : Hid (OwnK 3 .i64 wc w6.heap.size AG N cG R) := row_kp LG_w9.out hk (fun _ _ h => h)
  have WG_wc : Hid (wc.heap[w7.heap.size]? = some (.cells #[.int .i64 rk, .slice AG N cG] 31 (0, 0))) := (hk.block _ (by omega) (fun h => h)).trans WG_w9.out
  have B_wc : Hid (Below w.heap.size w wc) := B_w9.out.trans (hb.mono B_w9.out.size)
  clear B_w9 V_w9 LS_w9 WS_w9 MX_w9 X_w9 LG_w9 WG_w9
  clear hb hk
  have c_X0 := blkc X_wc.out 0 rfl
  have c_X1 := blkc X_wc.out 1 rfl
  go_wp2_with fail
  clear c_X0 c_X1
  clear X_wc
  have EP : posK (1 + (n : Int)) yX m = posK (1 + (n : Int)) xs m := posK_sameGA LX.out H2.out.1 YX.out
  have HPX : Hid (posK (1 + (n : Int)) yX m ≤ 50000000) := by show _ ≤ _; rw [EP]; exact HP6.out
  have hp0 : ¬ posK (1 + (n : Int)) yX m < 0 := by have := posK_ge (1 + (n : Int)) yX m; omega
  clear EP
  refine (markMach_any _ n n _ _ _ m m _ yX _ MX_wc.out.1 MX_wc.out.2 DMX.out p3 (by omega) HPX.out (fun i hi => by have := lens_sameGA H2.out.1 LX.out YX.out HP5.out i hi; omega)).mono ?_
  rintro e w10 ⟨rfl, ho, hM, hk⟩
  have zw10 := hk.size
  have V_w10 : Hid (w10.heap[w.heap.size]? = some (.cells #[.slice A n c, .slice B m d] 27 (0, 0))) := (hk.block _ (by omega) (fun h => by have q := RMX.out _ h; omega)).trans V_wc.out
  have LS_w10 : Hid (OwnK 3 .i64 w10 w2.heap.size AS N cS R) := row_kp LS_wc.out hk (fun g hg h => by have q := RMX.out _ h; have q2 := RLS.out g hg; omega)
  have WS_w10 : Hid (w10.heap[w3.heap.size]? = some (.cells #[.int .i64 rk, .slice AS N cS] 31 (0, 0))) := (hk.block _ (by omega) (fun h => by have q := RMX.out _ h; omega)).trans WS_wc.out
  have LG_w10 : Hid (OwnK 3 .i64 w10 w6.heap.size AG N cG R) := row_kp LG_wc.out hk (fun g hg h => by have q := RMX.out _ h; have q2 := RLG.out g hg; omega)
  have WG_w10 : Hid (w10.heap[w7.heap.size]? = some (.cells #[.int .i64 rk, .slice AG N cG] 31 (0, 0))) := (hk.block _ (by omega) (fun h => by have q := RMX.out _ h; omega)).trans WG_wc.out
  have B_w10 : Hid (Below w.heap.size w w10) := Kp.bel hk B_wc.out B_wc.out.size (fun k h => by have q := RMX.out k h; omega)
  clear B_wc V_wc LS_wc WS_wc MX_wc LG_wc WG_wc
  clear ho hM hk
  have c_WG0 := blkc WG_w10.out 0 rfl
  have c_WG1 := blkc WG_w10.out 1 rfl
  have c_WS0 := blkc WS_w10.out 0 rfl
  have c_WS1 := blkc WS_w10.out 1 rfl
  go_wp2_with fail
  clear c_WG0 c_WG1 c_WS0 c_WS1
  refine (eqReq_any rk AG AS N cG cS _ _ R w10 LG_w10.out.rd LS_w10.out.rd (Nat.le_refl _) (Nat.le_refl _) hNm).mono ?_
  rintro e w11 ⟨rfl, hb⟩
  have zw11 := hb.size
  have hk : Kp (fun _ => False) w10 w11 := Kp.of_below hb
  have V_w11 : Hid (w11.heap[w.heap.size]? = some (.cells #[.slice A n c, .slice B m d] 27 (0, 0))) := (hk.block _ (by omega) (fun h => h)).trans V_w10.out
  have LS_w11 : Hid (OwnK 3 .i64 w11 w2.heap.size AS N cS R) := row_kp LS_w10.out hk (fun _ _ h => h)
  have WS_w11 : Hid (w11.heap[w3.heap.size]? = some (.cells #[.int .i64 rk, .slice AS N cS] 31 (0, 0))) := (hk.block _ (by omega) (fun h => h)).trans WS_w10.out
  have LG_w11 : Hid (OwnK 3 .i64 w11 w6.heap.size AG N cG R) := row_kp LG_w10.out hk (fun _ _ h => h)
  have WG_w11 : Hid (w11.heap[w7.heap.size]? = some (.cells #[.int .i64 rk, .slice AG N cG] 31 (0, 0))) := (hk.block _ (by omega) (fun h => h)).trans WG_w10.out
  have B_w11 : Hid (Below w.heap.size w w11) := B_w10.out.trans (hb.mono B_w10.out.size)
  clear B_w10 V_w10 LS_w10 WS_w10 LG_w10 WG_w10
  clear hb hk
  have c_WG0 := blkc WG_w11.out 0 rfl
  have c_WG1 := blkc WG_w11.out 1 rfl
  go_wp2_with fail
  clear c_WG0 c_WG1
  refine (markReq_any rk AG N cG _ 1 R _ LG_w11.out (by omega) (by omega) (by omega)).mono ?_
  rintro e w12 ⟨rfl, ho, hk0⟩
  have hk : Kp (fun k => some k = (Value.slice AG N cG).ownBlock) w11 w12 := hk0.mono (fun k h => h.elim id id)
  have zw12 := hk.size
  have RLG2 : Hid (∀ q, some q = (Value.slice AG N cG).ownBlock → w6.heap.size ≤ q ∧ q < w7.heap.size) := fun q hq => RLG.out q hq.symm
  clear LG_w11
  have V_w12 : Hid (w12.heap[w.heap.size]? = some (.cells #[.slice A n c, .slice B m d] 27 (0, 0))) := (hk.block _ (by omega) (fun h => by have q := RLG2.out _ h; omega)).trans V_w11.out
  have LS_w12 : Hid (OwnK 3 .i64 w12 w2.heap.size AS N cS R) := row_kp LS_w11.out hk (fun g hg h => by have q := RLG2.out _ h; have q2 := RLS.out g hg; omega)
  have WS_w12 : Hid (w12.heap[w3.heap.size]? = some (.cells #[.int .i64 rk, .slice AS N cS] 31 (0, 0))) := (hk.block _ (by omega) (fun h => by have q := RLG2.out _ h; omega)).trans WS_w11.out
  have WG_w12 : Hid (w12.heap[w7.heap.size]? = some (.cells #[.int .i64 rk, .slice AG N cG] 31 (0, 0))) := (hk.block _ (by omega) (fun h => by have q := RLG2.out _ h; omega)).trans WG_w11.out
  have B_w12 : Hid (Below w.heap.size w w12) := Kp.bel hk B_w11.out B_w11.out.size (fun k h => by have q := RLG2.out k h; omega)
  clear B_w11 V_w11 LS_w11 WS_w11 WG_w11
  have LG_w12 : Hid (OwnK 3 .i64 w12 w6.heap.size AG N cG (marksF 1 N)) := ho
  clear ho hk0 hk
  have hnn : ¬ (1 + (N : Int)) < 0 := by omega
  have hne : ((1 + (N : Int)) != (1 + (N : Int))) = false := by simp
  have c_WG0 := blkc WG_w12.out 0 rfl
  have c_WG1 := blkc WG_w12.out 1 rfl
  go_wp2_with fail
  clear c_WG0 c_WG1
  refine (heldReq_any rk AG N cG w12 LG_w12.out.rd (by omega)).mono ?_
  rintro e w13 ⟨rfl, hb⟩
  have zw13 := hb.size
  have hk : Kp (fun _ => False) w12 w13 := Kp.of_below hb
  have V_w13 : Hid (w13.heap[w.heap.size]? = some (.cells #[.slice A n c, .slice B m d] 27 (0, 0))) := (hk.block _ (by omega) (fun h => h)).trans V_w12.out
  have LS_w13 : Hid (OwnK 3 .i64 w13 w2.heap.size AS N cS R) := row_kp LS_w12.out hk (fun _ _ h => h)
  have WS_w13 : Hid (w13.heap[w3.heap.size]? = some (.cells #[.int .i64 rk, .slice AS N cS] 31 (0, 0))) := (hk.block _ (by omega) (fun h => h)).trans WS_w12.out
  have WG_w13 : Hid (w13.heap[w7.heap.size]? = some (.cells #[.int .i64 rk, .slice AG N cG] 31 (0, 0))) := (hk.block _ (by omega) (fun h => h)).trans WG_w12.out
  have LG_w13 : Hid (OwnK 3 .i64 w13 w6.heap.size AG N cG (marksF 1 N)) := row_kp LG_w12.out hk (fun _ _ h => h)
  have B_w13 : Hid (Below w.heap.size w w13) := B_w12.out.trans (hb.mono B_w12.out.size)
  clear B_w12 V_w12 LS_w12 WS_w12 WG_w12 LG_w12
  clear hb hk
  have c_V0 := blkc V_w13.out 0 rfl
  have c_V1 := blkc V_w13.out 1 rfl
  go_wp2_with fail
  clear c_V0 c_V1
  refine (HT.out _ B_w13.out).mono ?_
  rintro e w14 ⟨gH, hH, yH, rfl, ho, hM, hv, hb⟩
  have zw14 := hb.size
  have hk : Kp (fun _ => False) w13 w14 := Kp.of_below hb
  have V_w14 : Hid (w14.heap[w.heap.size]? = some (.cells #[.slice A n c, .slice B m d] 27 (0, 0))) := (hk.block _ (by omega) (fun h => h)).trans V_w13.out
  have LS_w14 : Hid (OwnK 3 .i64 w14 w2.heap.size AS N cS R) := row_kp LS_w13.out hk (fun _ _ h => h)
  have WS_w14 : Hid (w14.heap[w3.heap.size]? = some (.cells #[.int .i64 rk, .slice AS N cS] 31 (0, 0))) := (hk.block _ (by omega) (fun h => h)).trans WS_w13.out
  have WG_w14 : Hid (w14.heap[w7.heap.size]? = some (.cells #[.int .i64 rk, .slice AG N cG] 31 (0, 0))) := (hk.block _ (by omega) (fun h => h)).trans WG_w13.out
  have LG_w14 : Hid (OwnK 3 .i64 w14 w6.heap.size AG N cG (marksF 1 N)) := row_kp LG_w13.out hk (fun _ _ h => h)
  have B_w14 : Hid (Below w.heap.size w w14) := B_w13.out.trans (hb.mono B_w13.out.size)
  clear B_w13 V_w13 LS_w13 WS_w13 WG_w13 LG_w13
  have YH := Lib.hid hv
  have LH := Lib.hid hM.len
  have tH : w13.heap.size ≤ gH := (World.ownsRow.lt ho _ rfl).1
  have MH_w14 : Hid (Own w14 w13.heap.size (some ⟨gH, 0, none⟩) n n zs ∧ OwnM w14 (gH + 1) (some ⟨hH, 0, none⟩) m m yH) := ⟨ho, hM⟩
  have RMH : Hid (∀ q, InMach (some ⟨gH, 0, none⟩) n n (some ⟨hH, 0, none⟩) m m yH q → w13.heap.size ≤ q ∧ q < w14.heap.size) := fun q hq => by rcases hq with hq | hq; (exact World.ownsRow.lt ho q hq.symm); (have := hM.lt hq; omega)
  have DMH : Hid (∀ p, (Value.slice (some ⟨gH, 0, none⟩) n n).ownBlock = some p → ¬ InM (some ⟨hH, 0, none⟩) m m yH p) := fun p hp hq => by have q := hM.lt hq; have e : gH = p := (by cases hp; rfl); omega
  clear hb hk ho hM hv
  go_wp2_with fail
  refine (HI.out _ _ _ _ MH_w14.out.1.rd MH_w14.out.2.rd YH.out).mono ?_
  rintro e w15 ⟨AH, cH, rfl, ho, hb⟩
  have zw15 := hb.size
  have hk : Kp (fun _ => False) w14 w15 := Kp.of_below hb
  have V_w15 : Hid (w15.heap[w.heap.size]? = some (.cells #[.slice A n c, .slice B m d] 27 (0, 0))) := (hk.block _ (by omega) (fun h => h)).trans V_w14.out
  have LS_w15 : Hid (OwnK 3 .i64 w15 w2.heap.size AS N cS R) := row_kp LS_w14.out hk (fun _ _ h => h)
  have WS_w15 : Hid (w15.heap[w3.heap.size]? = some (.cells #[.int .i64 rk, .slice AS N cS] 31 (0, 0))) := (hk.block _ (by omega) (fun h => h)).trans WS_w14.out
  have WG_w15 : Hid (w15.heap[w7.heap.size]? = some (.cells #[.int .i64 rk, .slice AG N cG] 31 (0, 0))) := (hk.block _ (by omega) (fun h => h)).trans WG_w14.out
  have LG_w15 : Hid (OwnK 3 .i64 w15 w6.heap.size AG N cG (marksF 1 N)) := row_kp LG_w14.out hk (fun _ _ h => h)
  have MH_w15 : Hid (Own w15 w13.heap.size (some ⟨gH, 0, none⟩) n n zs ∧ OwnM w15 (gH + 1) (some ⟨hH, 0, none⟩) m m yH) := machG_kp MH_w14.out hk (fun _ _ h => h) (fun _ _ h => h) (fun _ _ _ _ h => h)
  have B_w15 : Hid (Below w.heap.size w w15) := B_w14.out.trans (hb.mono B_w14.out.size)
  clear B_w14 V_w14 LS_w14 WS_w14 WG_w14 LG_w14 MH_w14
  have LH_w15 : Hid (OwnK 3 .i64 w15 w14.heap.size AH N cH R) := ho
  have RLH : Hid (∀ q, (Value.slice AH N cH).ownBlock = some q → w14.heap.size ≤ q ∧ q < w15.heap.size) := fun q hq => World.ownsRow.lt ho q hq
  clear hb hk ho
  clear MH_w15
  have hk0 := bel1 w15 (.cells #[.int .i64 rk, .slice AH N cH] 31)
  have hk : Kp (fun _ => False) w15 (w15.alloc (.cells #[.int .i64 rk, .slice AH N cH] 31)) := Kp.of_below hk0
  have V_w16 : Hid ((w15.alloc (.cells #[.int .i64 rk, .slice AH N cH] 31)).heap[w.heap.size]? = some (.cells #[.slice A n c, .slice B m d] 27 (0, 0))) := (hk0.block _ (by omega)).trans V_w15.out
  have LS_w16 : Hid (OwnK 3 .i64 (w15.alloc (.cells #[.int .i64 rk, .slice AH N cH] 31)) w2.heap.size AS N cS R) := row_kp LS_w15.out hk (fun _ _ h => h)
  have WS_w16 : Hid ((w15.alloc (.cells #[.int .i64 rk, .slice AH N cH] 31)).heap[w3.heap.size]? = some (.cells #[.int .i64 rk, .slice AS N cS] 31 (0, 0))) := (hk0.block _ (by omega)).trans WS_w15.out
  have WG_w16 : Hid ((w15.alloc (.cells #[.int .i64 rk, .slice AH N cH] 31)).heap[w7.heap.size]? = some (.cells #[.int .i64 rk, .slice AG N cG] 31 (0, 0))) := (hk0.block _ (by omega)).trans WG_w15.out
  have LG_w16 : Hid (OwnK 3 .i64 (w15.alloc (.cells #[.int .i64 rk, .slice AH N cH] 31)) w6.heap.size AG N cG (marksF 1 N)) := row_kp LG_w15.out hk (fun _ _ h => h)
  have LH_w16 : Hid (OwnK 3 .i64 (w15.alloc (.cells #[.int .i64 rk, .slice AH N cH] 31)) w14.heap.size AH N cH R) := row_kp LH_w15.out hk (fun _ _ h => h)
  clear V_w15 LS_w15 WS_w15 WG_w15 LG_w15 LH_w15
  have WH_w16 : Hid ((w15.alloc (.cells #[.int .i64 rk, .slice AH N cH] 31)).heap[w15.heap.size]? = some (.cells #[.int .i64 rk, .slice AH N cH] 31 (0, 0))) := heap_alloc_new _ _
  have B_w16 : Hid (Below w.heap.size w (w15.alloc (.cells #[.int .i64 rk, .slice AH N cH] 31))) := B_w15.out.alloc B_w15.out.size _
  have zw16 : w15.heap.size + 1 ≤ (w15.alloc (.cells #[.int .i64 rk, .slice AH N cH] 31)).heap.size := Nat.le_of_eq (sz1 _ _).symm
  clear hk0 hk B_w15
  have c_WS0 := blkc WS_w16.out 0 rfl
  have c_WS1 := blkc WS_w16.out 1 rfl
  go_wp2_with fail
  clear c_WS0 c_WS1
  generalize w15.alloc (.cells #[.int .i64 rk, .slice AH N cH] 31) = w16 at *
  refine (eqReq_any rk AH AS N cH cS _ _ R w16 LH_w16.out.rd LS_w16.out.rd (Nat.le_refl _) (Nat.le_refl _) hNm).mono ?_
  rintro e w17 ⟨rfl, hb⟩
  have zw17 := hb.size
  have hk : Kp (fun _ => False) w16 w17 := Kp.of_below hb
  have V_w17 : Hid (w17.heap[w.heap.size]? = some (.cells #[.slice A n c, .slice B m d] 27 (0, 0))) := (hk.block _ (by omega) (fun h => h)).trans V_w16.out
  have LS_w17 : Hid (OwnK 3 .i64 w17 w2.heap.size AS N cS R) := row_kp LS_w16.out hk (fun _ _ h => h)
  have WS_w17 : Hid (w17.heap[w3.heap.size]? = some (.cells #[.int .i64 rk, .slice AS N cS] 31 (0, 0))) := (hk.block _ (by omega) (fun h => h)).trans WS_w16.out
  have WG_w17 : Hid (w17.heap[w7.heap.size]? = some (.cells #[.int .i64 rk, .slice AG N cG] 31 (0, 0))) := (hk.block _ (by omega) (fun h => h)).trans WG_w16.out
  have LG_w17 : Hid (OwnK 3 .i64 w17 w6.heap.size AG N cG (marksF 1 N)) := row_kp LG_w16.out hk (fun _ _ h => h)
  have LH_w17 : Hid (OwnK 3 .i64 w17 w14.heap.size AH N cH R) := row_kp LH_w16.out hk (fun _ _ h => h)
  have WH_w17 : Hid (w17.heap[w15.heap.size]? = some (.cells #[.int .i64 rk, .slice AH N cH] 31 (0, 0))) := (hk.block _ (by omega) (fun h => h)).trans WH_w16.out
  have B_w17 : Hid (Below w.heap.size w w17) := B_w16.out.trans (hb.mono B_w16.out.size)
  clear B_w16 V_w16 LS_w16 WS_w16 WG_w16 LG_w16 LH_w16 WH_w16
  clear hb hk
  have c_WG0 := blkc WG_w17.out 0 rfl
  have c_WG1 := blkc WG_w17.out 1 rfl
  go_wp2_with fail
  clear c_WG0 c_WG1
  refine (heldReq_any rk AG N cG w17 LG_w17.out.rd (by omega)).mono ?_
  rintro e w18 ⟨rfl, hb⟩
  have zw18 := hb.size
  have hk : Kp (fun _ => False) w17 w18 := Kp.of_below hb
  have V_w18 : Hid (w18.heap[w.heap.size]? = some (.cells #[.slice A n c, .slice B m d] 27 (0, 0))) := (hk.block _ (by omega) (fun h => h)).trans V_w17.out
  have LS_w18 : Hid (OwnK 3 .i64 w18 w2.heap.size AS N cS R) := row_kp LS_w17.out hk (fun _ _ h => h)
  have WS_w18 : Hid (w18.heap[w3.heap.size]? = some (.cells #[.int .i64 rk, .slice AS N cS] 31 (0, 0))) := (hk.block _ (by omega) (fun h => h)).trans WS_w17.out
  have WG_w18 : Hid (w18.heap[w7.heap.size]? = some (.cells #[.int .i64 rk, .slice AG N cG] 31 (0, 0))) := (hk.block _ (by omega) (fun h => h)).trans WG_w17.out
  have LG_w18 : Hid (OwnK 3 .i64 w18 w6.heap.size AG N cG (marksF 1 N)) := row_kp LG_w17.out hk (fun _ _ h => h)
  have LH_w18 : Hid (OwnK 3 .i64 w18 w14.heap.size AH N cH R) := row_kp LH_w17.out hk (fun _ _ h => h)
  have WH_w18 : Hid (w18.heap[w15.heap.size]? = some (.cells #[.int .i64 rk, .slice AH N cH] 31 (0, 0))) := (hk.block _ (by omega) (fun h => h)).trans WH_w17.out
  have B_w18 : Hid (Below w.heap.size w w18) := B_w17.out.trans (hb.mono B_w17.out.size)
  clear B_w17 V_w17 LS_w17 WS_w17 WG_w17 LG_w17 LH_w17 WH_w17
  clear hb hk
  go_wp2
  go_ret
  exact ⟨rfl, B_w18.out⟩

end Go.Proofs.YtefcaeldkdbjdaaGreat
