/- The contracts of the laws' helpers on warps: copy, compare, size, mark, held. -/
/- The contracts of the laws' own functions over lists of warps: copies, comparisons, sizes. -/
/- The contracts of the laws' own functions over memories, under a name of their own beside those over ints. -/
/- The contracts of the laws' own functions over machines: copies, comparisons, sizes. -/
import Derived.Test.YtooegpebimpjcaaLawR
import Derived.Test.YtooegpebimpjcaaCopyI
import Derived.Test.YtooegpebimpjcaaIWarp
import Derived.Test.YtooegpebimpjcaaOwnM
import Derived.Test.YtooegpebimpjcaaBase
import Derived.Lib.SmallJoins
namespace Go.Proofs.Ytooegpebimpjcaa
open Go.RowKit
set_option linter.unusedVariables false

set_option maxHeartbeats 1000000 in
theorem szWarp_yes (kd : Int) (A : Option Addr) (n c : Nat) (B : Option Addr) (m d td : Nat) (ph pr hd : Int) (sn : Nat) (l : Int) (w : World) (hl : l ≤ 1048576) (hn : (n : Int) + m ≤ l) : Calls Try.prog 13 #[.agg #[.int .i64 kd, .slice A n c, .slice B m d, .int .u32 (td : Int), .int .i64 ph, .int .i64 pr, .int .i64 hd, .int .u32 (sn : Int)], .int .i64 l] w fun e w' => e = .returned (.int .i64 (l - n - m)) ∧ Below w.heap.size w w' := by
  have h1 : ¬ l - (n : Int) < 0 := by omega
  have h1b : ¬ l - (n : Int) - (m : Int) < 0 := by omega
  have HS := Lib.hid (fun W => szI_yes A n c l W hl (by omega))
  have HS2 := Lib.hid (fun W => szI_yes B m d (l - n) W (by omega) (by omega))
  have h2 : (0 : Int) ≤ n := by omega
  have h3 : (0 : Int) ≤ m := by omega
  clear hn
  go_enter Try.func13, Try.ntmps13
  go_wp2_with fail
  refine (HS.out _).mono ?_
  rintro e w1 ⟨rfl, rfl⟩
  go_wp2_with fail
  refine (HS2.out _).mono ?_
  rintro e w1 ⟨rfl, rfl⟩
  go_wp2
  go_ret
  exact ⟨rfl, (Below.refl _ _).alloc (Nat.le_refl _) _⟩

set_option maxHeartbeats 1000000 in
theorem szWarp_no (kd : Int) (A : Option Addr) (n c : Nat) (B : Option Addr) (m d td : Nat) (ph pr hd : Int) (sn : Nat) (l : Int) (w : World) (hl : l ≤ 1048576) (h0 : 0 ≤ l) (hm : n ≤ maxLen) (hm2 : m ≤ maxLen) (hn : l < (n : Int) + m) : Calls Try.prog 13 #[.agg #[.int .i64 kd, .slice A n c, .slice B m d, .int .u32 (td : Int), .int .i64 ph, .int .i64 pr, .int .i64 hd, .int .u32 (sn : Int)], .int .i64 l] w fun e w' => e = .returned (.int .i64 (-1)) ∧ Below w.heap.size w w' := by
  by_cases hn1 : (n : Int) ≤ l
  · have HS := Lib.hid (fun W => szI_yes A n c l W hl hn1)
    have HS2 := Lib.hid (fun W => szI_no B m d (l - n) W (by omega) (by omega) hm2 (by omega))
    have h1 : ¬ l - (n : Int) < 0 := by omega
    have h2 : (0 : Int) ≤ n := by omega
    clear hn hm hm2 hn1
    go_enter Try.func13, Try.ntmps13
    go_wp2_with fail
    refine (HS.out _).mono ?_
    rintro e w1 ⟨rfl, rfl⟩
    go_wp2_with fail
    refine (HS2.out _).mono ?_
    rintro e w1 ⟨rfl, rfl⟩
    go_wp2
    go_ret
    exact ⟨rfl, (Below.refl _ _).alloc (Nat.le_refl _) _⟩
  · have HS := Lib.hid (fun W => szI_no A n c l W hl h0 hm (by omega))
    clear hn hm hm2 hn1
    go_enter Try.func13, Try.ntmps13
    go_wp2_with fail
    refine (HS.out _).mono ?_
    rintro e w1 ⟨rfl, rfl⟩
    go_wp2
    go_ret
    exact ⟨rfl, (Below.refl _ _).alloc (Nat.le_refl _) _⟩

set_option maxRecDepth 100000 in
set_option maxHeartbeats 4000000 in
theorem toWarp_any (kd : Int) (A : Option Addr) (n c : Nat) (B : Option Addr) (m d td : Nat) (ph pr hd : Int) (sn : Nat) (B1 B2 : Nat) (vs gs : List Int) (w : World) (h : RdK .i64 w B1 A n vs) (hB : B1 ≤ w.heap.size) (hn : n ≤ 1048576) (h2 : RdK .i64 w B2 B m gs) (hB2 : B2 ≤ w.heap.size) (hm : m ≤ 1048576) :
    Calls Try.prog 16 #[.agg #[.int .i64 kd, .slice A n c, .slice B m d, .int .u32 (td : Int), .int .i64 ph, .int .i64 pr, .int .i64 hd, .int .u32 (sn : Int)]] w fun e w' => ∃ g g2, e = .returned (.agg #[.int .i64 kd, .slice (some ⟨g, 0, none⟩) n n, .slice (some ⟨g2, 0, none⟩) m m, .int .u32 (td : Int), .int .i64 ph, .int .i64 pr, .int .i64 hd, .int .u32 (sn : Int)]) ∧ OwnK 3 .i64 w' w.heap.size (some ⟨g, 0, none⟩) n n vs ∧ OwnK 3 .i64 w' (g + 1) (some ⟨g2, 0, none⟩) m m gs ∧ Below w.heap.size w w' := by
  have HT : Hid (∀ W, Below w.heap.size w W → Calls Try.prog 52 #[.slice A n c] W fun e w' => ∃ g, e = .returned (.slice (some ⟨g, 0, none⟩) n n) ∧ OwnK 3 .i64 w' W.heap.size (some ⟨g, 0, none⟩) n n vs ∧ Below W.heap.size W w') := fun W hb => toI_any A n c B1 vs W (h.below (hb.mono hB)) (Nat.le_trans hB hb.size) hn
  have HT2 : Hid (∀ W, Below w.heap.size w W → Calls Try.prog 52 #[.slice B m d] W fun e w' => ∃ g, e = .returned (.slice (some ⟨g, 0, none⟩) m m) ∧ OwnK 3 .i64 w' W.heap.size (some ⟨g, 0, none⟩) m m gs ∧ Below W.heap.size W w') := fun W hb => toI_any B m d B2 gs W (h2.below (hb.mono hB2)) (Nat.le_trans hB2 hb.size) hm
  clear h hB hn h2 hB2 hm
  go_enter Try.func16, Try.ntmps16
  go_wp2_with fail
  refine (HT.out _ (bel3 _ _ _ _)).mono ?_
  rintro e w4 ⟨g, rfl, ho, hb⟩
  rw [sz3] at ho
  have O4 := Lib.hid ho
  obtain ⟨hx, hr, ha, hB4, z4⟩ := nw3 hb
  have B4 := Lib.hid hB4
  have X4 := Lib.hid hx
  have R4 := Lib.hid hr
  have A4 := Lib.hid ha
  have a1 := blkc ha 1 rfl
  have fa := blkf ha
  have x2 := blkc hx 2 rfl
  clear ho hb HT hr ha hB4 hx
  go_wp2_with fail
  refine (HT2.out _ (by repeat (first | exact B4.out | refine Below.setCell ?_ (by first | omega | (simp; done) | (simp; omega) | (simp [*]; done)) _))).mono ?_
  rintro e w5 ⟨g2, rfl, ho, hb⟩
  have hz5 := hb.size
  have e4 : (w4.setCell ⟨w.heap.size + 2, 1, none⟩ (.slice (some ⟨g, 0, none⟩) n n)).heap.size = w4.heap.size := by simp [World.setCell]
  have hz5' : w4.heap.size ≤ w5.heap.size := Nat.le_trans (Nat.le_of_eq e4.symm) hz5
  have hA := heap_setCell_same w4 (w.heap.size + 2) 1 _ _ (.slice (some ⟨g, 0, none⟩) n n) A4.out
  have ha : w5.heap[w.heap.size + 2]? = some (.cells #[.int .i64 kd, .slice (some ⟨g, 0, none⟩) n n, .slice none 0 0, .int .u32 0, .int .i64 0, .int .i64 0, .int .i64 0, .int .u32 0] 35 (0, 0)) := (hb.block _ (Nat.lt_of_lt_of_le z4 (Nat.le_of_eq e4.symm))).trans hA
  have hx : w5.heap[w.heap.size]? = some (.cells #[.int .i64 kd, .slice A n c, .slice B m d, .int .u32 (td : Int), .int .i64 ph, .int .i64 pr, .int .i64 hd, .int .u32 (sn : Int)] 30 (0, 0)) := (hb.block _ (Nat.lt_of_lt_of_le (by omega) (Nat.le_of_eq e4.symm))).trans ((Below.heap_setCell _ _ _ _ (show w.heap.size ≠ w.heap.size + 2 by omega)).trans X4.out)
  have hr := (hb.block _ (Nat.lt_of_lt_of_le (show w.heap.size + 1 < w4.heap.size by omega) (Nat.le_of_eq e4.symm))).trans ((Below.heap_setCell _ _ _ _ (show w.heap.size + 1 ≠ w.heap.size + 2 by omega)).trans R4.out)
  have hg := O4.out.range g rfl
  have O5a : Hid (OwnK 3 .i64 w5 (w.heap.size + 3) (some ⟨g, 0, none⟩) n n vs) := (O4.out.low (p := ⟨w.heap.size + 2, 1, none⟩) (by simp) (.slice (some ⟨g, 0, none⟩) n n)).below hb
  have O5b : Hid (OwnK 3 .i64 w5 w4.heap.size (some ⟨g2, 0, none⟩) m m gs) := ho.from_ (Nat.le_of_eq e4.symm)
  have B5 : Hid (Below w.heap.size w w5) := (B4.out.setCell (p := ⟨w.heap.size + 2, 1, none⟩) (by simp) _).trans (hb.mono (by rw [e4]; omega))
  have z5 : w.heap.size + 2 < w5.heap.size := by omega
  have hg2 := O5b.out.range g2 rfl
  have a0' := blkc ha 0 rfl
  have a1' := blkc ha 1 rfl
  have a2' := blkc ha 2 rfl
  have a3' := blkc ha 3 rfl
  have a4' := blkc ha 4 rfl
  have a5' := blkc ha 5 rfl
  have a6' := blkc ha 6 rfl
  have a7' := blkc ha 7 rfl
  have fa' := blkf ha
  have x3 := blkc hx 3 rfl
  have x4 := blkc hx 4 rfl
  have x5 := blkc hx 5 rfl
  have x6 := blkc hx 6 rfl
  have x7 := blkc hx 7 rfl
  have r0 := blkc hr 0 rfl
  have r1 := blkc hr 1 rfl
  have r2 := blkc hr 2 rfl
  have r3 := blkc hr 3 rfl
  have r4 := blkc hr 4 rfl
  have r5 := blkc hr 5 rfl
  have r6 := blkc hr 6 rfl
  have r7 := blkc hr 7 rfl
  have fr := blkf hr
  clear ho hb HT2 X4 R4 A4 a1 fa x2 hA ha hx hr e4 hz5 hz5' O4 B4 z4
  go_wp2
  refine bodyPost_ret (v := .agg #[.int .i64 kd, .slice (some ⟨g, 0, none⟩) n n, .slice (some ⟨g2, 0, none⟩) m m, .int .u32 (td : Int), .int .i64 ph, .int .i64 pr, .int .i64 hd, .int .u32 (sn : Int)]) (by simp [results, Try.results16, go_sem, r0, r1, r2, r3, r4, r5, r6, r7]) rfl ⟨g, g2, rfl, ?_, ?_, ?_⟩
  · exact OwnK.from_ (b0 := w.heap.size + 3) (by repeat' (first | (with_reducible exact O5a.out) | (with_reducible refine OwnK.low ?_ ?_ _) | omega | (simp; done) | (simp; omega))) (by omega)
  · exact OwnK.from_ (b0 := w4.heap.size) (by repeat' (first | (with_reducible exact O5b.out) | (with_reducible refine OwnK.low ?_ ?_ _) | omega | (simp; done) | (simp; omega))) (by omega)
  · exact (by repeat' (first | (with_reducible exact B5.out) | (with_reducible refine Below.setCell ?_ ?_ _) | (with_reducible refine Below.alloc ?_ ?_ _) | omega | (simp; done) | (simp; omega)))


set_option maxRecDepth 100000 in
set_option maxHeartbeats 2000000 in
theorem eqWarp_any (kd : Int) (A A2 : Option Addr) (n c c2 : Nat) (B B2 : Option Addr) (m d d2 td : Nat) (ph pr hd : Int) (sn Q1 Q2 Q3 Q4 : Nat) (vs gs : List Int) (w : World) (h1 : RdK .i64 w Q1 A n vs) (h2 : RdK .i64 w Q2 A2 n vs) (h3 : RdK .i64 w Q3 B m gs) (h4 : RdK .i64 w Q4 B2 m gs)
    (q1 : Q1 ≤ w.heap.size) (q2 : Q2 ≤ w.heap.size) (q3 : Q3 ≤ w.heap.size) (q4 : Q4 ≤ w.heap.size) (hn : n ≤ maxLen) (hm : m ≤ maxLen) :
    Calls Try.prog 19 #[.agg #[.int .i64 kd, .slice A n c, .slice B m d, .int .u32 (td : Int), .int .i64 ph, .int .i64 pr, .int .i64 hd, .int .u32 (sn : Int)], .agg #[.int .i64 kd, .slice A2 n c2, .slice B2 m d2, .int .u32 (td : Int), .int .i64 ph, .int .i64 pr, .int .i64 hd, .int .u32 (sn : Int)]] w fun e w' => e = .returned (.bool true) ∧ Below w.heap.size w w' := by
  have HE : Hid (∀ W, Below w.heap.size w W → Calls Try.prog 57 #[.slice A n c, .slice A2 n c2] W fun e w' => e = .returned (.bool true) ∧ ∃ k, w' = W.drewN k) := fun W hb => (eqI_any A A2 n n c c2 Q1 Q2 vs vs W (h1.below (hb.mono q1)) (h2.below (hb.mono q2)) hn hn).mono fun e w' ⟨he, hk⟩ => ⟨by rw [he]; simp, hk⟩
  have HE2 : Hid (∀ W, Below w.heap.size w W → Calls Try.prog 57 #[.slice B m d, .slice B2 m d2] W fun e w' => e = .returned (.bool true) ∧ ∃ k, w' = W.drewN k) := fun W hb => (eqI_any B B2 m m d d2 Q3 Q4 gs gs W (h3.below (hb.mono q3)) (h4.below (hb.mono q4)) hm hm).mono fun e w' ⟨he, hk⟩ => ⟨by rw [he]; simp, hk⟩
  clear h1 h2 h3 h4 hm hn q1 q2 q3 q4
  have b1 : (kd != kd) = false := by simp
  have b2 : ((td : Int) != (td : Int)) = false := by simp
  have b3 : (ph != ph) = false := by simp
  have b4 : (pr != pr) = false := by simp
  have b5 : (hd != hd) = false := by simp
  have b6 : ((sn : Int) != (sn : Int)) = false := by simp
  have B0 := Lib.hid (bel2 w (.cells #[.int .i64 kd, .slice A n c, .slice B m d, .int .u32 (td : Int), .int .i64 ph, .int .i64 pr, .int .i64 hd, .int .u32 (sn : Int)] 35) (.cells #[.int .i64 kd, .slice A2 n c2, .slice B2 m d2, .int .u32 (td : Int), .int .i64 ph, .int .i64 pr, .int .i64 hd, .int .u32 (sn : Int)] 35))
  go_enter Try.func19, Try.ntmps19
  go_wp2_with fail
  refine (HE.out _ B0.out).mono ?_
  rintro e w1 ⟨rfl, k, rfl⟩
  have B1 := Lib.hid (bel_drewN B0.out k)
  go_wp2_with fail
  refine (HE2.out _ B1.out).mono ?_
  rintro e w1 ⟨rfl, k2, rfl⟩
  clear HE HE2
  go_wp2
  go_ret
  exact ⟨rfl, bel_drewN B0.out _⟩

set_option maxRecDepth 100000 in
set_option maxHeartbeats 2000000 in
theorem markWarp_any {ty1 ty2 : TypeId} (kd : Int) (A : Option Addr) (n c : Nat) (B : Option Addr) (m d td : Nat) (ph pr hd : Int) (sn : Nat) (q : Int) (b0 b1 : Nat) (vs gs : List Int) (w : World) (h1 : OwnK ty1 .i64 w b0 A n c vs) (h2 : OwnK ty2 .i64 w b1 B m d gs) (hne : ∀ g, (Value.slice A n c).ownBlock = some g → (Value.slice B m d).ownBlock ≠ some g)
    (hn : n ≤ 2000000) (hm : m ≤ 2000000) (h0 : 0 ≤ q) (hq : q ≤ 10000000) :
    Calls Try.prog 21 #[.agg #[.int .i64 kd, .slice A n c, .slice B m d, .int .u32 (td : Int), .int .i64 ph, .int .i64 pr, .int .i64 hd, .int .u32 (sn : Int)], .int .i64 q] w fun e w' => e = .returned (.int .i64 (q + n + m)) ∧ OwnK ty1 .i64 w' b0 A n c (marksF q n) ∧ OwnK ty2 .i64 w' b1 B m d (marksF (q + n) m) ∧ Kp (In2 (.slice A n c) (.slice B m d)) w w' := by
  have HO1 := Lib.hid h1
  have HO2 := Lib.hid h2
  have HN := Lib.hid hne
  clear h1 h2 hne
  go_enter Try.func21, Try.ntmps21
  go_wp2_with fail
  have O1 := Lib.hid (HO1.out.alloc (.cells #[.int .i64 kd, .slice A n c, .slice B m d, .int .u32 (td : Int), .int .i64 ph, .int .i64 pr, .int .i64 hd, .int .u32 (sn : Int)] 35))
  have O2 := Lib.hid (HO2.out.alloc (.cells #[.int .i64 kd, .slice A n c, .slice B m d, .int .u32 (td : Int), .int .i64 ph, .int .i64 pr, .int .i64 hd, .int .u32 (sn : Int)] 35))
  have K1 : Hid (Kp (In2 (.slice A n c) (.slice B m d)) w (w.alloc (.cells #[.int .i64 kd, .slice A n c, .slice B m d, .int .u32 (td : Int), .int .i64 ph, .int .i64 pr, .int .i64 hd, .int .u32 (sn : Int)] 35))) := Kp.of_below (bel1 _ _)
  have HA : Hid ((w.alloc (.cells #[.int .i64 kd, .slice A n c, .slice B m d, .int .u32 (td : Int), .int .i64 ph, .int .i64 pr, .int .i64 hd, .int .u32 (sn : Int)] 35)).heap[w.heap.size]? = some (.cells #[.int .i64 kd, .slice A n c, .slice B m d, .int .u32 (td : Int), .int .i64 ph, .int .i64 pr, .int .i64 hd, .int .u32 (sn : Int)] 35 (0, 0))) := heap_alloc_new w _
  have hA1 : ∀ g, (Value.slice A n c).ownBlock = some g → g < w.heap.size := fun g hg => (HO1.out.range g hg).2
  refine (markF_any A n c b0 q vs _ O1.out hn h0 (by omega)).mono ?_
  rintro e w2 ⟨rfl, ho, hg⟩
  have O1b := Lib.hid ho
  have O2b : Hid (OwnK ty2 .i64 w2 b1 B m d gs) := O2.out.far hg (fun g hg1 hg2 => HN.out g hg2 hg1)
  have K2 : Hid (Kp (In2 (.slice A n c) (.slice B m d)) w w2) := K1.out.trans (Kp.of_grown hg (fun k hk => .inl hk))
  have ha := (hg.block w.heap.size (by simp) (fun e => by have := hA1 _ e.symm; omega)).trans HA.out
  have a2 := blkc ha 2 rfl
  clear ho hg O1 O2 K1 HA ha hA1
  go_wp2_with fail
  refine (markF_any B m d b1 (q + n) gs _ O2b.out hm (by omega) (by omega)).mono ?_
  rintro e w3 ⟨rfl, ho, hg⟩
  have O2c := Lib.hid ho
  have O1c : Hid (OwnK ty1 .i64 w3 b0 A n c (marksF q n)) := O1b.out.far hg (fun g hg1 hg2 => HN.out g hg1 hg2)
  have K3 : Hid (Kp (In2 (.slice A n c) (.slice B m d)) w w3) := K2.out.trans (Kp.of_grown hg (fun k hk => .inr hk))
  clear ho hg O1b O2b K2 a2
  go_wp2
  go_ret
  exact ⟨rfl, O1c.out, O2c.out, K3.out⟩

set_option maxRecDepth 100000 in
set_option maxHeartbeats 2000000 in
theorem heldWarp_any (kd : Int) (A : Option Addr) (n c : Nat) (B : Option Addr) (m d td : Nat) (ph pr hd : Int) (sn : Nat) (q : Int) (Q1 Q2 : Nat) (w : World) (h1 : RdK .i64 w Q1 A n (marksF q n)) (h2 : RdK .i64 w Q2 B m (marksF (q + n) m)) (q1 : Q1 ≤ w.heap.size) (q2 : Q2 ≤ w.heap.size)
    (hn : n ≤ 2000000) (hm : m ≤ 2000000) (h0 : 0 ≤ q) (hq : q ≤ 10000000) :
    Calls Try.prog 23 #[.agg #[.int .i64 kd, .slice A n c, .slice B m d, .int .u32 (td : Int), .int .i64 ph, .int .i64 pr, .int .i64 hd, .int .u32 (sn : Int)], .int .i64 q] w fun e w' => e = .returned (.int .i64 (q + n + m)) ∧ Below w.heap.size w w' := by
  have HH : Hid (∀ W, Below w.heap.size w W → Calls Try.prog 59 #[.slice A n c, .int .i64 q] W fun e w' => e = .returned (.int .i64 (q + n)) ∧ W = w') := fun W hb => heldF_any A n c Q1 q W (h1.below (hb.mono q1)) hn h0 (by omega)
  have HH2 : Hid (∀ W, Below w.heap.size w W → Calls Try.prog 59 #[.slice B m d, .int .i64 (q + n)] W fun e w' => e = .returned (.int .i64 (q + n + m)) ∧ W = w') := fun W hb => heldF_any B m d Q2 (q + n) W (h2.below (hb.mono q2)) hm (by omega) (by omega)
  have p1 : ¬ q + (n : Int) < 0 := by omega
  have p2 : ¬ q + (n : Int) + (m : Int) < 0 := by omega
  clear h1 h2
  have B0 := Lib.hid (bel1 w (.cells #[.int .i64 kd, .slice A n c, .slice B m d, .int .u32 (td : Int), .int .i64 ph, .int .i64 pr, .int .i64 hd, .int .u32 (sn : Int)] 35))
  go_enter Try.func23, Try.ntmps23
  go_wp2_with fail
  refine (HH.out _ B0.out).mono ?_
  rintro e w1 ⟨rfl, rfl⟩
  go_wp2_with fail
  refine (HH2.out _ B0.out).mono ?_
  rintro e w1 ⟨rfl, rfl⟩
  clear HH HH2
  go_wp2
  go_ret
  exact ⟨rfl, B0.out⟩

end Go.Proofs.Ytooegpebimpjcaa

namespace Go.Proofs.Ytooegpebimpjcaa
open Go.RowKit
set_option linter.unusedVariables false

set_option maxRecDepth 100000 in
set_option maxHeartbeats 4000000 in
theorem toWarpS_any (A : Option Addr) (n c B : Nat) (xs : List Wc) (w : World) (h : RdW w B A n xs) (hB : B ≤ w.heap.size) (hn : n ≤ 1048576) (hf : ∀ i, i < n → (wat xs i).v.vs.length ≤ 1048576 ∧ (wat xs i).v.gs.length ≤ 1048576) :
    Calls Try.prog 73 #[.slice A n c] w fun e w' => ∃ g ys, e = .returned (.slice (some ⟨g, 0, none⟩) n n) ∧ OwnM w' w.heap.size (some ⟨g, 0, none⟩) n n ys ∧ vals8 ys = vals8 xs ∧ Below w.heap.size w w' := by
  obtain ⟨i0, hi, hz0, hz1, hz2⟩ := info_parts info_warpW
  have hb2 : i0.bytes * n ≤ 281474976710656 := by rw [hz2]; omega
  have hb3 : n ≤ maxLen := by unfold maxLen; omega
  have HL := Lib.hid h.1
  have H2 := Lib.hid h
  have HI := Lib.hid hi
  have HZ0 := Lib.hid hz0
  have HZ1 := Lib.hid hz1
  have HF := Lib.hid hf
  clear h hi hz0 hz1 hf
  go_enter Try.func73, Try.ntmps73
  go_wp2_with (at_make; refine wpList_make_full _ rfl _ _ 49 rfl w.heap.size 35 i0 (.agg #[.int .i64 0, .slice none 0 0, .slice none 0 0, .int .u32 0, .int .i64 0, .int .i64 0, .int .i64 0, .int .u32 0]) 8 Try.underlying49 HI.out HZ0.out HZ1.out .i64 .i64 _ _ n rfl rfl rfl rfl hb2 hb3 (Nat.le_refl _) ?_)
  intro w1 hown hgr
  have HO : Hid (OwnW w1 w.heap.size (some ⟨w.heap.size, 0, none⟩) n n (List.replicate n zeroW)) := by
    show w1.ownsRow _ _ _ _ _ (flatW _)
    rw [flatW_zeros]
    exact hown
  have HB : Hid (Below w.heap.size w w1) := (Below.refl _ _).grown hgr (Nat.le_refl _) (by simp)
  have h0 : w.heap.size < w1.heap.size := by
    rcases hown.2 with ⟨hv, _⟩ | ⟨g', cap, cur, hv, hb', hh, _⟩
    · simp at hv
    · obtain rfl : w.heap.size = g' := by injection hv with v1; injection v1 with v1; injection v1
      exact (Array.getElem?_eq_some_iff.1 hh).1
  clear hown hgr
  go_wp2
  go_loopw [4] (fun i wr => ∃ (k : Nat) (ys : List Wc), k ≤ n ∧ i = .int .i64 k ∧ Hid (ys.length = n) ∧ Hid (OwnW wr w.heap.size (some ⟨w.heap.size, 0, none⟩) n n ys) ∧ Hid (Inner wr w.heap.size k ys) ∧ Hid (Dis (some w.heap.size) k ys) ∧ Hid (∀ i, i < k → (wat ys i).v = (wat xs i).v) ∧ w.heap.size < wr.heap.size ∧ Hid (Below w.heap.size w wr)) (fun i _ => n - (intOf i).toNat)
  case atStart => exact ⟨0, _, Nat.zero_le _, rfl, by simp [Hid], HO, fun i hi => absurd hi (by omega), fun i hi => absurd hi (by omega), fun i hi => absurd hi (by omega), h0, HB⟩
  case round =>
    obtain ⟨k, ys, hk, rfl, HLy, HOr, HIr, HDr, HVr, hsz, HBr⟩ := hrel
    clear HO HB h0
    by_cases hlt : k < n
    · obtain ⟨g, o, rfl, hg, h8⟩ := H2.out.at8 hlt
      obtain ⟨c0, c1, c2, c3, c4, c5, c6, c7⟩ := h8.below (HBr.out.mono hB) hg
      have hrows := H2.out.rows hlt
      have HR1 := Lib.hid (hrows.1.below (HBr.out.mono hB))
      have HR2 := Lib.hid (hrows.2.below (HBr.out.mono hB))
      have hbs := Nat.le_trans hB HBr.out.size
      have hf1 := (HF.out k hlt).1
      have hf2 := (HF.out k hlt).2
      clear h8 hrows
      go_wp2_with (go_at_call 16; refine (toWarp_any _ _ _ _ _ _ _ _ _ _ _ _ _ _ _ _ _ HR1.out hbs hf1 HR2.out hbs hf2).mono ?_; rintro e w2 ⟨g1, g2, rfl, ho1, ho2, hb2⟩
                   have HO2 := Lib.hid (HOr.out.below hb2)
                   have HI2 := Lib.hid (HIr.out.below hb2)
                   have q1 := World.ownsRow.lt ho1 g1 rfl
                   have q2 := World.ownsRow.lt ho2 g2 rfl
                   have z2 := hb2.size
                   have HB2 := Lib.hid (HBr.out.trans (hb2.mono HBr.out.size))
                   have e8 := HO2.out.at8 rfl hlt
                   have e0 := e8.1
                   have e1 := e8.2.1
                   have e2 := e8.2.2.1
                   have e3 := e8.2.2.2.1
                   have e4 := e8.2.2.2.2.1
                   have e5 := e8.2.2.2.2.2.1
                   have e6 := e8.2.2.2.2.2.2.1
                   have e7 := e8.2.2.2.2.2.2.2
                   have f0 := HO2.out.free rfl
                   have hly : k < ys.length := by rw [HLy.out]; exact hlt
                   have K8 : Hid (Kp (fun q => q = w.heap.size) w2 ((((((((w2.setCell ⟨w.heap.size, k * 8, none⟩ (.int .i64 (wat xs k).v.kd)).setCell ⟨w.heap.size, k * 8 + 1, none⟩ (.slice (some ⟨g1, 0, none⟩) (wat xs k).v.vs.length (wat xs k).v.vs.length)).setCell ⟨w.heap.size, k * 8 + 2, none⟩ (.slice (some ⟨g2, 0, none⟩) (wat xs k).v.gs.length (wat xs k).v.gs.length)).setCell ⟨w.heap.size, k * 8 + 3, none⟩ (.int .u32 ((wat xs k).v.td : Int))).setCell ⟨w.heap.size, k * 8 + 4, none⟩ (.int .i64 (wat xs k).v.ph)).setCell ⟨w.heap.size, k * 8 + 5, none⟩ (.int .i64 (wat xs k).v.pr)).setCell ⟨w.heap.size, k * 8 + 6, none⟩ (.int .i64 (wat xs k).v.hd)).setCell ⟨w.heap.size, k * 8 + 7, none⟩ (.int .u32 ((wat xs k).v.sn : Int)))) := Kp.set8 _ _ _ _ _ _ _ _ _ _ _ _ _ _ _ _ _ _
                   have HN : Hid (OwnW ((((((((w2.setCell ⟨w.heap.size, k * 8, none⟩ (.int .i64 (wat xs k).v.kd)).setCell ⟨w.heap.size, k * 8 + 1, none⟩ (.slice (some ⟨g1, 0, none⟩) (wat xs k).v.vs.length (wat xs k).v.vs.length)).setCell ⟨w.heap.size, k * 8 + 2, none⟩ (.slice (some ⟨g2, 0, none⟩) (wat xs k).v.gs.length (wat xs k).v.gs.length)).setCell ⟨w.heap.size, k * 8 + 3, none⟩ (.int .u32 ((wat xs k).v.td : Int))).setCell ⟨w.heap.size, k * 8 + 4, none⟩ (.int .i64 (wat xs k).v.ph)).setCell ⟨w.heap.size, k * 8 + 5, none⟩ (.int .i64 (wat xs k).v.pr)).setCell ⟨w.heap.size, k * 8 + 6, none⟩ (.int .i64 (wat xs k).v.hd)).setCell ⟨w.heap.size, k * 8 + 7, none⟩ (.int .u32 ((wat xs k).v.sn : Int))) w.heap.size (some ⟨w.heap.size, 0, none⟩) n n (ys.set k ⟨(wat xs k).v, some ⟨g1, 0, none⟩, (wat xs k).v.vs.length, some ⟨g2, 0, none⟩, (wat xs k).v.gs.length⟩)) := HO2.out.store (y := ⟨(wat xs k).v, some ⟨g1, 0, none⟩, (wat xs k).v.vs.length, some ⟨g2, 0, none⟩, (wat xs k).v.gs.length⟩) hlt
                   have HIN : Hid (Inner ((((((((w2.setCell ⟨w.heap.size, k * 8, none⟩ (.int .i64 (wat xs k).v.kd)).setCell ⟨w.heap.size, k * 8 + 1, none⟩ (.slice (some ⟨g1, 0, none⟩) (wat xs k).v.vs.length (wat xs k).v.vs.length)).setCell ⟨w.heap.size, k * 8 + 2, none⟩ (.slice (some ⟨g2, 0, none⟩) (wat xs k).v.gs.length (wat xs k).v.gs.length)).setCell ⟨w.heap.size, k * 8 + 3, none⟩ (.int .u32 ((wat xs k).v.td : Int))).setCell ⟨w.heap.size, k * 8 + 4, none⟩ (.int .i64 (wat xs k).v.ph)).setCell ⟨w.heap.size, k * 8 + 5, none⟩ (.int .i64 (wat xs k).v.pr)).setCell ⟨w.heap.size, k * 8 + 6, none⟩ (.int .i64 (wat xs k).v.hd)).setCell ⟨w.heap.size, k * 8 + 7, none⟩ (.int .u32 ((wat xs k).v.sn : Int))) w.heap.size (k + 1) (ys.set k ⟨(wat xs k).v, some ⟨g1, 0, none⟩, (wat xs k).v.vs.length, some ⟨g2, 0, none⟩, (wat xs k).v.gs.length⟩)) :=
                     Inner.next (HI2.out.kp K8.out (fun i hi q hq e => by obtain ⟨d1, d2⟩ := HDr.out i hi q; rcases hq with hq | hq; (exact (d1 hq).1 (by rw [e])); (exact (d2 hq).1 (by rw [e])))) hly ((ho1.from_ (by omega)).kp K8.out (fun q hq => by have := World.ownsRow.lt ho1 q hq; omega)) ((ho2.from_ (by omega)).kp K8.out (fun q hq => by have := World.ownsRow.lt ho2 q hq; omega))
                   have HDN : Hid (Dis (some w.heap.size) (k + 1) (ys.set k ⟨(wat xs k).v, some ⟨g1, 0, none⟩, (wat xs k).v.vs.length, some ⟨g2, 0, none⟩, (wat xs k).v.gs.length⟩)) :=
                     HDr.out.next (lo := wr.heap.size) hly (fun i hi q hq => (HIr.out.lt hi hq).2) (fun q hq => by injection hq with hq; omega) (fun q hq => ⟨(World.ownsRow.lt ho1 q hq).1, fun h2 => by have := World.ownsRow.lt ho2 q h2; (have e3 : g1 = q := by simpa [Value.ownBlock] using hq); omega⟩) (fun q hq => by have := World.ownsRow.lt ho2 q hq; omega)
                   have HVN : Hid (∀ i, i < k + 1 → (wat (ys.set k ⟨(wat xs k).v, some ⟨g1, 0, none⟩, (wat xs k).v.vs.length, some ⟨g2, 0, none⟩, (wat xs k).v.gs.length⟩) i).v = (wat xs i).v) := fun i hi => by
                     rw [wat_set hly]
                     by_cases e : k = i
                     · subst e; simp
                     · rw [if_neg e]; exact HVr.out i (by omega)
                   have HM : Hid (Below w.heap.size w ((((((((w2.setCell ⟨w.heap.size, k * 8, none⟩ (.int .i64 (wat xs k).v.kd)).setCell ⟨w.heap.size, k * 8 + 1, none⟩ (.slice (some ⟨g1, 0, none⟩) (wat xs k).v.vs.length (wat xs k).v.vs.length)).setCell ⟨w.heap.size, k * 8 + 2, none⟩ (.slice (some ⟨g2, 0, none⟩) (wat xs k).v.gs.length (wat xs k).v.gs.length)).setCell ⟨w.heap.size, k * 8 + 3, none⟩ (.int .u32 ((wat xs k).v.td : Int))).setCell ⟨w.heap.size, k * 8 + 4, none⟩ (.int .i64 (wat xs k).v.ph)).setCell ⟨w.heap.size, k * 8 + 5, none⟩ (.int .i64 (wat xs k).v.pr)).setCell ⟨w.heap.size, k * 8 + 6, none⟩ (.int .i64 (wat xs k).v.hd)).setCell ⟨w.heap.size, k * 8 + 7, none⟩ (.int .u32 ((wat xs k).v.sn : Int)))) := Kp.bel K8.out HB2.out HB2.out.size (fun q hq => by omega)
                   have zN : w.heap.size < ((((((((w2.setCell ⟨w.heap.size, k * 8, none⟩ (.int .i64 (wat xs k).v.kd)).setCell ⟨w.heap.size, k * 8 + 1, none⟩ (.slice (some ⟨g1, 0, none⟩) (wat xs k).v.vs.length (wat xs k).v.vs.length)).setCell ⟨w.heap.size, k * 8 + 2, none⟩ (.slice (some ⟨g2, 0, none⟩) (wat xs k).v.gs.length (wat xs k).v.gs.length)).setCell ⟨w.heap.size, k * 8 + 3, none⟩ (.int .u32 ((wat xs k).v.td : Int))).setCell ⟨w.heap.size, k * 8 + 4, none⟩ (.int .i64 (wat xs k).v.ph)).setCell ⟨w.heap.size, k * 8 + 5, none⟩ (.int .i64 (wat xs k).v.pr)).setCell ⟨w.heap.size, k * 8 + 6, none⟩ (.int .i64 (wat xs k).v.hd)).setCell ⟨w.heap.size, k * 8 + 7, none⟩ (.int .u32 ((wat xs k).v.sn : Int))).heap.size := by simp; omega
                   have LN : Hid ((ys.set k ⟨(wat xs k).v, some ⟨g1, 0, none⟩, (wat xs k).v.vs.length, some ⟨g2, 0, none⟩, (wat xs k).v.gs.length⟩).length = n) := by simp [HLy.out, Hid]
                   clear hb2 ho1 ho2 HOr HIr HDr HVr HO2 HI2 HB2 HLy HBr K8 e8 c0 c1 c2 c3 c4 c5 c6 c7 HR1 HR2 hf1 hf2)
      go_roundw
      case rel => exact ⟨k + 1, _, by omega, by go_num, LN, HN, HIN, HDN, HVN, zN, HM⟩
      case measure => simp [intOf]; omega
    · obtain rfl : k = n := by omega
      go_wp2
      go_ret
      refine ⟨_, ys, rfl, ⟨HOr.out, HIr.out, HDr.out⟩, ?_, HBr.out⟩
      unfold vals8
      apply List.ext_getElem
      · simp [HLy.out, HL.out]
      · intro i h1 h2
        have h1' : i < ys.length := by simpa using h1
        have h2' : i < xs.length := by simpa using h2
        have := HVr.out i (by rw [← HLy.out]; exact h1')
        simpa [wat, h1', h2'] using this

set_option maxRecDepth 100000 in
set_option maxHeartbeats 4000000 in
theorem eqWarpS_any (A1 A2 : Option Addr) (n c1 c2 B1 B2 : Nat) (xs ys : List Wc) (w : World) (h1 : RdW w B1 A1 n xs) (h2 : RdW w B2 A2 n ys) (hv : vals8 xs = vals8 ys) (hB1 : B1 ≤ w.heap.size) (hB2 : B2 ≤ w.heap.size) (hm : n ≤ maxLen) (hf : ∀ i, i < n → (wat xs i).v.vs.length ≤ maxLen ∧ (wat xs i).v.gs.length ≤ maxLen) :
    Calls Try.prog 63 #[.slice A1 n c1, .slice A2 n c2] w fun e w' => e = .returned (.bool true) ∧ Below w.heap.size w w' := by
  have HV : Hid (∀ i, i < n → (wat ys i).v = (wat xs i).v) := fun i hi => by
    rw [wat_v (xs := ys) rfl (by rw [h2.1]; exact hi), ← hv, ← wat_v (xs := xs) rfl (by rw [h1.1]; exact hi)]
  have H1 := Lib.hid h1
  have H2 := Lib.hid h2
  have HF := Lib.hid hf
  have hbb : ((n : Int) != (n : Int)) = false := by simp
  unfold maxLen at hm
  clear h1 h2 hv hf
  go_enter Try.func63, Try.ntmps63
  go_wp2
  go_loopw [5] (fun i wr => ∃ k : Nat, k ≤ n ∧ i = .int .i64 k ∧ Hid (Below w.heap.size w wr)) (fun i _ => n - (intOf i).toNat)
  case atStart => exact ⟨0, Nat.zero_le _, rfl, Below.refl _ _⟩
  case round =>
    obtain ⟨k, hk, rfl, HB⟩ := hrel
    by_cases hlt : k < n
    · obtain ⟨g1, o1, rfl, hg1, q1⟩ := H1.out.at8 hlt
      obtain ⟨g2, o2, rfl, hg2, q2⟩ := H2.out.at8 hlt
      have r1 := H1.out.rows hlt
      have r2 := H2.out.rows hlt
      have hv := HV.out k hlt
      rw [hv] at r2
      have hfk := HF.out k hlt
      obtain ⟨a0, a1, a2, a3, a4, a5, a6, a7⟩ := q1.below (HB.out.mono hB1) hg1
      obtain ⟨b0, b1, b2, b3, b4, b5, b6, b7⟩ := q2.below (HB.out.mono hB2) hg2
      rw [hv] at b0 b1 b2 b3 b4 b5 b6 b7
      have hsz := HB.out.size
      have x0 : wr.cell? ⟨g1, o1 + k * 8, none⟩ = some (.int .i64 (wat xs k).v.kd) ∧ wr.cell? ⟨g1, o1 + k * 8 + 1, none⟩ = some (.slice (wat xs k).A (wat xs k).v.vs.length (wat xs k).c) ∧ wr.cell? ⟨g1, o1 + k * 8 + 2, none⟩ = some (.slice (wat xs k).B (wat xs k).v.gs.length (wat xs k).d) ∧ wr.cell? ⟨g1, o1 + k * 8 + 3, none⟩ = some (.int .u32 ((wat xs k).v.td : Int)) ∧ wr.cell? ⟨g1, o1 + k * 8 + 4, none⟩ = some (.int .i64 (wat xs k).v.ph) ∧ wr.cell? ⟨g1, o1 + k * 8 + 5, none⟩ = some (.int .i64 (wat xs k).v.pr) ∧ wr.cell? ⟨g1, o1 + k * 8 + 6, none⟩ = some (.int .i64 (wat xs k).v.hd) ∧ wr.cell? ⟨g1, o1 + k * 8 + 7, none⟩ = some (.int .u32 ((wat xs k).v.sn : Int)) ∧ wr.cell? ⟨g2, o2 + k * 8, none⟩ = some (.int .i64 (wat xs k).v.kd) ∧ wr.cell? ⟨g2, o2 + k * 8 + 1, none⟩ = some (.slice (wat ys k).A (wat xs k).v.vs.length (wat ys k).c) ∧ wr.cell? ⟨g2, o2 + k * 8 + 2, none⟩ = some (.slice (wat ys k).B (wat xs k).v.gs.length (wat ys k).d) ∧ wr.cell? ⟨g2, o2 + k * 8 + 3, none⟩ = some (.int .u32 ((wat xs k).v.td : Int)) ∧ wr.cell? ⟨g2, o2 + k * 8 + 4, none⟩ = some (.int .i64 (wat xs k).v.ph) ∧ wr.cell? ⟨g2, o2 + k * 8 + 5, none⟩ = some (.int .i64 (wat xs k).v.pr) ∧ wr.cell? ⟨g2, o2 + k * 8 + 6, none⟩ = some (.int .i64 (wat xs k).v.hd) ∧ wr.cell? ⟨g2, o2 + k * 8 + 7, none⟩ = some (.int .u32 ((wat xs k).v.sn : Int)) := ⟨a0, a1, a2, a3, a4, a5, a6, a7, b0, b1, b2, b3, b4, b5, b6, b7⟩
      have x0d : wr.drew.cell? ⟨g1, o1 + k * 8, none⟩ = some (.int .i64 (wat xs k).v.kd) ∧ wr.drew.cell? ⟨g1, o1 + k * 8 + 1, none⟩ = some (.slice (wat xs k).A (wat xs k).v.vs.length (wat xs k).c) ∧ wr.drew.cell? ⟨g1, o1 + k * 8 + 2, none⟩ = some (.slice (wat xs k).B (wat xs k).v.gs.length (wat xs k).d) ∧ wr.drew.cell? ⟨g1, o1 + k * 8 + 3, none⟩ = some (.int .u32 ((wat xs k).v.td : Int)) ∧ wr.drew.cell? ⟨g1, o1 + k * 8 + 4, none⟩ = some (.int .i64 (wat xs k).v.ph) ∧ wr.drew.cell? ⟨g1, o1 + k * 8 + 5, none⟩ = some (.int .i64 (wat xs k).v.pr) ∧ wr.drew.cell? ⟨g1, o1 + k * 8 + 6, none⟩ = some (.int .i64 (wat xs k).v.hd) ∧ wr.drew.cell? ⟨g1, o1 + k * 8 + 7, none⟩ = some (.int .u32 ((wat xs k).v.sn : Int)) ∧ wr.drew.cell? ⟨g2, o2 + k * 8, none⟩ = some (.int .i64 (wat xs k).v.kd) ∧ wr.drew.cell? ⟨g2, o2 + k * 8 + 1, none⟩ = some (.slice (wat ys k).A (wat xs k).v.vs.length (wat ys k).c) ∧ wr.drew.cell? ⟨g2, o2 + k * 8 + 2, none⟩ = some (.slice (wat ys k).B (wat xs k).v.gs.length (wat ys k).d) ∧ wr.drew.cell? ⟨g2, o2 + k * 8 + 3, none⟩ = some (.int .u32 ((wat xs k).v.td : Int)) ∧ wr.drew.cell? ⟨g2, o2 + k * 8 + 4, none⟩ = some (.int .i64 (wat xs k).v.ph) ∧ wr.drew.cell? ⟨g2, o2 + k * 8 + 5, none⟩ = some (.int .i64 (wat xs k).v.pr) ∧ wr.drew.cell? ⟨g2, o2 + k * 8 + 6, none⟩ = some (.int .i64 (wat xs k).v.hd) ∧ wr.drew.cell? ⟨g2, o2 + k * 8 + 7, none⟩ = some (.int .u32 ((wat xs k).v.sn : Int)) := x0
      have D0 : Hid (Below wr.heap.size wr wr.drew) := (Below.refl _ _).drew
      have xS : Hid (∀ w', Below wr.heap.size wr w' → w'.cell? ⟨g1, o1 + k * 8, none⟩ = some (.int .i64 (wat xs k).v.kd) ∧ w'.cell? ⟨g1, o1 + k * 8 + 1, none⟩ = some (.slice (wat xs k).A (wat xs k).v.vs.length (wat xs k).c) ∧ w'.cell? ⟨g1, o1 + k * 8 + 2, none⟩ = some (.slice (wat xs k).B (wat xs k).v.gs.length (wat xs k).d) ∧ w'.cell? ⟨g1, o1 + k * 8 + 3, none⟩ = some (.int .u32 ((wat xs k).v.td : Int)) ∧ w'.cell? ⟨g1, o1 + k * 8 + 4, none⟩ = some (.int .i64 (wat xs k).v.ph) ∧ w'.cell? ⟨g1, o1 + k * 8 + 5, none⟩ = some (.int .i64 (wat xs k).v.pr) ∧ w'.cell? ⟨g1, o1 + k * 8 + 6, none⟩ = some (.int .i64 (wat xs k).v.hd) ∧ w'.cell? ⟨g1, o1 + k * 8 + 7, none⟩ = some (.int .u32 ((wat xs k).v.sn : Int)) ∧ w'.cell? ⟨g2, o2 + k * 8, none⟩ = some (.int .i64 (wat xs k).v.kd) ∧ w'.cell? ⟨g2, o2 + k * 8 + 1, none⟩ = some (.slice (wat ys k).A (wat xs k).v.vs.length (wat ys k).c) ∧ w'.cell? ⟨g2, o2 + k * 8 + 2, none⟩ = some (.slice (wat ys k).B (wat xs k).v.gs.length (wat ys k).d) ∧ w'.cell? ⟨g2, o2 + k * 8 + 3, none⟩ = some (.int .u32 ((wat xs k).v.td : Int)) ∧ w'.cell? ⟨g2, o2 + k * 8 + 4, none⟩ = some (.int .i64 (wat xs k).v.ph) ∧ w'.cell? ⟨g2, o2 + k * 8 + 5, none⟩ = some (.int .i64 (wat xs k).v.pr) ∧ w'.cell? ⟨g2, o2 + k * 8 + 6, none⟩ = some (.int .i64 (wat xs k).v.hd) ∧ w'.cell? ⟨g2, o2 + k * 8 + 7, none⟩ = some (.int .u32 ((wat xs k).v.sn : Int))) := fun w' hb => ⟨later_at0 hb x0.1, later_at0 hb x0.2.1, later_at0 hb x0.2.2.1, later_at0 hb x0.2.2.2.1, later_at0 hb x0.2.2.2.2.1, later_at0 hb x0.2.2.2.2.2.1, later_at0 hb x0.2.2.2.2.2.2.1, later_at0 hb x0.2.2.2.2.2.2.2.1, later_at0 hb x0.2.2.2.2.2.2.2.2.1, later_at0 hb x0.2.2.2.2.2.2.2.2.2.1, later_at0 hb x0.2.2.2.2.2.2.2.2.2.2.1, later_at0 hb x0.2.2.2.2.2.2.2.2.2.2.2.1, later_at0 hb x0.2.2.2.2.2.2.2.2.2.2.2.2.1, later_at0 hb x0.2.2.2.2.2.2.2.2.2.2.2.2.2.1, later_at0 hb x0.2.2.2.2.2.2.2.2.2.2.2.2.2.2.1, later_at0 hb x0.2.2.2.2.2.2.2.2.2.2.2.2.2.2.2⟩
      have CE : Hid (∀ W', Below wr.heap.size wr W' → Calls Try.prog 19 #[.agg #[.int .i64 (wat xs k).v.kd, .slice (wat xs k).A (wat xs k).v.vs.length (wat xs k).c, .slice (wat xs k).B (wat xs k).v.gs.length (wat xs k).d, .int .u32 ((wat xs k).v.td : Int), .int .i64 (wat xs k).v.ph, .int .i64 (wat xs k).v.pr, .int .i64 (wat xs k).v.hd, .int .u32 ((wat xs k).v.sn : Int)], .agg #[.int .i64 (wat xs k).v.kd, .slice (wat ys k).A (wat xs k).v.vs.length (wat ys k).c, .slice (wat ys k).B (wat xs k).v.gs.length (wat ys k).d, .int .u32 ((wat xs k).v.td : Int), .int .i64 (wat xs k).v.ph, .int .i64 (wat xs k).v.pr, .int .i64 (wat xs k).v.hd, .int .u32 ((wat xs k).v.sn : Int)]] W' fun e w' => e = .returned (.bool true) ∧ Hid (Below wr.heap.size wr w') ∧ (w'.cell? ⟨g1, o1 + k * 8, none⟩ = some (.int .i64 (wat xs k).v.kd) ∧ w'.cell? ⟨g1, o1 + k * 8 + 1, none⟩ = some (.slice (wat xs k).A (wat xs k).v.vs.length (wat xs k).c) ∧ w'.cell? ⟨g1, o1 + k * 8 + 2, none⟩ = some (.slice (wat xs k).B (wat xs k).v.gs.length (wat xs k).d) ∧ w'.cell? ⟨g1, o1 + k * 8 + 3, none⟩ = some (.int .u32 ((wat xs k).v.td : Int)) ∧ w'.cell? ⟨g1, o1 + k * 8 + 4, none⟩ = some (.int .i64 (wat xs k).v.ph) ∧ w'.cell? ⟨g1, o1 + k * 8 + 5, none⟩ = some (.int .i64 (wat xs k).v.pr) ∧ w'.cell? ⟨g1, o1 + k * 8 + 6, none⟩ = some (.int .i64 (wat xs k).v.hd) ∧ w'.cell? ⟨g1, o1 + k * 8 + 7, none⟩ = some (.int .u32 ((wat xs k).v.sn : Int)) ∧ w'.cell? ⟨g2, o2 + k * 8, none⟩ = some (.int .i64 (wat xs k).v.kd) ∧ w'.cell? ⟨g2, o2 + k * 8 + 1, none⟩ = some (.slice (wat ys k).A (wat xs k).v.vs.length (wat ys k).c) ∧ w'.cell? ⟨g2, o2 + k * 8 + 2, none⟩ = some (.slice (wat ys k).B (wat xs k).v.gs.length (wat ys k).d) ∧ w'.cell? ⟨g2, o2 + k * 8 + 3, none⟩ = some (.int .u32 ((wat xs k).v.td : Int)) ∧ w'.cell? ⟨g2, o2 + k * 8 + 4, none⟩ = some (.int .i64 (wat xs k).v.ph) ∧ w'.cell? ⟨g2, o2 + k * 8 + 5, none⟩ = some (.int .i64 (wat xs k).v.pr) ∧ w'.cell? ⟨g2, o2 + k * 8 + 6, none⟩ = some (.int .i64 (wat xs k).v.hd) ∧ w'.cell? ⟨g2, o2 + k * 8 + 7, none⟩ = some (.int .u32 ((wat xs k).v.sn : Int)))) := fun W' hb => (eqWarp_any _ _ _ _ _ _ _ _ _ _ _ _ _ _ _ _ B1 B2 B1 B2 _ _ W' (r1.1.below ((HB.out.trans (hb.mono hsz)).mono hB1)) (r2.1.below ((HB.out.trans (hb.mono hsz)).mono hB2)) (r1.2.below ((HB.out.trans (hb.mono hsz)).mono hB1)) (r2.2.below ((HB.out.trans (hb.mono hsz)).mono hB2)) (Nat.le_trans hB1 (Nat.le_trans hsz hb.size)) (Nat.le_trans hB2 (Nat.le_trans hsz hb.size)) (Nat.le_trans hB1 (Nat.le_trans hsz hb.size)) (Nat.le_trans hB2 (Nat.le_trans hsz hb.size)) hfk.1 hfk.2).mono fun e w' ⟨he, hb2⟩ => ⟨he, hb.trans (hb2.mono hb.size), xS.out w' (hb.trans (hb2.mono hb.size))⟩
      clear r1 r2 hv q1 q2 hfk
      go_wp2_with fail
      go_cut [26] from 11 to 26 (fun s0 wx => s0 = .bool false ∧ Hid (Below wr.heap.size wr wx))
      case first =>
        go_region_held3 (fun w' => w'.cell? ⟨g1, o1 + k * 8, none⟩ = some (.int .i64 (wat xs k).v.kd) ∧ w'.cell? ⟨g1, o1 + k * 8 + 1, none⟩ = some (.slice (wat xs k).A (wat xs k).v.vs.length (wat xs k).c) ∧ w'.cell? ⟨g1, o1 + k * 8 + 2, none⟩ = some (.slice (wat xs k).B (wat xs k).v.gs.length (wat xs k).d) ∧ w'.cell? ⟨g1, o1 + k * 8 + 3, none⟩ = some (.int .u32 ((wat xs k).v.td : Int)) ∧ w'.cell? ⟨g1, o1 + k * 8 + 4, none⟩ = some (.int .i64 (wat xs k).v.ph) ∧ w'.cell? ⟨g1, o1 + k * 8 + 5, none⟩ = some (.int .i64 (wat xs k).v.pr) ∧ w'.cell? ⟨g1, o1 + k * 8 + 6, none⟩ = some (.int .i64 (wat xs k).v.hd) ∧ w'.cell? ⟨g1, o1 + k * 8 + 7, none⟩ = some (.int .u32 ((wat xs k).v.sn : Int)) ∧ w'.cell? ⟨g2, o2 + k * 8, none⟩ = some (.int .i64 (wat xs k).v.kd) ∧ w'.cell? ⟨g2, o2 + k * 8 + 1, none⟩ = some (.slice (wat ys k).A (wat xs k).v.vs.length (wat ys k).c) ∧ w'.cell? ⟨g2, o2 + k * 8 + 2, none⟩ = some (.slice (wat ys k).B (wat xs k).v.gs.length (wat ys k).d) ∧ w'.cell? ⟨g2, o2 + k * 8 + 3, none⟩ = some (.int .u32 ((wat xs k).v.td : Int)) ∧ w'.cell? ⟨g2, o2 + k * 8 + 4, none⟩ = some (.int .i64 (wat xs k).v.ph) ∧ w'.cell? ⟨g2, o2 + k * 8 + 5, none⟩ = some (.int .i64 (wat xs k).v.pr) ∧ w'.cell? ⟨g2, o2 + k * 8 + 6, none⟩ = some (.int .i64 (wat xs k).v.hd) ∧ w'.cell? ⟨g2, o2 + k * 8 + 7, none⟩ = some (.int .u32 ((wat xs k).v.sn : Int)))
          (first | (with_reducible exact x0) | (with_reducible exact x0d) | (with_reducible exact xe))
          (first | (go_at_call 19; (with_reducible refine (CE.out _ D0.out).mono ?_); rintro e we ⟨rfl, BE, xe⟩))
        all_goals (go_wp2_with fail; go_meet; exact ⟨rfl, BE⟩)
      case rest =>
        obtain ⟨rfl, hb0⟩ := hcut
        have HB2 := Lib.hid (HB.out.trans (hb0.out.mono hsz))
        clear hb0 HB x0 x0d D0 xS CE a0 a1 a2 a3 a4 a5 a6 a7 b0 b1 b2 b3 b4 b5 b6 b7
        go_wp2
        go_roundw
        case rel => exact ⟨k + 1, by omega, by go_num, HB2⟩
        case measure => simp [intOf]; omega
    · go_wp2
      go_ret
      exact ⟨rfl, HB.out⟩

set_option maxRecDepth 100000 in
set_option maxHeartbeats 1000000 in
theorem szWarpS_any (A : Option Addr) (n c B : Nat) (xs : List Wc) (l : Int) (w : World) (h : RdW w B A n xs) (hB : B ≤ w.heap.size) (hm : n ≤ maxLen) (hf : ∀ i, i < n → (wat xs i).v.vs.length ≤ maxLen ∧ (wat xs i).v.gs.length ≤ maxLen) (hl : l ≤ 1048576) (h0 : 0 ≤ l) :
    Calls Try.prog 69 #[.slice A n c, .int .i64 l] w fun e w' => ∃ r : Int, e = .returned (.int .i64 r) ∧ r ≤ l ∧ (r = -1 ∨ (0 ≤ r ∧ (n : Int) ≤ l ∧ ∀ i, i < n → ((wat xs i).v.vs.length : Int) + (wat xs i).v.gs.length ≤ l)) ∧ Below w.heap.size w w' := by
  have H1 := Lib.hid h
  have HF := Lib.hid hf
  clear h hf
  unfold maxLen at hm
  by_cases hn : (n : Int) ≤ l
  · have hnn : ¬ l - (n : Int) < 0 := by omega
    go_enter Try.func69, Try.ntmps69
    go_wp2
    go_loopw [1, 5] (fun s i wr => ∃ (k : Nat) (r : Int), k ≤ n ∧ i = .int .i64 k ∧ s = .int .i64 r ∧ 0 ≤ r ∧ r ≤ l ∧ Hid (∀ i, i < k → ((wat xs i).v.vs.length : Int) + (wat xs i).v.gs.length ≤ l) ∧ Hid (Below w.heap.size w wr)) (fun _ i _ => n - (intOf i).toNat)
    case atStart => exact ⟨0, _, Nat.zero_le _, rfl, rfl, by omega, by omega, fun i hi => absurd hi (by omega), Below.refl _ _⟩
    case round =>
      obtain ⟨k, r, hk, rfl, rfl, hr0, hrl, HK, HB⟩ := hrel
      by_cases hlt : k < n
      · obtain ⟨g1, o1, rfl, hg1, q1⟩ := H1.out.at8 hlt
        obtain ⟨a0, a1, a2, a3, a4, a5, a6, a7⟩ := q1.below (HB.out.mono hB) hg1
        have hfk := HF.out k hlt
        have hf1 := hfk.1
        have hf2 := hfk.2
        clear q1 hfk
        by_cases hy : ((wat xs k).v.vs.length : Int) + (wat xs k).v.gs.length ≤ r
        · have HS := Lib.hid (fun W => szWarp_yes (wat xs k).v.kd (wat xs k).A (wat xs k).v.vs.length (wat xs k).c (wat xs k).B (wat xs k).v.gs.length (wat xs k).d (wat xs k).v.td (wat xs k).v.ph (wat xs k).v.pr (wat xs k).v.hd (wat xs k).v.sn r W (by omega) hy)
          have hn2 : ¬ r - ((wat xs k).v.vs.length : Int) - ((wat xs k).v.gs.length : Int) < 0 := by omega
          have HKN : Hid (∀ i, i < k + 1 → ((wat xs i).v.vs.length : Int) + (wat xs i).v.gs.length ≤ l) := fun i hi => by
            by_cases e : i = k
            · subst e; omega
            · exact HK.out i (by omega)
          have r1 : 0 ≤ r - ((wat xs k).v.vs.length : Int) - ((wat xs k).v.gs.length : Int) := by omega
          have r2 : r - ((wat xs k).v.vs.length : Int) - ((wat xs k).v.gs.length : Int) ≤ l := by omega
          clear hf1 hf2 HK
          go_wp2_with fail
          refine (HS.out _).mono ?_
          rintro e w2 ⟨rfl, hb⟩
          have HB2 := Lib.hid (HB.out.trans (hb.mono HB.out.size))
          clear hb HB HS a0 a1 a2 a3 a4 a5 a6 a7
          go_wp2
          go_roundw
          case rel => exact ⟨k + 1, _, by omega, by go_num, rfl, r1, r2, HKN, HB2⟩
          case measure => simp [intOf]; omega
        · have HS := Lib.hid (fun W => szWarp_no (wat xs k).v.kd (wat xs k).A (wat xs k).v.vs.length (wat xs k).c (wat xs k).B (wat xs k).v.gs.length (wat xs k).d (wat xs k).v.td (wat xs k).v.ph (wat xs k).v.pr (wat xs k).v.hd (wat xs k).v.sn r W (by omega) (by omega) hf1 hf2 (by omega))
          clear hf1 hf2 hy
          go_wp2_with fail
          refine (HS.out _).mono ?_
          rintro e w2 ⟨rfl, hb⟩
          have HB2 := Lib.hid (HB.out.trans (hb.mono HB.out.size))
          clear hb HB HS a0 a1 a2 a3 a4 a5 a6 a7
          go_wp2
          go_ret
          exact ⟨-1, rfl, by omega, .inl rfl, HB2.out⟩
      · obtain rfl : k = n := by omega
        go_wp2
        go_ret
        exact ⟨r, rfl, hrl, .inr ⟨hr0, hn, HK.out⟩, HB.out⟩
  · have hnn : l - (n : Int) < 0 := by omega
    go_enter Try.func69, Try.ntmps69
    go_wp2
    go_ret
    exact ⟨-1, rfl, by omega, .inl rfl, Below.refl _ _⟩

end Go.Proofs.Ytooegpebimpjcaa

namespace Go.Proofs.Ytooegpebimpjcaa.U
open Go.RowKit

set_option maxHeartbeats 400000 in
theorem szU_any (A : Option Addr) (n c : Nat) (left : Int) (w : World) (hn : n ≤ maxLen) (h0 : 0 ≤ left) (h1 : left ≤ 1048576) :
    Calls Try.prog 99 #[.slice A n c, .int .i64 left] w fun e w' => e = .returned (.int .i64 (if left - n < 0 then -1 else left - n)) ∧ w = w' := by
  unfold maxLen at hn
  by_cases h : left - n < 0
  · rw [if_pos h]
    go_enter Try.func99, Try.ntmps99
    go_wp2
    go_ret
    exact ⟨rfl, rfl⟩
  · rw [if_neg h]
    go_enter Try.func99, Try.ntmps99
    go_wp2
    go_ret
    exact ⟨rfl, rfl⟩

theorem take_next {z1 z2 : List Int} {k : Nat} (h : z1.take k = z2.take k) (h1 : k < z1.length) (h2 : k < z2.length) (e : z1[k]?.getD 0 = z2[k]?.getD 0) : z1.take (k + 1) = z2.take (k + 1) := by
  simp only [List.getElem?_eq_getElem h1, List.getElem?_eq_getElem h2, Option.getD_some] at e
  rw [List.take_succ_eq_append_getElem h1, List.take_succ_eq_append_getElem h2, h, e]
theorem ne_at {z1 z2 : List Int} {k : Nat} (e : ¬ z1[k]?.getD 0 = z2[k]?.getD 0) : ¬ z1 = z2 := by
  rintro rfl; exact e rfl
theorem eq_all {z1 z2 : List Int} {k : Nat} (h : z1.take k = z2.take k) (h1 : z1.length ≤ k) (h2 : z2.length ≤ k) : z1 = z2 := by
  rwa [List.take_of_length_le h1, List.take_of_length_le h2] at h

set_option maxHeartbeats 400000 in
theorem eqU_any (A1 A2 : Option Addr) (n1 n2 c1 c2 B1 B2 : Nat) (z1 z2 : List Int) (w : World) (h1 : Rd w B1 A1 n1 z1) (h2 : Rd w B2 A2 n2 z2) (m1 : n1 ≤ maxLen) (m2 : n2 ≤ maxLen) :
    Calls Try.prog 96 #[.slice A1 n1 c1, .slice A2 n2 c2] w fun e w' => e = .returned (.bool (decide (z1 = z2))) ∧ ∃ k, w' = w.drewN k := by
  unfold maxLen at m1 m2
  by_cases hn : n1 = n2
  · subst hn
    have HL := Lib.hid h1.1
    have HM := Lib.hid h2.1
    have H1 := Lib.hid h1.2
    have H2 := Lib.hid h2.2
    clear h1 h2
    go_enter Try.func96, Try.ntmps96
    go_wp2
    go_loopw [5] (fun i wr => ∃ k : Nat, k ≤ n1 ∧ i = .int .i64 k ∧ (∃ q, wr = w.drewN q) ∧ Hid (z1.take k = z2.take k)) (fun i _ => n1 - (intOf i).toNat)
    case atStart => exact ⟨0, Nat.zero_le _, rfl, ⟨0, rfl⟩, rfl⟩
    case round =>
      obtain ⟨k, hk, rfl, ⟨q, rfl⟩, HT⟩ := hrel
      by_cases hlt : k < n1
      · obtain ⟨g1, o1, rfl, _, hc1⟩ := H1.out (by omega)
        obtain ⟨g2, o2, rfl, _, hc2⟩ := H2.out (by omega)
        have c1 := hc1 k hlt
        have c2 := hc2 k hlt
        clear hc1 hc2
        by_cases he : z1[k]?.getD 0 = z2[k]?.getD 0
        · have HN := Lib.hid (take_next HT.out (by have := HL.out; omega) (by have := HM.out; omega) he)
          have hb : (z1[k]?.getD 0 != z2[k]?.getD 0) = false := by simp [he]
          have HE := Lib.hid he
          clear he
          go_wp2
          go_quiet (fail)
          go_wp2
          go_roundw
          case rel => exact ⟨k + 1, by omega, by go_num, ⟨_, rfl⟩, HN.out⟩
          case measure => simp [intOf]; omega
        · have HN := Lib.hid (ne_at he)
          have hb : (z1[k]?.getD 0 != z2[k]?.getD 0) = true := by simp [he]
          clear he
          go_wp2
          go_quiet (fail)
          go_wp2
          go_ret
          exact ⟨by simp [HN.out], _, World.drewN_drewN _ _ _⟩
      · have HN := Lib.hid (eq_all HT.out (by have := HL.out; omega) (by have := HM.out; omega))
        go_wp2
        go_ret
        exact ⟨by simp [HN.out], _, rfl⟩
  · have HN : Hid (¬ z1 = z2) := fun e => hn (by rw [← h1.1, ← h2.1, e])
    have hb : ((n1 : Int) != (n2 : Int)) = true := by simp; omega
    clear hn h1 h2
    go_enter Try.func96, Try.ntmps96
    go_wp2
    go_ret
    exact ⟨by simp [HN.out], 0, rfl⟩

end Go.Proofs.Ytooegpebimpjcaa.U

namespace Go.Proofs.Ytooegpebimpjcaa.U
open Go.RowKit

theorem info_u32 : (Try.prog.info? 28).map (fun i => (i.zero, i.size, i.bytes)) = some (some (.int .u32 0), 1, 4) := by kernel_rfl

set_option maxHeartbeats 400000 in
theorem szMem_any (A : Option Addr) (n c : Nat) (left : Int) (w : World) (hn : n ≤ maxLen) (h0 : 0 ≤ left) (h1 : left ≤ 1048576) :
    Calls Try.prog 68 #[.agg #[.slice A n c], .int .i64 left] w fun e w' => e = .returned (.int .i64 (if left - n < 0 then -1 else left - n)) ∧ Below w.heap.size w w' := by
  by_cases h : left - n < 0
  · have hc := szU_any A n c left (w.alloc (.cells #[.slice A n c] 57)) hn h0 h1
    rw [if_pos h] at hc ⊢
    go_enter Try.func68, Try.ntmps68
    go_wp2_with fail
    refine hc.mono ?_
    rintro e w' ⟨rfl, rfl⟩
    go_wp2
    go_ret
    exact ⟨rfl, (Below.refl _ _).alloc (Nat.le_refl _) _⟩
  · have hc := szU_any A n c left (w.alloc (.cells #[.slice A n c] 57)) hn h0 h1
    rw [if_neg h] at hc ⊢
    go_enter Try.func68, Try.ntmps68
    go_wp2_with fail
    refine hc.mono ?_
    rintro e w' ⟨rfl, rfl⟩
    have h' : 0 ≤ left - n := by omega
    go_wp2
    go_ret
    exact ⟨rfl, (Below.refl _ _).alloc (Nat.le_refl _) _⟩

set_option maxHeartbeats 400000 in
theorem memOkI_any (A : Option Addr) (n c : Nat) (w : World) :
    Calls Try.prog 118 #[.agg #[.slice A n c]] w fun e w' => e = .returned (.bool (decide (n ≤ 64))) ∧ Below w.heap.size w w' := by
  go_enter Try.func118, Try.ntmps118
  go_wp2
  go_ret
  exact ⟨by simp; omega, (Below.refl _ _).alloc (Nat.le_refl _) _⟩

/-- The first k numbers of zs, then zeros. -/
def fillTo (zs : List Int) (n k : Nat) : List Int := zs.take k ++ List.replicate (n - k) 0
theorem fill_len {zs : List Int} {n k : Nat} (hl : zs.length = n) (hk : k ≤ n) : (fillTo zs n k).length = n := by simp [fillTo]; omega
theorem fill_next {zs : List Int} {n k : Nat} (hl : zs.length = n) (hk : k < n) : (fillTo zs n k).set k (zs[k]?.getD 0) = fillTo zs n (k + 1) := by
  have h1 : k < zs.length := by omega
  unfold fillTo
  rw [List.take_succ_eq_append_getElem h1, show n - k = (n - (k + 1)) + 1 from by omega, List.replicate_succ, List.set_append]
  simp only [List.getElem?_eq_getElem h1, Option.getD_some, List.length_take, Nat.min_eq_left (Nat.le_of_lt h1), Nat.lt_irrefl, if_false, Nat.sub_self, List.set_cons_zero, List.append_assoc, List.cons_append, List.nil_append]
theorem fill_all {zs : List Int} {n k : Nat} (hl : zs.length = n) (hk : n ≤ k) : fillTo zs n k = zs := by
  unfold fillTo
  rw [List.take_of_length_le (by omega), show n - k = 0 from by omega]; simp

set_option maxHeartbeats 1000000 in
theorem toU_any (A : Option Addr) (n c B : Nat) (zs : List Int) (w : World) (h : Rd w B A n zs) (hB : B ≤ w.heap.size) (hn : n ≤ 1048576) :
    Calls Try.prog 101 #[.slice A n c] w fun e w' => ∃ g, e = .returned (.slice (some ⟨g, 0, none⟩) n n) ∧ Own w' w.heap.size (some ⟨g, 0, none⟩) n n zs ∧ Below w.heap.size w w' := by
  obtain ⟨i0, hi, hz0, hz1, hz2⟩ := info_parts info_u32
  have hb2 : i0.bytes * n ≤ 281474976710656 := by rw [hz2]; omega
  have hb3 : n ≤ maxLen := by unfold maxLen; omega
  have HL := Lib.hid h.1
  have H2 := Lib.hid h.2
  have HI := Lib.hid hi
  have HZ0 := Lib.hid hz0
  have HZ1 := Lib.hid hz1
  clear h hi hz0 hz1 hz2
  go_enter Try.func101, Try.ntmps101
  go_wp2_with (at_make; refine wpList_make_full _ rfl _ _ 46 rfl w.heap.size 28 i0 (.int .u32 0) 1 Try.underlying46 HI.out HZ0.out HZ1.out .i64 .i64 _ _ n rfl rfl rfl rfl hb2 hb3 (Nat.le_refl _) ?_)
  intro w1 hown hgr
  have HO : Hid (Own w1 w.heap.size (some ⟨w.heap.size, 0, none⟩) n n (fillTo zs n 0)) := by
    have := toList_madeCells_one (.int .u32 0) n
    have h3 : w1.ownsRow w.heap.size 28 1 (.slice (some ⟨w.heap.size, 0, none⟩) n n) n (List.replicate n (.int .u32 0)) := this ▸ hown
    show w1.ownsRow _ _ _ _ _ ((fillTo zs n 0).map _)
    simpa [fillTo] using h3
  have HB : Hid (Below w.heap.size w w1) := (Below.refl _ _).grown hgr (Nat.le_refl _) (by simp)
  clear hown hgr
  go_wp2
  go_loopw [4] (fun i wr => ∃ k : Nat, k ≤ n ∧ i = .int .i64 k ∧ Hid (Own wr w.heap.size (some ⟨w.heap.size, 0, none⟩) n n (fillTo zs n k)) ∧ Hid (Below w.heap.size w wr)) (fun i _ => n - (intOf i).toNat)
  case atStart => exact ⟨0, Nat.zero_le _, rfl, HO, HB⟩
  case round =>
    obtain ⟨k, hk, rfl, HOr, HBr⟩ := hrel
    clear HO HB
    by_cases hlt : k < n
    · obtain ⟨g, o, rfl, hg, hc⟩ := H2.out (by omega)
      have c1 : wr.cell? ⟨g, o + k, none⟩ = some (.int .u32 (zs[k]?.getD 0)) := (HBr.out.cell (p := ⟨g, o + k, none⟩) (by show g < _; omega)).trans (hc k hlt)
      have c2 := HOr.out.cell rfl hlt
      have f2 := HOr.out.free rfl k
      have HN : Hid (Own (wr.setCell ⟨w.heap.size, k, none⟩ (.int .u32 (zs[k]?.getD 0))) w.heap.size (some ⟨w.heap.size, 0, none⟩) n n (fillTo zs n (k + 1))) := by
        rw [← fill_next HL.out hlt]; exact HOr.out.store
      have HM : Hid (Below w.heap.size w (wr.setCell ⟨w.heap.size, k, none⟩ (.int .u32 (zs[k]?.getD 0)))) := HBr.out.setCell (Nat.le_refl _) _
      clear hc HOr HBr
      go_wp2
      go_roundw
      case rel => exact ⟨k + 1, by omega, by go_num, HN, HM⟩
      case measure => simp [intOf]; omega
    · go_wp2
      go_ret
      refine ⟨w.heap.size, rfl, ?_, HBr.out⟩
      have := HOr.out
      rwa [fill_all HL.out (by omega)] at this

set_option maxHeartbeats 400000 in
theorem toMem_any (A : Option Addr) (n c B : Nat) (zs : List Int) (w : World) (h : Rd w B A n zs) (hB : B ≤ w.heap.size) (hn : n ≤ 1048576) :
    Calls Try.prog 72 #[.agg #[.slice A n c]] w fun e w' => ∃ g, e = .returned (.agg #[.slice (some ⟨g, 0, none⟩) n n]) ∧ Own w' w.heap.size (some ⟨g, 0, none⟩) n n zs ∧ Below w.heap.size w w' := by
  have H := Lib.hid h
  clear h
  go_enter Try.func72, Try.ntmps72
  go_wp2_with fail
  refine (toU_any A n c B zs _ (((H.out.alloc hB _).alloc (by simp; omega) _).alloc (by simp; omega) _) (by simp; omega) hn).mono ?_
  rintro e w1 ⟨g, rfl, ho, hb⟩
  obtain ⟨k1, k2⟩ := bcell hb
  have hz := hb.size
  simp at hz
  have HO := Lib.hid ho
  have HB := Lib.hid hb
  clear ho hb
  go_wp2
  refine bodyPost_ret (v := .agg #[.slice (some ⟨g, 0, none⟩) n n]) (by simp [results, Try.results72, go_sem, k1]) rfl ⟨g, rfl, ?_, (by repeat (first | exact Below.refl _ _ | refine Below.drew ?_ | refine Below.setCell ?_ (by first | omega | (simp; done) | (simp; omega) | (simp [*]; done)) _ | refine Below.alloc ?_ (by first | omega | (simp; done) | (simp; omega) | (simp [*]; done)) _ | refine Below.trans ?_ (Below.mono (HB.out) (by first | omega | (simp; done) | (simp; omega) | (simp [*]; done)))))⟩
  refine Own.from_ (b0 := w.heap.size + 1 + 1 + 1) ?_ (by omega)
  exact Own.low (Own.low (by simpa using HO.out) (by simp) _) (by simp) _

theorem below_drewN {B : Nat} {a w : World} (h : Below B a w) (n : Nat) : Below B a (w.drewN n) := ⟨h.os, h.tape, h.output, h.size, h.block⟩

set_option maxHeartbeats 400000 in
theorem eqMem_any (A1 A2 : Option Addr) (n1 n2 c1 c2 B1 B2 : Nat) (z1 z2 : List Int) (w : World) (h1 : Rd w B1 A1 n1 z1) (h2 : Rd w B2 A2 n2 z2) (l1 : B1 ≤ w.heap.size) (l2 : B2 ≤ w.heap.size) (m1 : n1 ≤ 1048576) (m2 : n2 ≤ 1048576) :
    Calls Try.prog 62 #[.agg #[.slice A1 n1 c1], .agg #[.slice A2 n2 c2]] w fun e w' => e = .returned (.bool (decide (z1 = z2))) ∧ Below w.heap.size w w' := by
  have H1 := Lib.hid h1
  have H2 := Lib.hid h2
  clear h1 h2
  by_cases hz : z1 = z2
  all_goals
    have HC := Lib.hid (eqU_any A1 A2 n1 n2 c1 c2 B1 B2 z1 z2 _ (((H1.out.alloc l1 (.cells #[.slice A1 n1 c1] 48)).alloc (by simp; omega) (.cells #[.slice A2 n2 c2] 48))) ((H2.out.alloc l2 _).alloc (by simp; omega) _) (by unfold maxLen; omega) (by unfold maxLen; omega))
    have HZ := Lib.hid hz
    simp only [hz, decide_true, decide_false] at HC ⊢
    clear hz
    go_enter Try.func62, Try.ntmps62
    go_wp2_with fail
    refine HC.out.mono ?_
    rintro e w1 ⟨rfl, k, rfl⟩
    go_wp2
    go_ret
    exact ⟨rfl, below_drewN (by repeat (first | exact Below.refl _ _ | refine Below.drew ?_ | refine Below.setCell ?_ (by first | omega | (simp; done) | (simp; omega) | (simp [*]; done)) _ | refine Below.alloc ?_ (by first | omega | (simp; done) | (simp; omega) | (simp [*]; done)) _)) _⟩

end Go.Proofs.Ytooegpebimpjcaa.U

namespace Go.Proofs.Ytooegpebimpjcaa
open Go.RowKit
set_option linter.unusedVariables false

theorem OwnM.apart {w : World} {b0 n c : Nat} {A : Option Addr} {xs : List Wc} {p : Addr} (h : OwnM w b0 A n c xs) (hp : ∀ q, InM A n c xs q → q ≠ p.block) (u : Value) : OwnM (w.setCell p u) b0 A n c xs :=
  h.kp (Kp.setCell w p u) (fun q hq => hp q (.inl hq)) (fun i hi q hq => hp q (.inr ⟨i, hi, hq⟩))
theorem OwnM.low {w : World} {b0 n c : Nat} {A : Option Addr} {xs : List Wc} {p : Addr} (h : OwnM w b0 A n c xs) (hp : p.block < b0) (u : Value) : OwnM (w.setCell p u) b0 A n c xs := h.apart (fun q hq => by have := h.lt hq; omega) u
theorem OwnM.from_ {w : World} {b0 b1 n c : Nat} {A : Option Addr} {xs : List Wc} (h : OwnM w b0 A n c xs) (hb : b1 ≤ b0) : OwnM w b1 A n c xs :=
  ⟨h.1.from_ hb, fun i hi => ⟨(h.2.1 i hi).1.from_ hb, (h.2.1 i hi).2.from_ hb⟩, h.2.2⟩
theorem OwnM.alloc {w : World} {b0 n c : Nat} {A : Option Addr} {xs : List Wc} (h : OwnM w b0 A n c xs) (o : Obj) : OwnM (w.alloc o) b0 A n c xs := h.below (bel1 w o)

set_option maxRecDepth 100000 in
set_option maxHeartbeats 2000000 in
theorem toMach_any (A : Option Addr) (n c B1 : Nat) (zs : List Int) (B : Option Addr) (m d B2 : Nat) (xs : List Wc) (w : World) (h1 : Rd w B1 A n zs) (hB1 : B1 ≤ w.heap.size) (hn : n ≤ 1048576) (h2 : RdW w B2 B m xs) (hB2 : B2 ≤ w.heap.size) (hm : m ≤ 1048576) (hf : ∀ i, i < m → (wat xs i).v.vs.length ≤ 1048576 ∧ (wat xs i).v.gs.length ≤ 1048576) :
    Calls Try.prog 31 #[.agg #[.slice A n c, .slice B m d]] w fun e w' => ∃ g g2 ys, e = .returned (.agg #[.slice (some ⟨g, 0, none⟩) n n, .slice (some ⟨g2, 0, none⟩) m m]) ∧ Own w' w.heap.size (some ⟨g, 0, none⟩) n n zs ∧ OwnM w' (g + 1) (some ⟨g2, 0, none⟩) m m ys ∧ vals8 ys = vals8 xs ∧ Below w.heap.size w w' := by
  have HT : Hid (∀ W, Below w.heap.size w W → Calls Try.prog 72 #[.agg #[.slice A n c]] W fun e w' => ∃ g, e = .returned (.agg #[.slice (some ⟨g, 0, none⟩) n n]) ∧ Own w' W.heap.size (some ⟨g, 0, none⟩) n n zs ∧ Below W.heap.size W w') := fun W hb => U.toMem_any A n c B1 zs W (h1.below (hb.mono hB1)) (Nat.le_trans hB1 hb.size) hn
  have HT2 : Hid (∀ W, Below w.heap.size w W → Calls Try.prog 73 #[.slice B m d] W fun e w' => ∃ g ys, e = .returned (.slice (some ⟨g, 0, none⟩) m m) ∧ OwnM w' W.heap.size (some ⟨g, 0, none⟩) m m ys ∧ vals8 ys = vals8 xs ∧ Below W.heap.size W w') := fun W hb => toWarpS_any B m d B2 xs W (h2.below (hb.mono hB2)) (Nat.le_trans hB2 hb.size) hm hf
  have HB0 := Lib.hid (bel3 w (.cells #[.slice A n c, .slice B m d] 60) (.cells #[.slice none 0 0, .slice none 0 0] 51) (.cells #[.slice none 0 0, .slice none 0 0] 51))
  clear h1 h2 hf
  go_enter Try.func31, Try.ntmps31
  go_wp2_with fail
  refine (HT.out _ HB0.out).mono ?_
  rintro e w1 ⟨g, rfl, ho, hb⟩
  obtain ⟨h2, h3, h4, hB1', z1⟩ := nw3 hb
  rw [sz3] at ho
  have hg := (World.ownsRow.lt ho g rfl)
  have O1 := Lib.hid ho
  have B1w := Lib.hid hB1'
  have L3 := Lib.hid h3
  have L4 := Lib.hid h4
  have a0 := blkc h2 0 rfl
  have a1 := blkc h2 1 rfl
  have s0 := blkc h4 0 rfl
  have s1 := blkc h4 1 rfl
  have fs := blkf h4
  obtain ⟨W1, hW1⟩ : ∃ W1, W1 = w1.setCell ⟨w.heap.size + 2, 0, none⟩ (.slice (some ⟨g, 0, none⟩) n n) := ⟨_, rfl⟩
  have sW : W1.heap.size = w1.heap.size := by rw [hW1]; simp
  have BW : Hid (Below w.heap.size w W1) := by rw [hW1]; exact B1w.out.setCell (by simp) _
  have L4c : Hid (W1.heap[w.heap.size + 2]? = some (.cells #[.slice (some ⟨g, 0, none⟩) n n, .slice none 0 0] 51 (0, 0))) := by rw [hW1]; exact Joins.block_setCell L4.out _
  have L3c := Lib.hid (Eq.trans (show W1.heap[w.heap.size + 1]? = w1.heap[w.heap.size + 1]? from by rw [hW1]; exact Below.heap_setCell _ _ _ _ (by simp)) L3.out)
  have OW : Hid (Own W1 (w.heap.size + 3) (some ⟨g, 0, none⟩) n n zs) := by rw [hW1]; exact O1.out.low (by simp) _
  have HW := Lib.hid hW1
  clear ho hb HT h2 h3 h4 hB1' hW1 HB0 O1 B1w L3 L4
  go_wp2_with fail
  clear a0 a1 s0 s1 fs
  rw [← HW.out]
  clear HW
  refine (HT2.out _ BW.out).mono ?_
  rintro e w2 ⟨g2, ys, rfl, ho2, hv, hb⟩
  have z2 := hb.size
  have O2 := Lib.hid ho2
  have HV := Lib.hid hv
  have OA : Hid (Own w2 (w.heap.size + 3) (some ⟨g, 0, none⟩) n n zs) := OW.out.below (hb.mono (by omega))
  have B2w := Lib.hid (BW.out.trans (hb.mono BW.out.size))
  have L3 := Lib.hid ((hb.block _ (by omega)).trans L3c.out)
  have L4 := Lib.hid ((hb.block _ (by omega)).trans L4c.out)
  have s0 := blkc L4.out 0 rfl
  have s1 := blkc L4.out 1 rfl
  have fs := blkf L4.out
  have r0 := blkc L3.out 0 rfl
  have r1 := blkc L3.out 1 rfl
  have fr := blkf L3.out
  clear HT2 hb ho2 hv BW L3c L4c OW L3 L4
  go_wp2
  refine bodyPost_ret (v := .agg #[.slice (some ⟨g, 0, none⟩) n n, .slice (some ⟨g2, 0, none⟩) m m]) (by simp [results, Try.results31, go_sem, r0, r1]) rfl ⟨g, g2, ys, rfl, ?_, ?_, HV.out, ?_⟩
  · exact Own.from_ (b0 := w.heap.size + 3) (by repeat' (first | (with_reducible exact OA.out) | (with_reducible refine Own.low ?_ ?_ _) | omega | (simp; done) | (simp; omega))) (by omega)
  · exact OwnM.from_ (b0 := W1.heap.size) (by repeat' (first | (with_reducible exact O2.out) | (with_reducible refine OwnM.low ?_ ?_ _) | omega | (simp; done) | (simp; omega))) (by omega)
  · exact (by repeat' (first | (with_reducible exact B2w.out) | (with_reducible refine Below.setCell ?_ ?_ _) | (with_reducible refine Below.alloc ?_ ?_ _) | omega | (simp; done) | (simp; omega)))

set_option maxRecDepth 100000 in
set_option maxHeartbeats 1000000 in
theorem eqMach_any (A1 A2 : Option Addr) (n c1 c2 : Nat) (B1 B2 : Option Addr) (m d1 d2 Q1 Q2 Q3 Q4 : Nat) (zs : List Int) (xs ys : List Wc) (w : World) (h1 : Rd w Q1 A1 n zs) (h2 : Rd w Q2 A2 n zs) (h3 : RdW w Q3 B1 m xs) (h4 : RdW w Q4 B2 m ys) (hv : vals8 xs = vals8 ys) (q1 : Q1 ≤ w.heap.size) (q2 : Q2 ≤ w.heap.size) (q3 : Q3 ≤ w.heap.size) (q4 : Q4 ≤ w.heap.size)
    (hn : n ≤ 1048576) (hm : m ≤ maxLen) (hf : ∀ i, i < m → (wat xs i).v.vs.length ≤ maxLen ∧ (wat xs i).v.gs.length ≤ maxLen) :
    Calls Try.prog 26 #[.agg #[.slice A1 n c1, .slice B1 m d1], .agg #[.slice A2 n c2, .slice B2 m d2]] w fun e w' => e = .returned (.bool true) ∧ Below w.heap.size w w' := by
  have HE : Hid (∀ W, Below w.heap.size w W → Calls Try.prog 62 #[.agg #[.slice A1 n c1], .agg #[.slice A2 n c2]] W fun e w' => e = .returned (.bool true) ∧ Below W.heap.size W w') := fun W hb => (U.eqMem_any A1 A2 n n c1 c2 Q1 Q2 zs zs W (h1.below (hb.mono q1)) (h2.below (hb.mono q2)) (Nat.le_trans q1 hb.size) (Nat.le_trans q2 hb.size) hn hn).mono fun e w' ⟨he, hk⟩ => ⟨by rw [he]; simp, hk⟩
  have HE2 : Hid (∀ W, Below w.heap.size w W → Calls Try.prog 63 #[.slice B1 m d1, .slice B2 m d2] W fun e w' => e = .returned (.bool true) ∧ Below W.heap.size W w') := fun W hb => eqWarpS_any B1 B2 m d1 d2 Q3 Q4 xs ys W (h3.below (hb.mono q3)) (h4.below (hb.mono q4)) hv (Nat.le_trans q3 hb.size) (Nat.le_trans q4 hb.size) hm hf
  have HB0 := Lib.hid (bel2 w (.cells #[.slice A1 n c1, .slice B1 m d1] 51) (.cells #[.slice A2 n c2, .slice B2 m d2] 51))
  clear h1 h2 h3 h4 hf
  go_enter Try.func26, Try.ntmps26
  go_wp2_with fail
  refine (HE.out _ HB0.out).mono ?_
  rintro e w1 ⟨rfl, hb⟩
  obtain ⟨h2, h3, hB1', z1⟩ := nw2 hb
  have B1w := Lib.hid hB1'
  have a1 := blkc h2 1 rfl
  have b1 := blkc h3 1 rfl
  clear hb h2 h3 hB1' HE HB0
  go_wp2_with fail
  refine (HE2.out _ B1w.out).mono ?_
  rintro e w2 ⟨rfl, hb⟩
  have B2w := Lib.hid (B1w.out.trans (hb.mono B1w.out.size))
  clear hb HE2 B1w a1 b1
  go_wp2
  go_ret
  exact ⟨rfl, B2w.out⟩

set_option maxHeartbeats 1000000 in
theorem szMach_any (A : Option Addr) (n c : Nat) (B : Option Addr) (m d Q : Nat) (xs : List Wc) (w : World) (hn : n ≤ maxLen) (h : RdW w Q B m xs) (hQ : Q ≤ w.heap.size) (hm : m ≤ maxLen) (hf : ∀ i, i < m → (wat xs i).v.vs.length ≤ maxLen ∧ (wat xs i).v.gs.length ≤ maxLen) :
    Calls Try.prog 29 #[.agg #[.slice A n c, .slice B m d], .int .i64 1048576] w fun e w' => ∃ r : Int, e = .returned (.int .i64 r) ∧ (r = -1 ∨ (0 ≤ r ∧ r ≤ 1048576 ∧ n ≤ 1048576 ∧ m ≤ 1048576 ∧ ∀ i, i < m → (wat xs i).v.vs.length ≤ 1048576 ∧ (wat xs i).v.gs.length ≤ 1048576)) ∧ Below w.heap.size w w' := by
  have HS := Lib.hid (fun W => U.szMem_any A n c 1048576 W hn (by omega) (by omega))
  have HB0 := Lib.hid (bel1 w (.cells #[.slice A n c, .slice B m d] 60))
  by_cases h0 : (1048576 : Int) - n < 0
  · simp only [if_pos h0] at HS
    clear h hf h0
    go_enter Try.func29, Try.ntmps29
    go_wp2_with fail
    refine (HS.out _).mono ?_
    rintro e w1 ⟨rfl, hb⟩
    have B1 := Lib.hid (HB0.out.trans (hb.mono HB0.out.size))
    clear hb
    go_wp2
    go_ret
    exact ⟨-1, rfl, .inl rfl, B1.out⟩
  · simp only [if_neg h0] at HS
    have HW : Hid (∀ W, Below w.heap.size w W → Calls Try.prog 69 #[.slice B m d, .int .i64 (1048576 - (n : Int))] W fun e w' => ∃ r : Int, e = .returned (.int .i64 r) ∧ r ≤ 1048576 - (n : Int) ∧ (r = -1 ∨ (0 ≤ r ∧ (m : Int) ≤ 1048576 - (n : Int) ∧ ∀ i, i < m → ((wat xs i).v.vs.length : Int) + (wat xs i).v.gs.length ≤ 1048576 - (n : Int))) ∧ Below W.heap.size W w') := fun W hb => szWarpS_any B m d Q xs (1048576 - (n : Int)) W (h.below (hb.mono hQ)) (Nat.le_trans hQ hb.size) hm hf (by omega) (by omega)
    clear h hf
    go_enter Try.func29, Try.ntmps29
    go_wp2_with fail
    refine (HS.out _).mono ?_
    rintro e w1 ⟨rfl, hb⟩
    obtain ⟨h2, hB1, z1⟩ := nw1 hb
    have B1 := Lib.hid hB1
    have a1 := blkc h2 1 rfl
    clear hb h2 hB1 HS HB0
    go_wp2_with fail
    refine (HW.out _ B1.out).mono ?_
    rintro e w2 ⟨r, rfl, hr, hor, hb⟩
    have B2 := Lib.hid (B1.out.trans (hb.mono B1.out.size))
    have HO := Lib.hid hor
    clear hb HW B1 a1 hor
    by_cases hz : r < 0
    · have HR : Hid (r = -1) := by rcases HO.out with e | ⟨e, _⟩; (exact e); omega
      go_wp2
      go_ret
      exact ⟨-1, rfl, .inl rfl, B2.out⟩
    · go_wp2
      go_ret
      refine ⟨r, rfl, .inr ?_, B2.out⟩
      rcases HO.out with e | ⟨e, e2, e3⟩
      · omega
      · exact ⟨e, by omega, by omega, by omega, fun i hi => by have := e3 i hi; omega⟩

end Go.Proofs.Ytooegpebimpjcaa
