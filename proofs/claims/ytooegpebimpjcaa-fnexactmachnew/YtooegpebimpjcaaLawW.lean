/- The contracts of the laws' helpers on warps: copy, compare, size, mark, held. -/
import Derived.Test.YtooegpebimpjcaaLawR
import Derived.Test.YtooegpebimpjcaaKp
import Derived.Test.YtooegpebimpjcaaIWarp
namespace Go.Proofs.Ytooegpebimpjcaa
open Go.RowKit
set_option linter.unusedVariables false

set_option maxHeartbeats 1000000 in
theorem szWarp_yes (kd : Int) (A : Option Addr) (n c : Nat) (B : Option Addr) (m d td : Nat) (ph pr hd : Int) (sn : Nat) (l : Int) (w : World) (hl : l ≤ 1048576) (hn : (n : Int) + m ≤ l) : Calls Try.prog 13 #[.agg #[.int .i64 kd, .slice A n c, .slice B m d, .int .u32 (td : Int), .int .i64 ph, .int .i64 pr, .int .i64 hd, .int .u32 (sn : Int)], .int .i64 l] w fun e w' => e = .returned (.int .i64 (l - n - m)) ∧ Below w.heap.size w w' := by
  have h1 : ¬ l - (n : Int) < 0 := by omega
  have h1b : ¬ l - (n : Int) - (m : Int) < 0 := by omega
  have HS := Lib.hid (fun W => szI_yes A n c l W hl (by omega))
  have HS2 := Lib.hid (fun W => szI_yes B m d (l - n) W (by omega) (by omega))
  have h2 : (0 : Int) ≤ n := by omega
  have h3 : (0 : Int) ≤ m := by omega
  clear hn
  go_enter Try.func13, Try.ntmps13
  go_wp2_with fail
  refine (HS.out _).mono ?_
  rintro e w1 ⟨rfl, rfl⟩
  go_wp2_with fail
  refine (HS2.out _).mono ?_
  rintro e w1 ⟨rfl, rfl⟩
  go_wp2
  go_ret
  exact ⟨rfl, (Below.refl _ _).alloc (Nat.le_refl _) _⟩

set_option maxHeartbeats 1000000 in
theorem szWarp_no (kd : Int) (A : Option Addr) (n c : Nat) (B : Option Addr) (m d td : Nat) (ph pr hd : Int) (sn : Nat) (l : Int) (w : World) (hl : l ≤ 1048576) (h0 : 0 ≤ l) (hm : n ≤ maxLen) (hm2 : m ≤ maxLen) (hn : l < (n : Int) + m) : Calls Try.prog 13 #[.agg #[.int .i64 kd, .slice A n c, .slice B m d, .int .u32 (td : Int), .int .i64 ph, .int .i64 pr, .int .i64 hd, .int .u32 (sn : Int)], .int .i64 l] w fun e w' => e = .returned (.int .i64 (-1)) ∧ Below w.heap.size w w' := by
  by_cases hn1 : (n : Int) ≤ l
  · have HS := Lib.hid (fun W => szI_yes A n c l W hl hn1)
    have HS2 := Lib.hid (fun W => szI_no B m d (l - n) W (by omega) (by omega) hm2 (by omega))
    have h1 : ¬ l - (n : Int) < 0 := by omega
    have h2 : (0 : Int) ≤ n := by omega
    clear hn hm hm2 hn1
    go_enter Try.func13, Try.ntmps13
    go_wp2_with fail
    refine (HS.out _).mono ?_
    rintro e w1 ⟨rfl, rfl⟩
    go_wp2_with fail
    refine (HS2.out _).mono ?_
    rintro e w1 ⟨rfl, rfl⟩
    go_wp2
    go_ret
    exact ⟨rfl, (Below.refl _ _).alloc (Nat.le_refl _) _⟩
  · have HS := Lib.hid (fun W => szI_no A n c l W hl h0 hm (by omega))
    clear hn hm hm2 hn1
    go_enter Try.func13, Try.ntmps13
    go_wp2_with fail
    refine (HS.out _).mono ?_
    rintro e w1 ⟨rfl, rfl⟩
    go_wp2
    go_ret
    exact ⟨rfl, (Below.refl _ _).alloc (Nat.le_refl _) _⟩

set_option maxRecDepth 100000 in
set_option maxHeartbeats 4000000 in
theorem toWarp_any (kd : Int) (A : Option Addr) (n c : Nat) (B : Option Addr) (m d td : Nat) (ph pr hd : Int) (sn : Nat) (B1 B2 : Nat) (vs gs : List Int) (w : World) (h : RdK .i64 w B1 A n vs) (hB : B1 ≤ w.heap.size) (hn : n ≤ 1048576) (h2 : RdK .i64 w B2 B m gs) (hB2 : B2 ≤ w.heap.size) (hm : m ≤ 1048576) :
    Calls Try.prog 16 #[.agg #[.int .i64 kd, .slice A n c, .slice B m d, .int .u32 (td : Int), .int .i64 ph, .int .i64 pr, .int .i64 hd, .int .u32 (sn : Int)]] w fun e w' => ∃ g g2, e = .returned (.agg #[.int .i64 kd, .slice (some ⟨g, 0, none⟩) n n, .slice (some ⟨g2, 0, none⟩) m m, .int .u32 (td : Int), .int .i64 ph, .int .i64 pr, .int .i64 hd, .int .u32 (sn : Int)]) ∧ OwnK 3 .i64 w' w.heap.size (some ⟨g, 0, none⟩) n n vs ∧ OwnK 3 .i64 w' (g + 1) (some ⟨g2, 0, none⟩) m m gs ∧ Below w.heap.size w w' := by
  have HT : Hid (∀ W, Below w.heap.size w W → Calls Try.prog 52 #[.slice A n c] W fun e w' => ∃ g, e = .returned (.slice (some ⟨g, 0, none⟩) n n) ∧ OwnK 3 .i64 w' W.heap.size (some ⟨g, 0, none⟩) n n vs ∧ Below W.heap.size W w') := fun W hb => toI_any A n c B1 vs W (h.below (hb.mono hB)) (Nat.le_trans hB hb.size) hn
  have HT2 : Hid (∀ W, Below w.heap.size w W → Calls Try.prog 52 #[.slice B m d] W fun e w' => ∃ g, e = .returned (.slice (some ⟨g, 0, none⟩) m m) ∧ OwnK 3 .i64 w' W.heap.size (some ⟨g, 0, none⟩) m m gs ∧ Below W.heap.size W w') := fun W hb => toI_any B m d B2 gs W (h2.below (hb.mono hB2)) (Nat.le_trans hB2 hb.size) hm
  clear h hB hn h2 hB2 hm
  go_enter Try.func16, Try.ntmps16
  go_wp2_with fail
  refine (HT.out _ (bel3 _ _ _ _)).mono ?_
  rintro e w4 ⟨g, rfl, ho, hb⟩
  rw [sz3] at ho
  have O4 := Lib.hid ho
  obtain ⟨hx, hr, ha, hB4, z4⟩ := nw3 hb
  have B4 := Lib.hid hB4
  have X4 := Lib.hid hx
  have R4 := Lib.hid hr
  have A4 := Lib.hid ha
  have a1 := blkc ha 1 rfl
  have fa := blkf ha
  have x2 := blkc hx 2 rfl
  clear ho hb HT hr ha hB4 hx
  go_wp2_with fail
  refine (HT2.out _ (by repeat (first | exact B4.out | refine Below.setCell ?_ (by first | omega | (simp; done) | (simp; omega) | (simp [*]; done)) _))).mono ?_
  rintro e w5 ⟨g2, rfl, ho, hb⟩
  have hz5 := hb.size
  have e4 : (w4.setCell ⟨w.heap.size + 2, 1, none⟩ (.slice (some ⟨g, 0, none⟩) n n)).heap.size = w4.heap.size := by simp [World.setCell]
  have hz5' : w4.heap.size ≤ w5.heap.size := Nat.le_trans (Nat.le_of_eq e4.symm) hz5
  have hA := heap_setCell_same w4 (w.heap.size + 2) 1 _ _ (.slice (some ⟨g, 0, none⟩) n n) A4.out
  have ha : w5.heap[w.heap.size + 2]? = some (.cells #[.int .i64 kd, .slice (some ⟨g, 0, none⟩) n n, .slice none 0 0, .int .u32 0, .int .i64 0, .int .i64 0, .int .i64 0, .int .u32 0] 35 (0, 0)) := (hb.block _ (Nat.lt_of_lt_of_le z4 (Nat.le_of_eq e4.symm))).trans hA
  have hx : w5.heap[w.heap.size]? = some (.cells #[.int .i64 kd, .slice A n c, .slice B m d, .int .u32 (td : Int), .int .i64 ph, .int .i64 pr, .int .i64 hd, .int .u32 (sn : Int)] 30 (0, 0)) := (hb.block _ (Nat.lt_of_lt_of_le (by omega) (Nat.le_of_eq e4.symm))).trans ((Below.heap_setCell _ _ _ _ (show w.heap.size ≠ w.heap.size + 2 by omega)).trans X4.out)
  have hr := (hb.block _ (Nat.lt_of_lt_of_le (show w.heap.size + 1 < w4.heap.size by omega) (Nat.le_of_eq e4.symm))).trans ((Below.heap_setCell _ _ _ _ (show w.heap.size + 1 ≠ w.heap.size + 2 by omega)).trans R4.out)
  have hg := O4.out.range g rfl
  have O5a : Hid (OwnK 3 .i64 w5 (w.heap.size + 3) (some ⟨g, 0, none⟩) n n vs) := (O4.out.low (p := ⟨w.heap.size + 2, 1, none⟩) (by simp) (.slice (some ⟨g, 0, none⟩) n n)).below hb
  have O5b : Hid (OwnK 3 .i64 w5 w4.heap.size (some ⟨g2, 0, none⟩) m m gs) := ho.from_ (Nat.le_of_eq e4.symm)
  have B5 : Hid (Below w.heap.size w w5) := (B4.out.setCell (p := ⟨w.heap.size + 2, 1, none⟩) (by simp) _).trans (hb.mono (by rw [e4]; omega))
  have z5 : w.heap.size + 2 < w5.heap.size := by omega
  have hg2 := O5b.out.range g2 rfl
  have a0' := blkc ha 0 rfl
  have a1' := blkc ha 1 rfl
  have a2' := blkc ha 2 rfl
  have a3' := blkc ha 3 rfl
  have a4' := blkc ha 4 rfl
  have a5' := blkc ha 5 rfl
  have a6' := blkc ha 6 rfl
  have a7' := blkc ha 7 rfl
  have fa' := blkf ha
  have x3 := blkc hx 3 rfl
  have x4 := blkc hx 4 rfl
  have x5 := blkc hx 5 rfl
  have x6 := blkc hx 6 rfl
  have x7 := blkc hx 7 rfl
  have r0 := blkc hr 0 rfl
  have r1 := blkc hr 1 rfl
  have r2 := blkc hr 2 rfl
  have r3 := blkc hr 3 rfl
  have r4 := blkc hr 4 rfl
  have r5 := blkc hr 5 rfl
  have r6 := blkc hr 6 rfl
  have r7 := blkc hr 7 rfl
  have fr := blkf hr
  clear ho hb HT2 X4 R4 A4 a1 fa x2 hA ha hx hr e4 hz5 hz5' O4 B4 z4
  go_wp2
  refine bodyPost_ret (v := .agg #[.int .i64 kd, .slice (some ⟨g, 0, none⟩) n n, .slice (some ⟨g2, 0, none⟩) m m, .int .u32 (td : Int), .int .i64 ph, .int .i64 pr, .int .i64 hd, .int .u32 (sn : Int)]) (by simp [results, Try.results16, go_sem, r0, r1, r2, r3, r4, r5, r6, r7]) rfl ⟨g, g2, rfl, ?_, ?_, ?_⟩
  · exact OwnK.from_ (b0 := w.heap.size + 3) (by repeat' (first | (with_reducible exact O5a.out) | (with_reducible refine OwnK.low ?_ ?_ _) | omega | (simp; done) | (simp; omega))) (by omega)
  · exact OwnK.from_ (b0 := w4.heap.size) (by repeat' (first | (with_reducible exact O5b.out) | (with_reducible refine OwnK.low ?_ ?_ _) | omega | (simp; done) | (simp; omega))) (by omega)
  · exact (by repeat' (first | (with_reducible exact B5.out) | (with_reducible refine Below.setCell ?_ ?_ _) | (with_reducible refine Below.alloc ?_ ?_ _) | omega | (simp; done) | (simp; omega)))


set_option maxRecDepth 100000 in
set_option maxHeartbeats 2000000 in
theorem eqWarp_any (kd : Int) (A A2 : Option Addr) (n c c2 : Nat) (B B2 : Option Addr) (m d d2 td : Nat) (ph pr hd : Int) (sn Q1 Q2 Q3 Q4 : Nat) (vs gs : List Int) (w : World) (h1 : RdK .i64 w Q1 A n vs) (h2 : RdK .i64 w Q2 A2 n vs) (h3 : RdK .i64 w Q3 B m gs) (h4 : RdK .i64 w Q4 B2 m gs)
    (q1 : Q1 ≤ w.heap.size) (q2 : Q2 ≤ w.heap.size) (q3 : Q3 ≤ w.heap.size) (q4 : Q4 ≤ w.heap.size) (hn : n ≤ maxLen) (hm : m ≤ maxLen) :
    Calls Try.prog 19 #[.agg #[.int .i64 kd, .slice A n c, .slice B m d, .int .u32 (td : Int), .int .i64 ph, .int .i64 pr, .int .i64 hd, .int .u32 (sn : Int)], .agg #[.int .i64 kd, .slice A2 n c2, .slice B2 m d2, .int .u32 (td : Int), .int .i64 ph, .int .i64 pr, .int .i64 hd, .int .u32 (sn : Int)]] w fun e w' => e = .returned (.bool true) ∧ Below w.heap.size w w' := by
  have HE : Hid (∀ W, Below w.heap.size w W → Calls Try.prog 57 #[.slice A n c, .slice A2 n c2] W fun e w' => e = .returned (.bool true) ∧ ∃ k, w' = W.drewN k) := fun W hb => (eqI_any A A2 n n c c2 Q1 Q2 vs vs W (h1.below (hb.mono q1)) (h2.below (hb.mono q2)) hn hn).mono fun e w' ⟨he, hk⟩ => ⟨by rw [he]; simp, hk⟩
  have HE2 : Hid (∀ W, Below w.heap.size w W → Calls Try.prog 57 #[.slice B m d, .slice B2 m d2] W fun e w' => e = .returned (.bool true) ∧ ∃ k, w' = W.drewN k) := fun W hb => (eqI_any B B2 m m d d2 Q3 Q4 gs gs W (h3.below (hb.mono q3)) (h4.below (hb.mono q4)) hm hm).mono fun e w' ⟨he, hk⟩ => ⟨by rw [he]; simp, hk⟩
  clear h1 h2 h3 h4 hm hn q1 q2 q3 q4
  have b1 : (kd != kd) = false := by simp
  have b2 : ((td : Int) != (td : Int)) = false := by simp
  have b3 : (ph != ph) = false := by simp
  have b4 : (pr != pr) = false := by simp
  have b5 : (hd != hd) = false := by simp
  have b6 : ((sn : Int) != (sn : Int)) = false := by simp
  have B0 := Lib.hid (bel2 w (.cells #[.int .i64 kd, .slice A n c, .slice B m d, .int .u32 (td : Int), .int .i64 ph, .int .i64 pr, .int .i64 hd, .int .u32 (sn : Int)] 35) (.cells #[.int .i64 kd, .slice A2 n c2, .slice B2 m d2, .int .u32 (td : Int), .int .i64 ph, .int .i64 pr, .int .i64 hd, .int .u32 (sn : Int)] 35))
  go_enter Try.func19, Try.ntmps19
  go_wp2_with fail
  refine (HE.out _ B0.out).mono ?_
  rintro e w1 ⟨rfl, k, rfl⟩
  have B1 := Lib.hid (bel_drewN B0.out k)
  go_wp2_with fail
  refine (HE2.out _ B1.out).mono ?_
  rintro e w1 ⟨rfl, k2, rfl⟩
  clear HE HE2
  go_wp2
  go_ret
  exact ⟨rfl, bel_drewN B0.out _⟩

set_option maxRecDepth 100000 in
set_option maxHeartbeats 2000000 in
theorem markWarp_any {ty1 ty2 : TypeId} (kd : Int) (A : Option Addr) (n c : Nat) (B : Option Addr) (m d td : Nat) (ph pr hd : Int) (sn : Nat) (q : Int) (b0 b1 : Nat) (vs gs : List Int) (w : World) (h1 : OwnK ty1 .i64 w b0 A n c vs) (h2 : OwnK ty2 .i64 w b1 B m d gs) (hne : ∀ g, (Value.slice A n c).ownBlock = some g → (Value.slice B m d).ownBlock ≠ some g)
    (hn : n ≤ 2000000) (hm : m ≤ 2000000) (h0 : 0 ≤ q) (hq : q ≤ 10000000) :
    Calls Try.prog 21 #[.agg #[.int .i64 kd, .slice A n c, .slice B m d, .int .u32 (td : Int), .int .i64 ph, .int .i64 pr, .int .i64 hd, .int .u32 (sn : Int)], .int .i64 q] w fun e w' => e = .returned (.int .i64 (q + n + m)) ∧ OwnK ty1 .i64 w' b0 A n c (marksF q n) ∧ OwnK ty2 .i64 w' b1 B m d (marksF (q + n) m) ∧ Kp (In2 (.slice A n c) (.slice B m d)) w w' := by
  have HO1 := Lib.hid h1
  have HO2 := Lib.hid h2
  have HN := Lib.hid hne
  clear h1 h2 hne
  go_enter Try.func21, Try.ntmps21
  go_wp2_with fail
  have O1 := Lib.hid (HO1.out.alloc (.cells #[.int .i64 kd, .slice A n c, .slice B m d, .int .u32 (td : Int), .int .i64 ph, .int .i64 pr, .int .i64 hd, .int .u32 (sn : Int)] 35))
  have O2 := Lib.hid (HO2.out.alloc (.cells #[.int .i64 kd, .slice A n c, .slice B m d, .int .u32 (td : Int), .int .i64 ph, .int .i64 pr, .int .i64 hd, .int .u32 (sn : Int)] 35))
  have K1 : Hid (Kp (In2 (.slice A n c) (.slice B m d)) w (w.alloc (.cells #[.int .i64 kd, .slice A n c, .slice B m d, .int .u32 (td : Int), .int .i64 ph, .int .i64 pr, .int .i64 hd, .int .u32 (sn : Int)] 35))) := Kp.of_below (bel1 _ _)
  have HA : Hid ((w.alloc (.cells #[.int .i64 kd, .slice A n c, .slice B m d, .int .u32 (td : Int), .int .i64 ph, .int .i64 pr, .int .i64 hd, .int .u32 (sn : Int)] 35)).heap[w.heap.size]? = some (.cells #[.int .i64 kd, .slice A n c, .slice B m d, .int .u32 (td : Int), .int .i64 ph, .int .i64 pr, .int .i64 hd, .int .u32 (sn : Int)] 35 (0, 0))) := heap_alloc_new w _
  have hA1 : ∀ g, (Value.slice A n c).ownBlock = some g → g < w.heap.size := fun g hg => (HO1.out.range g hg).2
  refine (markF_any A n c b0 q vs _ O1.out hn h0 (by omega)).mono ?_
  rintro e w2 ⟨rfl, ho, hg⟩
  have O1b := Lib.hid ho
  have O2b : Hid (OwnK ty2 .i64 w2 b1 B m d gs) := O2.out.far hg (fun g hg1 hg2 => HN.out g hg2 hg1)
  have K2 : Hid (Kp (In2 (.slice A n c) (.slice B m d)) w w2) := K1.out.trans (Kp.of_grown hg (fun k hk => .inl hk))
  have ha := (hg.block w.heap.size (by simp) (fun e => by have := hA1 _ e.symm; omega)).trans HA.out
  have a2 := blkc ha 2 rfl
  clear ho hg O1 O2 K1 HA ha hA1
  go_wp2_with fail
  refine (markF_any B m d b1 (q + n) gs _ O2b.out hm (by omega) (by omega)).mono ?_
  rintro e w3 ⟨rfl, ho, hg⟩
  have O2c := Lib.hid ho
  have O1c : Hid (OwnK ty1 .i64 w3 b0 A n c (marksF q n)) := O1b.out.far hg (fun g hg1 hg2 => HN.out g hg1 hg2)
  have K3 : Hid (Kp (In2 (.slice A n c) (.slice B m d)) w w3) := K2.out.trans (Kp.of_grown hg (fun k hk => .inr hk))
  clear ho hg O1b O2b K2 a2
  go_wp2
  go_ret
  exact ⟨rfl, O1c.out, O2c.out, K3.out⟩

set_option maxRecDepth 100000 in
set_option maxHeartbeats 2000000 in
theorem heldWarp_any (kd : Int) (A : Option Addr) (n c : Nat) (B : Option Addr) (m d td : Nat) (ph pr hd : Int) (sn : Nat) (q : Int) (Q1 Q2 : Nat) (w : World) (h1 : RdK .i64 w Q1 A n (marksF q n)) (h2 : RdK .i64 w Q2 B m (marksF (q + n) m)) (q1 : Q1 ≤ w.heap.size) (q2 : Q2 ≤ w.heap.size)
    (hn : n ≤ 2000000) (hm : m ≤ 2000000) (h0 : 0 ≤ q) (hq : q ≤ 10000000) :
    Calls Try.prog 23 #[.agg #[.int .i64 kd, .slice A n c, .slice B m d, .int .u32 (td : Int), .int .i64 ph, .int .i64 pr, .int .i64 hd, .int .u32 (sn : Int)], .int .i64 q] w fun e w' => e = .returned (.int .i64 (q + n + m)) ∧ Below w.heap.size w w' := by
  have HH : Hid (∀ W, Below w.heap.size w W → Calls Try.prog 59 #[.slice A n c, .int .i64 q] W fun e w' => e = .returned (.int .i64 (q + n)) ∧ W = w') := fun W hb => heldF_any A n c Q1 q W (h1.below (hb.mono q1)) hn h0 (by omega)
  have HH2 : Hid (∀ W, Below w.heap.size w W → Calls Try.prog 59 #[.slice B m d, .int .i64 (q + n)] W fun e w' => e = .returned (.int .i64 (q + n + m)) ∧ W = w') := fun W hb => heldF_any B m d Q2 (q + n) W (h2.below (hb.mono q2)) hm (by omega) (by omega)
  have p1 : ¬ q + (n : Int) < 0 := by omega
  have p2 : ¬ q + (n : Int) + (m : Int) < 0 := by omega
  clear h1 h2
  have B0 := Lib.hid (bel1 w (.cells #[.int .i64 kd, .slice A n c, .slice B m d, .int .u32 (td : Int), .int .i64 ph, .int .i64 pr, .int .i64 hd, .int .u32 (sn : Int)] 35))
  go_enter Try.func23, Try.ntmps23
  go_wp2_with fail
  refine (HH.out _ B0.out).mono ?_
  rintro e w1 ⟨rfl, rfl⟩
  go_wp2_with fail
  refine (HH2.out _ B0.out).mono ?_
  rintro e w1 ⟨rfl, rfl⟩
  clear HH HH2
  go_wp2
  go_ret
  exact ⟨rfl, B0.out⟩

end Go.Proofs.Ytooegpebimpjcaa
