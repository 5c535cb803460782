/- The contracts of the laws' helpers on warps: copy, compare, size, mark, held. -/
/- How an argument of these statements is opened: a request, a warp. -/
import Derived.Test.YtflccpoaacidgaaLawR
import Derived.Test.YtflccpoaacidgaaKp
import Derived.Test.YtflccpoaacidgaaIWarp
import Derived.Test.YtflccpoaacidgaaOpenB
import Derived.Test.YtflccpoaacidgaaOwnK
import Derived.Lib.SmallJoins
namespace Go.Proofs.Ytflccpoaacidgaa
open Go.RowKit
set_option linter.unusedVariables false

set_option maxHeartbeats 1000000 in
theorem szWarp_yes (kd : Int) (A : Option Addr) (n c : Nat) (B : Option Addr) (m d td : Nat) (ph pr hd : Int) (sn : Nat) (l : Int) (w : World) (hl : l ≤ 1048576) (hn : (n : Int) + m ≤ l) : Calls Try.prog 24 #[.agg #[.int .i64 kd, .slice A n c, .slice B m d, .int .u32 (td : Int), .int .i64 ph, .int .i64 pr, .int .i64 hd, .int .u32 (sn : Int)], .int .i64 l] w fun e w' => e = .returned (.int .i64 (l - n - m)) ∧ Below w.heap.size w w' := by
  have h1 : ¬ l - (n : Int) < 0 := by omega
  have h1b : ¬ l - (n : Int) - (m : Int) < 0 := by omega
  have HS := Lib.hid (fun W => szI_yes A n c l W hl (by omega))
  have HS2 := Lib.hid (fun W => szI_yes B m d (l - n) W (by omega) (by omega))
  have h2 : (0 : Int) ≤ n := by omega
  have h3 : (0 : Int) ≤ m := by omega
  clear hn
  go_enter Try.func24, Try.ntmps24
  go_wp2_with fail
  refine (HS.out _).mono ?_
  rintro e w1 ⟨rfl, rfl⟩
  go_wp2_with fail
  refine (HS2.out _).mono ?_
  rintro e w1 ⟨rfl, rfl⟩
  go_wp2
  go_ret
  exact ⟨rfl, (Below.refl _ _).alloc (Nat.le_refl _) _⟩

set_option maxHeartbeats 1000000 in
theorem szWarp_no (kd : Int) (A : Option Addr) (n c : Nat) (B : Option Addr) (m d td : Nat) (ph pr hd : Int) (sn : Nat) (l : Int) (w : World) (hl : l ≤ 1048576) (h0 : 0 ≤ l) (hm : n ≤ maxLen) (hm2 : m ≤ maxLen) (hn : l < (n : Int) + m) : Calls Try.prog 24 #[.agg #[.int .i64 kd, .slice A n c, .slice B m d, .int .u32 (td : Int), .int .i64 ph, .int .i64 pr, .int .i64 hd, .int .u32 (sn : Int)], .int .i64 l] w fun e w' => e = .returned (.int .i64 (-1)) ∧ Below w.heap.size w w' := by
  by_cases hn1 : (n : Int) ≤ l
  · have HS := Lib.hid (fun W => szI_yes A n c l W hl hn1)
    have HS2 := Lib.hid (fun W => szI_no B m d (l - n) W (by omega) (by omega) hm2 (by omega))
    have h1 : ¬ l - (n : Int) < 0 := by omega
    have h2 : (0 : Int) ≤ n := by omega
    clear hn hm hm2 hn1
    go_enter Try.func24, Try.ntmps24
    go_wp2_with fail
    refine (HS.out _).mono ?_
    rintro e w1 ⟨rfl, rfl⟩
    go_wp2_with fail
    refine (HS2.out _).mono ?_
    rintro e w1 ⟨rfl, rfl⟩
    go_wp2
    go_ret
    exact ⟨rfl, (Below.refl _ _).alloc (Nat.le_refl _) _⟩
  · have HS := Lib.hid (fun W => szI_no A n c l W hl h0 hm (by omega))
    clear hn hm hm2 hn1
    go_enter Try.func24, Try.ntmps24
    go_wp2_with fail
    refine (HS.out _).mono ?_
    rintro e w1 ⟨rfl, rfl⟩
    go_wp2
    go_ret
    exact ⟨rfl, (Below.refl _ _).alloc (Nat.le_refl _) _⟩

set_option maxRecDepth 100000 in
set_option maxHeartbeats 4000000 in
theorem toWarp_any (kd : Int) (A : Option Addr) (n c : Nat) (B : Option Addr) (m d td : Nat) (ph pr hd : Int) (sn : Nat) (B1 B2 : Nat) (vs gs : List Int) (w : World) (h : RdK .i64 w B1 A n vs) (hB : B1 ≤ w.heap.size) (hn : n ≤ 1048576) (h2 : RdK .i64 w B2 B m gs) (hB2 : B2 ≤ w.heap.size) (hm : m ≤ 1048576) :
    Calls Try.prog 26 #[.agg #[.int .i64 kd, .slice A n c, .slice B m d, .int .u32 (td : Int), .int .i64 ph, .int .i64 pr, .int .i64 hd, .int .u32 (sn : Int)]] w fun e w' => ∃ g g2, e = .returned (.agg #[.int .i64 kd, .slice (some ⟨g, 0, none⟩) n n, .slice (some ⟨g2, 0, none⟩) m m, .int .u32 (td : Int), .int .i64 ph, .int .i64 pr, .int .i64 hd, .int .u32 (sn : Int)]) ∧ OwnK 3 .i64 w' w.heap.size (some ⟨g, 0, none⟩) n n vs ∧ OwnK 3 .i64 w' (g + 1) (some ⟨g2, 0, none⟩) m m gs ∧ Below w.heap.size w w' := by
  have HT : Hid (∀ W, Below w.heap.size w W → Calls Try.prog 40 #[.slice A n c] W fun e w' => ∃ g, e = .returned (.slice (some ⟨g, 0, none⟩) n n) ∧ OwnK 3 .i64 w' W.heap.size (some ⟨g, 0, none⟩) n n vs ∧ Below W.heap.size W w') := fun W hb => toI_any A n c B1 vs W (h.below (hb.mono hB)) (Nat.le_trans hB hb.size) hn
  have HT2 : Hid (∀ W, Below w.heap.size w W → Calls Try.prog 40 #[.slice B m d] W fun e w' => ∃ g, e = .returned (.slice (some ⟨g, 0, none⟩) m m) ∧ OwnK 3 .i64 w' W.heap.size (some ⟨g, 0, none⟩) m m gs ∧ Below W.heap.size W w') := fun W hb => toI_any B m d B2 gs W (h2.below (hb.mono hB2)) (Nat.le_trans hB2 hb.size) hm
  clear h hB hn h2 hB2 hm
  go_enter Try.func26, Try.ntmps26
  go_wp2_with fail
  refine (HT.out _ (bel3 _ _ _ _)).mono ?_
  rintro e w4 ⟨g, rfl, ho, hb⟩
  rw [sz3] at ho
  have O4 := Lib.hid ho
  obtain ⟨hx, hr, ha, hB4, z4⟩ := nw3 hb
  have B4 := Lib.hid hB4
  have X4 := Lib.hid hx
  have R4 := Lib.hid hr
  have A4 := Lib.hid ha
  have a1 := blkc ha 1 rfl
  have fa := blkf ha
  have x2 := blkc hx 2 rfl
  clear ho hb HT hr ha hB4 hx
  go_wp2_with fail
  refine (HT2.out _ (by repeat (first | exact B4.out | refine Below.setCell ?_ (by first | omega | (simp; done) | (simp; omega) | (simp [*]; done)) _))).mono ?_
  rintro e w5 ⟨g2, rfl, ho, hb⟩
  have hz5 := hb.size
  have e4 : (w4.setCell ⟨w.heap.size + 2, 1, none⟩ (.slice (some ⟨g, 0, none⟩) n n)).heap.size = w4.heap.size := by simp [World.setCell]
  have hz5' : w4.heap.size ≤ w5.heap.size := Nat.le_trans (Nat.le_of_eq e4.symm) hz5
  have hA := heap_setCell_same w4 (w.heap.size + 2) 1 _ _ (.slice (some ⟨g, 0, none⟩) n n) A4.out
  have ha : w5.heap[w.heap.size + 2]? = some (.cells #[.int .i64 kd, .slice (some ⟨g, 0, none⟩) n n, .slice none 0 0, .int .u32 0, .int .i64 0, .int .i64 0, .int .i64 0, .int .u32 0] 38 (0, 0)) := (hb.block _ (Nat.lt_of_lt_of_le z4 (Nat.le_of_eq e4.symm))).trans hA
  have hx : w5.heap[w.heap.size]? = some (.cells #[.int .i64 kd, .slice A n c, .slice B m d, .int .u32 (td : Int), .int .i64 ph, .int .i64 pr, .int .i64 hd, .int .u32 (sn : Int)] 43 (0, 0)) := (hb.block _ (Nat.lt_of_lt_of_le (by omega) (Nat.le_of_eq e4.symm))).trans ((Below.heap_setCell _ _ _ _ (show w.heap.size ≠ w.heap.size + 2 by omega)).trans X4.out)
  have hr := (hb.block _ (Nat.lt_of_lt_of_le (show w.heap.size + 1 < w4.heap.size by omega) (Nat.le_of_eq e4.symm))).trans ((Below.heap_setCell _ _ _ _ (show w.heap.size + 1 ≠ w.heap.size + 2 by omega)).trans R4.out)
  have hg := O4.out.range g rfl
  have O5a : Hid (OwnK 3 .i64 w5 (w.heap.size + 3) (some ⟨g, 0, none⟩) n n vs) := (O4.out.low (p := ⟨w.heap.size + 2, 1, none⟩) (by simp) (.slice (some ⟨g, 0, none⟩) n n)).below hb
  have O5b : Hid (OwnK 3 .i64 w5 w4.heap.size (some ⟨g2, 0, none⟩) m m gs) := ho.from_ (Nat.le_of_eq e4.symm)
  have B5 : Hid (Below w.heap.size w w5) := (B4.out.setCell (p := ⟨w.heap.size + 2, 1, none⟩) (by simp) _).trans (hb.mono (by rw [e4]; omega))
  have z5 : w.heap.size + 2 < w5.heap.size := by omega
  have hg2 := O5b.out.range g2 rfl
  have a0' := blkc ha 0 rfl
  have a1' := blkc ha 1 rfl
  have a2' := blkc ha 2 rfl
  have a3' := blkc ha 3 rfl
  have a4' := blkc ha 4 rfl
  have a5' := blkc ha 5 rfl
  have a6' := blkc ha 6 rfl
  have a7' := blkc ha 7 rfl
  have fa' := blkf ha
  have x3 := blkc hx 3 rfl
  have x4 := blkc hx 4 rfl
  have x5 := blkc hx 5 rfl
  have x6 := blkc hx 6 rfl
  have x7 := blkc hx 7 rfl
  have r0 := blkc hr 0 rfl
  have r1 := blkc hr 1 rfl
  have r2 := blkc hr 2 rfl
  have r3 := blkc hr 3 rfl
  have r4 := blkc hr 4 rfl
  have r5 := blkc hr 5 rfl
  have r6 := blkc hr 6 rfl
  have r7 := blkc hr 7 rfl
  have fr := blkf hr
  clear ho hb HT2 X4 R4 A4 a1 fa x2 hA ha hx hr e4 hz5 hz5' O4 B4 z4
  go_wp2
  refine bodyPost_ret (v := .agg #[.int .i64 kd, .slice (some ⟨g, 0, none⟩) n n, .slice (some ⟨g2, 0, none⟩) m m, .int .u32 (td : Int), .int .i64 ph, .int .i64 pr, .int .i64 hd, .int .u32 (sn : Int)]) (by simp [results, Try.results26, go_sem, r0, r1, r2, r3, r4, r5, r6, r7]) rfl ⟨g, g2, rfl, ?_, ?_, ?_⟩
  · exact OwnK.from_ (b0 := w.heap.size + 3) (by repeat' (first | (with_reducible exact O5a.out) | (with_reducible refine OwnK.low ?_ ?_ _) | omega | (simp; done) | (simp; omega))) (by omega)
  · exact OwnK.from_ (b0 := w4.heap.size) (by repeat' (first | (with_reducible exact O5b.out) | (with_reducible refine OwnK.low ?_ ?_ _) | omega | (simp; done) | (simp; omega))) (by omega)
  · exact (by repeat' (first | (with_reducible exact B5.out) | (with_reducible refine Below.setCell ?_ ?_ _) | (with_reducible refine Below.alloc ?_ ?_ _) | omega | (simp; done) | (simp; omega)))


set_option maxRecDepth 100000 in
set_option maxHeartbeats 2000000 in
theorem eqWarp_any (kd : Int) (A A2 : Option Addr) (n c c2 : Nat) (B B2 : Option Addr) (m d d2 td : Nat) (ph pr hd : Int) (sn Q1 Q2 Q3 Q4 : Nat) (vs gs : List Int) (w : World) (h1 : RdK .i64 w Q1 A n vs) (h2 : RdK .i64 w Q2 A2 n vs) (h3 : RdK .i64 w Q3 B m gs) (h4 : RdK .i64 w Q4 B2 m gs)
    (q1 : Q1 ≤ w.heap.size) (q2 : Q2 ≤ w.heap.size) (q3 : Q3 ≤ w.heap.size) (q4 : Q4 ≤ w.heap.size) (hn : n ≤ maxLen) (hm : m ≤ maxLen) :
    Calls Try.prog 21 #[.agg #[.int .i64 kd, .slice A n c, .slice B m d, .int .u32 (td : Int), .int .i64 ph, .int .i64 pr, .int .i64 hd, .int .u32 (sn : Int)], .agg #[.int .i64 kd, .slice A2 n c2, .slice B2 m d2, .int .u32 (td : Int), .int .i64 ph, .int .i64 pr, .int .i64 hd, .int .u32 (sn : Int)]] w fun e w' => e = .returned (.bool true) ∧ Below w.heap.size w w' := by
  have HE : Hid (∀ W, Below w.heap.size w W → Calls Try.prog 42 #[.slice A n c, .slice A2 n c2] W fun e w' => e = .returned (.bool true) ∧ ∃ k, w' = W.drewN k) := fun W hb => (eqI_any A A2 n n c c2 Q1 Q2 vs vs W (h1.below (hb.mono q1)) (h2.below (hb.mono q2)) hn hn).mono fun e w' ⟨he, hk⟩ => ⟨by rw [he]; simp, hk⟩
  have HE2 : Hid (∀ W, Below w.heap.size w W → Calls Try.prog 42 #[.slice B m d, .slice B2 m d2] W fun e w' => e = .returned (.bool true) ∧ ∃ k, w' = W.drewN k) := fun W hb => (eqI_any B B2 m m d d2 Q3 Q4 gs gs W (h3.below (hb.mono q3)) (h4.below (hb.mono q4)) hm hm).mono fun e w' ⟨he, hk⟩ => ⟨by rw [he]; simp, hk⟩
  clear h1 h2 h3 h4 hm hn q1 q2 q3 q4
  have b1 : (kd != kd) = false := by simp
  have b2 : ((td : Int) != (td : Int)) = false := by simp
  have b3 : (ph != ph) = false := by simp
  have b4 : (pr != pr) = false := by simp
  have b5 : (hd != hd) = false := by simp
  have b6 : ((sn : Int) != (sn : Int)) = false := by simp
  have B0 := Lib.hid (bel2 w (.cells #[.int .i64 kd, .slice A n c, .slice B m d, .int .u32 (td : Int), .int .i64 ph, .int .i64 pr, .int .i64 hd, .int .u32 (sn : Int)] 38) (.cells #[.int .i64 kd, .slice A2 n c2, .slice B2 m d2, .int .u32 (td : Int), .int .i64 ph, .int .i64 pr, .int .i64 hd, .int .u32 (sn : Int)] 38))
  go_enter Try.func21, Try.ntmps21
  go_wp2_with fail
  refine (HE.out _ B0.out).mono ?_
  rintro e w1 ⟨rfl, k, rfl⟩
  have B1 := Lib.hid (bel_drewN B0.out k)
  go_wp2_with fail
  refine (HE2.out _ B1.out).mono ?_
  rintro e w1 ⟨rfl, k2, rfl⟩
  clear HE HE2
  go_wp2
  go_ret
  exact ⟨rfl, bel_drewN B0.out _⟩

set_option maxRecDepth 100000 in
set_option maxHeartbeats 2000000 in
theorem markWarp_any {ty1 ty2 : TypeId} (kd : Int) (A : Option Addr) (n c : Nat) (B : Option Addr) (m d td : Nat) (ph pr hd : Int) (sn : Nat) (q : Int) (b0 b1 : Nat) (vs gs : List Int) (w : World) (h1 : OwnK ty1 .i64 w b0 A n c vs) (h2 : OwnK ty2 .i64 w b1 B m d gs) (hne : ∀ g, (Value.slice A n c).ownBlock = some g → (Value.slice B m d).ownBlock ≠ some g)
    (hn : n ≤ 2000000) (hm : m ≤ 2000000) (h0 : 0 ≤ q) (hq : q ≤ 10000000) :
    Calls Try.prog 22 #[.agg #[.int .i64 kd, .slice A n c, .slice B m d, .int .u32 (td : Int), .int .i64 ph, .int .i64 pr, .int .i64 hd, .int .u32 (sn : Int)], .int .i64 q] w fun e w' => e = .returned (.int .i64 (q + n + m)) ∧ OwnK ty1 .i64 w' b0 A n c (marksF q n) ∧ OwnK ty2 .i64 w' b1 B m d (marksF (q + n) m) ∧ Kp (In2 (.slice A n c) (.slice B m d)) w w' := by
  have HO1 := Lib.hid h1
  have HO2 := Lib.hid h2
  have HN := Lib.hid hne
  clear h1 h2 hne
  go_enter Try.func22, Try.ntmps22
  go_wp2_with fail
  have O1 := Lib.hid (HO1.out.alloc (.cells #[.int .i64 kd, .slice A n c, .slice B m d, .int .u32 (td : Int), .int .i64 ph, .int .i64 pr, .int .i64 hd, .int .u32 (sn : Int)] 38))
  have O2 := Lib.hid (HO2.out.alloc (.cells #[.int .i64 kd, .slice A n c, .slice B m d, .int .u32 (td : Int), .int .i64 ph, .int .i64 pr, .int .i64 hd, .int .u32 (sn : Int)] 38))
  have K1 : Hid (Kp (In2 (.slice A n c) (.slice B m d)) w (w.alloc (.cells #[.int .i64 kd, .slice A n c, .slice B m d, .int .u32 (td : Int), .int .i64 ph, .int .i64 pr, .int .i64 hd, .int .u32 (sn : Int)] 38))) := Kp.of_below (bel1 _ _)
  have HA : Hid ((w.alloc (.cells #[.int .i64 kd, .slice A n c, .slice B m d, .int .u32 (td : Int), .int .i64 ph, .int .i64 pr, .int .i64 hd, .int .u32 (sn : Int)] 38)).heap[w.heap.size]? = some (.cells #[.int .i64 kd, .slice A n c, .slice B m d, .int .u32 (td : Int), .int .i64 ph, .int .i64 pr, .int .i64 hd, .int .u32 (sn : Int)] 38 (0, 0))) := heap_alloc_new w _
  have hA1 : ∀ g, (Value.slice A n c).ownBlock = some g → g < w.heap.size := fun g hg => (HO1.out.range g hg).2
  refine (markF_any A n c b0 q vs _ O1.out hn h0 (by omega)).mono ?_
  rintro e w2 ⟨rfl, ho, hg⟩
  have O1b := Lib.hid ho
  have O2b : Hid (OwnK ty2 .i64 w2 b1 B m d gs) := O2.out.far hg (fun g hg1 hg2 => HN.out g hg2 hg1)
  have K2 : Hid (Kp (In2 (.slice A n c) (.slice B m d)) w w2) := K1.out.trans (Kp.of_grown hg (fun k hk => .inl hk))
  have ha := (hg.block w.heap.size (by simp) (fun e => by have := hA1 _ e.symm; omega)).trans HA.out
  have a2 := blkc ha 2 rfl
  clear ho hg O1 O2 K1 HA ha hA1
  go_wp2_with fail
  refine (markF_any B m d b1 (q + n) gs _ O2b.out hm (by omega) (by omega)).mono ?_
  rintro e w3 ⟨rfl, ho, hg⟩
  have O2c := Lib.hid ho
  have O1c : Hid (OwnK ty1 .i64 w3 b0 A n c (marksF q n)) := O1b.out.far hg (fun g hg1 hg2 => HN.out g hg1 hg2)
  have K3 : Hid (Kp (In2 (.slice A n c) (.slice B m d)) w w3) := K2.out.trans (Kp.of_grown hg (fun k hk => .inr hk))
  clear ho hg O1b O2b K2 a2
  go_wp2
  go_ret
  exact ⟨rfl, O1c.out, O2c.out, K3.out⟩

set_option maxRecDepth 100000 in
set_option maxHeartbeats 2000000 in
theorem heldWarp_any (kd : Int) (A : Option Addr) (n c : Nat) (B : Option Addr) (m d td : Nat) (ph pr hd : Int) (sn : Nat) (q : Int) (Q1 Q2 : Nat) (w : World) (h1 : RdK .i64 w Q1 A n (marksF q n)) (h2 : RdK .i64 w Q2 B m (marksF (q + n) m)) (q1 : Q1 ≤ w.heap.size) (q2 : Q2 ≤ w.heap.size)
    (hn : n ≤ 2000000) (hm : m ≤ 2000000) (h0 : 0 ≤ q) (hq : q ≤ 10000000) :
    Calls Try.prog 23 #[.agg #[.int .i64 kd, .slice A n c, .slice B m d, .int .u32 (td : Int), .int .i64 ph, .int .i64 pr, .int .i64 hd, .int .u32 (sn : Int)], .int .i64 q] w fun e w' => e = .returned (.int .i64 (q + n + m)) ∧ Below w.heap.size w w' := by
  have HH : Hid (∀ W, Below w.heap.size w W → Calls Try.prog 46 #[.slice A n c, .int .i64 q] W fun e w' => e = .returned (.int .i64 (q + n)) ∧ W = w') := fun W hb => heldF_any A n c Q1 q W (h1.below (hb.mono q1)) hn h0 (by omega)
  have HH2 : Hid (∀ W, Below w.heap.size w W → Calls Try.prog 46 #[.slice B m d, .int .i64 (q + n)] W fun e w' => e = .returned (.int .i64 (q + n + m)) ∧ W = w') := fun W hb => heldF_any B m d Q2 (q + n) W (h2.below (hb.mono q2)) hm (by omega) (by omega)
  have p1 : ¬ q + (n : Int) < 0 := by omega
  have p2 : ¬ q + (n : Int) + (m : Int) < 0 := by omega
  clear h1 h2
  have B0 := Lib.hid (bel1 w (.cells #[.int .i64 kd, .slice A n c, .slice B m d, .int .u32 (td : Int), .int .i64 ph, .int .i64 pr, .int .i64 hd, .int .u32 (sn : Int)] 38))
  go_enter Try.func23, Try.ntmps23
  go_wp2_with fail
  refine (HH.out _ B0.out).mono ?_
  rintro e w1 ⟨rfl, rfl⟩
  go_wp2_with fail
  refine (HH2.out _ B0.out).mono ?_
  rintro e w1 ⟨rfl, rfl⟩
  clear HH HH2
  go_wp2
  go_ret
  exact ⟨rfl, B0.out⟩

end Go.Proofs.Ytflccpoaacidgaa

namespace Go.Proofs.Ytflccpoaacidgaa
open Go.ChangeShapes Go.WideShapes Go.ChangeAt Go.RowKit Go.Deep Go.Joins

theorem cells_int1 : Try.prog.cellsOf 3 = 1 := by kernel_rfl
theorem cells_ints1 : Try.prog.cellsOf 27 = 1 := by kernel_rfl

theorem cells_reqL : Try.prog.cellsOf 29 = 2 := by kernel_rfl

theorem cells_warpL : Try.prog.cellsOf 43 = 8 := by kernel_rfl

theorem int_cellW {H : Type} {enc : TypeId × Value → H} {W : World} {t : TypeId} {k : IntKind} {n : Nat} {c : Value} {y : DataW H × List MemPlace} (ht : Try.prog.underlying t = some (.int k)) (h : DataW.trod enc Try.prog W 0 (fun _ => true) true n t [c] = some y) : ∃ z, c = .int k z ∧ (Lit.int k z).wf = true := by
  obtain ⟨z, hc, _, hw⟩ := DataW.trod_int ht h
  simp at hc
  exact ⟨z, hc, hw⟩
theorem nat_cellW {H : Type} {enc : TypeId × Value → H} {W : World} {t : TypeId} {n : Nat} {c : Value} {y : DataW H × List MemPlace} (ht : Try.prog.underlying t = some (.int .u32)) (h : DataW.trod enc Try.prog W 0 (fun _ => true) true n t [c] = some y) : ∃ X : Nat, c = .int .u32 (X : Int) ∧ X < 4294967296 := by
  obtain ⟨z, rfl, hw⟩ := int_cellW ht h
  obtain ⟨X, rfl, hX⟩ := nat_of_wf hw
  exact ⟨X, rfl, hX⟩

/-- Every number of the list is an int. -/
def Fits (zs : List Int) : Prop := ∀ z ∈ zs, -9223372036854775808 ≤ z ∧ z < 9223372036854775808

set_option maxRecDepth 100000 in
theorem ints_cellW {H : Type} {enc : TypeId × Value → H} {W : World} {n : Nat} {v : Value} {y : DataW H × List MemPlace} (h : DataW.trod enc Try.prog W 0 (fun _ => true) true n 27 [v] = some y) :
    ∃ A n c zs, v = .slice A n c ∧ n ≤ maxLen ∧ RdK .i64 W W.heap.size A n zs ∧ Fits zs := by
  rcases open_ints Try.underlying27 Try.underlying3 cells_int1 h with ⟨hcs, _⟩ | ⟨x, l, c, zs, hcs, _, hl, hm, hz, _, hcell, hwz⟩
  · simp at hcs
    subst hcs
    exact ⟨_, _, _, [], rfl, by unfold maxLen; omega, RdK.zero, by intro z hz; simp at hz⟩
  · simp at hcs
    subst hcs
    have hz' : zs.length = c := by simpa using hz
    refine ⟨_, _, _, zs.take l, rfl, by omega, ⟨by simp; omega, fun hn => ?_⟩, fun z hzz => by have := bounds_i64 (hwz z (List.mem_of_mem_take hzz)); omega⟩
    obtain ⟨b, off, spot⟩ := x
    have h0 := hcell 0 (by omega)
    have hspot : spot = none := by simpa [Addr.add] using World.cell?_spot h0
    subst hspot
    have hblk := World.block_lt_of_cell? W _ h0
    refine ⟨b, off, rfl, by simpa [Addr.add] using hblk, fun i hi => ?_⟩
    have := hcell i (by omega)
    have e : (zs.take l)[i]?.getD 0 = zs.getD i 0 := by simp [hi]
    rw [e, ← this]
    congr 1
    unfold Addr.add; split <;> simp_all

set_option maxRecDepth 100000 in
theorem open_req {H : Type} {enc : TypeId × Value → H} {W : World} {base : Nat} {v : Value} {d : DataW H} {p : List MemPlace} (hv : Value.okWide Try.prog W .any base 29 v)
    (h : DataW.Trod enc Try.prog W 0 (fun _ => true) true 29 v d p) :
    ∃ kd A n c zs, v = .agg #[.int .i64 kd, .slice A n c] ∧ (Lit.int .i64 kd).wf = true ∧ n ≤ maxLen ∧ RdK .i64 W W.heap.size A n zs ∧ Fits zs := by
  obtain ⟨c0, c1, y0, y1, m, rfl, _, _, h0, h1⟩ := Joins.open_agg2 Try.underlying29 (by kernel_rfl) cells_reqL hv h
  obtain ⟨kd, rfl, wk⟩ := int_cellW Try.underlying3 h0
  obtain ⟨A, n, c, zs, rfl, hm, hr, hf⟩ := ints_cellW h1
  exact ⟨kd, A, n, c, zs, rfl, wk, hm, hr, hf⟩

/-- A struct of eight one-cell fields by value: each cell and its reading. -/
theorem agg8 {H : Type} {enc : TypeId × Value → H} {P : Program} {W : World} {r : Reach} {b0 base : Nat} {spare : Nat → Bool} {held : Bool} {t : TypeId} {f0 f1 f2 f3 f4 f5 f6 f7 : Field} {v : Value} {d : DataW H} {p : List MemPlace}
    (hs : P.underlying t = some (.struct #[f0, f1, f2, f3, f4, f5, f6, f7])) (hone : oneCellFields P #[f0, f1, f2, f3, f4, f5, f6, f7] = true) (hC : P.cellsOf t = 8) (hv : Value.okWide P W r b0 t v) (h : DataW.Trod enc P W base spare held t v d p) :
    ∃ (c0 c1 c2 c3 c4 c5 c6 c7 : Value) (k : Nat), v = .agg #[c0, c1, c2, c3, c4, c5, c6, c7] ∧
      (∃ y, DataW.trod enc P W base spare held k f0.type [c0] = some y) ∧ (∃ y, DataW.trod enc P W base spare held k f1.type [c1] = some y) ∧ (∃ y, DataW.trod enc P W base spare held k f2.type [c2] = some y) ∧ (∃ y, DataW.trod enc P W base spare held k f3.type [c3] = some y) ∧
      (∃ y, DataW.trod enc P W base spare held k f4.type [c4] = some y) ∧ (∃ y, DataW.trod enc P W base spare held k f5.type [c5] = some y) ∧ (∃ y, DataW.trod enc P W base spare held k f6.type [c6] = some y) ∧ (∃ y, DataW.trod enc P W base spare held k f7.type [c7] = some y) := by
  obtain ⟨cs, rfl, hsz⟩ := okWide_struct hs hv
  rw [hC] at hsz
  obtain ⟨l⟩ := cs
  match l, hsz with
  | [c0, c1, c2, c3, c4, c5, c6, c7], _ =>
    obtain ⟨fuel, hf⟩ := h
    obtain ⟨ys, k, _, _, _, hlen, hg⟩ := DataW.trod_struct hs hf
    have g : ∀ j (hj : j < 8) (f : Field) (c : Value), (#[f0, f1, f2, f3, f4, f5, f6, f7] : Array Field)[j]? = some f → [c0, c1, c2, c3, c4, c5, c6, c7][j]? = some c → ∃ y, DataW.trod enc P W base spare held k f.type [c] = some y := by
      intro j hj f c h1 h2
      obtain ⟨o, q⟩ := hone_of hone j f h1
      have hx := hg j f h1
      have hl : j < ys.length := by rw [hlen]; exact hj
      rw [o, q, List.getElem?_eq_getElem hl] at hx
      have hd : (([c0, c1, c2, c3, c4, c5, c6, c7] : List Value).drop j).take 1 = [c] := by
        obtain ⟨hl, rfl⟩ := List.getElem?_eq_some_iff.1 h2
        rw [List.drop_eq_getElem_cons hl]
        rfl
      simp only [Value.cells] at hx
      rw [hd] at hx
      exact ⟨_, hx⟩
    exact ⟨c0, c1, c2, c3, c4, c5, c6, c7, k, rfl, g 0 (by omega) _ _ rfl rfl, g 1 (by omega) _ _ rfl rfl, g 2 (by omega) _ _ rfl rfl, g 3 (by omega) _ _ rfl rfl, g 4 (by omega) _ _ rfl rfl, g 5 (by omega) _ _ rfl rfl, g 6 (by omega) _ _ rfl rfl, g 7 (by omega) _ _ rfl rfl⟩

set_option maxRecDepth 100000 in
theorem open_warp {H : Type} {enc : TypeId × Value → H} {W : World} {base : Nat} {v : Value} {d : DataW H} {p : List MemPlace} (hv : Value.okWide Try.prog W .any base 43 v)
    (h : DataW.Trod enc Try.prog W 0 (fun _ => true) true 43 v d p) :
    ∃ (kd : Int) (A : Option Addr) (n c : Nat) (vs : List Int) (B : Option Addr) (m e : Nat) (gs : List Int) (td : Nat) (ph pr hd : Int) (sn : Nat), v = .agg #[.int .i64 kd, .slice A n c, .slice B m e, .int .u32 (td : Int), .int .i64 ph, .int .i64 pr, .int .i64 hd, .int .u32 (sn : Int)] ∧
      ((Lit.int .i64 kd).wf = true ∧ td < 4294967296 ∧ (Lit.int .i64 ph).wf = true ∧ (Lit.int .i64 pr).wf = true ∧ (Lit.int .i64 hd).wf = true ∧ sn < 4294967296) ∧
      (n ≤ maxLen ∧ RdK .i64 W W.heap.size A n vs ∧ Fits vs) ∧ (m ≤ maxLen ∧ RdK .i64 W W.heap.size B m gs ∧ Fits gs) := by
  obtain ⟨c0, c1, c2, c3, c4, c5, c6, c7, k, rfl, ⟨y0, g0⟩, ⟨y1, g1⟩, ⟨y2, g2⟩, ⟨y3, g3⟩, ⟨y4, g4⟩, ⟨y5, g5⟩, ⟨y6, g6⟩, ⟨y7, g7⟩⟩ := agg8 Try.underlying43 (by kernel_rfl) cells_warpL hv h
  obtain ⟨kd, rfl, wk⟩ := int_cellW Try.underlying3 g0
  obtain ⟨A, n, c, vs, rfl, hm, hr, hfv⟩ := ints_cellW g1
  obtain ⟨B, m, e, gs, rfl, hm2, hr2, hfg⟩ := ints_cellW g2
  obtain ⟨td, rfl, wt⟩ := nat_cellW Try.underlying36 g3
  obtain ⟨ph, rfl, wp⟩ := int_cellW Try.underlying3 g4
  obtain ⟨pr, rfl, wr⟩ := int_cellW Try.underlying3 g5
  obtain ⟨hd, rfl, wh⟩ := int_cellW Try.underlying3 g6
  obtain ⟨sn, rfl, ws⟩ := nat_cellW Try.underlying36 g7
  exact ⟨kd, A, n, c, vs, B, m, e, gs, td, ph, pr, hd, sn, rfl, ⟨wk, wt, wp, wr, wh, ws⟩, ⟨hm, hr, hfv⟩, ⟨hm2, hr2, hfg⟩⟩

end Go.Proofs.Ytflccpoaacidgaa
