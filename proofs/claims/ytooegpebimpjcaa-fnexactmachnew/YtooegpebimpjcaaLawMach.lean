/- The contracts of the laws' own functions over machines: copies, comparisons, sizes. -/
import Derived.Test.YtooegpebimpjcaaLawWS
import Derived.Test.YtooegpebimpjcaaMemL
import Derived.Lib.SmallJoins
namespace Go.Proofs.Ytooegpebimpjcaa
open Go.RowKit
set_option linter.unusedVariables false

theorem OwnM.apart {w : World} {b0 n c : Nat} {A : Option Addr} {xs : List Wc} {p : Addr} (h : OwnM w b0 A n c xs) (hp : ∀ q, InM A n c xs q → q ≠ p.block) (u : Value) : OwnM (w.setCell p u) b0 A n c xs :=
  h.kp (Kp.setCell w p u) (fun q hq => hp q (.inl hq)) (fun i hi q hq => hp q (.inr ⟨i, hi, hq⟩))
theorem OwnM.low {w : World} {b0 n c : Nat} {A : Option Addr} {xs : List Wc} {p : Addr} (h : OwnM w b0 A n c xs) (hp : p.block < b0) (u : Value) : OwnM (w.setCell p u) b0 A n c xs := h.apart (fun q hq => by have := h.lt hq; omega) u
theorem OwnM.from_ {w : World} {b0 b1 n c : Nat} {A : Option Addr} {xs : List Wc} (h : OwnM w b0 A n c xs) (hb : b1 ≤ b0) : OwnM w b1 A n c xs :=
  ⟨h.1.from_ hb, fun i hi => ⟨(h.2.1 i hi).1.from_ hb, (h.2.1 i hi).2.from_ hb⟩, h.2.2⟩
theorem OwnM.alloc {w : World} {b0 n c : Nat} {A : Option Addr} {xs : List Wc} (h : OwnM w b0 A n c xs) (o : Obj) : OwnM (w.alloc o) b0 A n c xs := h.below (bel1 w o)

set_option maxRecDepth 100000 in
set_option maxHeartbeats 2000000 in
theorem toMach_any (A : Option Addr) (n c B1 : Nat) (zs : List Int) (B : Option Addr) (m d B2 : Nat) (xs : List Wc) (w : World) (h1 : Rd w B1 A n zs) (hB1 : B1 ≤ w.heap.size) (hn : n ≤ 1048576) (h2 : RdW w B2 B m xs) (hB2 : B2 ≤ w.heap.size) (hm : m ≤ 1048576) (hf : ∀ i, i < m → (wat xs i).v.vs.length ≤ 1048576 ∧ (wat xs i).v.gs.length ≤ 1048576) :
    Calls Try.prog 31 #[.agg #[.slice A n c, .slice B m d]] w fun e w' => ∃ g g2 ys, e = .returned (.agg #[.slice (some ⟨g, 0, none⟩) n n, .slice (some ⟨g2, 0, none⟩) m m]) ∧ Own w' w.heap.size (some ⟨g, 0, none⟩) n n zs ∧ OwnM w' (g + 1) (some ⟨g2, 0, none⟩) m m ys ∧ vals8 ys = vals8 xs ∧ Below w.heap.size w w' := by
  have HT : Hid (∀ W, Below w.heap.size w W → Calls Try.prog 72 #[.agg #[.slice A n c]] W fun e w' => ∃ g, e = .returned (.agg #[.slice (some ⟨g, 0, none⟩) n n]) ∧ Own w' W.heap.size (some ⟨g, 0, none⟩) n n zs ∧ Below W.heap.size W w') := fun W hb => U.toMem_any A n c B1 zs W (h1.below (hb.mono hB1)) (Nat.le_trans hB1 hb.size) hn
  have HT2 : Hid (∀ W, Below w.heap.size w W → Calls Try.prog 73 #[.slice B m d] W fun e w' => ∃ g ys, e = .returned (.slice (some ⟨g, 0, none⟩) m m) ∧ OwnM w' W.heap.size (some ⟨g, 0, none⟩) m m ys ∧ vals8 ys = vals8 xs ∧ Below W.heap.size W w') := fun W hb => toWarpS_any B m d B2 xs W (h2.below (hb.mono hB2)) (Nat.le_trans hB2 hb.size) hm hf
  have HB0 := Lib.hid (bel3 w (.cells #[.slice A n c, .slice B m d] 60) (.cells #[.slice none 0 0, .slice none 0 0] 51) (.cells #[.slice none 0 0, .slice none 0 0] 51))
  clear h1 h2 hf
  go_enter Try.func31, Try.ntmps31
  go_wp2_with fail
  refine (HT.out _ HB0.out).mono ?_
  rintro e w1 ⟨g, rfl, ho, hb⟩
  obtain ⟨h2, h3, h4, hB1', z1⟩ := nw3 hb
  rw [sz3] at ho
  have hg := (World.ownsRow.lt ho g rfl)
  have O1 := Lib.hid ho
  have B1w := Lib.hid hB1'
  have L3 := Lib.hid h3
  have L4 := Lib.hid h4
  have a0 := blkc h2 0 rfl
  have a1 := blkc h2 1 rfl
  have s0 := blkc h4 0 rfl
  have s1 := blkc h4 1 rfl
  have fs := blkf h4
  obtain ⟨W1, hW1⟩ : ∃ W1, W1 = w1.setCell ⟨w.heap.size + 2, 0, none⟩ (.slice (some ⟨g, 0, none⟩) n n) := ⟨_, rfl⟩
  have sW : W1.heap.size = w1.heap.size := by rw [hW1]; simp
  have BW : Hid (Below w.heap.size w W1) := by rw [hW1]; exact B1w.out.setCell (by simp) _
  have L4c : Hid (W1.heap[w.heap.size + 2]? = some (.cells #[.slice (some ⟨g, 0, none⟩) n n, .slice none 0 0] 51 (0, 0))) := by rw [hW1]; exact Joins.block_setCell L4.out _
  have L3c := Lib.hid (Eq.trans (show W1.heap[w.heap.size + 1]? = w1.heap[w.heap.size + 1]? from by rw [hW1]; exact Below.heap_setCell _ _ _ _ (by simp)) L3.out)
  have OW : Hid (Own W1 (w.heap.size + 3) (some ⟨g, 0, none⟩) n n zs) := by rw [hW1]; exact O1.out.low (by simp) _
  have HW := Lib.hid hW1
  clear ho hb HT h2 h3 h4 hB1' hW1 HB0 O1 B1w L3 L4
  go_wp2_with fail
  clear a0 a1 s0 s1 fs
  rw [← HW.out]
  clear HW
  refine (HT2.out _ BW.out).mono ?_
  rintro e w2 ⟨g2, ys, rfl, ho2, hv, hb⟩
  have z2 := hb.size
  have O2 := Lib.hid ho2
  have HV := Lib.hid hv
  have OA : Hid (Own w2 (w.heap.size + 3) (some ⟨g, 0, none⟩) n n zs) := OW.out.below (hb.mono (by omega))
  have B2w := Lib.hid (BW.out.trans (hb.mono BW.out.size))
  have L3 := Lib.hid ((hb.block _ (by omega)).trans L3c.out)
  have L4 := Lib.hid ((hb.block _ (by omega)).trans L4c.out)
  have s0 := blkc L4.out 0 rfl
  have s1 := blkc L4.out 1 rfl
  have fs := blkf L4.out
  have r0 := blkc L3.out 0 rfl
  have r1 := blkc L3.out 1 rfl
  have fr := blkf L3.out
  clear HT2 hb ho2 hv BW L3c L4c OW L3 L4
  go_wp2
  refine bodyPost_ret (v := .agg #[.slice (some ⟨g, 0, none⟩) n n, .slice (some ⟨g2, 0, none⟩) m m]) (by simp [results, Try.results31, go_sem, r0, r1]) rfl ⟨g, g2, ys, rfl, ?_, ?_, HV.out, ?_⟩
  · exact Own.from_ (b0 := w.heap.size + 3) (by repeat' (first | (with_reducible exact OA.out) | (with_reducible refine Own.low ?_ ?_ _) | omega | (simp; done) | (simp; omega))) (by omega)
  · exact OwnM.from_ (b0 := W1.heap.size) (by repeat' (first | (with_reducible exact O2.out) | (with_reducible refine OwnM.low ?_ ?_ _) | omega | (simp; done) | (simp; omega))) (by omega)
  · exact (by repeat' (first | (with_reducible exact B2w.out) | (with_reducible refine Below.setCell ?_ ?_ _) | (with_reducible refine Below.alloc ?_ ?_ _) | omega | (simp; done) | (simp; omega)))

set_option maxRecDepth 100000 in
set_option maxHeartbeats 1000000 in
theorem eqMach_any (A1 A2 : Option Addr) (n c1 c2 : Nat) (B1 B2 : Option Addr) (m d1 d2 Q1 Q2 Q3 Q4 : Nat) (zs : List Int) (xs ys : List Wc) (w : World) (h1 : Rd w Q1 A1 n zs) (h2 : Rd w Q2 A2 n zs) (h3 : RdW w Q3 B1 m xs) (h4 : RdW w Q4 B2 m ys) (hv : vals8 xs = vals8 ys) (q1 : Q1 ≤ w.heap.size) (q2 : Q2 ≤ w.heap.size) (q3 : Q3 ≤ w.heap.size) (q4 : Q4 ≤ w.heap.size)
    (hn : n ≤ 1048576) (hm : m ≤ maxLen) (hf : ∀ i, i < m → (wat xs i).v.vs.length ≤ maxLen ∧ (wat xs i).v.gs.length ≤ maxLen) :
    Calls Try.prog 26 #[.agg #[.slice A1 n c1, .slice B1 m d1], .agg #[.slice A2 n c2, .slice B2 m d2]] w fun e w' => e = .returned (.bool true) ∧ Below w.heap.size w w' := by
  have HE : Hid (∀ W, Below w.heap.size w W → Calls Try.prog 62 #[.agg #[.slice A1 n c1], .agg #[.slice A2 n c2]] W fun e w' => e = .returned (.bool true) ∧ Below W.heap.size W w') := fun W hb => (U.eqMem_any A1 A2 n n c1 c2 Q1 Q2 zs zs W (h1.below (hb.mono q1)) (h2.below (hb.mono q2)) (Nat.le_trans q1 hb.size) (Nat.le_trans q2 hb.size) hn hn).mono fun e w' ⟨he, hk⟩ => ⟨by rw [he]; simp, hk⟩
  have HE2 : Hid (∀ W, Below w.heap.size w W → Calls Try.prog 63 #[.slice B1 m d1, .slice B2 m d2] W fun e w' => e = .returned (.bool true) ∧ Below W.heap.size W w') := fun W hb => eqWarpS_any B1 B2 m d1 d2 Q3 Q4 xs ys W (h3.below (hb.mono q3)) (h4.below (hb.mono q4)) hv (Nat.le_trans q3 hb.size) (Nat.le_trans q4 hb.size) hm hf
  have HB0 := Lib.hid (bel2 w (.cells #[.slice A1 n c1, .slice B1 m d1] 51) (.cells #[.slice A2 n c2, .slice B2 m d2] 51))
  clear h1 h2 h3 h4 hf
  go_enter Try.func26, Try.ntmps26
  go_wp2_with fail
  refine (HE.out _ HB0.out).mono ?_
  rintro e w1 ⟨rfl, hb⟩
  obtain ⟨h2, h3, hB1', z1⟩ := nw2 hb
  have B1w := Lib.hid hB1'
  have a1 := blkc h2 1 rfl
  have b1 := blkc h3 1 rfl
  clear hb h2 h3 hB1' HE HB0
  go_wp2_with fail
  refine (HE2.out _ B1w.out).mono ?_
  rintro e w2 ⟨rfl, hb⟩
  have B2w := Lib.hid (B1w.out.trans (hb.mono B1w.out.size))
  clear hb HE2 B1w a1 b1
  go_wp2
  go_ret
  exact ⟨rfl, B2w.out⟩

set_option maxHeartbeats 1000000 in
theorem szMach_any (A : Option Addr) (n c : Nat) (B : Option Addr) (m d Q : Nat) (xs : List Wc) (w : World) (hn : n ≤ maxLen) (h : RdW w Q B m xs) (hQ : Q ≤ w.heap.size) (hm : m ≤ maxLen) (hf : ∀ i, i < m → (wat xs i).v.vs.length ≤ maxLen ∧ (wat xs i).v.gs.length ≤ maxLen) :
    Calls Try.prog 29 #[.agg #[.slice A n c, .slice B m d], .int .i64 1048576] w fun e w' => ∃ r : Int, e = .returned (.int .i64 r) ∧ (r = -1 ∨ (0 ≤ r ∧ r ≤ 1048576 ∧ n ≤ 1048576 ∧ m ≤ 1048576 ∧ ∀ i, i < m → (wat xs i).v.vs.length ≤ 1048576 ∧ (wat xs i).v.gs.length ≤ 1048576)) ∧ Below w.heap.size w w' := by
  have HS := Lib.hid (fun W => U.szMem_any A n c 1048576 W hn (by omega) (by omega))
  have HB0 := Lib.hid (bel1 w (.cells #[.slice A n c, .slice B m d] 60))
  by_cases h0 : (1048576 : Int) - n < 0
  · simp only [if_pos h0] at HS
    clear h hf h0
    go_enter Try.func29, Try.ntmps29
    go_wp2_with fail
    refine (HS.out _).mono ?_
    rintro e w1 ⟨rfl, hb⟩
    have B1 := Lib.hid (HB0.out.trans (hb.mono HB0.out.size))
    clear hb
    go_wp2
    go_ret
    exact ⟨-1, rfl, .inl rfl, B1.out⟩
  · simp only [if_neg h0] at HS
    have HW : Hid (∀ W, Below w.heap.size w W → Calls Try.prog 69 #[.slice B m d, .int .i64 (1048576 - (n : Int))] W fun e w' => ∃ r : Int, e = .returned (.int .i64 r) ∧ r ≤ 1048576 - (n : Int) ∧ (r = -1 ∨ (0 ≤ r ∧ (m : Int) ≤ 1048576 - (n : Int) ∧ ∀ i, i < m → ((wat xs i).v.vs.length : Int) + (wat xs i).v.gs.length ≤ 1048576 - (n : Int))) ∧ Below W.heap.size W w') := fun W hb => szWarpS_any B m d Q xs (1048576 - (n : Int)) W (h.below (hb.mono hQ)) (Nat.le_trans hQ hb.size) hm hf (by omega) (by omega)
    clear h hf
    go_enter Try.func29, Try.ntmps29
    go_wp2_with fail
    refine (HS.out _).mono ?_
    rintro e w1 ⟨rfl, hb⟩
    obtain ⟨h2, hB1, z1⟩ := nw1 hb
    have B1 := Lib.hid hB1
    have a1 := blkc h2 1 rfl
    clear hb h2 hB1 HS HB0
    go_wp2_with fail
    refine (HW.out _ B1.out).mono ?_
    rintro e w2 ⟨r, rfl, hr, hor, hb⟩
    have B2 := Lib.hid (B1.out.trans (hb.mono B1.out.size))
    have HO := Lib.hid hor
    clear hb HW B1 a1 hor
    by_cases hz : r < 0
    · have HR : Hid (r = -1) := by rcases HO.out with e | ⟨e, _⟩; (exact e); omega
      go_wp2
      go_ret
      exact ⟨-1, rfl, .inl rfl, B2.out⟩
    · go_wp2
      go_ret
      refine ⟨r, rfl, .inr ?_, B2.out⟩
      rcases HO.out with e | ⟨e, e2, e3⟩
      · omega
      · exact ⟨e, by omega, by omega, by omega, fun i hi => by have := e3 i hi; omega⟩

end Go.Proofs.Ytooegpebimpjcaa
