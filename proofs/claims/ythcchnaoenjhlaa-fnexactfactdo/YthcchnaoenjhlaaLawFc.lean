/- The contracts of the laws' own functions over facts: copies, comparisons, marks, sizes. -/
import Derived.Test.YthcchnaoenjhlaaOwnF
import Derived.Shelf.SlSortCmp.QuietGrown
namespace Go.Proofs.Ythcchnaoenjhlaa
open Go.RowKit Go.Sort

set_option maxHeartbeats 1000000 in
theorem toFact_any (x : Fc) (w : World) : Calls Try.prog 10 #[.agg #[.int .i64 x.k, .int .i64 x.i, .int .i64 x.l, .int .i64 x.a, .int .i64 x.s]] w fun e w' => e = .returned (.agg #[.int .i64 x.k, .int .i64 x.i, .int .i64 x.l, .int .i64 x.a, .int .i64 x.s]) ∧ Below w.heap.size w w' := by
  go_enter Try.func10, Try.ntmps10
  go_wp2
  refine bodyPost_ret (v := .agg #[.int .i64 x.k, .int .i64 x.i, .int .i64 x.l, .int .i64 x.a, .int .i64 x.s]) ?_ rfl ?_
  · simp [results, Try.results10, go_sem]
  · exact ⟨rfl, (by repeat (first | exact Below.refl _ _ | refine Below.drew ?_ | refine Below.setCell ?_ (by first | omega | (simp; done) | (simp; omega) | (simp [*]; done)) _ | refine Below.alloc ?_ (by first | omega | (simp; done) | (simp; omega) | (simp [*]; done)) _))⟩

theorem mixedF : Try.prog.follows .mixedOrders = true := by kernel_rfl
theorem below_growF (w : World) (q : Nat) (os : Array Obj) : Below w.heap.size w (grow (w.drewN q) os) :=
  ⟨rfl, rfl, rfl, by simp, fun k hk => by rw [heap_grow_old _ _ (by exact hk)]; rfl⟩

set_option maxHeartbeats 1000000 in
theorem eqFact_grow (x y : Fc) (w : World) : Calls Try.prog 46 #[.agg #[.int .i64 x.k, .int .i64 x.i, .int .i64 x.l, .int .i64 x.a, .int .i64 x.s], .agg #[.int .i64 y.k, .int .i64 y.i, .int .i64 y.l, .int .i64 y.a, .int .i64 y.s]] w fun e w' => e = .returned (.bool (decide (x = y))) ∧ ∃ q os', w' = grow (w.drewN q) os' := by
  have HB := Lib.hid (show ∃ q os', (w.alloc (.cells #[.int .i64 x.k, .int .i64 x.i, .int .i64 x.l, .int .i64 x.a, .int .i64 x.s] 25)).alloc (.cells #[.int .i64 y.k, .int .i64 y.i, .int .i64 y.l, .int .i64 y.a, .int .i64 y.s] 25) = grow (w.drewN q) os' from ⟨0, _, by rw [alloc_eq_grow, alloc_eq_grow, grow_grow]; rfl⟩)
  by_cases h0 : x.k = y.k
  · by_cases h1 : x.i = y.i
    · by_cases h2 : x.l = y.l
      · by_cases h3 : x.a = y.a
        · by_cases h4 : x.s = y.s
          · have HR := Lib.hid (show decide (x = y) = true from decide_eq_true (by cases x; cases y; simp only [Fc.mk.injEq]; exact ⟨h0, h1, h2, h3, h4⟩))
            have d0 : (x.k != y.k) = false := by simp [h0]
            have d1 : (x.i != y.i) = false := by simp [h1]
            have d2 : (x.l != y.l) = false := by simp [h2]
            have d3 : (x.a != y.a) = false := by simp [h3]
            have d4 : (x.s != y.s) = false := by simp [h4]
            clear h0 h1 h2 h3 h4
            go_enter Try.func46, Try.ntmps46
            go_wp2
            go_ret
            exact ⟨by rw [HR.out]; rfl, HB.out⟩
          · have HR := Lib.hid (show decide (x = y) = false from decide_eq_false (fun e => h4 (by rw [e])))
            have d0 : (x.k != y.k) = false := by simp [h0]
            have d1 : (x.i != y.i) = false := by simp [h1]
            have d2 : (x.l != y.l) = false := by simp [h2]
            have d3 : (x.a != y.a) = false := by simp [h3]
            have d4 : (x.s != y.s) = true := by simp [h4]
            clear h0 h1 h2 h3 h4
            go_enter Try.func46, Try.ntmps46
            go_wp2
            go_ret
            exact ⟨by rw [HR.out]; rfl, HB.out⟩
        · have HR := Lib.hid (show decide (x = y) = false from decide_eq_false (fun e => h3 (by rw [e])))
          have d0 : (x.k != y.k) = false := by simp [h0]
          have d1 : (x.i != y.i) = false := by simp [h1]
          have d2 : (x.l != y.l) = false := by simp [h2]
          have d3 : (x.a != y.a) = true := by simp [h3]
          clear h0 h1 h2 h3
          go_enter Try.func46, Try.ntmps46
          go_wp2
          go_ret
          exact ⟨by rw [HR.out]; rfl, HB.out⟩
      · have HR := Lib.hid (show decide (x = y) = false from decide_eq_false (fun e => h2 (by rw [e])))
        have d0 : (x.k != y.k) = false := by simp [h0]
        have d1 : (x.i != y.i) = false := by simp [h1]
        have d2 : (x.l != y.l) = true := by simp [h2]
        clear h0 h1 h2
        go_enter Try.func46, Try.ntmps46
        go_wp2
        go_ret
        exact ⟨by rw [HR.out]; rfl, HB.out⟩
    · have HR := Lib.hid (show decide (x = y) = false from decide_eq_false (fun e => h1 (by rw [e])))
      have d0 : (x.k != y.k) = false := by simp [h0]
      have d1 : (x.i != y.i) = true := by simp [h1]
      clear h0 h1
      go_enter Try.func46, Try.ntmps46
      go_wp2
      go_ret
      exact ⟨by rw [HR.out]; rfl, HB.out⟩
  · have HR := Lib.hid (show decide (x = y) = false from decide_eq_false (fun e => h0 (by rw [e])))
    have d0 : (x.k != y.k) = true := by simp [h0]
    clear h0
    go_enter Try.func46, Try.ntmps46
    go_wp2
    go_ret
    exact ⟨by rw [HR.out]; rfl, HB.out⟩
theorem eqFact_any (x y : Fc) (w : World) : Calls Try.prog 46 #[.agg #[.int .i64 x.k, .int .i64 x.i, .int .i64 x.l, .int .i64 x.a, .int .i64 x.s], .agg #[.int .i64 y.k, .int .i64 y.i, .int .i64 y.l, .int .i64 y.a, .int .i64 y.s]] w fun e w' => e = .returned (.bool (decide (x = y))) ∧ Below w.heap.size w w' :=
  (eqFact_grow x y w).mono fun _ _ ⟨he, q, os, hw⟩ => ⟨he, hw ▸ below_growF w q os⟩

set_option maxRecDepth 10000 in
set_option maxHeartbeats 2000000 in
theorem toFc_any (A : Option Addr) (n c B : Nat) (fs : List Fc) (w : World) (h : RdF w B A n fs) (hB : B ≤ w.heap.size) (hn : n ≤ 1048576) :
    Calls Try.prog 21 #[.slice A n c] w fun e w' => ∃ g, e = .returned (.slice (some ⟨g, 0, none⟩) n n) ∧ OwnF w' w.heap.size (some ⟨g, 0, none⟩) n n fs ∧ Below w.heap.size w w' := by
  obtain ⟨i0, hi, hz0, hz1, hz2⟩ := info_parts info_fact
  have hb2 : i0.bytes * n ≤ 281474976710656 := by rw [hz2]; omega
  have hb3 : n ≤ maxLen := by unfold maxLen; omega
  have HL := Lib.hid h.1
  have H2 := Lib.hid h.2
  have HI := Lib.hid hi
  have HZ0 := Lib.hid hz0
  have HZ1 := Lib.hid hz1
  clear h hi hz0 hz1 hz2
  go_enter Try.func21, Try.ntmps21
  go_wp2_with (at_make; refine wpList_make_full _ rfl _ _ 41 rfl w.heap.size 25 i0 (.agg #[.int .i64 0, .int .i64 0, .int .i64 0, .int .i64 0, .int .i64 0]) 5 Try.underlying41 HI.out HZ0.out HZ1.out .i64 .i64 _ _ n rfl rfl rfl rfl hb2 hb3 (Nat.le_refl _) ?_)
  intro w1 hown hgr
  have HO : Hid (OwnF w1 w.heap.size (some ⟨w.heap.size, 0, none⟩) n n (fillQ fs n 0)) := by
    show w1.ownsRow _ _ _ _ _ (flatF (fillQ fs n 0))
    simp only [fillQ, List.take_zero, List.nil_append, Nat.sub_zero]
    rw [flatF_zeros]
    exact hown
  have HB : Hid (Below w.heap.size w w1) := (Below.refl _ _).grown hgr (Nat.le_refl _) (by simp)
  clear hown hgr
  go_wp2
  go_loopw [4] (fun i wr => ∃ k : Nat, k ≤ n ∧ i = .int .i64 k ∧ Hid (OwnF wr w.heap.size (some ⟨w.heap.size, 0, none⟩) n n (fillQ fs n k)) ∧ Hid (Below w.heap.size w wr)) (fun i _ => n - (intOf i).toNat)
  case atStart => exact ⟨0, Nat.zero_le _, rfl, HO, HB⟩
  case round =>
    obtain ⟨k, hk, rfl, HOr, HBr⟩ := hrel
    clear HO HB
    by_cases hlt : k < n
    · obtain ⟨g, o, rfl, hg, hc⟩ := H2.out (by omega)
      obtain ⟨c1, c2, c3, c4, c5⟩ := (hc k hlt).below HBr.out (by omega)
      clear hc
      go_wp2_with (go_at_call 10; refine (toFact_any (fat fs k) _).mono ?_; rintro e w2 ⟨rfl, hb2⟩
                   have HO2 := Lib.hid (HOr.out.below hb2)
                   have HB2 := Lib.hid (HBr.out.trans (hb2.mono HBr.out.size))
                   obtain ⟨e1, e2, e3, e4, e5⟩ := HO2.out.at5 rfl hlt
                   have f1 := HO2.out.free rfl (k * 5)
                   have f2 := HO2.out.free rfl (k * 5 + 1)
                   have f3 := HO2.out.free rfl (k * 5 + 2)
                   have f4 := HO2.out.free rfl (k * 5 + 3)
                   have f5 := HO2.out.free rfl (k * 5 + 4)
                   have HN : Hid (OwnF (((((w2.setCell ⟨w.heap.size, k * 5, none⟩ (.int .i64 (fat fs k).k)).setCell ⟨w.heap.size, k * 5 + 1, none⟩ (.int .i64 (fat fs k).i)).setCell ⟨w.heap.size, k * 5 + 2, none⟩ (.int .i64 (fat fs k).l)).setCell ⟨w.heap.size, k * 5 + 3, none⟩ (.int .i64 (fat fs k).a)).setCell ⟨w.heap.size, k * 5 + 4, none⟩ (.int .i64 (fat fs k).s)) w.heap.size (some ⟨w.heap.size, 0, none⟩) n n (fillQ fs n (k + 1))) := by
                     rw [← fillQ_next HL.out hlt]; exact HO2.out.store hlt
                   have HM : Hid (Below w.heap.size w (((((w2.setCell ⟨w.heap.size, k * 5, none⟩ (.int .i64 (fat fs k).k)).setCell ⟨w.heap.size, k * 5 + 1, none⟩ (.int .i64 (fat fs k).i)).setCell ⟨w.heap.size, k * 5 + 2, none⟩ (.int .i64 (fat fs k).l)).setCell ⟨w.heap.size, k * 5 + 3, none⟩ (.int .i64 (fat fs k).a)).setCell ⟨w.heap.size, k * 5 + 4, none⟩ (.int .i64 (fat fs k).s))) := ((((HB2.out.setCell (Nat.le_refl _) _).setCell (Nat.le_refl _) _).setCell (Nat.le_refl _) _).setCell (Nat.le_refl _) _).setCell (Nat.le_refl _) _
                   clear hb2 HOr HBr HO2 HB2 c1 c2 c3 c4 c5)
      go_roundw
      case rel => exact ⟨k + 1, by omega, by go_num, HN, HM⟩
      case measure => simp [intOf]; omega
    · go_wp2
      go_ret
      refine ⟨w.heap.size, rfl, ?_, HBr.out⟩
      have := HOr.out
      rwa [fillQ_all HL.out (by omega)] at this

theorem take_next_fc {z1 z2 : List Fc} {k : Nat} (h : z1.take k = z2.take k) (h1 : k < z1.length) (h2 : k < z2.length) (e : fat z1 k = fat z2 k) : z1.take (k + 1) = z2.take (k + 1) := by
  rw [take_succ_f h1, take_succ_f h2, h, e]
theorem ne_at_fc {z1 z2 : List Fc} {k : Nat} (e : ¬ fat z1 k = fat z2 k) : ¬ z1 = z2 := by
  rintro rfl; exact e rfl
theorem eq_all_fc {z1 z2 : List Fc} {k : Nat} (h : z1.take k = z2.take k) (h1 : z1.length ≤ k) (h2 : z2.length ≤ k) : z1 = z2 := by
  rwa [List.take_of_length_le h1, List.take_of_length_le h2] at h

set_option maxRecDepth 10000 in
set_option maxHeartbeats 2000000 in
theorem eqFc_any (A1 A2 : Option Addr) (n1 n2 c1 c2 B1 B2 : Nat) (z1 z2 : List Fc) (w : World) (h1 : RdF w B1 A1 n1 z1) (h2 : RdF w B2 A2 n2 z2) (hB1 : B1 ≤ w.heap.size) (hB2 : B2 ≤ w.heap.size) (m1 : n1 ≤ maxLen) (m2 : n2 ≤ maxLen) :
    Calls Try.prog 23 #[.slice A1 n1 c1, .slice A2 n2 c2] w fun e w' => e = .returned (.bool (decide (z1 = z2))) ∧ Below w.heap.size w w' := by
  unfold maxLen at m1 m2
  by_cases hn : n1 = n2
  · subst hn
    have HL := Lib.hid h1.1
    have HM := Lib.hid h2.1
    have H1 := Lib.hid h1.2
    have H2 := Lib.hid h2.2
    clear h1 h2
    go_enter Try.func23, Try.ntmps23
    go_wp2
    go_loopw [5] (fun i wr => ∃ k : Nat, k ≤ n1 ∧ i = .int .i64 k ∧ Hid (Below w.heap.size w wr) ∧ Hid (z1.take k = z2.take k)) (fun i _ => n1 - (intOf i).toNat)
    case atStart => exact ⟨0, Nat.zero_le _, rfl, Below.refl _ _, rfl⟩
    case round =>
      obtain ⟨k, hk, rfl, HB, HT⟩ := hrel
      by_cases hlt : k < n1
      · obtain ⟨g1, o1, rfl, hg1, hc1⟩ := H1.out (by omega)
        obtain ⟨g2, o2, rfl, hg2, hc2⟩ := H2.out (by omega)
        obtain ⟨c1, c2, c3, c4, c5⟩ := (hc1 k hlt).below HB.out (by omega)
        obtain ⟨e1, e2, e3, e4, e5⟩ := (hc2 k hlt).below HB.out (by omega)
        clear hc1 hc2
        have hsz := HB.out.size
        have hs1 : g1 < wr.heap.size := by omega
        have hs2 : g2 < wr.heap.size := by omega
        have d1 := fun m os => cell_grown hs1 c1 m os
        have d2 := fun m os => cell_grown hs1 c2 m os
        have d3 := fun m os => cell_grown hs1 c3 m os
        have d4 := fun m os => cell_grown hs1 c4 m os
        have d5 := fun m os => cell_grown hs1 c5 m os
        have x1 := fun m os => cell_grown hs2 e1 m os
        have x2 := fun m os => cell_grown hs2 e2 m os
        have x3 := fun m os => cell_grown hs2 e3 m os
        have x4 := fun m os => cell_grown hs2 e4 m os
        have x5 := fun m os => cell_grown hs2 e5 m os
        have HC := Lib.hid (fun W => eqFact_grow (fat z1 k) (fat z2 k) W)
        have hmx := mixedF
        by_cases he : fat z1 k = fat z2 k
        · have HN := Lib.hid (take_next_fc HT.out (by have := HL.out; omega) (by have := HM.out; omega) he)
          have hde : decide (fat z1 k = fat z2 k) = true := decide_eq_true he
          rw [hde] at HC
          clear he hde c1 c2 c3 c4 c5 e1 e2 e3 e4 e5
          go_wp2
          go_quiet_grown (first | (go_at_call 46; refine Calls.grown_of (HC.out _)))
          have HB2 := Lib.hid (HB.out.trans ((below_growF wr nq osq).mono hsz))
          generalize grow (wr.drewN nq) osq = w2 at *
          go_wp2
          go_roundw
          case rel => exact ⟨k + 1, by omega, by go_num, HB2, HN⟩
          case measure => simp [intOf]; omega
        · have HN := Lib.hid (ne_at_fc he)
          have hde : decide (fat z1 k = fat z2 k) = false := decide_eq_false he
          rw [hde] at HC
          clear he hde c1 c2 c3 c4 c5 e1 e2 e3 e4 e5
          go_wp2
          go_quiet_grown (first | (go_at_call 46; refine Calls.grown_of (HC.out _)))
          have HB2 := Lib.hid (HB.out.trans ((below_growF wr nq osq).mono hsz))
          generalize grow (wr.drewN nq) osq = w2 at *
          go_wp2
          go_ret
          exact ⟨by simp [HN.out], HB2.out⟩
      · have HN := Lib.hid (eq_all_fc HT.out (by have := HL.out; omega) (by have := HM.out; omega))
        go_wp2
        go_ret
        exact ⟨by simp [HN.out], HB.out⟩
  · have HN : Hid (¬ z1 = z2) := fun e => hn (by rw [← h1.1, ← h2.1, e])
    have hb : ((n1 : Int) != (n2 : Int)) = true := by simp; omega
    clear hn h1 h2
    go_enter Try.func23, Try.ntmps23
    go_wp2
    go_ret
    exact ⟨by simp [HN.out], Below.refl _ _⟩

set_option maxRecDepth 10000 in
set_option maxHeartbeats 2000000 in
theorem markFc_one (g n c b0 : Nat) (fs : List Fc) (w : World) (h : OwnF w b0 (some ⟨g, 0, none⟩) n c fs) (hn : n ≤ 1048640) :
    Calls Try.prog 24 #[.slice (some ⟨g, 0, none⟩) n c, .int .i64 1] w fun e w' => e = .returned (.int .i64 (1 + 5 * n)) ∧ OwnF w' b0 (some ⟨g, 0, none⟩) n c (marksQ n) ∧ w.grownBy w' (some g) := by
  have H := Lib.hid h
  have HL := Lib.hid h.len
  clear h
  go_enter Try.func24, Try.ntmps24
  go_wp2
  go_loopw [1, 5] (fun q i wr => ∃ k : Nat, k ≤ n ∧ i = .int .i64 k ∧ q = .int .i64 (1 + 5 * k) ∧ Hid (OwnF wr b0 (some ⟨g, 0, none⟩) n c (markToQ fs k)) ∧ Hid (w.grownBy wr (some g))) (fun _ i _ => n - (intOf i).toNat)
  case atStart => exact ⟨0, Nat.zero_le _, rfl, rfl, by simpa [markToQ, marksQ] using H, World.grownBy.refl _ _⟩
  case round =>
    obtain ⟨k, hk, rfl, rfl, HO, HG⟩ := hrel
    by_cases hlt : k < n
    · obtain ⟨c1, c2, c3, c4, c5⟩ := HO.out.at5 rfl hlt
      have f1 := HO.out.free rfl (k * 5)
      have f2 := HO.out.free rfl (k * 5 + 1)
      have f3 := HO.out.free rfl (k * 5 + 2)
      have f4 := HO.out.free rfl (k * 5 + 3)
      have f5 := HO.out.free rfl (k * 5 + 4)
      have HN : Hid (OwnF (((((wr.setCell ⟨g, k * 5, none⟩ (.int .i64 (1 + 5 * (k : Int)))).setCell ⟨g, k * 5 + 1, none⟩ (.int .i64 (1 + 5 * (k : Int) + 1))).setCell ⟨g, k * 5 + 2, none⟩ (.int .i64 (1 + 5 * (k : Int) + 1 + 1))).setCell ⟨g, k * 5 + 3, none⟩ (.int .i64 (1 + 5 * (k : Int) + 1 + 1 + 1))).setCell ⟨g, k * 5 + 4, none⟩ (.int .i64 (1 + 5 * (k : Int) + 1 + 1 + 1 + 1))) b0 (some ⟨g, 0, none⟩) n c (markToQ fs (k + 1))) := by
        rw [← markToQ_next (by have := HL.out; omega), show (1 + 5 * (k : Int) + 1 + 1 + 1 + 1) = 5 + 5 * (k : Int) by omega, show (1 + 5 * (k : Int) + 1 + 1 + 1) = 4 + 5 * (k : Int) by omega, show (1 + 5 * (k : Int) + 1 + 1) = 3 + 5 * (k : Int) by omega, show (1 + 5 * (k : Int) + 1) = 2 + 5 * (k : Int) by omega]; exact HO.out.store (y := ⟨1 + 5 * (k : Int), 2 + 5 * (k : Int), 3 + 5 * (k : Int), 4 + 5 * (k : Int), 5 + 5 * (k : Int)⟩) hlt
      have HM : Hid (w.grownBy (((((wr.setCell ⟨g, k * 5, none⟩ (.int .i64 (1 + 5 * (k : Int)))).setCell ⟨g, k * 5 + 1, none⟩ (.int .i64 (1 + 5 * (k : Int) + 1))).setCell ⟨g, k * 5 + 2, none⟩ (.int .i64 (1 + 5 * (k : Int) + 1 + 1))).setCell ⟨g, k * 5 + 3, none⟩ (.int .i64 (1 + 5 * (k : Int) + 1 + 1 + 1))).setCell ⟨g, k * 5 + 4, none⟩ (.int .i64 (1 + 5 * (k : Int) + 1 + 1 + 1 + 1))) (some g)) :=
        ⟨HG.out.os, HG.out.tape, HG.out.output, by simpa [World.setCell] using HG.out.size, fun i hi hne => (Below.heap_setCell _ ⟨g, k * 5 + 4, none⟩ _ i (fun e => hne (by simp [e]))).trans ((Below.heap_setCell _ ⟨g, k * 5 + 3, none⟩ _ i (fun e => hne (by simp [e]))).trans ((Below.heap_setCell _ ⟨g, k * 5 + 2, none⟩ _ i (fun e => hne (by simp [e]))).trans ((Below.heap_setCell _ ⟨g, k * 5 + 1, none⟩ _ i (fun e => hne (by simp [e]))).trans ((Below.heap_setCell wr ⟨g, k * 5, none⟩ _ i (fun e => hne (by simp [e]))).trans (HG.out.block i hi hne)))))⟩
      clear HO HG
      go_wp2
      go_roundw
      case rel => exact ⟨k + 1, by omega, by go_num, by go_num, HN, HM⟩
      case measure => simp [intOf]; omega
    · go_wp2
      go_ret
      have e := markToQ_all HL.out (show n ≤ k by omega) hk
      refine ⟨?_, by rw [← e]; exact HO.out, HG.out⟩
      have : k = n := by omega
      rw [this]
      rfl

theorem markFc_zero (w : World) : Calls Try.prog 24 #[.slice none 0 0, .int .i64 1] w fun e w' => e = .returned (.int .i64 1) ∧ w = w' := by
  go_enter Try.func24, Try.ntmps24
  go_wp2
  refine wp_loop_rounds 1 ?_
  rw [rounds_succ]
  go_wp2
  go_ret
  exact ⟨rfl, rfl⟩

theorem markFc_any (A : Option Addr) (n c b0 : Nat) (fs : List Fc) (w : World) (h : OwnF w b0 A n c fs) (hn : n ≤ 1048640) :
    Calls Try.prog 24 #[.slice A n c, .int .i64 1] w fun e w' => e = .returned (.int .i64 (1 + 5 * n)) ∧ OwnF w' b0 A n c (marksQ n) ∧ w.grownBy w' (Value.slice A n c).ownBlock := by
  rcases h.2 with ⟨hv, h0⟩ | ⟨g, cap, cur, hv, _⟩
  · injection hv with h1 h2 h3
    subst h1 h2 h3
    exact (markFc_zero w).mono fun e w' ⟨h5, h6⟩ => ⟨h5, World.ownsRow_nil _ _ _ _, h6 ▸ World.grownBy.refl _ _⟩
  · injection hv with h1 h2 h3
    subst h1 h3
    exact markFc_one g n c b0 fs w h hn

theorem szFc_yes (A : Option Addr) (n c : Nat) (w : World) (hn : n ≤ 1048576) : Calls Try.prog 19 #[.slice A n c, .int .i64 1048576] w fun e w' => e = .returned (.int .i64 (1048576 - n)) ∧ w = w' := by
  have h1 : ¬ (1048576 : Int) - (n : Int) < 0 := by omega
  go_enter Try.func19, Try.ntmps19
  go_wp2
  go_ret
  exact ⟨rfl, rfl⟩

theorem szFc_no (A : Option Addr) (n c : Nat) (w : World) (hm : n ≤ maxLen) (hn : 1048576 < n) : Calls Try.prog 19 #[.slice A n c, .int .i64 1048576] w fun e w' => e = .returned (.int .i64 (-1)) ∧ w = w' := by
  unfold maxLen at hm
  have h1 : (1048576 : Int) - (n : Int) < 0 := by omega
  go_enter Try.func19, Try.ntmps19
  go_wp2
  go_ret
  exact ⟨rfl, rfl⟩

end Go.Proofs.Ythcchnaoenjhlaa
