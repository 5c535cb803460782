/- AuditSum of the program and of the model. -/
import Derived.Test.YthcchnaoenjhlaaAudM
namespace Go.Proofs.Ythcchnaoenjhlaa
open Go.RowKit
set_option linter.unusedVariables false

theorem mixedA : Try.prog.follows .mixedOrders = true := by kernel_rfl

set_option maxRecDepth 100000 in
set_option maxHeartbeats 4000000 in
theorem auditSum_any (A : Option Addr) (n c B : Nat) (ws : List Nat) (w : World) (h : Rd w B A n (ints ws)) (hB : B ≤ w.heap.size) (hX : ∀ X ∈ ws, X < 4294967296) (hm : n ≤ maxLen) :
    Calls Try.prog 32 #[.agg #[.slice A n c]] w fun e w' => e = .returned (.tuple #[.int .i64 (sumV ws 0), .int .i64 (sumV ws 1), .int .i64 (sumV ws 2)]) ∧ Below w.heap.size w w' := by
  have hl : ws.length = n := by rw [← intsW_len]; exact h.1
  have HM : Hid (∀ W, Below w.heap.size w W → Calls Try.prog 53 #[.agg #[.slice A n c]] W fun e w' => e = .returned (.bool (decide (HeapOk ws))) ∧ Below W.heap.size W w') := fun W hb => isHeap_any A n c B ws W (h.below (hb.mono hB)) (Nat.le_trans hB hb.size) hX hm
  have HB0 := Lib.hid (bel1 w (.cells #[.slice A n c] 51))
  by_cases hg : HeapOk ws
  · rw [decide_eq_true hg] at HM
    have HR : Hid (sumV ws 0 = cntV (ws.take n) 0 ∧ sumV ws 1 = cntV (ws.take n) 1 ∧ sumV ws 2 = cntV (ws.take n) 2 + cntV (ws.take n) 3) := (show _ ∧ _ ∧ _ from by unfold sumV; rw [← hl, List.take_length]; simp [hg])
    have hn : n ≤ 16 := by rw [← hl]; exact hg.1
    have H2 := Lib.hid h.2
    have HX := Lib.hid hX
    have HL := Lib.hid hl
    have HG := Lib.hid hg.2
    have hmx := mixedA
    clear h hX hl hm hg
    go_enter Try.func32, Try.ntmps32
    go_wp2_with fail
    refine (HM.out _ HB0.out).mono ?_
    rintro e w1 ⟨rfl, hb⟩
    obtain ⟨hA, hB1, z1⟩ := nw1 hb
    have a0 := blkc hA 0 rfl
    have B1 := Lib.hid (hB1.alloc hB1.size (.cells #[.int .i64 0, .int .i64 0, .int .i64 0, .int .i64 0] 91))
    have zq := sz1 w1 (.cells #[.int .i64 0, .int .i64 0, .int .i64 0, .int .i64 0] 91)
    have Q1 : Hid (Quad (w1.alloc (.cells #[.int .i64 0, .int .i64 0, .int .i64 0, .int .i64 0] 91)) w1.heap.size 91 (cntV (ws.take 0) 0) (cntV (ws.take 0) 1) (cntV (ws.take 0) 2) (cntV (ws.take 0) 3)) := heap_alloc_new _ _
    have A1 : Hid ((w1.alloc (.cells #[.int .i64 0, .int .i64 0, .int .i64 0, .int .i64 0] 91)).heap[w.heap.size]? = some (.cells #[.slice A n c] 51 (0, 0))) := ((bel1 w1 (.cells #[.int .i64 0, .int .i64 0, .int .i64 0, .int .i64 0] 91)).block _ (by omega)).trans hA
    clear hA hb HM
    go_wp2
    clear a0
    generalize w1.heap.size = b at *
    go_loopw [16] (fun i wr => ∃ k : Nat, k ≤ n ∧ i = .int .i64 k ∧ Hid (Quad wr b 91 (cntV (ws.take k) 0) (cntV (ws.take k) 1) (cntV (ws.take k) 2) (cntV (ws.take k) 3)) ∧ Hid (wr.heap[w.heap.size]? = some (.cells #[.slice A n c] 51 (0, 0))) ∧ Hid (Below w.heap.size w wr)) (fun i _ => n - (intOf i).toNat)
    case atStart => exact ⟨0, Nat.zero_le _, rfl, Q1, A1, B1⟩
    case round =>
      obtain ⟨k, hk, rfl, HQ, HA, HB⟩ := hrel
      clear Q1 A1 B1
      have a0 := blkc HA.out 0 rfl
      have zA : w.heap.size < wr.heap.size := (Array.getElem?_eq_some_iff.1 HA.out).1
      have zQ := HQ.out.lt
      obtain ⟨p0, p0'⟩ := cnt_bound (ws := ws) (k := k) 0 (by omega)
      obtain ⟨p1, p1'⟩ := cnt_bound (ws := ws) (k := k) 1 (by omega)
      obtain ⟨p2, p2'⟩ := cnt_bound (ws := ws) (k := k) 2 (by omega)
      obtain ⟨p3, p3'⟩ := cnt_bound (ws := ws) (k := k) 3 (by omega)
      by_cases hlt : k < n
      · obtain ⟨g, o, rfl, hg, hc⟩ := H2.out (by omega)
        have c1 : wr.cell? ⟨g, o + k, none⟩ = some (.int .u32 ((ws[k]?.getD 0 : Nat) : Int)) := by
          rw [← intsW_at]; exact (HB.out.cell (p := ⟨g, o + k, none⟩) (by show g < _; omega)).trans (hc k hlt)
        clear hc
        have hkl : k < ws.length := by rw [HL.out]; exact hlt
        have hgx : GoodX (ws[k]?.getD 0) := by rw [List.getElem?_eq_getElem hkl]; exact HG.out _ (List.getElem_mem hkl)
        have HH := Lib.hid (fun j hj => cnt_hit (ws := ws) (k := k) (j := j) hkl hj)
        have HC := Lib.hid (fun j hj W => read_st (ws[k]?.getD 0) (word_lt HX.out k) hgx j hj W)
        have hs := st_cases hgx
        generalize ws[k]?.getD 0 = X at *
        rcases hs with hs | hs | hs | hs
        · have HCj := Lib.hid (HC.out 0 hs)
          obtain ⟨n0, n1⟩ := HH.out 0 hs
          have m1 := n1 1 (by decide)
          have m2 := n1 2 (by decide)
          have m3 := n1 3 (by decide)
          have HN := Lib.hid (show cntV (ws.take (k + 1)) 0 = cntV (ws.take k) 0 + 1 ∧ cntV (ws.take (k + 1)) 1 = cntV (ws.take k) 1 ∧ cntV (ws.take (k + 1)) 2 = cntV (ws.take k) 2 ∧ cntV (ws.take (k + 1)) 3 = cntV (ws.take k) 3 from ⟨n0, m1, m2, m3⟩)
          clear n0 n1 m1 m2 m3 HH HC hs hgx
          generalize cntV (ws.take k) 0 = x0 at *
          generalize cntV (ws.take k) 1 = x1 at *
          generalize cntV (ws.take k) 2 = x2 at *
          generalize cntV (ws.take k) 3 = x3 at *
          have g1 : IntKind.i64.wrap (x0 + 1) = x0 + 1 := IntWalk.i64_in _ (by omega)
          go_wp2_with fail
          refine (HCj.out _).mono ?_
          rintro e w2 ⟨rfl, hb⟩
          generalize (clOf X : Int) = cl at *
          generalize (mpOf X : Int) = mp at *
          generalize (rnOf X : Int) = rn at *
          have z2 := hb.size
          have HQ2 := Lib.hid ((HQ.out.below hb).below (bel1 w2 (.cells #[.int .i64 0, .int .i64 cl, .int .u32 mp, .int .i64 rn] 83)))
          have HA2 := Lib.hid (((bel1 w2 (.cells #[.int .i64 0, .int .i64 cl, .int .u32 mp, .int .i64 rn] 83)).block _ (by omega)).trans ((hb.block _ (by omega)).trans HA.out))
          have HB2 := Lib.hid ((HB.out.trans (hb.mono HB.out.size)).alloc (HB.out.trans (hb.mono HB.out.size)).size (.cells #[.int .i64 0, .int .i64 cl, .int .u32 mp, .int .i64 rn] 83))
          have q0 := blkc HQ2.out 0 rfl
          have f0 := blkf HQ2.out 0
          have zz := sz1 w2 (.cells #[.int .i64 0, .int .i64 cl, .int .u32 mp, .int .i64 rn] 83)
          have hbw : w.heap.size ≤ b := by omega
          have HQ3 := Lib.hid (HQ2.out.set0 (x0 + 1))
          have HA3 := Lib.hid ((Below.heap_setCell _ ⟨b, 0, none⟩ (.int .i64 (x0 + 1)) w.heap.size (by show w.heap.size ≠ b; omega)).trans HA2.out)
          have HB3 := Lib.hid (HB2.out.setCell (p := ⟨b, 0, none⟩) hbw (.int .i64 (x0 + 1)))
          clear hb HQ HA HB HQ2 HA2 HB2 c1 a0 HCj
          go_wp2
          go_roundw
          case rel =>
            obtain ⟨e0, e1, e2, e3⟩ := HN.out
            refine ⟨k + 1, by omega, by go_num, ?_, HA3, HB3⟩
            rw [e0, e1, e2, e3]
            exact HQ3
          case measure => simp [intOf]; omega
        · have HCj := Lib.hid (HC.out 1 hs)
          obtain ⟨n0, n1⟩ := HH.out 1 hs
          have m0 := n1 0 (by decide)
          have m2 := n1 2 (by decide)
          have m3 := n1 3 (by decide)
          have HN := Lib.hid (show cntV (ws.take (k + 1)) 0 = cntV (ws.take k) 0 ∧ cntV (ws.take (k + 1)) 1 = cntV (ws.take k) 1 + 1 ∧ cntV (ws.take (k + 1)) 2 = cntV (ws.take k) 2 ∧ cntV (ws.take (k + 1)) 3 = cntV (ws.take k) 3 from ⟨m0, n0, m2, m3⟩)
          clear n0 n1 m0 m2 m3 HH HC hs hgx
          generalize cntV (ws.take k) 0 = x0 at *
          generalize cntV (ws.take k) 1 = x1 at *
          generalize cntV (ws.take k) 2 = x2 at *
          generalize cntV (ws.take k) 3 = x3 at *
          have g1 : IntKind.i64.wrap (x1 + 1) = x1 + 1 := IntWalk.i64_in _ (by omega)
          go_wp2_with fail
          refine (HCj.out _).mono ?_
          rintro e w2 ⟨rfl, hb⟩
          generalize (clOf X : Int) = cl at *
          generalize (mpOf X : Int) = mp at *
          generalize (rnOf X : Int) = rn at *
          have z2 := hb.size
          have HQ2 := Lib.hid ((HQ.out.below hb).below (bel1 w2 (.cells #[.int .i64 1, .int .i64 cl, .int .u32 mp, .int .i64 rn] 83)))
          have HA2 := Lib.hid (((bel1 w2 (.cells #[.int .i64 1, .int .i64 cl, .int .u32 mp, .int .i64 rn] 83)).block _ (by omega)).trans ((hb.block _ (by omega)).trans HA.out))
          have HB2 := Lib.hid ((HB.out.trans (hb.mono HB.out.size)).alloc (HB.out.trans (hb.mono HB.out.size)).size (.cells #[.int .i64 1, .int .i64 cl, .int .u32 mp, .int .i64 rn] 83))
          have q0 := blkc HQ2.out 1 rfl
          have f0 := blkf HQ2.out 1
          have zz := sz1 w2 (.cells #[.int .i64 1, .int .i64 cl, .int .u32 mp, .int .i64 rn] 83)
          have hbw : w.heap.size ≤ b := by omega
          have HQ3 := Lib.hid (HQ2.out.set1 (x1 + 1))
          have HA3 := Lib.hid ((Below.heap_setCell _ ⟨b, 1, none⟩ (.int .i64 (x1 + 1)) w.heap.size (by show w.heap.size ≠ b; omega)).trans HA2.out)
          have HB3 := Lib.hid (HB2.out.setCell (p := ⟨b, 1, none⟩) hbw (.int .i64 (x1 + 1)))
          clear hb HQ HA HB HQ2 HA2 HB2 c1 a0 HCj
          go_wp2
          go_roundw
          case rel =>
            obtain ⟨e0, e1, e2, e3⟩ := HN.out
            refine ⟨k + 1, by omega, by go_num, ?_, HA3, HB3⟩
            rw [e0, e1, e2, e3]
            exact HQ3
          case measure => simp [intOf]; omega
        · have HCj := Lib.hid (HC.out 2 hs)
          obtain ⟨n0, n1⟩ := HH.out 2 hs
          have m0 := n1 0 (by decide)
          have m1 := n1 1 (by decide)
          have m3 := n1 3 (by decide)
          have HN := Lib.hid (show cntV (ws.take (k + 1)) 0 = cntV (ws.take k) 0 ∧ cntV (ws.take (k + 1)) 1 = cntV (ws.take k) 1 ∧ cntV (ws.take (k + 1)) 2 = cntV (ws.take k) 2 + 1 ∧ cntV (ws.take (k + 1)) 3 = cntV (ws.take k) 3 from ⟨m0, m1, n0, m3⟩)
          clear n0 n1 m0 m1 m3 HH HC hs hgx
          generalize cntV (ws.take k) 0 = x0 at *
          generalize cntV (ws.take k) 1 = x1 at *
          generalize cntV (ws.take k) 2 = x2 at *
          generalize cntV (ws.take k) 3 = x3 at *
          have g1 : IntKind.i64.wrap (x2 + 1) = x2 + 1 := IntWalk.i64_in _ (by omega)
          go_wp2_with fail
          refine (HCj.out _).mono ?_
          rintro e w2 ⟨rfl, hb⟩
          generalize (clOf X : Int) = cl at *
          generalize (mpOf X : Int) = mp at *
          generalize (rnOf X : Int) = rn at *
          have z2 := hb.size
          have HQ2 := Lib.hid ((HQ.out.below hb).below (bel1 w2 (.cells #[.int .i64 2, .int .i64 cl, .int .u32 mp, .int .i64 rn] 83)))
          have HA2 := Lib.hid (((bel1 w2 (.cells #[.int .i64 2, .int .i64 cl, .int .u32 mp, .int .i64 rn] 83)).block _ (by omega)).trans ((hb.block _ (by omega)).trans HA.out))
          have HB2 := Lib.hid ((HB.out.trans (hb.mono HB.out.size)).alloc (HB.out.trans (hb.mono HB.out.size)).size (.cells #[.int .i64 2, .int .i64 cl, .int .u32 mp, .int .i64 rn] 83))
          have q0 := blkc HQ2.out 2 rfl
          have f0 := blkf HQ2.out 2
          have zz := sz1 w2 (.cells #[.int .i64 2, .int .i64 cl, .int .u32 mp, .int .i64 rn] 83)
          have hbw : w.heap.size ≤ b := by omega
          have HQ3 := Lib.hid (HQ2.out.set2 (x2 + 1))
          have HA3 := Lib.hid ((Below.heap_setCell _ ⟨b, 2, none⟩ (.int .i64 (x2 + 1)) w.heap.size (by show w.heap.size ≠ b; omega)).trans HA2.out)
          have HB3 := Lib.hid (HB2.out.setCell (p := ⟨b, 2, none⟩) hbw (.int .i64 (x2 + 1)))
          clear hb HQ HA HB HQ2 HA2 HB2 c1 a0 HCj
          go_wp2
          go_roundw
          case rel =>
            obtain ⟨e0, e1, e2, e3⟩ := HN.out
            refine ⟨k + 1, by omega, by go_num, ?_, HA3, HB3⟩
            rw [e0, e1, e2, e3]
            exact HQ3
          case measure => simp [intOf]; omega
        · have HCj := Lib.hid (HC.out 3 hs)
          obtain ⟨n0, n1⟩ := HH.out 3 hs
          have m0 := n1 0 (by decide)
          have m1 := n1 1 (by decide)
          have m2 := n1 2 (by decide)
          have HN := Lib.hid (show cntV (ws.take (k + 1)) 0 = cntV (ws.take k) 0 ∧ cntV (ws.take (k + 1)) 1 = cntV (ws.take k) 1 ∧ cntV (ws.take (k + 1)) 2 = cntV (ws.take k) 2 ∧ cntV (ws.take (k + 1)) 3 = cntV (ws.take k) 3 + 1 from ⟨m0, m1, m2, n0⟩)
          clear n0 n1 m0 m1 m2 HH HC hs hgx
          generalize cntV (ws.take k) 0 = x0 at *
          generalize cntV (ws.take k) 1 = x1 at *
          generalize cntV (ws.take k) 2 = x2 at *
          generalize cntV (ws.take k) 3 = x3 at *
          have g1 : IntKind.i64.wrap (x3 + 1) = x3 + 1 := IntWalk.i64_in _ (by omega)
          go_wp2_with fail
          refine (HCj.out _).mono ?_
          rintro e w2 ⟨rfl, hb⟩
          generalize (clOf X : Int) = cl at *
          generalize (mpOf X : Int) = mp at *
          generalize (rnOf X : Int) = rn at *
          have z2 := hb.size
          have HQ2 := Lib.hid ((HQ.out.below hb).below (bel1 w2 (.cells #[.int .i64 3, .int .i64 cl, .int .u32 mp, .int .i64 rn] 83)))
          have HA2 := Lib.hid (((bel1 w2 (.cells #[.int .i64 3, .int .i64 cl, .int .u32 mp, .int .i64 rn] 83)).block _ (by omega)).trans ((hb.block _ (by omega)).trans HA.out))
          have HB2 := Lib.hid ((HB.out.trans (hb.mono HB.out.size)).alloc (HB.out.trans (hb.mono HB.out.size)).size (.cells #[.int .i64 3, .int .i64 cl, .int .u32 mp, .int .i64 rn] 83))
          have q0 := blkc HQ2.out 3 rfl
          have f0 := blkf HQ2.out 3
          have zz := sz1 w2 (.cells #[.int .i64 3, .int .i64 cl, .int .u32 mp, .int .i64 rn] 83)
          have hbw : w.heap.size ≤ b := by omega
          have HQ3 := Lib.hid (HQ2.out.set3 (x3 + 1))
          have HA3 := Lib.hid ((Below.heap_setCell _ ⟨b, 3, none⟩ (.int .i64 (x3 + 1)) w.heap.size (by show w.heap.size ≠ b; omega)).trans HA2.out)
          have HB3 := Lib.hid (HB2.out.setCell (p := ⟨b, 3, none⟩) hbw (.int .i64 (x3 + 1)))
          clear hb HQ HA HB HQ2 HA2 HB2 c1 a0 HCj
          go_wp2
          go_roundw
          case rel =>
            obtain ⟨e0, e1, e2, e3⟩ := HN.out
            refine ⟨k + 1, by omega, by go_num, ?_, HA3, HB3⟩
            rw [e0, e1, e2, e3]
            exact HQ3
          case measure => simp [intOf]; omega
      · have hkn : k = n := by omega
        subst hkn
        obtain ⟨r0, r1, r2⟩ := HR.out
        have HR3 := Lib.hid (And.intro r0 (And.intro r1 r2))
        have g1 : IntKind.i64.wrap (cntV (ws.take k) 2 + cntV (ws.take k) 3) = cntV (ws.take k) 2 + cntV (ws.take k) 3 := IntWalk.i64_in _ (by omega)
        clear r0 r1 r2 HR
        generalize cntV (ws.take k) 0 = x0 at *
        generalize cntV (ws.take k) 1 = x1 at *
        generalize cntV (ws.take k) 2 = x2 at *
        generalize cntV (ws.take k) 3 = x3 at *
        have q0 := blkc HQ.out 0 rfl
        have q1 := blkc HQ.out 1 rfl
        have q2 := blkc HQ.out 2 rfl
        have q3 := blkc HQ.out 3 rfl
        go_wp2
        go_quiet (fail)
        go_wp2
        refine bodyPost_ret (results_tmp3 rfl _ _ _) rfl ?_
        obtain ⟨e0, e1, e2⟩ := HR3.out
        rw [e0, e1, e2]
        exact ⟨rfl, ⟨HB.out.os, HB.out.tape, HB.out.output, HB.out.size, HB.out.block⟩⟩
  · rw [decide_eq_false hg] at HM
    have HR : Hid (sumV ws 0 = -1 ∧ sumV ws 1 = -1 ∧ sumV ws 2 = -1) := (show _ ∧ _ ∧ _ from by unfold sumV; simp [hg])
    clear h hX hl hg
    go_enter Try.func32, Try.ntmps32
    go_wp2_with fail
    refine (HM.out _ HB0.out).mono ?_
    rintro e w1 ⟨rfl, hb⟩
    have B1 := Lib.hid (HB0.out.trans (hb.mono HB0.out.size))
    clear hb
    go_wp2
    refine bodyPost_ret (results_tmp3 rfl _ _ _) rfl ?_
    obtain ⟨e0, e1, e2⟩ := HR.out
    rw [e0, e1, e2]
    exact ⟨rfl, B1.out⟩

set_option maxRecDepth 100000 in
set_option maxHeartbeats 4000000 in
theorem sAuditSum_any (A : Option Addr) (n c B : Nat) (ws : List Nat) (w : World) (h : Rd w B A n (ints ws)) (hB : B ≤ w.heap.size) (hX : ∀ X ∈ ws, X < 4294967296) (hm : n ≤ maxLen) :
    Calls Try.prog 31 #[.agg #[.slice A n c]] w fun e w' => e = .returned (.tuple #[.int .i64 (sumV ws 0), .int .i64 (sumV ws 1), .int .i64 (sumV ws 2)]) ∧ Below w.heap.size w w' := by
  have hl : ws.length = n := by rw [← intsW_len]; exact h.1
  have HM : Hid (∀ W, Below w.heap.size w W → Calls Try.prog 48 #[.agg #[.slice A n c]] W fun e w' => e = .returned (.bool (decide (HeapOk ws))) ∧ Below W.heap.size W w') := fun W hb => sMemOk_any A n c B ws W (h.below (hb.mono hB)) (Nat.le_trans hB hb.size) hX hm
  have HB0 := Lib.hid (bel1 w (.cells #[.slice A n c] 51))
  by_cases hg : HeapOk ws
  · rw [decide_eq_true hg] at HM
    have HR : Hid (sumV ws 0 = cntV (ws.take n) 0 ∧ sumV ws 1 = cntV (ws.take n) 1 ∧ sumV ws 2 = cntV (ws.take n) 2 + cntV (ws.take n) 3) := (show _ ∧ _ ∧ _ from by unfold sumV; rw [← hl, List.take_length]; simp [hg])
    have hn : n ≤ 16 := by rw [← hl]; exact hg.1
    have H2 := Lib.hid h.2
    have HX := Lib.hid hX
    have HL := Lib.hid hl
    have HG := Lib.hid hg.2
    have hmx := mixedA
    clear h hX hl hm hg
    go_enter Try.func31, Try.ntmps31
    go_wp2_with fail
    refine (HM.out _ HB0.out).mono ?_
    rintro e w1 ⟨rfl, hb⟩
    obtain ⟨hA, hB1, z1⟩ := nw1 hb
    have a0 := blkc hA 0 rfl
    have B1 := Lib.hid (hB1.alloc hB1.size (.cells #[.int .i64 0, .int .i64 0, .int .i64 0, .int .i64 0] 3))
    have zq := sz1 w1 (.cells #[.int .i64 0, .int .i64 0, .int .i64 0, .int .i64 0] 3)
    have Q1 : Hid (Quad (w1.alloc (.cells #[.int .i64 0, .int .i64 0, .int .i64 0, .int .i64 0] 3)) w1.heap.size 3 (cntV (ws.take 0) 0) (cntV (ws.take 0) 1) (cntV (ws.take 0) 2) (cntV (ws.take 0) 3)) := heap_alloc_new _ _
    have A1 : Hid ((w1.alloc (.cells #[.int .i64 0, .int .i64 0, .int .i64 0, .int .i64 0] 3)).heap[w.heap.size]? = some (.cells #[.slice A n c] 51 (0, 0))) := ((bel1 w1 (.cells #[.int .i64 0, .int .i64 0, .int .i64 0, .int .i64 0] 3)).block _ (by omega)).trans hA
    clear hA hb HM
    go_wp2
    clear a0
    generalize w1.heap.size = b at *
    go_loopw [6] (fun i wr => ∃ k : Nat, k ≤ n ∧ i = .int .i64 k ∧ Hid (Quad wr b 3 (cntV (ws.take k) 0) (cntV (ws.take k) 1) (cntV (ws.take k) 2) (cntV (ws.take k) 3)) ∧ Hid (wr.heap[w.heap.size]? = some (.cells #[.slice A n c] 51 (0, 0))) ∧ Hid (Below w.heap.size w wr)) (fun i _ => n - (intOf i).toNat)
    case atStart => exact ⟨0, Nat.zero_le _, rfl, Q1, A1, B1⟩
    case round =>
      obtain ⟨k, hk, rfl, HQ, HA, HB⟩ := hrel
      clear Q1 A1 B1
      have a0 := blkc HA.out 0 rfl
      have zA : w.heap.size < wr.heap.size := (Array.getElem?_eq_some_iff.1 HA.out).1
      have zQ := HQ.out.lt
      obtain ⟨p0, p0'⟩ := cnt_bound (ws := ws) (k := k) 0 (by omega)
      obtain ⟨p1, p1'⟩ := cnt_bound (ws := ws) (k := k) 1 (by omega)
      obtain ⟨p2, p2'⟩ := cnt_bound (ws := ws) (k := k) 2 (by omega)
      obtain ⟨p3, p3'⟩ := cnt_bound (ws := ws) (k := k) 3 (by omega)
      by_cases hlt : k < n
      · obtain ⟨g, o, rfl, hg, hc⟩ := H2.out (by omega)
        have c1 : wr.cell? ⟨g, o + k, none⟩ = some (.int .u32 ((ws[k]?.getD 0 : Nat) : Int)) := by
          rw [← intsW_at]; exact (HB.out.cell (p := ⟨g, o + k, none⟩) (by show g < _; omega)).trans (hc k hlt)
        clear hc
        have hkl : k < ws.length := by rw [HL.out]; exact hlt
        have hgx : GoodX (ws[k]?.getD 0) := by rw [List.getElem?_eq_getElem hkl]; exact HG.out _ (List.getElem_mem hkl)
        have HH := Lib.hid (fun j hj => cnt_hit (ws := ws) (k := k) (j := j) hkl hj)
        have HC := Lib.hid (fun j hj W => sRead_st (ws[k]?.getD 0) (word_lt HX.out k) hgx j hj W)
        have hs := st_cases hgx
        generalize ws[k]?.getD 0 = X at *
        rcases hs with hs | hs | hs | hs
        · have HCj := Lib.hid (HC.out 0 hs)
          obtain ⟨n0, n1⟩ := HH.out 0 hs
          have m1 := n1 1 (by decide)
          have m2 := n1 2 (by decide)
          have m3 := n1 3 (by decide)
          have HN := Lib.hid (show cntV (ws.take (k + 1)) 0 = cntV (ws.take k) 0 + 1 ∧ cntV (ws.take (k + 1)) 1 = cntV (ws.take k) 1 ∧ cntV (ws.take (k + 1)) 2 = cntV (ws.take k) 2 ∧ cntV (ws.take (k + 1)) 3 = cntV (ws.take k) 3 from ⟨n0, m1, m2, m3⟩)
          clear n0 n1 m1 m2 m3 HH HC hs hgx
          generalize cntV (ws.take k) 0 = x0 at *
          generalize cntV (ws.take k) 1 = x1 at *
          generalize cntV (ws.take k) 2 = x2 at *
          generalize cntV (ws.take k) 3 = x3 at *
          have g1 : IntKind.i64.wrap (x0 + 1) = x0 + 1 := IntWalk.i64_in _ (by omega)
          go_wp2_with fail
          refine (HCj.out _).mono ?_
          rintro e w2 ⟨rfl, hb⟩
          generalize (clOf X : Int) = cl at *
          generalize (mpOf X : Int) = mp at *
          generalize (rnOf X : Int) = rn at *
          have z2 := hb.size
          have HQ2 := Lib.hid ((HQ.out.below hb).below (bel1 w2 (.cells #[.int .i64 0, .int .i64 cl, .int .u32 mp, .int .i64 rn] 83)))
          have HA2 := Lib.hid (((bel1 w2 (.cells #[.int .i64 0, .int .i64 cl, .int .u32 mp, .int .i64 rn] 83)).block _ (by omega)).trans ((hb.block _ (by omega)).trans HA.out))
          have HB2 := Lib.hid ((HB.out.trans (hb.mono HB.out.size)).alloc (HB.out.trans (hb.mono HB.out.size)).size (.cells #[.int .i64 0, .int .i64 cl, .int .u32 mp, .int .i64 rn] 83))
          have q0 := blkc HQ2.out 0 rfl
          have f0 := blkf HQ2.out 0
          have zz := sz1 w2 (.cells #[.int .i64 0, .int .i64 cl, .int .u32 mp, .int .i64 rn] 83)
          have hbw : w.heap.size ≤ b := by omega
          have HQ3 := Lib.hid (HQ2.out.set0 (x0 + 1))
          have HA3 := Lib.hid ((Below.heap_setCell _ ⟨b, 0, none⟩ (.int .i64 (x0 + 1)) w.heap.size (by show w.heap.size ≠ b; omega)).trans HA2.out)
          have HB3 := Lib.hid (HB2.out.setCell (p := ⟨b, 0, none⟩) hbw (.int .i64 (x0 + 1)))
          clear hb HQ HA HB HQ2 HA2 HB2 c1 a0 HCj
          go_wp2
          go_roundw
          case rel =>
            obtain ⟨e0, e1, e2, e3⟩ := HN.out
            refine ⟨k + 1, by omega, by go_num, ?_, HA3, HB3⟩
            rw [e0, e1, e2, e3]
            exact HQ3
          case measure => simp [intOf]; omega
        · have HCj := Lib.hid (HC.out 1 hs)
          obtain ⟨n0, n1⟩ := HH.out 1 hs
          have m0 := n1 0 (by decide)
          have m2 := n1 2 (by decide)
          have m3 := n1 3 (by decide)
          have HN := Lib.hid (show cntV (ws.take (k + 1)) 0 = cntV (ws.take k) 0 ∧ cntV (ws.take (k + 1)) 1 = cntV (ws.take k) 1 + 1 ∧ cntV (ws.take (k + 1)) 2 = cntV (ws.take k) 2 ∧ cntV (ws.take (k + 1)) 3 = cntV (ws.take k) 3 from ⟨m0, n0, m2, m3⟩)
          clear n0 n1 m0 m2 m3 HH HC hs hgx
          generalize cntV (ws.take k) 0 = x0 at *
          generalize cntV (ws.take k) 1 = x1 at *
          generalize cntV (ws.take k) 2 = x2 at *
          generalize cntV (ws.take k) 3 = x3 at *
          have g1 : IntKind.i64.wrap (x1 + 1) = x1 + 1 := IntWalk.i64_in _ (by omega)
          go_wp2_with fail
          refine (HCj.out _).mono ?_
          rintro e w2 ⟨rfl, hb⟩
          generalize (clOf X : Int) = cl at *
          generalize (mpOf X : Int) = mp at *
          generalize (rnOf X : Int) = rn at *
          have z2 := hb.size
          have HQ2 := Lib.hid ((HQ.out.below hb).below (bel1 w2 (.cells #[.int .i64 1, .int .i64 cl, .int .u32 mp, .int .i64 rn] 83)))
          have HA2 := Lib.hid (((bel1 w2 (.cells #[.int .i64 1, .int .i64 cl, .int .u32 mp, .int .i64 rn] 83)).block _ (by omega)).trans ((hb.block _ (by omega)).trans HA.out))
          have HB2 := Lib.hid ((HB.out.trans (hb.mono HB.out.size)).alloc (HB.out.trans (hb.mono HB.out.size)).size (.cells #[.int .i64 1, .int .i64 cl, .int .u32 mp, .int .i64 rn] 83))
          have q0 := blkc HQ2.out 1 rfl
          have f0 := blkf HQ2.out 1
          have zz := sz1 w2 (.cells #[.int .i64 1, .int .i64 cl, .int .u32 mp, .int .i64 rn] 83)
          have hbw : w.heap.size ≤ b := by omega
          have HQ3 := Lib.hid (HQ2.out.set1 (x1 + 1))
          have HA3 := Lib.hid ((Below.heap_setCell _ ⟨b, 1, none⟩ (.int .i64 (x1 + 1)) w.heap.size (by show w.heap.size ≠ b; omega)).trans HA2.out)
          have HB3 := Lib.hid (HB2.out.setCell (p := ⟨b, 1, none⟩) hbw (.int .i64 (x1 + 1)))
          clear hb HQ HA HB HQ2 HA2 HB2 c1 a0 HCj
          go_wp2
          go_roundw
          case rel =>
            obtain ⟨e0, e1, e2, e3⟩ := HN.out
            refine ⟨k + 1, by omega, by go_num, ?_, HA3, HB3⟩
            rw [e0, e1, e2, e3]
            exact HQ3
          case measure => simp [intOf]; omega
        · have HCj := Lib.hid (HC.out 2 hs)
          obtain ⟨n0, n1⟩ := HH.out 2 hs
          have m0 := n1 0 (by decide)
          have m1 := n1 1 (by decide)
          have m3 := n1 3 (by decide)
          have HN := Lib.hid (show cntV (ws.take (k + 1)) 0 = cntV (ws.take k) 0 ∧ cntV (ws.take (k + 1)) 1 = cntV (ws.take k) 1 ∧ cntV (ws.take (k + 1)) 2 = cntV (ws.take k) 2 + 1 ∧ cntV (ws.take (k + 1)) 3 = cntV (ws.take k) 3 from ⟨m0, m1, n0, m3⟩)
          clear n0 n1 m0 m1 m3 HH HC hs hgx
          generalize cntV (ws.take k) 0 = x0 at *
          generalize cntV (ws.take k) 1 = x1 at *
          generalize cntV (ws.take k) 2 = x2 at *
          generalize cntV (ws.take k) 3 = x3 at *
          have g1 : IntKind.i64.wrap (x2 + 1) = x2 + 1 := IntWalk.i64_in _ (by omega)
          go_wp2_with fail
          refine (HCj.out _).mono ?_
          rintro e w2 ⟨rfl, hb⟩
          generalize (clOf X : Int) = cl at *
          generalize (mpOf X : Int) = mp at *
          generalize (rnOf X : Int) = rn at *
          have z2 := hb.size
          have HQ2 := Lib.hid ((HQ.out.below hb).below (bel1 w2 (.cells #[.int .i64 2, .int .i64 cl, .int .u32 mp, .int .i64 rn] 83)))
          have HA2 := Lib.hid (((bel1 w2 (.cells #[.int .i64 2, .int .i64 cl, .int .u32 mp, .int .i64 rn] 83)).block _ (by omega)).trans ((hb.block _ (by omega)).trans HA.out))
          have HB2 := Lib.hid ((HB.out.trans (hb.mono HB.out.size)).alloc (HB.out.trans (hb.mono HB.out.size)).size (.cells #[.int .i64 2, .int .i64 cl, .int .u32 mp, .int .i64 rn] 83))
          have q0 := blkc HQ2.out 2 rfl
          have f0 := blkf HQ2.out 2
          have zz := sz1 w2 (.cells #[.int .i64 2, .int .i64 cl, .int .u32 mp, .int .i64 rn] 83)
          have hbw : w.heap.size ≤ b := by omega
          have HQ3 := Lib.hid (HQ2.out.set2 (x2 + 1))
          have HA3 := Lib.hid ((Below.heap_setCell _ ⟨b, 2, none⟩ (.int .i64 (x2 + 1)) w.heap.size (by show w.heap.size ≠ b; omega)).trans HA2.out)
          have HB3 := Lib.hid (HB2.out.setCell (p := ⟨b, 2, none⟩) hbw (.int .i64 (x2 + 1)))
          clear hb HQ HA HB HQ2 HA2 HB2 c1 a0 HCj
          go_wp2
          go_roundw
          case rel =>
            obtain ⟨e0, e1, e2, e3⟩ := HN.out
            refine ⟨k + 1, by omega, by go_num, ?_, HA3, HB3⟩
            rw [e0, e1, e2, e3]
            exact HQ3
          case measure => simp [intOf]; omega
        · have HCj := Lib.hid (HC.out 3 hs)
          obtain ⟨n0, n1⟩ := HH.out 3 hs
          have m0 := n1 0 (by decide)
          have m1 := n1 1 (by decide)
          have m2 := n1 2 (by decide)
          have HN := Lib.hid (show cntV (ws.take (k + 1)) 0 = cntV (ws.take k) 0 ∧ cntV (ws.take (k + 1)) 1 = cntV (ws.take k) 1 ∧ cntV (ws.take (k + 1)) 2 = cntV (ws.take k) 2 ∧ cntV (ws.take (k + 1)) 3 = cntV (ws.take k) 3 + 1 from ⟨m0, m1, m2, n0⟩)
          clear n0 n1 m0 m1 m2 HH HC hs hgx
          generalize cntV (ws.take k) 0 = x0 at *
          generalize cntV (ws.take k) 1 = x1 at *
          generalize cntV (ws.take k) 2 = x2 at *
          generalize cntV (ws.take k) 3 = x3 at *
          have g1 : IntKind.i64.wrap (x3 + 1) = x3 + 1 := IntWalk.i64_in _ (by omega)
          go_wp2_with fail
          refine (HCj.out _).mono ?_
          rintro e w2 ⟨rfl, hb⟩
          generalize (clOf X : Int) = cl at *
          generalize (mpOf X : Int) = mp at *
          generalize (rnOf X : Int) = rn at *
          have z2 := hb.size
          have HQ2 := Lib.hid ((HQ.out.below hb).below (bel1 w2 (.cells #[.int .i64 3, .int .i64 cl, .int .u32 mp, .int .i64 rn] 83)))
          have HA2 := Lib.hid (((bel1 w2 (.cells #[.int .i64 3, .int .i64 cl, .int .u32 mp, .int .i64 rn] 83)).block _ (by omega)).trans ((hb.block _ (by omega)).trans HA.out))
          have HB2 := Lib.hid ((HB.out.trans (hb.mono HB.out.size)).alloc (HB.out.trans (hb.mono HB.out.size)).size (.cells #[.int .i64 3, .int .i64 cl, .int .u32 mp, .int .i64 rn] 83))
          have q0 := blkc HQ2.out 3 rfl
          have f0 := blkf HQ2.out 3
          have zz := sz1 w2 (.cells #[.int .i64 3, .int .i64 cl, .int .u32 mp, .int .i64 rn] 83)
          have hbw : w.heap.size ≤ b := by omega
          have HQ3 := Lib.hid (HQ2.out.set3 (x3 + 1))
          have HA3 := Lib.hid ((Below.heap_setCell _ ⟨b, 3, none⟩ (.int .i64 (x3 + 1)) w.heap.size (by show w.heap.size ≠ b; omega)).trans HA2.out)
          have HB3 := Lib.hid (HB2.out.setCell (p := ⟨b, 3, none⟩) hbw (.int .i64 (x3 + 1)))
          clear hb HQ HA HB HQ2 HA2 HB2 c1 a0 HCj
          go_wp2
          go_roundw
          case rel =>
            obtain ⟨e0, e1, e2, e3⟩ := HN.out
            refine ⟨k + 1, by omega, by go_num, ?_, HA3, HB3⟩
            rw [e0, e1, e2, e3]
            exact HQ3
          case measure => simp [intOf]; omega
      · have hkn : k = n := by omega
        subst hkn
        obtain ⟨r0, r1, r2⟩ := HR.out
        have HR3 := Lib.hid (And.intro r0 (And.intro r1 r2))
        have g1 : IntKind.i64.wrap (cntV (ws.take k) 2 + cntV (ws.take k) 3) = cntV (ws.take k) 2 + cntV (ws.take k) 3 := IntWalk.i64_in _ (by omega)
        clear r0 r1 r2 HR
        generalize cntV (ws.take k) 0 = x0 at *
        generalize cntV (ws.take k) 1 = x1 at *
        generalize cntV (ws.take k) 2 = x2 at *
        generalize cntV (ws.take k) 3 = x3 at *
        have q0 := blkc HQ.out 0 rfl
        have q1 := blkc HQ.out 1 rfl
        have q2 := blkc HQ.out 2 rfl
        have q3 := blkc HQ.out 3 rfl
        go_wp2
        go_quiet (fail)
        go_wp2
        refine bodyPost_ret (results_tmp3 rfl _ _ _) rfl ?_
        obtain ⟨e0, e1, e2⟩ := HR3.out
        rw [e0, e1, e2]
        exact ⟨rfl, ⟨HB.out.os, HB.out.tape, HB.out.output, HB.out.size, HB.out.block⟩⟩
  · rw [decide_eq_false hg] at HM
    have HR : Hid (sumV ws 0 = -1 ∧ sumV ws 1 = -1 ∧ sumV ws 2 = -1) := (show _ ∧ _ ∧ _ from by unfold sumV; simp [hg])
    clear h hX hl hg
    go_enter Try.func31, Try.ntmps31
    go_wp2_with fail
    refine (HM.out _ HB0.out).mono ?_
    rintro e w1 ⟨rfl, hb⟩
    have B1 := Lib.hid (HB0.out.trans (hb.mono HB0.out.size))
    clear hb
    go_wp2
    refine bodyPost_ret (results_tmp3 rfl _ _ _) rfl ?_
    obtain ⟨e0, e1, e2⟩ := HR.out
    rw [e0, e1, e2]
    exact ⟨rfl, B1.out⟩

end Go.Proofs.Ythcchnaoenjhlaa
