/- The parts of a machine, each alone: what is asked of them; the program's hasValidParts. -/
import Derived.Test.YtefcaeldkdbjdaaGreatMachE
import Derived.Test.YtefcaeldkdbjdaaGreatIWarpOk
import Derived.Test.YtefcaeldkdbjdaaGreatOwnM
namespace Go.Proofs.YtefcaeldkdbjdaaGreat
open Go.RowKit
set_option linter.unusedVariables false

def WGood (v : WV) (ch : Int) : Prop := WarpGood v.kd v.vs v.gs v.td v.ph v.pr v.hd v.sn ch
instance (v : WV) (ch : Int) : Decidable (WGood v ch) := inferInstanceAs (Decidable (WarpGood _ _ _ _ _ _ _ _ _))
/-- Words and warps, each alone. -/
def PartsOk (ws : List Nat) (m : Nat) (V : Nat → WV) : Prop := HeapOk ws ∧ 1 ≤ m ∧ m ≤ 4 ∧ ∀ i, i < m → WGood (V i) (ws.length : Int)
instance (ws : List Nat) (m : Nat) (V : Nat → WV) : Decidable (PartsOk ws m V) := inferInstanceAs (Decidable (_ ∧ _ ∧ _ ∧ ∀ i, i < m → _))

set_option maxRecDepth 100000 in
set_option maxHeartbeats 4000000 in
theorem hasValidParts_any (A : Option Addr) (n c Q1 : Nat) (ws : List Nat) (B : Option Addr) (m d Q2 : Nat) (xs : List Wc) (V : Nat → WV) (w : World) (h1 : Rd w Q1 A n (ints ws)) (hQ1 : Q1 ≤ w.heap.size) (hX : ∀ X ∈ ws, X < 4294967296) (hn : n ≤ maxLen) (h2 : RdW w Q2 B m xs) (hQ2 : Q2 ≤ w.heap.size) (hm : m ≤ maxLen) (hV : ∀ i, i < m → (wat xs i).v = V i) (hf : ∀ i, i < m → (V i).Fit) :
    Calls Tryz.prog 72 #[.agg #[.slice A n c, .slice B m d]] w fun e w' => e = .returned (.bool (decide (PartsOk ws m V))) ∧ Below w.heap.size w w' := by
  have hl : ws.length = n := by rw [← intsW_len]; exact h1.1
  have HH : Hid (∀ W, Below w.heap.size w W → Calls Tryz.prog 42 #[.agg #[.slice A n c]] W fun e w' => e = .returned (.bool (decide (HeapOk ws))) ∧ Below W.heap.size W w') := fun W hb => isHeap_any A n c Q1 ws W (h1.below (hb.mono hQ1)) (Nat.le_trans hQ1 hb.size) hX hn
  have HB0 := Lib.hid (bel1 w (.cells #[.slice A n c, .slice B m d] 37))
  have H2 := Lib.hid h2
  have HV := Lib.hid hV
  have HF := Lib.hid hf
  have HL := Lib.hid hl
  unfold maxLen at hm
  clear h1 hX hn h2 hV hf hl
  by_cases e0 : HeapOk ws
  · have k0 : decide (HeapOk ws) = true := decide_eq_true e0
    by_cases e1 : 1 ≤ m
    · have k1 : ¬ (m : Int) < 1 := by omega
      by_cases e2 : m ≤ 4
      · have k2 : ¬ (4 : Int) < (m : Int) := by omega
        have H0 := Lib.hid e0
        clear e0
        go_enter Tryz.func72, Tryz.ntmps72
        go_wp2_with fail
        refine (HH.out _ HB0.out).mono ?_
        rintro e w1 ⟨rfl, hb⟩
        obtain ⟨hA, hB1, z1⟩ := nw1 hb
        have B1 := Lib.hid hB1
        have HA := Lib.hid hA
        have a0 := blkc hA 0 rfl
        have a1 := blkc hA 1 rfl
        clear hb hA hB1 HH HB0
        go_wp2
        clear a0 a1
        go_loopw [24] (fun i wr => ∃ k : Nat, k ≤ m ∧ i = .int .i64 (k : Int) ∧ Hid (∀ i, i < k → WGood (V i) (ws.length : Int)) ∧ Hid (wr.heap[w.heap.size]? = some (.cells #[.slice A n c, .slice B m d] 37 (0, 0))) ∧ Hid (Below w.heap.size w wr)) (fun i _ => m - (intOf i).toNat)
        case atStart => exact ⟨0, Nat.zero_le _, rfl, fun i hi => absurd hi (by omega), HA, B1⟩
        case round =>
          obtain ⟨k, hk, rfl, HG, HAr, HB⟩ := hrel
          clear HA B1
          by_cases hlt : k < m
          · obtain ⟨g, o, rfl, hg, e8⟩ := H2.out.at8 hlt
            have hr := H2.out.rows hlt
            have hv := HV.out k hlt
            have hfk := HF.out k hlt
            have e9 := e8.below (HB.out.mono hQ2) hg
            unfold At8 at e9
            rw [hv] at e9 hr
            obtain ⟨c0, c1, c2, c3, c4, c5, c6, c7⟩ := e9
            have HR1 := Lib.hid (hr.1.below (HB.out.mono hQ2))
            have HR2 := Lib.hid (hr.2.below (HB.out.mono hQ2))
            obtain ⟨f1, f2, f3, f4, f5⟩ := hfk
            have a0 := blkc HAr.out 0 rfl
            have a1 := blkc HAr.out 1 rfl
            have zA : w.heap.size < wr.heap.size := (Array.getElem?_eq_some_iff.1 HAr.out).1
            have hQ3 := Nat.le_trans hQ2 HB.out.size
            have HW : Hid (∀ W, Below wr.heap.size wr W → Calls Tryz.prog 82 #[.agg #[.int .i64 (V k).kd, .slice (wat xs k).A (V k).vs.length (wat xs k).c, .slice (wat xs k).B (V k).gs.length (wat xs k).d, .int .u32 ((V k).td : Int), .int .i64 (V k).ph, .int .i64 (V k).pr, .int .i64 (V k).hd, .int .u32 ((V k).sn : Int)], .int .i64 (n : Int)] W fun e w' => e = .returned (.bool (decide (WGood (V k) (n : Int)))) ∧ Below W.heap.size W w') := fun W hb => warpOk_any (V k).kd _ _ _ _ _ _ (V k).td (V k).ph (V k).pr (V k).hd (V k).sn (V k).vs (V k).gs Q2 Q2 (n : Int) W (HR1.out.below (hb.mono hQ3)) (Nat.le_trans hQ3 hb.size) f1 (HR2.out.below (hb.mono hQ3)) f2 f3 f4 f5
            clear e8 hr hv f1 f2 f3 f4 f5
            generalize (V k).kd = v0 at *
            generalize (V k).td = v3 at *
            generalize (V k).ph = v4 at *
            generalize (V k).pr = v5 at *
            generalize (V k).hd = v6 at *
            generalize (V k).sn = v7 at *
            have hb1 := bel1 wr (.cells #[.int .i64 v0, .slice (wat xs k).A (V k).vs.length (wat xs k).c, .slice (wat xs k).B (V k).gs.length (wat xs k).d, .int .u32 (v3 : Int), .int .i64 v4, .int .i64 v5, .int .i64 v6, .int .u32 (v7 : Int)] 49)
            by_cases hg : WGood (V k) (n : Int)
            · rw [decide_eq_true hg] at HW
              have HN : Hid (∀ i, i < k + 1 → WGood (V i) (ws.length : Int)) := fun i hi => by
                by_cases e : i = k
                · subst e; rw [HL.out]; exact hg
                · exact HG.out i (by omega)
              clear hg HG
              go_wp2_with fail
              refine (HW.out _ hb1).mono ?_
              rintro e w2 ⟨rfl, hb⟩
              have hb2 := hb1.trans (hb.mono hb1.size)
              have HB2 := Lib.hid (HB.out.trans (hb2.mono HB.out.size))
              have HA2 := Lib.hid ((hb2.block _ zA).trans HAr.out)
              clear hb hb1 hb2 HB HAr HW c0 c1 c2 c3 c4 c5 c6 c7 a0 a1 HR1 HR2
              go_wp2
              go_roundw
              case rel => exact ⟨k + 1, by omega, by go_num, HN, HA2, HB2⟩
              case measure => simp [intOf]; omega
            · rw [decide_eq_false hg] at HW
              have HN : Hid (decide (PartsOk ws m V) = false) := decide_eq_false (fun h => hg (by rw [← HL.out]; exact h.2.2.2 k hlt))
              clear hg HG
              go_wp2_with fail
              refine (HW.out _ hb1).mono ?_
              rintro e w2 ⟨rfl, hb⟩
              have hb2 := hb1.trans (hb.mono hb1.size)
              have HB2 := Lib.hid (HB.out.trans (hb2.mono HB.out.size))
              clear hb hb1 hb2 HB HAr HW c0 c1 c2 c3 c4 c5 c6 c7 a0 a1 HR1 HR2
              go_wp2
              go_ret
              exact ⟨by rw [HN.out]; rfl, HB2.out⟩
          · have HN : Hid (decide (PartsOk ws m V) = true) := decide_eq_true ⟨H0.out, e1, e2, fun i hi => HG.out i (by omega)⟩
            go_wp2
            go_ret
            exact ⟨by rw [HN.out]; rfl, HB.out⟩
      · have k2 : (4 : Int) < (m : Int) := by omega
        have HN : Hid (decide (PartsOk ws m V) = false) := decide_eq_false (fun h => e2 h.2.2.1)
        clear e0
        go_enter Tryz.func72, Tryz.ntmps72
        go_wp2_with fail
        refine (HH.out _ HB0.out).mono ?_
        rintro e w1 ⟨rfl, hb⟩
        obtain ⟨hA, hB1, z1⟩ := nw1 hb
        have B1 := Lib.hid hB1
        have a1 := blkc hA 1 rfl
        clear hb hA hB1 HH HB0
        go_wp2
        go_ret
        exact ⟨by rw [HN.out]; rfl, B1.out⟩
    · have k1 : (m : Int) < 1 := by omega
      have HN : Hid (decide (PartsOk ws m V) = false) := decide_eq_false (fun h => e1 h.2.1)
      clear e0
      go_enter Tryz.func72, Tryz.ntmps72
      go_wp2_with fail
      refine (HH.out _ HB0.out).mono ?_
      rintro e w1 ⟨rfl, hb⟩
      obtain ⟨hA, hB1, z1⟩ := nw1 hb
      have B1 := Lib.hid hB1
      have a1 := blkc hA 1 rfl
      clear hb hA hB1 HH HB0
      go_wp2
      go_ret
      exact ⟨by rw [HN.out]; rfl, B1.out⟩
  · have k0 : decide (HeapOk ws) = false := decide_eq_false e0
    have HN : Hid (decide (PartsOk ws m V) = false) := decide_eq_false (fun h => e0 h.1)
    clear e0
    go_enter Tryz.func72, Tryz.ntmps72
    go_wp2_with fail
    refine (HH.out _ HB0.out).mono ?_
    rintro e w1 ⟨rfl, hb⟩
    obtain ⟨hA, hB1, z1⟩ := nw1 hb
    have B1 := Lib.hid hB1
    clear hb hA hB1 HH HB0
    go_wp2
    go_ret
    exact ⟨by rw [HN.out]; rfl, B1.out⟩

end Go.Proofs.YtefcaeldkdbjdaaGreat
