/- Whether the words of a memory are the control words of a heap: the program's isHeap, the model's l07MemOk. -/
import Derived.Test.YtefcaeldkdbjdaaMachM
import Derived.Test.YtefcaeldkdbjdaaSCtlP
import Derived.Test.YtefcaeldkdbjdaaNewB
namespace Go.Proofs.Ytefcaeldkdbjdaa
open Go.RowKit
set_option linter.unusedVariables false

def HeapOk (ws : List Nat) : Prop := ws.length ≤ 16 ∧ ∀ X ∈ ws, GoodX X
instance (ws : List Nat) : Decidable (HeapOk ws) := inferInstanceAs (Decidable (_ ∧ _))
theorem intsW_at (ws : List Nat) (k : Nat) : (ints ws)[k]?.getD 0 = ((ws[k]?.getD 0 : Nat) : Int) := by
  unfold ints
  rw [List.getElem?_map]
  cases ws[k]? <;> simp
theorem intsW_len (ws : List Nat) : (ints ws).length = ws.length := by simp [ints]
theorem word_lt {ws : List Nat} (h : ∀ X ∈ ws, X < 4294967296) (k : Nat) : ws[k]?.getD 0 < 4294967296 := by
  by_cases hk : k < ws.length
  · rw [List.getElem?_eq_getElem hk]; exact h _ (List.getElem_mem hk)
  · rw [List.getElem?_eq_none (by omega)]; simp
theorem good_next {ws : List Nat} {k : Nat} (h : ∀ X ∈ ws.take k, GoodX X) (hk : k < ws.length) (h1 : GoodX (ws[k]?.getD 0)) : ∀ X ∈ ws.take (k + 1), GoodX X := by
  intro X hX
  rw [List.take_succ_eq_append_getElem hk] at hX
  rcases List.mem_append.1 hX with hX | hX
  · exact h X hX
  · simp at hX
    subst hX
    rwa [List.getElem?_eq_getElem hk] at h1
theorem good_not {ws : List Nat} {k : Nat} (hk : k < ws.length) (h1 : ¬ GoodX (ws[k]?.getD 0)) : ¬ HeapOk ws := fun h => h1 (by rw [List.getElem?_eq_getElem hk]; exact h.2 _ (List.getElem_mem hk))

set_option maxRecDepth 100000 in
set_option maxHeartbeats 2000000 in
theorem isHeap_any (A : Option Addr) (n c B : Nat) (ws : List Nat) (w : World) (h : Rd w B A n (ints ws)) (hB : B ≤ w.heap.size) (hX : ∀ X ∈ ws, X < 4294967296) (hm : n ≤ maxLen) :
    Calls Try.prog 18 #[.agg #[.slice A n c]] w fun e w' => e = .returned (.bool (decide (HeapOk ws))) ∧ Below w.heap.size w w' := by
  have hl : ws.length = n := by rw [← intsW_len]; exact h.1
  unfold maxLen at hm
  by_cases hn : n ≤ 16
  · have H2 := Lib.hid h.2
    have HX := Lib.hid hX
    have HL := Lib.hid hl
    clear h hX hl
    go_enter Try.func18, Try.ntmps18
    go_wp2
    go_loopw [14] (fun i wr => ∃ k : Nat, k ≤ n ∧ i = .int .i64 k ∧ Hid (∀ X ∈ ws.take k, GoodX X) ∧ Hid (Below w.heap.size w wr)) (fun i _ => n - (intOf i).toNat)
    case atStart => exact ⟨0, Nat.zero_le _, rfl, by simp [Hid], bel1 _ _⟩
    case round =>
      obtain ⟨k, hk, rfl, HG, HB⟩ := hrel
      by_cases hlt : k < n
      · obtain ⟨g, o, rfl, hg, hc⟩ := H2.out (by omega)
        have c1 : wr.cell? ⟨g, o + k, none⟩ = some (.int .u32 ((ws[k]?.getD 0 : Nat) : Int)) := by
          rw [← intsW_at]; exact (HB.out.cell (p := ⟨g, o + k, none⟩) (by show g < _; omega)).trans (hc k hlt)
        have HC := Lib.hid (fun W => ctlRead_any (ws[k]?.getD 0) W (word_lt HX.out k))
        clear hc
        have hkl : k < ws.length := by rw [HL.out]; exact hlt
        by_cases hq : GoodX (ws[k]?.getD 0)
        · have HN := Lib.hid (good_next HG.out hkl hq)
          rw [decide_eq_true hq] at HC
          unfold readV at HC
          clear hq HG
          generalize ws[k]?.getD 0 = X at *
          generalize ((readN X (stOf X) : Nat) : Int) = st at *
          generalize ((readN X (clOf X) : Nat) : Int) = cl at *
          generalize ((readN X (mpOf X) : Nat) : Int) = mp at *
          generalize ((readN X (rnOf X) : Nat) : Int) = rn at *
          go_wp2_with fail
          refine (HC.out _).mono ?_
          rintro e w2 ⟨rfl, hb⟩
          have HB2 := Lib.hid (HB.out.trans (hb.mono HB.out.size))
          clear hb HB HC c1
          go_wp2
          go_roundw
          case rel => exact ⟨k + 1, by omega, by go_num, HN, HB2.out.alloc HB2.out.size _⟩
          case measure => simp [intOf]; omega
        · have HN : Hid (decide (HeapOk ws) = false) := decide_eq_false (good_not hkl hq)
          rw [decide_eq_false hq] at HC
          unfold readV at HC
          clear hq HG
          generalize ws[k]?.getD 0 = X at *
          generalize ((readN X (stOf X) : Nat) : Int) = st at *
          generalize ((readN X (clOf X) : Nat) : Int) = cl at *
          generalize ((readN X (mpOf X) : Nat) : Int) = mp at *
          generalize ((readN X (rnOf X) : Nat) : Int) = rn at *
          go_wp2_with fail
          refine (HC.out _).mono ?_
          rintro e w2 ⟨rfl, hb⟩
          have HB2 := Lib.hid (HB.out.trans (hb.mono HB.out.size))
          clear hb HB HC c1
          go_wp2
          go_ret
          exact ⟨by rw [HN.out]; rfl, HB2.out.alloc HB2.out.size _⟩
      · have HN : Hid (decide (HeapOk ws) = true) := decide_eq_true ⟨by rw [HL.out]; exact hn, by have := HG.out; rwa [List.take_of_length_le (by rw [HL.out]; omega)] at this⟩
        go_wp2
        go_ret
        exact ⟨by rw [HN.out]; rfl, HB.out⟩
  · have HN : Hid (decide (HeapOk ws) = false) := decide_eq_false (fun h => by have := h.1; omega)
    have hn2 : (16 : Int) < n := by omega
    clear h hX hl
    go_enter Try.func18, Try.ntmps18
    go_wp2
    go_ret
    exact ⟨by rw [HN.out]; rfl, bel1 _ _⟩

set_option maxRecDepth 100000 in
set_option maxHeartbeats 2000000 in
theorem sMemOk_any (A : Option Addr) (n c B : Nat) (ws : List Nat) (w : World) (h : Rd w B A n (ints ws)) (hB : B ≤ w.heap.size) (hX : ∀ X ∈ ws, X < 4294967296) (hm : n ≤ maxLen) :
    Calls Try.prog 13 #[.agg #[.slice A n c]] w fun e w' => e = .returned (.bool (decide (HeapOk ws))) ∧ Below w.heap.size w w' := by
  have hl : ws.length = n := by rw [← intsW_len]; exact h.1
  unfold maxLen at hm
  by_cases hn : n ≤ 16
  · have H2 := Lib.hid h.2
    have HX := Lib.hid hX
    have HL := Lib.hid hl
    clear h hX hl
    go_enter Try.func13, Try.ntmps13
    go_wp2
    go_loopw [3] (fun i wr => ∃ k : Nat, k ≤ n ∧ i = .int .i64 k ∧ Hid (∀ X ∈ ws.take k, GoodX X) ∧ Hid (wr.heap[w.heap.size]? = some (.cells #[.slice A n c] 29 (0, 0))) ∧ Hid (Below w.heap.size w wr)) (fun i _ => n - (intOf i).toNat)
    case atStart => exact ⟨0, Nat.zero_le _, rfl, by simp [Hid], heap_alloc_new _ _, bel1 _ _⟩
    case round =>
      obtain ⟨k, hk, rfl, HG, HA, HB⟩ := hrel
      have a0 := blkc HA.out 0 rfl
      have zA : w.heap.size < wr.heap.size := (Array.getElem?_eq_some_iff.1 HA.out).1
      by_cases hlt : k < n
      · obtain ⟨g, o, rfl, hg, hc⟩ := H2.out (by omega)
        have c1 : wr.cell? ⟨g, o + k, none⟩ = some (.int .u32 ((ws[k]?.getD 0 : Nat) : Int)) := by
          rw [← intsW_at]; exact (HB.out.cell (p := ⟨g, o + k, none⟩) (by show g < _; omega)).trans (hc k hlt)
        have HC := Lib.hid (fun W => sCtlRead_any (ws[k]?.getD 0) W (word_lt HX.out k))
        clear hc
        have hkl : k < ws.length := by rw [HL.out]; exact hlt
        by_cases hq : GoodX (ws[k]?.getD 0)
        · have HN := Lib.hid (good_next HG.out hkl hq)
          rw [decide_eq_true hq] at HC
          unfold readV at HC
          clear hq HG
          generalize ws[k]?.getD 0 = X at *
          generalize ((readN X (stOf X) : Nat) : Int) = st at *
          generalize ((readN X (clOf X) : Nat) : Int) = cl at *
          generalize ((readN X (mpOf X) : Nat) : Int) = mp at *
          generalize ((readN X (rnOf X) : Nat) : Int) = rn at *
          go_wp2_with fail
          refine (HC.out _).mono ?_
          rintro e w2 ⟨rfl, hb⟩
          have HB2 := Lib.hid (HB.out.trans (hb.mono HB.out.size))
          have HA2 := Lib.hid ((hb.block _ zA).trans HA.out)
          have zA2 : w.heap.size < w2.heap.size := Nat.lt_of_lt_of_le zA hb.size
          clear hb HB HC c1 HA a0
          go_wp2
          go_roundw
          case rel => exact ⟨k + 1, by omega, by go_num, HN, ((bel1 _ _).block _ zA2).trans HA2.out, HB2.out.alloc HB2.out.size _⟩
          case measure => simp [intOf]; omega
        · have HN : Hid (decide (HeapOk ws) = false) := decide_eq_false (good_not hkl hq)
          rw [decide_eq_false hq] at HC
          unfold readV at HC
          clear hq HG
          generalize ws[k]?.getD 0 = X at *
          generalize ((readN X (stOf X) : Nat) : Int) = st at *
          generalize ((readN X (clOf X) : Nat) : Int) = cl at *
          generalize ((readN X (mpOf X) : Nat) : Int) = mp at *
          generalize ((readN X (rnOf X) : Nat) : Int) = rn at *
          go_wp2_with fail
          refine (HC.out _).mono ?_
          rintro e w2 ⟨rfl, hb⟩
          have HB2 := Lib.hid (HB.out.trans (hb.mono HB.out.size))
          clear hb HB HC c1 HA a0
          go_wp2
          go_ret
          exact ⟨by rw [HN.out]; rfl, HB2.out.alloc HB2.out.size _⟩
      · have HN : Hid (decide (HeapOk ws) = true) := decide_eq_true ⟨by rw [HL.out]; exact hn, by have := HG.out; rwa [List.take_of_length_le (by rw [HL.out]; omega)] at this⟩
        go_wp2
        go_ret
        exact ⟨by rw [HN.out]; rfl, HB.out⟩
  · have HN : Hid (decide (HeapOk ws) = false) := decide_eq_false (fun h => by have := h.1; omega)
    have hn2 : (16 : Int) < n := by omega
    clear h hX hl
    go_enter Try.func13, Try.ntmps13
    go_wp2
    go_ret
    exact ⟨by rw [HN.out]; rfl, bel1 _ _⟩

end Go.Proofs.Ytefcaeldkdbjdaa
