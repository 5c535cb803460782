/- takenChunks and Fits of the program. -/
import Derived.Test.YtefcaeldkdbjdaaFitM
import Derived.Test.YtefcaeldkdbjdaaIRoom
import Derived.Test.YtefcaeldkdbjdaaILong
import Derived.Test.YtefcaeldkdbjdaaILow
import Derived.Test.YtefcaeldkdbjdaaNewB
import Derived.Shelf.Abstract
import Derived.Deep.RegionHeld3
namespace Go.Proofs.Ytefcaeldkdbjdaa
open Go.RowKit
set_option linter.unusedVariables false

set_option maxRecDepth 100000 in
set_option maxHeartbeats 2000000 in
theorem takenChunks_any (A : Option Addr) (n c B : Nat) (ws : List Nat) (w : World) (h : Rd w B A n (ints ws)) (hB : B ≤ w.heap.size) (hn : n ≤ 16) :
    Calls Try.prog 21 #[.agg #[.slice A n c]] w fun e w' => e = .returned (.int .u32 (takK ws n : Int)) ∧ Below w.heap.size w w' := by
  have hl : ws.length = n := by rw [← intsW_len]; exact h.1
  have H2 := Lib.hid h.2
  clear h
  go_enter Try.func21, Try.ntmps21
  go_wp2
  go_loopw [3, 9] (fun x i wr => ∃ k y : Nat, k ≤ n ∧ i = .int .i64 k ∧ x = .int .u32 (y : Int) ∧ Hid (y = takK ws k) ∧ Hid (Below w.heap.size w wr)) (fun _ i _ => n - (intOf i).toNat)
  case atStart => exact ⟨0, 0, Nat.zero_le _, rfl, rfl, rfl, bel1 _ _⟩
  case round =>
    obtain ⟨k, y, hk, rfl, rfl, HY, HB⟩ := hrel
    by_cases hlt : k < n
    · obtain ⟨g, o, rfl, hg, hc⟩ := H2.out (by omega)
      have c1 : wr.cell? ⟨g, o + k, none⟩ = some (.int .u32 ((ws[k]?.getD 0 : Nat) : Int)) := by
        rw [← intsW_at]; exact (HB.out.cell (p := ⟨g, o + k, none⟩) (by show g < _; omega)).trans (hc k hlt)
      have hk32 : ¬ (32 : Int) ≤ k := by omega
      have hy := takK_lt ws (k := k) (by omega)
      have hy2 : y < 4294967296 := by rw [HY.out]; exact hy
      by_cases h0 : ws[k]?.getD 0 = 0
      · have HN : Hid (y = takK ws (k + 1)) := by
          show _ = _
          rw [HY.out, takK, if_pos h0]
        rw [h0] at c1
        clear hc HY hy h0
        go_wp2
        go_roundw
        case rel => exact ⟨k + 1, y, by omega, by go_num, rfl, HN, HB⟩
        case measure => simp [intOf]; omega
      · have HN : Hid (y ||| 2 ^ k = takK ws (k + 1)) := by
          show _ = _
          rw [HY.out, takK, if_neg h0]
        have HOB := Lib.hid (or_bit (y := y) (j := k) hy2 (by omega))
        have hx0 : (((ws[k]?.getD 0 : Nat) : Int) != 0) = true := by simpa using h0
        clear hc HY hy h0
        generalize ws[k]?.getD 0 = X at *
        go_wp2
        go_roundw
        case rel => exact ⟨k + 1, y ||| 2 ^ k, by omega, by go_num, by rw [← HOB.out], HN, HB⟩
        case measure => simp [intOf]; omega
    · obtain rfl : k = n := by omega
      go_wp2
      go_ret
      exact ⟨by rw [← HY.out]; rfl, HB.out⟩

set_option maxRecDepth 100000 in
set_option maxHeartbeats 1000000 in
theorem fits1_any (b X : Nat) (K : Int) (w : World) (hX : X < 4294967296) (hc : w.cell? ⟨b, 0, none⟩ = some (.int .i64 K)) :
    Calls Try.prog 24 #[.int .u32 (X : Int), .pointer (some ⟨b, 0, none⟩)] w fun e w' => e = .returned (.bool (decide (0 < roomV X K))) ∧ Below w.heap.size w w' := by
  have HR := Lib.hid (fun W => room_any X K W hX)
  go_enter Try.func24, Try.ntmps24
  go_wp2_with fail
  refine (HR.out _).mono ?_
  rintro e w1 ⟨rfl, hb⟩
  go_wp2
  go_ret
  exact ⟨rfl, hb⟩

set_option maxRecDepth 100000 in
set_option maxHeartbeats 2000000 in
theorem indexFunc_any (A : Option Addr) (n c B : Nat) (ws : List Nat) (b : Nat) (K : Int) (w : World) (h : Rd w B A n (ints ws)) (hB : B ≤ w.heap.size) (hX : ∀ X ∈ ws, X < 4294967296) (hn : n ≤ 16) (hb : b < w.heap.size) (hc : w.cell? ⟨b, 0, none⟩ = some (.int .i64 K)) :
    Calls Try.prog 37 #[.slice A n c, .func (.func 24) #[] #[.pointer (some ⟨b, 0, none⟩)]] w fun e w' => ∃ z : Int, e = .returned (.int .i64 z) ∧ (0 ≤ z ↔ SomeN ws n K) ∧ Below w.heap.size w w' := by
  have hl : ws.length = n := by rw [← intsW_len]; exact h.1
  have H2 := Lib.hid h.2
  have HX := Lib.hid hX
  have HP : Hid (∀ W X, X < 4294967296 → Below w.heap.size w W → Calls Try.prog 24 #[.int .u32 ((X : Nat) : Int), .pointer (some ⟨b, 0, none⟩)] W fun e w' => e = .returned (.bool (decide (0 < roomV X K))) ∧ Below W.heap.size W w') := fun W X h1 h2 => fits1_any b X K W h1 ((h2.cell (p := ⟨b, 0, none⟩) hb).trans hc)
  have eg : ∀ args w, (callFunc 24 args).run Try.prog w = .ok (.enter 24 args) w := enters_of (P := Try.prog) Try.func24 (by kernel_rfl) rfl
  clear h hX hb hc
  go_enter Try.func37, Try.ntmps37
  go_wp2
  go_loopw [8] (fun i wr => ∃ k : Nat, k ≤ n ∧ i = .int .i64 k ∧ Hid (¬ SomeN ws k K) ∧ Hid (Below w.heap.size w wr)) (fun i _ => n - (intOf i).toNat)
  case atStart => exact ⟨0, Nat.zero_le _, rfl, fun ⟨k, h, _⟩ => by omega, Below.refl _ _⟩
  case round =>
    obtain ⟨k, hk, rfl, HN, HB⟩ := hrel
    by_cases hlt : k < n
    · obtain ⟨g, o, rfl, hg, hc⟩ := H2.out (by omega)
      have c1 : wr.cell? ⟨g, o + k, none⟩ = some (.int .u32 ((ws[k]?.getD 0 : Nat) : Int)) := by
        rw [← intsW_at]; exact (HB.out.cell (p := ⟨g, o + k, none⟩) (by show g < _; omega)).trans (hc k hlt)
      have HC := Lib.hid (HP.out wr _ (word_lt HX.out k) HB.out)
      clear hc
      by_cases hq : 0 < roomV (ws[k]?.getD 0) K
      · have HS : Hid (SomeN ws n K) := ⟨k, hlt, hq⟩
        rw [decide_eq_true hq] at HC
        clear hq HN
        generalize ws[k]?.getD 0 = X at *
        go_wp2_with (go_at_fn 24; refine HC.out.mono ?_; rintro e w2 ⟨rfl, hb2⟩)
        go_ret
        exact ⟨_, rfl, ⟨fun _ => HS.out, fun _ => by omega⟩, HB.out.trans (hb2.mono HB.out.size)⟩
      · have HS : Hid (¬ SomeN ws (k + 1) K) := fun h => (SomeN.next.1 h).elim HN.out hq
        rw [decide_eq_false hq] at HC
        clear hq HN
        generalize ws[k]?.getD 0 = X at *
        go_wp2_with (go_at_fn 24; refine HC.out.mono ?_; rintro e w2 ⟨rfl, hb2⟩; have HB2 := Lib.hid (HB.out.trans (hb2.mono HB.out.size)); clear hb2 HB HC c1)
        go_roundw
        case rel => exact ⟨k + 1, by omega, by go_num, HS, HB2⟩
        case measure => simp [intOf]; omega
    · obtain rfl : k = n := by omega
      go_wp2
      go_ret
      exact ⟨_, rfl, ⟨fun h => absurd h (by omega), fun h => absurd h HN.out⟩, HB.out⟩

set_option maxRecDepth 100000 in
set_option maxHeartbeats 1000000 in
theorem containsFunc_any (A : Option Addr) (n c B : Nat) (ws : List Nat) (b : Nat) (K : Int) (w : World) (h : Rd w B A n (ints ws)) (hB : B ≤ w.heap.size) (hX : ∀ X ∈ ws, X < 4294967296) (hn : n ≤ 16) (hb : b < w.heap.size) (hc : w.cell? ⟨b, 0, none⟩ = some (.int .i64 K)) :
    Calls Try.prog 23 #[.slice A n c, .func (.func 24) #[] #[.pointer (some ⟨b, 0, none⟩)]] w fun e w' => ∃ r : Bool, e = .returned (.bool r) ∧ (r = true ↔ SomeN ws n K) ∧ Below w.heap.size w w' := by
  have HI := Lib.hid (indexFunc_any A n c B ws b K w h hB hX hn hb hc)
  clear h hX hb hc
  go_enter Try.func23, Try.ntmps23
  go_wp2_with fail
  refine HI.out.mono ?_
  rintro e w1 ⟨z, rfl, hz, hb1⟩
  go_wp2
  go_ret
  exact ⟨_, rfl, by simpa using hz, hb1⟩

set_option maxRecDepth 100000 in
set_option maxHeartbeats 2000000 in
theorem fits_any (A : Option Addr) (n c B : Nat) (ws : List Nat) (s : Int) (w : World) (h : Rd w B A n (ints ws)) (hB : B ≤ w.heap.size) (hX : ∀ X ∈ ws, X < 4294967296) (hm : n ≤ maxLen) :
    Calls Try.prog 10 #[.agg #[.slice A n c], .int .i64 s] w fun e w' => ∃ r : Bool, e = .returned (.bool r) ∧ (r = true ↔ FitV ws s) ∧ Below w.heap.size w w' := by
  have hl : ws.length = n := by rw [← intsW_len]; exact h.1
  have HH : Hid (∀ W, Below w.heap.size w W → Calls Try.prog 18 #[.agg #[.slice A n c]] W fun e w' => e = .returned (.bool (decide (HeapOk ws))) ∧ Below W.heap.size W w') := fun W hb => isHeap_any A n c B ws W (h.below (hb.mono hB)) (Nat.le_trans hB hb.size) hX hm
  have HB0 := Lib.hid (bel1 w (.cells #[.slice A n c] 29))
  by_cases hg : HeapOk ws
  · have hn : n ≤ 16 := by rw [← hl]; exact hg.1
    rw [decide_eq_true hg] at HH
    have HR := Lib.hid (fun W => chunksFor_any s W)
    have HKl := Lib.hid (fun W => classOf_any s W)
    by_cases hr : 0 < chunksV s
    · have HT : Hid (∀ W, Below w.heap.size w W → Calls Try.prog 21 #[.agg #[.slice A n c]] W fun e w' => e = .returned (.int .u32 (takK ws n : Int)) ∧ Below W.heap.size W w') := fun W hb => takenChunks_any A n c B ws W (h.below (hb.mono hB)) (Nat.le_trans hB hb.size) hn
      have HL := Lib.hid (fun W => longest_any (takK ws n) (n : Int) W (takK_lt ws (by omega)) ⟨by omega, by omega⟩)
      have HF : Hid (∀ b m : Nat, Best (freeV (takK ws n) (n : Int)) b m → (decide (chunksV s ≤ (m : Int)) = true ↔ FitV ws s)) := fun b m hb => by
        unfold FitV
        rw [if_pos hr, hl]
        have := best_wide (r := (chunksV s).toNat) (by omega) (by omega) hb
        rw [decide_eq_true_iff]
        constructor
        · intro h2; exact ⟨hg, this.1 (by omega)⟩
        · intro h2; have := this.2 h2.2; omega
      clear h hX HKl hg
      generalize chunksV s = r at *
      generalize takK ws n = X at *
      go_enter Try.func10, Try.ntmps10
      go_wp2_with fail
      refine (HH.out _ HB0.out).mono ?_
      rintro e w1 ⟨rfl, hb⟩
      obtain ⟨hA, hB1, z1⟩ := nw1 hb
      have V1 := Lib.hid hA
      have B1 := Lib.hid hB1
      clear hb hA hB1 HH HB0
      go_wp2_with fail
      refine (HR.out _).mono ?_
      rintro e w9 ⟨rfl, rfl⟩
      have x0 := blkc V1.out 0 rfl
      have D0 := Lib.hid (Below.refl w1.heap.size w1).drew
      have xS : Hid (∀ W, Below w1.heap.size w1 W → W.cell? ⟨w.heap.size, 0, none⟩ = some (.slice A n c)) := fun W hb => (hb.cell (p := ⟨w.heap.size, 0, none⟩) z1).trans x0
      go_wp2
      go_region_held3 (fun w' => w'.cell? ⟨w.heap.size, 0, none⟩ = some (.slice A n c))
        (first | (with_reducible exact x0) | (with_reducible exact xS.out _ D0.out) | (with_reducible exact xS.out _ B2.out) | (with_reducible exact xS.out _ B3.out))
        (first | (go_at_call 21; (with_reducible refine (HT.out _ (B1.out.trans (D0.out.mono B1.out.size))).mono ?_); rintro e w2 ⟨rfl, hb⟩; have B2 := Lib.hid (D0.out.trans (hb.mono D0.out.size)); clear hb)
               | (go_at_call 20; (with_reducible refine (HL.out _).mono ?_); rintro e w3 ⟨⟨b, m, rfl, hbest⟩, hb⟩; have B3 := Lib.hid (B2.out.trans (hb.mono B2.out.size)); have HQ := Lib.hid (HF.out b m hbest); clear hb hbest))
      all_goals
        go_wp2
        go_ret
        exact ⟨_, rfl, HQ.out, B1.out.trans (B3.out.mono B1.out.size)⟩
    · have hr0 : chunksV s = 0 ∨ chunksV s < 0 := by omega
      have hrn : ¬ 0 < chunksV s := hr
      have HC : Hid (∀ W b, Below w.heap.size w W → b < W.heap.size → W.cell? ⟨b, 0, none⟩ = some (.int .i64 (classV s)) → Calls Try.prog 23 #[.slice A n c, .func (.func 24) #[] #[.pointer (some ⟨b, 0, none⟩)]] W fun e w' => ∃ r : Bool, e = .returned (.bool r) ∧ (r = true ↔ SomeN ws n (classV s)) ∧ Below W.heap.size W w') := fun W b hb h1 h2 => containsFunc_any A n c B ws b (classV s) W (h.below (hb.mono hB)) (Nat.le_trans hB hb.size) hX hn h1 h2
      have HF : Hid (SomeN ws n (classV s) ↔ FitV ws s) := by
        show _ ↔ _
        unfold FitV
        rw [if_neg hr, hl]
        exact ⟨fun h => ⟨hg, h⟩, fun h => h.2⟩
      clear h hX hg hr
      generalize chunksV s = r at *
      generalize classV s = K at *
      go_enter Try.func10, Try.ntmps10
      go_wp2_with fail
      refine (HH.out _ HB0.out).mono ?_
      rintro e w1 ⟨rfl, hb⟩
      obtain ⟨hA, hB1, z1⟩ := nw1 hb
      have V1 := Lib.hid hA
      have B1 := Lib.hid hB1
      clear hb hA hB1 HH HB0
      go_wp2_with fail
      refine (HR.out _).mono ?_
      rintro e w9 ⟨rfl, rfl⟩
      go_wp2_with fail
      refine (HKl.out _).mono ?_
      rintro e w9 ⟨rfl, rfl⟩
      have hk := bel1 w1 (.cells #[.int .i64 K] 3)
      have a0 := blkc ((hk.block _ (by omega)).trans V1.out) 0 rfl
      have B2 := Lib.hid (B1.out.trans (hk.mono B1.out.size))
      go_wp2_with fail
      refine (HC.out _ _ B2.out (by simp) (by simp)).mono ?_
      rintro e w3 ⟨b, rfl, hq, hb⟩
      go_wp2
      go_ret
      exact ⟨_, rfl, hq.trans HF.out, B2.out.trans (hb.mono B2.out.size)⟩
  · have HN : Hid (¬ FitV ws s) := fun h => hg h.1
    rw [decide_eq_false hg] at HH
    clear h hX hg
    go_enter Try.func10, Try.ntmps10
    go_wp2_with fail
    refine (HH.out _ HB0.out).mono ?_
    rintro e w1 ⟨rfl, hb⟩
    have B1 := Lib.hid (HB0.out.trans (hb.mono HB0.out.size))
    clear hb HB0 HH
    go_wp2
    go_ret
    exact ⟨_, rfl, ⟨(fun h => absurd h (by simp)), fun h => absurd h HN.out⟩, B1.out⟩

end Go.Proofs.Ytefcaeldkdbjdaa
