/- Fits of the model. -/
import Derived.Test.YtefcaeldkdbjdaaFitM
import Derived.Test.YtefcaeldkdbjdaaSRoom
import Derived.Test.YtefcaeldkdbjdaaNewB
namespace Go.Proofs.Ytefcaeldkdbjdaa
open Go.RowKit
set_option linter.unusedVariables false

set_option maxRecDepth 100000 in
set_option maxHeartbeats 2000000 in
theorem sFits_large (A : Option Addr) (n c B : Nat) (ws : List Nat) (s : Int) (w : World) (h : Rd w B A n (ints ws)) (hB : B ≤ w.heap.size) (hn : n ≤ 16) (hc : classV s = -1) (hr : 0 < chunksV s)
    (hH : ∀ W, Below w.heap.size w W → Calls Try.prog 13 #[.agg #[.slice A n c]] W fun e w' => e = .returned (.bool true) ∧ Below W.heap.size W w') :
    Calls Try.prog 8 #[.agg #[.slice A n c], .int .i64 s] w fun e w' => ∃ r : Bool, e = .returned (.bool r) ∧ (r = true ↔ WideN ws n (chunksV s).toNat) ∧ Below w.heap.size w w' := by
  have hl : ws.length = n := by rw [← intsW_len]; exact h.1
  have H2 := Lib.hid h.2
  have HH := Lib.hid hH
  have HR := Lib.hid (fun W => sChunksFor_any s W)
  have HKl := Lib.hid (fun W => sClassOf_any s W)
  have HB0 := Lib.hid (bel1 w (.cells #[.slice A n c] 29))
  rw [hc] at HKl
  obtain ⟨q, hq⟩ := Int.eq_ofNat_of_zero_le (show 0 ≤ chunksV s by omega)
  rw [hq] at HR hr ⊢
  rw [show ((q : Int)).toNat = q from by omega]
  clear h hc hH hq
  have hq0 : 0 < q := by omega
  go_enter Try.func8, Try.ntmps8
  go_wp2_with fail
  refine (HH.out _ HB0.out).mono ?_
  rintro e w1 ⟨rfl, hb⟩
  obtain ⟨hA, hB1, z1⟩ := nw1 hb
  have V1 := Lib.hid hA
  have B1 := Lib.hid hB1
  clear hb hA hB1 HH HB0
  go_wp2_with fail
  refine (HKl.out _).mono ?_
  rintro e w9 ⟨rfl, rfl⟩
  go_wp2_with fail
  refine (HR.out _).mono ?_
  rintro e w9 ⟨rfl, rfl⟩
  clear HKl HR
  go_wp2
  go_loopw [7, 8] (fun u i wr => ∃ k u0 : Nat, k ≤ n ∧ u0 ≤ k ∧ i = .int .i64 (k : Int) ∧ u = .int .i64 (u0 : Int) ∧ Hid (RunTo ws k u0) ∧ Hid (¬ WideN ws k q) ∧ Hid (Below w1.heap.size w1 wr)) (fun _ i _ => n - (intOf i).toNat)
  case atStart => exact ⟨0, 0, Nat.zero_le _, Nat.zero_le _, rfl, rfl, RunTo.zero ws, fun ⟨i, h, _⟩ => by omega, Below.refl _ _⟩
  case round =>
    obtain ⟨k, u0, hk, hu, rfl, rfl, HU, HN, HB⟩ := hrel
    have a0 := (HB.out.cell (p := ⟨w.heap.size, 0, none⟩) z1).trans (blkc V1.out 0 rfl)
    by_cases hlt : k < n
    · obtain ⟨g, o, rfl, hg, hcc⟩ := H2.out (by omega)
      have c1 : wr.cell? ⟨g, o + k, none⟩ = some (.int .u32 ((ws[k]?.getD 0 : Nat) : Int)) := by
        rw [← intsW_at]; exact (HB.out.cell (p := ⟨g, o + k, none⟩) (by show g < _; omega)).trans ((B1.out.cell (p := ⟨g, o + k, none⟩) (by show g < _; omega)).trans (hcc k hlt))
      clear hcc
      by_cases hz : ws[k]?.getD 0 = 0
      · have HU2 := Lib.hid (HU.out.more hz)
        have HW := Lib.hid (HU2.out.wide hq0 HN.out)
        rw [hz] at c1
        clear hz HU HN
        by_cases hge : q ≤ u0 + 1
        · have HS : Hid (WideN ws n q) := (HW.out.1 hge).mono (by omega)
          have hge' : (q : Int) ≤ (u0 : Int) + 1 := by omega
          go_wp2
          go_ret
          exact ⟨_, rfl, ⟨fun _ => HS.out, fun _ => rfl⟩, B1.out.trans (HB.out.mono B1.out.size)⟩
        · have HS : Hid (¬ WideN ws (k + 1) q) := fun h => hge (HW.out.2 h)
          have hge' : ¬ (q : Int) ≤ (u0 : Int) + 1 := by omega
          go_wp2
          go_roundw
          case rel => exact ⟨k + 1, u0 + 1, by omega, by omega, by go_num, by go_num, HU2, HS, HB⟩
          case measure => simp [intOf]; omega
      · have HU2 := Lib.hid (RunTo.none hz)
        have HS : Hid (¬ WideN ws (k + 1) q) := fun h => by have := (HU2.out.wide hq0 HN.out).2 h; omega
        have hx0 : (((ws[k]?.getD 0 : Nat) : Int) != 0) = true := by simpa using hz
        have hge' : ¬ (q : Int) ≤ 0 := by omega
        clear hz HU HN
        generalize ws[k]?.getD 0 = X at *
        go_wp2
        go_roundw
        case rel => exact ⟨k + 1, 0, by omega, by omega, by go_num, rfl, HU2, HS, HB⟩
        case measure => simp [intOf]; omega
    · obtain rfl : k = n := by omega
      go_wp2
      go_ret
      exact ⟨_, rfl, ⟨(fun h => absurd h (by simp)), fun h => absurd h HN.out⟩, B1.out.trans (HB.out.mono B1.out.size)⟩

set_option maxRecDepth 100000 in
set_option maxHeartbeats 2000000 in
theorem sFits_small (A : Option Addr) (n c B : Nat) (ws : List Nat) (s : Int) (w : World) (h : Rd w B A n (ints ws)) (hB : B ≤ w.heap.size) (hX : ∀ X ∈ ws, X < 4294967296) (hn : n ≤ 16) (hc : 0 ≤ classV s) (hr : chunksV s = 0)
    (hH : ∀ W, Below w.heap.size w W → Calls Try.prog 13 #[.agg #[.slice A n c]] W fun e w' => e = .returned (.bool true) ∧ Below W.heap.size W w') :
    Calls Try.prog 8 #[.agg #[.slice A n c], .int .i64 s] w fun e w' => ∃ r : Bool, e = .returned (.bool r) ∧ (r = true ↔ SomeN ws n (classV s)) ∧ Below w.heap.size w w' := by
  have hl : ws.length = n := by rw [← intsW_len]; exact h.1
  have H2 := Lib.hid h.2
  have HH := Lib.hid hH
  have HR := Lib.hid (fun W => sChunksFor_any s W)
  have HKl := Lib.hid (fun W => sClassOf_any s W)
  have HB0 := Lib.hid (bel1 w (.cells #[.slice A n c] 29))
  have HX := Lib.hid hX
  rw [hr] at HR
  clear h hr hH hX
  generalize classV s = K at *
  go_enter Try.func8, Try.ntmps8
  go_wp2_with fail
  refine (HH.out _ HB0.out).mono ?_
  rintro e w1 ⟨rfl, hb⟩
  obtain ⟨hA, hB1, z1⟩ := nw1 hb
  have V1 := Lib.hid hA
  have B1 := Lib.hid hB1
  clear hb hA hB1 HH HB0
  go_wp2_with fail
  refine (HKl.out _).mono ?_
  rintro e w9 ⟨rfl, rfl⟩
  go_wp2_with fail
  refine (HR.out _).mono ?_
  rintro e w9 ⟨rfl, rfl⟩
  clear HKl HR
  go_wp2
  go_loopw [7, 8] (fun u i wr => ∃ k u0 : Nat, k ≤ n ∧ u0 ≤ k ∧ i = .int .i64 (k : Int) ∧ u = .int .i64 (u0 : Int) ∧ Hid (¬ SomeN ws k K) ∧ Hid (Below w1.heap.size w1 wr)) (fun _ i _ => n - (intOf i).toNat)
  case atStart => exact ⟨0, 0, Nat.zero_le _, Nat.zero_le _, rfl, rfl, fun ⟨k, h, _⟩ => by omega, Below.refl _ _⟩
  case round =>
    obtain ⟨k, u0, hk, hu, rfl, rfl, HN, HB⟩ := hrel
    have a0 := (HB.out.cell (p := ⟨w.heap.size, 0, none⟩) z1).trans (blkc V1.out 0 rfl)
    by_cases hlt : k < n
    · obtain ⟨g, o, rfl, hg, hcc⟩ := H2.out (by omega)
      have c1 : wr.cell? ⟨g, o + k, none⟩ = some (.int .u32 ((ws[k]?.getD 0 : Nat) : Int)) := by
        rw [← intsW_at]; exact (HB.out.cell (p := ⟨g, o + k, none⟩) (by show g < _; omega)).trans ((B1.out.cell (p := ⟨g, o + k, none⟩) (by show g < _; omega)).trans (hcc k hlt))
      clear hcc
      have HC := Lib.hid (fun W => sRoom_any (ws[k]?.getD 0) K W (word_lt HX.out k))
      by_cases hq : 0 < roomV (ws[k]?.getD 0) K
      · have HS : Hid (SomeN ws n K) := ⟨k, hlt, hq⟩
        have hq' : 0 < (roomV (ws[k]?.getD 0) K : Int) := by omega
        clear hq HN
        generalize roomV (ws[k]?.getD 0) K = R at *
        generalize ws[k]?.getD 0 = X at *
        go_wp2_with fail
        refine (HC.out _).mono ?_
        rintro e w2 ⟨rfl, hb⟩
        go_wp2
        go_ret
        exact ⟨_, rfl, ⟨fun _ => HS.out, fun _ => rfl⟩, (B1.out.trans (HB.out.mono B1.out.size)).trans (hb.mono (B1.out.trans (HB.out.mono B1.out.size)).size)⟩
      · have HS : Hid (¬ SomeN ws (k + 1) K) := fun h => (SomeN.next.1 h).elim HN.out hq
        have hq' : ¬ 0 < (roomV (ws[k]?.getD 0) K : Int) := by omega
        clear hq HN
        generalize roomV (ws[k]?.getD 0) K = R at *
        by_cases hz : ws[k]?.getD 0 = 0
        · rw [hz] at c1 HC
          clear hz
          go_wp2_with fail
          refine (HC.out _).mono ?_
          rintro e w2 ⟨rfl, hb⟩
          have a1 := (hb.cell (p := ⟨w.heap.size, 0, none⟩) (by have := HB.out.size; show w.heap.size < _; omega)).trans a0
          have c2 := (hb.cell (p := ⟨g, o + k, none⟩) (by have := HB.out.size; show g < _; omega)).trans c1
          have HB2 := Lib.hid (HB.out.trans (hb.mono HB.out.size))
          clear hb HB HC a0 c1
          go_wp2
          go_roundw
          case rel => exact ⟨k + 1, u0 + 1, by omega, by omega, by go_num, by go_num, HS, HB2⟩
          case measure => simp [intOf]; omega
        · have hx0 : (((ws[k]?.getD 0 : Nat) : Int) != 0) = true := by simpa using hz
          clear hz
          generalize ws[k]?.getD 0 = X at *
          go_wp2_with fail
          refine (HC.out _).mono ?_
          rintro e w2 ⟨rfl, hb⟩
          have a1 := (hb.cell (p := ⟨w.heap.size, 0, none⟩) (by have := HB.out.size; show w.heap.size < _; omega)).trans a0
          have c2 := (hb.cell (p := ⟨g, o + k, none⟩) (by have := HB.out.size; show g < _; omega)).trans c1
          have HB2 := Lib.hid (HB.out.trans (hb.mono HB.out.size))
          clear hb HB HC a0 c1
          go_wp2
          go_roundw
          case rel => exact ⟨k + 1, 0, by omega, by omega, by go_num, rfl, HS, HB2⟩
          case measure => simp [intOf]; omega
    · obtain rfl : k = n := by omega
      go_wp2
      go_ret
      exact ⟨_, rfl, ⟨(fun h => absurd h (by simp)), fun h => absurd h HN.out⟩, B1.out.trans (HB.out.mono B1.out.size)⟩

set_option maxRecDepth 100000 in
set_option maxHeartbeats 2000000 in
theorem sFits_none (A : Option Addr) (n c B : Nat) (ws : List Nat) (s : Int) (w : World) (h : Rd w B A n (ints ws)) (hB : B ≤ w.heap.size) (hn : n ≤ 16) (hc : classV s = -1) (hr : chunksV s = 0)
    (hH : ∀ W, Below w.heap.size w W → Calls Try.prog 13 #[.agg #[.slice A n c]] W fun e w' => e = .returned (.bool true) ∧ Below W.heap.size W w') :
    Calls Try.prog 8 #[.agg #[.slice A n c], .int .i64 s] w fun e w' => e = .returned (.bool false) ∧ Below w.heap.size w w' := by
  have hl : ws.length = n := by rw [← intsW_len]; exact h.1
  have H2 := Lib.hid h.2
  have HH := Lib.hid hH
  have HR := Lib.hid (fun W => sChunksFor_any s W)
  have HKl := Lib.hid (fun W => sClassOf_any s W)
  have HB0 := Lib.hid (bel1 w (.cells #[.slice A n c] 29))
  rw [hc] at HKl
  rw [hr] at HR
  clear h hc hr hH
  go_enter Try.func8, Try.ntmps8
  go_wp2_with fail
  refine (HH.out _ HB0.out).mono ?_
  rintro e w1 ⟨rfl, hb⟩
  obtain ⟨hA, hB1, z1⟩ := nw1 hb
  have V1 := Lib.hid hA
  have B1 := Lib.hid hB1
  clear hb hA hB1 HH HB0
  go_wp2_with fail
  refine (HKl.out _).mono ?_
  rintro e w9 ⟨rfl, rfl⟩
  go_wp2_with fail
  refine (HR.out _).mono ?_
  rintro e w9 ⟨rfl, rfl⟩
  clear HKl HR
  go_wp2
  go_loopw [7, 8] (fun u i wr => ∃ k u0 : Nat, k ≤ n ∧ u0 ≤ k ∧ i = .int .i64 (k : Int) ∧ u = .int .i64 (u0 : Int) ∧ Hid (Below w1.heap.size w1 wr)) (fun _ i _ => n - (intOf i).toNat)
  case atStart => exact ⟨0, 0, Nat.zero_le _, Nat.zero_le _, rfl, rfl, Below.refl _ _⟩
  case round =>
    obtain ⟨k, u0, hk, hu, rfl, rfl, HB⟩ := hrel
    have a0 := (HB.out.cell (p := ⟨w.heap.size, 0, none⟩) z1).trans (blkc V1.out 0 rfl)
    by_cases hlt : k < n
    · obtain ⟨g, o, rfl, hg, hcc⟩ := H2.out (by omega)
      have c1 : wr.cell? ⟨g, o + k, none⟩ = some (.int .u32 ((ws[k]?.getD 0 : Nat) : Int)) := by
        rw [← intsW_at]; exact (HB.out.cell (p := ⟨g, o + k, none⟩) (by show g < _; omega)).trans ((B1.out.cell (p := ⟨g, o + k, none⟩) (by show g < _; omega)).trans (hcc k hlt))
      clear hcc
      by_cases hz : ws[k]?.getD 0 = 0
      · rw [hz] at c1
        clear hz
        go_wp2
        go_roundw
        case rel => exact ⟨k + 1, u0 + 1, by omega, by omega, by go_num, by go_num, HB⟩
        case measure => simp [intOf]; omega
      · have hx0 : (((ws[k]?.getD 0 : Nat) : Int) != 0) = true := by simpa using hz
        clear hz
        generalize ws[k]?.getD 0 = X at *
        go_wp2
        go_roundw
        case rel => exact ⟨k + 1, 0, by omega, by omega, by go_num, rfl, HB⟩
        case measure => simp [intOf]; omega
    · obtain rfl : k = n := by omega
      go_wp2
      go_ret
      exact ⟨rfl, B1.out.trans (HB.out.mono B1.out.size)⟩

set_option maxRecDepth 100000 in
set_option maxHeartbeats 1000000 in
theorem sFits_any (A : Option Addr) (n c B : Nat) (ws : List Nat) (s : Int) (w : World) (h : Rd w B A n (ints ws)) (hB : B ≤ w.heap.size) (hX : ∀ X ∈ ws, X < 4294967296) (hm : n ≤ maxLen) :
    Calls Try.prog 8 #[.agg #[.slice A n c], .int .i64 s] w fun e w' => ∃ r : Bool, e = .returned (.bool r) ∧ (r = true ↔ FitV ws s) ∧ Below w.heap.size w w' := by
  have hl : ws.length = n := by rw [← intsW_len]; exact h.1
  have HH : ∀ W, Below w.heap.size w W → Calls Try.prog 13 #[.agg #[.slice A n c]] W fun e w' => e = .returned (.bool (decide (HeapOk ws))) ∧ Below W.heap.size W w' := fun W hb => sMemOk_any A n c B ws W (h.below (hb.mono hB)) (Nat.le_trans hB hb.size) hX hm
  by_cases hg : HeapOk ws
  · have hn : n ≤ 16 := by rw [← hl]; exact hg.1
    rw [decide_eq_true hg] at HH
    by_cases h1 : s < 1
    · refine (sFits_none A n c B ws s w h hB hn (classV_low h1) (chunksV_out (by omega)) HH).mono fun e w' ⟨he, hb⟩ => ⟨false, he, ⟨(fun h => absurd h (by simp)), fun h => ?_⟩, hb⟩
      unfold FitV at h
      rw [chunksV_out (by omega), if_neg (by omega), classV_low h1] at h
      exact absurd h.2 (some_neg _ _)
    · by_cases h2 : 256 < s
      · refine (sFits_none A n c B ws s w h hB hn (classV_high (by omega)) (chunksV_out (by omega)) HH).mono fun e w' ⟨he, hb⟩ => ⟨false, he, ⟨(fun h => absurd h (by simp)), fun h => ?_⟩, hb⟩
        unfold FitV at h
        rw [chunksV_out (by omega), if_neg (by omega), classV_high (by omega)] at h
        exact absurd h.2 (some_neg _ _)
      · by_cases h3 : s ≤ 16
        · have hc : 0 ≤ classV s := by unfold classV; repeat (split <;> try omega)
          refine (sFits_small A n c B ws s w h hB hX hn hc (chunksV_out (by omega)) HH).mono fun e w' ⟨r, he, hr, hb⟩ => ⟨r, he, hr.trans ?_, hb⟩
          unfold FitV
          rw [chunksV_out (by omega), if_neg (by omega), hl]
          exact ⟨fun h => ⟨hg, h⟩, fun h => h.2⟩
        · have hr : 0 < chunksV s := by rw [chunksV_in (by omega) (by omega)]; omega
          refine (sFits_large A n c B ws s w h hB hn (classV_high (by omega)) hr HH).mono fun e w' ⟨r, he, hr2, hb⟩ => ⟨r, he, hr2.trans ?_, hb⟩
          unfold FitV
          rw [if_pos hr, hl]
          exact ⟨fun h => ⟨hg, h⟩, fun h => h.2⟩
  · rw [decide_eq_false hg] at HH
    have HH2 := Lib.hid HH
    have HN : Hid (¬ FitV ws s) := fun h => hg h.1
    have HB0 := Lib.hid (bel1 w (.cells #[.slice A n c] 29))
    clear h hX hg HH
    go_enter Try.func8, Try.ntmps8
    go_wp2_with fail
    refine (HH2.out _ HB0.out).mono ?_
    rintro e w1 ⟨rfl, hb⟩
    have B1 := Lib.hid (HB0.out.trans (hb.mono HB0.out.size))
    clear hb HB0 HH2
    go_wp2
    go_ret
    exact ⟨_, rfl, ⟨(fun h => absurd h (by simp)), fun h => absurd h HN.out⟩, B1.out⟩

end Go.Proofs.Ytefcaeldkdbjdaa
