/- The contracts of the program's SemaPost, SemaServe and SemaWant. -/
import Derived.Test.YthmmkleddembbaaISemaC
import Derived.Test.YthmmkleddembbaaSemaV
namespace Go.Proofs.Ythmmkleddembbaa
open Go.RowKit
set_option linter.unusedVariables false

set_option maxRecDepth 100000 in
set_option maxHeartbeats 2000000 in
theorem semaPost_any (C E R n : Int) (w : World) :
    Calls Try.prog 9 #[.agg #[.int .i64 C, .int .i64 E, .int .i64 R], .int .i64 n] w fun e w' => e = .returned (.tuple #[.agg (semaIf (decide (PostOk C E R n)) (C + n) (E - n) (R)), .bool (decide (PostOk C E R n))]) ∧ Below w.heap.size w w' := by
  have HA := Lib.hid (fun W => isAmount_any n W)
  by_cases hn : IsAmt n
  · rw [decide_eq_true hn] at HA
    obtain ⟨n0, n1⟩ := hn
    have HC := Lib.hid (fun W => changed_any C E R (n) (-n) (0) W (by omega) (by omega) (by omega))
    rw [show C + n = C + n by omega, show E + -n = E - n by omega, show R + 0 = R by omega] at HC
    have hd : decide (ChgOk C E R (n) (-n) (0)) = decide (PostOk C E R n) := by
      by_cases h2 : PostOk C E R n
      · rw [decide_eq_true h2]
        refine decide_eq_true ⟨h2.2.1, ?_⟩
        rw [show C + n = C + n by omega, show E + -n = E - n by omega, show R + 0 = R by omega]
        exact h2.2.2
      · rw [decide_eq_false h2]
        refine decide_eq_false (fun h => h2 ⟨⟨n0, n1⟩, h.1, ?_⟩)
        have := h.2
        rwa [show C + n = C + n by omega, show E + -n = E - n by omega, show R + 0 = R by omega] at this
    rw [hd] at HC
    clear hd
    generalize decide (PostOk C E R n) = q at *
    generalize C + n = CC at *
    generalize E - n = EE at *
    have RR := R
    cases q
    · simp only [semaIf] at HC ⊢
      go_enter Try.func9, Try.ntmps9
      go_wp2_with fail
      refine (HA.out _).mono ?_
      rintro e w1 ⟨rfl, rfl⟩
      go_wp2_with fail
      refine (HC.out _).mono ?_
      rintro e w2 ⟨rfl, hb2⟩
      obtain ⟨u1, u2, hn2, z2⟩ := two_newS (n := 0) hb2
      obtain ⟨⟨c0, c1, c2⟩, f0, f1, f2⟩ := blk3 u1
      obtain ⟨⟨d0, d1, d2⟩, g0, g1, g2⟩ := blk3 u2
      have B2 := Lib.hid hn2
      have l2 : w.heap.size + 1 < w2.heap.size := by omega
      have k2 : w.heap.size < w2.heap.size := by omega
      clear u1 u2 hb2 hn2 z2
      go_wp2
      refine bodyPost_ret (v := .tuple #[.agg #[.int .i64 0, .int .i64 0, .int .i64 0], .bool false]) ?_ rfl ⟨rfl, ?_⟩
      · have hres : Try.f9.results = #[.cell 4 26, .tmp 5] := by kernel_rfl
        rw [results_cell_tmp hres]
        go_simp
      · exact (by repeat (first | exact Below.refl _ _ | refine Below.drew ?_ | refine Below.setCell ?_ (by first | omega | (simp; done) | (simp; omega) | (simp [*]; done)) _ | refine Below.alloc ?_ (by first | omega | (simp; done) | (simp; omega) | (simp [*]; done)) _ | refine Below.trans ?_ (Below.mono (B2.out) (by first | omega | (simp; done) | (simp; omega) | (simp [*]; done)))))
    · simp only [semaIf] at HC ⊢
      go_enter Try.func9, Try.ntmps9
      go_wp2_with fail
      refine (HA.out _).mono ?_
      rintro e w1 ⟨rfl, rfl⟩
      go_wp2_with fail
      refine (HC.out _).mono ?_
      rintro e w2 ⟨rfl, hb2⟩
      obtain ⟨u1, u2, hn2, z2⟩ := two_newS (n := 0) hb2
      obtain ⟨⟨c0, c1, c2⟩, f0, f1, f2⟩ := blk3 u1
      obtain ⟨⟨d0, d1, d2⟩, g0, g1, g2⟩ := blk3 u2
      have B2 := Lib.hid hn2
      have l2 : w.heap.size + 1 < w2.heap.size := by omega
      have k2 : w.heap.size < w2.heap.size := by omega
      clear u1 u2 hb2 hn2 z2
      go_wp2
      refine bodyPost_ret (v := .tuple #[.agg #[.int .i64 CC, .int .i64 EE, .int .i64 R], .bool true]) ?_ rfl ⟨rfl, ?_⟩
      · have hres : Try.f9.results = #[.cell 4 26, .tmp 5] := by kernel_rfl
        rw [results_cell_tmp hres]
        go_simp
      · exact (by repeat (first | exact Below.refl _ _ | refine Below.drew ?_ | refine Below.setCell ?_ (by first | omega | (simp; done) | (simp; omega) | (simp [*]; done)) _ | refine Below.alloc ?_ (by first | omega | (simp; done) | (simp; omega) | (simp [*]; done)) _ | refine Below.trans ?_ (Below.mono (B2.out) (by first | omega | (simp; done) | (simp; omega) | (simp [*]; done)))))
  · rw [decide_eq_false hn] at HA
    have HD : Hid (decide (PostOk C E R n) = false) := decide_eq_false (fun h => hn h.1)
    clear hn
    go_enter Try.func9, Try.ntmps9
    go_wp2_with fail
    refine (HA.out _).mono ?_
    rintro e w1 ⟨rfl, rfl⟩
    go_wp2
    refine bodyPost_ret (v := .tuple #[.agg #[.int .i64 0, .int .i64 0, .int .i64 0], .bool false]) ?_ rfl ⟨by rw [HD.out]; rfl, ?_⟩
    · have hres : Try.f9.results = #[.cell 4 26, .tmp 5] := by kernel_rfl
      rw [results_cell_tmp hres]
      go_simp
    · exact (by repeat (first | exact Below.refl _ _ | refine Below.drew ?_ | refine Below.setCell ?_ (by first | omega | (simp; done) | (simp; omega) | (simp [*]; done)) _ | refine Below.alloc ?_ (by first | omega | (simp; done) | (simp; omega) | (simp [*]; done)) _))


set_option maxRecDepth 100000 in
set_option maxHeartbeats 2000000 in
theorem semaServe_any (C E R n : Int) (w : World) :
    Calls Try.prog 10 #[.agg #[.int .i64 C, .int .i64 E, .int .i64 R], .int .i64 n] w fun e w' => e = .returned (.tuple #[.agg (semaIf (decide (ServeOk C E R n)) (C - n) (E) (R - n)), .bool (decide (ServeOk C E R n))]) ∧ Below w.heap.size w w' := by
  have HA := Lib.hid (fun W => isAmount_any n W)
  by_cases hn : IsAmt n
  · rw [decide_eq_true hn] at HA
    obtain ⟨n0, n1⟩ := hn
    have HC := Lib.hid (fun W => changed_any C E R (-n) (0) (-n) W (by omega) (by omega) (by omega))
    rw [show C + -n = C - n by omega, show E + 0 = E by omega, show R + -n = R - n by omega] at HC
    have hd : decide (ChgOk C E R (-n) (0) (-n)) = decide (ServeOk C E R n) := by
      by_cases h2 : ServeOk C E R n
      · rw [decide_eq_true h2]
        refine decide_eq_true ⟨h2.2.1, ?_⟩
        rw [show C + -n = C - n by omega, show E + 0 = E by omega, show R + -n = R - n by omega]
        exact h2.2.2
      · rw [decide_eq_false h2]
        refine decide_eq_false (fun h => h2 ⟨⟨n0, n1⟩, h.1, ?_⟩)
        have := h.2
        rwa [show C + -n = C - n by omega, show E + 0 = E by omega, show R + -n = R - n by omega] at this
    rw [hd] at HC
    clear hd
    generalize decide (ServeOk C E R n) = q at *
    generalize C - n = CC at *
    generalize R - n = RR at *
    cases q
    · simp only [semaIf] at HC ⊢
      go_enter Try.func10, Try.ntmps10
      go_wp2_with fail
      refine (HA.out _).mono ?_
      rintro e w1 ⟨rfl, rfl⟩
      go_wp2_with fail
      refine (HC.out _).mono ?_
      rintro e w2 ⟨rfl, hb2⟩
      obtain ⟨u1, u2, hn2, z2⟩ := two_newS (n := 0) hb2
      obtain ⟨⟨c0, c1, c2⟩, f0, f1, f2⟩ := blk3 u1
      obtain ⟨⟨d0, d1, d2⟩, g0, g1, g2⟩ := blk3 u2
      have B2 := Lib.hid hn2
      have l2 : w.heap.size + 1 < w2.heap.size := by omega
      have k2 : w.heap.size < w2.heap.size := by omega
      clear u1 u2 hb2 hn2 z2
      go_wp2
      refine bodyPost_ret (v := .tuple #[.agg #[.int .i64 0, .int .i64 0, .int .i64 0], .bool false]) ?_ rfl ⟨rfl, ?_⟩
      · have hres : Try.f10.results = #[.cell 4 26, .tmp 5] := by kernel_rfl
        rw [results_cell_tmp hres]
        go_simp
      · exact (by repeat (first | exact Below.refl _ _ | refine Below.drew ?_ | refine Below.setCell ?_ (by first | omega | (simp; done) | (simp; omega) | (simp [*]; done)) _ | refine Below.alloc ?_ (by first | omega | (simp; done) | (simp; omega) | (simp [*]; done)) _ | refine Below.trans ?_ (Below.mono (B2.out) (by first | omega | (simp; done) | (simp; omega) | (simp [*]; done)))))
    · simp only [semaIf] at HC ⊢
      go_enter Try.func10, Try.ntmps10
      go_wp2_with fail
      refine (HA.out _).mono ?_
      rintro e w1 ⟨rfl, rfl⟩
      go_wp2_with fail
      refine (HC.out _).mono ?_
      rintro e w2 ⟨rfl, hb2⟩
      obtain ⟨u1, u2, hn2, z2⟩ := two_newS (n := 0) hb2
      obtain ⟨⟨c0, c1, c2⟩, f0, f1, f2⟩ := blk3 u1
      obtain ⟨⟨d0, d1, d2⟩, g0, g1, g2⟩ := blk3 u2
      have B2 := Lib.hid hn2
      have l2 : w.heap.size + 1 < w2.heap.size := by omega
      have k2 : w.heap.size < w2.heap.size := by omega
      clear u1 u2 hb2 hn2 z2
      go_wp2
      refine bodyPost_ret (v := .tuple #[.agg #[.int .i64 CC, .int .i64 E, .int .i64 RR], .bool true]) ?_ rfl ⟨rfl, ?_⟩
      · have hres : Try.f10.results = #[.cell 4 26, .tmp 5] := by kernel_rfl
        rw [results_cell_tmp hres]
        go_simp
      · exact (by repeat (first | exact Below.refl _ _ | refine Below.drew ?_ | refine Below.setCell ?_ (by first | omega | (simp; done) | (simp; omega) | (simp [*]; done)) _ | refine Below.alloc ?_ (by first | omega | (simp; done) | (simp; omega) | (simp [*]; done)) _ | refine Below.trans ?_ (Below.mono (B2.out) (by first | omega | (simp; done) | (simp; omega) | (simp [*]; done)))))
  · rw [decide_eq_false hn] at HA
    have HD : Hid (decide (ServeOk C E R n) = false) := decide_eq_false (fun h => hn h.1)
    clear hn
    go_enter Try.func10, Try.ntmps10
    go_wp2_with fail
    refine (HA.out _).mono ?_
    rintro e w1 ⟨rfl, rfl⟩
    go_wp2
    refine bodyPost_ret (v := .tuple #[.agg #[.int .i64 0, .int .i64 0, .int .i64 0], .bool false]) ?_ rfl ⟨by rw [HD.out]; rfl, ?_⟩
    · have hres : Try.f10.results = #[.cell 4 26, .tmp 5] := by kernel_rfl
      rw [results_cell_tmp hres]
      go_simp
    · exact (by repeat (first | exact Below.refl _ _ | refine Below.drew ?_ | refine Below.setCell ?_ (by first | omega | (simp; done) | (simp; omega) | (simp [*]; done)) _ | refine Below.alloc ?_ (by first | omega | (simp; done) | (simp; omega) | (simp [*]; done)) _))


set_option maxRecDepth 100000 in
set_option maxHeartbeats 2000000 in
theorem semaWant_bad (C E R n b : Int) (w : World) (h : ¬ (SemaGood C E R ∧ IsAmt n ∧ IsAmt b)) :
    Calls Try.prog 7 #[.agg #[.int .i64 C, .int .i64 E, .int .i64 R], .int .i64 n, .int .i64 b] w fun e w' => e = .returned (wantA (wantV C E R n b)) ∧ Below w.heap.size w w' := by
  rw [want_bad h]
  have HO := Lib.hid (fun W => semaOk_any C E R W)
  have HA := Lib.hid (fun W => isAmount_any n W)
  have HB := Lib.hid (fun W => isAmount_any b W)
  show Calls _ _ _ _ fun e w' => e = .returned (.tuple #[.agg #[.int .i64 0, .int .i64 0, .int .i64 0], .int .i64 0]) ∧ _
  by_cases hg : SemaGood C E R
  · rw [decide_eq_true hg] at HO
    by_cases hn : IsAmt n
    · rw [decide_eq_true hn] at HA
      by_cases hb : IsAmt b
      · exact absurd ⟨hg, hn, hb⟩ h
      · rw [decide_eq_false hb] at HB
        clear hg hn hb h
        go_enter Try.func7, Try.ntmps7
        go_wp2_with fail
        refine (HO.out _).mono ?_
        rintro e w1 ⟨rfl, hb1⟩
        obtain ⟨u1, u2, hn1, z1⟩ := two_newS (n := 0) hb1
        obtain ⟨⟨c0, c1, c2⟩, f0, f1, f2⟩ := blk3 u1
        obtain ⟨⟨d0, d1, d2⟩, g0, g1, g2⟩ := blk3 u2
        have B1 := Lib.hid hn1
        have l1 : w.heap.size + 1 < w1.heap.size := by omega
        have k1 : w.heap.size < w1.heap.size := by omega
        clear u1 u2 hb1 hn1 z1
        go_wp2_with fail
        refine (HA.out _).mono ?_
        rintro e w2 ⟨rfl, rfl⟩
        go_wp2_with fail
        refine (HB.out _).mono ?_
        rintro e w3 ⟨rfl, rfl⟩
        go_wp2
        refine bodyPost_ret (v := .tuple #[.agg #[.int .i64 0, .int .i64 0, .int .i64 0], .int .i64 0]) ?_ rfl ⟨rfl, ?_⟩
        · have hres : Try.f7.results = #[.cell 6 26, .tmp 7] := by kernel_rfl
          rw [results_cell_tmp hres]
          go_simp
        · exact (by repeat (first | exact Below.refl _ _ | refine Below.drew ?_ | refine Below.setCell ?_ (by first | omega | (simp; done) | (simp; omega) | (simp [*]; done)) _ | refine Below.alloc ?_ (by first | omega | (simp; done) | (simp; omega) | (simp [*]; done)) _ | refine Below.trans ?_ (Below.mono (B1.out) (by first | omega | (simp; done) | (simp; omega) | (simp [*]; done)))))
    · rw [decide_eq_false hn] at HA
      clear hg hn h
      go_enter Try.func7, Try.ntmps7
      go_wp2_with fail
      refine (HO.out _).mono ?_
      rintro e w1 ⟨rfl, hb1⟩
      obtain ⟨u1, u2, hn1, z1⟩ := two_newS (n := 0) hb1
      obtain ⟨⟨c0, c1, c2⟩, f0, f1, f2⟩ := blk3 u1
      obtain ⟨⟨d0, d1, d2⟩, g0, g1, g2⟩ := blk3 u2
      have B1 := Lib.hid hn1
      have l1 : w.heap.size + 1 < w1.heap.size := by omega
      have k1 : w.heap.size < w1.heap.size := by omega
      clear u1 u2 hb1 hn1 z1
      go_wp2_with fail
      refine (HA.out _).mono ?_
      rintro e w2 ⟨rfl, rfl⟩
      go_wp2
      refine bodyPost_ret (v := .tuple #[.agg #[.int .i64 0, .int .i64 0, .int .i64 0], .int .i64 0]) ?_ rfl ⟨rfl, ?_⟩
      · have hres : Try.f7.results = #[.cell 6 26, .tmp 7] := by kernel_rfl
        rw [results_cell_tmp hres]
        go_simp
      · exact (by repeat (first | exact Below.refl _ _ | refine Below.drew ?_ | refine Below.setCell ?_ (by first | omega | (simp; done) | (simp; omega) | (simp [*]; done)) _ | refine Below.alloc ?_ (by first | omega | (simp; done) | (simp; omega) | (simp [*]; done)) _ | refine Below.trans ?_ (Below.mono (B1.out) (by first | omega | (simp; done) | (simp; omega) | (simp [*]; done)))))
  · rw [decide_eq_false hg] at HO
    clear hg h
    go_enter Try.func7, Try.ntmps7
    go_wp2_with fail
    refine (HO.out _).mono ?_
    rintro e w1 ⟨rfl, hb1⟩
    obtain ⟨u1, u2, hn1, z1⟩ := two_newS (n := 0) hb1
    obtain ⟨⟨c0, c1, c2⟩, f0, f1, f2⟩ := blk3 u1
    obtain ⟨⟨d0, d1, d2⟩, g0, g1, g2⟩ := blk3 u2
    have B1 := Lib.hid hn1
    have l1 : w.heap.size + 1 < w1.heap.size := by omega
    have k1 : w.heap.size < w1.heap.size := by omega
    clear u1 u2 hb1 hn1 z1
    go_wp2
    refine bodyPost_ret (v := .tuple #[.agg #[.int .i64 0, .int .i64 0, .int .i64 0], .int .i64 0]) ?_ rfl ⟨rfl, ?_⟩
    · have hres : Try.f7.results = #[.cell 6 26, .tmp 7] := by kernel_rfl
      rw [results_cell_tmp hres]
      go_simp
    · exact (by repeat (first | exact Below.refl _ _ | refine Below.drew ?_ | refine Below.setCell ?_ (by first | omega | (simp; done) | (simp; omega) | (simp [*]; done)) _ | refine Below.alloc ?_ (by first | omega | (simp; done) | (simp; omega) | (simp [*]; done)) _ | refine Below.trans ?_ (Below.mono (B1.out) (by first | omega | (simp; done) | (simp; omega) | (simp [*]; done)))))

set_option maxRecDepth 100000 in
set_option maxHeartbeats 2000000 in
theorem semaWant_now (C E R n b : Int) (w : World) (h : SemaGood C E R ∧ IsAmt n ∧ IsAmt b) (h1 : n ≤ C - R) :
    Calls Try.prog 7 #[.agg #[.int .i64 C, .int .i64 E, .int .i64 R], .int .i64 n, .int .i64 b] w fun e w' => e = .returned (wantA (wantV C E R n b)) ∧ Below w.heap.size w w' := by
  rw [(want_now h h1).1]
  have HO := Lib.hid (fun W => semaOk_any C E R W)
  have HA := Lib.hid (fun W => isAmount_any n W)
  have HB := Lib.hid (fun W => isAmount_any b W)
  have HL := Lib.hid (fun W => semaLeft_any C E R W)
  rw [decide_eq_true h.1] at HO
  rw [decide_eq_true h.2.1] at HA
  rw [decide_eq_true h.2.2] at HB
  rw [show leftV C E R = C + E - R from if_pos h.1] at HL
  have hb1 := h.2.2.1
  have hb2 := h.2.2.2
  have hn1 := h.2.1.1
  have hn2 := h.2.1.2
  have hc1 := h.1.1.1
  have hc2 := h.1.1.2
  have he1 := h.1.2.1.1
  have he2 := h.1.2.1.2
  have hr1 := h.1.2.2.1.1
  have hr2 := h.1.2.2.1.2
  have HC := Lib.hid (fun W => changed_any C E R (-n) (0) (0) W (by omega) (by omega) (by omega))
  rw [show C + -n = C - n by omega, show E + 0 = E by omega, show R + 0 = R by omega] at HC
  have hd : decide (ChgOk C E R (-n) (0) (0)) = decide (SemaGood (C - n) (E) (R)) := by
    have e : ChgOk C E R (-n) (0) (0) ↔ SemaGood (C - n) (E) (R) := by
      unfold ChgOk
      rw [show C + -n = C - n by omega, show E + 0 = E by omega, show R + 0 = R by omega]
      exact ⟨fun k => k.2, fun k => ⟨h.1, k⟩⟩
    exact decide_eq_decide.2 e
  rw [hd] at HC
  clear hd
  rw [decide_eq_true (want_now h h1).2] at HC
  clear h
  obtain ⟨CC, hCC⟩ : ∃ CC, CC = C - n := ⟨_, rfl⟩
  rw [← hCC] at HC ⊢
  clear hCC
  simp only [semaIf, wantA] at HC ⊢
  go_enter Try.func7, Try.ntmps7
  go_wp2_with fail
  refine (HO.out _).mono ?_
  rintro e w1 ⟨rfl, hb1⟩
  obtain ⟨u1, u2, hn1, z1⟩ := two_newS (n := 0) hb1
  obtain ⟨⟨c0, c1, c2⟩, f0, f1, f2⟩ := blk3 u1
  obtain ⟨⟨d0, d1, d2⟩, g0, g1, g2⟩ := blk3 u2
  have B1 := Lib.hid hn1
  have l1 : w.heap.size + 1 < w1.heap.size := by omega
  have k1 : w.heap.size < w1.heap.size := by omega
  clear u1 u2 hb1 hn1 z1
  go_wp2_with fail
  refine (HA.out _).mono ?_
  rintro e w2 ⟨rfl, rfl⟩
  go_wp2_with fail
  refine (HB.out _).mono ?_
  rintro e w3 ⟨rfl, rfl⟩
  go_wp2_with fail
  refine (HC.out _).mono ?_
  rintro e w4 ⟨rfl, hb4⟩
  have hn4 : Below w1.heap.size w1 w4 := (by repeat (first | exact Below.refl _ _ | refine Below.drew ?_ | refine Below.setCell ?_ (by first | omega | (simp; done) | (simp; omega) | (simp [*]; done)) _ | refine Below.alloc ?_ (by first | omega | (simp; done) | (simp; omega) | (simp [*]; done)) _ | refine Below.trans ?_ (Below.mono (hb4) (by first | omega | (simp; done) | (simp; omega) | (simp [*]; done)))))
  obtain ⟨bc4, bf4⟩ := bcell hn4
  have C0 := (bc4 _ _ k1).trans c0
  have C1 := (bc4 _ _ k1).trans c1
  have C2 := (bc4 _ _ k1).trans c2
  have F0 := (bf4 _ _ k1).trans f0
  have F1 := (bf4 _ _ k1).trans f1
  have F2 := (bf4 _ _ k1).trans f2
  have D0 := (bc4 _ _ l1).trans d0
  have D1 := (bc4 _ _ l1).trans d1
  have D2 := (bc4 _ _ l1).trans d2
  have G0 := (bf4 _ _ l1).trans g0
  have G1 := (bf4 _ _ l1).trans g1
  have G2 := (bf4 _ _ l1).trans g2
  have bz4 := hn4.size
  have l4 : w.heap.size + 1 < w4.heap.size := by omega
  have k4 : w.heap.size < w4.heap.size := by omega
  have B4 : Hid (Below w.heap.size w w4) := B1.out.trans (hn4.mono B1.out.size)
  clear hb4 hn4 bc4 bf4
  go_wp2
  refine bodyPost_ret (v := .tuple #[.agg #[.int .i64 CC, .int .i64 E, .int .i64 R], .int .i64 1]) ?_ rfl ⟨rfl, ?_⟩
  · have hres : Try.f7.results = #[.cell 6 26, .tmp 7] := by kernel_rfl
    rw [results_cell_tmp hres]
    go_simp
  · exact (by repeat (first | exact Below.refl _ _ | refine Below.drew ?_ | refine Below.setCell ?_ (by first | omega | (simp; done) | (simp; omega) | (simp [*]; done)) _ | refine Below.alloc ?_ (by first | omega | (simp; done) | (simp; omega) | (simp [*]; done)) _ | refine Below.trans ?_ (Below.mono (B4.out) (by first | omega | (simp; done) | (simp; omega) | (simp [*]; done)))))

set_option maxRecDepth 100000 in
set_option maxHeartbeats 2000000 in
theorem semaWant_wait (C E R n b : Int) (w : World) (h : SemaGood C E R ∧ IsAmt n ∧ IsAmt b) (h1 : ¬ n ≤ C - R) (h2 : n ≤ C + E - R) :
    Calls Try.prog 7 #[.agg #[.int .i64 C, .int .i64 E, .int .i64 R], .int .i64 n, .int .i64 b] w fun e w' => e = .returned (wantA (wantV C E R n b)) ∧ Below w.heap.size w w' := by
  rw [want_wait h h1 h2]
  have HO := Lib.hid (fun W => semaOk_any C E R W)
  have HA := Lib.hid (fun W => isAmount_any n W)
  have HB := Lib.hid (fun W => isAmount_any b W)
  have HL := Lib.hid (fun W => semaLeft_any C E R W)
  rw [decide_eq_true h.1] at HO
  rw [decide_eq_true h.2.1] at HA
  rw [decide_eq_true h.2.2] at HB
  rw [show leftV C E R = C + E - R from if_pos h.1] at HL
  have hb1 := h.2.2.1
  have hb2 := h.2.2.2
  have hn1 := h.2.1.1
  have hn2 := h.2.1.2
  have hc1 := h.1.1.1
  have hc2 := h.1.1.2
  have he1 := h.1.2.1.1
  have he2 := h.1.2.1.2
  have hr1 := h.1.2.2.1.1
  have hr2 := h.1.2.2.1.2
  have HC := Lib.hid (fun W => changed_any C E R (0) (0) (n) W (by omega) (by omega) (by omega))
  rw [show C + 0 = C by omega, show E + 0 = E by omega, show R + n = R + n by omega] at HC
  have hd : decide (ChgOk C E R (0) (0) (n)) = decide (SemaGood (C) (E) (R + n)) := by
    have e : ChgOk C E R (0) (0) (n) ↔ SemaGood (C) (E) (R + n) := by
      unfold ChgOk
      rw [show C + 0 = C by omega, show E + 0 = E by omega, show R + n = R + n by omega]
      exact ⟨fun k => k.2, fun k => ⟨h.1, k⟩⟩
    exact decide_eq_decide.2 e
  rw [hd] at HC
  clear hd
  clear h
  obtain ⟨RR, hRR⟩ : ∃ RR, RR = R + n := ⟨_, rfl⟩
  rw [← hRR] at HC ⊢
  clear hRR
  by_cases hg : SemaGood C E RR
  · rw [if_pos hg]
    rw [decide_eq_true hg] at HC
    clear hg
    simp only [semaIf, wantA] at HC ⊢
    go_enter Try.func7, Try.ntmps7
    go_wp2_with fail
    refine (HO.out _).mono ?_
    rintro e w1 ⟨rfl, hb1⟩
    obtain ⟨u1, u2, hn1, z1⟩ := two_newS (n := 0) hb1
    obtain ⟨⟨c0, c1, c2⟩, f0, f1, f2⟩ := blk3 u1
    obtain ⟨⟨d0, d1, d2⟩, g0, g1, g2⟩ := blk3 u2
    have B1 := Lib.hid hn1
    have l1 : w.heap.size + 1 < w1.heap.size := by omega
    have k1 : w.heap.size < w1.heap.size := by omega
    clear u1 u2 hb1 hn1 z1
    go_wp2_with fail
    refine (HA.out _).mono ?_
    rintro e w2 ⟨rfl, rfl⟩
    go_wp2_with fail
    refine (HB.out _).mono ?_
    rintro e w3 ⟨rfl, rfl⟩
    go_wp2_with fail
    refine (HL.out _).mono ?_
    rintro e w4 ⟨rfl, hb4⟩
    obtain ⟨u9, hn4⟩ := one_newS hb4
    obtain ⟨⟨x0, x1, x2⟩, y0, y1, y2⟩ := blk3 u9
    have m4 : w1.heap.size < w4.heap.size := (Array.getElem?_eq_some_iff.1 u9).1
    have N4 := Lib.hid hn4
    clear u9
    obtain ⟨bc4, bf4⟩ := bcell hn4
    have C0 := (bc4 _ _ k1).trans c0
    have C1 := (bc4 _ _ k1).trans c1
    have C2 := (bc4 _ _ k1).trans c2
    have F0 := (bf4 _ _ k1).trans f0
    have F1 := (bf4 _ _ k1).trans f1
    have F2 := (bf4 _ _ k1).trans f2
    have D0 := (bc4 _ _ l1).trans d0
    have D1 := (bc4 _ _ l1).trans d1
    have D2 := (bc4 _ _ l1).trans d2
    have G0 := (bf4 _ _ l1).trans g0
    have G1 := (bf4 _ _ l1).trans g1
    have G2 := (bf4 _ _ l1).trans g2
    have bz4 := hn4.size
    have l4 : w.heap.size + 1 < w4.heap.size := by omega
    have k4 : w.heap.size < w4.heap.size := by omega
    have B4 : Hid (Below w.heap.size w w4) := B1.out.trans (hn4.mono B1.out.size)
    clear hb4 hn4 bc4 bf4
    go_wp2_with fail
    refine (HC.out _).mono ?_
    rintro e w5 ⟨rfl, hb5⟩
    have hn5 : Below w1.heap.size w1 w5 := (by repeat (first | exact Below.refl _ _ | refine Below.drew ?_ | refine Below.setCell ?_ (by first | omega | (simp; done) | (simp; omega) | (simp [*]; done)) _ | refine Below.alloc ?_ (by first | omega | (simp; done) | (simp; omega) | (simp [*]; done)) _ | refine Below.trans ?_ (Below.mono (N4.out) (by first | omega | (simp; done) | (simp; omega) | (simp [*]; done))) | refine Below.trans ?_ (Below.mono (hb5) (by first | omega | (simp; done) | (simp; omega) | (simp [*]; done)))))
    obtain ⟨bc5, bf5⟩ := bcell hn5
    have C0 := (bc5 _ _ k1).trans c0
    have C1 := (bc5 _ _ k1).trans c1
    have C2 := (bc5 _ _ k1).trans c2
    have F0 := (bf5 _ _ k1).trans f0
    have F1 := (bf5 _ _ k1).trans f1
    have F2 := (bf5 _ _ k1).trans f2
    have D0 := (bc5 _ _ l1).trans d0
    have D1 := (bc5 _ _ l1).trans d1
    have D2 := (bc5 _ _ l1).trans d2
    have G0 := (bf5 _ _ l1).trans g0
    have G1 := (bf5 _ _ l1).trans g1
    have G2 := (bf5 _ _ l1).trans g2
    have bz5 := hn5.size
    have l5 : w.heap.size + 1 < w5.heap.size := by omega
    have k5 : w.heap.size < w5.heap.size := by omega
    have B5 : Hid (Below w.heap.size w w5) := B1.out.trans (hn5.mono B1.out.size)
    clear hb5 hn5 bc5 bf5
    go_wp2
    refine bodyPost_ret (v := .tuple #[.agg #[.int .i64 C, .int .i64 E, .int .i64 RR], .int .i64 2]) ?_ rfl ⟨rfl, ?_⟩
    · have hres : Try.f7.results = #[.cell 6 26, .tmp 7] := by kernel_rfl
      rw [results_cell_tmp hres]
      go_simp
    · exact (by repeat (first | exact Below.refl _ _ | refine Below.drew ?_ | refine Below.setCell ?_ (by first | omega | (simp; done) | (simp; omega) | (simp [*]; done)) _ | refine Below.alloc ?_ (by first | omega | (simp; done) | (simp; omega) | (simp [*]; done)) _ | refine Below.trans ?_ (Below.mono (B5.out) (by first | omega | (simp; done) | (simp; omega) | (simp [*]; done)))))
  · rw [if_neg hg]
    rw [decide_eq_false hg] at HC
    clear hg
    simp only [semaIf, wantA] at HC ⊢
    go_enter Try.func7, Try.ntmps7
    go_wp2_with fail
    refine (HO.out _).mono ?_
    rintro e w1 ⟨rfl, hb1⟩
    obtain ⟨u1, u2, hn1, z1⟩ := two_newS (n := 0) hb1
    obtain ⟨⟨c0, c1, c2⟩, f0, f1, f2⟩ := blk3 u1
    obtain ⟨⟨d0, d1, d2⟩, g0, g1, g2⟩ := blk3 u2
    have B1 := Lib.hid hn1
    have l1 : w.heap.size + 1 < w1.heap.size := by omega
    have k1 : w.heap.size < w1.heap.size := by omega
    clear u1 u2 hb1 hn1 z1
    go_wp2_with fail
    refine (HA.out _).mono ?_
    rintro e w2 ⟨rfl, rfl⟩
    go_wp2_with fail
    refine (HB.out _).mono ?_
    rintro e w3 ⟨rfl, rfl⟩
    go_wp2_with fail
    refine (HL.out _).mono ?_
    rintro e w4 ⟨rfl, hb4⟩
    obtain ⟨u9, hn4⟩ := one_newS hb4
    obtain ⟨⟨x0, x1, x2⟩, y0, y1, y2⟩ := blk3 u9
    have m4 : w1.heap.size < w4.heap.size := (Array.getElem?_eq_some_iff.1 u9).1
    have N4 := Lib.hid hn4
    clear u9
    obtain ⟨bc4, bf4⟩ := bcell hn4
    have C0 := (bc4 _ _ k1).trans c0
    have C1 := (bc4 _ _ k1).trans c1
    have C2 := (bc4 _ _ k1).trans c2
    have F0 := (bf4 _ _ k1).trans f0
    have F1 := (bf4 _ _ k1).trans f1
    have F2 := (bf4 _ _ k1).trans f2
    have D0 := (bc4 _ _ l1).trans d0
    have D1 := (bc4 _ _ l1).trans d1
    have D2 := (bc4 _ _ l1).trans d2
    have G0 := (bf4 _ _ l1).trans g0
    have G1 := (bf4 _ _ l1).trans g1
    have G2 := (bf4 _ _ l1).trans g2
    have bz4 := hn4.size
    have l4 : w.heap.size + 1 < w4.heap.size := by omega
    have k4 : w.heap.size < w4.heap.size := by omega
    have B4 : Hid (Below w.heap.size w w4) := B1.out.trans (hn4.mono B1.out.size)
    clear hb4 hn4 bc4 bf4
    go_wp2_with fail
    refine (HC.out _).mono ?_
    rintro e w5 ⟨rfl, hb5⟩
    have hn5 : Below w1.heap.size w1 w5 := (by repeat (first | exact Below.refl _ _ | refine Below.drew ?_ | refine Below.setCell ?_ (by first | omega | (simp; done) | (simp; omega) | (simp [*]; done)) _ | refine Below.alloc ?_ (by first | omega | (simp; done) | (simp; omega) | (simp [*]; done)) _ | refine Below.trans ?_ (Below.mono (N4.out) (by first | omega | (simp; done) | (simp; omega) | (simp [*]; done))) | refine Below.trans ?_ (Below.mono (hb5) (by first | omega | (simp; done) | (simp; omega) | (simp [*]; done)))))
    obtain ⟨bc5, bf5⟩ := bcell hn5
    have C0 := (bc5 _ _ k1).trans c0
    have C1 := (bc5 _ _ k1).trans c1
    have C2 := (bc5 _ _ k1).trans c2
    have F0 := (bf5 _ _ k1).trans f0
    have F1 := (bf5 _ _ k1).trans f1
    have F2 := (bf5 _ _ k1).trans f2
    have D0 := (bc5 _ _ l1).trans d0
    have D1 := (bc5 _ _ l1).trans d1
    have D2 := (bc5 _ _ l1).trans d2
    have G0 := (bf5 _ _ l1).trans g0
    have G1 := (bf5 _ _ l1).trans g1
    have G2 := (bf5 _ _ l1).trans g2
    have bz5 := hn5.size
    have l5 : w.heap.size + 1 < w5.heap.size := by omega
    have k5 : w.heap.size < w5.heap.size := by omega
    have B5 : Hid (Below w.heap.size w w5) := B1.out.trans (hn5.mono B1.out.size)
    clear hb5 hn5 bc5 bf5
    go_wp2
    refine bodyPost_ret (v := .tuple #[.agg #[.int .i64 0, .int .i64 0, .int .i64 0], .int .i64 0]) ?_ rfl ⟨rfl, ?_⟩
    · have hres : Try.f7.results = #[.cell 6 26, .tmp 7] := by kernel_rfl
      rw [results_cell_tmp hres]
      go_simp
    · exact (by repeat (first | exact Below.refl _ _ | refine Below.drew ?_ | refine Below.setCell ?_ (by first | omega | (simp; done) | (simp; omega) | (simp [*]; done)) _ | refine Below.alloc ?_ (by first | omega | (simp; done) | (simp; omega) | (simp [*]; done)) _ | refine Below.trans ?_ (Below.mono (B5.out) (by first | omega | (simp; done) | (simp; omega) | (simp [*]; done)))))

set_option maxRecDepth 100000 in
set_option maxHeartbeats 2000000 in
theorem semaWant_make (C E R n b : Int) (w : World) (h : SemaGood C E R ∧ IsAmt n ∧ IsAmt b) (h1 : ¬ n ≤ C - R) (h2 : ¬ n ≤ C + E - R) (h3 : n ≤ b) :
    Calls Try.prog 7 #[.agg #[.int .i64 C, .int .i64 E, .int .i64 R], .int .i64 n, .int .i64 b] w fun e w' => e = .returned (wantA (wantV C E R n b)) ∧ Below w.heap.size w w' := by
  rw [want_make h h1 h2 h3]
  have HO := Lib.hid (fun W => semaOk_any C E R W)
  have HA := Lib.hid (fun W => isAmount_any n W)
  have HB := Lib.hid (fun W => isAmount_any b W)
  have HL := Lib.hid (fun W => semaLeft_any C E R W)
  rw [decide_eq_true h.1] at HO
  rw [decide_eq_true h.2.1] at HA
  rw [decide_eq_true h.2.2] at HB
  rw [show leftV C E R = C + E - R from if_pos h.1] at HL
  have hb1 := h.2.2.1
  have hb2 := h.2.2.2
  have hn1 := h.2.1.1
  have hn2 := h.2.1.2
  have hc1 := h.1.1.1
  have hc2 := h.1.1.2
  have he1 := h.1.2.1.1
  have he2 := h.1.2.1.2
  have hr1 := h.1.2.2.1.1
  have hr2 := h.1.2.2.1.2
  have HC := Lib.hid (fun W => changed_any C E R (0) (b) (n) W (by omega) (by omega) (by omega))
  rw [show C + 0 = C by omega, show E + b = E + b by omega, show R + n = R + n by omega] at HC
  have hd : decide (ChgOk C E R (0) (b) (n)) = decide (SemaGood (C) (E + b) (R + n)) := by
    have e : ChgOk C E R (0) (b) (n) ↔ SemaGood (C) (E + b) (R + n) := by
      unfold ChgOk
      rw [show C + 0 = C by omega, show E + b = E + b by omega, show R + n = R + n by omega]
      exact ⟨fun k => k.2, fun k => ⟨h.1, k⟩⟩
    exact decide_eq_decide.2 e
  rw [hd] at HC
  clear hd
  clear h
  obtain ⟨EE, hEE⟩ : ∃ EE, EE = E + b := ⟨_, rfl⟩
  rw [← hEE] at HC ⊢
  clear hEE
  obtain ⟨RR, hRR⟩ : ∃ RR, RR = R + n := ⟨_, rfl⟩
  rw [← hRR] at HC ⊢
  clear hRR
  by_cases hg : SemaGood C EE RR
  · rw [if_pos hg]
    rw [decide_eq_true hg] at HC
    clear hg
    simp only [semaIf, wantA] at HC ⊢
    go_enter Try.func7, Try.ntmps7
    go_wp2_with fail
    refine (HO.out _).mono ?_
    rintro e w1 ⟨rfl, hb1⟩
    obtain ⟨u1, u2, hn1, z1⟩ := two_newS (n := 0) hb1
    obtain ⟨⟨c0, c1, c2⟩, f0, f1, f2⟩ := blk3 u1
    obtain ⟨⟨d0, d1, d2⟩, g0, g1, g2⟩ := blk3 u2
    have B1 := Lib.hid hn1
    have l1 : w.heap.size + 1 < w1.heap.size := by omega
    have k1 : w.heap.size < w1.heap.size := by omega
    clear u1 u2 hb1 hn1 z1
    go_wp2_with fail
    refine (HA.out _).mono ?_
    rintro e w2 ⟨rfl, rfl⟩
    go_wp2_with fail
    refine (HB.out _).mono ?_
    rintro e w3 ⟨rfl, rfl⟩
    go_wp2_with fail
    refine (HL.out _).mono ?_
    rintro e w4 ⟨rfl, hb4⟩
    obtain ⟨u9, hn4⟩ := one_newS hb4
    obtain ⟨⟨x0, x1, x2⟩, y0, y1, y2⟩ := blk3 u9
    have m4 : w1.heap.size < w4.heap.size := (Array.getElem?_eq_some_iff.1 u9).1
    have N4 := Lib.hid hn4
    clear u9
    obtain ⟨bc4, bf4⟩ := bcell hn4
    have C0 := (bc4 _ _ k1).trans c0
    have C1 := (bc4 _ _ k1).trans c1
    have C2 := (bc4 _ _ k1).trans c2
    have F0 := (bf4 _ _ k1).trans f0
    have F1 := (bf4 _ _ k1).trans f1
    have F2 := (bf4 _ _ k1).trans f2
    have D0 := (bc4 _ _ l1).trans d0
    have D1 := (bc4 _ _ l1).trans d1
    have D2 := (bc4 _ _ l1).trans d2
    have G0 := (bf4 _ _ l1).trans g0
    have G1 := (bf4 _ _ l1).trans g1
    have G2 := (bf4 _ _ l1).trans g2
    have bz4 := hn4.size
    have l4 : w.heap.size + 1 < w4.heap.size := by omega
    have k4 : w.heap.size < w4.heap.size := by omega
    have B4 : Hid (Below w.heap.size w w4) := B1.out.trans (hn4.mono B1.out.size)
    clear hb4 hn4 bc4 bf4
    go_wp2_with fail
    refine (HC.out _).mono ?_
    rintro e w5 ⟨rfl, hb5⟩
    have hn5 : Below w1.heap.size w1 w5 := (by repeat (first | exact Below.refl _ _ | refine Below.drew ?_ | refine Below.setCell ?_ (by first | omega | (simp; done) | (simp; omega) | (simp [*]; done)) _ | refine Below.alloc ?_ (by first | omega | (simp; done) | (simp; omega) | (simp [*]; done)) _ | refine Below.trans ?_ (Below.mono (N4.out) (by first | omega | (simp; done) | (simp; omega) | (simp [*]; done))) | refine Below.trans ?_ (Below.mono (hb5) (by first | omega | (simp; done) | (simp; omega) | (simp [*]; done)))))
    obtain ⟨bc5, bf5⟩ := bcell hn5
    have C0 := (bc5 _ _ k1).trans c0
    have C1 := (bc5 _ _ k1).trans c1
    have C2 := (bc5 _ _ k1).trans c2
    have F0 := (bf5 _ _ k1).trans f0
    have F1 := (bf5 _ _ k1).trans f1
    have F2 := (bf5 _ _ k1).trans f2
    have D0 := (bc5 _ _ l1).trans d0
    have D1 := (bc5 _ _ l1).trans d1
    have D2 := (bc5 _ _ l1).trans d2
    have G0 := (bf5 _ _ l1).trans g0
    have G1 := (bf5 _ _ l1).trans g1
    have G2 := (bf5 _ _ l1).trans g2
    have bz5 := hn5.size
    have l5 : w.heap.size + 1 < w5.heap.size := by omega
    have k5 : w.heap.size < w5.heap.size := by omega
    have B5 : Hid (Below w.heap.size w w5) := B1.out.trans (hn5.mono B1.out.size)
    clear hb5 hn5 bc5 bf5
    go_wp2
    refine bodyPost_ret (v := .tuple #[.agg #[.int .i64 C, .int .i64 EE, .int .i64 RR], .int .i64 3]) ?_ rfl ⟨rfl, ?_⟩
    · have hres : Try.f7.results = #[.cell 6 26, .tmp 7] := by kernel_rfl
      rw [results_cell_tmp hres]
      go_simp
    · exact (by repeat (first | exact Below.refl _ _ | refine Below.drew ?_ | refine Below.setCell ?_ (by first | omega | (simp; done) | (simp; omega) | (simp [*]; done)) _ | refine Below.alloc ?_ (by first | omega | (simp; done) | (simp; omega) | (simp [*]; done)) _ | refine Below.trans ?_ (Below.mono (B5.out) (by first | omega | (simp; done) | (simp; omega) | (simp [*]; done)))))
  · rw [if_neg hg]
    rw [decide_eq_false hg] at HC
    clear hg
    simp only [semaIf, wantA] at HC ⊢
    go_enter Try.func7, Try.ntmps7
    go_wp2_with fail
    refine (HO.out _).mono ?_
    rintro e w1 ⟨rfl, hb1⟩
    obtain ⟨u1, u2, hn1, z1⟩ := two_newS (n := 0) hb1
    obtain ⟨⟨c0, c1, c2⟩, f0, f1, f2⟩ := blk3 u1
    obtain ⟨⟨d0, d1, d2⟩, g0, g1, g2⟩ := blk3 u2
    have B1 := Lib.hid hn1
    have l1 : w.heap.size + 1 < w1.heap.size := by omega
    have k1 : w.heap.size < w1.heap.size := by omega
    clear u1 u2 hb1 hn1 z1
    go_wp2_with fail
    refine (HA.out _).mono ?_
    rintro e w2 ⟨rfl, rfl⟩
    go_wp2_with fail
    refine (HB.out _).mono ?_
    rintro e w3 ⟨rfl, rfl⟩
    go_wp2_with fail
    refine (HL.out _).mono ?_
    rintro e w4 ⟨rfl, hb4⟩
    obtain ⟨u9, hn4⟩ := one_newS hb4
    obtain ⟨⟨x0, x1, x2⟩, y0, y1, y2⟩ := blk3 u9
    have m4 : w1.heap.size < w4.heap.size := (Array.getElem?_eq_some_iff.1 u9).1
    have N4 := Lib.hid hn4
    clear u9
    obtain ⟨bc4, bf4⟩ := bcell hn4
    have C0 := (bc4 _ _ k1).trans c0
    have C1 := (bc4 _ _ k1).trans c1
    have C2 := (bc4 _ _ k1).trans c2
    have F0 := (bf4 _ _ k1).trans f0
    have F1 := (bf4 _ _ k1).trans f1
    have F2 := (bf4 _ _ k1).trans f2
    have D0 := (bc4 _ _ l1).trans d0
    have D1 := (bc4 _ _ l1).trans d1
    have D2 := (bc4 _ _ l1).trans d2
    have G0 := (bf4 _ _ l1).trans g0
    have G1 := (bf4 _ _ l1).trans g1
    have G2 := (bf4 _ _ l1).trans g2
    have bz4 := hn4.size
    have l4 : w.heap.size + 1 < w4.heap.size := by omega
    have k4 : w.heap.size < w4.heap.size := by omega
    have B4 : Hid (Below w.heap.size w w4) := B1.out.trans (hn4.mono B1.out.size)
    clear hb4 hn4 bc4 bf4
    go_wp2_with fail
    refine (HC.out _).mono ?_
    rintro e w5 ⟨rfl, hb5⟩
    have hn5 : Below w1.heap.size w1 w5 := (by repeat (first | exact Below.refl _ _ | refine Below.drew ?_ | refine Below.setCell ?_ (by first | omega | (simp; done) | (simp; omega) | (simp [*]; done)) _ | refine Below.alloc ?_ (by first | omega | (simp; done) | (simp; omega) | (simp [*]; done)) _ | refine Below.trans ?_ (Below.mono (N4.out) (by first | omega | (simp; done) | (simp; omega) | (simp [*]; done))) | refine Below.trans ?_ (Below.mono (hb5) (by first | omega | (simp; done) | (simp; omega) | (simp [*]; done)))))
    obtain ⟨bc5, bf5⟩ := bcell hn5
    have C0 := (bc5 _ _ k1).trans c0
    have C1 := (bc5 _ _ k1).trans c1
    have C2 := (bc5 _ _ k1).trans c2
    have F0 := (bf5 _ _ k1).trans f0
    have F1 := (bf5 _ _ k1).trans f1
    have F2 := (bf5 _ _ k1).trans f2
    have D0 := (bc5 _ _ l1).trans d0
    have D1 := (bc5 _ _ l1).trans d1
    have D2 := (bc5 _ _ l1).trans d2
    have G0 := (bf5 _ _ l1).trans g0
    have G1 := (bf5 _ _ l1).trans g1
    have G2 := (bf5 _ _ l1).trans g2
    have bz5 := hn5.size
    have l5 : w.heap.size + 1 < w5.heap.size := by omega
    have k5 : w.heap.size < w5.heap.size := by omega
    have B5 : Hid (Below w.heap.size w w5) := B1.out.trans (hn5.mono B1.out.size)
    clear hb5 hn5 bc5 bf5
    go_wp2
    refine bodyPost_ret (v := .tuple #[.agg #[.int .i64 0, .int .i64 0, .int .i64 0], .int .i64 0]) ?_ rfl ⟨rfl, ?_⟩
    · have hres : Try.f7.results = #[.cell 6 26, .tmp 7] := by kernel_rfl
      rw [results_cell_tmp hres]
      go_simp
    · exact (by repeat (first | exact Below.refl _ _ | refine Below.drew ?_ | refine Below.setCell ?_ (by first | omega | (simp; done) | (simp; omega) | (simp [*]; done)) _ | refine Below.alloc ?_ (by first | omega | (simp; done) | (simp; omega) | (simp [*]; done)) _ | refine Below.trans ?_ (Below.mono (B5.out) (by first | omega | (simp; done) | (simp; omega) | (simp [*]; done)))))

set_option maxRecDepth 100000 in
set_option maxHeartbeats 2000000 in
theorem semaWant_none (C E R n b : Int) (w : World) (h : SemaGood C E R ∧ IsAmt n ∧ IsAmt b) (h1 : ¬ n ≤ C - R) (h2 : ¬ n ≤ C + E - R) (h3 : ¬ n ≤ b) :
    Calls Try.prog 7 #[.agg #[.int .i64 C, .int .i64 E, .int .i64 R], .int .i64 n, .int .i64 b] w fun e w' => e = .returned (wantA (wantV C E R n b)) ∧ Below w.heap.size w w' := by
  rw [want_none h h1 h2 h3]
  have HO := Lib.hid (fun W => semaOk_any C E R W)
  have HA := Lib.hid (fun W => isAmount_any n W)
  have HB := Lib.hid (fun W => isAmount_any b W)
  have HL := Lib.hid (fun W => semaLeft_any C E R W)
  rw [decide_eq_true h.1] at HO
  rw [decide_eq_true h.2.1] at HA
  rw [decide_eq_true h.2.2] at HB
  rw [show leftV C E R = C + E - R from if_pos h.1] at HL
  have hb1 := h.2.2.1
  have hb2 := h.2.2.2
  have hn1 := h.2.1.1
  have hn2 := h.2.1.2
  have hc1 := h.1.1.1
  have hc2 := h.1.1.2
  have he1 := h.1.2.1.1
  have he2 := h.1.2.1.2
  have hr1 := h.1.2.2.1.1
  have hr2 := h.1.2.2.1.2
  clear h
  simp only [wantA]
  go_enter Try.func7, Try.ntmps7
  go_wp2_with fail
  refine (HO.out _).mono ?_
  rintro e w1 ⟨rfl, hb1⟩
  obtain ⟨u1, u2, hn1, z1⟩ := two_newS (n := 0) hb1
  obtain ⟨⟨c0, c1, c2⟩, f0, f1, f2⟩ := blk3 u1
  obtain ⟨⟨d0, d1, d2⟩, g0, g1, g2⟩ := blk3 u2
  have B1 := Lib.hid hn1
  have l1 : w.heap.size + 1 < w1.heap.size := by omega
  have k1 : w.heap.size < w1.heap.size := by omega
  clear u1 u2 hb1 hn1 z1
  go_wp2_with fail
  refine (HA.out _).mono ?_
  rintro e w2 ⟨rfl, rfl⟩
  go_wp2_with fail
  refine (HB.out _).mono ?_
  rintro e w3 ⟨rfl, rfl⟩
  go_wp2_with fail
  refine (HL.out _).mono ?_
  rintro e w4 ⟨rfl, hb4⟩
  obtain ⟨u9, hn4⟩ := one_newS hb4
  obtain ⟨⟨x0, x1, x2⟩, y0, y1, y2⟩ := blk3 u9
  have m4 : w1.heap.size < w4.heap.size := (Array.getElem?_eq_some_iff.1 u9).1
  have N4 := Lib.hid hn4
  clear u9
  obtain ⟨bc4, bf4⟩ := bcell hn4
  have C0 := (bc4 _ _ k1).trans c0
  have C1 := (bc4 _ _ k1).trans c1
  have C2 := (bc4 _ _ k1).trans c2
  have F0 := (bf4 _ _ k1).trans f0
  have F1 := (bf4 _ _ k1).trans f1
  have F2 := (bf4 _ _ k1).trans f2
  have D0 := (bc4 _ _ l1).trans d0
  have D1 := (bc4 _ _ l1).trans d1
  have D2 := (bc4 _ _ l1).trans d2
  have G0 := (bf4 _ _ l1).trans g0
  have G1 := (bf4 _ _ l1).trans g1
  have G2 := (bf4 _ _ l1).trans g2
  have bz4 := hn4.size
  have l4 : w.heap.size + 1 < w4.heap.size := by omega
  have k4 : w.heap.size < w4.heap.size := by omega
  have B4 : Hid (Below w.heap.size w w4) := B1.out.trans (hn4.mono B1.out.size)
  clear hb4 hn4 bc4 bf4
  go_wp2
  refine bodyPost_ret (v := .tuple #[.agg #[.int .i64 0, .int .i64 0, .int .i64 0], .int .i64 0]) ?_ rfl ⟨rfl, ?_⟩
  · have hres : Try.f7.results = #[.cell 6 26, .tmp 7] := by kernel_rfl
    rw [results_cell_tmp hres]
    go_simp
  · exact (by repeat (first | exact Below.refl _ _ | refine Below.drew ?_ | refine Below.setCell ?_ (by first | omega | (simp; done) | (simp; omega) | (simp [*]; done)) _ | refine Below.alloc ?_ (by first | omega | (simp; done) | (simp; omega) | (simp [*]; done)) _ | refine Below.trans ?_ (Below.mono (B4.out) (by first | omega | (simp; done) | (simp; omega) | (simp [*]; done)))))

theorem semaWant_any (C E R n b : Int) (w : World) :
    Calls Try.prog 7 #[.agg #[.int .i64 C, .int .i64 E, .int .i64 R], .int .i64 n, .int .i64 b] w fun e w' => e = .returned (wantA (wantV C E R n b)) ∧ Below w.heap.size w w' := by
  by_cases h : SemaGood C E R ∧ IsAmt n ∧ IsAmt b
  · by_cases h1 : n ≤ C - R
    · exact semaWant_now C E R n b w h h1
    · by_cases h2 : n ≤ C + E - R
      · exact semaWant_wait C E R n b w h h1 h2
      · by_cases h3 : n ≤ b
        · exact semaWant_make C E R n b w h h1 h2 h3
        · exact semaWant_none C E R n b w h h1 h2 h3
  · exact semaWant_bad C E R n b w h

end Go.Proofs.Ythmmkleddembbaa
