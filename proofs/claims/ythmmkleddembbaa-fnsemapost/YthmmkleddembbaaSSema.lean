/- The contracts of the model's l11Num, l11One, SemaOk, SemaLeft, SemaPack, SemaRead, SemaPost, SemaServe, SemaWant, and of the law's toSema and eqSema. -/
import Derived.Test.YthmmkleddembbaaISema
import Derived.Test.YthmmkleddembbaaSemaV
namespace Go.Proofs.Ythmmkleddembbaa
open Go.RowKit
set_option linter.unusedVariables false

def IsNum (n : Int) : Prop := 0 ≤ n ∧ n ≤ 1000
instance (n : Int) : Decidable (IsNum n) := inferInstanceAs (Decidable (_ ∧ _))

set_option maxHeartbeats 400000 in
theorem sNum_any (n : Int) (w : World) :
    Calls Try.prog 20 #[.int .i64 n] w fun e w' => e = .returned (.bool (decide (IsNum n))) ∧ w = w' := by
  by_cases h0 : 0 ≤ n
  · by_cases h1 : n ≤ 1000
    · have hd : Hid (decide (IsNum n) = true) := decide_eq_true ⟨h0, h1⟩
      go_enter Try.func20, Try.ntmps20
      go_wp2
      go_ret
      exact ⟨by rw [hd.out]; rfl, rfl⟩
    · have hd : Hid (decide (IsNum n) = false) := decide_eq_false (fun h => h1 h.2)
      go_enter Try.func20, Try.ntmps20
      go_wp2
      go_ret
      exact ⟨by rw [hd.out]; rfl, rfl⟩
  · have hd : Hid (decide (IsNum n) = false) := decide_eq_false (fun h => h0 h.1)
    go_enter Try.func20, Try.ntmps20
    go_wp2
    go_ret
    exact ⟨by rw [hd.out]; rfl, rfl⟩

set_option maxHeartbeats 400000 in
theorem sOne_any (n : Int) (w : World) :
    Calls Try.prog 18 #[.int .i64 n] w fun e w' => e = .returned (.bool (decide (IsAmt n))) ∧ w = w' := by
  by_cases h0 : 1 ≤ n
  · by_cases h1 : n ≤ 1000
    · have hd : Hid (decide (IsAmt n) = true) := decide_eq_true ⟨h0, h1⟩
      go_enter Try.func18, Try.ntmps18
      go_wp2
      go_ret
      exact ⟨by rw [hd.out]; rfl, rfl⟩
    · have hd : Hid (decide (IsAmt n) = false) := decide_eq_false (fun h => h1 h.2)
      go_enter Try.func18, Try.ntmps18
      go_wp2
      go_ret
      exact ⟨by rw [hd.out]; rfl, rfl⟩
  · have hd : Hid (decide (IsAmt n) = false) := decide_eq_false (fun h => h0 h.1)
    go_enter Try.func18, Try.ntmps18
    go_wp2
    go_ret
    exact ⟨by rw [hd.out]; rfl, rfl⟩

set_option maxHeartbeats 1000000 in
theorem sSemaOk_any (C E R : Int) (w : World) :
    Calls Try.prog 11 #[.agg #[.int .i64 C, .int .i64 E, .int .i64 R]] w fun e w' => e = .returned (.bool (decide (SemaGood C E R))) ∧ Below w.heap.size w w' := by
  have HC := Lib.hid (fun W => sNum_any C W)
  have HE := Lib.hid (fun W => sNum_any E W)
  have HR := Lib.hid (fun W => sNum_any R W)
  by_cases hC : IsNum C
  · rw [decide_eq_true hC] at HC
    by_cases hE : IsNum E
    · rw [decide_eq_true hE] at HE
      by_cases hR : IsNum R
      · rw [decide_eq_true hR] at HR
        by_cases hs : R ≤ C + E
        · have HF : Hid (decide (SemaGood C E R) = true) := decide_eq_true ⟨hC, hE, hR, hs⟩
          have b1 := hC.1
          have b2 := hC.2
          have b3 := hE.1
          have b4 := hE.2
          clear hC hE hR
          go_enter Try.func11, Try.ntmps11
          go_wp2_with fail
          refine (HC.out _).mono ?_
          rintro e w0 ⟨rfl, rfl⟩
          go_wp2_with fail
          refine (HE.out _).mono ?_
          rintro e w1 ⟨rfl, rfl⟩
          go_wp2_with fail
          refine (HR.out _).mono ?_
          rintro e w2 ⟨rfl, rfl⟩
          go_wp2
          go_ret
          exact ⟨by rw [HF.out]; first | done | rfl | (show Ending.returned (.bool (decide (R ≤ C + E))) = _; rw [decide_eq_false (Int.not_le.2 hs)]), (by repeat (first | exact Below.refl _ _ | refine Below.drew ?_ | refine Below.setCell ?_ (by first | omega | (simp; done) | (simp; omega) | (simp [*]; done)) _ | refine Below.alloc ?_ (by first | omega | (simp; done) | (simp; omega) | (simp [*]; done)) _))⟩
        · have HF : Hid (decide (SemaGood C E R) = false) := decide_eq_false (fun h => hs h.2.2.2)
          have b1 := hC.1
          have b2 := hC.2
          have b3 := hE.1
          have b4 := hE.2
          clear hC hE hR
          go_enter Try.func11, Try.ntmps11
          go_wp2_with fail
          refine (HC.out _).mono ?_
          rintro e w0 ⟨rfl, rfl⟩
          go_wp2_with fail
          refine (HE.out _).mono ?_
          rintro e w1 ⟨rfl, rfl⟩
          go_wp2_with fail
          refine (HR.out _).mono ?_
          rintro e w2 ⟨rfl, rfl⟩
          go_wp2
          go_ret
          exact ⟨by rw [HF.out]; first | done | rfl | (show Ending.returned (.bool (decide (R ≤ C + E))) = _; rw [decide_eq_false (Int.not_le.2 hs)]), (by repeat (first | exact Below.refl _ _ | refine Below.drew ?_ | refine Below.setCell ?_ (by first | omega | (simp; done) | (simp; omega) | (simp [*]; done)) _ | refine Below.alloc ?_ (by first | omega | (simp; done) | (simp; omega) | (simp [*]; done)) _))⟩
      · rw [decide_eq_false hR] at HR
        have HF : Hid (decide (SemaGood C E R) = false) := decide_eq_false (fun h => hR h.2.2.1)
        clear hC hE hR
        go_enter Try.func11, Try.ntmps11
        go_wp2_with fail
        refine (HC.out _).mono ?_
        rintro e w0 ⟨rfl, rfl⟩
        go_wp2_with fail
        refine (HE.out _).mono ?_
        rintro e w1 ⟨rfl, rfl⟩
        go_wp2_with fail
        refine (HR.out _).mono ?_
        rintro e w2 ⟨rfl, rfl⟩
        go_wp2
        go_ret
        exact ⟨by rw [HF.out]; first | done | rfl | (show Ending.returned (.bool (decide (R ≤ C + E))) = _; rw [decide_eq_false (Int.not_le.2 hs)]), (by repeat (first | exact Below.refl _ _ | refine Below.drew ?_ | refine Below.setCell ?_ (by first | omega | (simp; done) | (simp; omega) | (simp [*]; done)) _ | refine Below.alloc ?_ (by first | omega | (simp; done) | (simp; omega) | (simp [*]; done)) _))⟩
    · rw [decide_eq_false hE] at HE
      have HF : Hid (decide (SemaGood C E R) = false) := decide_eq_false (fun h => hE h.2.1)
      clear hC hE
      go_enter Try.func11, Try.ntmps11
      go_wp2_with fail
      refine (HC.out _).mono ?_
      rintro e w0 ⟨rfl, rfl⟩
      go_wp2_with fail
      refine (HE.out _).mono ?_
      rintro e w1 ⟨rfl, rfl⟩
      go_wp2
      go_ret
      exact ⟨by rw [HF.out]; first | done | rfl | (show Ending.returned (.bool (decide (R ≤ C + E))) = _; rw [decide_eq_false (Int.not_le.2 hs)]), (by repeat (first | exact Below.refl _ _ | refine Below.drew ?_ | refine Below.setCell ?_ (by first | omega | (simp; done) | (simp; omega) | (simp [*]; done)) _ | refine Below.alloc ?_ (by first | omega | (simp; done) | (simp; omega) | (simp [*]; done)) _))⟩
  · rw [decide_eq_false hC] at HC
    have HF : Hid (decide (SemaGood C E R) = false) := decide_eq_false (fun h => hC h.1)
    clear hC
    go_enter Try.func11, Try.ntmps11
    go_wp2_with fail
    refine (HC.out _).mono ?_
    rintro e w0 ⟨rfl, rfl⟩
    go_wp2
    go_ret
    exact ⟨by rw [HF.out]; first | done | rfl | (show Ending.returned (.bool (decide (R ≤ C + E))) = _; rw [decide_eq_false (Int.not_le.2 hs)]), (by repeat (first | exact Below.refl _ _ | refine Below.drew ?_ | refine Below.setCell ?_ (by first | omega | (simp; done) | (simp; omega) | (simp [*]; done)) _ | refine Below.alloc ?_ (by first | omega | (simp; done) | (simp; omega) | (simp [*]; done)) _))⟩

set_option maxHeartbeats 1000000 in
theorem sSemaLeft_any (C E R : Int) (w : World) :
    Calls Try.prog 19 #[.agg #[.int .i64 C, .int .i64 E, .int .i64 R]] w fun e w' => e = .returned (.int .i64 (leftV C E R)) ∧ Below w.heap.size w w' := by
  have HO := Lib.hid (fun W => sSemaOk_any C E R W)
  by_cases hg : SemaGood C E R
  · rw [decide_eq_true hg] at HO
    have HV : Hid (leftV C E R = C + E - R) := if_pos hg
    obtain ⟨⟨c0, c1⟩, ⟨e0, e1⟩, ⟨r0, r1⟩, hs⟩ := hg
    go_enter Try.func19, Try.ntmps19
    go_wp2_with fail
    refine (HO.out _).mono ?_
    rintro e w1 ⟨rfl, hb⟩
    obtain ⟨u1, hb1⟩ := one_newS hb
    obtain ⟨⟨k0, k1, k2⟩, f0, f1, f2⟩ := blk3 u1
    have HB := Lib.hid hb1
    clear u1 hb hb1
    go_wp2
    go_ret
    exact ⟨by rw [HV.out]; first | done | rfl, (by repeat (first | exact Below.refl _ _ | refine Below.drew ?_ | refine Below.setCell ?_ (by first | omega | (simp; done) | (simp; omega) | (simp [*]; done)) _ | refine Below.alloc ?_ (by first | omega | (simp; done) | (simp; omega) | (simp [*]; done)) _ | refine Below.trans ?_ (Below.mono (HB.out) (by first | omega | (simp; done) | (simp; omega) | (simp [*]; done)))))⟩
  · rw [decide_eq_false hg] at HO
    have HV : Hid (leftV C E R = -1) := if_neg hg
    clear hg
    go_enter Try.func19, Try.ntmps19
    go_wp2_with fail
    refine (HO.out _).mono ?_
    rintro e w1 ⟨rfl, hb⟩
    obtain ⟨u1, hb1⟩ := one_newS hb
    have HB := Lib.hid hb1
    clear u1 hb hb1
    go_wp2
    go_ret
    exact ⟨by rw [HV.out]; first | done | rfl, (by repeat (first | exact Below.refl _ _ | refine Below.drew ?_ | refine Below.setCell ?_ (by first | omega | (simp; done) | (simp; omega) | (simp [*]; done)) _ | refine Below.alloc ?_ (by first | omega | (simp; done) | (simp; omega) | (simp [*]; done)) _ | refine Below.trans ?_ (Below.mono (HB.out) (by first | omega | (simp; done) | (simp; omega) | (simp [*]; done)))))⟩

set_option maxRecDepth 100000 in
set_option maxHeartbeats 2000000 in
theorem sSemaPost_any (C E R n : Int) (w : World) :
    Calls Try.prog 13 #[.agg #[.int .i64 C, .int .i64 E, .int .i64 R], .int .i64 n] w fun e w' => e = .returned (.tuple #[.agg (semaIf (decide (PostOk C E R n)) (C + n) (E - n) (R)), .bool (decide (PostOk C E R n))]) ∧ Below w.heap.size w w' := by
  have HO := Lib.hid (fun W => sSemaOk_any C E R W)
  have HA := Lib.hid (fun W => sOne_any n W)
  by_cases hg : SemaGood C E R
  · rw [decide_eq_true hg] at HO
    by_cases hn : IsAmt n
    · rw [decide_eq_true hn] at HA
      have HN := Lib.hid (fun W => sSemaOk_any (C + n) (E - n) (R) W)
      have hd : decide (SemaGood (C + n) (E - n) (R)) = decide (PostOk C E R n) := decide_eq_decide.2 ⟨fun h => ⟨hn, hg, h⟩, fun h => h.2.2⟩
      rw [hd] at HN
      clear hd
      generalize decide (PostOk C E R n) = q at *
      have n1 := hn.1
      have n2 := hn.2
      obtain ⟨⟨p0, p1⟩, ⟨e0, e1⟩, ⟨r0, r1⟩, hs⟩ := hg
      clear hn hs
      cases q
      · simp only [semaIf]
        go_enter Try.func13, Try.ntmps13
        go_wp2_with fail
        refine (HO.out _).mono ?_
        rintro e w1 ⟨rfl, hb1⟩
        obtain ⟨u1, u2, hn1, z1⟩ := two_newS (n := 0) hb1
        obtain ⟨⟨c0, c1, c2⟩, f0, f1, f2⟩ := blk3 u1
        obtain ⟨⟨d0, d1, d2⟩, g0, g1, g2⟩ := blk3 u2
        have B1 := Lib.hid hn1
        have l1 : w.heap.size + 1 < w1.heap.size := by omega
        have k1 : w.heap.size < w1.heap.size := by omega
        clear u1 u2 hb1 hn1 z1
        go_wp2_with fail
        refine (HA.out _).mono ?_
        rintro e w2 ⟨rfl, rfl⟩
        go_wp2_with fail
        refine (HN.out _).mono ?_
        rintro e w3 ⟨rfl, hb3⟩
        obtain ⟨u9, hn3⟩ := one_newS hb3
        obtain ⟨⟨x0, x1, x2⟩, y0, y1, y2⟩ := blk3 u9
        obtain ⟨bc3, bf3⟩ := bcell hn3
        have D0 := (bc3 _ _ l1).trans d0
        have D1 := (bc3 _ _ l1).trans d1
        have D2 := (bc3 _ _ l1).trans d2
        have G0 := (bf3 _ _ l1).trans g0
        have G1 := (bf3 _ _ l1).trans g1
        have G2 := (bf3 _ _ l1).trans g2
        have B3 : Hid (Below w.heap.size w w3) := B1.out.trans (hn3.mono B1.out.size)
        clear hb3 hn3 bc3 bf3 u9
        go_wp2
        refine bodyPost_ret (v := .tuple #[.agg #[.int .i64 0, .int .i64 0, .int .i64 0], .bool false]) ?_ rfl ⟨rfl, ?_⟩
        · have hres : Try.f13.results = #[.cell 4 26, .tmp 5] := by kernel_rfl
          rw [results_cell_tmp hres]
          go_simp
        · exact (by repeat (first | exact Below.refl _ _ | refine Below.drew ?_ | refine Below.setCell ?_ (by first | omega | (simp; done) | (simp; omega) | (simp [*]; done)) _ | refine Below.alloc ?_ (by first | omega | (simp; done) | (simp; omega) | (simp [*]; done)) _ | refine Below.trans ?_ (Below.mono (B3.out) (by first | omega | (simp; done) | (simp; omega) | (simp [*]; done)))))
      · simp only [semaIf]
        go_enter Try.func13, Try.ntmps13
        go_wp2_with fail
        refine (HO.out _).mono ?_
        rintro e w1 ⟨rfl, hb1⟩
        obtain ⟨u1, u2, hn1, z1⟩ := two_newS (n := 0) hb1
        obtain ⟨⟨c0, c1, c2⟩, f0, f1, f2⟩ := blk3 u1
        obtain ⟨⟨d0, d1, d2⟩, g0, g1, g2⟩ := blk3 u2
        have B1 := Lib.hid hn1
        have l1 : w.heap.size + 1 < w1.heap.size := by omega
        have k1 : w.heap.size < w1.heap.size := by omega
        clear u1 u2 hb1 hn1 z1
        go_wp2_with fail
        refine (HA.out _).mono ?_
        rintro e w2 ⟨rfl, rfl⟩
        go_wp2_with fail
        refine (HN.out _).mono ?_
        rintro e w3 ⟨rfl, hb3⟩
        obtain ⟨u9, hn3⟩ := one_newS hb3
        obtain ⟨⟨x0, x1, x2⟩, y0, y1, y2⟩ := blk3 u9
        obtain ⟨bc3, bf3⟩ := bcell hn3
        have D0 := (bc3 _ _ l1).trans d0
        have D1 := (bc3 _ _ l1).trans d1
        have D2 := (bc3 _ _ l1).trans d2
        have G0 := (bf3 _ _ l1).trans g0
        have G1 := (bf3 _ _ l1).trans g1
        have G2 := (bf3 _ _ l1).trans g2
        have B3 : Hid (Below w.heap.size w w3) := B1.out.trans (hn3.mono B1.out.size)
        clear hb3 hn3 bc3 bf3 u9
        go_wp2
        refine bodyPost_ret (v := .tuple #[.agg #[.int .i64 (C + n), .int .i64 (E - n), .int .i64 (R)], .bool true]) ?_ rfl ⟨rfl, ?_⟩
        · have hres : Try.f13.results = #[.cell 4 26, .tmp 5] := by kernel_rfl
          rw [results_cell_tmp hres]
          go_simp
        · exact (by repeat (first | exact Below.refl _ _ | refine Below.drew ?_ | refine Below.setCell ?_ (by first | omega | (simp; done) | (simp; omega) | (simp [*]; done)) _ | refine Below.alloc ?_ (by first | omega | (simp; done) | (simp; omega) | (simp [*]; done)) _ | refine Below.trans ?_ (Below.mono (B3.out) (by first | omega | (simp; done) | (simp; omega) | (simp [*]; done)))))
    · rw [decide_eq_false hn] at HA
      have HD : Hid (decide (PostOk C E R n) = false) := decide_eq_false (fun h => hn h.1)
      clear hn hg
      go_enter Try.func13, Try.ntmps13
      go_wp2_with fail
      refine (HO.out _).mono ?_
      rintro e w1 ⟨rfl, hb1⟩
      obtain ⟨u1, u2, hn1, z1⟩ := two_newS (n := 0) hb1
      obtain ⟨⟨c0, c1, c2⟩, f0, f1, f2⟩ := blk3 u1
      obtain ⟨⟨d0, d1, d2⟩, g0, g1, g2⟩ := blk3 u2
      have B1 := Lib.hid hn1
      have l1 : w.heap.size + 1 < w1.heap.size := by omega
      have k1 : w.heap.size < w1.heap.size := by omega
      clear u1 u2 hb1 hn1 z1
      go_wp2_with fail
      refine (HA.out _).mono ?_
      rintro e w2 ⟨rfl, rfl⟩
      go_wp2
      refine bodyPost_ret (v := .tuple #[.agg #[.int .i64 0, .int .i64 0, .int .i64 0], .bool false]) ?_ rfl ⟨by rw [HD.out]; rfl, ?_⟩
      · have hres : Try.f13.results = #[.cell 4 26, .tmp 5] := by kernel_rfl
        rw [results_cell_tmp hres]
        go_simp
      · exact (by repeat (first | exact Below.refl _ _ | refine Below.drew ?_ | refine Below.setCell ?_ (by first | omega | (simp; done) | (simp; omega) | (simp [*]; done)) _ | refine Below.alloc ?_ (by first | omega | (simp; done) | (simp; omega) | (simp [*]; done)) _ | refine Below.trans ?_ (Below.mono (B1.out) (by first | omega | (simp; done) | (simp; omega) | (simp [*]; done)))))
  · rw [decide_eq_false hg] at HO
    have HD : Hid (decide (PostOk C E R n) = false) := decide_eq_false (fun h => hg h.2.1)
    clear hg
    go_enter Try.func13, Try.ntmps13
    go_wp2_with fail
    refine (HO.out _).mono ?_
    rintro e w1 ⟨rfl, hb1⟩
    obtain ⟨u1, u2, hn1, z1⟩ := two_newS (n := 0) hb1
    obtain ⟨⟨c0, c1, c2⟩, f0, f1, f2⟩ := blk3 u1
    obtain ⟨⟨d0, d1, d2⟩, g0, g1, g2⟩ := blk3 u2
    have B1 := Lib.hid hn1
    have l1 : w.heap.size + 1 < w1.heap.size := by omega
    have k1 : w.heap.size < w1.heap.size := by omega
    clear u1 u2 hb1 hn1 z1
    go_wp2
    refine bodyPost_ret (v := .tuple #[.agg #[.int .i64 0, .int .i64 0, .int .i64 0], .bool false]) ?_ rfl ⟨by rw [HD.out]; rfl, ?_⟩
    · have hres : Try.f13.results = #[.cell 4 26, .tmp 5] := by kernel_rfl
      rw [results_cell_tmp hres]
      go_simp
    · exact (by repeat (first | exact Below.refl _ _ | refine Below.drew ?_ | refine Below.setCell ?_ (by first | omega | (simp; done) | (simp; omega) | (simp [*]; done)) _ | refine Below.alloc ?_ (by first | omega | (simp; done) | (simp; omega) | (simp [*]; done)) _ | refine Below.trans ?_ (Below.mono (B1.out) (by first | omega | (simp; done) | (simp; omega) | (simp [*]; done)))))

set_option maxRecDepth 100000 in
set_option maxHeartbeats 2000000 in
theorem sSemaWant_bad (C E R n b : Int) (w : World) (h : ¬ (SemaGood C E R ∧ IsAmt n ∧ IsAmt b)) :
    Calls Try.prog 8 #[.agg #[.int .i64 C, .int .i64 E, .int .i64 R], .int .i64 n, .int .i64 b] w fun e w' => e = .returned (wantA (wantV C E R n b)) ∧ Below w.heap.size w w' := by
  rw [want_bad h]
  have HO := Lib.hid (fun W => sSemaOk_any C E R W)
  have HA := Lib.hid (fun W => sOne_any n W)
  have HB := Lib.hid (fun W => sOne_any b W)
  show Calls _ _ _ _ fun e w' => e = .returned (.tuple #[.agg #[.int .i64 0, .int .i64 0, .int .i64 0], .int .i64 0]) ∧ _
  by_cases hg : SemaGood C E R
  · rw [decide_eq_true hg] at HO
    by_cases hn : IsAmt n
    · rw [decide_eq_true hn] at HA
      by_cases hb : IsAmt b
      · exact absurd ⟨hg, hn, hb⟩ h
      · rw [decide_eq_false hb] at HB
        clear hg hn hb h
        go_enter Try.func8, Try.ntmps8
        go_wp2_with fail
        refine (HO.out _).mono ?_
        rintro e w1 ⟨rfl, hb1⟩
        obtain ⟨u1, u2, hn1, z1⟩ := two_newS (n := 0) hb1
        obtain ⟨⟨c0, c1, c2⟩, f0, f1, f2⟩ := blk3 u1
        obtain ⟨⟨d0, d1, d2⟩, g0, g1, g2⟩ := blk3 u2
        have B1 := Lib.hid hn1
        have l1 : w.heap.size + 1 < w1.heap.size := by omega
        have k1 : w.heap.size < w1.heap.size := by omega
        clear u1 u2 hb1 hn1 z1
        go_wp2_with fail
        refine (HA.out _).mono ?_
        rintro e w2 ⟨rfl, rfl⟩
        go_wp2_with fail
        refine (HB.out _).mono ?_
        rintro e w3 ⟨rfl, rfl⟩
        go_wp2
        refine bodyPost_ret (v := .tuple #[.agg #[.int .i64 0, .int .i64 0, .int .i64 0], .int .i64 0]) ?_ rfl ⟨rfl, ?_⟩
        · have hres : Try.f8.results = #[.cell 6 26, .tmp 7] := by kernel_rfl
          rw [results_cell_tmp hres]
          go_simp
        · exact (by repeat (first | exact Below.refl _ _ | refine Below.drew ?_ | refine Below.setCell ?_ (by first | omega | (simp; done) | (simp; omega) | (simp [*]; done)) _ | refine Below.alloc ?_ (by first | omega | (simp; done) | (simp; omega) | (simp [*]; done)) _ | refine Below.trans ?_ (Below.mono (B1.out) (by first | omega | (simp; done) | (simp; omega) | (simp [*]; done)))))
    · rw [decide_eq_false hn] at HA
      clear hg hn h
      go_enter Try.func8, Try.ntmps8
      go_wp2_with fail
      refine (HO.out _).mono ?_
      rintro e w1 ⟨rfl, hb1⟩
      obtain ⟨u1, u2, hn1, z1⟩ := two_newS (n := 0) hb1
      obtain ⟨⟨c0, c1, c2⟩, f0, f1, f2⟩ := blk3 u1
      obtain ⟨⟨d0, d1, d2⟩, g0, g1, g2⟩ := blk3 u2
      have B1 := Lib.hid hn1
      have l1 : w.heap.size + 1 < w1.heap.size := by omega
      have k1 : w.heap.size < w1.heap.size := by omega
      clear u1 u2 hb1 hn1 z1
      go_wp2_with fail
      refine (HA.out _).mono ?_
      rintro e w2 ⟨rfl, rfl⟩
      go_wp2
      refine bodyPost_ret (v := .tuple #[.agg #[.int .i64 0, .int .i64 0, .int .i64 0], .int .i64 0]) ?_ rfl ⟨rfl, ?_⟩
      · have hres : Try.f8.results = #[.cell 6 26, .tmp 7] := by kernel_rfl
        rw [results_cell_tmp hres]
        go_simp
      · exact (by repeat (first | exact Below.refl _ _ | refine Below.drew ?_ | refine Below.setCell ?_ (by first | omega | (simp; done) | (simp; omega) | (simp [*]; done)) _ | refine Below.alloc ?_ (by first | omega | (simp; done) | (simp; omega) | (simp [*]; done)) _ | refine Below.trans ?_ (Below.mono (B1.out) (by first | omega | (simp; done) | (simp; omega) | (simp [*]; done)))))
  · rw [decide_eq_false hg] at HO
    clear hg h
    go_enter Try.func8, Try.ntmps8
    go_wp2_with fail
    refine (HO.out _).mono ?_
    rintro e w1 ⟨rfl, hb1⟩
    obtain ⟨u1, u2, hn1, z1⟩ := two_newS (n := 0) hb1
    obtain ⟨⟨c0, c1, c2⟩, f0, f1, f2⟩ := blk3 u1
    obtain ⟨⟨d0, d1, d2⟩, g0, g1, g2⟩ := blk3 u2
    have B1 := Lib.hid hn1
    have l1 : w.heap.size + 1 < w1.heap.size := by omega
    have k1 : w.heap.size < w1.heap.size := by omega
    clear u1 u2 hb1 hn1 z1
    go_wp2
    refine bodyPost_ret (v := .tuple #[.agg #[.int .i64 0, .int .i64 0, .int .i64 0], .int .i64 0]) ?_ rfl ⟨rfl, ?_⟩
    · have hres : Try.f8.results = #[.cell 6 26, .tmp 7] := by kernel_rfl
      rw [results_cell_tmp hres]
      go_simp
    · exact (by repeat (first | exact Below.refl _ _ | refine Below.drew ?_ | refine Below.setCell ?_ (by first | omega | (simp; done) | (simp; omega) | (simp [*]; done)) _ | refine Below.alloc ?_ (by first | omega | (simp; done) | (simp; omega) | (simp [*]; done)) _ | refine Below.trans ?_ (Below.mono (B1.out) (by first | omega | (simp; done) | (simp; omega) | (simp [*]; done)))))

set_option maxRecDepth 100000 in
set_option maxHeartbeats 2000000 in
theorem sSemaWant_now (C E R n b : Int) (w : World) (h : SemaGood C E R ∧ IsAmt n ∧ IsAmt b) (h1 : n ≤ C - R) :
    Calls Try.prog 8 #[.agg #[.int .i64 C, .int .i64 E, .int .i64 R], .int .i64 n, .int .i64 b] w fun e w' => e = .returned (wantA (wantV C E R n b)) ∧ Below w.heap.size w w' := by
  rw [(want_now h h1).1]
  have HO := Lib.hid (fun W => sSemaOk_any C E R W)
  have HA := Lib.hid (fun W => sOne_any n W)
  have HB := Lib.hid (fun W => sOne_any b W)
  have HL := Lib.hid (fun W => sSemaLeft_any C E R W)
  rw [decide_eq_true h.1] at HO
  rw [decide_eq_true h.2.1] at HA
  rw [decide_eq_true h.2.2] at HB
  rw [show leftV C E R = C + E - R from if_pos h.1] at HL
  have hb1 := h.2.2.1
  have hb2 := h.2.2.2
  have hn1 := h.2.1.1
  have hn2 := h.2.1.2
  have hc1 := h.1.1.1
  have hc2 := h.1.1.2
  have he1 := h.1.2.1.1
  have he2 := h.1.2.1.2
  have hr1 := h.1.2.2.1.1
  have hr2 := h.1.2.2.1.2
  have HN := Lib.hid (fun W => sSemaOk_any (C - n) E R W)
  rw [decide_eq_true (want_now h h1).2] at HN
  clear h
  simp only [wantA]
  go_enter Try.func8, Try.ntmps8
  go_wp2_with fail
  refine (HO.out _).mono ?_
  rintro e w1 ⟨rfl, hb1⟩
  obtain ⟨u1, u2, hn1, z1⟩ := two_newS (n := 0) hb1
  obtain ⟨⟨c0, c1, c2⟩, f0, f1, f2⟩ := blk3 u1
  obtain ⟨⟨d0, d1, d2⟩, g0, g1, g2⟩ := blk3 u2
  have B1 := Lib.hid hn1
  have l1 : w.heap.size + 1 < w1.heap.size := by omega
  have k1 : w.heap.size < w1.heap.size := by omega
  clear u1 u2 hb1 hn1 z1
  go_wp2_with fail
  refine (HA.out _).mono ?_
  rintro e w2 ⟨rfl, rfl⟩
  go_wp2_with fail
  refine (HB.out _).mono ?_
  rintro e w3 ⟨rfl, rfl⟩
  go_wp2_with fail
  refine (HN.out _).mono ?_
  rintro e w5 ⟨rfl, hb5⟩
  obtain ⟨bc5, bf5⟩ := bcell hb5
  have B5 : Hid (Below w.heap.size w w5) := (by repeat (first | exact Below.refl _ _ | refine Below.drew ?_ | refine Below.setCell ?_ (by first | omega | (simp; done) | (simp; omega) | (simp [*]; done)) _ | refine Below.alloc ?_ (by first | omega | (simp; done) | (simp; omega) | (simp [*]; done)) _ | refine Below.trans ?_ (Below.mono (B1.out) (by first | omega | (simp; done) | (simp; omega) | (simp [*]; done))) | refine Below.trans ?_ (Below.mono (hb5) (by first | omega | (simp; done) | (simp; omega) | (simp [*]; done)))))
  clear hb5
  go_wp2
  refine bodyPost_ret (v := .tuple #[.agg #[.int .i64 (C - n), .int .i64 E, .int .i64 R], .int .i64 1]) ?_ rfl ⟨rfl, ?_⟩
  · have hres : Try.f8.results = #[.cell 6 26, .tmp 7] := by kernel_rfl
    rw [results_cell_tmp hres]
    go_simp
  · exact (by repeat (first | exact Below.refl _ _ | refine Below.drew ?_ | refine Below.setCell ?_ (by first | omega | (simp; done) | (simp; omega) | (simp [*]; done)) _ | refine Below.alloc ?_ (by first | omega | (simp; done) | (simp; omega) | (simp [*]; done)) _ | refine Below.trans ?_ (Below.mono (B5.out) (by first | omega | (simp; done) | (simp; omega) | (simp [*]; done)))))

set_option maxRecDepth 100000 in
set_option maxHeartbeats 2000000 in
theorem sSemaWant_wait (C E R n b : Int) (w : World) (h : SemaGood C E R ∧ IsAmt n ∧ IsAmt b) (h1 : ¬ n ≤ C - R) (h2 : n ≤ C + E - R) :
    Calls Try.prog 8 #[.agg #[.int .i64 C, .int .i64 E, .int .i64 R], .int .i64 n, .int .i64 b] w fun e w' => e = .returned (wantA (wantV C E R n b)) ∧ Below w.heap.size w w' := by
  rw [want_wait h h1 h2]
  have HO := Lib.hid (fun W => sSemaOk_any C E R W)
  have HA := Lib.hid (fun W => sOne_any n W)
  have HB := Lib.hid (fun W => sOne_any b W)
  have HL := Lib.hid (fun W => sSemaLeft_any C E R W)
  rw [decide_eq_true h.1] at HO
  rw [decide_eq_true h.2.1] at HA
  rw [decide_eq_true h.2.2] at HB
  rw [show leftV C E R = C + E - R from if_pos h.1] at HL
  have hb1 := h.2.2.1
  have hb2 := h.2.2.2
  have hn1 := h.2.1.1
  have hn2 := h.2.1.2
  have hc1 := h.1.1.1
  have hc2 := h.1.1.2
  have he1 := h.1.2.1.1
  have he2 := h.1.2.1.2
  have hr1 := h.1.2.2.1.1
  have hr2 := h.1.2.2.1.2
  have HN := Lib.hid (fun W => sSemaOk_any C E (R + n) W)
  clear h
  by_cases hg : SemaGood C E (R + n)
  · rw [if_pos hg]
    rw [decide_eq_true hg] at HN
    clear hg
    simp only [wantA]
    go_enter Try.func8, Try.ntmps8
    go_wp2_with fail
    refine (HO.out _).mono ?_
    rintro e w1 ⟨rfl, hb1⟩
    obtain ⟨u1, u2, hn1, z1⟩ := two_newS (n := 0) hb1
    obtain ⟨⟨c0, c1, c2⟩, f0, f1, f2⟩ := blk3 u1
    obtain ⟨⟨d0, d1, d2⟩, g0, g1, g2⟩ := blk3 u2
    have B1 := Lib.hid hn1
    have l1 : w.heap.size + 1 < w1.heap.size := by omega
    have k1 : w.heap.size < w1.heap.size := by omega
    clear u1 u2 hb1 hn1 z1
    go_wp2_with fail
    refine (HA.out _).mono ?_
    rintro e w2 ⟨rfl, rfl⟩
    go_wp2_with fail
    refine (HB.out _).mono ?_
    rintro e w3 ⟨rfl, rfl⟩
    go_wp2_with fail
    refine (HL.out _).mono ?_
    rintro e w4 ⟨rfl, hb4⟩
    obtain ⟨bc4, bf4⟩ := bcell hb4
    have C0 := (bc4 _ _ k1).trans c0
    have C1 := (bc4 _ _ k1).trans c1
    have C2 := (bc4 _ _ k1).trans c2
    have F0 := (bf4 _ _ k1).trans f0
    have F1 := (bf4 _ _ k1).trans f1
    have F2 := (bf4 _ _ k1).trans f2
    have D0 := (bc4 _ _ l1).trans d0
    have D1 := (bc4 _ _ l1).trans d1
    have D2 := (bc4 _ _ l1).trans d2
    have G0 := (bf4 _ _ l1).trans g0
    have G1 := (bf4 _ _ l1).trans g1
    have G2 := (bf4 _ _ l1).trans g2
    have bz4 := hb4.size
    have l4 : w.heap.size + 1 < w4.heap.size := by omega
    have k4 : w.heap.size < w4.heap.size := by omega
    have B4 : Hid (Below w.heap.size w w4) := B1.out.trans (hb4.mono B1.out.size)
    clear hb4 bc4 bf4
    go_wp2_with fail
    refine (HN.out _).mono ?_
    rintro e w5 ⟨rfl, hb5⟩
    obtain ⟨bc5, bf5⟩ := bcell hb5
    have B5 : Hid (Below w.heap.size w w5) := (by repeat (first | exact Below.refl _ _ | refine Below.drew ?_ | refine Below.setCell ?_ (by first | omega | (simp; done) | (simp; omega) | (simp [*]; done)) _ | refine Below.alloc ?_ (by first | omega | (simp; done) | (simp; omega) | (simp [*]; done)) _ | refine Below.trans ?_ (Below.mono (B4.out) (by first | omega | (simp; done) | (simp; omega) | (simp [*]; done))) | refine Below.trans ?_ (Below.mono (hb5) (by first | omega | (simp; done) | (simp; omega) | (simp [*]; done)))))
    clear hb5
    go_wp2
    refine bodyPost_ret (v := .tuple #[.agg #[.int .i64 C, .int .i64 E, .int .i64 (R + n)], .int .i64 2]) ?_ rfl ⟨rfl, ?_⟩
    · have hres : Try.f8.results = #[.cell 6 26, .tmp 7] := by kernel_rfl
      rw [results_cell_tmp hres]
      go_simp
    · exact (by repeat (first | exact Below.refl _ _ | refine Below.drew ?_ | refine Below.setCell ?_ (by first | omega | (simp; done) | (simp; omega) | (simp [*]; done)) _ | refine Below.alloc ?_ (by first | omega | (simp; done) | (simp; omega) | (simp [*]; done)) _ | refine Below.trans ?_ (Below.mono (B5.out) (by first | omega | (simp; done) | (simp; omega) | (simp [*]; done)))))
  · rw [if_neg hg]
    rw [decide_eq_false hg] at HN
    clear hg
    simp only [wantA]
    go_enter Try.func8, Try.ntmps8
    go_wp2_with fail
    refine (HO.out _).mono ?_
    rintro e w1 ⟨rfl, hb1⟩
    obtain ⟨u1, u2, hn1, z1⟩ := two_newS (n := 0) hb1
    obtain ⟨⟨c0, c1, c2⟩, f0, f1, f2⟩ := blk3 u1
    obtain ⟨⟨d0, d1, d2⟩, g0, g1, g2⟩ := blk3 u2
    have B1 := Lib.hid hn1
    have l1 : w.heap.size + 1 < w1.heap.size := by omega
    have k1 : w.heap.size < w1.heap.size := by omega
    clear u1 u2 hb1 hn1 z1
    go_wp2_with fail
    refine (HA.out _).mono ?_
    rintro e w2 ⟨rfl, rfl⟩
    go_wp2_with fail
    refine (HB.out _).mono ?_
    rintro e w3 ⟨rfl, rfl⟩
    go_wp2_with fail
    refine (HL.out _).mono ?_
    rintro e w4 ⟨rfl, hb4⟩
    obtain ⟨bc4, bf4⟩ := bcell hb4
    have C0 := (bc4 _ _ k1).trans c0
    have C1 := (bc4 _ _ k1).trans c1
    have C2 := (bc4 _ _ k1).trans c2
    have F0 := (bf4 _ _ k1).trans f0
    have F1 := (bf4 _ _ k1).trans f1
    have F2 := (bf4 _ _ k1).trans f2
    have D0 := (bc4 _ _ l1).trans d0
    have D1 := (bc4 _ _ l1).trans d1
    have D2 := (bc4 _ _ l1).trans d2
    have G0 := (bf4 _ _ l1).trans g0
    have G1 := (bf4 _ _ l1).trans g1
    have G2 := (bf4 _ _ l1).trans g2
    have bz4 := hb4.size
    have l4 : w.heap.size + 1 < w4.heap.size := by omega
    have k4 : w.heap.size < w4.heap.size := by omega
    have B4 : Hid (Below w.heap.size w w4) := B1.out.trans (hb4.mono B1.out.size)
    clear hb4 bc4 bf4
    go_wp2_with fail
    refine (HN.out _).mono ?_
    rintro e w5 ⟨rfl, hb5⟩
    obtain ⟨bc5, bf5⟩ := bcell hb5
    have B5 : Hid (Below w.heap.size w w5) := (by repeat (first | exact Below.refl _ _ | refine Below.drew ?_ | refine Below.setCell ?_ (by first | omega | (simp; done) | (simp; omega) | (simp [*]; done)) _ | refine Below.alloc ?_ (by first | omega | (simp; done) | (simp; omega) | (simp [*]; done)) _ | refine Below.trans ?_ (Below.mono (B4.out) (by first | omega | (simp; done) | (simp; omega) | (simp [*]; done))) | refine Below.trans ?_ (Below.mono (hb5) (by first | omega | (simp; done) | (simp; omega) | (simp [*]; done)))))
    clear hb5
    go_wp2
    refine bodyPost_ret (v := .tuple #[.agg #[.int .i64 0, .int .i64 0, .int .i64 0], .int .i64 0]) ?_ rfl ⟨rfl, ?_⟩
    · have hres : Try.f8.results = #[.cell 6 26, .tmp 7] := by kernel_rfl
      rw [results_cell_tmp hres]
      go_simp
    · exact (by repeat (first | exact Below.refl _ _ | refine Below.drew ?_ | refine Below.setCell ?_ (by first | omega | (simp; done) | (simp; omega) | (simp [*]; done)) _ | refine Below.alloc ?_ (by first | omega | (simp; done) | (simp; omega) | (simp [*]; done)) _ | refine Below.trans ?_ (Below.mono (B5.out) (by first | omega | (simp; done) | (simp; omega) | (simp [*]; done)))))

set_option maxRecDepth 100000 in
set_option maxHeartbeats 2000000 in
theorem sSemaWant_make (C E R n b : Int) (w : World) (h : SemaGood C E R ∧ IsAmt n ∧ IsAmt b) (h1 : ¬ n ≤ C - R) (h2 : ¬ n ≤ C + E - R) (h3 : n ≤ b) :
    Calls Try.prog 8 #[.agg #[.int .i64 C, .int .i64 E, .int .i64 R], .int .i64 n, .int .i64 b] w fun e w' => e = .returned (wantA (wantV C E R n b)) ∧ Below w.heap.size w w' := by
  rw [want_make h h1 h2 h3]
  have HO := Lib.hid (fun W => sSemaOk_any C E R W)
  have HA := Lib.hid (fun W => sOne_any n W)
  have HB := Lib.hid (fun W => sOne_any b W)
  have HL := Lib.hid (fun W => sSemaLeft_any C E R W)
  rw [decide_eq_true h.1] at HO
  rw [decide_eq_true h.2.1] at HA
  rw [decide_eq_true h.2.2] at HB
  rw [show leftV C E R = C + E - R from if_pos h.1] at HL
  have hb1 := h.2.2.1
  have hb2 := h.2.2.2
  have hn1 := h.2.1.1
  have hn2 := h.2.1.2
  have hc1 := h.1.1.1
  have hc2 := h.1.1.2
  have he1 := h.1.2.1.1
  have he2 := h.1.2.1.2
  have hr1 := h.1.2.2.1.1
  have hr2 := h.1.2.2.1.2
  have HN := Lib.hid (fun W => sSemaOk_any C (E + b) (R + n) W)
  clear h
  by_cases hg : SemaGood C (E + b) (R + n)
  · rw [if_pos hg]
    rw [decide_eq_true hg] at HN
    clear hg
    simp only [wantA]
    go_enter Try.func8, Try.ntmps8
    go_wp2_with fail
    refine (HO.out _).mono ?_
    rintro e w1 ⟨rfl, hb1⟩
    obtain ⟨u1, u2, hn1, z1⟩ := two_newS (n := 0) hb1
    obtain ⟨⟨c0, c1, c2⟩, f0, f1, f2⟩ := blk3 u1
    obtain ⟨⟨d0, d1, d2⟩, g0, g1, g2⟩ := blk3 u2
    have B1 := Lib.hid hn1
    have l1 : w.heap.size + 1 < w1.heap.size := by omega
    have k1 : w.heap.size < w1.heap.size := by omega
    clear u1 u2 hb1 hn1 z1
    go_wp2_with fail
    refine (HA.out _).mono ?_
    rintro e w2 ⟨rfl, rfl⟩
    go_wp2_with fail
    refine (HB.out _).mono ?_
    rintro e w3 ⟨rfl, rfl⟩
    go_wp2_with fail
    refine (HL.out _).mono ?_
    rintro e w4 ⟨rfl, hb4⟩
    obtain ⟨bc4, bf4⟩ := bcell hb4
    have C0 := (bc4 _ _ k1).trans c0
    have C1 := (bc4 _ _ k1).trans c1
    have C2 := (bc4 _ _ k1).trans c2
    have F0 := (bf4 _ _ k1).trans f0
    have F1 := (bf4 _ _ k1).trans f1
    have F2 := (bf4 _ _ k1).trans f2
    have D0 := (bc4 _ _ l1).trans d0
    have D1 := (bc4 _ _ l1).trans d1
    have D2 := (bc4 _ _ l1).trans d2
    have G0 := (bf4 _ _ l1).trans g0
    have G1 := (bf4 _ _ l1).trans g1
    have G2 := (bf4 _ _ l1).trans g2
    have bz4 := hb4.size
    have l4 : w.heap.size + 1 < w4.heap.size := by omega
    have k4 : w.heap.size < w4.heap.size := by omega
    have B4 : Hid (Below w.heap.size w w4) := B1.out.trans (hb4.mono B1.out.size)
    clear hb4 bc4 bf4
    go_wp2_with fail
    refine (HN.out _).mono ?_
    rintro e w5 ⟨rfl, hb5⟩
    obtain ⟨bc5, bf5⟩ := bcell hb5
    have B5 : Hid (Below w.heap.size w w5) := (by repeat (first | exact Below.refl _ _ | refine Below.drew ?_ | refine Below.setCell ?_ (by first | omega | (simp; done) | (simp; omega) | (simp [*]; done)) _ | refine Below.alloc ?_ (by first | omega | (simp; done) | (simp; omega) | (simp [*]; done)) _ | refine Below.trans ?_ (Below.mono (B4.out) (by first | omega | (simp; done) | (simp; omega) | (simp [*]; done))) | refine Below.trans ?_ (Below.mono (hb5) (by first | omega | (simp; done) | (simp; omega) | (simp [*]; done)))))
    clear hb5
    go_wp2
    refine bodyPost_ret (v := .tuple #[.agg #[.int .i64 C, .int .i64 (E + b), .int .i64 (R + n)], .int .i64 3]) ?_ rfl ⟨rfl, ?_⟩
    · have hres : Try.f8.results = #[.cell 6 26, .tmp 7] := by kernel_rfl
      rw [results_cell_tmp hres]
      go_simp
    · exact (by repeat (first | exact Below.refl _ _ | refine Below.drew ?_ | refine Below.setCell ?_ (by first | omega | (simp; done) | (simp; omega) | (simp [*]; done)) _ | refine Below.alloc ?_ (by first | omega | (simp; done) | (simp; omega) | (simp [*]; done)) _ | refine Below.trans ?_ (Below.mono (B5.out) (by first | omega | (simp; done) | (simp; omega) | (simp [*]; done)))))
  · rw [if_neg hg]
    rw [decide_eq_false hg] at HN
    clear hg
    simp only [wantA]
    go_enter Try.func8, Try.ntmps8
    go_wp2_with fail
    refine (HO.out _).mono ?_
    rintro e w1 ⟨rfl, hb1⟩
    obtain ⟨u1, u2, hn1, z1⟩ := two_newS (n := 0) hb1
    obtain ⟨⟨c0, c1, c2⟩, f0, f1, f2⟩ := blk3 u1
    obtain ⟨⟨d0, d1, d2⟩, g0, g1, g2⟩ := blk3 u2
    have B1 := Lib.hid hn1
    have l1 : w.heap.size + 1 < w1.heap.size := by omega
    have k1 : w.heap.size < w1.heap.size := by omega
    clear u1 u2 hb1 hn1 z1
    go_wp2_with fail
    refine (HA.out _).mono ?_
    rintro e w2 ⟨rfl, rfl⟩
    go_wp2_with fail
    refine (HB.out _).mono ?_
    rintro e w3 ⟨rfl, rfl⟩
    go_wp2_with fail
    refine (HL.out _).mono ?_
    rintro e w4 ⟨rfl, hb4⟩
    obtain ⟨bc4, bf4⟩ := bcell hb4
    have C0 := (bc4 _ _ k1).trans c0
    have C1 := (bc4 _ _ k1).trans c1
    have C2 := (bc4 _ _ k1).trans c2
    have F0 := (bf4 _ _ k1).trans f0
    have F1 := (bf4 _ _ k1).trans f1
    have F2 := (bf4 _ _ k1).trans f2
    have D0 := (bc4 _ _ l1).trans d0
    have D1 := (bc4 _ _ l1).trans d1
    have D2 := (bc4 _ _ l1).trans d2
    have G0 := (bf4 _ _ l1).trans g0
    have G1 := (bf4 _ _ l1).trans g1
    have G2 := (bf4 _ _ l1).trans g2
    have bz4 := hb4.size
    have l4 : w.heap.size + 1 < w4.heap.size := by omega
    have k4 : w.heap.size < w4.heap.size := by omega
    have B4 : Hid (Below w.heap.size w w4) := B1.out.trans (hb4.mono B1.out.size)
    clear hb4 bc4 bf4
    go_wp2_with fail
    refine (HN.out _).mono ?_
    rintro e w5 ⟨rfl, hb5⟩
    obtain ⟨bc5, bf5⟩ := bcell hb5
    have B5 : Hid (Below w.heap.size w w5) := (by repeat (first | exact Below.refl _ _ | refine Below.drew ?_ | refine Below.setCell ?_ (by first | omega | (simp; done) | (simp; omega) | (simp [*]; done)) _ | refine Below.alloc ?_ (by first | omega | (simp; done) | (simp; omega) | (simp [*]; done)) _ | refine Below.trans ?_ (Below.mono (B4.out) (by first | omega | (simp; done) | (simp; omega) | (simp [*]; done))) | refine Below.trans ?_ (Below.mono (hb5) (by first | omega | (simp; done) | (simp; omega) | (simp [*]; done)))))
    clear hb5
    go_wp2
    refine bodyPost_ret (v := .tuple #[.agg #[.int .i64 0, .int .i64 0, .int .i64 0], .int .i64 0]) ?_ rfl ⟨rfl, ?_⟩
    · have hres : Try.f8.results = #[.cell 6 26, .tmp 7] := by kernel_rfl
      rw [results_cell_tmp hres]
      go_simp
    · exact (by repeat (first | exact Below.refl _ _ | refine Below.drew ?_ | refine Below.setCell ?_ (by first | omega | (simp; done) | (simp; omega) | (simp [*]; done)) _ | refine Below.alloc ?_ (by first | omega | (simp; done) | (simp; omega) | (simp [*]; done)) _ | refine Below.trans ?_ (Below.mono (B5.out) (by first | omega | (simp; done) | (simp; omega) | (simp [*]; done)))))

set_option maxRecDepth 100000 in
set_option maxHeartbeats 2000000 in
theorem sSemaWant_none (C E R n b : Int) (w : World) (h : SemaGood C E R ∧ IsAmt n ∧ IsAmt b) (h1 : ¬ n ≤ C - R) (h2 : ¬ n ≤ C + E - R) (h3 : ¬ n ≤ b) :
    Calls Try.prog 8 #[.agg #[.int .i64 C, .int .i64 E, .int .i64 R], .int .i64 n, .int .i64 b] w fun e w' => e = .returned (wantA (wantV C E R n b)) ∧ Below w.heap.size w w' := by
  rw [want_none h h1 h2 h3]
  have HO := Lib.hid (fun W => sSemaOk_any C E R W)
  have HA := Lib.hid (fun W => sOne_any n W)
  have HB := Lib.hid (fun W => sOne_any b W)
  have HL := Lib.hid (fun W => sSemaLeft_any C E R W)
  rw [decide_eq_true h.1] at HO
  rw [decide_eq_true h.2.1] at HA
  rw [decide_eq_true h.2.2] at HB
  rw [show leftV C E R = C + E - R from if_pos h.1] at HL
  have hb1 := h.2.2.1
  have hb2 := h.2.2.2
  have hn1 := h.2.1.1
  have hn2 := h.2.1.2
  have hc1 := h.1.1.1
  have hc2 := h.1.1.2
  have he1 := h.1.2.1.1
  have he2 := h.1.2.1.2
  have hr1 := h.1.2.2.1.1
  have hr2 := h.1.2.2.1.2
  clear h
  simp only [wantA]
  go_enter Try.func8, Try.ntmps8
  go_wp2_with fail
  refine (HO.out _).mono ?_
  rintro e w1 ⟨rfl, hb1⟩
  obtain ⟨u1, u2, hn1, z1⟩ := two_newS (n := 0) hb1
  obtain ⟨⟨c0, c1, c2⟩, f0, f1, f2⟩ := blk3 u1
  obtain ⟨⟨d0, d1, d2⟩, g0, g1, g2⟩ := blk3 u2
  have B1 := Lib.hid hn1
  have l1 : w.heap.size + 1 < w1.heap.size := by omega
  have k1 : w.heap.size < w1.heap.size := by omega
  clear u1 u2 hb1 hn1 z1
  go_wp2_with fail
  refine (HA.out _).mono ?_
  rintro e w2 ⟨rfl, rfl⟩
  go_wp2_with fail
  refine (HB.out _).mono ?_
  rintro e w3 ⟨rfl, rfl⟩
  go_wp2_with fail
  refine (HL.out _).mono ?_
  rintro e w4 ⟨rfl, hb4⟩
  obtain ⟨bc4, bf4⟩ := bcell hb4
  have C0 := (bc4 _ _ k1).trans c0
  have C1 := (bc4 _ _ k1).trans c1
  have C2 := (bc4 _ _ k1).trans c2
  have F0 := (bf4 _ _ k1).trans f0
  have F1 := (bf4 _ _ k1).trans f1
  have F2 := (bf4 _ _ k1).trans f2
  have D0 := (bc4 _ _ l1).trans d0
  have D1 := (bc4 _ _ l1).trans d1
  have D2 := (bc4 _ _ l1).trans d2
  have G0 := (bf4 _ _ l1).trans g0
  have G1 := (bf4 _ _ l1).trans g1
  have G2 := (bf4 _ _ l1).trans g2
  have bz4 := hb4.size
  have l4 : w.heap.size + 1 < w4.heap.size := by omega
  have k4 : w.heap.size < w4.heap.size := by omega
  have B4 : Hid (Below w.heap.size w w4) := B1.out.trans (hb4.mono B1.out.size)
  clear hb4 bc4 bf4
  go_wp2
  refine bodyPost_ret (v := .tuple #[.agg #[.int .i64 0, .int .i64 0, .int .i64 0], .int .i64 0]) ?_ rfl ⟨rfl, ?_⟩
  · have hres : Try.f8.results = #[.cell 6 26, .tmp 7] := by kernel_rfl
    rw [results_cell_tmp hres]
    go_simp
  · exact (by repeat (first | exact Below.refl _ _ | refine Below.drew ?_ | refine Below.setCell ?_ (by first | omega | (simp; done) | (simp; omega) | (simp [*]; done)) _ | refine Below.alloc ?_ (by first | omega | (simp; done) | (simp; omega) | (simp [*]; done)) _ | refine Below.trans ?_ (Below.mono (B4.out) (by first | omega | (simp; done) | (simp; omega) | (simp [*]; done)))))

theorem sSemaWant_any (C E R n b : Int) (w : World) :
    Calls Try.prog 8 #[.agg #[.int .i64 C, .int .i64 E, .int .i64 R], .int .i64 n, .int .i64 b] w fun e w' => e = .returned (wantA (wantV C E R n b)) ∧ Below w.heap.size w w' := by
  by_cases h : SemaGood C E R ∧ IsAmt n ∧ IsAmt b
  · by_cases h1 : n ≤ C - R
    · exact sSemaWant_now C E R n b w h h1
    · by_cases h2 : n ≤ C + E - R
      · exact sSemaWant_wait C E R n b w h h1 h2
      · by_cases h3 : n ≤ b
        · exact sSemaWant_make C E R n b w h h1 h2 h3
        · exact sSemaWant_none C E R n b w h h1 h2 h3
  · exact sSemaWant_bad C E R n b w h

end Go.Proofs.Ythmmkleddembbaa
