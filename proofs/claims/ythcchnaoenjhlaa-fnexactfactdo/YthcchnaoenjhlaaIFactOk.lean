/- FactOk of the program, and the methods that it calls through an interface. -/
import Derived.Test.YthcchnaoenjhlaaFactV
import Derived.Test.YthcchnaoenjhlaaIsW
import Derived.Test.YthcchnaoenjhlaaNewB
namespace Go.Proofs.Ythcchnaoenjhlaa
open Go.RowKit
set_option linter.unusedVariables false

/-- What a fact says, as a value behind the interface. -/
def stmtV (f : Fc) : Value := if f.k = 1 then .iface 93 (.agg #[.int .i64 f.a, .int .i64 f.s]) else if f.k = 2 then .iface 94 (.agg #[.int .i64 f.a, .int .i64 f.s]) else if f.k = 3 then .iface 95 (.agg #[.int .i64 f.a, .int .i64 f.s]) else if f.k = 4 then .iface 96 (.agg #[.int .i64 f.a, .int .i64 f.s]) else .nilIface

set_option maxHeartbeats 1000000 in
theorem mayBeBlock_any (a s : Int) (w : World) : Calls Try.prog 95 #[.agg #[.int .i64 a, .int .i64 s]] w fun e w' => e = .returned (.bool (decide (BlkGood a s))) ∧ Below w.heap.size w w' := by
  by_cases h0 : 0 ≤ a
  · by_cases h1 : a < 256
    · by_cases h2 : 1 ≤ s
      · have HR : Hid (decide (BlkGood a s) = true) := decide_eq_true ⟨h0, h1, h2⟩
        go_enter Try.func95, Try.ntmps95
        go_wp2
        go_ret
        exact ⟨by rw [HR.out]; rfl, bel1 _ _⟩
      · have HR : Hid (decide (BlkGood a s) = false) := decide_eq_false (fun g => by unfold BlkGood at g; omega)
        go_enter Try.func95, Try.ntmps95
        go_wp2
        go_ret
        exact ⟨by rw [HR.out]; rfl, bel1 _ _⟩
    · have HR : Hid (decide (BlkGood a s) = false) := decide_eq_false (fun g => by unfold BlkGood at g; omega)
      go_enter Try.func95, Try.ntmps95
      go_wp2
      go_ret
      exact ⟨by rw [HR.out]; rfl, bel1 _ _⟩
  · have HR : Hid (decide (BlkGood a s) = false) := decide_eq_false (fun g => by unfold BlkGood at g; omega)
    go_enter Try.func95, Try.ntmps95
    go_wp2
    go_ret
    exact ⟨by rw [HR.out]; rfl, bel1 _ _⟩

set_option maxHeartbeats 1000000 in
theorem takenValid_any (a s : Int) (w : World) : Calls Try.prog 93 #[.agg #[.int .i64 a, .int .i64 s]] w fun e w' => e = .returned (.bool (decide (BlkGood a s))) ∧ Below w.heap.size w w' := by
  have HC := Lib.hid (fun W => mayBeBlock_any a s W)
  have HB0 := Lib.hid (bel1 w (.cells #[.int .i64 a, .int .i64 s] 93))
  go_enter Try.func93, Try.ntmps93
  go_wp2_with fail
  refine (HC.out _).mono ?_
  rintro e w1 ⟨rfl, hb⟩
  have B1 := Lib.hid (HB0.out.trans (hb.mono HB0.out.size))
  clear hb
  go_wp2
  go_ret
  exact ⟨rfl, B1.out⟩

set_option maxHeartbeats 1000000 in
theorem givenValid_any (a s : Int) (w : World) : Calls Try.prog 127 #[.agg #[.int .i64 a, .int .i64 s]] w fun e w' => e = .returned (.bool (decide (BlkGood a s))) ∧ Below w.heap.size w w' := by
  have HC := Lib.hid (fun W => mayBeBlock_any a s W)
  have HB0 := Lib.hid (bel1 w (.cells #[.int .i64 a, .int .i64 s] 94))
  go_enter Try.func127, Try.ntmps127
  go_wp2_with fail
  refine (HC.out _).mono ?_
  rintro e w1 ⟨rfl, hb⟩
  have B1 := Lib.hid (HB0.out.trans (hb.mono HB0.out.size))
  clear hb
  go_wp2
  go_ret
  exact ⟨rfl, B1.out⟩

set_option maxHeartbeats 1000000 in
theorem refusedValid_any (a s : Int) (w : World) : Calls Try.prog 131 #[.agg #[.int .i64 a, .int .i64 s]] w fun e w' => e = .returned (.bool (decide (RefGood a s))) ∧ Below w.heap.size w w' := by
  by_cases h0 : a = -1
  · have e0 : (a == -1) = true := by simp [h0]
    by_cases h1 : 1 ≤ s
    · by_cases h2 : s ≤ 256
      · have HR : Hid (decide (RefGood a s) = true) := decide_eq_true ⟨h0, h1, h2⟩
        clear h0
        go_enter Try.func131, Try.ntmps131
        go_wp2
        go_ret
        exact ⟨by rw [HR.out]; rfl, bel1 _ _⟩
      · have HR : Hid (decide (RefGood a s) = false) := decide_eq_false (fun g => by unfold RefGood at g; omega)
        clear h0
        go_enter Try.func131, Try.ntmps131
        go_wp2
        go_ret
        exact ⟨by rw [HR.out]; rfl, bel1 _ _⟩
    · have HR : Hid (decide (RefGood a s) = false) := decide_eq_false (fun g => by unfold RefGood at g; omega)
      clear h0
      go_enter Try.func131, Try.ntmps131
      go_wp2
      go_ret
      exact ⟨by rw [HR.out]; rfl, bel1 _ _⟩
  · have e0 : (a == -1) = false := by simp [h0]
    have HR : Hid (decide (RefGood a s) = false) := decide_eq_false (fun g => by unfold RefGood at g; omega)
    clear h0
    go_enter Try.func131, Try.ntmps131
    go_wp2
    go_ret
    exact ⟨by rw [HR.out]; rfl, bel1 _ _⟩

set_option maxHeartbeats 1000000 in
theorem wrongValid_any (a s : Int) (w : World) : Calls Try.prog 134 #[.agg #[.int .i64 a, .int .i64 s]] w fun e w' => e = .returned (.bool (decide (WrgGood a s))) ∧ Below w.heap.size w w' := by
  by_cases h0 : 0 ≤ a
  · by_cases h1 : a ≤ 4095
    · by_cases h2 : s = 0
      · have e2 : (s == 0) = true := by simp [h2]
        have HR : Hid (decide (WrgGood a s) = true) := decide_eq_true ⟨h0, h1, h2⟩
        clear h2
        go_enter Try.func134, Try.ntmps134
        go_wp2
        go_ret
        exact ⟨by rw [HR.out]; rfl, bel1 _ _⟩
      · have e2 : (s == 0) = false := by simp [h2]
        have HR : Hid (decide (WrgGood a s) = false) := decide_eq_false (fun g => by unfold WrgGood at g; omega)
        clear h2
        go_enter Try.func134, Try.ntmps134
        go_wp2
        go_ret
        exact ⟨by rw [HR.out]; rfl, bel1 _ _⟩
    · have HR : Hid (decide (WrgGood a s) = false) := decide_eq_false (fun g => by unfold WrgGood at g; omega)
      go_enter Try.func134, Try.ntmps134
      go_wp2
      go_ret
      exact ⟨by rw [HR.out]; rfl, bel1 _ _⟩
  · have HR : Hid (decide (WrgGood a s) = false) := decide_eq_false (fun g => by unfold WrgGood at g; omega)
    go_enter Try.func134, Try.ntmps134
    go_wp2
    go_ret
    exact ⟨by rw [HR.out]; rfl, bel1 _ _⟩

set_option maxHeartbeats 1000000 in
theorem statement_any (f : Fc) (w : World) : Calls Try.prog 38 #[.agg #[.int .i64 f.k, .int .i64 f.i, .int .i64 f.l, .int .i64 f.a, .int .i64 f.s]] w fun e w' => e = .returned (stmtV f) ∧ Below w.heap.size w w' := by
  have q1 : Try.prog.concrete 93 = true := by kernel_rfl
  have q2 : Try.prog.concrete 94 = true := by kernel_rfl
  have q3 : Try.prog.concrete 95 = true := by kernel_rfl
  have q4 : Try.prog.concrete 96 = true := by kernel_rfl
  by_cases h1 : f.k = 1
  · have k1 : (f.k == 1) = true := by simp [h1]
    have HR : Hid (stmtV f = .iface 93 (.agg #[.int .i64 f.a, .int .i64 f.s])) := (show _ = _ from by simp [stmtV, h1])
    clear h1
    go_enter Try.func38, Try.ntmps38
    go_wp2
    go_ret
    exact ⟨by rw [HR.out]; rfl, (by repeat (first | exact Below.refl _ _ | refine Below.drew ?_ | refine Below.setCell ?_ (by first | omega | (simp; done) | (simp; omega) | (simp [*]; done)) _ | refine Below.alloc ?_ (by first | omega | (simp; done) | (simp; omega) | (simp [*]; done)) _))⟩
  · have k1 : (f.k == 1) = false := by simp [h1]
    by_cases h2 : f.k = 2
    · have k2 : (f.k == 2) = true := by simp [h2]
      have HR : Hid (stmtV f = .iface 94 (.agg #[.int .i64 f.a, .int .i64 f.s])) := (show _ = _ from by simp [stmtV, h2])
      clear h1 h2
      go_enter Try.func38, Try.ntmps38
      go_wp2
      go_ret
      exact ⟨by rw [HR.out]; rfl, (by repeat (first | exact Below.refl _ _ | refine Below.drew ?_ | refine Below.setCell ?_ (by first | omega | (simp; done) | (simp; omega) | (simp [*]; done)) _ | refine Below.alloc ?_ (by first | omega | (simp; done) | (simp; omega) | (simp [*]; done)) _))⟩
    · have k2 : (f.k == 2) = false := by simp [h2]
      by_cases h3 : f.k = 3
      · have k3 : (f.k == 3) = true := by simp [h3]
        have HR : Hid (stmtV f = .iface 95 (.agg #[.int .i64 f.a, .int .i64 f.s])) := (show _ = _ from by simp [stmtV, h3])
        clear h1 h2 h3
        go_enter Try.func38, Try.ntmps38
        go_wp2
        go_ret
        exact ⟨by rw [HR.out]; rfl, (by repeat (first | exact Below.refl _ _ | refine Below.drew ?_ | refine Below.setCell ?_ (by first | omega | (simp; done) | (simp; omega) | (simp [*]; done)) _ | refine Below.alloc ?_ (by first | omega | (simp; done) | (simp; omega) | (simp [*]; done)) _))⟩
      · have k3 : (f.k == 3) = false := by simp [h3]
        by_cases h4 : f.k = 4
        · have k4 : (f.k == 4) = true := by simp [h4]
          have HR : Hid (stmtV f = .iface 96 (.agg #[.int .i64 f.a, .int .i64 f.s])) := (show _ = _ from by simp [stmtV, h4])
          clear h1 h2 h3 h4
          go_enter Try.func38, Try.ntmps38
          go_wp2
          go_ret
          exact ⟨by rw [HR.out]; rfl, (by repeat (first | exact Below.refl _ _ | refine Below.drew ?_ | refine Below.setCell ?_ (by first | omega | (simp; done) | (simp; omega) | (simp [*]; done)) _ | refine Below.alloc ?_ (by first | omega | (simp; done) | (simp; omega) | (simp [*]; done)) _))⟩
        · have k4 : (f.k == 4) = false := by simp [h4]
          have HR : Hid (stmtV f = .nilIface) := (show _ = _ from by simp [stmtV, h1, h2, h3, h4])
          clear h1 h2 h3 h4
          go_enter Try.func38, Try.ntmps38
          go_wp2
          go_ret
          exact ⟨by rw [HR.out]; rfl, (by repeat (first | exact Below.refl _ _ | refine Below.drew ?_ | refine Below.setCell ?_ (by first | omega | (simp; done) | (simp; omega) | (simp [*]; done)) _ | refine Below.alloc ?_ (by first | omega | (simp; done) | (simp; omega) | (simp [*]; done)) _))⟩

/-- The method behind the interface. -/
theorem meth_taken (a s : Int) (w : World) : (method 157 93 (.agg #[.int .i64 a, .int .i64 s]) "loop.example/g00709/impl.isValid").run Try.prog w = .ok (93, .agg #[.int .i64 a, .int .i64 s]) w := by kernel_rfl

/-- The method behind the interface. -/
theorem meth_given (a s : Int) (w : World) : (method 157 94 (.agg #[.int .i64 a, .int .i64 s]) "loop.example/g00709/impl.isValid").run Try.prog w = .ok (127, .agg #[.int .i64 a, .int .i64 s]) w := by kernel_rfl

/-- The method behind the interface. -/
theorem meth_refused (a s : Int) (w : World) : (method 157 95 (.agg #[.int .i64 a, .int .i64 s]) "loop.example/g00709/impl.isValid").run Try.prog w = .ok (131, .agg #[.int .i64 a, .int .i64 s]) w := by kernel_rfl

/-- The method behind the interface. -/
theorem meth_wrong (a s : Int) (w : World) : (method 157 96 (.agg #[.int .i64 a, .int .i64 s]) "loop.example/g00709/impl.isValid").run Try.prog w = .ok (134, .agg #[.int .i64 a, .int .i64 s]) w := by kernel_rfl

set_option maxRecDepth 100000 in
set_option maxHeartbeats 4000000 in
theorem factOk_any (f : Fc) (w : World) : Calls Try.prog 11 #[.agg #[.int .i64 f.k, .int .i64 f.i, .int .i64 f.l, .int .i64 f.a, .int .i64 f.s]] w fun e w' => e = .returned (.bool (decide (FactGood f))) ∧ Below w.heap.size w w' := by
  have HS := Lib.hid (fun W => statement_any f W)
  have HW := Lib.hid (fun W => isWarp_any f.i W)
  have HB0 := Lib.hid (bel1 w (.cells #[.int .i64 f.k, .int .i64 f.i, .int .i64 f.l, .int .i64 f.a, .int .i64 f.s] 25))
  have qn : ∀ (t : TypeId) (v : Value) (W : World), (binOp .neq 64 (.iface t v) .nilIface).run Try.prog W = .ok (.bool true) W := fun t v W => by rfl
  have qz : ∀ (W : World), (binOp .neq 64 .nilIface .nilIface).run Try.prog W = .ok (.bool false) W := fun W => by rfl
  have hm1 := meth_taken f.a f.s
  have hm2 := meth_given f.a f.s
  have hm3 := meth_refused f.a f.s
  have hm4 := meth_wrong f.a f.s
  by_cases h1 : f.k = 1
  · have k1 : (f.k == 1) = true := by simp [h1]
    have HV : Hid (stmtV f = .iface 93 (.agg #[.int .i64 f.a, .int .i64 f.s])) := (show _ = _ from by simp [stmtV, h1])
    have HM := Lib.hid (fun W => takenValid_any f.a f.s W)
    by_cases hv : BlkGood f.a f.s
    · rw [decide_eq_true hv] at HM
      by_cases hw : IsWarp f.i
      · rw [decide_eq_true hw] at HW
        by_cases hl : 0 ≤ f.l
        · by_cases hl2 : f.l < 8
          · have HR : Hid (decide (FactGood f) = true) := decide_eq_true ⟨.inl ⟨h1, hv⟩, hw, hl, hl2⟩
            clear hv hw h1
            go_enter Try.func11, Try.ntmps11
            go_wp2_with fail
            refine (HS.out _).mono ?_
            rintro e w1 ⟨rfl, hb⟩
            rw [HV.out]
            obtain ⟨hn0, hb1, z1⟩ := nw1 hb
            have HA0 := Lib.hid hn0
            have B1 := Lib.hid hb1
            clear hb hb1 hn0
            go_wp2_with fail
            refine (HM.out _).mono ?_
            rintro e w2 ⟨rfl, hb⟩
            have HA1 := Lib.hid ((hb.block _ (by omega)).trans HA0.out)
            have B2 := Lib.hid (B1.out.trans (hb.mono B1.out.size))
            have a1 := blkc HA1.out 1 rfl
            have a2 := blkc HA1.out 2 rfl
            clear hb
            go_wp2_with fail
            refine (HW.out _).mono ?_
            rintro e w3 ⟨rfl, rfl⟩
            go_wp2
            go_ret
            exact ⟨by rw [HR.out]; rfl, B2.out⟩
          · have HR : Hid (decide (FactGood f) = false) := decide_eq_false (fun g => hl2 g.2.2.2)
            have e8 : decide (f.l < 8) = false := decide_eq_false hl2
            clear hv hw h1
            go_enter Try.func11, Try.ntmps11
            go_wp2_with fail
            refine (HS.out _).mono ?_
            rintro e w1 ⟨rfl, hb⟩
            rw [HV.out]
            obtain ⟨hn0, hb1, z1⟩ := nw1 hb
            have HA0 := Lib.hid hn0
            have B1 := Lib.hid hb1
            clear hb hb1 hn0
            go_wp2_with fail
            refine (HM.out _).mono ?_
            rintro e w2 ⟨rfl, hb⟩
            have HA1 := Lib.hid ((hb.block _ (by omega)).trans HA0.out)
            have B2 := Lib.hid (B1.out.trans (hb.mono B1.out.size))
            have a1 := blkc HA1.out 1 rfl
            have a2 := blkc HA1.out 2 rfl
            clear hb
            go_wp2_with fail
            refine (HW.out _).mono ?_
            rintro e w3 ⟨rfl, rfl⟩
            go_wp2
            go_ret
            exact ⟨by rw [HR.out]; first | rfl | (show Ending.returned (Value.bool (decide (f.l < 8))) = _; rw [e8]), B2.out⟩
        · have HR : Hid (decide (FactGood f) = false) := decide_eq_false (fun g => hl g.2.2.1)
          clear hv hw h1
          go_enter Try.func11, Try.ntmps11
          go_wp2_with fail
          refine (HS.out _).mono ?_
          rintro e w1 ⟨rfl, hb⟩
          rw [HV.out]
          obtain ⟨hn0, hb1, z1⟩ := nw1 hb
          have HA0 := Lib.hid hn0
          have B1 := Lib.hid hb1
          clear hb hb1 hn0
          go_wp2_with fail
          refine (HM.out _).mono ?_
          rintro e w2 ⟨rfl, hb⟩
          have HA1 := Lib.hid ((hb.block _ (by omega)).trans HA0.out)
          have B2 := Lib.hid (B1.out.trans (hb.mono B1.out.size))
          have a1 := blkc HA1.out 1 rfl
          have a2 := blkc HA1.out 2 rfl
          clear hb
          go_wp2_with fail
          refine (HW.out _).mono ?_
          rintro e w3 ⟨rfl, rfl⟩
          go_wp2
          go_ret
          exact ⟨by rw [HR.out]; rfl, B2.out⟩
      · rw [decide_eq_false hw] at HW
        have HR : Hid (decide (FactGood f) = false) := decide_eq_false (fun g => hw g.2.1)
        clear hv hw h1
        go_enter Try.func11, Try.ntmps11
        go_wp2_with fail
        refine (HS.out _).mono ?_
        rintro e w1 ⟨rfl, hb⟩
        rw [HV.out]
        obtain ⟨hn0, hb1, z1⟩ := nw1 hb
        have HA0 := Lib.hid hn0
        have B1 := Lib.hid hb1
        clear hb hb1 hn0
        go_wp2_with fail
        refine (HM.out _).mono ?_
        rintro e w2 ⟨rfl, hb⟩
        have HA1 := Lib.hid ((hb.block _ (by omega)).trans HA0.out)
        have B2 := Lib.hid (B1.out.trans (hb.mono B1.out.size))
        have a1 := blkc HA1.out 1 rfl
        have a2 := blkc HA1.out 2 rfl
        clear hb
        go_wp2_with fail
        refine (HW.out _).mono ?_
        rintro e w3 ⟨rfl, rfl⟩
        go_wp2
        go_ret
        exact ⟨by rw [HR.out]; rfl, B2.out⟩
    · rw [decide_eq_false hv] at HM
      have HR : Hid (decide (FactGood f) = false) := decide_eq_false (fun g => by rcases g.1 with g | g | g | g <;> (first | omega | exact hv g.2))
      clear hv h1
      go_enter Try.func11, Try.ntmps11
      go_wp2_with fail
      refine (HS.out _).mono ?_
      rintro e w1 ⟨rfl, hb⟩
      rw [HV.out]
      obtain ⟨hn0, hb1, z1⟩ := nw1 hb
      have HA0 := Lib.hid hn0
      have B1 := Lib.hid hb1
      clear hb hb1 hn0
      go_wp2_with fail
      refine (HM.out _).mono ?_
      rintro e w2 ⟨rfl, hb⟩
      have HA1 := Lib.hid ((hb.block _ (by omega)).trans HA0.out)
      have B2 := Lib.hid (B1.out.trans (hb.mono B1.out.size))
      have a1 := blkc HA1.out 1 rfl
      have a2 := blkc HA1.out 2 rfl
      clear hb
      go_wp2
      go_ret
      exact ⟨by rw [HR.out]; rfl, B2.out⟩
  · have k1 : (f.k == 1) = false := by simp [h1]
    by_cases h2 : f.k = 2
    · have k2 : (f.k == 2) = true := by simp [h2]
      have HV : Hid (stmtV f = .iface 94 (.agg #[.int .i64 f.a, .int .i64 f.s])) := (show _ = _ from by simp [stmtV, h2])
      have HM := Lib.hid (fun W => givenValid_any f.a f.s W)
      by_cases hv : BlkGood f.a f.s
      · rw [decide_eq_true hv] at HM
        by_cases hw : IsWarp f.i
        · rw [decide_eq_true hw] at HW
          by_cases hl : 0 ≤ f.l
          · by_cases hl2 : f.l < 8
            · have HR : Hid (decide (FactGood f) = true) := decide_eq_true ⟨.inr (.inl ⟨h2, hv⟩), hw, hl, hl2⟩
              clear hv hw h1 h2
              go_enter Try.func11, Try.ntmps11
              go_wp2_with fail
              refine (HS.out _).mono ?_
              rintro e w1 ⟨rfl, hb⟩
              rw [HV.out]
              obtain ⟨hn0, hb1, z1⟩ := nw1 hb
              have HA0 := Lib.hid hn0
              have B1 := Lib.hid hb1
              clear hb hb1 hn0
              go_wp2_with fail
              refine (HM.out _).mono ?_
              rintro e w2 ⟨rfl, hb⟩
              have HA1 := Lib.hid ((hb.block _ (by omega)).trans HA0.out)
              have B2 := Lib.hid (B1.out.trans (hb.mono B1.out.size))
              have a1 := blkc HA1.out 1 rfl
              have a2 := blkc HA1.out 2 rfl
              clear hb
              go_wp2_with fail
              refine (HW.out _).mono ?_
              rintro e w3 ⟨rfl, rfl⟩
              go_wp2
              go_ret
              exact ⟨by rw [HR.out]; rfl, B2.out⟩
            · have HR : Hid (decide (FactGood f) = false) := decide_eq_false (fun g => hl2 g.2.2.2)
              have e8 : decide (f.l < 8) = false := decide_eq_false hl2
              clear hv hw h1 h2
              go_enter Try.func11, Try.ntmps11
              go_wp2_with fail
              refine (HS.out _).mono ?_
              rintro e w1 ⟨rfl, hb⟩
              rw [HV.out]
              obtain ⟨hn0, hb1, z1⟩ := nw1 hb
              have HA0 := Lib.hid hn0
              have B1 := Lib.hid hb1
              clear hb hb1 hn0
              go_wp2_with fail
              refine (HM.out _).mono ?_
              rintro e w2 ⟨rfl, hb⟩
              have HA1 := Lib.hid ((hb.block _ (by omega)).trans HA0.out)
              have B2 := Lib.hid (B1.out.trans (hb.mono B1.out.size))
              have a1 := blkc HA1.out 1 rfl
              have a2 := blkc HA1.out 2 rfl
              clear hb
              go_wp2_with fail
              refine (HW.out _).mono ?_
              rintro e w3 ⟨rfl, rfl⟩
              go_wp2
              go_ret
              exact ⟨by rw [HR.out]; first | rfl | (show Ending.returned (Value.bool (decide (f.l < 8))) = _; rw [e8]), B2.out⟩
          · have HR : Hid (decide (FactGood f) = false) := decide_eq_false (fun g => hl g.2.2.1)
            clear hv hw h1 h2
            go_enter Try.func11, Try.ntmps11
            go_wp2_with fail
            refine (HS.out _).mono ?_
            rintro e w1 ⟨rfl, hb⟩
            rw [HV.out]
            obtain ⟨hn0, hb1, z1⟩ := nw1 hb
            have HA0 := Lib.hid hn0
            have B1 := Lib.hid hb1
            clear hb hb1 hn0
            go_wp2_with fail
            refine (HM.out _).mono ?_
            rintro e w2 ⟨rfl, hb⟩
            have HA1 := Lib.hid ((hb.block _ (by omega)).trans HA0.out)
            have B2 := Lib.hid (B1.out.trans (hb.mono B1.out.size))
            have a1 := blkc HA1.out 1 rfl
            have a2 := blkc HA1.out 2 rfl
            clear hb
            go_wp2_with fail
            refine (HW.out _).mono ?_
            rintro e w3 ⟨rfl, rfl⟩
            go_wp2
            go_ret
            exact ⟨by rw [HR.out]; rfl, B2.out⟩
        · rw [decide_eq_false hw] at HW
          have HR : Hid (decide (FactGood f) = false) := decide_eq_false (fun g => hw g.2.1)
          clear hv hw h1 h2
          go_enter Try.func11, Try.ntmps11
          go_wp2_with fail
          refine (HS.out _).mono ?_
          rintro e w1 ⟨rfl, hb⟩
          rw [HV.out]
          obtain ⟨hn0, hb1, z1⟩ := nw1 hb
          have HA0 := Lib.hid hn0
          have B1 := Lib.hid hb1
          clear hb hb1 hn0
          go_wp2_with fail
          refine (HM.out _).mono ?_
          rintro e w2 ⟨rfl, hb⟩
          have HA1 := Lib.hid ((hb.block _ (by omega)).trans HA0.out)
          have B2 := Lib.hid (B1.out.trans (hb.mono B1.out.size))
          have a1 := blkc HA1.out 1 rfl
          have a2 := blkc HA1.out 2 rfl
          clear hb
          go_wp2_with fail
          refine (HW.out _).mono ?_
          rintro e w3 ⟨rfl, rfl⟩
          go_wp2
          go_ret
          exact ⟨by rw [HR.out]; rfl, B2.out⟩
      · rw [decide_eq_false hv] at HM
        have HR : Hid (decide (FactGood f) = false) := decide_eq_false (fun g => by rcases g.1 with g | g | g | g <;> (first | omega | exact hv g.2))
        clear hv h1 h2
        go_enter Try.func11, Try.ntmps11
        go_wp2_with fail
        refine (HS.out _).mono ?_
        rintro e w1 ⟨rfl, hb⟩
        rw [HV.out]
        obtain ⟨hn0, hb1, z1⟩ := nw1 hb
        have HA0 := Lib.hid hn0
        have B1 := Lib.hid hb1
        clear hb hb1 hn0
        go_wp2_with fail
        refine (HM.out _).mono ?_
        rintro e w2 ⟨rfl, hb⟩
        have HA1 := Lib.hid ((hb.block _ (by omega)).trans HA0.out)
        have B2 := Lib.hid (B1.out.trans (hb.mono B1.out.size))
        have a1 := blkc HA1.out 1 rfl
        have a2 := blkc HA1.out 2 rfl
        clear hb
        go_wp2
        go_ret
        exact ⟨by rw [HR.out]; rfl, B2.out⟩
    · have k2 : (f.k == 2) = false := by simp [h2]
      by_cases h3 : f.k = 3
      · have k3 : (f.k == 3) = true := by simp [h3]
        have HV : Hid (stmtV f = .iface 95 (.agg #[.int .i64 f.a, .int .i64 f.s])) := (show _ = _ from by simp [stmtV, h3])
        have HM := Lib.hid (fun W => refusedValid_any f.a f.s W)
        by_cases hv : RefGood f.a f.s
        · rw [decide_eq_true hv] at HM
          by_cases hw : IsWarp f.i
          · rw [decide_eq_true hw] at HW
            by_cases hl : 0 ≤ f.l
            · by_cases hl2 : f.l < 8
              · have HR : Hid (decide (FactGood f) = true) := decide_eq_true ⟨.inr (.inr (.inl ⟨h3, hv⟩)), hw, hl, hl2⟩
                clear hv hw h1 h2 h3
                go_enter Try.func11, Try.ntmps11
                go_wp2_with fail
                refine (HS.out _).mono ?_
                rintro e w1 ⟨rfl, hb⟩
                rw [HV.out]
                obtain ⟨hn0, hb1, z1⟩ := nw1 hb
                have HA0 := Lib.hid hn0
                have B1 := Lib.hid hb1
                clear hb hb1 hn0
                go_wp2_with fail
                refine (HM.out _).mono ?_
                rintro e w2 ⟨rfl, hb⟩
                have HA1 := Lib.hid ((hb.block _ (by omega)).trans HA0.out)
                have B2 := Lib.hid (B1.out.trans (hb.mono B1.out.size))
                have a1 := blkc HA1.out 1 rfl
                have a2 := blkc HA1.out 2 rfl
                clear hb
                go_wp2_with fail
                refine (HW.out _).mono ?_
                rintro e w3 ⟨rfl, rfl⟩
                go_wp2
                go_ret
                exact ⟨by rw [HR.out]; rfl, B2.out⟩
              · have HR : Hid (decide (FactGood f) = false) := decide_eq_false (fun g => hl2 g.2.2.2)
                have e8 : decide (f.l < 8) = false := decide_eq_false hl2
                clear hv hw h1 h2 h3
                go_enter Try.func11, Try.ntmps11
                go_wp2_with fail
                refine (HS.out _).mono ?_
                rintro e w1 ⟨rfl, hb⟩
                rw [HV.out]
                obtain ⟨hn0, hb1, z1⟩ := nw1 hb
                have HA0 := Lib.hid hn0
                have B1 := Lib.hid hb1
                clear hb hb1 hn0
                go_wp2_with fail
                refine (HM.out _).mono ?_
                rintro e w2 ⟨rfl, hb⟩
                have HA1 := Lib.hid ((hb.block _ (by omega)).trans HA0.out)
                have B2 := Lib.hid (B1.out.trans (hb.mono B1.out.size))
                have a1 := blkc HA1.out 1 rfl
                have a2 := blkc HA1.out 2 rfl
                clear hb
                go_wp2_with fail
                refine (HW.out _).mono ?_
                rintro e w3 ⟨rfl, rfl⟩
                go_wp2
                go_ret
                exact ⟨by rw [HR.out]; first | rfl | (show Ending.returned (Value.bool (decide (f.l < 8))) = _; rw [e8]), B2.out⟩
            · have HR : Hid (decide (FactGood f) = false) := decide_eq_false (fun g => hl g.2.2.1)
              clear hv hw h1 h2 h3
              go_enter Try.func11, Try.ntmps11
              go_wp2_with fail
              refine (HS.out _).mono ?_
              rintro e w1 ⟨rfl, hb⟩
              rw [HV.out]
              obtain ⟨hn0, hb1, z1⟩ := nw1 hb
              have HA0 := Lib.hid hn0
              have B1 := Lib.hid hb1
              clear hb hb1 hn0
              go_wp2_with fail
              refine (HM.out _).mono ?_
              rintro e w2 ⟨rfl, hb⟩
              have HA1 := Lib.hid ((hb.block _ (by omega)).trans HA0.out)
              have B2 := Lib.hid (B1.out.trans (hb.mono B1.out.size))
              have a1 := blkc HA1.out 1 rfl
              have a2 := blkc HA1.out 2 rfl
              clear hb
              go_wp2_with fail
              refine (HW.out _).mono ?_
              rintro e w3 ⟨rfl, rfl⟩
              go_wp2
              go_ret
              exact ⟨by rw [HR.out]; rfl, B2.out⟩
          · rw [decide_eq_false hw] at HW
            have HR : Hid (decide (FactGood f) = false) := decide_eq_false (fun g => hw g.2.1)
            clear hv hw h1 h2 h3
            go_enter Try.func11, Try.ntmps11
            go_wp2_with fail
            refine (HS.out _).mono ?_
            rintro e w1 ⟨rfl, hb⟩
            rw [HV.out]
            obtain ⟨hn0, hb1, z1⟩ := nw1 hb
            have HA0 := Lib.hid hn0
            have B1 := Lib.hid hb1
            clear hb hb1 hn0
            go_wp2_with fail
            refine (HM.out _).mono ?_
            rintro e w2 ⟨rfl, hb⟩
            have HA1 := Lib.hid ((hb.block _ (by omega)).trans HA0.out)
            have B2 := Lib.hid (B1.out.trans (hb.mono B1.out.size))
            have a1 := blkc HA1.out 1 rfl
            have a2 := blkc HA1.out 2 rfl
            clear hb
            go_wp2_with fail
            refine (HW.out _).mono ?_
            rintro e w3 ⟨rfl, rfl⟩
            go_wp2
            go_ret
            exact ⟨by rw [HR.out]; rfl, B2.out⟩
        · rw [decide_eq_false hv] at HM
          have HR : Hid (decide (FactGood f) = false) := decide_eq_false (fun g => by rcases g.1 with g | g | g | g <;> (first | omega | exact hv g.2))
          clear hv h1 h2 h3
          go_enter Try.func11, Try.ntmps11
          go_wp2_with fail
          refine (HS.out _).mono ?_
          rintro e w1 ⟨rfl, hb⟩
          rw [HV.out]
          obtain ⟨hn0, hb1, z1⟩ := nw1 hb
          have HA0 := Lib.hid hn0
          have B1 := Lib.hid hb1
          clear hb hb1 hn0
          go_wp2_with fail
          refine (HM.out _).mono ?_
          rintro e w2 ⟨rfl, hb⟩
          have HA1 := Lib.hid ((hb.block _ (by omega)).trans HA0.out)
          have B2 := Lib.hid (B1.out.trans (hb.mono B1.out.size))
          have a1 := blkc HA1.out 1 rfl
          have a2 := blkc HA1.out 2 rfl
          clear hb
          go_wp2
          go_ret
          exact ⟨by rw [HR.out]; rfl, B2.out⟩
      · have k3 : (f.k == 3) = false := by simp [h3]
        by_cases h4 : f.k = 4
        · have k4 : (f.k == 4) = true := by simp [h4]
          have HV : Hid (stmtV f = .iface 96 (.agg #[.int .i64 f.a, .int .i64 f.s])) := (show _ = _ from by simp [stmtV, h4])
          have HM := Lib.hid (fun W => wrongValid_any f.a f.s W)
          by_cases hv : WrgGood f.a f.s
          · rw [decide_eq_true hv] at HM
            by_cases hw : IsWarp f.i
            · rw [decide_eq_true hw] at HW
              by_cases hl : 0 ≤ f.l
              · by_cases hl2 : f.l < 8
                · have HR : Hid (decide (FactGood f) = true) := decide_eq_true ⟨.inr (.inr (.inr ⟨h4, hv⟩)), hw, hl, hl2⟩
                  clear hv hw h1 h2 h3 h4
                  go_enter Try.func11, Try.ntmps11
                  go_wp2_with fail
                  refine (HS.out _).mono ?_
                  rintro e w1 ⟨rfl, hb⟩
                  rw [HV.out]
                  obtain ⟨hn0, hb1, z1⟩ := nw1 hb
                  have HA0 := Lib.hid hn0
                  have B1 := Lib.hid hb1
                  clear hb hb1 hn0
                  go_wp2_with fail
                  refine (HM.out _).mono ?_
                  rintro e w2 ⟨rfl, hb⟩
                  have HA1 := Lib.hid ((hb.block _ (by omega)).trans HA0.out)
                  have B2 := Lib.hid (B1.out.trans (hb.mono B1.out.size))
                  have a1 := blkc HA1.out 1 rfl
                  have a2 := blkc HA1.out 2 rfl
                  clear hb
                  go_wp2_with fail
                  refine (HW.out _).mono ?_
                  rintro e w3 ⟨rfl, rfl⟩
                  go_wp2
                  go_ret
                  exact ⟨by rw [HR.out]; rfl, B2.out⟩
                · have HR : Hid (decide (FactGood f) = false) := decide_eq_false (fun g => hl2 g.2.2.2)
                  have e8 : decide (f.l < 8) = false := decide_eq_false hl2
                  clear hv hw h1 h2 h3 h4
                  go_enter Try.func11, Try.ntmps11
                  go_wp2_with fail
                  refine (HS.out _).mono ?_
                  rintro e w1 ⟨rfl, hb⟩
                  rw [HV.out]
                  obtain ⟨hn0, hb1, z1⟩ := nw1 hb
                  have HA0 := Lib.hid hn0
                  have B1 := Lib.hid hb1
                  clear hb hb1 hn0
                  go_wp2_with fail
                  refine (HM.out _).mono ?_
                  rintro e w2 ⟨rfl, hb⟩
                  have HA1 := Lib.hid ((hb.block _ (by omega)).trans HA0.out)
                  have B2 := Lib.hid (B1.out.trans (hb.mono B1.out.size))
                  have a1 := blkc HA1.out 1 rfl
                  have a2 := blkc HA1.out 2 rfl
                  clear hb
                  go_wp2_with fail
                  refine (HW.out _).mono ?_
                  rintro e w3 ⟨rfl, rfl⟩
                  go_wp2
                  go_ret
                  exact ⟨by rw [HR.out]; first | rfl | (show Ending.returned (Value.bool (decide (f.l < 8))) = _; rw [e8]), B2.out⟩
              · have HR : Hid (decide (FactGood f) = false) := decide_eq_false (fun g => hl g.2.2.1)
                clear hv hw h1 h2 h3 h4
                go_enter Try.func11, Try.ntmps11
                go_wp2_with fail
                refine (HS.out _).mono ?_
                rintro e w1 ⟨rfl, hb⟩
                rw [HV.out]
                obtain ⟨hn0, hb1, z1⟩ := nw1 hb
                have HA0 := Lib.hid hn0
                have B1 := Lib.hid hb1
                clear hb hb1 hn0
                go_wp2_with fail
                refine (HM.out _).mono ?_
                rintro e w2 ⟨rfl, hb⟩
                have HA1 := Lib.hid ((hb.block _ (by omega)).trans HA0.out)
                have B2 := Lib.hid (B1.out.trans (hb.mono B1.out.size))
                have a1 := blkc HA1.out 1 rfl
                have a2 := blkc HA1.out 2 rfl
                clear hb
                go_wp2_with fail
                refine (HW.out _).mono ?_
                rintro e w3 ⟨rfl, rfl⟩
                go_wp2
                go_ret
                exact ⟨by rw [HR.out]; rfl, B2.out⟩
            · rw [decide_eq_false hw] at HW
              have HR : Hid (decide (FactGood f) = false) := decide_eq_false (fun g => hw g.2.1)
              clear hv hw h1 h2 h3 h4
              go_enter Try.func11, Try.ntmps11
              go_wp2_with fail
              refine (HS.out _).mono ?_
              rintro e w1 ⟨rfl, hb⟩
              rw [HV.out]
              obtain ⟨hn0, hb1, z1⟩ := nw1 hb
              have HA0 := Lib.hid hn0
              have B1 := Lib.hid hb1
              clear hb hb1 hn0
              go_wp2_with fail
              refine (HM.out _).mono ?_
              rintro e w2 ⟨rfl, hb⟩
              have HA1 := Lib.hid ((hb.block _ (by omega)).trans HA0.out)
              have B2 := Lib.hid (B1.out.trans (hb.mono B1.out.size))
              have a1 := blkc HA1.out 1 rfl
              have a2 := blkc HA1.out 2 rfl
              clear hb
              go_wp2_with fail
              refine (HW.out _).mono ?_
              rintro e w3 ⟨rfl, rfl⟩
              go_wp2
              go_ret
              exact ⟨by rw [HR.out]; rfl, B2.out⟩
          · rw [decide_eq_false hv] at HM
            have HR : Hid (decide (FactGood f) = false) := decide_eq_false (fun g => by rcases g.1 with g | g | g | g <;> (first | omega | exact hv g.2))
            clear hv h1 h2 h3 h4
            go_enter Try.func11, Try.ntmps11
            go_wp2_with fail
            refine (HS.out _).mono ?_
            rintro e w1 ⟨rfl, hb⟩
            rw [HV.out]
            obtain ⟨hn0, hb1, z1⟩ := nw1 hb
            have HA0 := Lib.hid hn0
            have B1 := Lib.hid hb1
            clear hb hb1 hn0
            go_wp2_with fail
            refine (HM.out _).mono ?_
            rintro e w2 ⟨rfl, hb⟩
            have HA1 := Lib.hid ((hb.block _ (by omega)).trans HA0.out)
            have B2 := Lib.hid (B1.out.trans (hb.mono B1.out.size))
            have a1 := blkc HA1.out 1 rfl
            have a2 := blkc HA1.out 2 rfl
            clear hb
            go_wp2
            go_ret
            exact ⟨by rw [HR.out]; rfl, B2.out⟩
        · have k4 : (f.k == 4) = false := by simp [h4]
          have HV : Hid (stmtV f = .nilIface) := (show _ = _ from by simp [stmtV, h1, h2, h3, h4])
          have HR : Hid (decide (FactGood f) = false) := decide_eq_false (fun g => by rcases g.1 with g | g | g | g <;> omega)
          clear h1 h2 h3 h4
          go_enter Try.func11, Try.ntmps11
          go_wp2_with fail
          refine (HS.out _).mono ?_
          rintro e w1 ⟨rfl, hb⟩
          rw [HV.out]
          obtain ⟨hn0, hb1, z1⟩ := nw1 hb
          have HA0 := Lib.hid hn0
          have B1 := Lib.hid hb1
          clear hb hb1 hn0
          go_wp2
          go_ret
          exact ⟨by rw [HR.out]; rfl, B1.out⟩

end Go.Proofs.Ythcchnaoenjhlaa
