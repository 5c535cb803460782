/- EventOk of the program and of the model, and the laws' own functions over events. -/
import Derived.Test.YtooegpebimpjcaaIReq
import Derived.Test.YtooegpebimpjcaaIStart
import Derived.Test.YtooegpebimpjcaaLawR
import Derived.Test.YtooegpebimpjcaaIWarp
import Derived.Test.YtooegpebimpjcaaNewB
namespace Go.Proofs.Ytooegpebimpjcaa
open Go.RowKit
set_option linter.unusedVariables false

/-- A valid event. -/
def EvGood (ek ew en rk : Int) (zs : List Int) : Prop := (ek = 1 ∧ IsWarp ew ∧ en = 0 ∧ ReqGood rk zs) ∨ (ek = 2 ∧ IsWarp ew ∧ en = 0 ∧ rk = 0 ∧ zs.length = 0) ∨ (ek = 3 ∧ ew = 0 ∧ 1 ≤ en ∧ en ≤ 16 ∧ rk = 0 ∧ zs.length = 0)
instance (ek ew en rk : Int) (zs : List Int) : Decidable (EvGood ek ew en rk zs) := inferInstanceAs (Decidable (_ ∨ _))

/-- The zero request. -/
def NoReq (rk : Int) (n : Nat) : Prop := rk = 0 ∧ n = 0
instance (rk : Int) (n : Nat) : Decidable (NoReq rk n) := inferInstanceAs (Decidable (_ ∧ _))

set_option maxHeartbeats 400000 in
theorem isZero_any (rk : Int) (A : Option Addr) (n c : Nat) (w : World) :
    Calls Try.prog 75 #[.agg #[.int .i64 rk, .slice A n c]] w fun e w' => e = .returned (.bool (decide (NoReq rk n))) ∧ Below w.heap.size w w' := by
  by_cases h0 : rk = 0
  · have h1 : (rk == 0) = true := by simp [h0]
    by_cases h2 : n = 0
    · have hd : Hid (decide (NoReq rk n) = true) := decide_eq_true ⟨h0, h2⟩
      have h3 : ((n : Int) == 0) = true := by simp [h2]
      clear h0 h2
      go_enter Try.func75, Try.ntmps75
      go_wp2
      go_ret
      exact ⟨by rw [hd.out]; rfl, bel1 _ _⟩
    · have hd : Hid (decide (NoReq rk n) = false) := decide_eq_false (fun h => h2 h.2)
      have h3 : ((n : Int) == 0) = false := by simp; omega
      clear h0 h2
      go_enter Try.func75, Try.ntmps75
      go_wp2
      go_ret
      exact ⟨by rw [hd.out]; rfl, bel1 _ _⟩
  · have hd : Hid (decide (NoReq rk n) = false) := decide_eq_false (fun h => h0 h.1)
    have h1 : (rk == 0) = false := by simpa using h0
    clear h0
    go_enter Try.func75, Try.ntmps75
    go_wp2
    go_ret
    exact ⟨by rw [hd.out]; rfl, bel1 _ _⟩

set_option maxRecDepth 100000 in
set_option maxHeartbeats 2000000 in
theorem eventOk_any (ek ew en rk : Int) (A : Option Addr) (n c B : Nat) (zs : List Int) (w : World) (h : RdK .i64 w B A n zs) (hB : B ≤ w.heap.size) (hm : n ≤ maxLen) :
    Calls Try.prog 36 #[.agg #[.int .i64 ek, .int .i64 ew, .int .i64 en, .int .i64 rk, .slice A n c]] w fun e w' => e = .returned (.bool (decide (EvGood ek ew en rk zs))) ∧ Below w.heap.size w w' := by
  have hl := h.1
  have HB0 : Hid (Below w.heap.size w (w.alloc (.cells #[.int .i64 ek, .int .i64 ew, .int .i64 en, .int .i64 rk, .slice A n c] 70))) := bel1 w _
  have HW := Lib.hid (fun W => isWarp_any ew W)
  have HQ : Hid (∀ W, Below w.heap.size w W → Calls Try.prog 54 #[.agg #[.int .i64 rk, .slice A n c]] W fun e w' => e = .returned (.bool (decide (ReqGood rk zs))) ∧ Below W.heap.size W w') := fun W hb => reqOk_any rk A n c B zs W (h.below (hb.mono hB)) (Nat.le_trans hB hb.size) hm
  have HZ := Lib.hid (fun W => isZero_any rk A n c W)
  clear h hm
  by_cases h1 : ek = 1
  · have k1 : (ek == 1) = true := by simp [h1]
    by_cases h2 : IsWarp ew
    · have k2 : decide (IsWarp ew) = true := decide_eq_true h2
      by_cases h3 : en = 0
      · have k3 : (en == 0) = true := by simp [h3]
        have HR : Hid (decide (EvGood ek ew en rk zs) = decide (ReqGood rk zs)) := decide_eq_decide.2 (by unfold EvGood; constructor; (intro g; rcases g with g | g | g; (exact g.2.2.2); omega; omega); (intro g; exact .inl ⟨h1, h2, h3, g⟩))
        clear h1 h2 h3 hl hB
        go_enter Try.func36, Try.ntmps36
        go_wp2_with fail
        refine (HW.out _).mono ?_
        rintro e w1 ⟨rfl, rfl⟩
        go_wp2_with fail
        refine (HQ.out _ HB0.out).mono ?_
        rintro e w1 ⟨rfl, hb⟩
        have B1 := Lib.hid (HB0.out.trans (hb.mono HB0.out.size))
        clear hb
        go_wp2
        go_ret
        exact ⟨by rw [HR.out]; rfl, B1.out⟩
      · have k3 : (en == 0) = false := by simpa using h3
        have HR : Hid (decide (EvGood ek ew en rk zs) = false) := decide_eq_false (fun g => by unfold EvGood at g; rcases g with g | g | g <;> omega)
        clear h1 h2 h3 hl hB
        go_enter Try.func36, Try.ntmps36
        go_wp2_with fail
        refine (HW.out _).mono ?_
        rintro e w1 ⟨rfl, rfl⟩
        go_wp2
        go_ret
        exact ⟨by rw [HR.out]; rfl, HB0.out⟩
    · have k2 : decide (IsWarp ew) = false := decide_eq_false h2
      have HR : Hid (decide (EvGood ek ew en rk zs) = false) := decide_eq_false (fun g => by unfold EvGood at g; rcases g with g | g | g <;> (first | omega | exact h2 g.2.1))
      clear h1 h2 hl hB
      go_enter Try.func36, Try.ntmps36
      go_wp2_with fail
      refine (HW.out _).mono ?_
      rintro e w1 ⟨rfl, rfl⟩
      go_wp2
      go_ret
      exact ⟨by rw [HR.out]; rfl, HB0.out⟩
  · have k1 : (ek == 1) = false := by simpa using h1
    by_cases h4 : ek = 2
    · have k4 : (ek == 2) = true := by simp [h4]
      by_cases h2 : IsWarp ew
      · have k2 : decide (IsWarp ew) = true := decide_eq_true h2
        by_cases h3 : en = 0
        · have k3 : (en == 0) = true := by simp [h3]
          have HR : Hid (decide (EvGood ek ew en rk zs) = decide (NoReq rk n)) := decide_eq_decide.2 (by unfold EvGood; constructor; (intro g; rcases g with g | g | g; omega; (exact ⟨g.2.2.2.1, by omega⟩); omega); (intro g; exact .inr (.inl ⟨h4, h2, h3, g.1, by have := g.2; omega⟩)))
          clear h1 h2 h3 h4 hl hB
          go_enter Try.func36, Try.ntmps36
          go_wp2_with fail
          refine (HW.out _).mono ?_
          rintro e w1 ⟨rfl, rfl⟩
          go_wp2_with fail
          refine (HZ.out _).mono ?_
          rintro e w1 ⟨rfl, hb⟩
          have B1 := Lib.hid (HB0.out.trans (hb.mono HB0.out.size))
          clear hb
          go_wp2
          go_ret
          exact ⟨by rw [HR.out]; rfl, B1.out⟩
        · have k3 : (en == 0) = false := by simpa using h3
          have HR : Hid (decide (EvGood ek ew en rk zs) = false) := decide_eq_false (fun g => by unfold EvGood at g; rcases g with g | g | g <;> omega)
          clear h1 h2 h3 h4 hl hB
          go_enter Try.func36, Try.ntmps36
          go_wp2_with fail
          refine (HW.out _).mono ?_
          rintro e w1 ⟨rfl, rfl⟩
          go_wp2
          go_ret
          exact ⟨by rw [HR.out]; rfl, HB0.out⟩
      · have k2 : decide (IsWarp ew) = false := decide_eq_false h2
        have HR : Hid (decide (EvGood ek ew en rk zs) = false) := decide_eq_false (fun g => by unfold EvGood at g; rcases g with g | g | g <;> (first | omega | exact h2 g.2.1))
        clear h1 h2 h4 hl hB
        go_enter Try.func36, Try.ntmps36
        go_wp2_with fail
        refine (HW.out _).mono ?_
        rintro e w1 ⟨rfl, rfl⟩
        go_wp2
        go_ret
        exact ⟨by rw [HR.out]; rfl, HB0.out⟩
    · have k4 : (ek == 2) = false := by simpa using h4
      by_cases h5 : ek = 3
      · have k5 : (ek == 3) = true := by simp [h5]
        by_cases h6 : ew = 0
        · have k6 : (ew == 0) = true := by simp [h6]
          by_cases h7 : 1 ≤ en
          · by_cases h8 : en ≤ 16
            · have h9 := True.intro
              have HR : Hid (decide (EvGood ek ew en rk zs) = decide (NoReq rk n)) := decide_eq_decide.2 (by unfold EvGood; constructor; (intro g; rcases g with g | g | g; omega; omega; (exact ⟨g.2.2.2.2.1, by omega⟩)); (intro g; exact .inr (.inr ⟨h5, h6, h7, h8, g.1, by have := g.2; omega⟩)))
              clear h1 h4 h5 h6 h9 hl hB
              go_enter Try.func36, Try.ntmps36
              go_wp2_with fail
              refine (HZ.out _).mono ?_
              rintro e w1 ⟨rfl, hb⟩
              have B1 := Lib.hid (HB0.out.trans (hb.mono HB0.out.size))
              clear hb
              go_wp2
              go_ret
              exact ⟨by rw [HR.out]; rfl, B1.out⟩
            · have h8b : 16 < en := by omega
              have HR : Hid (decide (EvGood ek ew en rk zs) = false) := decide_eq_false (fun g => by unfold EvGood at g; rcases g with g | g | g <;> omega)
              clear h1 h4 h5 h6 hl hB
              go_enter Try.func36, Try.ntmps36
              go_wp2
              go_ret
              exact ⟨by rw [HR.out]; rfl, HB0.out⟩
          · have h7b : en < 1 := by omega
            have HR : Hid (decide (EvGood ek ew en rk zs) = false) := decide_eq_false (fun g => by unfold EvGood at g; rcases g with g | g | g <;> omega)
            clear h1 h4 h5 h6 hl hB
            go_enter Try.func36, Try.ntmps36
            go_wp2
            go_ret
            exact ⟨by rw [HR.out]; rfl, HB0.out⟩
        · have k6 : (ew == 0) = false := by simpa using h6
          have HR : Hid (decide (EvGood ek ew en rk zs) = false) := decide_eq_false (fun g => by unfold EvGood at g; rcases g with g | g | g <;> omega)
          clear h1 h4 h5 h6 hl hB
          go_enter Try.func36, Try.ntmps36
          go_wp2
          go_ret
          exact ⟨by rw [HR.out]; rfl, HB0.out⟩
      · have k5 : (ek == 3) = false := by simpa using h5
        have HR : Hid (decide (EvGood ek ew en rk zs) = false) := decide_eq_false (fun g => by unfold EvGood at g; rcases g with g | g | g <;> omega)
        clear h1 h4 h5 hl hB
        go_enter Try.func36, Try.ntmps36
        go_wp2
        go_ret
        exact ⟨by rw [HR.out]; rfl, HB0.out⟩

set_option maxRecDepth 100000 in
set_option maxHeartbeats 2000000 in
theorem sEventOk_any (ek ew en rk : Int) (A : Option Addr) (n c B : Nat) (zs : List Int) (w : World) (h : RdK .i64 w B A n zs) (hB : B ≤ w.heap.size) (hm : n ≤ maxLen) :
    Calls Try.prog 34 #[.agg #[.int .i64 ek, .int .i64 ew, .int .i64 en, .int .i64 rk, .slice A n c]] w fun e w' => e = .returned (.bool (decide (EvGood ek ew en rk zs))) ∧ Below w.heap.size w w' := by
  have hl := h.1
  have HB0 : Hid (Below w.heap.size w (w.alloc (.cells #[.int .i64 ek, .int .i64 ew, .int .i64 en, .int .i64 rk, .slice A n c] 70))) := bel1 w _
  have HQ : Hid (∀ W, Below w.heap.size w W → Calls Try.prog 48 #[.agg #[.int .i64 rk, .slice A n c]] W fun e w' => e = .returned (.bool (decide (ReqGood rk zs))) ∧ Below W.heap.size W w') := fun W hb => sReqOk_any rk A n c B zs W (h.below (hb.mono hB)) (Nat.le_trans hB hb.size) hm
  clear h hm
  by_cases g0 : rk = 0
  · have j0 : (rk == 0) = true := by simp [g0]
    by_cases g1 : n = 0
    · have j1 : ((n : Int) == 0) = true := by simp [g1]
      by_cases g2 : 0 ≤ ew
      · by_cases g3 : ew < 4
        · have g4 := True.intro
          by_cases h1 : ek = 1
          · have k1 : (ek == 1) = true := by simp [h1]
            by_cases h3 : en = 0
            · have k3 : (en == 0) = true := by simp [h3]
              have HR : Hid (decide (EvGood ek ew en rk zs) = decide (ReqGood rk zs)) := decide_eq_decide.2 (by unfold EvGood; constructor; (intro g; rcases g with g | g | g; (exact g.2.2.2); omega; omega); (intro g; exact .inl ⟨h1, ⟨g2, g3⟩, h3, g⟩))
              clear hl hB g0 g1 g4 h1 h3
              go_enter Try.func34, Try.ntmps34
              go_wp2_with fail
              refine (HQ.out _ HB0.out).mono ?_
              rintro e w1 ⟨rfl, hb⟩
              have B1 := Lib.hid (HB0.out.trans (hb.mono HB0.out.size))
              clear hb
              go_wp2
              go_ret
              exact ⟨by rw [HR.out]; rfl, B1.out⟩
            · have k3 : (en == 0) = false := by simpa using h3
              have HR : Hid (decide (EvGood ek ew en rk zs) = false) := decide_eq_false (fun g => by unfold EvGood at g; rcases g with g | g | g <;> omega)
              clear hl hB g0 g1 g4 h1 h3
              go_enter Try.func34, Try.ntmps34
              go_wp2
              go_ret
              exact ⟨by rw [HR.out]; rfl, HB0.out⟩
          · have k1 : (ek == 1) = false := by simpa using h1
            by_cases h4 : ek = 2
            · have k4 : (ek == 2) = true := by simp [h4]
              by_cases h3 : en = 0
              · have k3 : (en == 0) = true := by simp [h3]
                have HR : Hid (decide (EvGood ek ew en rk zs) = true) := decide_eq_true (.inr (.inl ⟨h4, ⟨g2, g3⟩, h3, g0, by omega⟩))
                clear hl hB g0 g1 g4 h1 h3 h4
                go_enter Try.func34, Try.ntmps34
                go_wp2
                go_ret
                exact ⟨by rw [HR.out]; rfl, HB0.out⟩
              · have k3 : (en == 0) = false := by simpa using h3
                have HR : Hid (decide (EvGood ek ew en rk zs) = false) := decide_eq_false (fun g => by unfold EvGood at g; rcases g with g | g | g <;> omega)
                clear hl hB g0 g1 g4 h1 h3 h4
                go_enter Try.func34, Try.ntmps34
                go_wp2
                go_ret
                exact ⟨by rw [HR.out]; rfl, HB0.out⟩
            · have k4 : (ek == 2) = false := by simpa using h4
              by_cases h5 : ek = 3
              · have k5 : (ek == 3) = true := by simp [h5]
                by_cases h6 : ew = 0
                · have k6 : (ew == 0) = true := by simp [h6]
                  by_cases h7 : 1 ≤ en
                  · by_cases h8 : en ≤ 16
                    · have h9 := True.intro
                      have HR : Hid (decide (EvGood ek ew en rk zs) = true) := decide_eq_true (.inr (.inr ⟨h5, h6, h7, h8, g0, by omega⟩))
                      clear hl hB g0 g1 g4 h1 h4 h5 h6 h9
                      go_enter Try.func34, Try.ntmps34
                      go_wp2
                      go_ret
                      exact ⟨by rw [HR.out]; rfl, HB0.out⟩
                    · have h8b : 16 < en := by omega
                      have HR : Hid (decide (EvGood ek ew en rk zs) = false) := decide_eq_false (fun g => by unfold EvGood at g; rcases g with g | g | g <;> omega)
                      clear hl hB g0 g1 g4 h1 h4 h5 h6
                      go_enter Try.func34, Try.ntmps34
                      go_wp2
                      go_ret
                      exact ⟨by rw [HR.out]; rfl, HB0.out⟩
                  · have h7b : en < 1 := by omega
                    have HR : Hid (decide (EvGood ek ew en rk zs) = false) := decide_eq_false (fun g => by unfold EvGood at g; rcases g with g | g | g <;> omega)
                    clear hl hB g0 g1 g4 h1 h4 h5 h6
                    go_enter Try.func34, Try.ntmps34
                    go_wp2
                    go_ret
                    exact ⟨by rw [HR.out]; rfl, HB0.out⟩
                · have k6 : (ew == 0) = false := by simpa using h6
                  have HR : Hid (decide (EvGood ek ew en rk zs) = false) := decide_eq_false (fun g => by unfold EvGood at g; rcases g with g | g | g <;> omega)
                  clear hl hB g0 g1 g4 h1 h4 h5 h6
                  go_enter Try.func34, Try.ntmps34
                  go_wp2
                  go_ret
                  exact ⟨by rw [HR.out]; rfl, HB0.out⟩
              · have k5 : (ek == 3) = false := by simpa using h5
                have HR : Hid (decide (EvGood ek ew en rk zs) = false) := decide_eq_false (fun g => by unfold EvGood at g; rcases g with g | g | g <;> omega)
                clear hl hB g0 g1 g4 h1 h4 h5
                go_enter Try.func34, Try.ntmps34
                go_wp2
                go_ret
                exact ⟨by rw [HR.out]; rfl, HB0.out⟩
        · have g4 := True.intro
          by_cases h1 : ek = 1
          · have k1 : (ek == 1) = true := by simp [h1]
            have HR : Hid (decide (EvGood ek ew en rk zs) = false) := decide_eq_false (fun g => by unfold EvGood at g; rcases g with g | g | g <;> ((try unfold IsWarp at g); omega))
            clear hl hB g0 g1 g4 h1
            go_enter Try.func34, Try.ntmps34
            go_wp2
            go_ret
            exact ⟨by rw [HR.out]; rfl, HB0.out⟩
          · have k1 : (ek == 1) = false := by simpa using h1
            by_cases h4 : ek = 2
            · have k4 : (ek == 2) = true := by simp [h4]
              have HR : Hid (decide (EvGood ek ew en rk zs) = false) := decide_eq_false (fun g => by unfold EvGood at g; rcases g with g | g | g <;> ((try unfold IsWarp at g); omega))
              clear hl hB g0 g1 g4 h1 h4
              go_enter Try.func34, Try.ntmps34
              go_wp2
              go_ret
              exact ⟨by rw [HR.out]; rfl, HB0.out⟩
            · have k4 : (ek == 2) = false := by simpa using h4
              by_cases h5 : ek = 3
              · have k5 : (ek == 3) = true := by simp [h5]
                by_cases h6 : ew = 0
                · have k6 : (ew == 0) = true := by simp [h6]
                  by_cases h7 : 1 ≤ en
                  · by_cases h8 : en ≤ 16
                    · have h9 := True.intro
                      have HR : Hid (decide (EvGood ek ew en rk zs) = true) := decide_eq_true (.inr (.inr ⟨h5, h6, h7, h8, g0, by omega⟩))
                      clear hl hB g0 g1 g4 h1 h4 h5 h6 h9
                      go_enter Try.func34, Try.ntmps34
                      go_wp2
                      go_ret
                      exact ⟨by rw [HR.out]; rfl, HB0.out⟩
                    · have h8b : 16 < en := by omega
                      have HR : Hid (decide (EvGood ek ew en rk zs) = false) := decide_eq_false (fun g => by unfold EvGood at g; rcases g with g | g | g <;> omega)
                      clear hl hB g0 g1 g4 h1 h4 h5 h6
                      go_enter Try.func34, Try.ntmps34
                      go_wp2
                      go_ret
                      exact ⟨by rw [HR.out]; rfl, HB0.out⟩
                  · have h7b : en < 1 := by omega
                    have HR : Hid (decide (EvGood ek ew en rk zs) = false) := decide_eq_false (fun g => by unfold EvGood at g; rcases g with g | g | g <;> omega)
                    clear hl hB g0 g1 g4 h1 h4 h5 h6
                    go_enter Try.func34, Try.ntmps34
                    go_wp2
                    go_ret
                    exact ⟨by rw [HR.out]; rfl, HB0.out⟩
                · have k6 : (ew == 0) = false := by simpa using h6
                  have HR : Hid (decide (EvGood ek ew en rk zs) = false) := decide_eq_false (fun g => by unfold EvGood at g; rcases g with g | g | g <;> omega)
                  clear hl hB g0 g1 g4 h1 h4 h5 h6
                  go_enter Try.func34, Try.ntmps34
                  go_wp2
                  go_ret
                  exact ⟨by rw [HR.out]; rfl, HB0.out⟩
              · have k5 : (ek == 3) = false := by simpa using h5
                have HR : Hid (decide (EvGood ek ew en rk zs) = false) := decide_eq_false (fun g => by unfold EvGood at g; rcases g with g | g | g <;> omega)
                clear hl hB g0 g1 g4 h1 h4 h5
                go_enter Try.func34, Try.ntmps34
                go_wp2
                go_ret
                exact ⟨by rw [HR.out]; rfl, HB0.out⟩
      · have g3 : ¬ ew < 0 ∨ ew < 0 := by omega
        have g4 := True.intro
        by_cases h1 : ek = 1
        · have k1 : (ek == 1) = true := by simp [h1]
          have HR : Hid (decide (EvGood ek ew en rk zs) = false) := decide_eq_false (fun g => by unfold EvGood at g; rcases g with g | g | g <;> ((try unfold IsWarp at g); omega))
          clear hl hB g0 g1 g4 g3 h1
          go_enter Try.func34, Try.ntmps34
          go_wp2
          go_ret
          exact ⟨by rw [HR.out]; rfl, HB0.out⟩
        · have k1 : (ek == 1) = false := by simpa using h1
          by_cases h4 : ek = 2
          · have k4 : (ek == 2) = true := by simp [h4]
            have HR : Hid (decide (EvGood ek ew en rk zs) = false) := decide_eq_false (fun g => by unfold EvGood at g; rcases g with g | g | g <;> ((try unfold IsWarp at g); omega))
            clear hl hB g0 g1 g4 g3 h1 h4
            go_enter Try.func34, Try.ntmps34
            go_wp2
            go_ret
            exact ⟨by rw [HR.out]; rfl, HB0.out⟩
          · have k4 : (ek == 2) = false := by simpa using h4
            by_cases h5 : ek = 3
            · have k5 : (ek == 3) = true := by simp [h5]
              by_cases h6 : ew = 0
              · have k6 : (ew == 0) = true := by simp [h6]
                by_cases h7 : 1 ≤ en
                · by_cases h8 : en ≤ 16
                  · have h9 := True.intro
                    have HR : Hid (decide (EvGood ek ew en rk zs) = true) := decide_eq_true (.inr (.inr ⟨h5, h6, h7, h8, g0, by omega⟩))
                    clear hl hB g0 g1 g4 g3 h1 h4 h5 h6 h9
                    go_enter Try.func34, Try.ntmps34
                    go_wp2
                    go_ret
                    exact ⟨by rw [HR.out]; rfl, HB0.out⟩
                  · have h8b : 16 < en := by omega
                    have HR : Hid (decide (EvGood ek ew en rk zs) = false) := decide_eq_false (fun g => by unfold EvGood at g; rcases g with g | g | g <;> omega)
                    clear hl hB g0 g1 g4 g3 h1 h4 h5 h6
                    go_enter Try.func34, Try.ntmps34
                    go_wp2
                    go_ret
                    exact ⟨by rw [HR.out]; rfl, HB0.out⟩
                · have h7b : en < 1 := by omega
                  have HR : Hid (decide (EvGood ek ew en rk zs) = false) := decide_eq_false (fun g => by unfold EvGood at g; rcases g with g | g | g <;> omega)
                  clear hl hB g0 g1 g4 g3 h1 h4 h5 h6
                  go_enter Try.func34, Try.ntmps34
                  go_wp2
                  go_ret
                  exact ⟨by rw [HR.out]; rfl, HB0.out⟩
              · have k6 : (ew == 0) = false := by simpa using h6
                have HR : Hid (decide (EvGood ek ew en rk zs) = false) := decide_eq_false (fun g => by unfold EvGood at g; rcases g with g | g | g <;> omega)
                clear hl hB g0 g1 g4 g3 h1 h4 h5 h6
                go_enter Try.func34, Try.ntmps34
                go_wp2
                go_ret
                exact ⟨by rw [HR.out]; rfl, HB0.out⟩
            · have k5 : (ek == 3) = false := by simpa using h5
              have HR : Hid (decide (EvGood ek ew en rk zs) = false) := decide_eq_false (fun g => by unfold EvGood at g; rcases g with g | g | g <;> omega)
              clear hl hB g0 g1 g4 g3 h1 h4 h5
              go_enter Try.func34, Try.ntmps34
              go_wp2
              go_ret
              exact ⟨by rw [HR.out]; rfl, HB0.out⟩
    · have j1 : ((n : Int) == 0) = false := by simp; omega
      by_cases g2 : 0 ≤ ew
      · by_cases g3 : ew < 4
        · have g4 := True.intro
          by_cases h1 : ek = 1
          · have k1 : (ek == 1) = true := by simp [h1]
            by_cases h3 : en = 0
            · have k3 : (en == 0) = true := by simp [h3]
              have HR : Hid (decide (EvGood ek ew en rk zs) = decide (ReqGood rk zs)) := decide_eq_decide.2 (by unfold EvGood; constructor; (intro g; rcases g with g | g | g; (exact g.2.2.2); omega; omega); (intro g; exact .inl ⟨h1, ⟨g2, g3⟩, h3, g⟩))
              clear hl hB g0 g1 g4 h1 h3
              go_enter Try.func34, Try.ntmps34
              go_wp2_with fail
              refine (HQ.out _ HB0.out).mono ?_
              rintro e w1 ⟨rfl, hb⟩
              have B1 := Lib.hid (HB0.out.trans (hb.mono HB0.out.size))
              clear hb
              go_wp2
              go_ret
              exact ⟨by rw [HR.out]; rfl, B1.out⟩
            · have k3 : (en == 0) = false := by simpa using h3
              have HR : Hid (decide (EvGood ek ew en rk zs) = false) := decide_eq_false (fun g => by unfold EvGood at g; rcases g with g | g | g <;> omega)
              clear hl hB g0 g1 g4 h1 h3
              go_enter Try.func34, Try.ntmps34
              go_wp2
              go_ret
              exact ⟨by rw [HR.out]; rfl, HB0.out⟩
          · have k1 : (ek == 1) = false := by simpa using h1
            by_cases h4 : ek = 2
            · have k4 : (ek == 2) = true := by simp [h4]
              by_cases h3 : en = 0
              · have k3 : (en == 0) = true := by simp [h3]
                have HR : Hid (decide (EvGood ek ew en rk zs) = false) := decide_eq_false (fun g => by unfold EvGood at g; rcases g with g | g | g <;> omega)
                clear hl hB g0 g1 g4 h1 h3 h4
                go_enter Try.func34, Try.ntmps34
                go_wp2
                go_ret
                exact ⟨by rw [HR.out]; rfl, HB0.out⟩
              · have k3 : (en == 0) = false := by simpa using h3
                have HR : Hid (decide (EvGood ek ew en rk zs) = false) := decide_eq_false (fun g => by unfold EvGood at g; rcases g with g | g | g <;> omega)
                clear hl hB g0 g1 g4 h1 h3 h4
                go_enter Try.func34, Try.ntmps34
                go_wp2
                go_ret
                exact ⟨by rw [HR.out]; rfl, HB0.out⟩
            · have k4 : (ek == 2) = false := by simpa using h4
              by_cases h5 : ek = 3
              · have k5 : (ek == 3) = true := by simp [h5]
                by_cases h6 : ew = 0
                · have k6 : (ew == 0) = true := by simp [h6]
                  by_cases h7 : 1 ≤ en
                  · by_cases h8 : en ≤ 16
                    · have h9 := True.intro
                      have HR : Hid (decide (EvGood ek ew en rk zs) = false) := decide_eq_false (fun g => by unfold EvGood at g; rcases g with g | g | g <;> omega)
                      clear hl hB g0 g1 g4 h1 h4 h5 h6 h9
                      go_enter Try.func34, Try.ntmps34
                      go_wp2
                      go_ret
                      exact ⟨by rw [HR.out]; rfl, HB0.out⟩
                    · have h8b : 16 < en := by omega
                      have HR : Hid (decide (EvGood ek ew en rk zs) = false) := decide_eq_false (fun g => by unfold EvGood at g; rcases g with g | g | g <;> omega)
                      clear hl hB g0 g1 g4 h1 h4 h5 h6
                      go_enter Try.func34, Try.ntmps34
                      go_wp2
                      go_ret
                      exact ⟨by rw [HR.out]; rfl, HB0.out⟩
                  · have h7b : en < 1 := by omega
                    have HR : Hid (decide (EvGood ek ew en rk zs) = false) := decide_eq_false (fun g => by unfold EvGood at g; rcases g with g | g | g <;> omega)
                    clear hl hB g0 g1 g4 h1 h4 h5 h6
                    go_enter Try.func34, Try.ntmps34
                    go_wp2
                    go_ret
                    exact ⟨by rw [HR.out]; rfl, HB0.out⟩
                · have k6 : (ew == 0) = false := by simpa using h6
                  have HR : Hid (decide (EvGood ek ew en rk zs) = false) := decide_eq_false (fun g => by unfold EvGood at g; rcases g with g | g | g <;> omega)
                  clear hl hB g0 g1 g4 h1 h4 h5 h6
                  go_enter Try.func34, Try.ntmps34
                  go_wp2
                  go_ret
                  exact ⟨by rw [HR.out]; rfl, HB0.out⟩
              · have k5 : (ek == 3) = false := by simpa using h5
                have HR : Hid (decide (EvGood ek ew en rk zs) = false) := decide_eq_false (fun g => by unfold EvGood at g; rcases g with g | g | g <;> omega)
                clear hl hB g0 g1 g4 h1 h4 h5
                go_enter Try.func34, Try.ntmps34
                go_wp2
                go_ret
                exact ⟨by rw [HR.out]; rfl, HB0.out⟩
        · have g4 := True.intro
          by_cases h1 : ek = 1
          · have k1 : (ek == 1) = true := by simp [h1]
            have HR : Hid (decide (EvGood ek ew en rk zs) = false) := decide_eq_false (fun g => by unfold EvGood at g; rcases g with g | g | g <;> ((try unfold IsWarp at g); omega))
            clear hl hB g0 g1 g4 h1
            go_enter Try.func34, Try.ntmps34
            go_wp2
            go_ret
            exact ⟨by rw [HR.out]; rfl, HB0.out⟩
          · have k1 : (ek == 1) = false := by simpa using h1
            by_cases h4 : ek = 2
            · have k4 : (ek == 2) = true := by simp [h4]
              have HR : Hid (decide (EvGood ek ew en rk zs) = false) := decide_eq_false (fun g => by unfold EvGood at g; rcases g with g | g | g <;> ((try unfold IsWarp at g); omega))
              clear hl hB g0 g1 g4 h1 h4
              go_enter Try.func34, Try.ntmps34
              go_wp2
              go_ret
              exact ⟨by rw [HR.out]; rfl, HB0.out⟩
            · have k4 : (ek == 2) = false := by simpa using h4
              by_cases h5 : ek = 3
              · have k5 : (ek == 3) = true := by simp [h5]
                by_cases h6 : ew = 0
                · have k6 : (ew == 0) = true := by simp [h6]
                  by_cases h7 : 1 ≤ en
                  · by_cases h8 : en ≤ 16
                    · have h9 := True.intro
                      have HR : Hid (decide (EvGood ek ew en rk zs) = false) := decide_eq_false (fun g => by unfold EvGood at g; rcases g with g | g | g <;> omega)
                      clear hl hB g0 g1 g4 h1 h4 h5 h6 h9
                      go_enter Try.func34, Try.ntmps34
                      go_wp2
                      go_ret
                      exact ⟨by rw [HR.out]; rfl, HB0.out⟩
                    · have h8b : 16 < en := by omega
                      have HR : Hid (decide (EvGood ek ew en rk zs) = false) := decide_eq_false (fun g => by unfold EvGood at g; rcases g with g | g | g <;> omega)
                      clear hl hB g0 g1 g4 h1 h4 h5 h6
                      go_enter Try.func34, Try.ntmps34
                      go_wp2
                      go_ret
                      exact ⟨by rw [HR.out]; rfl, HB0.out⟩
                  · have h7b : en < 1 := by omega
                    have HR : Hid (decide (EvGood ek ew en rk zs) = false) := decide_eq_false (fun g => by unfold EvGood at g; rcases g with g | g | g <;> omega)
                    clear hl hB g0 g1 g4 h1 h4 h5 h6
                    go_enter Try.func34, Try.ntmps34
                    go_wp2
                    go_ret
                    exact ⟨by rw [HR.out]; rfl, HB0.out⟩
                · have k6 : (ew == 0) = false := by simpa using h6
                  have HR : Hid (decide (EvGood ek ew en rk zs) = false) := decide_eq_false (fun g => by unfold EvGood at g; rcases g with g | g | g <;> omega)
                  clear hl hB g0 g1 g4 h1 h4 h5 h6
                  go_enter Try.func34, Try.ntmps34
                  go_wp2
                  go_ret
                  exact ⟨by rw [HR.out]; rfl, HB0.out⟩
              · have k5 : (ek == 3) = false := by simpa using h5
                have HR : Hid (decide (EvGood ek ew en rk zs) = false) := decide_eq_false (fun g => by unfold EvGood at g; rcases g with g | g | g <;> omega)
                clear hl hB g0 g1 g4 h1 h4 h5
                go_enter Try.func34, Try.ntmps34
                go_wp2
                go_ret
                exact ⟨by rw [HR.out]; rfl, HB0.out⟩
      · have g3 : ¬ ew < 0 ∨ ew < 0 := by omega
        have g4 := True.intro
        by_cases h1 : ek = 1
        · have k1 : (ek == 1) = true := by simp [h1]
          have HR : Hid (decide (EvGood ek ew en rk zs) = false) := decide_eq_false (fun g => by unfold EvGood at g; rcases g with g | g | g <;> ((try unfold IsWarp at g); omega))
          clear hl hB g0 g1 g4 g3 h1
          go_enter Try.func34, Try.ntmps34
          go_wp2
          go_ret
          exact ⟨by rw [HR.out]; rfl, HB0.out⟩
        · have k1 : (ek == 1) = false := by simpa using h1
          by_cases h4 : ek = 2
          · have k4 : (ek == 2) = true := by simp [h4]
            have HR : Hid (decide (EvGood ek ew en rk zs) = false) := decide_eq_false (fun g => by unfold EvGood at g; rcases g with g | g | g <;> ((try unfold IsWarp at g); omega))
            clear hl hB g0 g1 g4 g3 h1 h4
            go_enter Try.func34, Try.ntmps34
            go_wp2
            go_ret
            exact ⟨by rw [HR.out]; rfl, HB0.out⟩
          · have k4 : (ek == 2) = false := by simpa using h4
            by_cases h5 : ek = 3
            · have k5 : (ek == 3) = true := by simp [h5]
              by_cases h6 : ew = 0
              · have k6 : (ew == 0) = true := by simp [h6]
                by_cases h7 : 1 ≤ en
                · by_cases h8 : en ≤ 16
                  · have h9 := True.intro
                    have HR : Hid (decide (EvGood ek ew en rk zs) = false) := decide_eq_false (fun g => by unfold EvGood at g; rcases g with g | g | g <;> omega)
                    clear hl hB g0 g1 g4 g3 h1 h4 h5 h6 h9
                    go_enter Try.func34, Try.ntmps34
                    go_wp2
                    go_ret
                    exact ⟨by rw [HR.out]; rfl, HB0.out⟩
                  · have h8b : 16 < en := by omega
                    have HR : Hid (decide (EvGood ek ew en rk zs) = false) := decide_eq_false (fun g => by unfold EvGood at g; rcases g with g | g | g <;> omega)
                    clear hl hB g0 g1 g4 g3 h1 h4 h5 h6
                    go_enter Try.func34, Try.ntmps34
                    go_wp2
                    go_ret
                    exact ⟨by rw [HR.out]; rfl, HB0.out⟩
                · have h7b : en < 1 := by omega
                  have HR : Hid (decide (EvGood ek ew en rk zs) = false) := decide_eq_false (fun g => by unfold EvGood at g; rcases g with g | g | g <;> omega)
                  clear hl hB g0 g1 g4 g3 h1 h4 h5 h6
                  go_enter Try.func34, Try.ntmps34
                  go_wp2
                  go_ret
                  exact ⟨by rw [HR.out]; rfl, HB0.out⟩
              · have k6 : (ew == 0) = false := by simpa using h6
                have HR : Hid (decide (EvGood ek ew en rk zs) = false) := decide_eq_false (fun g => by unfold EvGood at g; rcases g with g | g | g <;> omega)
                clear hl hB g0 g1 g4 g3 h1 h4 h5 h6
                go_enter Try.func34, Try.ntmps34
                go_wp2
                go_ret
                exact ⟨by rw [HR.out]; rfl, HB0.out⟩
            · have k5 : (ek == 3) = false := by simpa using h5
              have HR : Hid (decide (EvGood ek ew en rk zs) = false) := decide_eq_false (fun g => by unfold EvGood at g; rcases g with g | g | g <;> omega)
              clear hl hB g0 g1 g4 g3 h1 h4 h5
              go_enter Try.func34, Try.ntmps34
              go_wp2
              go_ret
              exact ⟨by rw [HR.out]; rfl, HB0.out⟩
  · have j0 : (rk == 0) = false := by simpa using g0
    by_cases g2 : 0 ≤ ew
    · by_cases g3 : ew < 4
      · have g4 := True.intro
        by_cases h1 : ek = 1
        · have k1 : (ek == 1) = true := by simp [h1]
          by_cases h3 : en = 0
          · have k3 : (en == 0) = true := by simp [h3]
            have HR : Hid (decide (EvGood ek ew en rk zs) = decide (ReqGood rk zs)) := decide_eq_decide.2 (by unfold EvGood; constructor; (intro g; rcases g with g | g | g; (exact g.2.2.2); omega; omega); (intro g; exact .inl ⟨h1, ⟨g2, g3⟩, h3, g⟩))
            clear hl hB g0 g4 h1 h3
            go_enter Try.func34, Try.ntmps34
            go_wp2_with fail
            refine (HQ.out _ HB0.out).mono ?_
            rintro e w1 ⟨rfl, hb⟩
            have B1 := Lib.hid (HB0.out.trans (hb.mono HB0.out.size))
            clear hb
            go_wp2
            go_ret
            exact ⟨by rw [HR.out]; rfl, B1.out⟩
          · have k3 : (en == 0) = false := by simpa using h3
            have HR : Hid (decide (EvGood ek ew en rk zs) = false) := decide_eq_false (fun g => by unfold EvGood at g; rcases g with g | g | g <;> omega)
            clear hl hB g0 g4 h1 h3
            go_enter Try.func34, Try.ntmps34
            go_wp2
            go_ret
            exact ⟨by rw [HR.out]; rfl, HB0.out⟩
        · have k1 : (ek == 1) = false := by simpa using h1
          by_cases h4 : ek = 2
          · have k4 : (ek == 2) = true := by simp [h4]
            by_cases h3 : en = 0
            · have k3 : (en == 0) = true := by simp [h3]
              have HR : Hid (decide (EvGood ek ew en rk zs) = false) := decide_eq_false (fun g => by unfold EvGood at g; rcases g with g | g | g <;> omega)
              clear hl hB g0 g4 h1 h3 h4
              go_enter Try.func34, Try.ntmps34
              go_wp2
              go_ret
              exact ⟨by rw [HR.out]; rfl, HB0.out⟩
            · have k3 : (en == 0) = false := by simpa using h3
              have HR : Hid (decide (EvGood ek ew en rk zs) = false) := decide_eq_false (fun g => by unfold EvGood at g; rcases g with g | g | g <;> omega)
              clear hl hB g0 g4 h1 h3 h4
              go_enter Try.func34, Try.ntmps34
              go_wp2
              go_ret
              exact ⟨by rw [HR.out]; rfl, HB0.out⟩
          · have k4 : (ek == 2) = false := by simpa using h4
            by_cases h5 : ek = 3
            · have k5 : (ek == 3) = true := by simp [h5]
              by_cases h6 : ew = 0
              · have k6 : (ew == 0) = true := by simp [h6]
                by_cases h7 : 1 ≤ en
                · by_cases h8 : en ≤ 16
                  · have h9 := True.intro
                    have HR : Hid (decide (EvGood ek ew en rk zs) = false) := decide_eq_false (fun g => by unfold EvGood at g; rcases g with g | g | g <;> omega)
                    clear hl hB g0 g4 h1 h4 h5 h6 h9
                    go_enter Try.func34, Try.ntmps34
                    go_wp2
                    go_ret
                    exact ⟨by rw [HR.out]; rfl, HB0.out⟩
                  · have h8b : 16 < en := by omega
                    have HR : Hid (decide (EvGood ek ew en rk zs) = false) := decide_eq_false (fun g => by unfold EvGood at g; rcases g with g | g | g <;> omega)
                    clear hl hB g0 g4 h1 h4 h5 h6
                    go_enter Try.func34, Try.ntmps34
                    go_wp2
                    go_ret
                    exact ⟨by rw [HR.out]; rfl, HB0.out⟩
                · have h7b : en < 1 := by omega
                  have HR : Hid (decide (EvGood ek ew en rk zs) = false) := decide_eq_false (fun g => by unfold EvGood at g; rcases g with g | g | g <;> omega)
                  clear hl hB g0 g4 h1 h4 h5 h6
                  go_enter Try.func34, Try.ntmps34
                  go_wp2
                  go_ret
                  exact ⟨by rw [HR.out]; rfl, HB0.out⟩
              · have k6 : (ew == 0) = false := by simpa using h6
                have HR : Hid (decide (EvGood ek ew en rk zs) = false) := decide_eq_false (fun g => by unfold EvGood at g; rcases g with g | g | g <;> omega)
                clear hl hB g0 g4 h1 h4 h5 h6
                go_enter Try.func34, Try.ntmps34
                go_wp2
                go_ret
                exact ⟨by rw [HR.out]; rfl, HB0.out⟩
            · have k5 : (ek == 3) = false := by simpa using h5
              have HR : Hid (decide (EvGood ek ew en rk zs) = false) := decide_eq_false (fun g => by unfold EvGood at g; rcases g with g | g | g <;> omega)
              clear hl hB g0 g4 h1 h4 h5
              go_enter Try.func34, Try.ntmps34
              go_wp2
              go_ret
              exact ⟨by rw [HR.out]; rfl, HB0.out⟩
      · have g4 := True.intro
        by_cases h1 : ek = 1
        · have k1 : (ek == 1) = true := by simp [h1]
          have HR : Hid (decide (EvGood ek ew en rk zs) = false) := decide_eq_false (fun g => by unfold EvGood at g; rcases g with g | g | g <;> ((try unfold IsWarp at g); omega))
          clear hl hB g0 g4 h1
          go_enter Try.func34, Try.ntmps34
          go_wp2
          go_ret
          exact ⟨by rw [HR.out]; rfl, HB0.out⟩
        · have k1 : (ek == 1) = false := by simpa using h1
          by_cases h4 : ek = 2
          · have k4 : (ek == 2) = true := by simp [h4]
            have HR : Hid (decide (EvGood ek ew en rk zs) = false) := decide_eq_false (fun g => by unfold EvGood at g; rcases g with g | g | g <;> ((try unfold IsWarp at g); omega))
            clear hl hB g0 g4 h1 h4
            go_enter Try.func34, Try.ntmps34
            go_wp2
            go_ret
            exact ⟨by rw [HR.out]; rfl, HB0.out⟩
          · have k4 : (ek == 2) = false := by simpa using h4
            by_cases h5 : ek = 3
            · have k5 : (ek == 3) = true := by simp [h5]
              by_cases h6 : ew = 0
              · have k6 : (ew == 0) = true := by simp [h6]
                by_cases h7 : 1 ≤ en
                · by_cases h8 : en ≤ 16
                  · have h9 := True.intro
                    have HR : Hid (decide (EvGood ek ew en rk zs) = false) := decide_eq_false (fun g => by unfold EvGood at g; rcases g with g | g | g <;> omega)
                    clear hl hB g0 g4 h1 h4 h5 h6 h9
                    go_enter Try.func34, Try.ntmps34
                    go_wp2
                    go_ret
                    exact ⟨by rw [HR.out]; rfl, HB0.out⟩
                  · have h8b : 16 < en := by omega
                    have HR : Hid (decide (EvGood ek ew en rk zs) = false) := decide_eq_false (fun g => by unfold EvGood at g; rcases g with g | g | g <;> omega)
                    clear hl hB g0 g4 h1 h4 h5 h6
                    go_enter Try.func34, Try.ntmps34
                    go_wp2
                    go_ret
                    exact ⟨by rw [HR.out]; rfl, HB0.out⟩
                · have h7b : en < 1 := by omega
                  have HR : Hid (decide (EvGood ek ew en rk zs) = false) := decide_eq_false (fun g => by unfold EvGood at g; rcases g with g | g | g <;> omega)
                  clear hl hB g0 g4 h1 h4 h5 h6
                  go_enter Try.func34, Try.ntmps34
                  go_wp2
                  go_ret
                  exact ⟨by rw [HR.out]; rfl, HB0.out⟩
              · have k6 : (ew == 0) = false := by simpa using h6
                have HR : Hid (decide (EvGood ek ew en rk zs) = false) := decide_eq_false (fun g => by unfold EvGood at g; rcases g with g | g | g <;> omega)
                clear hl hB g0 g4 h1 h4 h5 h6
                go_enter Try.func34, Try.ntmps34
                go_wp2
                go_ret
                exact ⟨by rw [HR.out]; rfl, HB0.out⟩
            · have k5 : (ek == 3) = false := by simpa using h5
              have HR : Hid (decide (EvGood ek ew en rk zs) = false) := decide_eq_false (fun g => by unfold EvGood at g; rcases g with g | g | g <;> omega)
              clear hl hB g0 g4 h1 h4 h5
              go_enter Try.func34, Try.ntmps34
              go_wp2
              go_ret
              exact ⟨by rw [HR.out]; rfl, HB0.out⟩
    · have g3 : ¬ ew < 0 ∨ ew < 0 := by omega
      have g4 := True.intro
      by_cases h1 : ek = 1
      · have k1 : (ek == 1) = true := by simp [h1]
        have HR : Hid (decide (EvGood ek ew en rk zs) = false) := decide_eq_false (fun g => by unfold EvGood at g; rcases g with g | g | g <;> ((try unfold IsWarp at g); omega))
        clear hl hB g0 g4 g3 h1
        go_enter Try.func34, Try.ntmps34
        go_wp2
        go_ret
        exact ⟨by rw [HR.out]; rfl, HB0.out⟩
      · have k1 : (ek == 1) = false := by simpa using h1
        by_cases h4 : ek = 2
        · have k4 : (ek == 2) = true := by simp [h4]
          have HR : Hid (decide (EvGood ek ew en rk zs) = false) := decide_eq_false (fun g => by unfold EvGood at g; rcases g with g | g | g <;> ((try unfold IsWarp at g); omega))
          clear hl hB g0 g4 g3 h1 h4
          go_enter Try.func34, Try.ntmps34
          go_wp2
          go_ret
          exact ⟨by rw [HR.out]; rfl, HB0.out⟩
        · have k4 : (ek == 2) = false := by simpa using h4
          by_cases h5 : ek = 3
          · have k5 : (ek == 3) = true := by simp [h5]
            by_cases h6 : ew = 0
            · have k6 : (ew == 0) = true := by simp [h6]
              by_cases h7 : 1 ≤ en
              · by_cases h8 : en ≤ 16
                · have h9 := True.intro
                  have HR : Hid (decide (EvGood ek ew en rk zs) = false) := decide_eq_false (fun g => by unfold EvGood at g; rcases g with g | g | g <;> omega)
                  clear hl hB g0 g4 g3 h1 h4 h5 h6 h9
                  go_enter Try.func34, Try.ntmps34
                  go_wp2
                  go_ret
                  exact ⟨by rw [HR.out]; rfl, HB0.out⟩
                · have h8b : 16 < en := by omega
                  have HR : Hid (decide (EvGood ek ew en rk zs) = false) := decide_eq_false (fun g => by unfold EvGood at g; rcases g with g | g | g <;> omega)
                  clear hl hB g0 g4 g3 h1 h4 h5 h6
                  go_enter Try.func34, Try.ntmps34
                  go_wp2
                  go_ret
                  exact ⟨by rw [HR.out]; rfl, HB0.out⟩
              · have h7b : en < 1 := by omega
                have HR : Hid (decide (EvGood ek ew en rk zs) = false) := decide_eq_false (fun g => by unfold EvGood at g; rcases g with g | g | g <;> omega)
                clear hl hB g0 g4 g3 h1 h4 h5 h6
                go_enter Try.func34, Try.ntmps34
                go_wp2
                go_ret
                exact ⟨by rw [HR.out]; rfl, HB0.out⟩
            · have k6 : (ew == 0) = false := by simpa using h6
              have HR : Hid (decide (EvGood ek ew en rk zs) = false) := decide_eq_false (fun g => by unfold EvGood at g; rcases g with g | g | g <;> omega)
              clear hl hB g0 g4 g3 h1 h4 h5 h6
              go_enter Try.func34, Try.ntmps34
              go_wp2
              go_ret
              exact ⟨by rw [HR.out]; rfl, HB0.out⟩
          · have k5 : (ek == 3) = false := by simpa using h5
            have HR : Hid (decide (EvGood ek ew en rk zs) = false) := decide_eq_false (fun g => by unfold EvGood at g; rcases g with g | g | g <;> omega)
            clear hl hB g0 g4 g3 h1 h4 h5
            go_enter Try.func34, Try.ntmps34
            go_wp2
            go_ret
            exact ⟨by rw [HR.out]; rfl, HB0.out⟩

set_option maxHeartbeats 400000 in
theorem szEvent_yes (ek ew en rk : Int) (A : Option Addr) (n c : Nat) (l : Int) (w : World) (hl : l ≤ 1048576) (hn : (n : Int) ≤ l) : Calls Try.prog 33 #[.agg #[.int .i64 ek, .int .i64 ew, .int .i64 en, .int .i64 rk, .slice A n c], .int .i64 l] w fun e w' => e = .returned (.int .i64 (l - n)) ∧ Below w.heap.size w w' := by
  have HS := Lib.hid (fun W => szReq_yes rk A n c l W hl hn)
  have h1 : ¬ l - (n : Int) < 0 := by omega
  have HB0 : Hid (Below w.heap.size w (w.alloc (.cells #[.int .i64 ek, .int .i64 ew, .int .i64 en, .int .i64 rk, .slice A n c] 66))) := bel1 w _
  clear hn
  go_enter Try.func33, Try.ntmps33
  go_wp2_with fail
  refine (HS.out _).mono ?_
  rintro e w1 ⟨rfl, hb⟩
  have B1 := Lib.hid (HB0.out.trans (hb.mono HB0.out.size))
  clear hb
  go_wp2
  go_ret
  exact ⟨rfl, B1.out⟩

set_option maxHeartbeats 400000 in
theorem szEvent_no (ek ew en rk : Int) (A : Option Addr) (n c : Nat) (l : Int) (w : World) (hl : l ≤ 1048576) (h0 : 0 ≤ l) (hm : n ≤ maxLen) (hn : l < (n : Int)) : Calls Try.prog 33 #[.agg #[.int .i64 ek, .int .i64 ew, .int .i64 en, .int .i64 rk, .slice A n c], .int .i64 l] w fun e w' => e = .returned (.int .i64 (-1)) ∧ Below w.heap.size w w' := by
  have HS := Lib.hid (fun W => szReq_no rk A n c l W hl h0 hm hn)
  have HB0 : Hid (Below w.heap.size w (w.alloc (.cells #[.int .i64 ek, .int .i64 ew, .int .i64 en, .int .i64 rk, .slice A n c] 66))) := bel1 w _
  clear hn hm
  go_enter Try.func33, Try.ntmps33
  go_wp2_with fail
  refine (HS.out _).mono ?_
  rintro e w1 ⟨rfl, hb⟩
  have B1 := Lib.hid (HB0.out.trans (hb.mono HB0.out.size))
  clear hb
  go_wp2
  go_ret
  exact ⟨rfl, B1.out⟩

set_option maxHeartbeats 1000000 in
theorem toEvent_any (ek ew en rk : Int) (A : Option Addr) (n c B : Nat) (zs : List Int) (w : World) (h : RdK .i64 w B A n zs) (hB : B ≤ w.heap.size) (hn : n ≤ 1048576) :
    Calls Try.prog 35 #[.agg #[.int .i64 ek, .int .i64 ew, .int .i64 en, .int .i64 rk, .slice A n c]] w fun e w' => ∃ g, e = .returned (.agg #[.int .i64 ek, .int .i64 ew, .int .i64 en, .int .i64 rk, .slice (some ⟨g, 0, none⟩) n n]) ∧ OwnK 3 .i64 w' w.heap.size (some ⟨g, 0, none⟩) n n zs ∧ Below w.heap.size w w' := by
  have HT : Hid (∀ W, Below w.heap.size w W → Calls Try.prog 17 #[.agg #[.int .i64 rk, .slice A n c]] W fun e w' => ∃ g, e = .returned (.agg #[.int .i64 rk, .slice (some ⟨g, 0, none⟩) n n]) ∧ OwnK 3 .i64 w' W.heap.size (some ⟨g, 0, none⟩) n n zs ∧ Below W.heap.size W w') := fun W hb => toReq_any rk A n c B zs W (h.below (hb.mono hB)) (Nat.le_trans hB hb.size) hn
  clear h hB hn
  go_enter Try.func35, Try.ntmps35
  go_wp2_with fail
  refine (HT.out _ (by repeat (first | exact Below.refl _ _ | refine Below.drew ?_ | refine Below.setCell ?_ (by first | omega | (simp; done) | (simp; omega) | (simp [*]; done)) _ | refine Below.alloc ?_ (by first | omega | (simp; done) | (simp; omega) | (simp [*]; done)) _))).mono ?_
  rintro e w4 ⟨g, rfl, ho, hb⟩
  rw [sz3] at ho
  have O4 := Lib.hid ho
  obtain ⟨_, hr, ha, hB4, z4⟩ := nw3 hb
  have B4 := Lib.hid hB4
  have a0 := blkc ha 0 rfl
  have a1 := blkc ha 1 rfl
  have a2 := blkc ha 2 rfl
  have a3 := blkc ha 3 rfl
  have a4 := blkc ha 4 rfl
  have r0 := blkc hr 0 rfl
  have r1 := blkc hr 1 rfl
  have r2 := blkc hr 2 rfl
  have r3 := blkc hr 3 rfl
  have r4 := blkc hr 4 rfl
  have fa := blkf ha
  have fr := blkf hr
  clear ho hb HT hr ha hB4
  go_wp2
  refine bodyPost_ret (v := .agg #[.int .i64 ek, .int .i64 ew, .int .i64 en, .int .i64 rk, .slice (some ⟨g, 0, none⟩) n n]) (by simp [results, Try.results35, go_sem, r0, r1, r2, r3, r4]) rfl ⟨g, rfl, ?_, ?_⟩
  · exact OwnK.from_ (b0 := w.heap.size + 3) (by repeat' (first | (with_reducible exact O4.out) | (with_reducible refine OwnK.low ?_ ?_ _) | omega | (simp; done) | (simp; omega))) (by omega)
  · exact (by repeat' (first | (with_reducible exact B4.out) | (with_reducible refine Below.setCell ?_ ?_ _) | (with_reducible refine Below.alloc ?_ ?_ _) | omega | (simp; done) | (simp; omega)))

set_option maxHeartbeats 1000000 in
theorem eqEvent_any (ek ew en rk : Int) (A1 A2 : Option Addr) (n c1 c2 B1 B2 : Nat) (zs : List Int) (w : World) (h1 : RdK .i64 w B1 A1 n zs) (h2 : RdK .i64 w B2 A2 n zs) (hB1 : B1 ≤ w.heap.size) (hB2 : B2 ≤ w.heap.size) (hm : n ≤ maxLen) :
    Calls Try.prog 37 #[.agg #[.int .i64 ek, .int .i64 ew, .int .i64 en, .int .i64 rk, .slice A1 n c1], .agg #[.int .i64 ek, .int .i64 ew, .int .i64 en, .int .i64 rk, .slice A2 n c2]] w fun e w' => e = .returned (.bool true) ∧ Below w.heap.size w w' := by
  have HE : Hid (∀ W, Below w.heap.size w W → Calls Try.prog 20 #[.agg #[.int .i64 rk, .slice A1 n c1], .agg #[.int .i64 rk, .slice A2 n c2]] W fun e w' => e = .returned (.bool true) ∧ Below W.heap.size W w') := fun W hb => eqReq_any rk A1 A2 n c1 c2 B1 B2 zs W (h1.below (hb.mono hB1)) (h2.below (hb.mono hB2)) (Nat.le_trans hB1 hb.size) (Nat.le_trans hB2 hb.size) hm
  have k0 : (ek != ek) = false := by simp
  have k1 : (ew != ew) = false := by simp
  have k2 : (en != en) = false := by simp
  have HB0 := Lib.hid (bel2 w (.cells #[.int .i64 ek, .int .i64 ew, .int .i64 en, .int .i64 rk, .slice A1 n c1] 70) (.cells #[.int .i64 ek, .int .i64 ew, .int .i64 en, .int .i64 rk, .slice A2 n c2] 70))
  clear h1 h2 hm
  go_enter Try.func37, Try.ntmps37
  go_wp2_with fail
  refine (HE.out _ HB0.out).mono ?_
  rintro e w1 ⟨rfl, hb⟩
  have B1 := Lib.hid (HB0.out.trans (hb.mono HB0.out.size))
  clear hb HB0
  go_wp2
  go_ret
  exact ⟨rfl, B1.out⟩

end Go.Proofs.Ytooegpebimpjcaa
