/- FactOk of the model. -/
import Derived.Test.YthcchnaoenjhlaaFactV
import Derived.Test.YthcchnaoenjhlaaNewB
namespace Go.Proofs.Ythcchnaoenjhlaa
open Go.RowKit
set_option linter.unusedVariables false

set_option maxRecDepth 100000 in
set_option maxHeartbeats 4000000 in
theorem sFactOk_any (f : Fc) (w : World) : Calls Try.prog 9 #[.agg #[.int .i64 f.k, .int .i64 f.i, .int .i64 f.l, .int .i64 f.a, .int .i64 f.s]] w fun e w' => e = .returned (.bool (decide (FactGood f))) ∧ Below w.heap.size w w' := by
  have HB0 := Lib.hid (bel1 w (.cells #[.int .i64 f.k, .int .i64 f.i, .int .i64 f.l, .int .i64 f.a, .int .i64 f.s] 25))
  by_cases w0 : 0 ≤ f.i
  · by_cases w1 : f.i < 4
    · by_cases l0 : 0 ≤ f.l
      · by_cases l1 : f.l < 8
        · by_cases h1 : f.k = 1
          · have k1 : (f.k == 1) = true := by simp [h1]
            by_cases c0 : 0 ≤ f.a
            · by_cases c1 : f.a ≤ 255
              · by_cases c2 : 1 ≤ f.s
                · have HR : Hid (decide (FactGood f) = true) := decide_eq_true ⟨.inl ⟨h1, (by unfold BlkGood; omega)⟩, ⟨w0, w1⟩, l0, l1⟩
                  clear h1
                  go_enter Try.func9, Try.ntmps9
                  go_wp2
                  go_ret
                  exact ⟨by rw [HR.out]; rfl, HB0.out⟩
                · have HR : Hid (decide (FactGood f) = false) := decide_eq_false (fun g => by rcases g.1 with g | g | g | g <;> (first | omega | (have g2 := g.2; unfold BlkGood at g2; omega)))
                  clear h1
                  go_enter Try.func9, Try.ntmps9
                  go_wp2
                  go_ret
                  exact ⟨by rw [HR.out]; rfl, HB0.out⟩
              · have HR : Hid (decide (FactGood f) = false) := decide_eq_false (fun g => by rcases g.1 with g | g | g | g <;> (first | omega | (have g2 := g.2; unfold BlkGood at g2; omega)))
                clear h1
                go_enter Try.func9, Try.ntmps9
                go_wp2
                go_ret
                exact ⟨by rw [HR.out]; rfl, HB0.out⟩
            · have HR : Hid (decide (FactGood f) = false) := decide_eq_false (fun g => by rcases g.1 with g | g | g | g <;> (first | omega | (have g2 := g.2; unfold BlkGood at g2; omega)))
              clear h1
              go_enter Try.func9, Try.ntmps9
              go_wp2
              go_ret
              exact ⟨by rw [HR.out]; rfl, HB0.out⟩
          · have k1 : (f.k == 1) = false := by simp [h1]
            by_cases h2 : f.k = 2
            · have k2 : (f.k == 2) = true := by simp [h2]
              by_cases c0 : 0 ≤ f.a
              · by_cases c1 : f.a ≤ 255
                · by_cases c2 : 1 ≤ f.s
                  · have HR : Hid (decide (FactGood f) = true) := decide_eq_true ⟨.inr (.inl ⟨h2, (by unfold BlkGood; omega)⟩), ⟨w0, w1⟩, l0, l1⟩
                    clear h1 h2
                    go_enter Try.func9, Try.ntmps9
                    go_wp2
                    go_ret
                    exact ⟨by rw [HR.out]; rfl, HB0.out⟩
                  · have HR : Hid (decide (FactGood f) = false) := decide_eq_false (fun g => by rcases g.1 with g | g | g | g <;> (first | omega | (have g2 := g.2; unfold BlkGood at g2; omega)))
                    clear h1 h2
                    go_enter Try.func9, Try.ntmps9
                    go_wp2
                    go_ret
                    exact ⟨by rw [HR.out]; rfl, HB0.out⟩
                · have HR : Hid (decide (FactGood f) = false) := decide_eq_false (fun g => by rcases g.1 with g | g | g | g <;> (first | omega | (have g2 := g.2; unfold BlkGood at g2; omega)))
                  clear h1 h2
                  go_enter Try.func9, Try.ntmps9
                  go_wp2
                  go_ret
                  exact ⟨by rw [HR.out]; rfl, HB0.out⟩
              · have HR : Hid (decide (FactGood f) = false) := decide_eq_false (fun g => by rcases g.1 with g | g | g | g <;> (first | omega | (have g2 := g.2; unfold BlkGood at g2; omega)))
                clear h1 h2
                go_enter Try.func9, Try.ntmps9
                go_wp2
                go_ret
                exact ⟨by rw [HR.out]; rfl, HB0.out⟩
            · have k2 : (f.k == 2) = false := by simp [h2]
              by_cases h3 : f.k = 3
              · have k3 : (f.k == 3) = true := by simp [h3]
                by_cases c0 : f.a = -1
                · have e0 : (f.a == -1) = true := by simp [c0]
                  by_cases c1 : 1 ≤ f.s
                  · by_cases c2 : f.s ≤ 256
                    · have HR : Hid (decide (FactGood f) = true) := decide_eq_true ⟨.inr (.inr (.inl ⟨h3, (by unfold RefGood; omega)⟩)), ⟨w0, w1⟩, l0, l1⟩
                      clear h1 h2 h3 c0
                      go_enter Try.func9, Try.ntmps9
                      go_wp2
                      go_ret
                      exact ⟨by rw [HR.out]; rfl, HB0.out⟩
                    · have HR : Hid (decide (FactGood f) = false) := decide_eq_false (fun g => by rcases g.1 with g | g | g | g <;> (first | omega | (have g2 := g.2; unfold RefGood at g2; omega)))
                      clear h1 h2 h3 c0
                      go_enter Try.func9, Try.ntmps9
                      go_wp2
                      go_ret
                      exact ⟨by rw [HR.out]; rfl, HB0.out⟩
                  · have HR : Hid (decide (FactGood f) = false) := decide_eq_false (fun g => by rcases g.1 with g | g | g | g <;> (first | omega | (have g2 := g.2; unfold RefGood at g2; omega)))
                    clear h1 h2 h3 c0
                    go_enter Try.func9, Try.ntmps9
                    go_wp2
                    go_ret
                    exact ⟨by rw [HR.out]; rfl, HB0.out⟩
                · have e0 : (f.a == -1) = false := by simp [c0]
                  have HR : Hid (decide (FactGood f) = false) := decide_eq_false (fun g => by rcases g.1 with g | g | g | g <;> (first | omega | (have g2 := g.2; unfold RefGood at g2; omega)))
                  clear h1 h2 h3 c0
                  go_enter Try.func9, Try.ntmps9
                  go_wp2
                  go_ret
                  exact ⟨by rw [HR.out]; rfl, HB0.out⟩
              · have k3 : (f.k == 3) = false := by simp [h3]
                by_cases h4 : f.k = 4
                · have k4 : (f.k == 4) = true := by simp [h4]
                  by_cases c0 : 0 ≤ f.a
                  · by_cases c1 : f.a ≤ 4095
                    · by_cases c2 : f.s = 0
                      · have e2 : (f.s == 0) = true := by simp [c2]
                        have HR : Hid (decide (FactGood f) = true) := decide_eq_true ⟨.inr (.inr (.inr ⟨h4, (by unfold WrgGood; omega)⟩)), ⟨w0, w1⟩, l0, l1⟩
                        clear h1 h2 h3 h4 c2
                        go_enter Try.func9, Try.ntmps9
                        go_wp2
                        go_ret
                        exact ⟨by rw [HR.out]; rfl, HB0.out⟩
                      · have e2 : (f.s == 0) = false := by simp [c2]
                        have HR : Hid (decide (FactGood f) = false) := decide_eq_false (fun g => by rcases g.1 with g | g | g | g <;> (first | omega | (have g2 := g.2; unfold WrgGood at g2; omega)))
                        clear h1 h2 h3 h4 c2
                        go_enter Try.func9, Try.ntmps9
                        go_wp2
                        go_ret
                        exact ⟨by rw [HR.out]; rfl, HB0.out⟩
                    · have HR : Hid (decide (FactGood f) = false) := decide_eq_false (fun g => by rcases g.1 with g | g | g | g <;> (first | omega | (have g2 := g.2; unfold WrgGood at g2; omega)))
                      clear h1 h2 h3 h4
                      go_enter Try.func9, Try.ntmps9
                      go_wp2
                      go_ret
                      exact ⟨by rw [HR.out]; rfl, HB0.out⟩
                  · have HR : Hid (decide (FactGood f) = false) := decide_eq_false (fun g => by rcases g.1 with g | g | g | g <;> (first | omega | (have g2 := g.2; unfold WrgGood at g2; omega)))
                    clear h1 h2 h3 h4
                    go_enter Try.func9, Try.ntmps9
                    go_wp2
                    go_ret
                    exact ⟨by rw [HR.out]; rfl, HB0.out⟩
                · have k4 : (f.k == 4) = false := by simp [h4]
                  have HR : Hid (decide (FactGood f) = false) := decide_eq_false (fun g => by rcases g.1 with g | g | g | g <;> omega)
                  clear h1 h2 h3 h4
                  go_enter Try.func9, Try.ntmps9
                  go_wp2
                  go_ret
                  exact ⟨by rw [HR.out]; rfl, HB0.out⟩
        · have HR : Hid (decide (FactGood f) = false) := decide_eq_false (fun g => l1 g.2.2.2)
          go_enter Try.func9, Try.ntmps9
          go_wp2
          go_ret
          exact ⟨by rw [HR.out]; rfl, HB0.out⟩
      · have HR : Hid (decide (FactGood f) = false) := decide_eq_false (fun g => l0 g.2.2.1)
        go_enter Try.func9, Try.ntmps9
        go_wp2
        go_ret
        exact ⟨by rw [HR.out]; rfl, HB0.out⟩
    · have HR : Hid (decide (FactGood f) = false) := decide_eq_false (fun g => w1 g.2.1.2)
      go_enter Try.func9, Try.ntmps9
      go_wp2
      go_ret
      exact ⟨by rw [HR.out]; rfl, HB0.out⟩
  · have HR : Hid (decide (FactGood f) = false) := decide_eq_false (fun g => w0 g.2.1.1)
    go_enter Try.func9, Try.ntmps9
    go_wp2
    go_ret
    exact ⟨by rw [HR.out]; rfl, HB0.out⟩

end Go.Proofs.Ythcchnaoenjhlaa
