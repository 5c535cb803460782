/- The contracts of TakenWords, of the program and of the model. -/
import Derived.Test.YtefcaeldkdbjdaaIRoom
namespace Go.Proofs.Ytefcaeldkdbjdaa
open Go.RowKit

/-- The four cells of a block that was made, in a later world. -/
theorem new4 {w1 W : World} {v0 v1 v2 v3 : Value} {t : TypeId} (h : Below (w1.heap.size + 1) (w1.alloc (.cells #[v0, v1, v2, v3] t)) W) :
    W.cell? ⟨w1.heap.size, 0, none⟩ = some v0 ∧ W.cell? ⟨w1.heap.size, 1, none⟩ = some v1 ∧ W.cell? ⟨w1.heap.size, 2, none⟩ = some v2 ∧ W.cell? ⟨w1.heap.size, 3, none⟩ = some v3 := by
  have hl : w1.heap.size < w1.heap.size + 1 := by omega
  exact ⟨(h.cell (p := ⟨w1.heap.size, 0, none⟩) hl).trans ((cell_of_row _ w1.heap.size 0 _ _ (0, 0) (heap_alloc_new w1 _)).trans rfl),
    (h.cell (p := ⟨w1.heap.size, 1, none⟩) hl).trans ((cell_of_row _ w1.heap.size 1 _ _ (0, 0) (heap_alloc_new w1 _)).trans rfl),
    (h.cell (p := ⟨w1.heap.size, 2, none⟩) hl).trans ((cell_of_row _ w1.heap.size 2 _ _ (0, 0) (heap_alloc_new w1 _)).trans rfl),
    (h.cell (p := ⟨w1.heap.size, 3, none⟩) hl).trans ((cell_of_row _ w1.heap.size 3 _ _ (0, 0) (heap_alloc_new w1 _)).trans rfl)⟩
theorem below_on {n : Nat} {w W W' : World} (hW : Below n w W) (hn : n ≤ w.heap.size) (hb : Below W.heap.size W W') : Below n w W' := hW.trans (hb.mono (Nat.le_trans hn hW.size))
theorem ones_le32 (X : Nat) : (onesTo X 32).length ≤ 32 := onesTo_len X 32
theorem mul_small {l : Nat} {s : Int} (hl : l ≤ 32) (h1 : 1 ≤ s) (h2 : s ≤ 16) : IntKind.i64.wrap ((l : Int) * s) = (l : Int) * s := by
  refine IntWalk.i64_in _ ?_
  have a : (0 : Int) ≤ (l : Int) * s := Int.mul_nonneg (by omega) (by omega)
  have b : (l : Int) * s ≤ 32 * s := Int.mul_le_mul_of_nonneg_right (by omega) (by omega)
  omega

end Go.Proofs.Ytefcaeldkdbjdaa
