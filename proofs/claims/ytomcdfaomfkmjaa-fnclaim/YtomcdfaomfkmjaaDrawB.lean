/- The model's cursor draws a word by its bits; DrawBitList hands out a word; nothing old has turned. -/
import Derived.Test.YtomcdfaomfkmjaaCurOpen
import Derived.Test.YtomcdfaomfkmjaaSOf
namespace Go.Proofs.Ytomcdfaomfkmjaa
open Go.RowKit

theorem ofA_lt (l : List Int) : ofA l < 4294967296 := by
  unfold ofA
  cases h : bitsG 0 l with
  | none => simp
  | some y => exact bitsG_lt l 0 y (by omega) h

/-- A slice of three ints that was just laid reads so. -/
theorem rd_three (w : World) (a b c : Int) : RdK .i64 (w.alloc (.cells #[.int .i64 a, .int .i64 b, .int .i64 c] 3)) (w.heap.size + 1) (some ⟨w.heap.size, 0, none⟩) 3 [a, b, c] :=
  ⟨rfl, fun _ => ⟨w.heap.size, 0, rfl, by omega, fun i hi => by
    rw [cell_of_row _ w.heap.size (0 + i) _ _ (0, 0) (heap_alloc_new w _)]
    rcases (show i = 0 ∨ i = 1 ∨ i = 2 by omega) with rfl | rfl | rfl <;> rfl⟩⟩

/-- A word is drawn. -/
def Drawn1 (w : World) (e : Ending) (w' : World) : Prop := ∃ X : Nat, e = .returned (.int .u32 (X : Int)) ∧ X < 4294967296 ∧ Below w.heap.size w w'

end Go.Proofs.Ytomcdfaomfkmjaa
