/- The contract of the program's iterator over the set bits of a word: it hands out their numbers in ascending order, till a round says no. -/
import Derived.RangeFuncNested
import Derived.RangeFuncBound
import Derived.RangeFuncCalls
import Derived.RangeFuncLeaves
import Derived.Shelf.Abstract
import Derived.Shelf.RegionOpen
import Derived.OwnWalkIn
import Derived.TacticsInMore
import Derived.LoopNIn
import Derived.LoopIn
import Derived.Test.YtibkjnfbpgohbaaBase
import Derived.Test.YtibkjnfbpgohbaaOnesMath
import Derived.Laws.BitsAllLaws
namespace Go.Proofs.Ytibkjnfbpgohbaa
open Go.RowKit Go.Shelf

attribute [local go_sem] Oper.semAt_some

/-- What a round that goes on keeps: the box of the word. -/
def KeepsBox (B : Nat) (W W' : World) : Prop := W'.cell? ⟨B, 0, none⟩ = W.cell? ⟨B, 0, none⟩

theorem hz0 {X k : Nat} (h : X / 2 ^ k = 0) : (X : Int) / 2 ^ k = 0 := by exact_mod_cast h
theorem zero_of {X k : Nat} (h : (X : Int) / 2 ^ k = 0) : X / 2 ^ k = 0 := by exact_mod_cast h
theorem lt_of_more {X k : Nat} (hX : X < 4294967296) (h : ¬ X / 2 ^ k = 0) : k < 32 := by
  refine Nat.lt_of_not_le fun h1 => h ?_
  have : 2 ^ 32 ≤ 2 ^ k := Nat.pow_le_pow_right (by omega) h1
  exact Nat.div_eq_of_lt (by omega)
theorem and_one {X k : Nat} (hX : X < 4294967296) : bits .and .u32 ((X : Int) / 2 ^ k) 1 = ((X / 2 ^ k % 2 : Nat) : Int) := by
  have h := u32_and_nat (X / 2 ^ k) 1 (Nat.lt_of_le_of_lt (Nat.div_le_self _ _) hX) (by omega)
  rw [Nat.and_one_is_mod] at h
  rw [← h]
  congr 1

theorem keepsBox_t {B : Nat} : ∀ {A C D : World}, KeepsBox B A C → KeepsBox B C D → KeepsBox B A D := fun h1 h2 => Eq.trans h2 h1
theorem keepsBox_b {w : World} {B : Nat} (h : B < w.heap.size) : ∀ (W : World) (l : Nat) (o o' : Obj), w.heap.size ≤ l → W.heap[l]? = some o → o.isCells = false → o.isWalk = false → KeepsBox B W (W.putObj l o') := fun W l o o' hl h1 h2 h3 =>
  (belowK_b (w := w) (Nat.le_refl _) W l o o' hl h1 h2 h3).cell (p := ⟨B, 0, none⟩) h
theorem keepsBox_set {B b : Nat} (W : World) (h : b ≠ B) (o : Nat) (u : Value) : KeepsBox B W (W.setCell ⟨b, o, none⟩ u) := World.cell?_setCell_other _ _ _ _ (by intro e; exact h (congrArg Addr.block e))

end Go.Proofs.Ytibkjnfbpgohbaa
