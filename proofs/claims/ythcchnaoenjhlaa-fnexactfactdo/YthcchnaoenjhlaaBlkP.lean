/- A variable that is a block (two ints), in a memory block of its own. -/
import Derived.Test.YthcchnaoenjhlaaOwnP
namespace Go.Proofs.Ythcchnaoenjhlaa
open Go.RowKit

/-- Memory block b is a variable that holds the block (x, y). -/
def BlkAt (w : World) (b : Nat) (x y : Int) : Prop := w.heap[b]? = some (.cells #[.int .i64 x, .int .i64 y] 71 (0, 0))
theorem BlkAt.cell0 {w : World} {b : Nat} {x y : Int} (h : BlkAt w b x y) : w.cell? ⟨b, 0, none⟩ = some (.int .i64 x) := (cell_of_row w b 0 _ _ (0, 0) h).trans rfl
theorem BlkAt.cell1 {w : World} {b : Nat} {x y : Int} (h : BlkAt w b x y) : w.cell? ⟨b, 1, none⟩ = some (.int .i64 y) := (cell_of_row w b 1 _ _ (0, 0) h).trans rfl
theorem BlkAt.free {w : World} {b : Nat} {x y : Int} (h : BlkAt w b x y) (i : Nat) : w.frozen? ⟨b, i, none⟩ = false := by
  have h' : w.heap[b]? = some (.cells #[.int .i64 x, .int .i64 y] 71 (0, 0)) := h
  simp [World.frozen?, h']
theorem BlkAt.lt {w : World} {b : Nat} {x y : Int} (h : BlkAt w b x y) : b < w.heap.size := (Array.getElem?_eq_some_iff.1 h).1
theorem BlkAt.new (w : World) (x y : Int) : BlkAt (w.alloc (.cells #[.int .i64 x, .int .i64 y] 71)) w.heap.size x y := heap_alloc_new w _
theorem BlkAt.below {w w' : World} {b : Nat} {x y : Int} (h : BlkAt w b x y) (hb : Below w.heap.size w w') : BlkAt w' b x y := (hb.block b h.lt).trans h
theorem BlkAt.alloc {w : World} {b : Nat} {x y : Int} (h : BlkAt w b x y) (o : Obj) : BlkAt (w.alloc o) b x y := (Below.heap_alloc w o b h.lt).trans h
theorem BlkAt.far {w w' : World} {b : Nat} {x y : Int} {row : Option Nat} (h : BlkAt w b x y) (hg : w.grownBy w' row) (hne : some b ≠ row) : BlkAt w' b x y := (hg.block b h.lt hne).trans h
theorem BlkAt.other {w : World} {b : Nat} {x y : Int} {p : Addr} (h : BlkAt w b x y) (hp : b ≠ p.block) (u : Value) : BlkAt (w.setCell p u) b x y := (Below.heap_setCell w p u b hp).trans h
theorem BlkAt.set {w : World} {b : Nat} {x y : Int} (h : BlkAt w b x y) (u v : Int) : BlkAt ((w.setCell ⟨b, 0, none⟩ (.int .i64 u)).setCell ⟨b, 1, none⟩ (.int .i64 v)) b u v := by
  have h1 := heap_setCell_same w b 0 _ _ (.int .i64 u) h
  have h2 := heap_setCell_same _ b 1 _ _ (.int .i64 v) h1
  exact h2
theorem BlkAt.set0 {w : World} {b : Nat} {x y : Int} (h : BlkAt w b x y) (u : Int) : BlkAt (w.setCell ⟨b, 0, none⟩ (.int .i64 u)) b u y := heap_setCell_same w b 0 _ _ (.int .i64 u) h
theorem BlkAt.set1 {w : World} {b : Nat} {x y : Int} (h : BlkAt w b x y) (u : Int) : BlkAt (w.setCell ⟨b, 1, none⟩ (.int .i64 u)) b x u := heap_setCell_same w b 1 _ _ (.int .i64 u) h
/-- A new block, in a later world. -/
theorem one_new {w w1 : World} {o1 : Obj} (h : Below (w.alloc o1).heap.size (w.alloc o1) w1) : w1.heap[w.heap.size]? = some o1 ∧ Below w.heap.size w w1 ∧ w.heap.size < w1.heap.size := by
  have e1 : (w.alloc o1).heap.size = w.heap.size + 1 := World.size_alloc w o1
  have hs := h.size
  refine ⟨?_, ((Below.refl _ _).alloc (Nat.le_refl _) _).trans (h.mono (by omega)), by omega⟩
  rw [h.block _ (by omega)]
  exact heap_alloc_new w o1

end Go.Proofs.Ythcchnaoenjhlaa
