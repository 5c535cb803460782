/- What an audit counts, in plain words. -/
import Derived.Test.YthcchnaoenjhlaaIHeap
namespace Go.Proofs.Ythcchnaoenjhlaa
open Go.RowKit
set_option linter.unusedVariables false

/-- How many words have this state. -/
def cntV (ws : List Nat) (j : Int) : Int := ((ws.filter (fun X => decide ((stOf X : Int) = j))).length : Int)
theorem cnt_next {ws : List Nat} {k : Nat} (j : Int) (h : k < ws.length) : cntV (ws.take (k + 1)) j = cntV (ws.take k) j + (if (stOf (ws[k]?.getD 0) : Int) = j then 1 else 0) := by
  unfold cntV
  rw [List.take_succ_eq_append_getElem h, List.filter_append, List.length_append, List.getElem?_eq_getElem h]
  by_cases hc : (stOf ws[k] : Int) = j <;> simp [hc]
theorem cnt_le (ws : List Nat) (j : Int) : 0 ≤ cntV ws j ∧ cntV ws j ≤ ws.length := by
  unfold cntV
  have := List.length_filter_le (fun X => decide ((stOf X : Int) = j)) ws
  omega
theorem cnt_bound {ws : List Nat} {k : Nat} (j : Int) (hk : k ≤ 16) : 0 ≤ cntV (ws.take k) j ∧ cntV (ws.take k) j ≤ 16 := by
  have := cnt_le (ws.take k) j
  have := List.length_take_le k ws
  omega
/-- The counts after one more word of state j. -/
theorem cnt_hit {ws : List Nat} {k : Nat} {j : Int} (h : k < ws.length) (hj : (stOf (ws[k]?.getD 0) : Int) = j) : cntV (ws.take (k + 1)) j = cntV (ws.take k) j + 1 ∧ ∀ i, i ≠ j → cntV (ws.take (k + 1)) i = cntV (ws.take k) i := by
  refine ⟨by rw [cnt_next j h, if_pos hj], fun i hi => ?_⟩
  rw [cnt_next i h, if_neg (fun e => hi (by rw [← e, ← hj]))]
  omega
def sumV (ws : List Nat) (t : Nat) : Int := if HeapOk ws then (if t = 0 then cntV ws 0 else if t = 1 then cntV ws 1 else cntV ws 2 + cntV ws 3) else -1
theorem st_cases {X : Nat} (h : GoodX X) : (stOf X : Int) = 0 ∨ (stOf X : Int) = 1 ∨ (stOf X : Int) = 2 ∨ (stOf X : Int) = 3 := by
  unfold GoodX CtlGood at h
  omega

theorem read_st (X : Nat) (hX : X < 4294967296) (hq : GoodX X) (j : Int) (h : (stOf X : Int) = j) (W : World) : Calls Try.prog 57 #[.int .u32 (X : Int)] W fun e w' => e = .returned (.tuple #[.agg #[.int .i64 j, .int .i64 (clOf X : Int), .int .u32 (mpOf X : Int), .int .i64 (rnOf X : Int)], .bool true]) ∧ Below W.heap.size W w' :=
  (ctlRead_any X W hX).mono fun e w' ⟨he, hb⟩ => ⟨by rw [he, decide_eq_true hq]; unfold readV readN; simp only [if_pos hq, h], hb⟩

theorem sRead_st (X : Nat) (hX : X < 4294967296) (hq : GoodX X) (j : Int) (h : (stOf X : Int) = j) (W : World) : Calls Try.prog 49 #[.int .u32 (X : Int)] W fun e w' => e = .returned (.tuple #[.agg #[.int .i64 j, .int .i64 (clOf X : Int), .int .u32 (mpOf X : Int), .int .i64 (rnOf X : Int)], .bool true]) ∧ Below W.heap.size W w' :=
  (sCtlRead_any X W hX).mono fun e w' ⟨he, hb⟩ => ⟨by rw [he, decide_eq_true hq]; unfold readV readN; simp only [if_pos hq, h], hb⟩

/-- Memory block b holds four ints. -/
def Quad (w : World) (b : Nat) (t : TypeId) (a0 a1 a2 a3 : Int) : Prop := w.heap[b]? = some (.cells #[.int .i64 a0, .int .i64 a1, .int .i64 a2, .int .i64 a3] t (0, 0))
theorem Quad.set0 {w : World} {b : Nat} {t : TypeId} {a0 a1 a2 a3 : Int} (h : Quad w b t a0 a1 a2 a3) (u : Int) : Quad (w.setCell ⟨b, 0, none⟩ (.int .i64 u)) b t u a1 a2 a3 := heap_setCell_same w b 0 _ _ (.int .i64 u) h
theorem Quad.set1 {w : World} {b : Nat} {t : TypeId} {a0 a1 a2 a3 : Int} (h : Quad w b t a0 a1 a2 a3) (u : Int) : Quad (w.setCell ⟨b, 1, none⟩ (.int .i64 u)) b t a0 u a2 a3 := heap_setCell_same w b 1 _ _ (.int .i64 u) h
theorem Quad.set2 {w : World} {b : Nat} {t : TypeId} {a0 a1 a2 a3 : Int} (h : Quad w b t a0 a1 a2 a3) (u : Int) : Quad (w.setCell ⟨b, 2, none⟩ (.int .i64 u)) b t a0 a1 u a3 := heap_setCell_same w b 2 _ _ (.int .i64 u) h
theorem Quad.set3 {w : World} {b : Nat} {t : TypeId} {a0 a1 a2 a3 : Int} (h : Quad w b t a0 a1 a2 a3) (u : Int) : Quad (w.setCell ⟨b, 3, none⟩ (.int .i64 u)) b t a0 a1 a2 u := heap_setCell_same w b 3 _ _ (.int .i64 u) h
theorem Quad.below {w w' : World} {b : Nat} {t : TypeId} {a0 a1 a2 a3 : Int} (h : Quad w b t a0 a1 a2 a3) (hb : Below w.heap.size w w') : Quad w' b t a0 a1 a2 a3 := (hb.block b (Array.getElem?_eq_some_iff.1 h).1).trans h
theorem Quad.lt {w : World} {b : Nat} {t : TypeId} {a0 a1 a2 a3 : Int} (h : Quad w b t a0 a1 a2 a3) : b < w.heap.size := (Array.getElem?_eq_some_iff.1 h).1

end Go.Proofs.Ythcchnaoenjhlaa
