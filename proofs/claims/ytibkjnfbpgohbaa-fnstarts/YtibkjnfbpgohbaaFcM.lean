/- Facts in plain numbers. -/
import Derived.Test.YtibkjnfbpgohbaaBase
namespace Go.Proofs.Ytibkjnfbpgohbaa
open Go.RowKit

/-- A fact: its kind, the warp, the lane, the address, the size. -/
structure Fc where
  k : Int
  i : Int
  l : Int
  a : Int
  s : Int
instance : DecidableEq Fc := fun x y =>
  if h : x.k = y.k ∧ x.i = y.i ∧ x.l = y.l ∧ x.a = y.a ∧ x.s = y.s then .isTrue (by cases x; cases y; simp at h; simp [h]) else .isFalse (fun e => h (by subst e; exact ⟨rfl, rfl, rfl, rfl, rfl⟩))
instance : Inhabited Fc := ⟨⟨0, 0, 0, 0, 0⟩⟩
/-- Its five cells. -/
def Fc.cells (x : Fc) : List Value := [.int .i64 x.k, .int .i64 x.i, .int .i64 x.l, .int .i64 x.a, .int .i64 x.s]
def fat (fs : List Fc) (i : Nat) : Fc := fs[i]?.getD default
theorem fat_eq {fs : List Fc} {i : Nat} (h : i < fs.length) : fs[i] = fat fs i := by simp [fat, h]
theorem take_succ_f {fs : List Fc} {i : Nat} (h : i < fs.length) : fs.take (i + 1) = fs.take i ++ [fat fs i] := by rw [List.take_succ_eq_append_getElem h, fat_eq h]
theorem drop_f {fs : List Fc} {i : Nat} (h : i < fs.length) : fs.drop i = fat fs i :: fs.drop (i + 1) := by rw [List.drop_eq_getElem_cons h, fat_eq h]
/-- Every number of the fact is an int. -/
def Fc.Wf (x : Fc) : Prop := ((-9223372036854775808 ≤ x.k ∧ x.k < 9223372036854775808) ∧ (-9223372036854775808 ≤ x.i ∧ x.i < 9223372036854775808) ∧ (-9223372036854775808 ≤ x.l ∧ x.l < 9223372036854775808)) ∧ (-9223372036854775808 ≤ x.a ∧ x.a < 9223372036854775808) ∧ (-9223372036854775808 ≤ x.s ∧ x.s < 9223372036854775808)

/-- 1, 2, 3, 4, 5; 6, 7 .. -/
def marksQ (n : Nat) : List Fc := (List.range n).map fun i : Nat => ⟨1 + 5 * (i : Int), 2 + 5 * (i : Int), 3 + 5 * (i : Int), 4 + 5 * (i : Int), 5 + 5 * (i : Int)⟩
def markToQ (fs : List Fc) (k : Nat) : List Fc := marksQ k ++ fs.drop k
theorem marksQ_len (n : Nat) : (marksQ n).length = n := by simp [marksQ]
theorem markToQ_next {fs : List Fc} {k : Nat} (h : k < fs.length) : (markToQ fs k).set k ⟨1 + 5 * (k : Int), 2 + 5 * (k : Int), 3 + 5 * (k : Int), 4 + 5 * (k : Int), 5 + 5 * (k : Int)⟩ = markToQ fs (k + 1) := by
  unfold markToQ
  rw [List.drop_eq_getElem_cons h, List.set_append]
  simp [marksQ, List.range_succ]
  rw [List.drop_eq_getElem_cons h]
  rfl
theorem markToQ_all {fs : List Fc} {k n : Nat} (h : fs.length = n) (hk : n ≤ k) (hk' : k ≤ n) : markToQ fs k = marksQ n := by
  obtain rfl : k = n := by omega
  unfold markToQ
  rw [List.drop_eq_nil_of_le (by omega)]; simp
theorem marksQ_at {n k : Nat} (h : k < n) : fat (marksQ n) k = ⟨1 + 5 * (k : Int), 2 + 5 * (k : Int), 3 + 5 * (k : Int), 4 + 5 * (k : Int), 5 + 5 * (k : Int)⟩ := by simp [marksQ, fat, h]

/-- The first k facts, then zeros. -/
def fillQ (fs : List Fc) (n k : Nat) : List Fc := fs.take k ++ List.replicate (n - k) default
theorem fillQ_next {fs : List Fc} {n k : Nat} (hl : fs.length = n) (hk : k < n) : (fillQ fs n k).set k (fat fs k) = fillQ fs n (k + 1) := by
  have h1 : k < fs.length := by omega
  unfold fillQ
  rw [take_succ_f h1, show n - k = (n - (k + 1)) + 1 from by omega, List.replicate_succ, List.set_append]
  simp only [List.length_take, Nat.min_eq_left (Nat.le_of_lt h1), Nat.lt_irrefl, if_false, Nat.sub_self, List.set_cons_zero, List.append_assoc, List.cons_append, List.nil_append]
theorem fillQ_all {fs : List Fc} {n k : Nat} (hl : fs.length = n) (hk : n ≤ k) : fillQ fs n k = fs := by
  unfold fillQ
  rw [List.take_of_length_le (by omega), show n - k = 0 from by omega]; simp
theorem fat_replicate (n i : Nat) (h : i < n) : fat (List.replicate n default) i = default := by simp [fat, h]

end Go.Proofs.Ytibkjnfbpgohbaa
