/- The contracts of the program's bitsBetween at its four uses, CtlPack and CtlRead. -/
import Derived.Test.YtibkjnfbpgohbaaICtl
namespace Go.Proofs.Ytibkjnfbpgohbaa
open Go.RowKit

/-- The word of a control state, and the fields of a word. -/
def packV (S K : Int) (M : Nat) (R : Int) : Nat := M + 65536 * K.toNat + 1048576 * S.toNat + 16777216 * R.toNat
def packA (S K : Int) (M : Nat) (R : Int) : Nat := if CtlGood S K M R then packV S K M R else 0
def stOf (X : Nat) : Nat := X / 1048576 % 16
def clOf (X : Nat) : Nat := X / 65536 % 16
def mpOf (X : Nat) : Nat := X % 65536
def rnOf (X : Nat) : Nat := X / 16777216

theorem and_st {X : Nat} (hX : X < 4294967296) : bits .and .u32 ((X : Int) / 1048576) 15 = ((stOf X : Nat) : Int) := by
  have h1 := u32_and_nat (X / 1048576) (2 ^ 4 - 1) (Nat.lt_of_le_of_lt (Nat.div_le_self _ _) hX) (by decide)
  rw [Nat.and_two_pow_sub_one_eq_mod] at h1
  have h2 : ((stOf X : Nat) : Int) = ((X / 1048576 % 2 ^ 4 : Nat) : Int) := by unfold stOf; omega
  rw [h2, ← h1]
  simp

theorem and_cl {X : Nat} (hX : X < 4294967296) : bits .and .u32 ((X : Int) / 65536) 15 = ((clOf X : Nat) : Int) := by
  have h1 := u32_and_nat (X / 65536) (2 ^ 4 - 1) (Nat.lt_of_le_of_lt (Nat.div_le_self _ _) hX) (by decide)
  rw [Nat.and_two_pow_sub_one_eq_mod] at h1
  have h2 : ((clOf X : Nat) : Int) = ((X / 65536 % 2 ^ 4 : Nat) : Int) := by unfold clOf; omega
  rw [h2, ← h1]
  simp

theorem and_mp {X : Nat} (hX : X < 4294967296) : bits .and .u32 ((X : Int)) 65535 = ((mpOf X : Nat) : Int) := by
  have h1 := u32_and_nat (X / 1) (2 ^ 16 - 1) (Nat.lt_of_le_of_lt (Nat.div_le_self _ _) hX) (by decide)
  rw [Nat.and_two_pow_sub_one_eq_mod] at h1
  have h2 : ((mpOf X : Nat) : Int) = ((X / 1 % 2 ^ 16 : Nat) : Int) := by unfold mpOf; omega
  rw [h2, ← h1]
  simp

theorem and_rn {X : Nat} (hX : X < 4294967296) : bits .and .u32 ((X : Int) / 16777216) 255 = ((rnOf X : Nat) : Int) := by
  have h1 := u32_and_nat (X / 16777216) (2 ^ 8 - 1) (Nat.lt_of_le_of_lt (Nat.div_le_self _ _) hX) (by decide)
  rw [Nat.and_two_pow_sub_one_eq_mod] at h1
  have h2 : ((rnOf X : Nat) : Int) = ((X / 16777216 % 2 ^ 8 : Nat) : Int) := by unfold rnOf; omega
  rw [h2, ← h1]
  simp

theorem drewN_b {b k : Nat} {w w' : World} (h : Below b w w') : Below b w (w'.drewN k) := ⟨h.os, h.tape, h.output, h.size, h.block⟩
/-- A block of four cells: what it reads, and that it may be written. -/
theorem blk4 {w : World} {b : Nat} {v0 v1 v2 v3 : Value} {t : TypeId} (h : w.heap[b]? = some (.cells #[v0, v1, v2, v3] t (0, 0))) :
    (w.cell? ⟨b, 0, none⟩ = some v0 ∧ w.cell? ⟨b, 1, none⟩ = some v1 ∧ w.cell? ⟨b, 2, none⟩ = some v2 ∧ w.cell? ⟨b, 3, none⟩ = some v3) ∧
      (w.frozen? ⟨b, 0, none⟩ = false ∧ w.frozen? ⟨b, 1, none⟩ = false ∧ w.frozen? ⟨b, 2, none⟩ = false ∧ w.frozen? ⟨b, 3, none⟩ = false) :=
  ⟨⟨(cell_of_row w b 0 _ _ (0, 0) h).trans rfl, (cell_of_row w b 1 _ _ (0, 0) h).trans rfl, (cell_of_row w b 2 _ _ (0, 0) h).trans rfl, (cell_of_row w b 3 _ _ (0, 0) h).trans rfl⟩,
    by simp [World.frozen?, h], by simp [World.frozen?, h], by simp [World.frozen?, h], by simp [World.frozen?, h]⟩
/-- Two new blocks, in a later world. -/
theorem two_new {w w1 : World} {o1 o2 : Obj} {n : Nat} (h : Below (((w.alloc o1).drewN n).alloc o2).heap.size (((w.alloc o1).drewN n).alloc o2) w1) : w1.heap[w.heap.size]? = some o1 ∧ w1.heap[w.heap.size + 1]? = some o2 ∧ Below w.heap.size w w1 ∧ w.heap.size + 2 ≤ w1.heap.size := by
  have hz := h.size
  have e1 : (w.alloc o1).heap.size = w.heap.size + 1 := World.size_alloc w o1
  have e2 : (((w.alloc o1).drewN n).alloc o2).heap.size = w.heap.size + 1 + 1 := (World.size_alloc _ o2).trans (by show (w.alloc o1).heap.size + 1 = _; omega)
  refine ⟨?_, ?_, ?_, by omega⟩
  · rw [h.block _ (by omega)]
    refine (Below.heap_alloc _ o2 _ (by show _ < (w.alloc o1).heap.size; omega)).trans ?_
    exact heap_alloc_new w o1
  · rw [h.block _ (by omega)]
    have := heap_alloc_new ((w.alloc o1).drewN n) o2
    have e3 : ((w.alloc o1).drewN n).heap.size = w.heap.size + 1 := e1
    rwa [e3] at this
  · refine Below.trans ?_ (h.mono (by omega))
    exact ((drewN_b ((Below.refl _ _).alloc (Nat.le_refl _) _))).alloc (by show _ ≤ (w.alloc o1).heap.size; omega) _
theorem one_new {w w1 : World} {o1 : Obj} (h : Below (w.alloc o1).heap.size (w.alloc o1) w1) : w1.heap[w.heap.size]? = some o1 ∧ Below w.heap.size w w1 := by
  have e1 : (w.alloc o1).heap.size = w.heap.size + 1 := World.size_alloc w o1
  refine ⟨?_, ((Below.refl _ _).alloc (Nat.le_refl _) _).trans (h.mono (by omega))⟩
  rw [h.block _ (by omega)]
  exact heap_alloc_new w o1
/-- The valid control state of a word, or the zero value. -/
def GoodX (X : Nat) : Prop := CtlGood (stOf X) (clOf X) (mpOf X) (rnOf X)
instance (X : Nat) : Decidable (GoodX X) := inferInstanceAs (Decidable (CtlGood _ _ _ _))
def readN (X f : Nat) : Nat := if GoodX X then f else 0
def readV (X : Nat) : Array Value := #[.int .i64 (readN X (stOf X) : Int), .int .i64 (readN X (clOf X) : Int), .int .u32 (readN X (mpOf X) : Int), .int .i64 (readN X (rnOf X) : Int)]

theorem or_page {M c : Nat} (hM : M < 65536) (hc : c % 65536 = 0) (hc2 : c < 1048576) : bits .or .u32 (bits .or .u32 (bits .or .u32 (M : Int) (c : Int)) 1048576) 0 = ((M + c + 1048576 : Nat) : Int) := by
  obtain ⟨k, rfl⟩ : ∃ k, c = 2 ^ 16 * k := ⟨c / 65536, by omega⟩
  have e1 := Nat.two_pow_add_eq_or_of_lt (i := 16) (a := k) (b := M) (by omega)
  have e2 := Nat.two_pow_add_eq_or_of_lt (i := 20) (a := 1) (b := 2 ^ 16 * k + M) (by omega)
  rw [u32_or_nat M (2 ^ 16 * k) (by omega) (by omega), Nat.or_comm, ← e1]
  have h2 := u32_or_nat (2 ^ 16 * k + M) 1048576 (by omega) (by omega)
  have h2' : bits .or .u32 ((2 ^ 16 * k + M : Nat) : Int) 1048576 = ((2 ^ 20 * 1 + (2 ^ 16 * k + M) : Nat) : Int) := by rw [e2, Nat.or_comm]; exact h2
  rw [h2']
  have h3 := u32_or_nat (2 ^ 20 * 1 + (2 ^ 16 * k + M)) 0 (by omega) (by omega)
  rw [Nat.or_zero] at h3
  have h4 : bits .or .u32 ((2 ^ 20 * 1 + (2 ^ 16 * k + M) : Nat) : Int) 0 = ((2 ^ 20 * 1 + (2 ^ 16 * k + M) : Nat) : Int) := h3
  rw [h4]
  omega
theorem packA_good {S K : Int} {M : Nat} {R : Int} (h : CtlGood S K M R) : packA S K M R = packV S K M R := if_pos h
theorem packA_bad {S K : Int} {M : Nat} {R : Int} (h : ¬ CtlGood S K M R) : packA S K M R = 0 := if_neg h
theorem run15 {R : Int} (h : IsRun R) : R = 2 ∨ R = 3 ∨ R = 4 ∨ R = 5 ∨ R = 6 ∨ R = 7 ∨ R = 8 ∨ R = 9 ∨ R = 10 ∨ R = 11 ∨ R = 12 ∨ R = 13 ∨ R = 14 ∨ R = 15 ∨ R = 16 := by unfold IsRun at h; omega

end Go.Proofs.Ytibkjnfbpgohbaa
