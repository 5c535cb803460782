/- The contract of the program's TakeLow: the word of the lowest set bits. -/
import Derived.Test.YtibkjnfbpgohbaaIter
import Derived.Test.YtibkjnfbpgohbaaOrMath
namespace Go.Proofs.Ytibkjnfbpgohbaa
open Go.RowKit Go.Shelf

attribute [local go_sem] Oper.semAt_some

def vals (l : List (Fin 32)) : List Nat := l.map (fun k => k.val)
theorem vals_snoc (l : List (Fin 32)) (x : Fin 32) : vals (l ++ [x]) = vals l ++ [x.val] := by simp [vals]
theorem vals_len (l : List (Fin 32)) : (vals l).length = l.length := by simp [vals]
theorem vals_lt (l : List (Fin 32)) : orL (vals l) < 4294967296 := orL_lt fun k hk => by
  obtain ⟨i, _, rfl⟩ := List.mem_map.1 hk
  exact i.isLt
theorem pow_cast (k : Nat) : (2 : Int) ^ k = ((2 ^ k : Nat) : Int) := by rw [Int.natCast_pow]; rfl
theorem or_next (pre : List (Fin 32)) (x : Fin 32) : bits .or .u32 ((orL (vals pre) : Nat) : Int) (2 ^ x.val % 4294967296) = ((orL (vals (pre ++ [x])) : Nat) : Int) := by
  have h2 : 2 ^ x.val < 4294967296 := Nat.pow_lt_pow_right (n := 32) (by omega) x.isLt
  have h := u32_or_nat (orL (vals pre)) (2 ^ x.val) (vals_lt pre) h2
  rw [vals_snoc, orL_snoc, ← h, pow_cast]
  generalize 2 ^ x.val = y at *
  rw [Int.emod_eq_of_lt (by omega) (by omega)]
theorem mixed : Try.prog.follows Departure.mixedOrders = true := by kernel_rfl

end Go.Proofs.Ytibkjnfbpgohbaa
