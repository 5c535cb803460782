/- The contracts of the model's BitsOf, MaskOf, TakeLow and FreeLow. -/
import Derived.Test.YtibkjnfbpgohbaaOrMath
namespace Go.Proofs.Ytibkjnfbpgohbaa
open Go.RowKit

theorem wordL_bitL {y : Nat} (h : y < 4294967296) : wordL (bitL y 32) = (y : Int) := by
  have := wordL_or 32 y y h h
  simpa [bitL, Int.max_self] using this
theorem bitL_set {y j : Nat} (hj : j < 32) : (bitL y 32).set j 1 = bitL (y ||| 2 ^ j) 32 := by
  refine List.ext_getElem (by simp [bitL]) fun i h1 h2 => ?_
  simp only [bitL, List.getElem_set, List.getElem_map, List.getElem_range]
  rw [← Nat.toNat_testBit, ← Nat.toNat_testBit, Nat.testBit_or, Nat.testBit_two_pow]
  by_cases e : j = i
  · simp [e]
  · simp [e]
theorem bitL_bits (y : Nat) : ∀ b ∈ bitL y 32, 0 ≤ b ∧ b ≤ 1 := by
  intro b hb
  obtain ⟨i, _, rfl⟩ := List.mem_map.1 hb
  omega
theorem bitL_zero : bitL 0 32 = List.replicate 32 0 := by decide
theorem bit_mod (y j : Nat) : y.testBit j = true ↔ y / 2 ^ j % 2 = 1 := by rw [Nat.testBit_eq_decide_div_mod_eq]; simp

/-- What reading a list of bits answers. -/
def ofA (l : List Int) : Nat := (bitsG 0 l).getD 0
def ofB (l : List Int) : Bool := (bitsG 0 l).isSome

theorem RdK.take {kd : IntKind} {w : World} {B : Nat} {A : Option Addr} {n m : Nat} {zs : List Int} (h : RdK kd w B A n zs) (hm : m ≤ n) : RdK kd w B A m (zs.take m) :=
  ⟨by rw [List.length_take, h.1]; omega, fun h0 => by
    obtain ⟨g, o, e, hg, hc⟩ := h.2 (by omega)
    refine ⟨g, o, e, hg, fun i hi => ?_⟩
    rw [hc i (by omega)]
    simp [hi]⟩
theorem OwnK.cap {e : TypeId} {kd : IntKind} {w : World} {b0 n c : Nat} {A : Option Addr} {zs : List Int} (h : OwnK e kd w b0 A n c zs) : n ≤ c ∧ c ≤ maxLen := by
  rcases h.2 with ⟨hv, h0⟩ | ⟨g, cap, cur, hv, r⟩
  · injection hv with h1 h2 h3
    unfold maxLen
    omega
  · injection hv with h1 h2 h3
    obtain ⟨_, _, r1, r2, _⟩ := r
    omega

theorem take_ints (l : List Nat) (m : Nat) : (ints l).take m = ints (l.take m) := by simp [ints]

end Go.Proofs.Ytibkjnfbpgohbaa
