/- The contracts of Ballot, the program's and the model's: the mask of the lanes that voted true. -/
import Derived.Test.YtooegpebimpjcaaBoolS
import Derived.Test.YtooegpebimpjcaaILow
namespace Go.Proofs.Ytooegpebimpjcaa
open Go.RowKit

/-- The places below k that hold true. -/
def truesTo (bs : List Bool) (k : Nat) : List Nat := (List.range k).filter (fun i => bs[i]?.getD false)
theorem trues_hit {bs : List Bool} {k : Nat} (h : bs[k]?.getD false = true) : truesTo bs (k + 1) = truesTo bs k ++ [k] := by simp [truesTo, List.range_succ, h]
theorem trues_miss {bs : List Bool} {k : Nat} (h : bs[k]?.getD false = false) : truesTo bs (k + 1) = truesTo bs k := by simp [truesTo, List.range_succ, h]
theorem trues_lt {bs : List Bool} {k j : Nat} (h : j ∈ truesTo bs k) : j < k := by simp [truesTo] at h; exact h.1
theorem trues_len (bs : List Bool) (k : Nat) : (truesTo bs k).length ≤ k := by
  have := List.length_filter_le (fun i => bs[i]?.getD false) (List.range k)
  simpa [truesTo] using this
theorem trues_orL_lt (bs : List Bool) {k : Nat} (h : k ≤ 32) : orL (truesTo bs k) < 4294967296 := orL_lt fun j hj => by have := trues_lt hj; omega
theorem trues_nodup (bs : List Bool) (k : Nat) : (truesTo bs k).Nodup := by unfold truesTo; exact List.Sublist.nodup List.filter_sublist List.nodup_range
/-- What Ballot answers. -/
def ballotA (n : Nat) (bs : List Bool) : Nat := if n = 8 then orL (truesTo bs 8) else 0
def ballotB (n : Nat) : Bool := decide (n = 8)
theorem trues_ofA (bs : List Bool) : ofA (ints (truesTo bs 8)) = orL (truesTo bs 8) ∧ ofB (ints (truesTo bs 8)) = true := by
  have h : bitsG 0 (ints (truesTo bs 8)) = some (orL (truesTo bs 8)) := bitsG_ok _ 0 (fun k hk => ⟨by have := trues_lt hk; omega, Nat.zero_testBit k⟩) (trues_nodup bs 8)
  unfold ofA ofB
  rw [h]
  exact ⟨rfl, rfl⟩

set_option maxRecDepth 100000 in
set_option maxHeartbeats 1000000 in
theorem ballot_any (A : Option Addr) (n c B : Nat) (bs : List Bool) (w : World) (h : RdB w B A n bs) :
    Calls Try.prog 94 #[.slice A n c] w fun e w' => e = .returned (.tuple #[.int .u32 (ballotA n bs : Int), .bool (ballotB n)]) ∧ w = w' := by
  by_cases hn : n = 8
  · subst hn
    have hA : ballotA 8 bs = orL (truesTo bs 8) := rfl
    have hB : ballotB 8 = true := rfl
    have HA := Lib.hid hA
    rw [hB]
    obtain ⟨g, o, rfl, hg, hc⟩ := h.2 (by omega)
    have HC := Lib.hid hc
    clear hc h hA hB
    go_enter Try.func94, Try.ntmps94
    go_wp2
    go_loop [4, 12] (fun x i => ∃ k : Nat, k ≤ 8 ∧ i = .int .i64 k ∧ x = .int .u32 (orL (truesTo bs k) : Int)) (fun _ i => 8 - (intOf i).toNat)
    case atStart => exact ⟨0, by omega, rfl, rfl⟩
    case round =>
      obtain ⟨k, hk, rfl, rfl⟩ := hrel
      by_cases hlt : k < 8
      · have c1 := HC.out k hlt
        have hk8 : (k : Int) < 8 := by omega
        have HO := Lib.hid (or_bit (trues_orL_lt bs (show k ≤ 32 by omega)) (show k < 32 by omega))
        have HH : Hid (bs[k]?.getD false = true → truesTo bs (k + 1) = truesTo bs k ++ [k]) := fun h => trues_hit h
        have HM : Hid (bs[k]?.getD false = false → truesTo bs (k + 1) = truesTo bs k) := fun h => trues_miss h
        generalize bs[k]?.getD false = b at *
        cases b
        · have HN := Lib.hid (HM.out rfl)
          clear HH HM
          go_wp2
          go_round
          case rel => exact ⟨k + 1, by omega, by go_num, by rw [HN.out]⟩
          case measure => simp [intOf]; omega
        · have HN := Lib.hid (HH.out rfl)
          clear HH HM
          go_wp2
          go_round
          case rel => exact ⟨k + 1, by omega, by go_num, by rw [HN.out, orL_snoc, ← HO.out]⟩
          case measure => simp [intOf]; omega
      · obtain rfl : k = 8 := by omega
        go_wp2
        go_ret2
        exact ⟨by rw [HA.out]; rfl, rfl⟩
  · have hA : ballotA n bs = 0 := if_neg hn
    have hB : ballotB n = false := decide_eq_false hn
    rw [hA, hB]
    have hn' : ¬ (n : Int) = 8 := by omega
    clear h hn hA hB
    go_enter Try.func94, Try.ntmps94
    go_wp2
    go_ret2
    exact ⟨rfl, rfl⟩

end Go.Proofs.Ytooegpebimpjcaa
