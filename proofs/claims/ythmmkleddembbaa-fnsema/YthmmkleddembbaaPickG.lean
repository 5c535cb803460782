/- The contract of the laws' pick at any place: a number below the given one, the bytes only read. -/
import Derived.Test.YthmmkleddembbaaCurOpen
namespace Go.Proofs.Ythmmkleddembbaa
open Go.RowKit

set_option maxRecDepth 100000 in
set_option maxHeartbeats 2000000 in
theorem pickG_any (A : Option Addr) (n c B : Nat) (bs : List Int) (p a : Nat) (w : World) (h : RdK .u8 w B A n bs) (hf : ∀ z ∈ bs, 0 ≤ z ∧ z < 256) (hn : n ≤ 1048576) (hp0 : p ≤ 1000) (ha : a ≤ 1000) (h0 : 0 < a) :
    Calls Try.prog 6 #[.slice A n c, .int .i64 (p : Int), .int .i64 (a : Int)] w fun e w' => ∃ r : Nat, e = .returned (.int .i64 (r : Int)) ∧ r < a ∧ w = w' := by
  have H := Lib.hid h
  have HF := Lib.hid hf
  clear h hf
  by_cases hn0 : n = 0
  · subst hn0
    go_enter Try.func6, Try.ntmps6
    go_wp2
    go_ret
    exact ⟨0, rfl, h0, rfl⟩
  · have hp : ¬ (n : Int) = 0 := by omega
    have hpd : ((n : Int) == 0) = false := by simp; omega
    by_cases h2 : a < 2
    · have h2' : (a : Int) < 2 := by omega
      have h2d : decide ((a : Int) < 2) = true := decide_eq_true h2'
      go_enter Try.func6, Try.ntmps6
      go_wp2
      go_ret
      exact ⟨0, rfl, h0, rfl⟩
    · have h2' : ¬ (a : Int) < 2 := by omega
      have h2d : decide ((a : Int) < 2) = false := decide_eq_false h2'
      obtain ⟨g, o, rfl, hg, hc⟩ := H.out.2 (by omega)
      have HCC := Lib.hid hc
      have ha0 : ¬ (a : Int) = 0 := by omega
      clear hc H hg
      go_enter Try.func6, Try.ntmps6
      go_wp2
      go_loop [7, 8] (fun x i => ∃ (k : Nat) (y : Int), k ≤ 3 ∧ i = .int .i64 k ∧ x = .int .i64 y ∧ 0 ≤ y ∧ Hid ((k = 0 → y = 0) ∧ (k ≤ 1 → y ≤ 255) ∧ (k ≤ 2 → y ≤ 8160)) ∧ y ≤ 253215) (fun _ i => 3 - (intOf i).toNat)
      case atStart => exact ⟨0, 0, by omega, rfl, rfl, by omega, (by refine ⟨?_, ?_, ?_⟩ <;> omega : _ ∧ _ ∧ _), by omega⟩
      case round =>
        obtain ⟨k, y, hk, rfl, rfl, y0, HY, y1⟩ := hrel
        by_cases hlt : k < 3
        · obtain ⟨m, hm⟩ : ∃ m, m = (p + k) % n := ⟨_, rfl⟩
          have ml : m < n := by rw [hm]; exact Nat.mod_lt _ (by omega)
          have cj := HCC.out m ml
          have by1 := (byte_at HF.out m).1
          have by2 := (byte_at HF.out m).2
          generalize bs[m]?.getD 0 = z at *
          have em : ((p : Int) + (k : Int)) % (n : Int) = (m : Int) := by rw [hm, Int.natCast_emod, Int.natCast_add]
          have et : ((p : Int) + (k : Int)).tmod (n : Int) = (m : Int) := by rw [Int.tmod_eq_emod_of_nonneg (by omega)]; exact em
          have ew : IntKind.i64.wrap (m : Int) = (m : Int) := IntWalk.i64_in _ (by omega)
          have ml1 : (0 : Int) ≤ (m : Int) := by omega
          have ml2 : (m : Int) < (n : Int) := by omega
          have HN : Hid ((k + 1 = 0 → 31 * y + z = 0) ∧ (k + 1 ≤ 1 → 31 * y + z ≤ 255) ∧ (k + 1 ≤ 2 → 31 * y + z ≤ 8160)) := by
            obtain ⟨a1, a2, a3⟩ := HY.out
            refine (⟨?_, ?_, ?_⟩ : _ ∧ _ ∧ _)
            · omega
            · intro h; have := a1 (by omega); omega
            · intro h; have := a2 (by omega); omega
          have HN2 : Hid (31 * y + z ≤ 253215) := by
            have := HY.out.2.2 (by omega)
            exact (by omega : 31 * y + z ≤ 253215)
          clear hm HY
          go_wp2
          go_round
          case rel => exact ⟨k + 1, 31 * y + z, by omega, by go_num, by first | rfl | go_num, by omega, HN, HN2.out⟩
          case measure => simp [intOf]; omega
        · obtain rfl : k = 3 := by omega
          have er : (y + (p : Int)).tmod (a : Int) = (((y + (p : Int)) % (a : Int)).toNat : Int) := by
            rw [Int.tmod_eq_emod_of_nonneg (by omega)]
            have := Int.emod_nonneg (y + (p : Int)) ha0
            omega
          have hr : ((y + (p : Int)) % (a : Int)).toNat < a := by
            have := Int.emod_lt_of_pos (y + (p : Int)) (show (0 : Int) < a by omega)
            omega
          generalize ((y + (p : Int)) % (a : Int)).toNat = r at *
          have ew : IntKind.i64.wrap (r : Int) = (r : Int) := IntWalk.i64_in _ (by omega)
          clear HY
          go_wp2
          go_ret
          exact ⟨r, rfl, hr, rfl⟩

end Go.Proofs.Ythmmkleddembbaa
