/- The contracts of WarpStart, of the program and of the model. -/
import Derived.Test.YtibkjnfbpgohbaaWarpM
import Derived.Test.YtibkjnfbpgohbaaIsW
namespace Go.Proofs.Ytibkjnfbpgohbaa
open Go.RowKit

theorem startV_no {id K ch : Int} (h : ¬ StartOk id K ch) : startV id K ch = -1 := if_neg h
theorem startV_yes {id K ch : Int} (h : StartOk id K ch) : startV id K ch = (5 * id + 3 * K) % ch := if_pos h
theorem startV_bounds {id K ch : Int} (h : StartOk id K ch) : 0 ≤ startV id K ch ∧ startV id K ch < ch := by
  rw [startV_yes h]
  have := h.2.2.2.1
  exact ⟨Int.emod_nonneg _ (by omega), Int.emod_lt_of_pos _ (by omega)⟩

set_option maxHeartbeats 1000000 in
theorem warpStart_any (id K ch : Int) (w : World) :
    Calls Try.prog 6 #[.int .i64 id, .int .i64 K, .int .i64 ch] w fun e w' => e = .returned (.int .i64 (startV id K ch)) ∧ w = w' := by
  have HW := Lib.hid (isWarp_any id w)
  have HC := Lib.hid (isClass_any K w)
  by_cases hi : IsWarp id
  · rw [decide_eq_true hi] at HW
    by_cases hk : IsClass K
    · rw [decide_eq_true hk] at HC
      by_cases h1 : 1 ≤ ch
      · by_cases h2 : ch ≤ 16
        · have HV := Lib.hid (startV_yes ⟨hi.1, hi.2, hk, h1, h2⟩)
          obtain ⟨i0, i1⟩ := hi
          obtain ⟨k0, k1⟩ := hk
          go_enter Try.func6, Try.ntmps6
          go_wp2_with fail
          refine HW.out.mono ?_
          rintro e w1 ⟨rfl, rfl⟩
          go_wp2_with fail
          refine HC.out.mono ?_
          rintro e w1 ⟨rfl, rfl⟩
          go_wp2
          go_ret
          exact ⟨by rw [HV.out]; rfl, rfl⟩
        · have HV := Lib.hid (startV_no (id := id) (K := K) (ch := ch) (fun h => h2 h.2.2.2.2))
          clear hi hk
          go_enter Try.func6, Try.ntmps6
          go_wp2_with fail
          refine HW.out.mono ?_
          rintro e w1 ⟨rfl, rfl⟩
          go_wp2_with fail
          refine HC.out.mono ?_
          rintro e w1 ⟨rfl, rfl⟩
          go_wp2
          go_ret
          exact ⟨by rw [HV.out]; rfl, rfl⟩
      · have HV := Lib.hid (startV_no (id := id) (K := K) (ch := ch) (fun h => h1 h.2.2.2.1))
        clear hi hk
        go_enter Try.func6, Try.ntmps6
        go_wp2_with fail
        refine HW.out.mono ?_
        rintro e w1 ⟨rfl, rfl⟩
        go_wp2_with fail
        refine HC.out.mono ?_
        rintro e w1 ⟨rfl, rfl⟩
        go_wp2
        go_ret
        exact ⟨by rw [HV.out]; rfl, rfl⟩
    · rw [decide_eq_false hk] at HC
      have HV := Lib.hid (startV_no (id := id) (K := K) (ch := ch) (fun h => hk h.2.2.1))
      clear hi hk
      go_enter Try.func6, Try.ntmps6
      go_wp2_with fail
      refine HW.out.mono ?_
      rintro e w1 ⟨rfl, rfl⟩
      go_wp2_with fail
      refine HC.out.mono ?_
      rintro e w1 ⟨rfl, rfl⟩
      go_wp2
      go_ret
      exact ⟨by rw [HV.out]; rfl, rfl⟩
  · rw [decide_eq_false hi] at HW
    have HV := Lib.hid (startV_no (id := id) (K := K) (ch := ch) (fun h => hi ⟨h.1, h.2.1⟩))
    clear hi HC
    go_enter Try.func6, Try.ntmps6
    go_wp2_with fail
    refine HW.out.mono ?_
    rintro e w1 ⟨rfl, rfl⟩
    go_wp2
    go_ret
    exact ⟨by rw [HV.out]; rfl, rfl⟩

set_option maxHeartbeats 1000000 in
theorem sWarpStart_any (id K ch : Int) (w : World) :
    Calls Try.prog 7 #[.int .i64 id, .int .i64 K, .int .i64 ch] w fun e w' => e = .returned (.int .i64 (startV id K ch)) ∧ w = w' := by
  have HC := Lib.hid (sIsClass_any K w)
  by_cases h0 : 0 ≤ id
  · by_cases h3 : id ≤ 3
    · by_cases hk : IsClass K
      · rw [decide_eq_true hk] at HC
        by_cases h1 : 1 ≤ ch
        · by_cases h2 : ch ≤ 16
          · have HV := Lib.hid (startV_yes ⟨h0, by omega, hk, h1, h2⟩)
            obtain ⟨k0, k1⟩ := hk
            go_enter Try.func7, Try.ntmps7
            go_wp2_with fail
            refine HC.out.mono ?_
            rintro e w1 ⟨rfl, rfl⟩
            go_wp2
            go_ret
            exact ⟨by rw [HV.out]; rfl, rfl⟩
          · have HV := Lib.hid (startV_no (id := id) (K := K) (ch := ch) (fun h => h2 h.2.2.2.2))
            clear hk
            go_enter Try.func7, Try.ntmps7
            go_wp2_with fail
            refine HC.out.mono ?_
            rintro e w1 ⟨rfl, rfl⟩
            go_wp2
            go_ret
            exact ⟨by rw [HV.out]; rfl, rfl⟩
        · have HV := Lib.hid (startV_no (id := id) (K := K) (ch := ch) (fun h => h1 h.2.2.2.1))
          clear hk
          go_enter Try.func7, Try.ntmps7
          go_wp2_with fail
          refine HC.out.mono ?_
          rintro e w1 ⟨rfl, rfl⟩
          go_wp2
          go_ret
          exact ⟨by rw [HV.out]; rfl, rfl⟩
      · rw [decide_eq_false hk] at HC
        have HV := Lib.hid (startV_no (id := id) (K := K) (ch := ch) (fun h => hk h.2.2.1))
        clear hk
        go_enter Try.func7, Try.ntmps7
        go_wp2_with fail
        refine HC.out.mono ?_
        rintro e w1 ⟨rfl, rfl⟩
        go_wp2
        go_ret
        exact ⟨by rw [HV.out]; rfl, rfl⟩
    · have HV := Lib.hid (startV_no (id := id) (K := K) (ch := ch) (fun h => by have := h.2.1; omega))
      clear HC
      go_enter Try.func7, Try.ntmps7
      go_wp2
      go_ret
      exact ⟨by rw [HV.out]; rfl, rfl⟩
  · have HV := Lib.hid (startV_no (id := id) (K := K) (ch := ch) (fun h => h0 h.1))
    clear HC
    go_enter Try.func7, Try.ntmps7
    go_wp2
    go_ret
    exact ⟨by rw [HV.out]; rfl, rfl⟩

end Go.Proofs.Ytibkjnfbpgohbaa
