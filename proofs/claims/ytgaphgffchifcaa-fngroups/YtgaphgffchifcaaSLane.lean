/- The contracts of the model's l03Mask, Leader, RankOf, NthLane. -/
import Derived.Test.YtgaphgffchifcaaSBits
import Derived.Test.YtgaphgffchifcaaLaneMath
namespace Go.Proofs.Ytgaphgffchifcaa
open Go.RowKit

set_option maxHeartbeats 400000 in
theorem sMask_any (X : Nat) (w : World) (hX : X < 4294967296) :
    Calls Try.prog 56 #[.int .u32 (X : Int)] w fun e w' => e = .returned (.bool (decide (X < 256))) ∧ Below w.heap.size w w' := by
  have HC := Lib.hid (sHighest_any X w hX)
  by_cases hx : X < 256
  · have h8 : highOf (onesTo X 32) < 8 := (high_mask hX).2 hx
    rw [decide_eq_true hx]
    generalize highOf (onesTo X 32) = y at *
    clear hX hx
    go_enter Try.func56, Try.ntmps56
    go_wp2_with fail
    refine HC.out.mono ?_
    rintro e w1 ⟨rfl, hb⟩
    have HB := Lib.hid hb
    clear hb
    go_wp2
    go_ret
    exact ⟨rfl, HB.out⟩
  · have h8 : ¬ highOf (onesTo X 32) < 8 := fun e => hx ((high_mask hX).1 e)
    rw [decide_eq_false hx]
    generalize highOf (onesTo X 32) = y at *
    clear hX hx
    go_enter Try.func56, Try.ntmps56
    go_wp2_with fail
    refine HC.out.mono ?_
    rintro e w1 ⟨rfl, hb⟩
    have HB := Lib.hid hb
    clear hb
    go_wp2
    go_ret
    exact ⟨by show Ending.returned (Value.bool (decide (y < 8))) = _; rw [decide_eq_false (by omega)], HB.out⟩

set_option maxHeartbeats 400000 in
theorem sLeader_any (X : Nat) (w : World) (hX : X < 4294967296) :
    Calls Try.prog 39 #[.int .u32 (X : Int)] w fun e w' => e = .returned (.int .i64 (nthV X 0)) ∧ Below w.heap.size w w' := by
  have HM := Lib.hid (sMask_any X w hX)
  have HL : Hid (∀ W, Calls Try.prog 68 #[.int .u32 (X : Int)] W fun e w' => e = .returned (.int .i64 (lowOf (onesTo X 32))) ∧ Below W.heap.size W w') := fun W => sLowest_any X W hX
  by_cases hx : X < 256
  · rw [decide_eq_true hx] at HM
    rw [← nthV_zero hx] at HL
    clear hX hx
    go_enter Try.func39, Try.ntmps39
    go_wp2_with fail
    refine HM.out.mono ?_
    rintro e w1 ⟨rfl, hb⟩
    have B1 := Lib.hid hb
    clear hb
    go_wp2_with fail
    refine (HL.out w1).mono ?_
    rintro e w2 ⟨rfl, hb⟩
    have B2 := Lib.hid hb
    have z1 := B1.out.size
    clear hb
    go_wp2
    go_ret
    exact ⟨rfl, (by repeat (first | exact Below.refl _ _ | refine Below.drew ?_ | refine Below.setCell ?_ (by first | omega | (simp; done) | (simp; omega) | (simp [*]; done)) _ | refine Below.alloc ?_ (by first | omega | (simp; done) | (simp; omega) | (simp [*]; done)) _ | refine Below.trans ?_ (Below.mono (B1.out) (by first | omega | (simp; done) | (simp; omega) | (simp [*]; done))) | refine Below.trans ?_ (Below.mono (B2.out) (by first | omega | (simp; done) | (simp; omega) | (simp [*]; done)))))⟩
  · rw [decide_eq_false hx] at HM
    have HV := Lib.hid (nthV_nomask (N := 0) hx)
    clear hX hx
    go_enter Try.func39, Try.ntmps39
    go_wp2_with fail
    refine HM.out.mono ?_
    rintro e w1 ⟨rfl, hb⟩
    have B1 := Lib.hid hb
    clear hb
    go_wp2
    go_ret
    exact ⟨by rw [HV.out]; rfl, B1.out⟩

set_option maxHeartbeats 800000 in
theorem sNthLane_any (X : Nat) (N : Int) (w : World) (hX : X < 4294967296) :
    Calls Try.prog 17 #[.int .u32 (X : Int), .int .i64 N] w fun e w' => e = .returned (.int .i64 (nthV X N)) ∧ Below w.heap.size w w' := by
  have HC := Lib.hid (sBitList_any X w hX)
  have HM : Hid (∀ W, Calls Try.prog 56 #[.int .u32 (X : Int)] W fun e w' => e = .returned (.bool (decide (X < 256))) ∧ Below W.heap.size W w') := fun W => sMask_any X W hX
  by_cases hx : X < 256
  · rw [decide_eq_true hx] at HM
    by_cases h0 : N < 0
    · have HV := Lib.hid (nthV_out (X := X) (N := N) (by omega))
      clear hX hx
      go_enter Try.func17, Try.ntmps17
      go_wp2_with fail
      refine HC.out.mono ?_
      rintro e w1 ⟨A, c, rfl, ho, hb⟩
      have B1 := Lib.hid hb
      clear ho hb
      go_wp2_with fail
      refine (HM.out w1).mono ?_
      rintro e w2 ⟨rfl, hb⟩
      have B2 := Lib.hid hb
      have z1 := B1.out.size
      clear hb
      go_wp2
      go_ret
      exact ⟨by rw [HV.out]; rfl, (by repeat (first | exact Below.refl _ _ | refine Below.drew ?_ | refine Below.setCell ?_ (by first | omega | (simp; done) | (simp; omega) | (simp [*]; done)) _ | refine Below.alloc ?_ (by first | omega | (simp; done) | (simp; omega) | (simp [*]; done)) _ | refine Below.trans ?_ (Below.mono (B1.out) (by first | omega | (simp; done) | (simp; omega) | (simp [*]; done))) | refine Below.trans ?_ (Below.mono (B2.out) (by first | omega | (simp; done) | (simp; omega) | (simp [*]; done)))))⟩
    · obtain ⟨i, rfl⟩ := Int.eq_ofNat_of_zero_le (show 0 ≤ N by omega)
      by_cases h1 : i < (onesTo X 32).length
      · have HV := Lib.hid (nthV_in hx h1)
        have h1' : ¬ ((onesTo X 32).length : Int) ≤ (i : Int) := by omega
        clear hX hx
        have hat := ints_at (onesTo X 32) h1
        have e2 : (onesTo X 32)[i]?.getD 0 = (onesTo X 32)[i] := by simp [h1]
        rw [← e2] at hat
        have HT := Lib.hid hat
        clear hat e2 h0
        go_enter Try.func17, Try.ntmps17
        go_wp2_with fail
        refine HC.out.mono ?_
        rintro e w1 ⟨A, c, rfl, ho, hb⟩
        obtain ⟨g, rfl, _, hg⟩ := ho.form (by omega)
        have c1 := ho.cell rfl h1
        rw [HT.out] at c1
        have B1 := Lib.hid hb
        clear ho hb
        go_wp2_with fail
        refine (HM.out w1).mono ?_
        rintro e w2 ⟨rfl, hb⟩
        have c2 := later hb c1
        have B2 := Lib.hid hb
        have z1 := B1.out.size
        clear hb c1
        rw [← HV.out] at c2
        generalize (onesTo X 32).length = m at *
        go_wp2
        go_ret
        exact ⟨rfl, (by repeat (first | exact Below.refl _ _ | refine Below.drew ?_ | refine Below.setCell ?_ (by first | omega | (simp; done) | (simp; omega) | (simp [*]; done)) _ | refine Below.alloc ?_ (by first | omega | (simp; done) | (simp; omega) | (simp [*]; done)) _ | refine Below.trans ?_ (Below.mono (B1.out) (by first | omega | (simp; done) | (simp; omega) | (simp [*]; done))) | refine Below.trans ?_ (Below.mono (B2.out) (by first | omega | (simp; done) | (simp; omega) | (simp [*]; done)))))⟩
      · have HV := Lib.hid (nthV_out (X := X) (N := (i : Int)) (by omega))
        have h1' : ((onesTo X 32).length : Int) ≤ (i : Int) := by omega
        clear hX hx h0 h1
        go_enter Try.func17, Try.ntmps17
        go_wp2_with fail
        refine HC.out.mono ?_
        rintro e w1 ⟨A, c, rfl, ho, hb⟩
        have B1 := Lib.hid hb
        clear ho hb
        go_wp2_with fail
        refine (HM.out w1).mono ?_
        rintro e w2 ⟨rfl, hb⟩
        have B2 := Lib.hid hb
        have z1 := B1.out.size
        clear hb
        generalize (onesTo X 32).length = m at *
        go_wp2
        go_ret
        exact ⟨by rw [HV.out]; rfl, (by repeat (first | exact Below.refl _ _ | refine Below.drew ?_ | refine Below.setCell ?_ (by first | omega | (simp; done) | (simp; omega) | (simp [*]; done)) _ | refine Below.alloc ?_ (by first | omega | (simp; done) | (simp; omega) | (simp [*]; done)) _ | refine Below.trans ?_ (Below.mono (B1.out) (by first | omega | (simp; done) | (simp; omega) | (simp [*]; done))) | refine Below.trans ?_ (Below.mono (B2.out) (by first | omega | (simp; done) | (simp; omega) | (simp [*]; done)))))⟩
  · rw [decide_eq_false hx] at HM
    have HV := Lib.hid (nthV_nomask (N := N) hx)
    clear hX hx
    go_enter Try.func17, Try.ntmps17
    go_wp2_with fail
    refine HC.out.mono ?_
    rintro e w1 ⟨A, c, rfl, ho, hb⟩
    have B1 := Lib.hid hb
    clear ho hb
    go_wp2_with fail
    refine (HM.out w1).mono ?_
    rintro e w2 ⟨rfl, hb⟩
    have B2 := Lib.hid hb
    have z1 := B1.out.size
    clear hb
    go_wp2
    go_ret
    exact ⟨by rw [HV.out]; rfl, (by repeat (first | exact Below.refl _ _ | refine Below.drew ?_ | refine Below.setCell ?_ (by first | omega | (simp; done) | (simp; omega) | (simp [*]; done)) _ | refine Below.alloc ?_ (by first | omega | (simp; done) | (simp; omega) | (simp [*]; done)) _ | refine Below.trans ?_ (Below.mono (B1.out) (by first | omega | (simp; done) | (simp; omega) | (simp [*]; done))) | refine Below.trans ?_ (Below.mono (B2.out) (by first | omega | (simp; done) | (simp; omega) | (simp [*]; done)))))⟩

set_option maxHeartbeats 800000 in
theorem sRankOf_any (X : Nat) (L : Int) (w : World) (hX : X < 4294967296) :
    Calls Try.prog 40 #[.int .u32 (X : Int), .int .i64 L] w fun e w' => e = .returned (.int .i64 (rankV X L)) ∧ Below w.heap.size w w' := by
  have HC := Lib.hid (sBitList_any X w hX)
  have HM : Hid (∀ W, Calls Try.prog 56 #[.int .u32 (X : Int)] W fun e w' => e = .returned (.bool (decide (X < 256))) ∧ Below W.heap.size W w') := fun W => sMask_any X W hX
  have hlen := onesTo_len X 32
  have HI : Hid (∀ i, (h : i < (onesTo X 32).length) → (ints (onesTo X 32))[i]?.getD 0 = (((onesTo X 32)[i]?.getD 0 : Nat) : Int)) := fun i h => by
    rw [ints_at _ h]; simp [h]
  have HA : Hid (X < 256 → ∀ i, i < (onesTo X 32).length → rankV X (((onesTo X 32)[i]?.getD 0 : Nat) : Int) = i) := fun h i hi => rankV_at h hi
  have HN : Hid ((∀ i, i < (onesTo X 32).length → (((onesTo X 32)[i]?.getD 0 : Nat) : Int) ≠ L) → rankV X L = -1) := fun h => rankV_no fun ⟨h1, h2, h3⟩ => by
    have h8 := bit_lt_8 h1 h3
    obtain ⟨h4, h5⟩ := ones_at_rank (by omega) h3
    refine h _ h4 ?_
    rw [h5]; omega
  have HX : Hid (¬ X < 256 → rankV X L = -1) := fun h => rankV_no fun e => h e.1
  clear hX
  generalize ints (onesTo X 32) = zs at *
  generalize onesTo X 32 = l at *
  generalize rankV X = rk at *
  go_enter Try.func40, Try.ntmps40
  go_wp2_with fail
  refine HC.out.mono ?_
  rintro e w1 ⟨A, c, rfl, ho, hb⟩
  have O1 := Lib.hid ho
  have B1 := Lib.hid hb
  clear ho hb
  go_wp2
  go_loopw [6] (fun i wr => ∃ k : Nat, k ≤ l.length ∧ i = .int .i64 k ∧ Hid (∀ i, i < k → ((l[i]?.getD 0 : Nat) : Int) ≠ L) ∧ Hid (OwnK 3 .i64 wr w.heap.size A l.length c zs) ∧ Hid (Below w.heap.size w wr)) (fun i _ => l.length - (intOf i).toNat)
  case atStart => exact ⟨0, by omega, rfl, fun i h => absurd h (by omega), O1, B1⟩
  case round =>
    obtain ⟨k, hk, rfl, HP, HO, HB⟩ := hrel
    clear O1 B1 HC
    have hs : w.heap.size ≤ wr.heap.size := HB.out.size
    by_cases hlt : k < l.length
    · by_cases hx : X < 256
      · rw [decide_eq_true hx] at HM
        obtain ⟨g, rfl, _, hg⟩ := HO.out.form (by omega)
        have c1 := HO.out.cell rfl hlt
        rw [HI.out k hlt] at c1
        have HR := Lib.hid (HA.out hx k hlt)
        have hq : Hid (¬ ((l[k]?.getD 0 : Nat) : Int) = L → ∀ i, i < k + 1 → ((l[i]?.getD 0 : Nat) : Int) ≠ L) := fun h i hi => by
          by_cases e : i = k
          · subst e; exact h
          · exact HP.out i (by omega)
        clear hx HA HP HX HN
        generalize hz : ((l[k]?.getD 0 : Nat) : Int) = z at *
        clear hz
        have hkl : (k : Int) < (l.length : Int) := by omega
        go_wp2_with fail
        refine (HM.out wr).mono ?_
        rintro e w2 ⟨rfl, hb⟩
        have c2 := later hb c1
        have O2 := Lib.hid (HO.out.below hb)
        have B2 := Lib.hid (HB.out.trans (hb.mono hs))
        clear hb c1 HO HB
        by_cases hz : z = L
        · subst hz
          go_wp2
          go_ret
          exact ⟨by rw [HR.out]; rfl, B2.out⟩
        · have HQ := Lib.hid (hq.out hz)
          clear hq
          go_wp2
          go_roundw
          case rel => exact ⟨k + 1, by omega, by go_num, HQ, O2, B2⟩
          case measure => simp [intOf]; omega
      · rw [decide_eq_false hx] at HM
        have HV := Lib.hid (HX.out hx)
        have hkl : (k : Int) < (l.length : Int) := by omega
        clear hx HA HP HX HN HI
        go_wp2_with fail
        refine (HM.out wr).mono ?_
        rintro e w2 ⟨rfl, hb⟩
        have B2 := Lib.hid (HB.out.trans (hb.mono hs))
        clear hb HO HB
        go_wp2
        go_ret
        exact ⟨by rw [HV.out]; rfl, B2.out⟩
    · have HV := Lib.hid (HN.out fun i hi => HP.out i (by omega))
      have hkl : ¬ (k : Int) < (l.length : Int) := by omega
      clear HA HP HX HN HI HM
      go_wp2
      go_ret
      exact ⟨by rw [HV.out]; rfl, HB.out⟩

end Go.Proofs.Ytgaphgffchifcaa
