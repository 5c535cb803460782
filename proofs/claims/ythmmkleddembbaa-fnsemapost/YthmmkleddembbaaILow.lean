/- The contracts of the program's isWidth, MaskOf, FreeLow and BitsOf. -/
import Derived.Test.YthmmkleddembbaaTake
import Derived.Test.YthmmkleddembbaaSLow
namespace Go.Proofs.Ythmmkleddembbaa
open Go.RowKit Go.Shelf

attribute [local go_sem] Oper.semAt_some

theorem mask_form {M : Nat} (h : M ≤ 32) : IntKind.u64.wrap (IntKind.u64.wrap (2 ^ M) - 1) % 4294967296 = ((2 ^ M - 1 : Nat) : Int) := by
  have h1 : 2 ^ M ≤ 2 ^ 32 := Nat.pow_le_pow_right (by omega) h
  have h2 : 0 < 2 ^ M := Nat.pow_pos (by omega)
  rw [pow_cast]
  generalize 2 ^ M = y at *
  simp only [IntKind.wrap, IntKind.bits, IntKind.signed]
  simp
  omega
theorem not_form {X : Nat} (h : X < 4294967296) : bits .xor .u32 IntKind.u32.max (X : Int) = ((4294967295 - X : Nat) : Int) := by
  have h1 := u32_xor_nat 4294967295 X (by omega) h
  have h2 : 4294967295 ^^^ X = 4294967295 - X := by
    have e : 4294967295 - X = 2 ^ 32 - (X + 1) := by omega
    rw [e]
    refine Nat.eq_of_testBit_eq fun j => ?_
    rw [Nat.testBit_xor, Nat.testBit_two_pow_sub_succ (by omega), show 4294967295 = 2 ^ 32 - 1 from rfl, Nat.testBit_two_pow_sub_one]
    by_cases hj : j < 32
    · simp [hj]
    · have h3 : X.testBit j = false := Nat.testBit_lt_two_pow (Nat.lt_of_lt_of_le h (Nat.pow_le_pow_right (n := 2) (by omega) (show 32 ≤ j by omega)))
      simp [hj, h3]
  rw [h2] at h1
  exact h1
theorem free_form {X : Nat} (h : X < 4294967296) (wd : Int) : bits .and .u32 (bits .xor .u32 IntKind.u32.max (X : Int)) (maskV wd : Int) = (freeV X wd : Int) := by
  rw [not_form h, u32_and_nat _ _ (by omega) (maskV_lt wd), freeV_and]

set_option maxHeartbeats 400000 in
theorem isWidth_in (F : Fence) (n : Nat) (hf : F.fn 31) (hro : F.round = none) (N : Int) (w : World) :
    CallsIn F n Try.prog 31 #[.int .i64 N] w fun e w' => e = .returned (.bool (decide (IsWidth N))) ∧ w = w' := by
  by_cases h0 : 0 ≤ N
  · by_cases h1 : N ≤ 32
    · have hd : Hid (decide (IsWidth N) = true) := decide_eq_true ⟨h0, h1⟩
      refine callsIn_of_wp Try.func31 rfl hf ?_ hro
      simp only [Try.ntmps31, List.size_toArray, List.length_cons, List.length_nil, Nat.reduceAdd, Nat.reduceSub, Array.replicate_succ, Array.replicate_zero, List.push_toArray, List.append_toArray, List.nil_append, List.cons_append]
      gi_wp2
      go_ret
      exact ⟨by rw [hd.out]; rfl, rfl⟩
    · have hd : Hid (decide (IsWidth N) = false) := decide_eq_false (fun h => h1 h.2)
      refine callsIn_of_wp Try.func31 rfl hf ?_ hro
      simp only [Try.ntmps31, List.size_toArray, List.length_cons, List.length_nil, Nat.reduceAdd, Nat.reduceSub, Array.replicate_succ, Array.replicate_zero, List.push_toArray, List.append_toArray, List.nil_append, List.cons_append]
      gi_wp2
      go_ret
      exact ⟨by rw [hd.out]; rfl, rfl⟩
  · have hd : Hid (decide (IsWidth N) = false) := decide_eq_false (fun h => h0 h.1)
    refine callsIn_of_wp Try.func31 rfl hf ?_ hro
    simp only [Try.ntmps31, List.size_toArray, List.length_cons, List.length_nil, Nat.reduceAdd, Nat.reduceSub, Array.replicate_succ, Array.replicate_zero, List.push_toArray, List.append_toArray, List.nil_append, List.cons_append]
    gi_wp2
    go_ret
    exact ⟨by rw [hd.out]; rfl, rfl⟩

set_option maxRecDepth 100000 in
set_option maxHeartbeats 400000 in
theorem maskOf_in (F : Fence) (n : Nat) (hf : F.fn 30) (hg : F.fn 31) (hn : 1 ≤ n) (hro : F.round = none) (N : Int) (w : World) :
    CallsIn F n Try.prog 30 #[.int .i64 N] w fun e w' => e = .returned (.int .u32 (maskV N : Int)) ∧ w = w' := by
  have hw := isWidth_in F (n - 1) hg hro N w
  by_cases hN : IsWidth N
  · rw [decide_eq_true hN] at hw
    have HW := Lib.hid hw
    have hV : maskV N = 2 ^ N.toNat - 1 := if_pos hN
    unfold IsWidth at hN
    obtain ⟨M, rfl⟩ := Int.eq_ofNat_of_zero_le hN.1
    rw [Int.toNat_natCast] at hV
    have HV := Lib.hid hV
    have hM : M ≤ 32 := by omega
    clear hV hN hw
    refine callsIn_of_wp Try.func30 rfl hf ?_ hro
    simp only [Try.ntmps30, List.size_toArray, List.length_cons, List.length_nil, Nat.reduceAdd, Nat.reduceSub, Array.replicate_succ, Array.replicate_zero, List.push_toArray, List.append_toArray, List.nil_append, List.cons_append]
    gi_wp2_with (gi_at_call 31; refine HW.out.mono ?_; rintro e w' ⟨rfl, rfl⟩)
    go_ret
    exact ⟨by rw [HV.out, ← mask_form hM]; rfl, rfl⟩
  · rw [decide_eq_false hN] at hw
    have HW := Lib.hid hw
    have hV : maskV N = 0 := if_neg hN
    have HV := Lib.hid hV
    clear hV hN hw
    refine callsIn_of_wp Try.func30 rfl hf ?_ hro
    simp only [Try.ntmps30, List.size_toArray, List.length_cons, List.length_nil, Nat.reduceAdd, Nat.reduceSub, Array.replicate_succ, Array.replicate_zero, List.push_toArray, List.append_toArray, List.nil_append, List.cons_append]
    gi_wp2_with (gi_at_call 31; refine HW.out.mono ?_; rintro e w' ⟨rfl, rfl⟩)
    go_ret
    exact ⟨by rw [HV.out]; rfl, rfl⟩
theorem maskOf_any (N : Int) (w : World) : Calls Try.prog 30 #[.int .i64 N] w fun e w' => e = .returned (.int .u32 (maskV N : Int)) ∧ w = w' :=
  callsIn_wide.1 (maskOf_in Fence.wide 1 trivial trivial (Nat.le_refl _) rfl N w)

theorem or_bit {y j : Nat} (hy : y < 4294967296) (hj : j < 32) : bits .or .u32 (y : Int) (2 ^ j % 4294967296) = ((y ||| 2 ^ j : Nat) : Int) := by
  have h2 : 2 ^ j < 4294967296 := Nat.pow_lt_pow_right (n := 32) (by omega) hj
  have h := u32_or_nat y (2 ^ j) hy h2
  rw [← h, pow_cast]
  generalize 2 ^ j = z at *
  rw [Int.emod_eq_of_lt (by omega) (by omega)]

end Go.Proofs.Ythmmkleddembbaa
