/- The contracts of the program's addToField (at its three uses) and changed. -/
import Derived.Test.YthmmkleddembbaaISema
namespace Go.Proofs.Ythmmkleddembbaa
open Go.RowKit
set_option linter.unusedVariables false

/-- The word of three fields. -/
def w3 (a b d : Int) : Int := a + 1024 * b + 1048576 * d

theorem fldC {a b d : Nat} (ha : a < 1024) (hb : b < 1024) (hd : d < 1024) : bits .and .u32 ((w3 a b d)) 1023 = (a : Int) := by
  have h1 := u32_and_nat ((a + 1024 * b + 1048576 * d) / 1) (2 ^ 10 - 1) (by omega) (by decide)
  rw [Nat.and_two_pow_sub_one_eq_mod] at h1
  have h2 : (w3 a b d) = (((a + 1024 * b + 1048576 * d) / 1 : Nat) : Int) := by unfold w3; omega
  rw [h2]
  refine Eq.trans h1 ?_
  omega
theorem setC {a b d g : Nat} (ha : a < 1024) (hb : b < 1024) (hd : d < 1024) (hg : g < 1024) :
    bits .or .u32 (bits .andNot .u32 (w3 a b d) 1023) ((g : Int)) = w3 (g) b d := by
  have e1 := field_clear (s := 0) (lo := 0) (f := a) (hi := b + 1024 * d) (k := 4294966272) (by omega) (by omega) (by omega) (by decide)
  have e2 := field_or (s := 0) (lo := 0) (g := g) (hi := b + 1024 * d) (by omega) hg
  have h1 := u32_andNot_nat (a + 1024 * b + 1048576 * d) 1023 (by omega) (by decide)
  rw [show (4294967295 - 1023 : Nat) = 4294966272 by decide, show a + 1024 * b + 1048576 * d = 0 + 2 ^ 0 * a + 2 ^ (0 + 10) * (b + 1024 * d) by omega, e1] at h1
  have h2 := u32_or_nat (0 + 2 ^ (0 + 10) * (b + 1024 * d)) (2 ^ 0 * g) (by omega) (by omega)
  rw [e2] at h2
  have c1 : w3 a b d = ((0 + 2 ^ 0 * a + 2 ^ (0 + 10) * (b + 1024 * d) : Nat) : Int) := by unfold w3; omega
  have c2 : ((g : Int)) = ((2 ^ 0 * g : Nat) : Int) := by omega
  rw [c1, c2]
  refine Eq.trans (congrArg (fun z => bits .or .u32 z _) h1) (h2.trans ?_)
  unfold w3
  omega

set_option maxHeartbeats 1000000 in
theorem addC_yes (a b d n : Int) (w : World) (ha : 0 ≤ a ∧ a < 1024) (hb : 0 ≤ b ∧ b < 1024) (hd : 0 ≤ d ∧ d < 1024) (hm : -1000 ≤ n ∧ n ≤ 1000) (hn : 0 ≤ a + n ∧ a + n < 1024) :
    Calls Try.prog 25 #[.int .u32 (w3 a b d), .int .i64 0, .int .i64 10, .int .i64 n] w fun e w' => e = .returned (.tuple #[.int .u32 (w3 (a + n) b d), .bool true]) ∧ ∃ k, w' = w.drewN k := by
  obtain ⟨a, rfl⟩ := Int.eq_ofNat_of_zero_le ha.1
  obtain ⟨b, rfl⟩ := Int.eq_ofNat_of_zero_le hb.1
  obtain ⟨d, rfl⟩ := Int.eq_ofNat_of_zero_le hd.1
  have HF0 := Lib.hid (fldC (a := a) (b := b) (d := d) (by omega) (by omega) (by omega))
  have x0 : (0 : Int) ≤ w3 a b d := by unfold w3; omega
  have x1 : w3 a b d < 4294967296 := by unfold w3; omega
  obtain ⟨f, hf⟩ : ∃ f : Int, f = (a : Int) := ⟨_, rfl⟩
  have HF : Hid (bits .and .u32 ((w3 a b d)) 1023 = f) := by
    show _ = _
    rw [hf]; exact HF0.out
  clear HF0
  have f0 : 0 ≤ f := by omega
  have f1 : f < 1024 := by omega
  obtain ⟨g, hg⟩ : ∃ g : Int, g = f + n := ⟨_, rfl⟩
  have g0 : 0 ≤ g := by omega
  have g1 : g < 1024 := by omega
  have HS : Hid (bits .or .u32 (bits .andNot .u32 (w3 a b d) 1023) (g) = w3 (a + n) b d) := by
    show _ = _
    obtain ⟨G, hG⟩ := Int.eq_ofNat_of_zero_le g0
    rw [hG, setC (by omega) (by omega) (by omega) (by omega), ← hG, hg, hf]
  generalize w3 (a + n) b d = z at *
  have hn1 := hm.1
  have hn2 := hm.2
  clear ha hb hd hm hn hf
  have hfn : f + n = g := hg.symm
  clear hg
  generalize w3 (a : Int) (b : Int) (d : Int) = x at *
  clear a b d
  go_enter Try.func25, Try.ntmps25
  have hb := HF.out
  go_wp2
  go_quiet (fail)
  go_wp2
  go_ret2
  exact ⟨by rw [HS.out]; first | done | rfl, _, rfl⟩

set_option maxHeartbeats 1000000 in
theorem addC_no (a b d n : Int) (w : World) (ha : 0 ≤ a ∧ a < 1024) (hb : 0 ≤ b ∧ b < 1024) (hd : 0 ≤ d ∧ d < 1024) (hm : -1000 ≤ n ∧ n ≤ 1000) (hn : ¬ (0 ≤ a + n ∧ a + n < 1024)) :
    Calls Try.prog 25 #[.int .u32 (w3 a b d), .int .i64 0, .int .i64 10, .int .i64 n] w fun e w' => e = .returned (.tuple #[.int .u32 0, .bool false]) ∧ ∃ k, w' = w.drewN k := by
  obtain ⟨a, rfl⟩ := Int.eq_ofNat_of_zero_le ha.1
  obtain ⟨b, rfl⟩ := Int.eq_ofNat_of_zero_le hb.1
  obtain ⟨d, rfl⟩ := Int.eq_ofNat_of_zero_le hd.1
  have HF0 := Lib.hid (fldC (a := a) (b := b) (d := d) (by omega) (by omega) (by omega))
  have x0 : (0 : Int) ≤ w3 a b d := by unfold w3; omega
  have x1 : w3 a b d < 4294967296 := by unfold w3; omega
  obtain ⟨f, hf⟩ : ∃ f : Int, f = (a : Int) := ⟨_, rfl⟩
  have HF : Hid (bits .and .u32 ((w3 a b d)) 1023 = f) := by
    show _ = _
    rw [hf]; exact HF0.out
  clear HF0
  have f0 : 0 ≤ f := by omega
  have f1 : f < 1024 := by omega
  obtain ⟨g, hg⟩ : ∃ g : Int, g = f + n := ⟨_, rfl⟩
  have hn0 : g < 0 ∨ 0 ≤ g ∧ 1023 < g := by omega
  have hn1 := hm.1
  have hn2 := hm.2
  clear ha hb hd hm hn hf
  have hfn : f + n = g := hg.symm
  clear hg
  generalize w3 (a : Int) (b : Int) (d : Int) = x at *
  clear a b d
  rcases hn0 with g0 | ⟨g0, g1⟩
  · go_enter Try.func25, Try.ntmps25
    have hb := HF.out
    go_wp2
    go_ret2
    exact ⟨rfl, 0, rfl⟩
  · go_enter Try.func25, Try.ntmps25
    have hb := HF.out
    go_wp2
    go_ret2
    exact ⟨rfl, 0, rfl⟩

theorem fldE {a b d : Nat} (ha : a < 1024) (hb : b < 1024) (hd : d < 1024) : bits .and .u32 ((w3 a b d) / 1024) 1023 = (b : Int) := by
  have h1 := u32_and_nat ((a + 1024 * b + 1048576 * d) / 1024) (2 ^ 10 - 1) (by omega) (by decide)
  rw [Nat.and_two_pow_sub_one_eq_mod] at h1
  have h2 : (w3 a b d) / 1024 = (((a + 1024 * b + 1048576 * d) / 1024 : Nat) : Int) := by unfold w3; omega
  rw [h2]
  refine Eq.trans h1 ?_
  omega
theorem setE {a b d g : Nat} (ha : a < 1024) (hb : b < 1024) (hd : d < 1024) (hg : g < 1024) :
    bits .or .u32 (bits .andNot .u32 (w3 a b d) 1047552) ((g : Int) * 1024) = w3 a (g) d := by
  have e1 := field_clear (s := 10) (lo := a) (f := b) (hi := d) (k := 4293919743) (by omega) (by omega) (by omega) (by decide)
  have e2 := field_or (s := 10) (lo := a) (g := g) (hi := d) (by omega) hg
  have h1 := u32_andNot_nat (a + 1024 * b + 1048576 * d) 1047552 (by omega) (by decide)
  rw [show (4294967295 - 1047552 : Nat) = 4293919743 by decide, show a + 1024 * b + 1048576 * d = a + 2 ^ 10 * b + 2 ^ (10 + 10) * (d) by omega, e1] at h1
  have h2 := u32_or_nat (a + 2 ^ (10 + 10) * (d)) (2 ^ 10 * g) (by omega) (by omega)
  rw [e2] at h2
  have c1 : w3 a b d = ((a + 2 ^ 10 * b + 2 ^ (10 + 10) * (d) : Nat) : Int) := by unfold w3; omega
  have c2 : ((g : Int) * 1024) = ((2 ^ 10 * g : Nat) : Int) := by omega
  rw [c1, c2]
  refine Eq.trans (congrArg (fun z => bits .or .u32 z _) h1) (h2.trans ?_)
  unfold w3
  omega

set_option maxHeartbeats 1000000 in
theorem addE_yes (a b d n : Int) (w : World) (ha : 0 ≤ a ∧ a < 1024) (hb : 0 ≤ b ∧ b < 1024) (hd : 0 ≤ d ∧ d < 1024) (hm : -1000 ≤ n ∧ n ≤ 1000) (hn : 0 ≤ b + n ∧ b + n < 1024) :
    Calls Try.prog 25 #[.int .u32 (w3 a b d), .int .i64 10, .int .i64 10, .int .i64 n] w fun e w' => e = .returned (.tuple #[.int .u32 (w3 a (b + n) d), .bool true]) ∧ ∃ k, w' = w.drewN k := by
  obtain ⟨a, rfl⟩ := Int.eq_ofNat_of_zero_le ha.1
  obtain ⟨b, rfl⟩ := Int.eq_ofNat_of_zero_le hb.1
  obtain ⟨d, rfl⟩ := Int.eq_ofNat_of_zero_le hd.1
  have HF0 := Lib.hid (fldE (a := a) (b := b) (d := d) (by omega) (by omega) (by omega))
  have x0 : (0 : Int) ≤ w3 a b d := by unfold w3; omega
  have x1 : w3 a b d < 4294967296 := by unfold w3; omega
  obtain ⟨f, hf⟩ : ∃ f : Int, f = (b : Int) := ⟨_, rfl⟩
  have HF : Hid (bits .and .u32 ((w3 a b d) / 1024) 1023 = f) := by
    show _ = _
    rw [hf]; exact HF0.out
  clear HF0
  have f0 : 0 ≤ f := by omega
  have f1 : f < 1024 := by omega
  obtain ⟨g, hg⟩ : ∃ g : Int, g = f + n := ⟨_, rfl⟩
  have g0 : 0 ≤ g := by omega
  have g1 : g < 1024 := by omega
  have HS : Hid (bits .or .u32 (bits .andNot .u32 (w3 a b d) 1047552) (g * 1024) = w3 a (b + n) d) := by
    show _ = _
    obtain ⟨G, hG⟩ := Int.eq_ofNat_of_zero_le g0
    rw [hG, setE (by omega) (by omega) (by omega) (by omega), ← hG, hg, hf]
  generalize w3 a (b + n) d = z at *
  have hn1 := hm.1
  have hn2 := hm.2
  clear ha hb hd hm hn hf
  have hfn : f + n = g := hg.symm
  clear hg
  generalize w3 (a : Int) (b : Int) (d : Int) = x at *
  clear a b d
  go_enter Try.func25, Try.ntmps25
  have hb := HF.out
  go_wp2
  go_quiet (fail)
  go_wp2
  go_ret2
  exact ⟨by rw [HS.out]; first | done | rfl, _, rfl⟩

set_option maxHeartbeats 1000000 in
theorem addE_no (a b d n : Int) (w : World) (ha : 0 ≤ a ∧ a < 1024) (hb : 0 ≤ b ∧ b < 1024) (hd : 0 ≤ d ∧ d < 1024) (hm : -1000 ≤ n ∧ n ≤ 1000) (hn : ¬ (0 ≤ b + n ∧ b + n < 1024)) :
    Calls Try.prog 25 #[.int .u32 (w3 a b d), .int .i64 10, .int .i64 10, .int .i64 n] w fun e w' => e = .returned (.tuple #[.int .u32 0, .bool false]) ∧ ∃ k, w' = w.drewN k := by
  obtain ⟨a, rfl⟩ := Int.eq_ofNat_of_zero_le ha.1
  obtain ⟨b, rfl⟩ := Int.eq_ofNat_of_zero_le hb.1
  obtain ⟨d, rfl⟩ := Int.eq_ofNat_of_zero_le hd.1
  have HF0 := Lib.hid (fldE (a := a) (b := b) (d := d) (by omega) (by omega) (by omega))
  have x0 : (0 : Int) ≤ w3 a b d := by unfold w3; omega
  have x1 : w3 a b d < 4294967296 := by unfold w3; omega
  obtain ⟨f, hf⟩ : ∃ f : Int, f = (b : Int) := ⟨_, rfl⟩
  have HF : Hid (bits .and .u32 ((w3 a b d) / 1024) 1023 = f) := by
    show _ = _
    rw [hf]; exact HF0.out
  clear HF0
  have f0 : 0 ≤ f := by omega
  have f1 : f < 1024 := by omega
  obtain ⟨g, hg⟩ : ∃ g : Int, g = f + n := ⟨_, rfl⟩
  have hn0 : g < 0 ∨ 0 ≤ g ∧ 1023 < g := by omega
  have hn1 := hm.1
  have hn2 := hm.2
  clear ha hb hd hm hn hf
  have hfn : f + n = g := hg.symm
  clear hg
  generalize w3 (a : Int) (b : Int) (d : Int) = x at *
  clear a b d
  rcases hn0 with g0 | ⟨g0, g1⟩
  · go_enter Try.func25, Try.ntmps25
    have hb := HF.out
    go_wp2
    go_ret2
    exact ⟨rfl, 0, rfl⟩
  · go_enter Try.func25, Try.ntmps25
    have hb := HF.out
    go_wp2
    go_ret2
    exact ⟨rfl, 0, rfl⟩

theorem fldR {a b d : Nat} (ha : a < 1024) (hb : b < 1024) (hd : d < 1024) : bits .and .u32 ((w3 a b d) / 1048576) 1023 = (d : Int) := by
  have h1 := u32_and_nat ((a + 1024 * b + 1048576 * d) / 1048576) (2 ^ 10 - 1) (by omega) (by decide)
  rw [Nat.and_two_pow_sub_one_eq_mod] at h1
  have h2 : (w3 a b d) / 1048576 = (((a + 1024 * b + 1048576 * d) / 1048576 : Nat) : Int) := by unfold w3; omega
  rw [h2]
  refine Eq.trans h1 ?_
  omega
theorem setR {a b d g : Nat} (ha : a < 1024) (hb : b < 1024) (hd : d < 1024) (hg : g < 1024) :
    bits .or .u32 (bits .andNot .u32 (w3 a b d) 1072693248) ((g : Int) * 1048576) = w3 a b (g) := by
  have e1 := field_clear (s := 20) (lo := a + 1024 * b) (f := d) (hi := 0) (k := 3222274047) (by omega) (by omega) (by omega) (by decide)
  have e2 := field_or (s := 20) (lo := a + 1024 * b) (g := g) (hi := 0) (by omega) hg
  have h1 := u32_andNot_nat (a + 1024 * b + 1048576 * d) 1072693248 (by omega) (by decide)
  rw [show (4294967295 - 1072693248 : Nat) = 3222274047 by decide, show a + 1024 * b + 1048576 * d = a + 1024 * b + 2 ^ 20 * d + 2 ^ (20 + 10) * (0) by omega, e1] at h1
  have h2 := u32_or_nat (a + 1024 * b + 2 ^ (20 + 10) * (0)) (2 ^ 20 * g) (by omega) (by omega)
  rw [e2] at h2
  have c1 : w3 a b d = ((a + 1024 * b + 2 ^ 20 * d + 2 ^ (20 + 10) * (0) : Nat) : Int) := by unfold w3; omega
  have c2 : ((g : Int) * 1048576) = ((2 ^ 20 * g : Nat) : Int) := by omega
  rw [c1, c2]
  refine Eq.trans (congrArg (fun z => bits .or .u32 z _) h1) (h2.trans ?_)
  unfold w3
  omega

set_option maxHeartbeats 1000000 in
theorem addR_yes (a b d n : Int) (w : World) (ha : 0 ≤ a ∧ a < 1024) (hb : 0 ≤ b ∧ b < 1024) (hd : 0 ≤ d ∧ d < 1024) (hm : -1000 ≤ n ∧ n ≤ 1000) (hn : 0 ≤ d + n ∧ d + n < 1024) :
    Calls Try.prog 25 #[.int .u32 (w3 a b d), .int .i64 20, .int .i64 10, .int .i64 n] w fun e w' => e = .returned (.tuple #[.int .u32 (w3 a b (d + n)), .bool true]) ∧ ∃ k, w' = w.drewN k := by
  obtain ⟨a, rfl⟩ := Int.eq_ofNat_of_zero_le ha.1
  obtain ⟨b, rfl⟩ := Int.eq_ofNat_of_zero_le hb.1
  obtain ⟨d, rfl⟩ := Int.eq_ofNat_of_zero_le hd.1
  have HF0 := Lib.hid (fldR (a := a) (b := b) (d := d) (by omega) (by omega) (by omega))
  have x0 : (0 : Int) ≤ w3 a b d := by unfold w3; omega
  have x1 : w3 a b d < 4294967296 := by unfold w3; omega
  obtain ⟨f, hf⟩ : ∃ f : Int, f = (d : Int) := ⟨_, rfl⟩
  have HF : Hid (bits .and .u32 ((w3 a b d) / 1048576) 1023 = f) := by
    show _ = _
    rw [hf]; exact HF0.out
  clear HF0
  have f0 : 0 ≤ f := by omega
  have f1 : f < 1024 := by omega
  obtain ⟨g, hg⟩ : ∃ g : Int, g = f + n := ⟨_, rfl⟩
  have g0 : 0 ≤ g := by omega
  have g1 : g < 1024 := by omega
  have HS : Hid (bits .or .u32 (bits .andNot .u32 (w3 a b d) 1072693248) (g * 1048576) = w3 a b (d + n)) := by
    show _ = _
    obtain ⟨G, hG⟩ := Int.eq_ofNat_of_zero_le g0
    rw [hG, setR (by omega) (by omega) (by omega) (by omega), ← hG, hg, hf]
  generalize w3 a b (d + n) = z at *
  have hn1 := hm.1
  have hn2 := hm.2
  clear ha hb hd hm hn hf
  have hfn : f + n = g := hg.symm
  clear hg
  generalize w3 (a : Int) (b : Int) (d : Int) = x at *
  clear a b d
  go_enter Try.func25, Try.ntmps25
  have hb := HF.out
  go_wp2
  go_quiet (fail)
  go_wp2
  go_ret2
  exact ⟨by rw [HS.out]; first | done | rfl, _, rfl⟩

set_option maxHeartbeats 1000000 in
theorem addR_no (a b d n : Int) (w : World) (ha : 0 ≤ a ∧ a < 1024) (hb : 0 ≤ b ∧ b < 1024) (hd : 0 ≤ d ∧ d < 1024) (hm : -1000 ≤ n ∧ n ≤ 1000) (hn : ¬ (0 ≤ d + n ∧ d + n < 1024)) :
    Calls Try.prog 25 #[.int .u32 (w3 a b d), .int .i64 20, .int .i64 10, .int .i64 n] w fun e w' => e = .returned (.tuple #[.int .u32 0, .bool false]) ∧ ∃ k, w' = w.drewN k := by
  obtain ⟨a, rfl⟩ := Int.eq_ofNat_of_zero_le ha.1
  obtain ⟨b, rfl⟩ := Int.eq_ofNat_of_zero_le hb.1
  obtain ⟨d, rfl⟩ := Int.eq_ofNat_of_zero_le hd.1
  have HF0 := Lib.hid (fldR (a := a) (b := b) (d := d) (by omega) (by omega) (by omega))
  have x0 : (0 : Int) ≤ w3 a b d := by unfold w3; omega
  have x1 : w3 a b d < 4294967296 := by unfold w3; omega
  obtain ⟨f, hf⟩ : ∃ f : Int, f = (d : Int) := ⟨_, rfl⟩
  have HF : Hid (bits .and .u32 ((w3 a b d) / 1048576) 1023 = f) := by
    show _ = _
    rw [hf]; exact HF0.out
  clear HF0
  have f0 : 0 ≤ f := by omega
  have f1 : f < 1024 := by omega
  obtain ⟨g, hg⟩ : ∃ g : Int, g = f + n := ⟨_, rfl⟩
  have hn0 : g < 0 ∨ 0 ≤ g ∧ 1023 < g := by omega
  have hn1 := hm.1
  have hn2 := hm.2
  clear ha hb hd hm hn hf
  have hfn : f + n = g := hg.symm
  clear hg
  generalize w3 (a : Int) (b : Int) (d : Int) = x at *
  clear a b d
  rcases hn0 with g0 | ⟨g0, g1⟩
  · go_enter Try.func25, Try.ntmps25
    have hb := HF.out
    go_wp2
    go_ret2
    exact ⟨rfl, 0, rfl⟩
  · go_enter Try.func25, Try.ntmps25
    have hb := HF.out
    go_wp2
    go_ret2
    exact ⟨rfl, 0, rfl⟩

theorem semaRead_w3 (a b d : Int) (w : World) (ha : 0 ≤ a ∧ a < 1024) (hb : 0 ≤ b ∧ b < 1024) (hd : 0 ≤ d ∧ d < 1024) :
    Calls Try.prog 26 #[.int .u32 (w3 a b d)] w fun e w' => e = .returned (.tuple #[.agg (semaIf (decide (SemaGood a b d)) a b d), .bool (decide (SemaGood a b d))]) ∧ Below w.heap.size w w' := by
  obtain ⟨a, rfl⟩ := Int.eq_ofNat_of_zero_le ha.1
  obtain ⟨b, rfl⟩ := Int.eq_ofNat_of_zero_le hb.1
  obtain ⟨d, rfl⟩ := Int.eq_ofNat_of_zero_le hd.1
  have h := semaRead_any (a + 1024 * b + 1048576 * d) w (by omega)
  have e1 : cOf (a + 1024 * b + 1048576 * d) = a := by unfold cOf; omega
  have e2 : eOf (a + 1024 * b + 1048576 * d) = b := by unfold eOf; omega
  have e3 : rOf (a + 1024 * b + 1048576 * d) = d := by unfold rOf; omega
  have e4 : decide (SGoodX (a + 1024 * b + 1048576 * d)) = decide (SemaGood a b d) := by
    show decide (SemaGood (cOf _) (eOf _) (rOf _)) = _
    simp only [e1, e2, e3]
  rw [e1, e2, e3, e4, show ((a + 1024 * b + 1048576 * d : Nat) : Int) = w3 a b d by unfold w3; omega] at h
  exact h
/-- Three new blocks, in a later world. -/
theorem three_newS {w w1 : World} {o1 o2 o3 : Obj} (h : Below (((w.alloc o1).alloc o2).alloc o3).heap.size (((w.alloc o1).alloc o2).alloc o3) w1) :
    w1.heap[w.heap.size]? = some o1 ∧ w1.heap[w.heap.size + 1]? = some o2 ∧ w1.heap[w.heap.size + 1 + 1]? = some o3 ∧ Below w.heap.size w w1 ∧ w.heap.size + 3 ≤ w1.heap.size := by
  have hz := h.size
  have e1 : (w.alloc o1).heap.size = w.heap.size + 1 := World.size_alloc w o1
  have e2 : ((w.alloc o1).alloc o2).heap.size = w.heap.size + 1 + 1 := (World.size_alloc _ o2).trans (by rw [e1])
  have e3 : (((w.alloc o1).alloc o2).alloc o3).heap.size = w.heap.size + 1 + 1 + 1 := (World.size_alloc _ o3).trans (by rw [e2])
  refine ⟨?_, ?_, ?_, ?_, by omega⟩
  · rw [h.block _ (by omega)]
    refine (Below.heap_alloc _ o3 _ (by omega)).trans ?_
    refine (Below.heap_alloc _ o2 _ (by omega)).trans ?_
    exact heap_alloc_new w o1
  · rw [h.block _ (by omega)]
    refine (Below.heap_alloc _ o3 _ (by omega)).trans ?_
    have := heap_alloc_new (w.alloc o1) o2
    rwa [e1] at this
  · rw [h.block _ (by omega)]
    have := heap_alloc_new ((w.alloc o1).alloc o2) o3
    rwa [e2] at this
  · refine Below.trans ?_ (h.mono (by omega))
    exact ((((Below.refl _ _).alloc (Nat.le_refl _) _)).alloc (by omega) _).alloc (by omega) _

/-- A change of a semaphore that leaves a valid one. -/
def ChgOk (C E R c e r : Int) : Prop := SemaGood C E R ∧ SemaGood (C + c) (E + e) (R + r)
instance (C E R c e r : Int) : Decidable (ChgOk C E R c e r) := inferInstanceAs (Decidable (_ ∧ _))

set_option maxRecDepth 100000 in
set_option maxHeartbeats 2000000 in
theorem changed_any (C E R c e r : Int) (w : World) (hc : -1000 ≤ c ∧ c ≤ 1000) (he : -1000 ≤ e ∧ e ≤ 1000) (hr : -1000 ≤ r ∧ r ≤ 1000) :
    Calls Try.prog 17 #[.agg #[.int .i64 C, .int .i64 E, .int .i64 R], .agg #[.int .i64 c, .int .i64 e, .int .i64 r]] w fun ee w' => ee = .returned (.tuple #[.agg (semaIf (decide (ChgOk C E R c e r)) (C + c) (E + e) (R + r)), .bool (decide (ChgOk C E R c e r))]) ∧ Below w.heap.size w w' := by
  have HP := Lib.hid (fun W => semaPack_any C E R W)
  by_cases hg : SemaGood C E R
  · rw [decide_eq_true hg, packS_good hg, show packSV C E R = w3 C E R from rfl] at HP
    have hd : decide (ChgOk C E R c e r) = decide (SemaGood (C + c) (E + e) (R + r)) := by
      by_cases h2 : SemaGood (C + c) (E + e) (R + r)
      · rw [decide_eq_true h2]; exact decide_eq_true ⟨hg, h2⟩
      · rw [decide_eq_false h2]; exact decide_eq_false (fun h => h2 h.2)
    rw [hd]
    clear hd
    obtain ⟨⟨c0, c1⟩, ⟨e0, e1⟩, ⟨r0, r1⟩, -⟩ := hg
    have G0 : Hid ((0 ≤ C ∧ C < 1024) ∧ (0 ≤ E ∧ E < 1024) ∧ (0 ≤ R ∧ R < 1024)) := by
      refine ⟨⟨?_, ?_⟩, ⟨?_, ?_⟩, ?_, ?_⟩ <;> omega
    have HC := Lib.hid (fun W h => addC_yes C E R c W G0.out.1 G0.out.2.1 G0.out.2.2 hc h)
    have HCn := Lib.hid (fun W h => addC_no C E R c W G0.out.1 G0.out.2.1 G0.out.2.2 hc h)
    have HE := Lib.hid (fun W h1 h => addE_yes (C + c) E R e W h1 G0.out.2.1 G0.out.2.2 he h)
    have HEn := Lib.hid (fun W h1 h => addE_no (C + c) E R e W h1 G0.out.2.1 G0.out.2.2 he h)
    have HR := Lib.hid (fun W h1 h2 h => addR_yes (C + c) (E + e) R r W h1 h2 G0.out.2.2 hr h)
    have HRn := Lib.hid (fun W h1 h2 h => addR_no (C + c) (E + e) R r W h1 h2 G0.out.2.2 hr h)
    have HS := Lib.hid (fun W h1 h2 h3 => semaRead_w3 (C + c) (E + e) (R + r) W h1 h2 h3)
    have HQ : Hid (SemaGood (C + c) (E + e) (R + r) → (0 ≤ C + c ∧ C + c < 1024) ∧ (0 ≤ E + e ∧ E + e < 1024) ∧ (0 ≤ R + r ∧ R + r < 1024)) := by
      show _ → _
      unfold SemaGood
      omega
    clear hc he hr c0 c1 e0 e1 r0 r1 G0
    generalize C + c = CC at *
    generalize E + e = EE at *
    generalize R + r = RR at *
    have HF : Hid (¬ ((0 ≤ CC ∧ CC < 1024) ∧ (0 ≤ EE ∧ EE < 1024) ∧ (0 ≤ RR ∧ RR < 1024)) → decide (SemaGood CC EE RR) = false) := fun h => decide_eq_false (fun g => h (HQ.out g))
    clear HQ
    have i0 : ∀ w, (Instr.index 46 (.agg #[.int .i64 0, .int .i64 c, .int .i64 10, .int .i64 e, .int .i64 20, .int .i64 r]) (.int .i64 0)).run Try.prog w = .ok (.agg #[.int .i64 0, .int .i64 c]) w := fun _ => by kernel_rfl
    have i1 : ∀ w, (Instr.index 46 (.agg #[.int .i64 0, .int .i64 c, .int .i64 10, .int .i64 e, .int .i64 20, .int .i64 r]) (.int .i64 1)).run Try.prog w = .ok (.agg #[.int .i64 10, .int .i64 e]) w := fun _ => by kernel_rfl
    have i2 : ∀ w, (Instr.index 46 (.agg #[.int .i64 0, .int .i64 c, .int .i64 10, .int .i64 e, .int .i64 20, .int .i64 r]) (.int .i64 2)).run Try.prog w = .ok (.agg #[.int .i64 20, .int .i64 r]) w := fun _ => by kernel_rfl
    generalize w3 C E R = x0 at *
    generalize w3 CC E R = x1 at *
    generalize w3 CC EE R = x2 at *
    generalize w3 CC EE RR = x3 at *
    go_enter Try.func17, Try.ntmps17
    go_wp2_with fail
    refine (HP.out _).mono ?_
    rintro e w1 ⟨rfl, hb⟩
    obtain ⟨u1, u2, u3, hb1, hz⟩ := three_newS hb
    obtain ⟨⟨k0, k1, k2⟩, f0, f1, f2⟩ := blk3 u1
    obtain ⟨⟨m0, m1, m2⟩, g0, g1, g2⟩ := blk3 u2
    have HB := Lib.hid hb1
    have U3 := Lib.hid u3
    clear u1 u2 u3 hb hb1
    go_wp2
    go_loopw [6, 30] (fun x i wr => ∃ k : Nat, k ≤ 3 ∧ i = .int .i64 k ∧ x = .int .u32 (if k = 0 then x0 else if k = 1 then x1 else if k = 2 then x2 else x3) ∧ Hid ((0 < k → 0 ≤ CC ∧ CC < 1024) ∧ (1 < k → 0 ≤ EE ∧ EE < 1024) ∧ (2 < k → 0 ≤ RR ∧ RR < 1024)) ∧ Hid (Below w1.heap.size w1 wr)) (fun _ i _ => 3 - (intOf i).toNat)
    case atStart => exact ⟨0, by omega, rfl, rfl, by refine ⟨?_, ?_, ?_⟩ <;> omega, (by repeat (first | exact Below.refl _ _ | refine Below.drew ?_ | refine Below.setCell ?_ (by first | omega | (simp; done) | (simp; omega) | (simp [*]; done)) _ | refine Below.alloc ?_ (by first | omega | (simp; done) | (simp; omega) | (simp [*]; done)) _))⟩
    case round =>
      obtain ⟨k, hk, rfl, rfl, HI, HW⟩ := hrel
      have hs := HW.out.size
      obtain rfl | rfl | rfl | rfl : k = 0 ∨ k = 1 ∨ k = 2 ∨ k = 3 := by omega
      · by_cases h0 : 0 ≤ CC ∧ CC < 1024
        · have HN : Hid ((0 < 1 → 0 ≤ CC ∧ CC < 1024) ∧ (1 < 1 → 0 ≤ EE ∧ EE < 1024) ∧ (2 < 1 → 0 ≤ RR ∧ RR < 1024)) := by
            have := HI.out
            refine ⟨?_, ?_, ?_⟩ <;> omega
          have HT := Lib.hid (fun W => HC.out W  h0)
          clear HI h0
          go_wp2_with fail
          refine (HT.out _).mono ?_
          rintro e w2 ⟨rfl, n2, rfl⟩
          go_wp2
          go_round
          case rel => exact ⟨1, by omega, rfl, rfl, HN, drewN_bS (HW.out.alloc hs _)⟩
          case measure => simp [intOf]
        · have HT := Lib.hid (fun W => HCn.out W  h0)
          have HD : Hid (decide (SemaGood CC EE RR) = false) := HF.out (fun g => h0 g.1)
          clear HI h0
          obtain ⟨⟨n0, n1, n2⟩, h0, h1, h2⟩ := blk3 ((HW.out.block _ (by omega)).trans U3.out)
          have HL : Hid (Below w.heap.size w wr) := HB.out.trans (HW.out.mono HB.out.size)
          have hne : w.heap.size + 1 + 1 < wr.heap.size := by omega
          go_wp2_with fail
          refine (HT.out _).mono ?_
          rintro e w2 ⟨rfl, n2, rfl⟩
          go_wp2
          refine bodyPost_ret (v := .tuple #[.agg #[.int .i64 0, .int .i64 0, .int .i64 0], .bool false]) ?_ rfl ⟨?_, ?_⟩
          · have hres : Try.f17.results = #[.cell 4 26, .tmp 5] := by kernel_rfl
            rw [results_cell_tmp hres]
            go_simp
          · rw [HD.out]; rfl
          · exact (((drewN_bS (HL.out.alloc (by omega) _)).setCell (by show _ ≤ w.heap.size + 1 + 1; omega) _).setCell (by show _ ≤ w.heap.size + 1 + 1; omega) _).setCell (by show _ ≤ w.heap.size + 1 + 1; omega) _
      · by_cases h0 : 0 ≤ EE ∧ EE < 1024
        · have HN : Hid ((0 < 2 → 0 ≤ CC ∧ CC < 1024) ∧ (1 < 2 → 0 ≤ EE ∧ EE < 1024) ∧ (2 < 2 → 0 ≤ RR ∧ RR < 1024)) := by
            have := HI.out
            refine ⟨?_, ?_, ?_⟩ <;> omega
          have HT := Lib.hid (fun W => HE.out W (HI.out.1 (by omega)) h0)
          clear HI h0
          go_wp2_with fail
          refine (HT.out _).mono ?_
          rintro e w2 ⟨rfl, n2, rfl⟩
          go_wp2
          go_round
          case rel => exact ⟨2, by omega, rfl, rfl, HN, drewN_bS (HW.out.alloc hs _)⟩
          case measure => simp [intOf]
        · have HT := Lib.hid (fun W => HEn.out W (HI.out.1 (by omega)) h0)
          have HD : Hid (decide (SemaGood CC EE RR) = false) := HF.out (fun g => h0 g.2.1)
          clear HI h0
          obtain ⟨⟨n0, n1, n2⟩, h0, h1, h2⟩ := blk3 ((HW.out.block _ (by omega)).trans U3.out)
          have HL : Hid (Below w.heap.size w wr) := HB.out.trans (HW.out.mono HB.out.size)
          have hne : w.heap.size + 1 + 1 < wr.heap.size := by omega
          go_wp2_with fail
          refine (HT.out _).mono ?_
          rintro e w2 ⟨rfl, n2, rfl⟩
          go_wp2
          refine bodyPost_ret (v := .tuple #[.agg #[.int .i64 0, .int .i64 0, .int .i64 0], .bool false]) ?_ rfl ⟨?_, ?_⟩
          · have hres : Try.f17.results = #[.cell 4 26, .tmp 5] := by kernel_rfl
            rw [results_cell_tmp hres]
            go_simp
          · rw [HD.out]; rfl
          · exact (((drewN_bS (HL.out.alloc (by omega) _)).setCell (by show _ ≤ w.heap.size + 1 + 1; omega) _).setCell (by show _ ≤ w.heap.size + 1 + 1; omega) _).setCell (by show _ ≤ w.heap.size + 1 + 1; omega) _
      · by_cases h0 : 0 ≤ RR ∧ RR < 1024
        · have HN : Hid ((0 < 3 → 0 ≤ CC ∧ CC < 1024) ∧ (1 < 3 → 0 ≤ EE ∧ EE < 1024) ∧ (2 < 3 → 0 ≤ RR ∧ RR < 1024)) := by
            have := HI.out
            refine ⟨?_, ?_, ?_⟩ <;> omega
          have HT := Lib.hid (fun W => HR.out W (HI.out.1 (by omega)) (HI.out.2.1 (by omega)) h0)
          clear HI h0
          go_wp2_with fail
          refine (HT.out _).mono ?_
          rintro e w2 ⟨rfl, n2, rfl⟩
          go_wp2
          go_round
          case rel => exact ⟨3, by omega, rfl, rfl, HN, drewN_bS (HW.out.alloc hs _)⟩
          case measure => simp [intOf]
        · have HT := Lib.hid (fun W => HRn.out W (HI.out.1 (by omega)) (HI.out.2.1 (by omega)) h0)
          have HD : Hid (decide (SemaGood CC EE RR) = false) := HF.out (fun g => h0 g.2.2)
          clear HI h0
          obtain ⟨⟨n0, n1, n2⟩, h0, h1, h2⟩ := blk3 ((HW.out.block _ (by omega)).trans U3.out)
          have HL : Hid (Below w.heap.size w wr) := HB.out.trans (HW.out.mono HB.out.size)
          have hne : w.heap.size + 1 + 1 < wr.heap.size := by omega
          go_wp2_with fail
          refine (HT.out _).mono ?_
          rintro e w2 ⟨rfl, n2, rfl⟩
          go_wp2
          refine bodyPost_ret (v := .tuple #[.agg #[.int .i64 0, .int .i64 0, .int .i64 0], .bool false]) ?_ rfl ⟨?_, ?_⟩
          · have hres : Try.f17.results = #[.cell 4 26, .tmp 5] := by kernel_rfl
            rw [results_cell_tmp hres]
            go_simp
          · rw [HD.out]; rfl
          · exact (((drewN_bS (HL.out.alloc (by omega) _)).setCell (by show _ ≤ w.heap.size + 1 + 1; omega) _).setCell (by show _ ≤ w.heap.size + 1 + 1; omega) _).setCell (by show _ ≤ w.heap.size + 1 + 1; omega) _
      · obtain ⟨p0, p1, p2⟩ := HI.out
        have HT := Lib.hid (fun W => HS.out W (p0 (by omega)) (p1 (by omega)) (p2 (by omega)))
        clear p0 p1 p2 HI
        have u3 := (HW.out.block _ (by omega)).trans U3.out
        have HL : Hid (Below w.heap.size w wr) := HB.out.trans (HW.out.mono HB.out.size)
        have hne : w.heap.size + 1 + 1 < wr.heap.size := by omega
        clear HW hs
        obtain ⟨q, hq⟩ : ∃ q, q = decide (SemaGood CC EE RR) := ⟨_, rfl⟩
        have HD : Hid (decide (SemaGood CC EE RR) = q) := hq.symm
        rw [← hq] at HT
        clear hq
        go_wp2_with fail
        refine (HT.out _).mono ?_
        rintro e w2 ⟨rfl, hb⟩
        obtain ⟨⟨n0, n1, n2⟩, h0, h1, h2⟩ := blk3 ((hb.block _ (by omega)).trans u3)
        have HL2 : Hid (Below w.heap.size w w2) := HL.out.trans (hb.mono HL.out.size)
        clear HL u3 hb
        have HL := HL2
        clear HL2
        cases q
        · simp only [semaIf, if_neg Bool.false_ne_true]
          go_wp2
          refine bodyPost_ret (v := .tuple #[.agg #[.int .i64 0, .int .i64 0, .int .i64 0], .bool false]) ?_ rfl ⟨?_, ?_⟩
          · have hres : Try.f17.results = #[.cell 4 26, .tmp 5] := by kernel_rfl
            rw [results_cell_tmp hres]
            go_simp
          · rw [HD.out]; rfl
          · exact (by repeat (first | exact Below.refl _ _ | refine Below.drew ?_ | refine Below.setCell ?_ (by first | omega | (simp; done) | (simp; omega) | (simp [*]; done)) _ | refine Below.alloc ?_ (by first | omega | (simp; done) | (simp; omega) | (simp [*]; done)) _ | refine Below.trans ?_ (Below.mono (HL.out) (by first | omega | (simp; done) | (simp; omega) | (simp [*]; done)))))
        · simp only [semaIf]
          go_wp2
          refine bodyPost_ret (v := .tuple #[.agg #[.int .i64 CC, .int .i64 EE, .int .i64 RR], .bool true]) ?_ rfl ⟨?_, ?_⟩
          · have hres : Try.f17.results = #[.cell 4 26, .tmp 5] := by kernel_rfl
            rw [results_cell_tmp hres]
            go_simp
          · rw [HD.out]; rfl
          · exact (by repeat (first | exact Below.refl _ _ | refine Below.drew ?_ | refine Below.setCell ?_ (by first | omega | (simp; done) | (simp; omega) | (simp [*]; done)) _ | refine Below.alloc ?_ (by first | omega | (simp; done) | (simp; omega) | (simp [*]; done)) _ | refine Below.trans ?_ (Below.mono (HL.out) (by first | omega | (simp; done) | (simp; omega) | (simp [*]; done)))))
  · rw [decide_eq_false hg] at HP
    have HD : Hid (decide (ChgOk C E R c e r) = false) := decide_eq_false (fun h => hg h.1)
    clear hg
    go_enter Try.func17, Try.ntmps17
    go_wp2_with fail
    refine (HP.out _).mono ?_
    rintro e w1 ⟨rfl, hb⟩
    obtain ⟨u1, u2, u3, hb1, hz⟩ := three_newS hb
    obtain ⟨⟨n0, n1, n2⟩, h0, h1, h2⟩ := blk3 u3
    have HL := Lib.hid hb1
    clear u1 u2 u3 hb hb1
    go_wp2
    refine bodyPost_ret (v := .tuple #[.agg #[.int .i64 0, .int .i64 0, .int .i64 0], .bool false]) ?_ rfl ⟨?_, ?_⟩
    · have hres : Try.f17.results = #[.cell 4 26, .tmp 5] := by kernel_rfl
      rw [results_cell_tmp hres]
      go_simp
    · rw [HD.out]; rfl
    · exact (by repeat (first | exact Below.refl _ _ | refine Below.drew ?_ | refine Below.setCell ?_ (by first | omega | (simp; done) | (simp; omega) | (simp [*]; done)) _ | refine Below.alloc ?_ (by first | omega | (simp; done) | (simp; omega) | (simp [*]; done)) _ | refine Below.trans ?_ (Below.mono (HL.out) (by first | omega | (simp; done) | (simp; omega) | (simp [*]; done)))))


end Go.Proofs.Ythmmkleddembbaa
