/- The contracts of the program's isAmount, SemaOk, SemaLeft, SemaPack and SemaRead. -/
import Derived.Test.YthmmkleddembbaaSemaM
import Derived.Test.YthmmkleddembbaaILow
namespace Go.Proofs.Ythmmkleddembbaa
open Go.RowKit
set_option linter.unusedVariables false

/-- A block of three cells: what it reads, and that it may be written. -/
theorem blk3 {w : World} {b : Nat} {v0 v1 v2 : Value} {t : TypeId} (h : w.heap[b]? = some (.cells #[v0, v1, v2] t (0, 0))) :
    (w.cell? ⟨b, 0, none⟩ = some v0 ∧ w.cell? ⟨b, 1, none⟩ = some v1 ∧ w.cell? ⟨b, 2, none⟩ = some v2) ∧
      (w.frozen? ⟨b, 0, none⟩ = false ∧ w.frozen? ⟨b, 1, none⟩ = false ∧ w.frozen? ⟨b, 2, none⟩ = false) :=
  ⟨⟨(cell_of_row w b 0 _ _ (0, 0) h).trans rfl, (cell_of_row w b 1 _ _ (0, 0) h).trans rfl, (cell_of_row w b 2 _ _ (0, 0) h).trans rfl⟩,
    by simp [World.frozen?, h], by simp [World.frozen?, h], by simp [World.frozen?, h]⟩
theorem drewN_bS {b k : Nat} {w w' : World} (h : Below b w w') : Below b w (w'.drewN k) := ⟨h.os, h.tape, h.output, h.size, h.block⟩
theorem one_newS {w w1 : World} {o1 : Obj} (h : Below (w.alloc o1).heap.size (w.alloc o1) w1) : w1.heap[w.heap.size]? = some o1 ∧ Below w.heap.size w w1 := by
  have e1 : (w.alloc o1).heap.size = w.heap.size + 1 := World.size_alloc w o1
  refine ⟨?_, ((Below.refl _ _).alloc (Nat.le_refl _) _).trans (h.mono (by omega))⟩
  rw [h.block _ (by omega)]
  exact heap_alloc_new w o1
/-- Two new blocks, in a later world. -/
theorem two_newS {w w1 : World} {o1 o2 : Obj} {n : Nat} (h : Below (((w.alloc o1).drewN n).alloc o2).heap.size (((w.alloc o1).drewN n).alloc o2) w1) : w1.heap[w.heap.size]? = some o1 ∧ w1.heap[w.heap.size + 1]? = some o2 ∧ Below w.heap.size w w1 ∧ w.heap.size + 2 ≤ w1.heap.size := by
  have hz := h.size
  have e1 : (w.alloc o1).heap.size = w.heap.size + 1 := World.size_alloc w o1
  have e2 : (((w.alloc o1).drewN n).alloc o2).heap.size = w.heap.size + 1 + 1 := (World.size_alloc _ o2).trans (by show (w.alloc o1).heap.size + 1 = _; omega)
  refine ⟨?_, ?_, ?_, by omega⟩
  · rw [h.block _ (by omega)]
    refine (Below.heap_alloc _ o2 _ (by show _ < (w.alloc o1).heap.size; omega)).trans ?_
    exact heap_alloc_new w o1
  · rw [h.block _ (by omega)]
    have := heap_alloc_new ((w.alloc o1).drewN n) o2
    have e3 : ((w.alloc o1).drewN n).heap.size = w.heap.size + 1 := e1
    rwa [e3] at this
  · refine Below.trans ?_ (h.mono (by omega))
    exact ((drewN_bS ((Below.refl _ _).alloc (Nat.le_refl _) _))).alloc (by show _ ≤ (w.alloc o1).heap.size; omega) _

set_option maxHeartbeats 400000 in
theorem isAmount_any (n : Int) (w : World) :
    Calls Try.prog 16 #[.int .i64 n] w fun e w' => e = .returned (.bool (decide (IsAmt n))) ∧ w = w' := by
  by_cases h0 : 1 ≤ n
  · by_cases h1 : n ≤ 1000
    · have hd : Hid (decide (IsAmt n) = true) := decide_eq_true ⟨h0, h1⟩
      go_enter Try.func16, Try.ntmps16
      go_wp2
      go_ret
      exact ⟨by rw [hd.out]; rfl, rfl⟩
    · have hd : Hid (decide (IsAmt n) = false) := decide_eq_false (fun h => h1 h.2)
      go_enter Try.func16, Try.ntmps16
      go_wp2
      go_ret
      exact ⟨by rw [hd.out]; rfl, rfl⟩
  · have hd : Hid (decide (IsAmt n) = false) := decide_eq_false (fun h => h0 h.1)
    go_enter Try.func16, Try.ntmps16
    go_wp2
    go_ret
    exact ⟨by rw [hd.out]; rfl, rfl⟩

set_option maxHeartbeats 1000000 in
theorem semaOk_any (C E R : Int) (w : World) :
    Calls Try.prog 15 #[.agg #[.int .i64 C, .int .i64 E, .int .i64 R]] w fun e w' => e = .returned (.bool (decide (SemaGood C E R))) ∧ Below w.heap.size w w' := by
  have HG := Lib.hid (show ∀ P : Prop, ((SemaGood C E R) ↔ P) → (P → decide (SemaGood C E R) = true) ∧ (¬ P → decide (SemaGood C E R) = false) from fun P h => ⟨fun p => decide_eq_true (h.2 p), fun p => decide_eq_false (fun g => p (h.1 g))⟩)
  generalize decide (SemaGood C E R) = q at *
  have i0 : ∀ w, (Instr.index 41 (.agg #[.int .i64 C, .int .i64 E, .int .i64 R]) (.int .i64 0)).run Try.prog w = .ok (.int .i64 C) w := fun _ => by kernel_rfl
  have i1 : ∀ w, (Instr.index 41 (.agg #[.int .i64 C, .int .i64 E, .int .i64 R]) (.int .i64 1)).run Try.prog w = .ok (.int .i64 E) w := fun _ => by kernel_rfl
  have i2 : ∀ w, (Instr.index 41 (.agg #[.int .i64 C, .int .i64 E, .int .i64 R]) (.int .i64 2)).run Try.prog w = .ok (.int .i64 R) w := fun _ => by kernel_rfl
  go_enter Try.func15, Try.ntmps15
  go_wp2
  go_loop [12] (fun i => ∃ k : Nat, k ≤ 3 ∧ i = .int .i64 k ∧ Hid ((0 < k → 0 ≤ C ∧ C ≤ 1000) ∧ (1 < k → 0 ≤ E ∧ E ≤ 1000) ∧ (2 < k → 0 ≤ R ∧ R ≤ 1000))) (fun i => 3 - (intOf i).toNat)
  case atStart => exact ⟨0, by omega, rfl, by refine ⟨?_, ?_, ?_⟩ <;> omega⟩
  case round =>
    obtain ⟨k, hk, rfl, HI⟩ := hrel
    obtain rfl | rfl | rfl | rfl : k = 0 ∨ k = 1 ∨ k = 2 ∨ k = 3 := by omega
    · by_cases h0 : C < 0
      · have HF : Hid (q = false) := (HG.out _ Iff.rfl).2 (by unfold SemaGood; omega)
        clear HI HG
        go_wp2
        go_ret
        exact ⟨by rw [HF.out]; first | done | rfl, (by repeat (first | exact Below.refl _ _ | refine Below.drew ?_ | refine Below.setCell ?_ (by first | omega | (simp; done) | (simp; omega) | (simp [*]; done)) _ | refine Below.alloc ?_ (by first | omega | (simp; done) | (simp; omega) | (simp [*]; done)) _))⟩
      · by_cases h1 : 1000 < C
        · have HF : Hid (q = false) := (HG.out _ Iff.rfl).2 (by unfold SemaGood; omega)
          clear HI HG
          go_wp2
          go_ret
          exact ⟨by rw [HF.out]; first | done | rfl, (by repeat (first | exact Below.refl _ _ | refine Below.drew ?_ | refine Below.setCell ?_ (by first | omega | (simp; done) | (simp; omega) | (simp [*]; done)) _ | refine Below.alloc ?_ (by first | omega | (simp; done) | (simp; omega) | (simp [*]; done)) _))⟩
        · have HN : Hid ((0 < 1 → 0 ≤ C ∧ C ≤ 1000) ∧ (1 < 1 → 0 ≤ E ∧ E ≤ 1000) ∧ (2 < 1 → 0 ≤ R ∧ R ≤ 1000)) := by
            have := HI.out
            refine ⟨?_, ?_, ?_⟩ <;> omega
          clear HI
          go_wp2
          go_round
          case rel => exact ⟨1, by omega, rfl, HN⟩
          case measure => simp [intOf]
    · by_cases h0 : E < 0
      · have HF : Hid (q = false) := (HG.out _ Iff.rfl).2 (by unfold SemaGood; omega)
        clear HI HG
        go_wp2
        go_ret
        exact ⟨by rw [HF.out]; first | done | rfl, (by repeat (first | exact Below.refl _ _ | refine Below.drew ?_ | refine Below.setCell ?_ (by first | omega | (simp; done) | (simp; omega) | (simp [*]; done)) _ | refine Below.alloc ?_ (by first | omega | (simp; done) | (simp; omega) | (simp [*]; done)) _))⟩
      · by_cases h1 : 1000 < E
        · have HF : Hid (q = false) := (HG.out _ Iff.rfl).2 (by unfold SemaGood; omega)
          clear HI HG
          go_wp2
          go_ret
          exact ⟨by rw [HF.out]; first | done | rfl, (by repeat (first | exact Below.refl _ _ | refine Below.drew ?_ | refine Below.setCell ?_ (by first | omega | (simp; done) | (simp; omega) | (simp [*]; done)) _ | refine Below.alloc ?_ (by first | omega | (simp; done) | (simp; omega) | (simp [*]; done)) _))⟩
        · have HN : Hid ((0 < 2 → 0 ≤ C ∧ C ≤ 1000) ∧ (1 < 2 → 0 ≤ E ∧ E ≤ 1000) ∧ (2 < 2 → 0 ≤ R ∧ R ≤ 1000)) := by
            have := HI.out
            refine ⟨?_, ?_, ?_⟩ <;> omega
          clear HI
          go_wp2
          go_round
          case rel => exact ⟨2, by omega, rfl, HN⟩
          case measure => simp [intOf]
    · by_cases h0 : R < 0
      · have HF : Hid (q = false) := (HG.out _ Iff.rfl).2 (by unfold SemaGood; omega)
        clear HI HG
        go_wp2
        go_ret
        exact ⟨by rw [HF.out]; first | done | rfl, (by repeat (first | exact Below.refl _ _ | refine Below.drew ?_ | refine Below.setCell ?_ (by first | omega | (simp; done) | (simp; omega) | (simp [*]; done)) _ | refine Below.alloc ?_ (by first | omega | (simp; done) | (simp; omega) | (simp [*]; done)) _))⟩
      · by_cases h1 : 1000 < R
        · have HF : Hid (q = false) := (HG.out _ Iff.rfl).2 (by unfold SemaGood; omega)
          clear HI HG
          go_wp2
          go_ret
          exact ⟨by rw [HF.out]; first | done | rfl, (by repeat (first | exact Below.refl _ _ | refine Below.drew ?_ | refine Below.setCell ?_ (by first | omega | (simp; done) | (simp; omega) | (simp [*]; done)) _ | refine Below.alloc ?_ (by first | omega | (simp; done) | (simp; omega) | (simp [*]; done)) _))⟩
        · have HN : Hid ((0 < 3 → 0 ≤ C ∧ C ≤ 1000) ∧ (1 < 3 → 0 ≤ E ∧ E ≤ 1000) ∧ (2 < 3 → 0 ≤ R ∧ R ≤ 1000)) := by
            have := HI.out
            refine ⟨?_, ?_, ?_⟩ <;> omega
          clear HI
          go_wp2
          go_round
          case rel => exact ⟨3, by omega, rfl, HN⟩
          case measure => simp [intOf]
    · obtain ⟨p0, p1, p2⟩ := HI.out
      obtain ⟨c0, c1⟩ := p0 (by omega)
      obtain ⟨e0, e1⟩ := p1 (by omega)
      obtain ⟨r0, r1⟩ := p2 (by omega)
      clear p0 p1 p2 HI
      by_cases hs : R ≤ C + E
      · have HF : Hid (q = true) := (HG.out _ Iff.rfl).1 (by unfold SemaGood; omega)
        clear HG
        go_wp2
        go_ret
        exact ⟨by rw [HF.out]; first | done | rfl, (by repeat (first | exact Below.refl _ _ | refine Below.drew ?_ | refine Below.setCell ?_ (by first | omega | (simp; done) | (simp; omega) | (simp [*]; done)) _ | refine Below.alloc ?_ (by first | omega | (simp; done) | (simp; omega) | (simp [*]; done)) _))⟩
      · have HF : Hid (q = false) := (HG.out _ Iff.rfl).2 (by unfold SemaGood; omega)
        clear HG
        go_wp2
        go_ret
        exact ⟨by rw [HF.out]; first | done | rfl, (by repeat (first | exact Below.refl _ _ | refine Below.drew ?_ | refine Below.setCell ?_ (by first | omega | (simp; done) | (simp; omega) | (simp [*]; done)) _ | refine Below.alloc ?_ (by first | omega | (simp; done) | (simp; omega) | (simp [*]; done)) _))⟩

/-- What is left of a semaphore. -/
def leftV (C E R : Int) : Int := if SemaGood C E R then C + E - R else -1

set_option maxHeartbeats 1000000 in
theorem semaLeft_any (C E R : Int) (w : World) :
    Calls Try.prog 14 #[.agg #[.int .i64 C, .int .i64 E, .int .i64 R]] w fun e w' => e = .returned (.int .i64 (leftV C E R)) ∧ Below w.heap.size w w' := by
  have HO := Lib.hid (fun W => semaOk_any C E R W)
  by_cases hg : SemaGood C E R
  · rw [decide_eq_true hg] at HO
    have HV : Hid (leftV C E R = C + E - R) := if_pos hg
    obtain ⟨⟨c0, c1⟩, ⟨e0, e1⟩, ⟨r0, r1⟩, hs⟩ := hg
    go_enter Try.func14, Try.ntmps14
    go_wp2_with fail
    refine (HO.out _).mono ?_
    rintro e w1 ⟨rfl, hb⟩
    obtain ⟨u1, hb1⟩ := one_newS hb
    obtain ⟨⟨k0, k1, k2⟩, f0, f1, f2⟩ := blk3 u1
    have HB := Lib.hid hb1
    clear u1 hb hb1
    go_wp2
    go_ret
    exact ⟨by rw [HV.out]; first | done | rfl, (by repeat (first | exact Below.refl _ _ | refine Below.drew ?_ | refine Below.setCell ?_ (by first | omega | (simp; done) | (simp; omega) | (simp [*]; done)) _ | refine Below.alloc ?_ (by first | omega | (simp; done) | (simp; omega) | (simp [*]; done)) _ | refine Below.trans ?_ (Below.mono (HB.out) (by first | omega | (simp; done) | (simp; omega) | (simp [*]; done)))))⟩
  · rw [decide_eq_false hg] at HO
    have HV : Hid (leftV C E R = -1) := if_neg hg
    clear hg
    go_enter Try.func14, Try.ntmps14
    go_wp2_with fail
    refine (HO.out _).mono ?_
    rintro e w1 ⟨rfl, hb⟩
    obtain ⟨u1, hb1⟩ := one_newS hb
    have HB := Lib.hid hb1
    clear u1 hb hb1
    go_wp2
    go_ret
    exact ⟨by rw [HV.out]; first | done | rfl, (by repeat (first | exact Below.refl _ _ | refine Below.drew ?_ | refine Below.setCell ?_ (by first | omega | (simp; done) | (simp; omega) | (simp [*]; done)) _ | refine Below.alloc ?_ (by first | omega | (simp; done) | (simp; omega) | (simp [*]; done)) _ | refine Below.trans ?_ (Below.mono (HB.out) (by first | omega | (simp; done) | (simp; omega) | (simp [*]; done)))))⟩

/-- The word by or. -/
theorem or_pack {a b c : Nat} (ha : a < 1024) (hb : b < 1024) (hc : c < 1024) : bits .or .u32 (bits .or .u32 (a : Int) ((b : Int) * 1024)) ((c : Int) * 1048576) = (a : Int) + 1024 * b + 1048576 * c := by
  have e1 := Nat.two_pow_add_eq_or_of_lt (i := 10) (a := b) (b := a) (by omega)
  have e2 := Nat.two_pow_add_eq_or_of_lt (i := 20) (a := c) (b := 2 ^ 10 * b + a) (by omega)
  have h1 := u32_or_nat a (b * 1024) (by omega) (by omega)
  have h2 := u32_or_nat (2 ^ 10 * b + a) (c * 1048576) (by omega) (by omega)
  rw [show b * 1024 = 2 ^ 10 * b by omega, Nat.or_comm, ← e1] at h1
  rw [show c * 1048576 = 2 ^ 20 * c by omega, Nat.or_comm, ← e2] at h2
  have c1 : (b : Int) * 1024 = ((2 ^ 10 * b : Nat) : Int) := by omega
  have c2 : (c : Int) * 1048576 = ((2 ^ 20 * c : Nat) : Int) := by omega
  rw [c1, c2, h1, h2]
  omega

set_option maxHeartbeats 1000000 in
theorem semaPack_any (C E R : Int) (w : World) :
    Calls Try.prog 24 #[.agg #[.int .i64 C, .int .i64 E, .int .i64 R]] w fun e w' => e = .returned (.tuple #[.int .u32 (packS C E R), .bool (decide (SemaGood C E R))]) ∧ Below w.heap.size w w' := by
  have HO := Lib.hid (fun W => semaOk_any C E R W)
  by_cases hg : SemaGood C E R
  · rw [decide_eq_true hg] at HO ⊢
    have HV := Lib.hid (packS_good hg)
    obtain ⟨⟨c0, c1⟩, ⟨e0, e1⟩, ⟨r0, r1⟩, hs⟩ := hg
    have HP : Hid (packS C E R = bits .or .u32 (bits .or .u32 C (E * 1024)) (R * 1048576)) := by
      obtain ⟨a, rfl⟩ := Int.eq_ofNat_of_zero_le c0
      obtain ⟨b, rfl⟩ := Int.eq_ofNat_of_zero_le e0
      obtain ⟨c, rfl⟩ := Int.eq_ofNat_of_zero_le r0
      show _ = _
      rw [HV.out, or_pack (by omega) (by omega) (by omega)]
      rfl
    clear HV hs
    go_enter Try.func24, Try.ntmps24
    go_wp2_with fail
    refine (HO.out _).mono ?_
    rintro e w1 ⟨rfl, hb⟩
    obtain ⟨u1, hb1⟩ := one_newS hb
    obtain ⟨⟨k0, k1, k2⟩, f0, f1, f2⟩ := blk3 u1
    have HB := Lib.hid hb1
    clear u1 hb hb1
    go_wp2
    go_ret2
    exact ⟨by rw [HP.out]; first | done | rfl, HB.out⟩
  · rw [decide_eq_false hg] at HO ⊢
    have HV := Lib.hid (packS_bad hg)
    clear hg
    go_enter Try.func24, Try.ntmps24
    go_wp2_with fail
    refine (HO.out _).mono ?_
    rintro e w1 ⟨rfl, hb⟩
    obtain ⟨u1, hb1⟩ := one_newS hb
    have HB := Lib.hid hb1
    clear u1 hb hb1
    go_wp2
    go_ret2
    exact ⟨by rw [HV.out]; rfl, HB.out⟩

theorem and_sc {X : Nat} (hX : X < 4294967296) : bits .and .u32 ((X : Int)) 1023 = ((cOf X : Nat) : Int) := by
  have h1 := u32_and_nat (X / 1) (2 ^ 10 - 1) (Nat.lt_of_le_of_lt (Nat.div_le_self _ _) hX) (by decide)
  rw [Nat.and_two_pow_sub_one_eq_mod] at h1
  have h2 : ((cOf X : Nat) : Int) = ((X / 1 % 2 ^ 10 : Nat) : Int) := by unfold cOf; omega
  rw [h2, ← h1]
  simp

set_option maxHeartbeats 1000000 in
theorem between_sc (X : Nat) (w : World) (hX : X < 4294967296) :
    Calls Try.prog 29 #[.int .u32 (X : Int), .int .i64 0, .int .i64 10] w fun e w' => e = .returned (.int .u32 ((cOf X : Nat) : Int)) ∧ ∃ n, w' = w.drewN n := by
  have HM : Hid (∀ W, Calls Try.prog 30 #[.int .i64 10] W fun e w' => e = .returned (.int .u32 1023) ∧ ∃ n, w' = W.drewN n) := fun W => (maskOf_any 10 W).mono fun _ _ ⟨he, hw⟩ => ⟨he, 0, hw.symm⟩
  have HA := Lib.hid (and_sc hX)
  have x0 : (0 : Int) ≤ (X : Int) := by omega
  have x1 : (X : Int) < 4294967296 := by omega
  clear hX
  generalize (X : Int) = x at *
  go_enter Try.func29, Try.ntmps29
  go_wp2_with fail
  go_quiet (first | (go_at_call 30; refine Calls.quiet_of (HM.out _)))
  go_wp2
  go_ret
  exact ⟨by rw [← HA.out]; rfl, _, rfl⟩

theorem and_se {X : Nat} (hX : X < 4294967296) : bits .and .u32 ((X : Int) / 1024) 1023 = ((eOf X : Nat) : Int) := by
  have h1 := u32_and_nat (X / 1024) (2 ^ 10 - 1) (Nat.lt_of_le_of_lt (Nat.div_le_self _ _) hX) (by decide)
  rw [Nat.and_two_pow_sub_one_eq_mod] at h1
  have h2 : ((eOf X : Nat) : Int) = ((X / 1024 % 2 ^ 10 : Nat) : Int) := by unfold eOf; omega
  rw [h2, ← h1]
  simp

set_option maxHeartbeats 1000000 in
theorem between_se (X : Nat) (w : World) (hX : X < 4294967296) :
    Calls Try.prog 29 #[.int .u32 (X : Int), .int .i64 10, .int .i64 20] w fun e w' => e = .returned (.int .u32 ((eOf X : Nat) : Int)) ∧ ∃ n, w' = w.drewN n := by
  have HM : Hid (∀ W, Calls Try.prog 30 #[.int .i64 10] W fun e w' => e = .returned (.int .u32 1023) ∧ ∃ n, w' = W.drewN n) := fun W => (maskOf_any 10 W).mono fun _ _ ⟨he, hw⟩ => ⟨he, 0, hw.symm⟩
  have HA := Lib.hid (and_se hX)
  have x0 : (0 : Int) ≤ (X : Int) := by omega
  have x1 : (X : Int) < 4294967296 := by omega
  clear hX
  generalize (X : Int) = x at *
  go_enter Try.func29, Try.ntmps29
  go_wp2_with fail
  go_quiet (first | (go_at_call 30; refine Calls.quiet_of (HM.out _)))
  go_wp2
  go_ret
  exact ⟨by rw [← HA.out]; rfl, _, rfl⟩

theorem and_sr {X : Nat} (hX : X < 4294967296) : bits .and .u32 ((X : Int) / 1048576) 4095 = ((rOf X : Nat) : Int) := by
  have h1 := u32_and_nat (X / 1048576) (2 ^ 12 - 1) (Nat.lt_of_le_of_lt (Nat.div_le_self _ _) hX) (by decide)
  rw [Nat.and_two_pow_sub_one_eq_mod] at h1
  have h2 : ((rOf X : Nat) : Int) = ((X / 1048576 % 2 ^ 12 : Nat) : Int) := by unfold rOf; omega
  rw [h2, ← h1]
  simp

set_option maxHeartbeats 1000000 in
theorem between_sr (X : Nat) (w : World) (hX : X < 4294967296) :
    Calls Try.prog 29 #[.int .u32 (X : Int), .int .i64 20, .int .i64 32] w fun e w' => e = .returned (.int .u32 ((rOf X : Nat) : Int)) ∧ ∃ n, w' = w.drewN n := by
  have HM : Hid (∀ W, Calls Try.prog 30 #[.int .i64 12] W fun e w' => e = .returned (.int .u32 4095) ∧ ∃ n, w' = W.drewN n) := fun W => (maskOf_any 12 W).mono fun _ _ ⟨he, hw⟩ => ⟨he, 0, hw.symm⟩
  have HA := Lib.hid (and_sr hX)
  have x0 : (0 : Int) ≤ (X : Int) := by omega
  have x1 : (X : Int) < 4294967296 := by omega
  clear hX
  generalize (X : Int) = x at *
  go_enter Try.func29, Try.ntmps29
  go_wp2_with fail
  go_quiet (first | (go_at_call 30; refine Calls.quiet_of (HM.out _)))
  go_wp2
  go_ret
  exact ⟨by rw [← HA.out]; rfl, _, rfl⟩

set_option maxRecDepth 100000 in
set_option maxHeartbeats 2000000 in
theorem semaRead_any (X : Nat) (w : World) (hX : X < 4294967296) :
    Calls Try.prog 26 #[.int .u32 (X : Int)] w fun e w' => e = .returned (.tuple #[.agg (semaIf (decide (SGoodX X)) (cOf X) (eOf X) (rOf X)), .bool (decide (SGoodX X))]) ∧ Below w.heap.size w w' := by
  have H1 := Lib.hid (fun W => between_sc X W hX)
  have H2 := Lib.hid (fun W => between_se X W hX)
  have H3 := Lib.hid (fun W => between_sr X W hX)
  have HO := Lib.hid (fun W => semaOk_any (cOf X) (eOf X) (rOf X) W)
  have b1 : ((cOf X : Nat) : Int) < 1024 := by unfold cOf; omega
  have b2 : ((eOf X : Nat) : Int) < 1024 := by unfold eOf; omega
  have b3 : ((rOf X : Nat) : Int) < 4096 := by unfold rOf; omega
  have hdd : decide (SemaGood (cOf X) (eOf X) (rOf X)) = decide (SGoodX X) := rfl
  rw [hdd] at HO
  clear hdd
  generalize decide (SGoodX X) = q at *
  clear hX
  generalize cOf X = s at *
  generalize eOf X = k at *
  generalize rOf X = r at *
  cases q
  · show Calls _ _ _ _ fun e w' => e = .returned (.tuple #[.agg #[.int .i64 0, .int .i64 0, .int .i64 0], .bool false]) ∧ _
    go_enter Try.func26, Try.ntmps26
    go_wp2_with fail
    refine (H1.out _).mono ?_
    rintro e w1 ⟨rfl, n1, rfl⟩
    go_wp2_with fail
    refine (H2.out _).mono ?_
    rintro e w1 ⟨rfl, n2, rfl⟩
    go_wp2_with fail
    refine (H3.out _).mono ?_
    rintro e w1 ⟨rfl, n3, rfl⟩
    go_wp2_with fail
    refine (HO.out _).mono ?_
    rintro e w1 ⟨rfl, hb⟩
    obtain ⟨u1, u2, hb1, hz⟩ := two_newS hb
    obtain ⟨⟨c0, c1, c2⟩, f0, f1, f2⟩ := blk3 u1
    obtain ⟨⟨d0, d1, d2⟩, _⟩ := blk3 u2
    have HB := Lib.hid hb1
    clear u1 u2 hb hb1
    go_wp2
    refine bodyPost_ret (v := .tuple #[.agg #[.int .i64 0, .int .i64 0, .int .i64 0], .bool false]) ?_ rfl ⟨rfl, ?_⟩
    · have hres : Try.f26.results = #[.cell 2 26, .tmp 3] := by kernel_rfl
      rw [results_cell_tmp hres]
      go_simp
    · exact (by repeat (first | exact Below.refl _ _ | refine Below.drew ?_ | refine Below.setCell ?_ (by first | omega | (simp; done) | (simp; omega) | (simp [*]; done)) _ | refine Below.alloc ?_ (by first | omega | (simp; done) | (simp; omega) | (simp [*]; done)) _ | refine Below.trans ?_ (Below.mono (HB.out) (by first | omega | (simp; done) | (simp; omega) | (simp [*]; done)))))
  · show Calls _ _ _ _ fun e w' => e = .returned (.tuple #[.agg #[.int .i64 (s : Int), .int .i64 (k : Int), .int .i64 (r : Int)], .bool true]) ∧ _
    go_enter Try.func26, Try.ntmps26
    go_wp2_with fail
    refine (H1.out _).mono ?_
    rintro e w1 ⟨rfl, n1, rfl⟩
    go_wp2_with fail
    refine (H2.out _).mono ?_
    rintro e w1 ⟨rfl, n2, rfl⟩
    go_wp2_with fail
    refine (H3.out _).mono ?_
    rintro e w1 ⟨rfl, n3, rfl⟩
    go_wp2_with fail
    refine (HO.out _).mono ?_
    rintro e w1 ⟨rfl, hb⟩
    obtain ⟨u1, u2, hb1, hz⟩ := two_newS hb
    obtain ⟨⟨c0, c1, c2⟩, f0, f1, f2⟩ := blk3 u1
    obtain ⟨⟨d0, d1, d2⟩, _⟩ := blk3 u2
    have HB := Lib.hid hb1
    clear u1 u2 hb hb1
    go_wp2
    refine bodyPost_ret (v := .tuple #[.agg #[.int .i64 (s : Int), .int .i64 (k : Int), .int .i64 (r : Int)], .bool true]) ?_ rfl ⟨rfl, ?_⟩
    · have hres : Try.f26.results = #[.cell 2 26, .tmp 3] := by kernel_rfl
      rw [results_cell_tmp hres]
      go_simp
    · exact (by repeat (first | exact Below.refl _ _ | refine Below.drew ?_ | refine Below.setCell ?_ (by first | omega | (simp; done) | (simp; omega) | (simp [*]; done)) _ | refine Below.alloc ?_ (by first | omega | (simp; done) | (simp; omega) | (simp [*]; done)) _ | refine Below.trans ?_ (Below.mono (HB.out) (by first | omega | (simp; done) | (simp; omega) | (simp [*]; done)))))

end Go.Proofs.Ythmmkleddembbaa
