/- Plain arithmetic: the longest run of set bits, found in one pass over the set bits, is the longest and the lowest of that length. -/
import Derived.Test.YtefcaeldkdbjdaaOrMath
namespace Go.Proofs.Ytefcaeldkdbjdaa

/-- The bits from i on, m of them, are all set. -/
def Run (Y i m : Nat) : Prop := ∀ j, i ≤ j → j < i + m → Y.testBit j = true
theorem Run.zero (Y i : Nat) : Run Y i 0 := fun _ h1 h2 => absurd h2 (by omega)
theorem Run.snoc {Y i m : Nat} (h : Run Y i m) (hb : Y.testBit (i + m) = true) : Run Y i (m + 1) := fun j h1 h2 => by
  by_cases e : j = i + m
  · rw [e]; exact hb
  · exact h j h1 (by omega)

/-- From b on, m bits are set; no run is longer; none of that length begins lower. -/
structure Best (Y b m : Nat) : Prop where
  run : Run Y b m
  max : ∀ i m', Run Y i m' → m' ≤ m
  low : ∀ i, 0 < m → Run Y i m → b ≤ i
  zero : m = 0 → b = 0
theorem Best.unique {Y b m b' m' : Nat} (h : Best Y b m) (h' : Best Y b' m') : b = b' ∧ m = m' := by
  have e : m = m' := Nat.le_antisymm (h'.max _ _ h.run) (h.max _ _ h'.run)
  subst e
  refine ⟨?_, rfl⟩
  by_cases h0 : m = 0
  · rw [h.zero h0, h'.zero h0]
  · exact Nat.le_antisymm (h.low _ (by omega) h'.run) (h'.low _ (by omega) h.run)

/-- What the pass keeps: the best run so far, and the run that is under way. -/
structure LS where
  best : Nat
  most : Nat
  start : Nat
  n : Nat
def LS.st (s : LS) (k : Nat) : Nat := if k = s.start + s.n then s.start else k
def LS.n1 (s : LS) (k : Nat) : Nat := if k = s.start + s.n then s.n + 1 else 1
def LS.step (s : LS) (k : Nat) : LS := if s.most < s.n1 k then ⟨s.st k, s.n1 k, s.st k, s.n1 k⟩ else ⟨s.best, s.most, s.st k, s.n1 k⟩
def pass (l : List Nat) : LS := l.foldl LS.step ⟨0, 0, 0, 0⟩
theorem pass_snoc (l : List Nat) (k : Nat) : pass (l ++ [k]) = (pass l).step k := by simp [pass]
theorem pass_bounds : ∀ r : List Nat, (∀ k ∈ r, k < 32) → (pass r.reverse).best < 32 ∧ (pass r.reverse).most ≤ r.length ∧ (pass r.reverse).start < 32 ∧ (pass r.reverse).n ≤ r.length := by
  intro r
  induction r with
  | nil => intro _; simp [pass]
  | cons k r ih =>
    intro h
    have hk := h k (by simp)
    have hi := ih (fun j hj => h j (by simp [hj]))
    rw [List.reverse_cons, pass_snoc, List.length_cons]
    have h1 : (pass r.reverse).st k < 32 := by unfold LS.st; split <;> omega
    have h2 : (pass r.reverse).n1 k ≤ r.length + 1 := by unfold LS.n1; split <;> omega
    unfold LS.step
    split
    · exact ⟨h1, h2, h1, h2⟩
    · exact ⟨hi.1, by have := hi.2.1; show (pass r.reverse).most ≤ _; omega, h1, h2⟩

structure LInv (Y k : Nat) (s : LS) : Prop where
  run : Run Y s.best s.most
  fit : s.best + s.most ≤ k
  max : ∀ i m', 0 < m' → i + m' ≤ k → Run Y i m' → m' ≤ s.most
  low : ∀ i, 0 < s.most → i + s.most ≤ k → Run Y i s.most → s.best ≤ i
  zero : s.most = 0 → s.best = 0
  cur : Run Y s.start s.n
  upto : s.start + s.n ≤ k
  edge : 0 < s.start → Y.testBit (s.start - 1) = false
  gap : ∀ j, s.start + s.n ≤ j → j < k → Y.testBit j = false

theorem linv_zero (Y : Nat) : LInv Y 0 ⟨0, 0, 0, 0⟩ where
  run := Run.zero _ _
  fit := Nat.le_refl _
  max := fun _ _ h1 h2 => by omega
  low := fun _ h => absurd h (by simp)
  zero := fun _ => rfl
  cur := Run.zero _ _
  upto := Nat.le_refl _
  edge := fun h => absurd h (by simp)
  gap := fun _ _ h => by omega

theorem linv_miss {Y k : Nat} {s : LS} (h : LInv Y k s) (hb : Y.testBit k = false) : LInv Y (k + 1) s where
  run := h.run
  fit := by have := h.fit; omega
  max := fun i m' h0 h1 hr => by
    by_cases e : i + m' = k + 1
    · have := hr k (by omega) (by omega)
      rw [hb] at this
      cases this
    · exact h.max i m' h0 (by omega) hr
  low := fun i h0 h1 hr => by
    by_cases e : i + s.most = k + 1
    · have := hr k (by omega) (by omega)
      rw [hb] at this
      cases this
    · exact h.low i h0 (by omega) hr
  zero := h.zero
  cur := h.cur
  upto := by have := h.upto; omega
  edge := h.edge
  gap := fun j h1 h2 => by
    by_cases e : j = k
    · rw [e]; exact hb
    · exact h.gap j h1 (by omega)

theorem linv_hit {Y k : Nat} {s : LS} (h : LInv Y k s) (hb : Y.testBit k = true) : LInv Y (k + 1) (s.step k) := by
  have cur : Run Y (s.st k) (s.n1 k) := by
    unfold LS.st LS.n1
    split
    · rename_i e
      exact h.cur.snoc (e ▸ hb)
    · exact fun j h1 h2 => by
        obtain rfl : j = k := by omega
        exact hb
  have upto : s.st k + s.n1 k = k + 1 := by
    unfold LS.st LS.n1
    split <;> omega
  have pos : 0 < s.n1 k := by
    unfold LS.n1
    split <;> omega
  have edge : 0 < s.st k → Y.testBit (s.st k - 1) = false := by
    unfold LS.st
    split
    · exact h.edge
    · rename_i e
      intro h0
      exact h.gap (k - 1) (by have := h.upto; omega) (by omega)
  have key : ∀ i m', 0 < m' → i + m' = k + 1 → Run Y i m' → s.st k ≤ i := by
    intro i m' h0 h1 hr
    refine Nat.le_of_not_lt fun hlt => ?_
    have h2 := hr (s.st k - 1) (by omega) (by omega)
    rw [edge (by omega)] at h2
    cases h2
  unfold LS.step
  split
  · rename_i hm
    exact {
      run := cur
      fit := by show s.st k + s.n1 k ≤ k + 1; omega
      max := fun i m' h0 h1 hr => by
        show m' ≤ s.n1 k
        by_cases e : i + m' = k + 1
        · have := key i m' h0 e hr; omega
        · have := h.max i m' h0 (by omega) hr; omega
      low := fun i h0 h1 hr => by
        show s.st k ≤ i
        have h1' : i + s.n1 k ≤ k + 1 := h1
        by_cases e : i + s.n1 k = k + 1
        · omega
        · have := h.max i (s.n1 k) pos (by omega) hr; omega
      zero := fun e => by
        have e' : s.n1 k = 0 := e
        omega
      cur := cur
      upto := by show s.st k + s.n1 k ≤ k + 1; omega
      edge := edge
      gap := fun j h1 h2 => by
        have h1' : s.st k + s.n1 k ≤ j := h1
        omega }
  · rename_i hm
    exact {
      run := h.run
      fit := by have := h.fit; show s.best + s.most ≤ k + 1; omega
      max := fun i m' h0 h1 hr => by
        show m' ≤ s.most
        by_cases e : i + m' = k + 1
        · have := key i m' h0 e hr; omega
        · exact h.max i m' h0 (by omega) hr
      low := fun i h0 h1 hr => by
        show s.best ≤ i
        have h1' : i + s.most ≤ k + 1 := h1
        by_cases e : i + s.most = k + 1
        · have := h.fit; omega
        · exact h.low i h0 (by omega) hr
      zero := h.zero
      cur := cur
      upto := by show s.st k + s.n1 k ≤ k + 1; omega
      edge := edge
      gap := fun j h1 h2 => by
        have h1' : s.st k + s.n1 k ≤ j := h1
        omega }

theorem linv_all (Y : Nat) : ∀ k, LInv Y k (pass (onesTo Y k)) := by
  intro k
  induction k with
  | zero => exact linv_zero Y
  | succ k ih =>
    by_cases hb : Y / 2 ^ k % 2 = 1
    · rw [onesTo_hit hb, pass_snoc]
      exact linv_hit ih (by rw [Nat.testBit_eq_decide_div_mod_eq]; simp [hb])
    · rw [onesTo_miss hb]
      exact linv_miss ih (by rw [Nat.testBit_eq_decide_div_mod_eq]; simp [hb])

theorem high_zero {Y j : Nat} (hY : Y < 4294967296) (hj : 32 ≤ j) : Y.testBit j = false := Nat.testBit_lt_two_pow (Nat.lt_of_lt_of_le hY (Nat.pow_le_pow_right (n := 2) (by omega) hj))

theorem pass_best {Y : Nat} (hY : Y < 4294967296) : Best Y (pass (onesTo Y 32)).best (pass (onesTo Y 32)).most := by
  have h := linv_all Y 32
  have fit : ∀ i m', 0 < m' → Run Y i m' → i + m' ≤ 32 := fun i m' h0 hr => Nat.le_of_not_lt fun hlt => by
    have := hr (i + m' - 1) (by omega) (by omega)
    rw [high_zero hY (by omega)] at this
    cases this
  exact {
    run := h.run
    max := fun i m' hr => by
      by_cases h0 : 0 < m'
      · exact h.max i m' h0 (fit i m' h0 hr) hr
      · omega
    low := fun i h0 hr => h.low i h0 (fit i _ h0 hr) hr
    zero := h.zero }

/-- The other way: at each place the longest run from there; the first longest is kept. -/
structure OInv (Y i b m : Nat) : Prop where
  run : Run Y b m
  max : ∀ j m', j < i → Run Y j m' → m' ≤ m
  low : ∀ j, j < i → 0 < m → Run Y j m → b ≤ j
  zero : m = 0 → b = 0
  lt : 0 < m → b < i
theorem oinv_zero (Y : Nat) : OInv Y 0 0 0 := ⟨Run.zero _ _, fun _ _ h => by omega, fun _ h => by omega, fun _ => rfl, fun h => by omega⟩
theorem run_max {Y i n m' : Nat} (he : Y.testBit (i + n) = false) (hr : Run Y i m') : m' ≤ n := Nat.le_of_not_lt fun hlt => by
  have := hr (i + n) (by omega) (by omega)
  rw [he] at this
  cases this
theorem oinv_more {Y i b m n : Nat} (h : OInv Y i b m) (hr : Run Y i n) (he : Y.testBit (i + n) = false) (hm : m < n) : OInv Y (i + 1) i n where
  run := hr
  max := fun j m' hj h2 => by
    by_cases e : j = i
    · subst e; exact run_max he h2
    · have := h.max j m' (by omega) h2; omega
  low := fun j hj _ h2 => by
    by_cases e : j = i
    · omega
    · have := h.max j n (by omega) h2; omega
  zero := fun e => by omega
  lt := fun _ => by omega
theorem oinv_same {Y i b m n : Nat} (h : OInv Y i b m) (he : Y.testBit (i + n) = false) (hm : ¬ m < n) : OInv Y (i + 1) b m where
  run := h.run
  max := fun j m' hj h2 => by
    by_cases e : j = i
    · subst e; have := run_max he h2; omega
    · exact h.max j m' (by omega) h2
  low := fun j hj h0 h2 => by
    by_cases e : j = i
    · have := h.lt h0; omega
    · exact h.low j (by omega) h0 h2
  zero := h.zero
  lt := fun h0 => by have := h.lt h0; omega
theorem oinv_best {Y i b m : Nat} (h : OInv Y i b m) (hi : ∀ j, i ≤ j → Y.testBit j = false) : Best Y b m where
  run := h.run
  max := fun j m' h2 => by
    by_cases hj : j < i
    · exact h.max j m' hj h2
    · by_cases h0 : m' = 0
      · omega
      · have := h2 j (by omega) (by omega)
        rw [hi j (by omega)] at this
        cases this
  low := fun j h0 h2 => by
    by_cases hj : j < i
    · exact h.low j hj h0 h2
    · have := h.lt h0; omega
  zero := h.zero

end Go.Proofs.Ytefcaeldkdbjdaa
