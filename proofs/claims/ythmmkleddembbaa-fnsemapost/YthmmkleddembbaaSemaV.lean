/- What SemaPost, SemaServe and SemaWant answer, in plain numbers. -/
import Derived.Test.YthmmkleddembbaaSemaM
namespace Go.Proofs.Ythmmkleddembbaa
open Go.RowKit
set_option linter.unusedVariables false

def PostOk (C E R n : Int) : Prop := IsAmt n ∧ SemaGood C E R ∧ SemaGood (C + n) (E - n) R
instance (C E R n : Int) : Decidable (PostOk C E R n) := inferInstanceAs (Decidable (_ ∧ _ ∧ _))
def ServeOk (C E R n : Int) : Prop := IsAmt n ∧ SemaGood C E R ∧ SemaGood (C - n) E (R - n)
instance (C E R n : Int) : Decidable (ServeOk C E R n) := inferInstanceAs (Decidable (_ ∧ _ ∧ _))
/-- The semaphore and the code of a request. -/
def wantV (C E R n b : Int) : Int × Int × Int × Int :=
  if SemaGood C E R ∧ IsAmt n ∧ IsAmt b then
    if n ≤ C - R then (C - n, E, R, 1)
    else if n ≤ C + E - R then (if SemaGood C E (R + n) then (C, E, R + n, 2) else (0, 0, 0, 0))
    else if n ≤ b then (if SemaGood C (E + b) (R + n) then (C, E + b, R + n, 3) else (0, 0, 0, 0))
    else (0, 0, 0, 0)
  else (0, 0, 0, 0)
def wantA (x : Int × Int × Int × Int) : Value := .tuple #[.agg #[.int .i64 x.1, .int .i64 x.2.1, .int .i64 x.2.2.1], .int .i64 x.2.2.2]
theorem want_bad {C E R n b : Int} (h : ¬ (SemaGood C E R ∧ IsAmt n ∧ IsAmt b)) : wantV C E R n b = (0, 0, 0, 0) := if_neg h
theorem want_now {C E R n b : Int} (h : SemaGood C E R ∧ IsAmt n ∧ IsAmt b) (h1 : n ≤ C - R) : wantV C E R n b = (C - n, E, R, 1) ∧ SemaGood (C - n) E R := by
  refine ⟨by unfold wantV; rw [if_pos h, if_pos h1], ?_⟩
  obtain ⟨h, hn, -⟩ := h
  unfold SemaGood IsAmt at *
  omega
theorem want_wait {C E R n b : Int} (h : SemaGood C E R ∧ IsAmt n ∧ IsAmt b) (h1 : ¬ n ≤ C - R) (h2 : n ≤ C + E - R) : wantV C E R n b = if SemaGood C E (R + n) then (C, E, R + n, 2) else (0, 0, 0, 0) := by
  unfold wantV; rw [if_pos h, if_neg h1, if_pos h2]
theorem want_make {C E R n b : Int} (h : SemaGood C E R ∧ IsAmt n ∧ IsAmt b) (h1 : ¬ n ≤ C - R) (h2 : ¬ n ≤ C + E - R) (h3 : n ≤ b) : wantV C E R n b = if SemaGood C (E + b) (R + n) then (C, E + b, R + n, 3) else (0, 0, 0, 0) := by
  unfold wantV; rw [if_pos h, if_neg h1, if_neg h2, if_pos h3]
theorem want_none {C E R n b : Int} (h : SemaGood C E R ∧ IsAmt n ∧ IsAmt b) (h1 : ¬ n ≤ C - R) (h2 : ¬ n ≤ C + E - R) (h3 : ¬ n ≤ b) : wantV C E R n b = (0, 0, 0, 0) := by
  unfold wantV; rw [if_pos h, if_neg h1, if_neg h2, if_neg h3]

end Go.Proofs.Ythmmkleddembbaa
