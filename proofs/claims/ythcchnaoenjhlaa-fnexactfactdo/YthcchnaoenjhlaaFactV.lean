/- Facts in plain words: which are valid, and what they make of the live blocks. -/
import Derived.Test.YthcchnaoenjhlaaFcM
import Derived.Test.YthcchnaoenjhlaaLiveC
namespace Go.Proofs.Ythcchnaoenjhlaa
open Go.RowKit

/-- What a fact may say, by its kind. -/
def BlkGood (a s : Int) : Prop := 0 ≤ a ∧ a < 256 ∧ 1 ≤ s
instance (a s : Int) : Decidable (BlkGood a s) := inferInstanceAs (Decidable (_ ∧ _))
def RefGood (a s : Int) : Prop := a = -1 ∧ 1 ≤ s ∧ s ≤ 256
instance (a s : Int) : Decidable (RefGood a s) := inferInstanceAs (Decidable (_ ∧ _))
def WrgGood (a s : Int) : Prop := 0 ≤ a ∧ a ≤ 4095 ∧ s = 0
instance (a s : Int) : Decidable (WrgGood a s) := inferInstanceAs (Decidable (_ ∧ _))
def SaysGood (f : Fc) : Prop := (f.k = 1 ∧ BlkGood f.a f.s) ∨ (f.k = 2 ∧ BlkGood f.a f.s) ∨ (f.k = 3 ∧ RefGood f.a f.s) ∨ (f.k = 4 ∧ WrgGood f.a f.s)
instance (f : Fc) : Decidable (SaysGood f) := inferInstanceAs (Decidable (_ ∨ _))
/-- A valid fact. -/
def FactGood (f : Fc) : Prop := SaysGood f ∧ (0 ≤ f.i ∧ f.i < 4) ∧ 0 ≤ f.l ∧ f.l < 8
instance (f : Fc) : Decidable (FactGood f) := inferInstanceAs (Decidable (_ ∧ _))

/-- What a valid fact makes of the live blocks. -/
def doV (ps : List (Int × Int)) (f : Fc) : Option (List (Int × Int)) :=
  if liveOkV ps 256 = true ∧ FactGood f then
    if f.k = 1 then (if addOk ps 256 (f.a, f.s) = true then some (addR ps 256 (f.a, f.s)) else none)
    else if f.k = 2 then (if (cutV ps 256 f.a).isSome = true ∧ cutS ps 256 f.a = f.s then some (cutR ps 256 f.a) else none)
    else if f.k = 4 then (if (cutV ps 256 f.a).isSome = true then none else some ps)
    else some ps
  else none
def doR (ps : List (Int × Int)) (f : Fc) : List (Int × Int) := (doV ps f).getD []
/-- What cutting at a leaves, if the block has s words. -/
def giveOk (ps : List (Int × Int)) (a s : Int) : Bool := (cutV ps 256 a).isSome && decide (cutS ps 256 a = s)
def giveR (ps : List (Int × Int)) (a s : Int) : List (Int × Int) := if giveOk ps a s = true then cutR ps 256 a else []
def wrongR (ps : List (Int × Int)) (a : Int) : List (Int × Int) := if (cutV ps 256 a).isSome = true then [] else ps

theorem giveOk_iff {ps : List (Int × Int)} {a s : Int} : giveOk ps a s = true ↔ ((cutV ps 256 a).isSome = true ∧ cutS ps 256 a = s) := by simp [giveOk]
theorem addOk_live {ps : List (Int × Int)} {z : Int} {b : Int × Int} (h : addOk ps z b = false) : addR ps z b = [] := by unfold addR; rw [h]; rfl
/-- What becomes of the blocks, by the kind of a valid fact. -/
theorem do_of {ps : List (Int × Int)} {f : Fc} (h : liveOkV ps 256 = true ∧ FactGood f) :
    (f.k = 1 → doR ps f = addR ps 256 (f.a, f.s) ∧ (doV ps f).isSome = addOk ps 256 (f.a, f.s)) ∧ (f.k = 2 → doR ps f = giveR ps f.a f.s ∧ (doV ps f).isSome = giveOk ps f.a f.s) ∧
    (f.k = 3 → doR ps f = ps ∧ (doV ps f).isSome = true) ∧ (f.k = 4 → doR ps f = wrongR ps f.a ∧ (doV ps f).isSome = !(cutV ps 256 f.a).isSome) := by
  unfold doR doV
  rw [if_pos h]
  refine ⟨fun e => ?_, fun e => ?_, fun e => ?_, fun e => ?_⟩
  · rw [if_pos e]
    cases ha : addOk ps 256 (f.a, f.s) with
    | true => simp
    | false => rw [addOk_live ha]; simp
  · rw [if_neg (by omega), if_pos e]
    unfold giveR
    cases hg : giveOk ps f.a f.s with
    | true => rw [if_pos (giveOk_iff.1 hg)]; simp
    | false => rw [if_neg (fun h2 => by rw [giveOk_iff.2 h2] at hg; cases hg)]; simp
  · rw [if_neg (by omega), if_neg (by omega), if_neg (by omega)]; simp
  · rw [if_neg (by omega), if_neg (by omega), if_pos e]
    unfold wrongR
    cases hc : (cutV ps 256 f.a).isSome <;> simp
theorem do_no {ps : List (Int × Int)} {f : Fc} (h : ¬ (liveOkV ps 256 = true ∧ FactGood f)) : doR ps f = [] ∧ (doV ps f).isSome = false := by
  unfold doR doV
  rw [if_neg h]
  exact ⟨rfl, rfl⟩
theorem doR_len (ps : List (Int × Int)) (f : Fc) : (doR ps f).length ≤ 300 := by
  by_cases h : liveOkV ps 256 = true ∧ FactGood f
  · obtain ⟨d1, d2, d3, d4⟩ := do_of h
    have hl := (liveOkV_z h.1).1.2.2
    have hk : f.k = 1 ∨ f.k = 2 ∨ f.k = 3 ∨ f.k = 4 := by rcases h.2.1 with g | g | g | g <;> omega
    rcases hk with e | e | e | e
    · rw [(d1 e).1]; exact addR_len _ _ _
    · rw [(d2 e).1]; unfold giveR; split
      · exact cutR_len _ _ _
      · simp
    · rw [(d3 e).1]; exact hl
    · rw [(d4 e).1]; unfold wrongR; split
      · simp
      · exact hl
  · rw [(do_no h).1]; simp


end Go.Proofs.Ythcchnaoenjhlaa
