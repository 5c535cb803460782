/- Runs of facts in plain words. -/
import Derived.Test.YthcchnaoenjhlaaFactV
import Derived.Test.YthcchnaoenjhlaaOwnF
import Derived.Test.YthcchnaoenjhlaaSetP
import Derived.Test.YthcchnaoenjhlaaNewB
namespace Go.Proofs.Ythcchnaoenjhlaa
open Go.RowKit
set_option linter.unusedVariables false

/-- The live blocks after the facts, and the first fact that is not consistent, or -1. -/
def runL : List (Int × Int) → Int → List Fc → List (Int × Int) × Int
  | ps, _, [] => (ps, -1)
  | ps, i, f :: fs => if (doV ps f).isSome = true then runL (doR ps f) (i + 1) fs else ([], i)
def runV (fs : List Fc) : List (Int × Int) × Int := if fs.length ≤ 2000 then runL [] 0 fs else ([], 0)
theorem run_next {fs : List Fc} {ps : List (Int × Int)} {k : Nat} (h : k < fs.length) : runL ps k (fs.drop k) = if (doV ps (fat fs k)).isSome = true then runL (doR ps (fat fs k)) ((k + 1 : Nat) : Int) (fs.drop (k + 1)) else ([], (k : Int)) := by
  rw [drop_f h]
  rfl
theorem run_end {fs : List Fc} {ps : List (Int × Int)} {k : Nat} (h : fs.length ≤ k) : runL ps k (fs.drop k) = (ps, -1) := by
  rw [List.drop_eq_nil_of_le h]
  rfl
theorem runL_len : ∀ (fs : List Fc) (ps : List (Int × Int)) (i : Int), ps.length ≤ 300 → (runL ps i fs).1.length ≤ 300
  | [], ps, i, h => h
  | f :: fs, ps, i, h => by
    unfold runL
    split
    · exact runL_len fs _ _ (doR_len ps f)
    · simp
theorem runV_len (fs : List Fc) : (runV fs).1.length ≤ 300 := by
  unfold runV
  split
  · exact runL_len fs [] 0 (by simp)
  · simp
theorem doR_wf {ps : List (Int × Int)} {f : Fc} (h : WfP ps) (hf : f.Wf) : WfP (doR ps f) := by
  by_cases hc : liveOkV ps 256 = true ∧ FactGood f
  · obtain ⟨d1, d2, d3, d4⟩ := do_of hc
    have hk : f.k = 1 ∨ f.k = 2 ∨ f.k = 3 ∨ f.k = 4 := by rcases hc.2.1 with g | g | g | g <;> omega
    rcases hk with e | e | e | e
    · rw [(d1 e).1]
      unfold addR
      split
      · intro p hp
        rcases List.mem_cons.1 ((insV_perm ps (f.a, f.s)).mem_iff.1 hp) with rfl | hp
        · exact hf.2
        · exact h p hp
      · intro p hp; simp at hp
    · rw [(d2 e).1]
      unfold giveR cutR cutL
      split
      · split
        · exact fun p hp => h p (List.mem_filter.1 hp).1
        · intro p hp; simp at hp
      · intro p hp; simp at hp
    · rw [(d3 e).1]; exact h
    · rw [(d4 e).1]
      unfold wrongR
      split
      · intro p hp; simp at hp
      · exact h
  · rw [(do_no hc).1]
    intro p hp
    simp at hp
theorem OwnP.cap {w : World} {b0 n c : Nat} {A : Option Addr} {ps : List (Int × Int)} (h : OwnP w b0 A n c ps) : n ≤ c ∧ c ≤ maxLen := by
  rcases h.2 with ⟨hv, h0⟩ | ⟨g, cap, cur, hv, _, _, hnc, hcm, _⟩
  · injection hv with h1 h2 h3
    omega
  · injection hv with h1 h2 h3
    omega

end Go.Proofs.Ythcchnaoenjhlaa
