/- Lists of blocks: what it means that they are accepted, in plain words. -/
import Derived.Test.YthcchnaoenjhlaaOwnP
namespace Go.Proofs.Ythcchnaoenjhlaa
open Go.RowKit

/-- From the address e on, in z words, the blocks follow one another. -/
def okFrom (z : Int) : Int → List (Int × Int) → Bool
  | _, [] => true
  | e, p :: ps => decide (e ≤ p.1 ∧ 1 ≤ p.2 ∧ p.1 + p.2 ≤ z) && okFrom z (p.1 + p.2) ps
/-- The blocks are accepted over z words. -/
def liveOkV (ps : List (Int × Int)) (z : Int) : Bool := decide (0 ≤ z ∧ z ≤ 256 ∧ ps.length ≤ 300) && okFrom z 0 ps

theorem okFrom_no {z e : Int} {ps : List (Int × Int)} {k : Nat} (hk : k < ps.length) (h : pa ps k < e ∨ pb ps k < 1 ∨ z < pa ps k + pb ps k) : okFrom z e (ps.drop k) = false := by
  rw [drop_p hk, okFrom]
  simp
  intro h1 h2 h3
  omega
theorem okFrom_yes {z e : Int} {ps : List (Int × Int)} {k : Nat} (hk : k < ps.length) (h1 : e ≤ pa ps k) (h2 : 1 ≤ pb ps k) (h3 : pa ps k + pb ps k ≤ z) : okFrom z e (ps.drop k) = okFrom z (pa ps k + pb ps k) (ps.drop (k + 1)) := by
  rw [drop_p hk, okFrom, decide_eq_true ⟨h1, h2, h3⟩]
  rfl
theorem okFrom_end {z e : Int} {ps : List (Int × Int)} {k : Nat} (hk : ps.length ≤ k) : okFrom z e (ps.drop k) = true := by
  rw [List.drop_eq_nil_of_le hk]
  rfl

theorem liveOkV_z {ps : List (Int × Int)} {z : Int} (h : liveOkV ps z = true) : (0 ≤ z ∧ z ≤ 256 ∧ ps.length ≤ 300) ∧ okFrom z 0 ps = true := by
  unfold liveOkV at h
  rw [Bool.and_eq_true] at h
  exact ⟨of_decide_eq_true h.1, h.2⟩
theorem okFrom_cons {z e : Int} {p : Int × Int} {ps : List (Int × Int)} (h : okFrom z e (p :: ps) = true) : (e ≤ p.1 ∧ 1 ≤ p.2 ∧ p.1 + p.2 ≤ z) ∧ okFrom z (p.1 + p.2) ps = true := by
  rw [okFrom, Bool.and_eq_true] at h
  exact ⟨of_decide_eq_true h.1, h.2⟩
/-- What is known of the block at k. -/
theorem okFrom_at {z : Int} : ∀ {ps : List (Int × Int)} {e : Int} {k : Nat}, okFrom z e ps = true → k < ps.length → e ≤ pa ps k ∧ 1 ≤ pb ps k ∧ pa ps k + pb ps k ≤ z
  | [], _, _, _, hk => by simp at hk
  | p :: ps, e, 0, h, _ => by
    have := (okFrom_cons h).1
    simpa [pa, pb] using this
  | p :: ps, e, k + 1, h, hk => by
    obtain ⟨h1, h2⟩ := okFrom_cons h
    have := okFrom_at (k := k) h2 (by simpa using hk)
    have e1 : pa (p :: ps) (k + 1) = pa ps k := by simp [pa]
    have e2 : pb (p :: ps) (k + 1) = pb ps k := by simp [pb]
    rw [e1, e2]
    omega
theorem live_at {ps : List (Int × Int)} {z : Int} (h : liveOkV ps z = true) {k : Nat} (hk : k < ps.length) : 0 ≤ pa ps k ∧ 1 ≤ pb ps k ∧ pa ps k + pb ps k ≤ z ∧ z ≤ 256 := by
  obtain ⟨⟨_, h1, _⟩, h2⟩ := liveOkV_z h
  have := okFrom_at h2 hk
  omega

/-- The sizes of the first k blocks. -/
def sumTo (ps : List (Int × Int)) (k : Nat) : Int := ((ps.take k).map (·.2)).sum
theorem sumTo_zero (ps : List (Int × Int)) : sumTo ps 0 = 0 := by simp [sumTo]
theorem sumTo_next {ps : List (Int × Int)} {k : Nat} (h : k < ps.length) : sumTo ps (k + 1) = sumTo ps k + pb ps k := by
  unfold sumTo
  rw [take_succ_p h]
  simp
theorem sumTo_le {z : Int} : ∀ {ps : List (Int × Int)} {e : Int} (k : Nat), okFrom z e ps = true → e ≤ z → 0 ≤ sumTo ps k ∧ sumTo ps k ≤ z - e
  | [], e, k, _, he => by simp [sumTo]; omega
  | p :: ps, e, 0, _, he => by simp [sumTo]; omega
  | p :: ps, e, k + 1, h, he => by
    obtain ⟨h1, h2⟩ := okFrom_cons h
    have h3 := sumTo_le k h2 h1.2.2
    have e1 : sumTo (p :: ps) (k + 1) = p.2 + sumTo ps k := by simp [sumTo]
    rw [e1]
    omega
theorem live_sum {ps : List (Int × Int)} {z : Int} (h : liveOkV ps z = true) (k : Nat) : 0 ≤ sumTo ps k ∧ sumTo ps k ≤ 256 := by
  obtain ⟨⟨h0, h1, _⟩, h2⟩ := liveOkV_z h
  have := sumTo_le k h2 h0
  omega
/-- How many words the blocks have; -1 where they are not accepted. -/
def liveSumV (ps : List (Int × Int)) (z : Int) : Int := if liveOkV ps z = true then sumTo ps ps.length else -1

/-- The block with the word at. -/
def hasW (a : Int) (p : Int × Int) : Bool := decide (p.1 ≤ a ∧ a < p.1 + p.2)
def findV (ps : List (Int × Int)) (z a : Int) : Option (Int × Int) := if liveOkV ps z = true then ps.find? (hasW a) else none
theorem find_hit {ps : List (Int × Int)} {k : Nat} {a : Int} (hk : k < ps.length) (h1 : pa ps k ≤ a) (h2 : a < pa ps k + pb ps k) : (ps.drop k).find? (hasW a) = some (pa ps k, pb ps k) := by
  rw [drop_p hk, List.find?_cons_of_pos]
  exact decide_eq_true ⟨h1, h2⟩
theorem find_miss {ps : List (Int × Int)} {k : Nat} {a : Int} (hk : k < ps.length) (h : ¬ (pa ps k ≤ a ∧ a < pa ps k + pb ps k)) : (ps.drop k).find? (hasW a) = (ps.drop (k + 1)).find? (hasW a) := by
  rw [drop_p hk, List.find?_cons_of_neg]
  simpa [hasW] using h
theorem find_end {ps : List (Int × Int)} {k : Nat} {a : Int} (hk : ps.length ≤ k) : (ps.drop k).find? (hasW a) = none := by
  rw [List.drop_eq_nil_of_le hk]
  rfl

end Go.Proofs.Ythcchnaoenjhlaa
