/- The free runs between blocks, in plain words. -/
import Derived.Test.YtlaegdfaaoaiaaaLiveM
namespace Go.Proofs.Ytlaegdfaaoaiaaa
open Go.RowKit

/-- What lies free between e and the blocks, one after the other. -/
def gapsQ : Int → List (Int × Int) → List (Int × Int)
  | _, [] => []
  | e, q :: qs => (if e < q.1 then [(e, q.1 - e)] else []) ++ gapsQ (q.1 + q.2) qs
/-- The free runs: as if a block of no word began where the words end. -/
def freeV (ps : List (Int × Int)) (z : Int) : List (Int × Int) := if liveOkV ps z = true then gapsQ 0 (ps ++ [(z, 0)]) else []
theorem gapsQ_yes {qs : List (Int × Int)} {k : Nat} {e : Int} (hk : k < qs.length) (h : e < pa qs k) : gapsQ e (qs.drop k) = (e, pa qs k - e) :: gapsQ (pa qs k + pb qs k) (qs.drop (k + 1)) := by
  rw [drop_p hk, gapsQ, if_pos h]
  rfl
theorem gapsQ_no {qs : List (Int × Int)} {k : Nat} {e : Int} (hk : k < qs.length) (h : ¬ e < pa qs k) : gapsQ e (qs.drop k) = gapsQ (pa qs k + pb qs k) (qs.drop (k + 1)) := by
  rw [drop_p hk, gapsQ, if_neg h]
  rfl
theorem gapsQ_end {qs : List (Int × Int)} {k : Nat} {e : Int} (hk : qs.length ≤ k) : gapsQ e (qs.drop k) = [] := by
  rw [List.drop_eq_nil_of_le hk]
  rfl
theorem pa_left {ps qs : List (Int × Int)} {k : Nat} (h : k < ps.length) : pa (ps ++ qs) k = pa ps k := by simp [pa, List.getElem?_append_left h]
theorem pb_left {ps qs : List (Int × Int)} {k : Nat} (h : k < ps.length) : pb (ps ++ qs) k = pb ps k := by simp [pb, List.getElem?_append_left h]
theorem pa_last {ps : List (Int × Int)} {x y : Int} : pa (ps ++ [(x, y)]) ps.length = x := by simp [pa]
theorem pb_last {ps : List (Int × Int)} {x y : Int} : pb (ps ++ [(x, y)]) ps.length = y := by simp [pb]
theorem live_ext {ps : List (Int × Int)} {z : Int} (h : liveOkV ps z = true) {k : Nat} (hk : k < ps.length + 1) : (0 ≤ pa (ps ++ [(z, 0)]) k ∧ 0 ≤ pb (ps ++ [(z, 0)]) k ∧ pa (ps ++ [(z, 0)]) k + pb (ps ++ [(z, 0)]) k ≤ z) ∧ 0 ≤ z ∧ z ≤ 256 := by
  have hz := (liveOkV_z h).1
  by_cases hl : k < ps.length
  · have := live_at h hl
    rw [pa_left hl, pb_left hl]
    omega
  · obtain rfl : k = ps.length := by omega
    rw [pa_last, pb_last]
    omega
theorem gapsQ_len : ∀ (qs : List (Int × Int)) (e : Int), (gapsQ e qs).length ≤ qs.length
  | [], _ => Nat.le_refl _
  | q :: qs, e => by
    have := gapsQ_len qs (q.1 + q.2)
    rw [gapsQ]
    split <;> simp <;> omega
theorem freeV_len {ps : List (Int × Int)} {z : Int} : (freeV ps z).length ≤ 301 := by
  unfold freeV
  split
  · rename_i h
    have := (liveOkV_z h).1
    have h2 := gapsQ_len (ps ++ [(z, 0)]) 0
    simp at h2
    omega
  · simp

theorem okFrom_from {z : Int} : ∀ {ps : List (Int × Int)} {e : Int}, okFrom z e ps = true → ∀ p ∈ ps, e ≤ p.1 ∧ 1 ≤ p.2
  | [], _, _, p, hp => by simp at hp
  | q :: ps, e, h, p, hp => by
    obtain ⟨h1, h2⟩ := okFrom_cons h
    rcases List.mem_cons.1 hp with rfl | hp
    · omega
    · have := okFrom_from h2 p hp
      omega
/-- What is free are ints. -/
theorem gapsQ_in {z : Int} : ∀ {ps : List (Int × Int)} {e : Int}, okFrom z e ps = true → 0 ≤ e → e ≤ z → ∀ g ∈ gapsQ e (ps ++ [(z, 0)]), e ≤ g.1 ∧ 1 ≤ g.2 ∧ g.1 + g.2 ≤ z ∧ ∀ p ∈ ps, ¬ (p.1 ≤ g.1 ∧ g.1 < p.1 + p.2)
  | [], e, _, _, h0, g, hg => by
    simp only [List.nil_append, gapsQ, List.append_nil] at hg
    split at hg
    · simp at hg; subst hg; simp; omega
    · simp at hg
  | p :: ps, e, h, he, h0, g, hg => by
    obtain ⟨h1, h2⟩ := okFrom_cons h
    rw [List.cons_append, gapsQ, List.mem_append] at hg
    rcases hg with hg | hg
    · split at hg
      · simp at hg
        subst hg
        refine ⟨by simp, by simp; omega, by simp; omega, fun q hq => ?_⟩
        rcases List.mem_cons.1 hq with rfl | hq
        · simp; omega
        · have := okFrom_from h2 q hq
          simp; omega
      · simp at hg
    · have ih := gapsQ_in h2 (by omega) h1.2.2 g hg
      refine ⟨by omega, ih.2.1, ih.2.2.1, fun q hq => ?_⟩
      rcases List.mem_cons.1 hq with rfl | hq
      · omega
      · exact ih.2.2.2 q hq
theorem freeV_at {ps : List (Int × Int)} {z : Int} {i : Nat} (hi : i < (freeV ps z).length) : 0 ≤ pa (freeV ps z) i ∧ 1 ≤ pb (freeV ps z) i ∧ pa (freeV ps z) i + pb (freeV ps z) i ≤ 256 := by
  have hm : (pa (freeV ps z) i, pb (freeV ps z) i) ∈ freeV ps z := by rw [← pair_at hi]; exact List.getElem_mem hi
  unfold freeV at hm
  split at hm
  · rename_i h
    obtain ⟨⟨h0, h1, _⟩, h2⟩ := liveOkV_z h
    have := gapsQ_in h2 (by omega) h0 _ hm
    simp only at this
    unfold freeV
    rw [if_pos h]
    omega
  · simp at hm
theorem freeV_wf {ps : List (Int × Int)} {z : Int} : WfP (freeV ps z) := fun g hg => by
  unfold freeV at hg
  split at hg
  · rename_i h
    obtain ⟨⟨h0, h1, _⟩, h2⟩ := liveOkV_z h
    have := gapsQ_in h2 (by omega) h0 g hg
    omega
  · simp at hg

end Go.Proofs.Ytlaegdfaaoaiaaa
