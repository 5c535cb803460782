/- What the law of lists of blocks needs, in plain words: a block that was added is found and cut; what is free and what is taken are all words. -/
import Derived.Test.YtlaegdfaaoaiaaaLiveC
import Derived.Test.YtlaegdfaaoaiaaaLiveF
namespace Go.Proofs.Ytlaegdfaaoaiaaa
open Go.RowKit

/-- A block is found at each of its words. -/
theorem find_in {z a : Int} : ∀ {ps : List (Int × Int)} {e : Int} {b : Int × Int}, okFrom z e ps = true → b ∈ ps → b.1 ≤ a → a < b.1 + b.2 → ps.find? (hasW a) = some b
  | [], _, _, _, hb, _, _ => by simp at hb
  | p :: ps, e, b, h, hb, h1, h2 => by
    obtain ⟨h3, h4⟩ := okFrom_cons h
    rcases List.mem_cons.1 hb with rfl | hb
    · exact List.find?_cons_of_pos (decide_eq_true ⟨h1, h2⟩)
    · have := okFrom_from h4 b hb
      rw [List.find?_cons_of_neg (by simp [hasW]; omega)]
      exact find_in h4 hb h1 h2
theorem insV_mem (ps : List (Int × Int)) (b : Int × Int) : b ∈ insV ps b := (insV_perm ps b).mem_iff.2 (by simp)
theorem found_ins {ps : List (Int × Int)} {z a : Int} {b : Int × Int} (h : liveOkV (insV ps b) z = true) (h1 : b.1 ≤ a) (h2 : a < b.1 + b.2) : findV (insV ps b) z a = some b := by
  unfold findV
  rw [if_pos h]
  exact find_in (liveOkV_z h).2 (insV_mem ps b) h1 h2
theorem cut_ins {ps : List (Int × Int)} {z : Int} {b : Int × Int} (h : liveOkV (insV ps b) z = true) : cutV (insV ps b) z b.1 = some b ∧ cutL (insV ps b) b.1 = ps := by
  have hb := insV_mem ps b
  have hm := live_mem h b hb
  constructor
  · rw [cut_of_find, found_ins h (by omega) (by omega)]
    simp
  · have hpw := live_pw h
    unfold insV at hpw
    obtain ⟨_, h3, h4⟩ := List.pairwise_append.1 hpw
    obtain ⟨h5, _⟩ := List.pairwise_cons.1 h3
    unfold cutL insV
    rw [List.filter_append, List.filter_cons_of_neg (by simp [atV])]
    have e1 : (ps.takeWhile (fun p => decide (p.1 < b.1))).filter (fun q => !atV b.1 q) = ps.takeWhile (fun p => decide (p.1 < b.1)) := List.filter_eq_self.2 fun q hq => by
      have := h4 q hq b (by simp)
      simp [atV]; omega
    have e2 : (ps.dropWhile (fun p => decide (p.1 < b.1))).filter (fun q => !atV b.1 q) = ps.dropWhile (fun p => decide (p.1 < b.1)) := List.filter_eq_self.2 fun q hq => by
      have := h5 q hq
      simp [atV]; omega
    rw [e1, e2, List.takeWhile_append_dropWhile]
theorem cutR_ins {ps : List (Int × Int)} {z : Int} {b : Int × Int} (h : liveOkV (insV ps b) z = true) : cutR (insV ps b) z b.1 = ps ∧ cutS (insV ps b) z b.1 = b.2 ∧ (cutV (insV ps b) z b.1).isSome = true := by
  obtain ⟨h1, h2⟩ := cut_ins h
  unfold cutR cutS
  rw [h1, h2]
  exact ⟨rfl, rfl, rfl⟩
/-- The sizes of a list. -/
def sizes (ps : List (Int × Int)) : Int := (ps.map (·.2)).sum
theorem sumTo_all (ps : List (Int × Int)) : sumTo ps ps.length = sizes ps := by simp [sumTo, sizes]
theorem sizes_perm {ps qs : List (Int × Int)} (h : ps.Perm qs) : sizes ps = sizes qs := by
  induction h with
  | nil => rfl
  | cons x _ ih => simp [sizes] at *; omega
  | swap x y l => simp [sizes]; omega
  | trans _ _ h1 h2 => omega
theorem sum_ins {ps : List (Int × Int)} {z : Int} {b : Int × Int} (h1 : liveOkV ps z = true) (h2 : liveOkV (insV ps b) z = true) : liveSumV (insV ps b) z = liveSumV ps z + b.2 := by
  unfold liveSumV
  rw [if_pos h1, if_pos h2, sumTo_all, sumTo_all, sizes_perm (insV_perm ps b)]
  simp [sizes]; omega
/-- Taken and free words are all words. -/
theorem gapsQ_sum {z : Int} : ∀ {ps : List (Int × Int)} {e : Int}, okFrom z e ps = true → e ≤ z → sizes ps + sizes (gapsQ e (ps ++ [(z, 0)])) = z - e
  | [], e, _, h0 => by
    simp only [List.nil_append, gapsQ, List.append_nil]
    split
    · simp [sizes]
    · simp [sizes]; omega
  | p :: ps, e, h, h0 => by
    obtain ⟨h1, h2⟩ := okFrom_cons h
    have ih := gapsQ_sum h2 h1.2.2
    rw [List.cons_append, gapsQ]
    split
    · simp [sizes] at *; omega
    · simp [sizes] at *; omega
theorem free_sum {ps : List (Int × Int)} {z : Int} (h : liveOkV ps z = true) : liveSumV ps z + sumTo (freeV ps z) (freeV ps z).length = z := by
  obtain ⟨⟨h0, h1, _⟩, h2⟩ := liveOkV_z h
  unfold liveSumV freeV
  rw [if_pos h, if_pos h, sumTo_all, sumTo_all]
  have := gapsQ_sum h2 h0
  omega
theorem free_none {ps : List (Int × Int)} {z : Int} (h : liveOkV ps z = true) {i : Nat} (hi : i < (freeV ps z).length) : findV ps z (pa (freeV ps z) i) = none := by
  have hm : (pa (freeV ps z) i, pb (freeV ps z) i) ∈ gapsQ 0 (ps ++ [(z, 0)]) := by
    have : freeV ps z = gapsQ 0 (ps ++ [(z, 0)]) := by unfold freeV; rw [if_pos h]
    rw [← this, ← pair_at hi]
    exact List.getElem_mem hi
  obtain ⟨⟨h0, h1, _⟩, h2⟩ := liveOkV_z h
  have := gapsQ_in h2 (by omega) h0 _ hm
  unfold findV
  rw [if_pos h]
  refine List.find?_eq_none.2 fun p hp => ?_
  have h3 := this.2.2.2 p hp
  simp only at h3
  simpa [hasW] using h3
theorem free_part {ps : List (Int × Int)} {z : Int} : ∀ k, k ≤ (freeV ps z).length → 0 ≤ sumTo (freeV ps z) k ∧ sumTo (freeV ps z) k ≤ 256 * k
  | 0, _ => by simp [sumTo]
  | k + 1, h => by
    have ih := free_part (ps := ps) (z := z) k (by omega)
    have := freeV_at (ps := ps) (z := z) (i := k) (by omega)
    rw [sumTo_next (by omega)]
    omega

end Go.Proofs.Ytlaegdfaaoaiaaa
