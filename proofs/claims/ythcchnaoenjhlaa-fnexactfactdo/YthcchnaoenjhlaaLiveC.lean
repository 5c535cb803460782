/- Cutting a block out of a list and adding one, in plain words. -/
import Derived.Test.YthcchnaoenjhlaaLiveM
import Derived.Test.YthcchnaoenjhlaaSortP
namespace Go.Proofs.Ythcchnaoenjhlaa
open Go.RowKit Go.Sort Go.Shelf Go.Lib

/-- Accepted blocks follow one another. -/
theorem okFrom_pw {z : Int} : ∀ {ps : List (Int × Int)} {e : Int}, okFrom z e ps = true → ps.Pairwise (fun x y => x.1 + x.2 ≤ y.1) ∧ ∀ p ∈ ps, e ≤ p.1 ∧ 1 ≤ p.2 ∧ p.1 + p.2 ≤ z
  | [], _, _ => ⟨List.Pairwise.nil, by simp⟩
  | p :: ps, e, h => by
    obtain ⟨h1, h2⟩ := okFrom_cons h
    obtain ⟨h3, h4⟩ := okFrom_pw h2
    refine ⟨List.pairwise_cons.2 ⟨fun q hq => (h4 q hq).1, h3⟩, fun q hq => ?_⟩
    rcases List.mem_cons.1 hq with rfl | hq
    · exact h1
    · have := h4 q hq
      omega
theorem live_pw {ps : List (Int × Int)} {z : Int} (h : liveOkV ps z = true) : ps.Pairwise (fun x y => x.1 < y.1) := by
  obtain ⟨h1, h2⟩ := okFrom_pw (liveOkV_z h).2
  exact (h1.imp_of_mem fun {a b} ha _ hab => by have := h2 a ha; omega)
theorem live_mem {ps : List (Int × Int)} {z : Int} (h : liveOkV ps z = true) : ∀ p ∈ ps, 0 ≤ p.1 ∧ 1 ≤ p.2 ∧ p.1 + p.2 ≤ z := (okFrom_pw (liveOkV_z h).2).2
theorem pw_lt {ps : List (Int × Int)} (h : ps.Pairwise (fun x y => x.1 < y.1)) : ps.Pairwise (fun x y => ltP x y = true) := h.imp fun {a b} hab => by simp [ltP, hab]
theorem pw_one {ps : List (Int × Int)} (h : ps.Pairwise (fun x y => x.1 < y.1)) {p q : Int × Int} (hp : p ∈ ps) (hq : q ∈ ps) (e : p.1 = q.1) : p = q := by
  induction ps with
  | nil => simp at hp
  | cons x xs ih =>
    obtain ⟨h1, h2⟩ := List.pairwise_cons.1 h
    rcases List.mem_cons.1 hp with hp1 | hp1
    · rcases List.mem_cons.1 hq with hq1 | hq1
      · rw [hp1, hq1]
      · have := h1 q hq1; rw [hp1] at e; omega
    · rcases List.mem_cons.1 hq with hq1 | hq1
      · have := h1 p hp1; rw [hq1] at e; omega
      · exact ih h2 hp1 hq1

/-- The block that begins at a. -/
def atV (a : Int) (p : Int × Int) : Bool := decide (p.1 = a)
def cutV (ps : List (Int × Int)) (z a : Int) : Option (Int × Int) := if liveOkV ps z = true then ps.find? (atV a) else none
/-- The list without it. -/
def cutL (ps : List (Int × Int)) (a : Int) : List (Int × Int) := ps.filter (fun q => !atV a q)
def cutR (ps : List (Int × Int)) (z a : Int) : List (Int × Int) := if (cutV ps z a).isSome = true then cutL ps a else []
def cutS (ps : List (Int × Int)) (z a : Int) : Int := ((cutV ps z a).getD (0, 0)).2

/-- The block that begins at a is the one that has the word a, if that begins there. -/
theorem find_at {z a : Int} : ∀ {ps : List (Int × Int)} {e : Int}, okFrom z e ps = true → ps.find? (atV a) = (ps.find? (hasW a)).bind (fun q => if q.1 = a then some q else none)
  | [], _, _ => rfl
  | p :: ps, e, h => by
    obtain ⟨h1, h2⟩ := okFrom_cons h
    by_cases hw : p.1 ≤ a ∧ a < p.1 + p.2
    · have e1 : (p :: ps).find? (hasW a) = some p := List.find?_cons_of_pos (decide_eq_true hw)
      rw [e1]
      by_cases ha : p.1 = a
      · have e2 : (p :: ps).find? (atV a) = some p := List.find?_cons_of_pos (decide_eq_true ha)
        rw [e2]
        simp [ha]
      · rw [List.find?_cons_of_neg (by simp [atV, ha])]
        have : ps.find? (atV a) = none := List.find?_eq_none.2 fun q hq => by
          have := (okFrom_pw h2).2 q hq
          simp [atV]
          omega
        rw [this]
        simp [ha]
    · have e1 : (p :: ps).find? (hasW a) = ps.find? (hasW a) := List.find?_cons_of_neg (by simpa [hasW] using hw)
      have ha : ¬ p.1 = a := fun ha => hw ⟨by omega, by omega⟩
      rw [e1, List.find?_cons_of_neg (by simp [atV, ha])]
      exact find_at h2
theorem cut_of_find {ps : List (Int × Int)} {z a : Int} : cutV ps z a = (findV ps z a).bind (fun q => if q.1 = a then some q else none) := by
  unfold cutV findV
  split
  · rename_i h
    exact find_at (liveOkV_z h).2
  · rfl
theorem cutV_mem {ps : List (Int × Int)} {z a : Int} {p : Int × Int} (h : cutV ps z a = some p) : liveOkV ps z = true ∧ p ∈ ps ∧ p.1 = a := by
  unfold cutV at h
  split at h
  · rename_i hl
    refine ⟨hl, List.mem_of_find?_eq_some h, ?_⟩
    have := List.find?_some h
    simpa [atV] using this
  · cases h
/-- What the set without the block has. -/
theorem cutL_mem {ps : List (Int × Int)} {z a : Int} {p : Int × Int} (h : cutV ps z a = some p) (q : Int × Int) : q ∈ cutL ps a ↔ (!decide (q = p) && decide (q ∈ ps)) = true := by
  obtain ⟨hl, hp, ha⟩ := cutV_mem h
  unfold cutL
  rw [List.mem_filter]
  by_cases hq : q ∈ ps
  · by_cases e : q = p
    · subst e
      simp [atV, ha]
    · have : ¬ q.1 = a := fun e2 => e (pw_one (live_pw hl) hq hp (by rw [e2, ha]))
      simp [hq, e, atV, this]
  · simp [hq]
theorem cutL_pw {ps : List (Int × Int)} {z a : Int} (h : liveOkV ps z = true) : (cutL ps a).Pairwise (fun x y => ltP x y = true) := pw_lt ((live_pw h).filter _)
theorem cutR_len (ps : List (Int × Int)) (z a : Int) : (cutR ps z a).length ≤ 300 := by
  unfold cutR
  split
  · rename_i h
    obtain ⟨p, hp⟩ := Option.isSome_iff_exists.1 h
    have h1 := (liveOkV_z (cutV_mem hp).1).1
    have h2 : (cutL ps a).length ≤ ps.length := List.length_filter_le _ _
    omega
  · simp
/-- The first block that begins at a lies at k. -/
theorem cut_hit {ps : List (Int × Int)} {z a : Int} {k : Nat} (hl : liveOkV ps z = true) (hk : k < ps.length) (hf : cutV ps z a = (ps.drop k).find? (atV a)) (h : pa ps k = a) : cutV ps z a = some (pa ps k, pb ps k) ∧ cutL ps a = ps.take k ++ ps.drop (k + 1) := by
  have h1 : cutV ps z a = some (pa ps k, pb ps k) := by
    rw [hf, drop_p hk]
    exact List.find?_cons_of_pos (decide_eq_true h)
  refine ⟨h1, ?_⟩
  have hpw := live_pw hl
  have e0 : ps = ps.take k ++ (pa ps k, pb ps k) :: ps.drop (k + 1) := by rw [← drop_p hk, List.take_append_drop]
  have hpw2 := hpw
  rw [e0] at hpw2
  obtain ⟨_, h3, h4⟩ := List.pairwise_append.1 hpw2
  obtain ⟨h5, _⟩ := List.pairwise_cons.1 h3
  unfold cutL
  conv => lhs; rw [e0]
  rw [List.filter_append, List.filter_cons_of_neg (by simp [atV, h])]
  congr 1
  · exact List.filter_eq_self.2 fun q hq => by
      have := h4 q hq (pa ps k, pb ps k) (by simp)
      simp [atV]
      simp only at this
      omega
  · exact List.filter_eq_self.2 fun q hq => by
      have := h5 q hq
      simp [atV]
      simp only at this
      omega
theorem cut_miss {ps : List (Int × Int)} {k : Nat} {a : Int} (hk : k < ps.length) (h : ¬ pa ps k = a) : (ps.drop k).find? (atV a) = (ps.drop (k + 1)).find? (atV a) := by
  rw [drop_p hk, List.find?_cons_of_neg]
  simpa [atV] using h
theorem cut_end {ps : List (Int × Int)} {k : Nat} {a : Int} (hk : ps.length ≤ k) : (ps.drop k).find? (atV a) = none := by
  rw [List.drop_eq_nil_of_le hk]
  rfl

/-- The list with b ahead of the first block that does not begin before it. -/
def insV (ps : List (Int × Int)) (b : Int × Int) : List (Int × Int) := ps.takeWhile (fun p => decide (p.1 < b.1)) ++ b :: ps.dropWhile (fun p => decide (p.1 < b.1))
def addOk (ps : List (Int × Int)) (z : Int) (b : Int × Int) : Bool := liveOkV ps z && liveOkV (insV ps b) z
def addR (ps : List (Int × Int)) (z : Int) (b : Int × Int) : List (Int × Int) := if addOk ps z b = true then insV ps b else []
theorem insV_perm (ps : List (Int × Int)) (b : Int × Int) : (insV ps b).Perm (b :: ps) := by
  unfold insV
  refine List.perm_middle.trans ?_
  rw [List.takeWhile_append_dropWhile]
theorem insV_len (ps : List (Int × Int)) (b : Int × Int) : (insV ps b).length = ps.length + 1 := by
  have := (insV_perm ps b).length_eq
  simpa using this
theorem insV_weak {b : Int × Int} : ∀ {ps : List (Int × Int)}, ps.Pairwise (fun x y => x.1 < y.1) → (insV ps b).Pairwise (fun x y => x.1 ≤ y.1)
  | [], _ => by simp [insV]
  | p :: ps, h => by
    obtain ⟨h1, h2⟩ := List.pairwise_cons.1 h
    by_cases hp : p.1 < b.1
    · have e : insV (p :: ps) b = p :: insV ps b := by simp [insV, hp]
      rw [e]
      refine List.pairwise_cons.2 ⟨fun q hq => ?_, insV_weak h2⟩
      rcases List.mem_cons.1 ((insV_perm ps b).mem_iff.1 hq) with rfl | hq
      · omega
      · have := h1 q hq; omega
    · have e : insV (p :: ps) b = b :: p :: ps := by simp [insV, hp]
      rw [e]
      refine List.pairwise_cons.2 ⟨fun q hq => ?_, h.imp fun {x y} hxy => by omega⟩
      rcases List.mem_cons.1 hq with rfl | hq
      · omega
      · have := h1 q hq; omega
theorem pw_nodup {ps : List (Int × Int)} (h : ps.Pairwise (fun x y => x.1 < y.1)) : (ps.map (·.1)).Nodup := List.pairwise_map.2 (h.imp fun {a b} hab => by omega)
/-- A block that is there already is not accepted. -/
theorem add_twice {ps : List (Int × Int)} {z : Int} {b : Int × Int} (hb : b ∈ ps) : liveOkV (insV ps b) z = false := by
  cases h : liveOkV (insV ps b) z with
  | false => rfl
  | true =>
    have h1 := pw_nodup (live_pw h)
    have h2 := ((insV_perm ps b).map (·.1)).nodup_iff.1 h1
    simp only [List.map_cons, List.nodup_cons] at h2
    exact absurd (List.mem_map_of_mem hb) h2.1
/-- The sorted list is accepted just where the other is, and then they are one. -/
theorem add_sorted {ps : List (Int × Int)} {z : Int} {b : Int × Int} (hl : liveOkV ps z = true) : liveOkV (sortV (b :: ps)) z = liveOkV (insV ps b) z ∧ (liveOkV (insV ps b) z = true → sortV (b :: ps) = insV ps b) := by
  have key : (insV ps b).Pairwise (fun x y => x.1 < y.1) → sortV (b :: ps) = insV ps b := fun h => sortV_eq (insV_perm ps b) (pw_lt h)
  cases h : liveOkV (insV ps b) z with
  | true =>
    have e := key (live_pw h)
    exact ⟨by rw [e, h], fun _ => e⟩
  | false =>
    refine ⟨?_, fun h2 => by cases h2⟩
    cases h2 : liveOkV (sortV (b :: ps)) z with
    | false => rfl
    | true =>
      have h3 := pw_nodup (live_pw h2)
      have h4 := (((insV_perm ps b).trans (sortV_perm (b :: ps)).symm).map (·.1)).nodup_iff.2 h3
      have h5 := List.pairwise_map.1 h4
      have h6 : (insV ps b).Pairwise (fun x y => x.1 < y.1) := ((insV_weak (b := b) (live_pw hl)).and h5).imp fun {x y} hxy => by
        obtain ⟨h7, h8⟩ := hxy
        omega
      rw [key h6, h] at h2
      cases h2
theorem sort_pw {ps : List (Int × Int)} {z : Int} {b : Int × Int} (hl : liveOkV ps z = true) (hb : b ∉ ps) : (sortV (b :: ps)).Pairwise (fun x y => ltP x y = true) := by
  have hnd : (b :: ps).Nodup := List.nodup_cons.2 ⟨hb, (live_pw hl).imp fun {x y} h e => by subst e; omega⟩
  have h1 : (sortV (b :: ps)).Nodup := (sortV_perm _).nodup_iff.2 hnd
  have hpw : (sortV (b :: ps)).Pairwise fun x y => (!ltOf cfP y x) = true := by
    apply List.pairwise_mergeSort
    · intro a b c h1 h2
      simp only [Bool.not_eq_true'] at *
      exact swoP.ntrans _ _ _ h2 h1
    · intro a b
      simp only [Bool.or_eq_true, Bool.not_eq_true']
      rw [ltOf_cfP, ltOf_cfP]
      simp [ltP]
      omega
  exact (hpw.and h1).imp fun {x y} hxy => by
    obtain ⟨h2, h3⟩ := hxy
    simp only [Bool.not_eq_true'] at h2
    rw [ltOf_cfP] at h2
    simp [ltP] at h2 ⊢
    have h4 : ¬ (x.1 = y.1 ∧ x.2 = y.2) := fun ⟨a, b⟩ => h3 (Prod.ext a b)
    omega
theorem addR_len (ps : List (Int × Int)) (z : Int) (b : Int × Int) : (addR ps z b).length ≤ 300 := by
  unfold addR
  split
  · rename_i h
    unfold addOk at h
    rw [Bool.and_eq_true] at h
    exact (liveOkV_z h.2).1.2.2
  · simp

end Go.Proofs.Ythcchnaoenjhlaa
