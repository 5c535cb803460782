/- Plain arithmetic of lane masks: rank of a lane, lane of a rank. -/
/- Plain facts on groups of lanes: the lanes of a list with the same value, the groups of a list, a row filled in the lanes of a list. -/
/- Facts in plain numbers. -/
/- Requests, warps and their steps in plain numbers. -/
import Derived.Test.YtefcaeldkdbjdaaGreatSLow
import Derived.Test.YtefcaeldkdbjdaaGreatBase
import Derived.Test.YtefcaeldkdbjdaaGreatClaimM
namespace Go.Proofs.YtefcaeldkdbjdaaGreat

/-- The rank of a lane in a mask; -1 where it has none. -/
def rankV (X : Nat) (L : Int) : Int := if X < 256 ∧ 0 ≤ L ∧ X.testBit L.toNat = true then ((onesTo X L.toNat).length : Int) else -1
/-- The lane of a rank in a mask; -1 where there is none. -/
def nthV (X : Nat) (N : Int) : Int := if X < 256 ∧ 0 ≤ N ∧ N < ((onesTo X 32).length : Int) then (((onesTo X 32)[N.toNat]?.getD 0 : Nat) : Int) else -1

theorem bit_lt_8 {X j : Nat} (h : X < 256) (hj : X.testBit j = true) : j < 8 := by
  refine Nat.lt_of_not_le fun h1 => ?_
  have : X.testBit j = false := Nat.testBit_lt_two_pow (Nat.lt_of_lt_of_le h (Nat.pow_le_pow_right (n := 2) (by omega) h1))
  rw [this] at hj; cases hj
theorem ones_lt_8 {X j m : Nat} (h : X < 256) (hj : j ∈ onesTo X m) : j < 8 := bit_lt_8 h (mem_ones.1 hj).2
theorem ones_sorted (X m : Nat) : (onesTo X m).Pairwise (· < ·) := by
  unfold onesTo
  exact List.Pairwise.filter _ List.pairwise_lt_range
theorem sorted_inj {l : List Nat} (h : l.Pairwise (· < ·)) {i j : Nat} (hi : i < l.length) (hj : j < l.length) (e : l[i] = l[j]) : i = j := by
  have h1 := List.pairwise_iff_getElem.1 h
  rcases Nat.lt_trichotomy i j with h2 | h2 | h2
  · have := h1 i j hi hj h2; omega
  · exact h2
  · have := h1 j i hj hi h2; omega
/-- The set bits of a word under a mask. -/
theorem ones_mask {X L : Nat} (hL : L ≤ 32) : onesTo (X &&& (2 ^ L - 1)) 32 = onesTo X L := by
  obtain ⟨d, hd⟩ : ∃ d, 32 = L + d := ⟨32 - L, by omega⟩
  unfold onesTo
  rw [hd, List.range_add, List.filter_append]
  have h1 : (List.range L).filter (fun k => (X &&& (2 ^ L - 1)).testBit k) = (List.range L).filter (fun j => X.testBit j) := by
    apply List.filter_congr
    intro j hj
    simp at hj
    rw [Nat.testBit_and, Nat.testBit_two_pow_sub_one]
    simp [hj]
  have h2 : ((List.range d).map (L + ·)).filter (fun k => (X &&& (2 ^ L - 1)).testBit k) = [] := by
    rw [List.filter_eq_nil_iff]
    intro j hj
    obtain ⟨i, _, rfl⟩ := List.mem_map.1 hj
    rw [Nat.testBit_and, Nat.testBit_two_pow_sub_one]
    have : ¬ L + i < L := by omega
    simp [this]
  rw [h1, h2, List.append_nil]
/-- The set bits below a set bit, then that bit, begin the list of all. -/
theorem ones_part {X L : Nat} (hL : L < 32) (hb : X.testBit L = true) : ∃ q, onesTo X 32 = onesTo X L ++ L :: q := by
  have h1 : onesTo X (L + 1) = onesTo X L ++ [L] := by simp [onesTo, List.range_succ, hb]
  obtain ⟨q, hq⟩ := onesTo_pre (X := X) (k := L + 1) (m := 32) (by omega)
  exact ⟨q, by rw [← hq, h1]; simp⟩
theorem ones_at_rank {X L : Nat} (hL : L < 32) (hb : X.testBit L = true) : (onesTo X L).length < (onesTo X 32).length ∧ (onesTo X 32)[(onesTo X L).length]?.getD 0 = L := by
  obtain ⟨q, hq⟩ := ones_part hL hb
  rw [hq]
  simp
/-- The lane of rank i has just i set bits below it. -/
theorem rank_at {X i : Nat} (hi : i < (onesTo X 32).length) : (onesTo X ((onesTo X 32)[i]?.getD 0)).length = i := by
  have hm : (onesTo X 32)[i] ∈ onesTo X 32 := List.getElem_mem hi
  obtain ⟨h1, h2⟩ := mem_ones.1 hm
  obtain ⟨h3, h4⟩ := ones_at_rank h1 h2
  have e : (onesTo X 32)[i]?.getD 0 = (onesTo X 32)[i] := by simp [hi]
  rw [e]
  rw [List.getElem?_eq_getElem h3] at h4
  simp at h4
  exact sorted_inj (ones_sorted X 32) h3 hi h4

theorem rankV_hit {X L : Nat} (hX : X < 256) (hb : X.testBit L = true) : rankV X (L : Int) = ((onesTo X L).length : Int) := by
  unfold rankV
  rw [if_pos ⟨hX, by omega, by simpa using hb⟩]
  simp
theorem rankV_no {X : Nat} {L : Int} (h : ¬ (X < 256 ∧ 0 ≤ L ∧ X.testBit L.toNat = true)) : rankV X L = -1 := if_neg h
theorem rankV_at {X i : Nat} (hX : X < 256) (hi : i < (onesTo X 32).length) : rankV X (((onesTo X 32)[i]?.getD 0 : Nat) : Int) = i := by
  have hm : (onesTo X 32)[i] ∈ onesTo X 32 := List.getElem_mem hi
  have e : (onesTo X 32)[i]?.getD 0 = (onesTo X 32)[i] := by simp [hi]
  rw [rankV_hit hX (by rw [e]; exact (mem_ones.1 hm).2), rank_at hi]
theorem rankV_range (X : Nat) (L : Int) : -1 ≤ rankV X L ∧ rankV X L ≤ 8 := by
  unfold rankV
  split
  · rename_i h
    have h8 := bit_lt_8 h.1 h.2.2
    have := onesTo_len X L.toNat
    omega
  · omega
/-- A lane of the mask with rank N is the lane of rank N. -/
theorem nthV_of_rank {X : Nat} {N : Int} {L : Nat} (hm : L ∈ onesTo X 32) (hX : X < 256) (h : rankV X (L : Int) = N) : nthV X N = L := by
  obtain ⟨h1, h2⟩ := mem_ones.1 hm
  obtain ⟨h3, h4⟩ := ones_at_rank h1 h2
  rw [rankV_hit hX h2] at h
  subst h
  unfold nthV
  rw [if_pos ⟨hX, by omega, by omega⟩, Int.toNat_natCast, h4]
/-- No lane of the mask has rank N: no lane of rank N. -/
theorem nthV_none {X : Nat} {N : Int} (h : ∀ L ∈ onesTo X 32, rankV X (L : Int) ≠ N) : nthV X N = -1 := by
  unfold nthV
  refine if_neg fun ⟨h1, h2, h3⟩ => ?_
  obtain ⟨i, rfl⟩ := Int.eq_ofNat_of_zero_le h2
  have hi : i < (onesTo X 32).length := by omega
  have e : (onesTo X 32)[i]?.getD 0 = (onesTo X 32)[i] := by simp [hi]
  have := rankV_at h1 hi
  rw [e] at this
  exact h _ (List.getElem_mem hi) this
theorem nthV_nomask {X : Nat} {N : Int} (h : ¬ X < 256) : nthV X N = -1 := if_neg fun e => h e.1
theorem nthV_out {X : Nat} {N : Int} (h : ¬ (0 ≤ N ∧ N < ((onesTo X 32).length : Int))) : nthV X N = -1 := if_neg fun e => h e.2
theorem nthV_in {X i : Nat} (hX : X < 256) (h : i < (onesTo X 32).length) : nthV X (i : Int) = (((onesTo X 32)[i]?.getD 0 : Nat) : Int) := by
  unfold nthV
  rw [if_pos ⟨hX, by omega, by omega⟩, Int.toNat_natCast]
theorem nthV_range (X : Nat) (N : Int) : -1 ≤ nthV X N ∧ nthV X N < 8 := by
  unfold nthV
  split
  · rename_i h
    obtain ⟨i, rfl⟩ := Int.eq_ofNat_of_zero_le h.2.1
    have hi : i < (onesTo X 32).length := by omega
    have := ones_lt_8 h.1 (List.getElem_mem hi)
    simp [hi]
    omega
  · omega
/-- The highest set bit lies below 8 just where the word is a mask. -/
theorem high_mask {X : Nat} (hX : X < 4294967296) : highOf (onesTo X 32) < 8 ↔ X < 256 := by
  constructor
  · intro h
    refine Nat.lt_pow_two_of_testBit (n := 8) _ fun j hj => ?_
    by_cases h32 : j < 32
    · refine Bool.eq_false_iff.2 fun e => ?_
      have hm : j ∈ onesTo X 32 := mem_ones.2 ⟨h32, e⟩
      have hl : highOf (onesTo X 32) = ((onesTo X 32).getLast (List.ne_nil_of_mem hm) : Int) := by
        have hlen : 0 < (onesTo X 32).length := List.length_pos_of_mem hm
        unfold highOf
        rw [List.getLast?_eq_getElem?, List.getElem?_eq_getElem (by omega), List.getLast_eq_getElem]
        rfl
      have hs := ones_sorted X 32
      have hge : j ≤ (onesTo X 32).getLast (List.ne_nil_of_mem hm) := by
        obtain ⟨i, hi, rfl⟩ := List.getElem_of_mem hm
        rw [List.getLast_eq_getElem]
        by_cases e2 : i = (onesTo X 32).length - 1
        · subst e2; exact Nat.le_refl _
        · exact Nat.le_of_lt (List.pairwise_iff_getElem.1 hs i _ hi (by omega) (by omega))
      omega
    · exact Nat.testBit_lt_two_pow (Nat.lt_of_lt_of_le hX (Nat.pow_le_pow_right (n := 2) (by omega) (show 32 ≤ j by omega)))
  · intro h
    unfold highOf
    cases hl : (onesTo X 32).getLast? with
    | none => simp
    | some k =>
      have := ones_lt_8 h (List.mem_of_getLast? hl)
      simp
      omega
/-- The leader is the lowest lane. -/
theorem nthV_zero {X : Nat} (hX : X < 256) : nthV X 0 = lowOf (onesTo X 32) := by
  unfold nthV lowOf
  cases h : onesTo X 32 with
  | nil => simp
  | cons a l => simp [hX]

end Go.Proofs.YtefcaeldkdbjdaaGreat

namespace Go.Proofs.YtefcaeldkdbjdaaGreat

/-- The value of a lane in a row. -/
def at0 (zs : List Int) (k : Nat) : Int := zs[k]?.getD 0
/-- The lanes of l that have the value z. -/
def alike (zs : List Int) (l : List Nat) (z : Int) : List Nat := l.filter (fun k => decide (at0 zs k = z))
/-- The word of the lanes of l that have the value z. -/
def grp (zs : List Int) (l : List Nat) (z : Int) : Nat := orL (alike zs l z)
/-- Does lane k lead its group in l? -/
def leads (zs : List Int) (l : List Nat) (k : Nat) : Bool := (alike zs l (at0 zs k)).head? == some k
/-- The groups of l, by their leaders. -/
def groupsL (zs : List Int) (l : List Nat) : List Nat := (l.filter (fun k => leads zs l k)).map (fun k => grp zs l (at0 zs k))

theorem alike_lt {zs : List Int} {l : List Nat} {z : Int} {m : Nat} (h : ∀ k ∈ l, k < m) : ∀ k ∈ alike zs l z, k < m := fun k hk => h k (List.mem_filter.1 hk).1
theorem alike_snoc (zs : List Int) (l : List Nat) (k : Nat) (z : Int) : alike zs (l ++ [k]) z = alike zs l z ++ (if at0 zs k = z then [k] else []) := by
  unfold alike
  rw [List.filter_append]
  by_cases h : at0 zs k = z <;> simp [h]
theorem grp_hit {zs : List Int} {l : List Nat} {k : Nat} : grp zs (l ++ [k]) (at0 zs k) = grp zs l (at0 zs k) ||| 2 ^ k := by
  unfold grp; rw [alike_snoc, if_pos rfl, orL_snoc]
theorem grp_miss {zs : List Int} {l : List Nat} {k : Nat} {z : Int} (h : at0 zs k ≠ z) : grp zs (l ++ [k]) z = grp zs l z := by
  unfold grp; rw [alike_snoc, if_neg h, List.append_nil]
theorem grp_lt {zs : List Int} {l : List Nat} {z : Int} (h : ∀ k ∈ l, k < 32) : grp zs l z < 4294967296 := orL_lt (alike_lt h)
theorem grp_lt8 {zs : List Int} {l : List Nat} {z : Int} (h : ∀ k ∈ l, k < 8) : grp zs l z < 256 := by
  show grp zs l z < 2 ^ 8
  refine Nat.lt_pow_two_of_testBit _ fun j hj => ?_
  unfold grp
  rw [orL_bit]
  exact decide_eq_false fun e => by have := alike_lt h j e; omega

/-- A list of lanes in ascending order is what its word lists. -/
theorem ones_of_sorted {l : List Nat} (hs : l.Pairwise (· < ·)) (h : ∀ k ∈ l, k < 32) : onesTo (orL l) 32 = l := by
  have h1 : (onesTo (orL l) 32).Pairwise (· < ·) := ones_sorted _ _
  have hm : ∀ j, j ∈ onesTo (orL l) 32 ↔ j ∈ l := fun j => by
    rw [mem_ones, orL_bit]
    constructor
    · intro e; simpa using e.2
    · intro e; exact ⟨h j e, by simpa using e⟩
  have key : ∀ (a b : List Nat), a.Pairwise (· < ·) → b.Pairwise (· < ·) → (∀ j, j ∈ a ↔ j ∈ b) → a = b := by
    intro a
    induction a with
    | nil =>
      intro b _ _ e
      cases b with
      | nil => rfl
      | cons y b => exact absurd ((e y).2 (by simp)) (by simp)
    | cons x a ih =>
      intro b ha hb e
      cases b with
      | nil => exact absurd ((e x).1 (by simp)) (by simp)
      | cons y b =>
        rw [List.pairwise_cons] at ha hb
        have hxy : x = y := by
          rcases List.mem_cons.1 ((e x).1 (by simp)) with h2 | h2
          · exact h2
          · rcases List.mem_cons.1 ((e y).2 (by simp)) with h3 | h3
            · exact h3.symm
            · have := hb.1 x h2; have := ha.1 y h3; omega
        subst hxy
        congr 1
        refine ih b ha.2 hb.2 fun j => ?_
        constructor
        · intro hj
          rcases List.mem_cons.1 ((e j).1 (by simp [hj])) with h2 | h2
          · have := ha.1 j hj; omega
          · exact h2
        · intro hj
          rcases List.mem_cons.1 ((e j).2 (by simp [hj])) with h2 | h2
          · have := hb.1 j hj; omega
          · exact h2
  exact key _ _ h1 hs hm
/-- The leader of a group is its first lane. -/
theorem lead_iff {zs : List Int} {l : List Nat} {k : Nat} (hs : l.Pairwise (· < ·)) (h8 : ∀ j ∈ l, j < 8) : (nthV (grp zs l (at0 zs k)) 0 = (k : Int)) ↔ leads zs l k = true := by
  have hx := grp_lt8 (zs := zs) (z := at0 zs k) h8
  rw [nthV_zero hx]
  unfold grp
  rw [ones_of_sorted (l := alike zs l (at0 zs k)) (List.Pairwise.filter _ hs) (fun j hj => by have := alike_lt h8 j hj; omega)]
  unfold lowOf leads
  cases hh : (alike zs l (at0 zs k)).head? with
  | none => simp
  | some j => simp; omega

theorem filter_filter_ne {zs : List Int} {t : List Nat} {z z' : Int} (h : z' ≠ z) : alike zs (t.filter (fun k => decide (at0 zs k ≠ z))) z' = alike zs t z' := by
  unfold alike
  rw [List.filter_filter]
  apply List.filter_congr
  intro j _
  by_cases e : at0 zs j = z'
  · simp [e, h]
  · simp [e]
/-- The groups of a list: the first one's, then those of the others. -/
theorem groupsL_cons (zs : List Int) (k : Nat) (t : List Nat) (hn : (k :: t).Nodup) : groupsL zs (k :: t) = grp zs (k :: t) (at0 zs k) :: groupsL zs ((k :: t).filter (fun j => decide (at0 zs j ≠ at0 zs k))) := by
  have hk : leads zs (k :: t) k = true := by unfold leads alike; simp
  have hr : (k :: t).filter (fun j => decide (at0 zs j ≠ at0 zs k)) = t.filter (fun j => decide (at0 zs j ≠ at0 zs k)) := by simp
  rw [List.nodup_cons] at hn
  have h1 : ∀ j ∈ t, at0 zs j ≠ at0 zs k → alike zs (k :: t) (at0 zs j) = alike zs (t.filter (fun i => decide (at0 zs i ≠ at0 zs k))) (at0 zs j) := fun j _ hne => by
    rw [filter_filter_ne hne]
    unfold alike
    rw [List.filter_cons_of_neg]
    simpa using fun e => hne e.symm
  have h2 : t.filter (fun j => leads zs (k :: t) j) = (t.filter (fun j => decide (at0 zs j ≠ at0 zs k))).filter (fun j => leads zs (t.filter (fun i => decide (at0 zs i ≠ at0 zs k))) j) := by
    rw [List.filter_filter]
    apply List.filter_congr
    intro j hj
    by_cases hne : at0 zs j ≠ at0 zs k
    · unfold leads
      rw [h1 j hj hne]
      simp [hne]
    · have he : at0 zs j = at0 zs k := by simpa using hne
      have : leads zs (k :: t) j = false := by
        unfold leads alike
        rw [he]
        simp
        intro e
        exact hn.1 (e ▸ hj)
      rw [this]
      simp [he]
  unfold groupsL
  rw [List.filter_cons_of_pos hk, List.map_cons, h2, hr]
  congr 1
  apply List.map_congr_left
  intro j hj
  have hj2 := (List.mem_filter.1 (List.mem_filter.1 hj).1)
  unfold grp
  rw [h1 j hj2.1 (by simpa using hj2.2)]
theorem groupsL_nil (zs : List Int) : groupsL zs [] = [] := rfl
theorem groupsL_len (zs : List Int) (l : List Nat) : (groupsL zs l).length ≤ l.length := by
  unfold groupsL
  rw [List.length_map]
  exact List.length_filter_le _ _

/-- A row with v in the lanes of l. -/
def fillL (v : Int) (zs : List Int) (l : List Nat) : List Int := l.foldl (fun r k => r.set k v) zs
theorem fillL_len (v : Int) : ∀ (l : List Nat) (zs : List Int), (fillL v zs l).length = zs.length := by
  intro l
  induction l with
  | nil => intro zs; rfl
  | cons k l ih => intro zs; show (fillL v (zs.set k v) l).length = _; rw [ih]; simp
theorem fillL_snoc (v : Int) (zs : List Int) (l : List Nat) (k : Nat) : fillL v zs (l ++ [k]) = (fillL v zs l).set k v := by simp [fillL]
theorem fillL_keep (v : Int) : ∀ (l : List Nat) (zs : List Int) (k : Nat), at0 zs k = v → k < zs.length → at0 (fillL v zs l) k = v := by
  intro l
  induction l with
  | nil => intro zs k h _; exact h
  | cons j l ih =>
    intro zs k h hk
    refine ih (zs.set j v) k ?_ (by simpa using hk)
    unfold at0
    by_cases e : j = k
    · subst e; simp [hk]
    · rw [List.getElem?_set_ne e]; exact h
theorem fillL_at (v : Int) : ∀ (l : List Nat) (zs : List Int) (k : Nat), k ∈ l → k < zs.length → at0 (fillL v zs l) k = v := by
  intro l
  induction l with
  | nil => intro zs k h; simp at h
  | cons j l ih =>
    intro zs k h hk
    show at0 (fillL v (zs.set j v) l) k = v
    rcases List.mem_cons.1 h with rfl | h
    · refine fillL_keep v l _ k ?_ (by simpa using hk)
      unfold at0; simp [hk]
    · exact ih _ k h (by simpa using hk)
/-- Where all lanes have one value there is one group. -/
theorem groupsL_one {zs : List Int} {X : Nat} (hX : X < 256) (h0 : X ≠ 0) {v : Int} (h : ∀ k ∈ onesTo X 32, at0 zs k = v) : groupsL zs (onesTo X 32) = [X] := by
  have hal : alike zs (onesTo X 32) v = onesTo X 32 := by
    unfold alike
    rw [List.filter_eq_self]
    intro k hk
    simpa using h k hk
  cases hl : onesTo X 32 with
  | nil =>
    exfalso
    apply h0
    rw [← orL_ones (show X < 4294967296 by omega), hl]; rfl
  | cons k t =>
    have hk : at0 zs k = v := h k (by rw [hl]; simp)
    have hnd := ones_nodup X 32
    rw [hl] at hnd hal
    rw [groupsL_cons zs k t hnd]
    have e1 : grp zs (k :: t) (at0 zs k) = X := by
      unfold grp
      rw [hk, hal, ← hl, orL_ones (by omega)]
    have e2 : (k :: t).filter (fun j => decide (at0 zs j ≠ at0 zs k)) = [] := by
      rw [List.filter_eq_nil_iff]
      intro j hj
      rw [← hl] at hj
      simp [h j hj, hk]
    rw [e1, e2, groupsL_nil]

end Go.Proofs.YtefcaeldkdbjdaaGreat

namespace Go.Proofs.YtefcaeldkdbjdaaGreat
open Go.RowKit

/-- A fact: its kind, the warp, the lane, the address, the size. -/
structure Fc where
  k : Int
  i : Int
  l : Int
  a : Int
  s : Int
instance : DecidableEq Fc := fun x y =>
  if h : x.k = y.k ∧ x.i = y.i ∧ x.l = y.l ∧ x.a = y.a ∧ x.s = y.s then .isTrue (by cases x; cases y; simp at h; simp [h]) else .isFalse (fun e => h (by subst e; exact ⟨rfl, rfl, rfl, rfl, rfl⟩))
instance : Inhabited Fc := ⟨⟨0, 0, 0, 0, 0⟩⟩
/-- Its five cells. -/
def Fc.cells (x : Fc) : List Value := [.int .i64 x.k, .int .i64 x.i, .int .i64 x.l, .int .i64 x.a, .int .i64 x.s]
def fat (fs : List Fc) (i : Nat) : Fc := fs[i]?.getD default
theorem fat_eq {fs : List Fc} {i : Nat} (h : i < fs.length) : fs[i] = fat fs i := by simp [fat, h]
theorem take_succ_f {fs : List Fc} {i : Nat} (h : i < fs.length) : fs.take (i + 1) = fs.take i ++ [fat fs i] := by rw [List.take_succ_eq_append_getElem h, fat_eq h]
theorem drop_f {fs : List Fc} {i : Nat} (h : i < fs.length) : fs.drop i = fat fs i :: fs.drop (i + 1) := by rw [List.drop_eq_getElem_cons h, fat_eq h]
/-- Every number of the fact is an int. -/
def Fc.Wf (x : Fc) : Prop := ((-9223372036854775808 ≤ x.k ∧ x.k < 9223372036854775808) ∧ (-9223372036854775808 ≤ x.i ∧ x.i < 9223372036854775808) ∧ (-9223372036854775808 ≤ x.l ∧ x.l < 9223372036854775808)) ∧ (-9223372036854775808 ≤ x.a ∧ x.a < 9223372036854775808) ∧ (-9223372036854775808 ≤ x.s ∧ x.s < 9223372036854775808)

/-- 1, 2, 3, 4, 5; 6, 7 .. -/
def marksQ (n : Nat) : List Fc := (List.range n).map fun i : Nat => ⟨1 + 5 * (i : Int), 2 + 5 * (i : Int), 3 + 5 * (i : Int), 4 + 5 * (i : Int), 5 + 5 * (i : Int)⟩
def markToQ (fs : List Fc) (k : Nat) : List Fc := marksQ k ++ fs.drop k
theorem marksQ_len (n : Nat) : (marksQ n).length = n := by simp [marksQ]
theorem markToQ_next {fs : List Fc} {k : Nat} (h : k < fs.length) : (markToQ fs k).set k ⟨1 + 5 * (k : Int), 2 + 5 * (k : Int), 3 + 5 * (k : Int), 4 + 5 * (k : Int), 5 + 5 * (k : Int)⟩ = markToQ fs (k + 1) := by
  unfold markToQ
  rw [List.drop_eq_getElem_cons h, List.set_append]
  simp [marksQ, List.range_succ]
  rw [List.drop_eq_getElem_cons h]
  rfl
theorem markToQ_all {fs : List Fc} {k n : Nat} (h : fs.length = n) (hk : n ≤ k) (hk' : k ≤ n) : markToQ fs k = marksQ n := by
  obtain rfl : k = n := by omega
  unfold markToQ
  rw [List.drop_eq_nil_of_le (by omega)]; simp
theorem marksQ_at {n k : Nat} (h : k < n) : fat (marksQ n) k = ⟨1 + 5 * (k : Int), 2 + 5 * (k : Int), 3 + 5 * (k : Int), 4 + 5 * (k : Int), 5 + 5 * (k : Int)⟩ := by simp [marksQ, fat, h]

/-- The first k facts, then zeros. -/
def fillQ (fs : List Fc) (n k : Nat) : List Fc := fs.take k ++ List.replicate (n - k) default
theorem fillQ_next {fs : List Fc} {n k : Nat} (hl : fs.length = n) (hk : k < n) : (fillQ fs n k).set k (fat fs k) = fillQ fs n (k + 1) := by
  have h1 : k < fs.length := by omega
  unfold fillQ
  rw [take_succ_f h1, show n - k = (n - (k + 1)) + 1 from by omega, List.replicate_succ, List.set_append]
  simp only [List.length_take, Nat.min_eq_left (Nat.le_of_lt h1), Nat.lt_irrefl, if_false, Nat.sub_self, List.set_cons_zero, List.append_assoc, List.cons_append, List.nil_append]
theorem fillQ_all {fs : List Fc} {n k : Nat} (hl : fs.length = n) (hk : n ≤ k) : fillQ fs n k = fs := by
  unfold fillQ
  rw [List.take_of_length_le (by omega), show n - k = 0 from by omega]; simp
theorem fat_replicate (n i : Nat) (h : i < n) : fat (List.replicate n default) i = default := by simp [fat, h]

end Go.Proofs.YtefcaeldkdbjdaaGreat

namespace Go.Proofs.YtefcaeldkdbjdaaGreat
open Go.RowKit

/-- A size or an address that a request of this kind may name; one that asks for something. -/
def InReq (kd x : Int) : Prop := (kd = 1 ∧ 0 ≤ x ∧ x ≤ 256) ∨ (kd = 2 ∧ -1 ≤ x ∧ x ≤ 4095)
instance (kd x : Int) : Decidable (InReq kd x) := inferInstanceAs (Decidable (_ ∨ _))
def Asks (kd x : Int) : Prop := (kd = 1 ∧ 0 < x) ∨ (kd = 2 ∧ 0 ≤ x)
instance (kd x : Int) : Decidable (Asks kd x) := inferInstanceAs (Decidable (_ ∨ _))
/-- A valid request. -/
def ReqGood (kd : Int) (vs : List Int) : Prop := vs.length = 8 ∧ ∀ x ∈ vs, InReq kd x
instance (kd : Int) (vs : List Int) : Decidable (ReqGood kd vs) := inferInstanceAs (Decidable (_ ∧ _))
/-- The lanes that ask. -/
def askL (kd : Int) (vs : List Int) : List Nat := (List.range 8).filter (fun i => decide (Asks kd (at0 vs i)))
/-- The lead, and what it asks for. -/
def leadV (td : Nat) : Nat := (onesTo td 32)[0]?.getD 0
def wantV (vs : List Int) (td : Nat) : Int := at0 vs (leadV td)
/-- A block of the chunk can be given back. -/
def GivesX (X : Nat) (off : Int) : Prop := RelOk X off ∨ (GoodX X ∧ stOf X = 2 ∧ off = 0)
instance (X : Nat) (off : Int) : Decidable (GivesX X off) := inferInstanceAs (Decidable (_ ∨ _))
def SmallOk (v ph pr hd : Int) (sn : Nat) (ch : Int) : Prop := hd = 0 ∧ 0 ≤ pr ∧ pr ≤ ch ∧ ((ph = 0 ∧ sn = 0) ∨ (ph = 1 ∧ pr < ch ∧ roomV sn (classV v) ≠ 0))
instance (v ph pr hd : Int) (sn : Nat) (ch : Int) : Decidable (SmallOk v ph pr hd sn ch) := inferInstanceAs (Decidable (_ ∧ _))
def LargeOk (v ph pr hd : Int) (sn : Nat) (ch : Int) : Prop := sn = 0 ∧ 0 ≤ pr ∧ pr ≤ ch ∧ 0 ≤ hd ∧ hd ≤ chunksV v ∧ ((0 < hd ∨ ph = 1) → pr + chunksV v ≤ ch) ∧ (((ph = 0 ∨ ph = 1) ∧ hd < chunksV v) ∨ (ph = 2 ∧ 0 < hd) ∨ (ph = 3 ∧ hd = chunksV v))
instance (v ph pr hd : Int) (sn : Nat) (ch : Int) : Decidable (LargeOk v ph pr hd sn ch) := inferInstanceAs (Decidable (_ ∧ _))
def GiveOk (v ph pr hd : Int) (sn : Nat) (ch : Int) : Prop := (ph = 0 ∧ pr = 0 ∧ hd = 0 ∧ sn = 0) ∨ (ph = 1 ∧ pr = 0 ∧ hd = 0 ∧ v < 16 * ch ∧ GivesX sn (v % 16)) ∨ (ph = 2 ∧ 0 < hd ∧ 0 ≤ pr ∧ hd ≤ ch - pr ∧ sn = 0)
instance (v ph pr hd : Int) (sn : Nat) (ch : Int) : Decidable (GiveOk v ph pr hd sn ch) := inferInstanceAs (Decidable (_ ∨ _))
/-- What a busy warp's numbers must be, by what its lead asks for. -/
def PartOk (kd v ph pr hd : Int) (sn : Nat) (ch : Int) : Prop := (kd = 2 ∧ GiveOk v ph pr hd sn ch) ∨ (kd ≠ 2 ∧ 16 < v ∧ LargeOk v ph pr hd sn ch) ∨ (kd ≠ 2 ∧ v ≤ 16 ∧ SmallOk v ph pr hd sn ch)
instance (kd v ph pr hd : Int) (sn : Nat) (ch : Int) : Decidable (PartOk kd v ph pr hd sn ch) := inferInstanceAs (Decidable (_ ∨ _))
def BusyOk (kd : Int) (vs : List Int) (td : Nat) (ph pr hd : Int) (sn : Nat) (ch : Int) : Prop := ReqGood kd vs ∧ td ≠ 0 ∧ (∀ j ∈ onesTo td 32, Asks kd (at0 vs j)) ∧ PartOk kd (wantV vs td) ph pr hd sn ch
instance (kd : Int) (vs : List Int) (td : Nat) (ph pr hd : Int) (sn : Nat) (ch : Int) : Decidable (BusyOk kd vs td ph pr hd sn ch) := inferInstanceAs (Decidable (_ ∧ _))
def ShapeOk (n m td : Nat) (ch : Int) : Prop := 0 ≤ ch ∧ ch ≤ 16 ∧ n = 8 ∧ m = 8 ∧ td < 256
instance (n m td : Nat) (ch : Int) : Decidable (ShapeOk n m td ch) := inferInstanceAs (Decidable (_ ∧ _))
/-- A valid warp. -/
def WarpGood (kd : Int) (vs gs : List Int) (td : Nat) (ph pr hd : Int) (sn : Nat) (ch : Int) : Prop :=
  ShapeOk vs.length gs.length td ch ∧ ((kd = 0 ∧ td = 0 ∧ ph = 0 ∧ pr = 0 ∧ hd = 0 ∧ sn = 0) ∨ (kd ≠ 0 ∧ BusyOk kd vs td ph pr hd sn ch))
instance (kd : Int) (vs gs : List Int) (td : Nat) (ph pr hd : Int) (sn : Nat) (ch : Int) : Decidable (WarpGood kd vs gs td ph pr hd sn ch) := inferInstanceAs (Decidable (_ ∧ _))
/-- The group that a warp works on. -/
def groupL (kd : Int) (vs : List Int) (td : Nat) : List Nat := if kd = 2 ∨ 16 < wantV vs td then [leadV td] else (onesTo td 32).filter (fun j => decide (classV (at0 vs j) = classV (wantV vs td)))
/-- Where a warp begins to search. -/
def StartOk (id K ch : Int) : Prop := 0 ≤ id ∧ id < 4 ∧ IsClass K ∧ 1 ≤ ch ∧ ch ≤ 16
instance (id K ch : Int) : Decidable (StartOk id K ch) := inferInstanceAs (Decidable (_ ∧ _))
def startV (id K ch : Int) : Int := if StartOk id K ch then (5 * id + 3 * K) % ch else -1

/-- What a step turns of a warp. -/
structure WR where
  kd : Int
  gs : List Int
  td : Nat
  ph : Int
  pr : Int
  hd : Int
  sn : Nat

/-- A lane is finished with what it got. -/
def fin1 (x : WR) (l : Nat) (g : Int) : WR := if x.td - 2 ^ l = 0 then ⟨0, x.gs.set l g, 0, 0, 0, 0, 0⟩ else { x with gs := x.gs.set l g, td := x.td - 2 ^ l }
def finL (x : WR) : List (Nat × Int) → WR
  | [] => x
  | p :: q => finL (fin1 x p.1 p.2) q
/-- The lanes of a group are refused. -/
def refuseF (id : Int) (vs : List Int) (G : List Nat) : List Fc := G.map fun l : Nat => ⟨3, id, l, -1, at0 vs l⟩
def refuseX (x : WR) (G : List Nat) : WR := finL { x with pr := 0 } (G.map fun l => (l, -2))

def smallV (x : WR) (vs : List Int) (id : Int) (ws : List Nat) : WR × List Nat × List Fc :=
  let G := groupL x.kd vs x.td
  let K := classV (wantV vs x.td)
  let n : Int := ws.length
  let c : Nat := ((startV id K n + x.pr) % n).toNat
  if x.ph = 0 then
    if x.pr = n then (refuseX x G, ws, refuseF id vs G)
    else if roomV (ws[c]?.getD 0) K ≠ 0 then ({ x with sn := ws[c]?.getD 0, ph := 1 }, ws, [])
    else ({ x with pr := x.pr + 1 }, ws, [])
  else if ws[c]?.getD 0 = x.sn then
    let offs := clO x.sn K G.length
    (finL { x with ph := 0, sn := 0, pr := if offs.length = G.length then 0 else x.pr } (G.zip (offs.map fun o => 16 * (c : Int) + o)), ws.set c (clY x.sn K G.length), (G.zip offs).map fun p => ⟨1, id, (p.1 : Nat), 16 * (c : Int) + p.2, sizeV K⟩)
  else ({ x with ph := 0, sn := 0 }, ws, [])

def backV (x : WR) : WR := if 0 < x.hd then { x with ph := 2 } else { x with pr := x.pr + 1, ph := 0 }
def largeV (x : WR) (vs : List Int) (id : Int) (ws : List Nat) : WR × List Nat × List Fc :=
  let l := leadV x.td
  let r := chunksV (wantV vs x.td)
  let n : Int := ws.length
  let c : Nat := (x.pr + x.hd).toNat
  if x.ph = 0 then
    if n < x.pr + r then (refuseX x [l], ws, refuseF id vs [l])
    else if ws[c]?.getD 0 = 0 then ({ x with ph := 1 }, ws, [])
    else (backV x, ws, [])
  else if x.ph = 1 then
    if ws[c]?.getD 0 = 0 then ({ x with hd := x.hd + 1, ph := if x.hd + 1 = r then 3 else 0 }, ws.set c 3145728, [])
    else (backV x, ws, [])
  else if x.ph = 2 then (if x.hd - 1 = 0 then { x with hd := 0, pr := x.pr + 1, ph := 0 } else { x with hd := x.hd - 1 }, ws.set (c - 1) 0, [])
  else (fin1 { x with pr := 0, hd := 0, ph := 0 } l (16 * x.pr), ws.set x.pr.toNat (packA 2 0 0 r), [⟨1, id, l, 16 * x.pr, 16 * r⟩])

def giveV (x : WR) (vs : List Int) (id : Int) (ws : List Nat) : WR × List Nat × List Fc :=
  let l := leadV x.td
  let a := wantV vs x.td
  let c : Nat := (a / 16).toNat
  let X := ws[c]?.getD 0
  if x.ph = 0 then
    if c < ws.length ∧ GivesX X (a % 16) then ({ x with sn := X, ph := 1 }, ws, [])
    else (fin1 x l (-2), ws, [⟨4, id, l, a, 0⟩])
  else if x.ph = 1 then
    if X = x.sn then
      if RelOk x.sn (a % 16) then (fin1 { x with ph := 0, sn := 0 } l 1, ws.set c (relY x.sn (a % 16)), [⟨2, id, l, a, relS x.sn (a % 16)⟩])
      else ({ x with ph := 2, sn := 0, hd := rnOf x.sn, pr := c }, ws.set c 3145728, [⟨2, id, l, a, 16 * (rnOf x.sn : Int)⟩])
    else ({ x with ph := 0, sn := 0 }, ws, [])
  else if x.hd - 1 = 0 then (fin1 { x with hd := 0, pr := 0, ph := 0 } l 1, ws.set ((x.pr + x.hd).toNat - 1) 0, [])
  else ({ x with hd := x.hd - 1 }, ws.set ((x.pr + x.hd).toNat - 1) 0, [])

/-- A step is made. -/
def StepOk (x : WR) (vs : List Int) (id : Int) (ws : List Nat) : Prop := x.kd ≠ 0 ∧ 0 ≤ id ∧ id < 4 ∧ (ws.length ≤ 16 ∧ ∀ X ∈ ws, GoodX X) ∧ WarpGood x.kd vs x.gs x.td x.ph x.pr x.hd x.sn ws.length
instance (x : WR) (vs : List Int) (id : Int) (ws : List Nat) : Decidable (StepOk x vs id ws) := inferInstanceAs (Decidable (_ ∧ _))
def stepV (x : WR) (vs : List Int) (id : Int) (ws : List Nat) : WR × List Nat × List Fc :=
  if x.kd = 2 then giveV x vs id ws else if 16 < wantV vs x.td then largeV x vs id ws else smallV x vs id ws

end Go.Proofs.YtefcaeldkdbjdaaGreat
