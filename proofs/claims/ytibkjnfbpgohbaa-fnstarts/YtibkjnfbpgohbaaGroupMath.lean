/- Plain facts on groups of lanes: the lanes of a list with the same value, the groups of a list, a row filled in the lanes of a list. -/
import Derived.Test.YtibkjnfbpgohbaaLaneMath
namespace Go.Proofs.Ytibkjnfbpgohbaa

/-- The value of a lane in a row. -/
def at0 (zs : List Int) (k : Nat) : Int := zs[k]?.getD 0
/-- The lanes of l that have the value z. -/
def alike (zs : List Int) (l : List Nat) (z : Int) : List Nat := l.filter (fun k => decide (at0 zs k = z))
/-- The word of the lanes of l that have the value z. -/
def grp (zs : List Int) (l : List Nat) (z : Int) : Nat := orL (alike zs l z)
/-- Does lane k lead its group in l? -/
def leads (zs : List Int) (l : List Nat) (k : Nat) : Bool := (alike zs l (at0 zs k)).head? == some k
/-- The groups of l, by their leaders. -/
def groupsL (zs : List Int) (l : List Nat) : List Nat := (l.filter (fun k => leads zs l k)).map (fun k => grp zs l (at0 zs k))

theorem alike_lt {zs : List Int} {l : List Nat} {z : Int} {m : Nat} (h : ∀ k ∈ l, k < m) : ∀ k ∈ alike zs l z, k < m := fun k hk => h k (List.mem_filter.1 hk).1
theorem alike_snoc (zs : List Int) (l : List Nat) (k : Nat) (z : Int) : alike zs (l ++ [k]) z = alike zs l z ++ (if at0 zs k = z then [k] else []) := by
  unfold alike
  rw [List.filter_append]
  by_cases h : at0 zs k = z <;> simp [h]
theorem grp_hit {zs : List Int} {l : List Nat} {k : Nat} : grp zs (l ++ [k]) (at0 zs k) = grp zs l (at0 zs k) ||| 2 ^ k := by
  unfold grp; rw [alike_snoc, if_pos rfl, orL_snoc]
theorem grp_miss {zs : List Int} {l : List Nat} {k : Nat} {z : Int} (h : at0 zs k ≠ z) : grp zs (l ++ [k]) z = grp zs l z := by
  unfold grp; rw [alike_snoc, if_neg h, List.append_nil]
theorem grp_lt {zs : List Int} {l : List Nat} {z : Int} (h : ∀ k ∈ l, k < 32) : grp zs l z < 4294967296 := orL_lt (alike_lt h)
theorem grp_lt8 {zs : List Int} {l : List Nat} {z : Int} (h : ∀ k ∈ l, k < 8) : grp zs l z < 256 := by
  show grp zs l z < 2 ^ 8
  refine Nat.lt_pow_two_of_testBit _ fun j hj => ?_
  unfold grp
  rw [orL_bit]
  exact decide_eq_false fun e => by have := alike_lt h j e; omega

/-- A list of lanes in ascending order is what its word lists. -/
theorem ones_of_sorted {l : List Nat} (hs : l.Pairwise (· < ·)) (h : ∀ k ∈ l, k < 32) : onesTo (orL l) 32 = l := by
  have h1 : (onesTo (orL l) 32).Pairwise (· < ·) := ones_sorted _ _
  have hm : ∀ j, j ∈ onesTo (orL l) 32 ↔ j ∈ l := fun j => by
    rw [mem_ones, orL_bit]
    constructor
    · intro e; simpa using e.2
    · intro e; exact ⟨h j e, by simpa using e⟩
  have key : ∀ (a b : List Nat), a.Pairwise (· < ·) → b.Pairwise (· < ·) → (∀ j, j ∈ a ↔ j ∈ b) → a = b := by
    intro a
    induction a with
    | nil =>
      intro b _ _ e
      cases b with
      | nil => rfl
      | cons y b => exact absurd ((e y).2 (by simp)) (by simp)
    | cons x a ih =>
      intro b ha hb e
      cases b with
      | nil => exact absurd ((e x).1 (by simp)) (by simp)
      | cons y b =>
        rw [List.pairwise_cons] at ha hb
        have hxy : x = y := by
          rcases List.mem_cons.1 ((e x).1 (by simp)) with h2 | h2
          · exact h2
          · rcases List.mem_cons.1 ((e y).2 (by simp)) with h3 | h3
            · exact h3.symm
            · have := hb.1 x h2; have := ha.1 y h3; omega
        subst hxy
        congr 1
        refine ih b ha.2 hb.2 fun j => ?_
        constructor
        · intro hj
          rcases List.mem_cons.1 ((e j).1 (by simp [hj])) with h2 | h2
          · have := ha.1 j hj; omega
          · exact h2
        · intro hj
          rcases List.mem_cons.1 ((e j).2 (by simp [hj])) with h2 | h2
          · have := hb.1 j hj; omega
          · exact h2
  exact key _ _ h1 hs hm
/-- The leader of a group is its first lane. -/
theorem lead_iff {zs : List Int} {l : List Nat} {k : Nat} (hs : l.Pairwise (· < ·)) (h8 : ∀ j ∈ l, j < 8) : (nthV (grp zs l (at0 zs k)) 0 = (k : Int)) ↔ leads zs l k = true := by
  have hx := grp_lt8 (zs := zs) (z := at0 zs k) h8
  rw [nthV_zero hx]
  unfold grp
  rw [ones_of_sorted (l := alike zs l (at0 zs k)) (List.Pairwise.filter _ hs) (fun j hj => by have := alike_lt h8 j hj; omega)]
  unfold lowOf leads
  cases hh : (alike zs l (at0 zs k)).head? with
  | none => simp
  | some j => simp; omega

theorem filter_filter_ne {zs : List Int} {t : List Nat} {z z' : Int} (h : z' ≠ z) : alike zs (t.filter (fun k => decide (at0 zs k ≠ z))) z' = alike zs t z' := by
  unfold alike
  rw [List.filter_filter]
  apply List.filter_congr
  intro j _
  by_cases e : at0 zs j = z'
  · simp [e, h]
  · simp [e]
/-- The groups of a list: the first one's, then those of the others. -/
theorem groupsL_cons (zs : List Int) (k : Nat) (t : List Nat) (hn : (k :: t).Nodup) : groupsL zs (k :: t) = grp zs (k :: t) (at0 zs k) :: groupsL zs ((k :: t).filter (fun j => decide (at0 zs j ≠ at0 zs k))) := by
  have hk : leads zs (k :: t) k = true := by unfold leads alike; simp
  have hr : (k :: t).filter (fun j => decide (at0 zs j ≠ at0 zs k)) = t.filter (fun j => decide (at0 zs j ≠ at0 zs k)) := by simp
  rw [List.nodup_cons] at hn
  have h1 : ∀ j ∈ t, at0 zs j ≠ at0 zs k → alike zs (k :: t) (at0 zs j) = alike zs (t.filter (fun i => decide (at0 zs i ≠ at0 zs k))) (at0 zs j) := fun j _ hne => by
    rw [filter_filter_ne hne]
    unfold alike
    rw [List.filter_cons_of_neg]
    simpa using fun e => hne e.symm
  have h2 : t.filter (fun j => leads zs (k :: t) j) = (t.filter (fun j => decide (at0 zs j ≠ at0 zs k))).filter (fun j => leads zs (t.filter (fun i => decide (at0 zs i ≠ at0 zs k))) j) := by
    rw [List.filter_filter]
    apply List.filter_congr
    intro j hj
    by_cases hne : at0 zs j ≠ at0 zs k
    · unfold leads
      rw [h1 j hj hne]
      simp [hne]
    · have he : at0 zs j = at0 zs k := by simpa using hne
      have : leads zs (k :: t) j = false := by
        unfold leads alike
        rw [he]
        simp
        intro e
        exact hn.1 (e ▸ hj)
      rw [this]
      simp [he]
  unfold groupsL
  rw [List.filter_cons_of_pos hk, List.map_cons, h2, hr]
  congr 1
  apply List.map_congr_left
  intro j hj
  have hj2 := (List.mem_filter.1 (List.mem_filter.1 hj).1)
  unfold grp
  rw [h1 j hj2.1 (by simpa using hj2.2)]
theorem groupsL_nil (zs : List Int) : groupsL zs [] = [] := rfl
theorem groupsL_len (zs : List Int) (l : List Nat) : (groupsL zs l).length ≤ l.length := by
  unfold groupsL
  rw [List.length_map]
  exact List.length_filter_le _ _

/-- A row with v in the lanes of l. -/
def fillL (v : Int) (zs : List Int) (l : List Nat) : List Int := l.foldl (fun r k => r.set k v) zs
theorem fillL_len (v : Int) : ∀ (l : List Nat) (zs : List Int), (fillL v zs l).length = zs.length := by
  intro l
  induction l with
  | nil => intro zs; rfl
  | cons k l ih => intro zs; show (fillL v (zs.set k v) l).length = _; rw [ih]; simp
theorem fillL_snoc (v : Int) (zs : List Int) (l : List Nat) (k : Nat) : fillL v zs (l ++ [k]) = (fillL v zs l).set k v := by simp [fillL]
theorem fillL_keep (v : Int) : ∀ (l : List Nat) (zs : List Int) (k : Nat), at0 zs k = v → k < zs.length → at0 (fillL v zs l) k = v := by
  intro l
  induction l with
  | nil => intro zs k h _; exact h
  | cons j l ih =>
    intro zs k h hk
    refine ih (zs.set j v) k ?_ (by simpa using hk)
    unfold at0
    by_cases e : j = k
    · subst e; simp [hk]
    · rw [List.getElem?_set_ne e]; exact h
theorem fillL_at (v : Int) : ∀ (l : List Nat) (zs : List Int) (k : Nat), k ∈ l → k < zs.length → at0 (fillL v zs l) k = v := by
  intro l
  induction l with
  | nil => intro zs k h; simp at h
  | cons j l ih =>
    intro zs k h hk
    show at0 (fillL v (zs.set j v) l) k = v
    rcases List.mem_cons.1 h with rfl | h
    · refine fillL_keep v l _ k ?_ (by simpa using hk)
      unfold at0; simp [hk]
    · exact ih _ k h (by simpa using hk)
/-- Where all lanes have one value there is one group. -/
theorem groupsL_one {zs : List Int} {X : Nat} (hX : X < 256) (h0 : X ≠ 0) {v : Int} (h : ∀ k ∈ onesTo X 32, at0 zs k = v) : groupsL zs (onesTo X 32) = [X] := by
  have hal : alike zs (onesTo X 32) v = onesTo X 32 := by
    unfold alike
    rw [List.filter_eq_self]
    intro k hk
    simpa using h k hk
  cases hl : onesTo X 32 with
  | nil =>
    exfalso
    apply h0
    rw [← orL_ones (show X < 4294967296 by omega), hl]; rfl
  | cons k t =>
    have hk : at0 zs k = v := h k (by rw [hl]; simp)
    have hnd := ones_nodup X 32
    rw [hl] at hnd hal
    rw [groupsL_cons zs k t hnd]
    have e1 : grp zs (k :: t) (at0 zs k) = X := by
      unfold grp
      rw [hk, hal, ← hl, orL_ones (by omega)]
    have e2 : (k :: t).filter (fun j => decide (at0 zs j ≠ at0 zs k)) = [] := by
      rw [List.filter_eq_nil_iff]
      intro j hj
      rw [← hl] at hj
      simp [h j hj, hk]
    rw [e1, e2, groupsL_nil]

end Go.Proofs.Ytibkjnfbpgohbaa
