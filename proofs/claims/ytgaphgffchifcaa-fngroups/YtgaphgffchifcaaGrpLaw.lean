/- Plain facts on the groups of the lanes of a mask, as the law of groups asks for them. -/
import Derived.Test.YtgaphgffchifcaaGroupMath
namespace Go.Proofs.Ytgaphgffchifcaa

/-- An element of a list (0 outside). -/
def nat0 (l : List Nat) (i : Nat) : Nat := l[i]?.getD 0
theorem nat0_at {l : List Nat} {i : Nat} (h : i < l.length) : nat0 l i = l[i] := by unfold nat0; rw [List.getElem?_eq_getElem h, Option.getD_some]
theorem nat0_mem {l : List Nat} {i : Nat} (h : i < l.length) : nat0 l i ∈ l := by rw [nat0_at h]; exact List.getElem_mem h
/-- All words of a list together. -/
def allW (l : List Nat) : Nat := l.foldl (· ||| ·) 0
theorem allW_take {l : List Nat} {i : Nat} (h : i < l.length) : allW (l.take (i + 1)) = allW (l.take i) ||| nat0 l i := by
  unfold allW
  rw [List.take_succ_eq_append_getElem h, List.foldl_append, nat0_at h]
  rfl
theorem foldl_bit : ∀ (l : List Nat) (a b : Nat), (l.foldl (· ||| ·) a).testBit b = true ↔ a.testBit b = true ∨ ∃ g ∈ l, g.testBit b = true := by
  intro l
  induction l with
  | nil => intro a b; simp
  | cons g l ih =>
    intro a b
    rw [List.foldl_cons, ih, Nat.testBit_or, Bool.or_eq_true]
    constructor
    · rintro ((h | h) | ⟨x, hx, h⟩)
      · exact .inl h
      · exact .inr ⟨g, by simp, h⟩
      · exact .inr ⟨x, by simp [hx], h⟩
    · rintro (h | ⟨x, hx, h⟩)
      · exact .inl (.inl h)
      · rcases List.mem_cons.1 hx with rfl | hx
        · exact .inl (.inr h)
        · exact .inr ⟨x, hx, h⟩
theorem allW_bit (l : List Nat) (b : Nat) : (allW l).testBit b = true ↔ ∃ g ∈ l, g.testBit b = true := by
  unfold allW
  rw [foldl_bit]
  simp
/-- The lanes of L that lead their groups. -/
def ledBy (zs : List Int) (L : List Nat) : List Nat := L.filter (fun k => leads zs L k)
theorem groupsL_map (zs : List Int) (L : List Nat) : groupsL zs L = (ledBy zs L).map (fun k => grp zs L (at0 zs k)) := rfl
theorem grp_bit {zs : List Int} {L : List Nat} {z : Int} {b : Nat} : (grp zs L z).testBit b = true ↔ b ∈ L ∧ at0 zs b = z := by
  unfold grp
  rw [orL_bit]
  constructor
  · intro h
    have := List.mem_filter.1 (of_decide_eq_true h)
    exact ⟨this.1, by simpa using this.2⟩
  · rintro ⟨h1, h2⟩
    exact decide_eq_true (List.mem_filter.2 ⟨h1, by simpa using h2⟩)
theorem leads_iff {zs : List Int} {L : List Nat} {k : Nat} : leads zs L k = true ↔ (alike zs L (at0 zs k)).head? = some k := by unfold leads; simp
theorem led_uniq {zs : List Int} {L : List Nat} {k j : Nat} (hk : leads zs L k = true) (hj : leads zs L j = true) (h : at0 zs k = at0 zs j) : k = j := by
  rw [leads_iff] at hk hj
  rw [h, hj] at hk
  injection hk with hk
  exact hk.symm
/-- Some lane leads the group of each lane. -/
theorem led_some {zs : List Int} {L : List Nat} {b : Nat} (hb : b ∈ L) : ∃ k ∈ ledBy zs L, at0 zs k = at0 zs b := by
  cases hh : (alike zs L (at0 zs b)).head? with
  | none =>
    rw [List.head?_eq_none_iff] at hh
    have : b ∈ alike zs L (at0 zs b) := List.mem_filter.2 ⟨hb, by simp⟩
    rw [hh] at this
    simp at this
  | some k =>
    have hm := List.mem_of_head? hh
    have h2 := List.mem_filter.1 hm
    have h3 : at0 zs k = at0 zs b := by simpa using h2.2
    exact ⟨k, List.mem_filter.2 ⟨h2.1, leads_iff.2 (by rw [h3]; exact hh)⟩, h3⟩

/-- What the law asks of the groups G with the leaders K. -/
structure GF (zs : List Int) (X : Nat) (G K : List Nat) : Prop where
  len : K.length = G.length
  small : ∀ i, i < G.length → nat0 G i < 256
  lane8 : ∀ i, i < G.length → nat0 K i < 8
  lead : ∀ i, i < G.length → nthV (nat0 G i) 0 = (nat0 K i : Int)
  ones : ∀ i, i < G.length → (∃ t, onesTo (nat0 G i) 32 = nat0 K i :: t) ∧ ∀ j ∈ onesTo (nat0 G i) 32, j < 8 ∧ at0 zs j = at0 zs (nat0 K i)
  inc : ∀ i j, i < j → j < G.length → nat0 K i < nat0 K j
  diff : ∀ i j, i < j → j < G.length → at0 zs (nat0 K i) ≠ at0 zs (nat0 K j)
  apart : ∀ i, i < G.length → nat0 G i &&& allW (G.take i) = 0
  total : G ≠ [] → allW G = X

theorem gf_of {zs : List Int} {X : Nat} (hX : X < 256) : GF zs X (groupsL zs (onesTo X 32)) (ledBy zs (onesTo X 32)) := by
  have hs : (onesTo X 32).Pairwise (· < ·) := ones_sorted _ _
  have h8 : ∀ j ∈ onesTo X 32, j < 8 := fun j hj => ones_lt_8 hX hj
  have hlen : (ledBy zs (onesTo X 32)).length = (groupsL zs (onesTo X 32)).length := by rw [groupsL_map, List.length_map]
  have hK : ∀ i, i < (groupsL zs (onesTo X 32)).length → nat0 (ledBy zs (onesTo X 32)) i ∈ onesTo X 32 ∧ leads zs (onesTo X 32) (nat0 (ledBy zs (onesTo X 32)) i) = true := fun i hi =>
    List.mem_filter.1 (nat0_mem (l := ledBy zs (onesTo X 32)) (by rw [hlen]; exact hi))
  have hG : ∀ i, i < (groupsL zs (onesTo X 32)).length → nat0 (groupsL zs (onesTo X 32)) i = grp zs (onesTo X 32) (at0 zs (nat0 (ledBy zs (onesTo X 32)) i)) := fun i hi => by
    have hi' : i < (ledBy zs (onesTo X 32)).length := by rw [hlen]; exact hi
    rw [nat0_at hi', nat0_at hi]
    simp only [groupsL_map, List.getElem_map]
  have hinc : ∀ i j, i < j → j < (groupsL zs (onesTo X 32)).length → nat0 (ledBy zs (onesTo X 32)) i < nat0 (ledBy zs (onesTo X 32)) j := fun i j hij hj => by
    have hp : (ledBy zs (onesTo X 32)).Pairwise (· < ·) := List.Pairwise.filter _ hs
    rw [nat0_at (by omega), nat0_at (by omega)]
    exact List.pairwise_iff_getElem.1 hp i j _ _ hij
  have hdiff : ∀ i j, i < j → j < (groupsL zs (onesTo X 32)).length → at0 zs (nat0 (ledBy zs (onesTo X 32)) i) ≠ at0 zs (nat0 (ledBy zs (onesTo X 32)) j) := fun i j hij hj e => by
    have := led_uniq (hK i (by omega)).2 (hK j hj).2 e
    have := hinc i j hij hj
    omega
  refine ⟨hlen, fun i hi => ?_, fun i hi => h8 _ (hK i hi).1, fun i hi => ?_, fun i hi => ?_, hinc, hdiff, fun i hi => ?_, fun hne => ?_⟩
  · rw [hG i hi]; exact grp_lt8 h8
  · rw [hG i hi]; exact (lead_iff hs h8).2 (hK i hi).2
  · rw [hG i hi]
    have e : onesTo (grp zs (onesTo X 32) (at0 zs (nat0 (ledBy zs (onesTo X 32)) i))) 32 = alike zs (onesTo X 32) (at0 zs (nat0 (ledBy zs (onesTo X 32)) i)) := by
      unfold grp
      exact ones_of_sorted (List.Pairwise.filter _ hs) (fun j hj => by have := alike_lt h8 j hj; omega)
    rw [e]
    constructor
    · have hh := leads_iff.1 (hK i hi).2
      cases ha : alike zs (onesTo X 32) (at0 zs (nat0 (ledBy zs (onesTo X 32)) i)) with
      | nil => rw [ha] at hh; simp at hh
      | cons x t =>
        rw [ha] at hh
        simp at hh
        exact ⟨t, by rw [hh]⟩
    · intro j hj
      have := List.mem_filter.1 hj
      exact ⟨h8 j this.1, by simpa using this.2⟩
  · apply Nat.eq_of_testBit_eq
    intro b
    rw [Nat.testBit_and, Nat.zero_testBit]
    cases h1 : (nat0 (groupsL zs (onesTo X 32)) i).testBit b with
    | false => rfl
    | true =>
      cases h2 : (allW ((groupsL zs (onesTo X 32)).take i)).testBit b with
      | false => rfl
      | true =>
        exfalso
        obtain ⟨g, hg, hgb⟩ := (allW_bit _ _).1 h2
        obtain ⟨j, hj, e⟩ := List.getElem_of_mem hg
        have hji : j < i := by rw [List.length_take] at hj; omega
        have hg2 : g = nat0 (groupsL zs (onesTo X 32)) j := by
          rw [← e, List.getElem_take, nat0_at (by omega)]
        rw [hG i hi] at h1
        rw [hg2, hG j (by omega)] at hgb
        exact hdiff j i hji hi ((grp_bit.1 hgb).2.symm.trans (grp_bit.1 h1).2)
  · apply Nat.eq_of_testBit_eq
    intro b
    by_cases hb : b ∈ onesTo X 32
    · rw [(mem_ones.1 hb).2]
      obtain ⟨k, hk, hkb⟩ := led_some (zs := zs) hb
      refine (allW_bit _ _).2 ⟨grp zs (onesTo X 32) (at0 zs k), ?_, grp_bit.2 ⟨hb, hkb.symm⟩⟩
      rw [groupsL_map]
      exact List.mem_map.2 ⟨k, hk, rfl⟩
    · have hx : X.testBit b = false := by
        cases h : X.testBit b with
        | false => rfl
        | true => exact absurd (mem_ones.2 ⟨by have := bit_lt_8 hX h; omega, h⟩) hb
      rw [hx]
      cases h : (allW (groupsL zs (onesTo X 32))).testBit b with
      | false => rfl
      | true =>
        exfalso
        obtain ⟨g, hg, hgb⟩ := (allW_bit _ _).1 h
        rw [groupsL_map] at hg
        obtain ⟨k, _, rfl⟩ := List.mem_map.1 hg
        exact hb (grp_bit.1 hgb).1

end Go.Proofs.Ytgaphgffchifcaa
