/- Room, claims and releases of a control word, in plain numbers. -/
import Derived.Test.YtibkjnfbpgohbaaSCtlP
namespace Go.Proofs.Ytibkjnfbpgohbaa
open Go.RowKit

/-- The chunk of the word can have blocks of the class: it is free, or a page of that class. -/
def PageX (X : Nat) (K : Int) : Prop := GoodX X ∧ IsClass K ∧ (stOf X = 0 ∨ (stOf X = 1 ∧ (clOf X : Int) = K))
instance (X : Nat) (K : Int) : Decidable (PageX X K) := inferInstanceAs (Decidable (_ ∧ _))
/-- The blocks of the class that are free in a map. -/
def freeL (M : Nat) (K : Int) : List Nat := freeTo M (perV K).toNat
/-- The room of a word for a class. -/
def roomV (X : Nat) (K : Int) : Nat := if PageX X K then (freeL (mpOf X) K).length else 0

theorem mp_lt (X : Nat) : mpOf X < 65536 := Nat.mod_lt _ (by omega)
theorem page_map_lt {X : Nat} {K : Int} (h : PageX X K) : mpOf X < 2 ^ (perV K).toNat := by
  obtain ⟨hg, hk, hs⟩ := h
  have hp : 0 < 2 ^ (perV K).toNat := Nat.pow_pos (by omega)
  rcases hs with h0 | ⟨h1, hc⟩
  · have := (good_free (.inl (by omega : ((stOf X : Nat) : Int) = 0))).1 hg
    omega
  · have hg' : CtlGood (stOf X) (clOf X) (mpOf X) (rnOf X) := hg
    rw [show ((stOf X : Nat) : Int) = 1 by omega] at hg'
    have := (good_page.1 hg').2.1.2
    rwa [hc] at this
theorem ones_free_len (M : Nat) : ∀ p, (freeTo M p).length + (onesTo M p).length = p := by
  intro p
  induction p with
  | zero => rfl
  | succ p ih =>
    by_cases h : M / 2 ^ p % 2 = 1
    · rw [freeTo_miss h, onesTo_hit h, List.length_append]; simp; omega
    · rw [freeTo_hit (by omega), onesTo_miss h, List.length_append]; simp; omega
theorem ones_within {M p : Nat} (h : M < 2 ^ p) (hp : p ≤ 32) : onesTo M 32 = onesTo M p := onesTo_stop (Nat.div_eq_of_lt h) 32 hp
theorem per_bounds {K : Int} (h : IsClass K) : ((perV K).toNat : Int) = perV K ∧ (perV K).toNat ≤ 16 ∧ 1 ≤ (perV K).toNat ∧ sizeV K * perV K = 16 ∧ 1 ≤ sizeV K ∧ sizeV K ≤ 16 := by
  rcases five h with rfl | rfl | rfl | rfl | rfl <;> decide
theorem room_page {X : Nat} {K : Int} (h : PageX X K) : perV K - ((onesTo (mpOf X) 32).length : Int) = (roomV X K : Int) := by
  obtain ⟨e1, e2, _⟩ := per_bounds h.2.1
  have h1 := ones_free_len (mpOf X) (perV K).toNat
  rw [ones_within (page_map_lt h) (by omega)]
  unfold roomV freeL
  rw [if_pos h]
  omega
theorem room_not {X : Nat} {K : Int} (h : ¬ PageX X K) : roomV X K = 0 := if_neg h
theorem freeL_len {M : Nat} {K : Int} (h : IsClass K) : (freeL M K).length ≤ 16 := by
  have := freeTo_len M (perV K).toNat
  have := (per_bounds h).2.1
  unfold freeL
  omega
theorem room_le (X : Nat) (K : Int) : roomV X K ≤ 16 := by
  unfold roomV
  split
  · rename_i h
    exact freeL_len h.2.1
  · omega
theorem free_form_page {X : Nat} {K : Int} (h : IsClass K) : onesTo (freeV (mpOf X) (perV K)) 32 = freeL (mpOf X) K := by
  obtain ⟨e1, e2, e3, _⟩ := per_bounds h
  have hw : IsWidth (perV K) := ⟨by omega, by omega⟩
  have hm := mp_lt X
  unfold freeV freeL
  rw [if_pos hw]
  exact free_ones (by omega) (by omega)
theorem mem_freeTo {M p j : Nat} : j ∈ freeTo M p ↔ j < p ∧ M.testBit j = false := by simp [freeTo]

/-- A claim of n blocks is granted. -/
def ClaimOk (X : Nat) (K n : Int) : Prop := roomV X K ≠ 0 ∧ 1 ≤ n
instance (X : Nat) (K n : Int) : Decidable (ClaimOk X K n) := inferInstanceAs (Decidable (_ ∧ _))
/-- The blocks that it gets, the word behind it, and the offsets. -/
def clL (X : Nat) (K n : Int) : List Nat := if ClaimOk X K n then (freeL (mpOf X) K).take n.toNat else []
def clY (X : Nat) (K n : Int) : Nat := if ClaimOk X K n then packA 1 K (mpOf X ||| orL (clL X K n)) 0 else 0
def clO (X : Nat) (K n : Int) : List Int := (clL X K n).map (fun k : Nat => (k : Int) * sizeV K)

theorem room_pos {X : Nat} {K : Int} (h : roomV X K ≠ 0) : PageX X K := by
  refine Decidable.byContradiction fun hn => h (room_not hn)
theorem cl_ok {X : Nat} {K n : Int} (h : ClaimOk X K n) : PageX X K ∧ clL X K n = (freeL (mpOf X) K).take n.toNat ∧ clY X K n = packA 1 K (mpOf X ||| orL (clL X K n)) 0 :=
  ⟨room_pos h.1, if_pos h, if_pos h⟩
theorem cl_no {X : Nat} {K n : Int} (h : ¬ ClaimOk X K n) : clL X K n = [] ∧ clY X K n = 0 ∧ clO X K n = [] := by
  have e : clL X K n = [] := if_neg h
  exact ⟨e, if_neg h, by unfold clO; rw [e]; rfl⟩
theorem clL_len {X : Nat} {K n : Int} (h : ClaimOk X K n) : ((clL X K n).length : Int) = min n (roomV X K) ∧ 1 ≤ (clL X K n).length ∧ (clL X K n).length ≤ 16 := by
  obtain ⟨hp, e, _⟩ := cl_ok h
  have h1 := freeL_len (M := mpOf X) hp.2.1
  have h2 : roomV X K = (freeL (mpOf X) K).length := if_pos hp
  have h3 := h.1
  have h4 := h.2
  rw [e, List.length_take, h2] at *
  omega
theorem clL_mem {X : Nat} {K n : Int} {j : Nat} (h : j ∈ clL X K n) : ClaimOk X K n ∧ j < (perV K).toNat ∧ (mpOf X).testBit j = false := by
  by_cases hc : ClaimOk X K n
  · rw [(cl_ok hc).2.1] at h
    exact ⟨hc, mem_freeTo.1 (List.mem_of_mem_take h)⟩
  · rw [(cl_no hc).1] at h; simp at h
theorem clL_lt {X : Nat} {K n : Int} {j : Nat} (h : j ∈ clL X K n) : j < 16 := by
  obtain ⟨hc, h1, _⟩ := clL_mem h
  have := (per_bounds (cl_ok hc).1.2.1).2.1
  omega
theorem clL_nodup (X : Nat) (K n : Int) : (clL X K n).Nodup := by
  unfold clL
  split
  · exact List.Sublist.nodup (List.take_sublist _ _) (List.Sublist.nodup List.filter_sublist List.nodup_range)
  · simp
theorem orL_bound {l : List Nat} {p : Nat} (h : ∀ k ∈ l, k < p) : orL l < 2 ^ p := by
  refine Nat.lt_pow_two_of_testBit _ fun i hi => ?_
  rw [orL_bit]
  refine decide_eq_false fun hm => ?_
  have := h i hm
  omega
theorem clOr_lt (X : Nat) (K n : Int) : orL (clL X K n) < 65536 := orL_bound (p := 16) fun k hk => clL_lt hk
theorem cl_and (X : Nat) (K n : Int) : mpOf X &&& orL (clL X K n) = 0 := by
  refine Nat.eq_of_testBit_eq fun i => ?_
  rw [Nat.testBit_and, Nat.zero_testBit, orL_bit]
  by_cases h : i ∈ clL X K n
  · rw [(clL_mem h).2.2]; rfl
  · simp [h]
theorem cl_add (X : Nat) (K n : Int) : mpOf X + orL (clL X K n) = mpOf X ||| orL (clL X K n) := by
  have h1 := or_and_sum 16 (mpOf X) (orL (clL X K n)) (mp_lt X) (clOr_lt X K n)
  rw [cl_and] at h1
  omega
theorem cl_good {X : Nat} {K n : Int} (h : ClaimOk X K n) : CtlGood 1 K (mpOf X ||| orL (clL X K n)) 0 := by
  obtain ⟨hp, _, _⟩ := cl_ok h
  refine good_page.2 ⟨hp.2.1, ⟨?_, ?_⟩, rfl⟩
  · intro h0
    have h2 := (clL_len h).2.1
    obtain ⟨j, hj⟩ := List.exists_mem_of_length_pos (by omega : 0 < (clL X K n).length)
    have h3 : (mpOf X ||| orL (clL X K n)).testBit j = true := by rw [Nat.testBit_or, orL_bit]; simp [hj]
    rw [h0] at h3
    simp at h3
  · exact Nat.or_lt_two_pow (page_map_lt hp) (orL_bound fun k hk => (clL_mem hk).2.1)

/-- At the offset there is an allocated block; where it starts and its size. -/
def AtOk (X : Nat) (off : Int) : Prop := GoodX X ∧ stOf X = 1 ∧ 0 ≤ off ∧ off < 16 ∧ (mpOf X).testBit (off / sizeV (clOf X)).toNat = true
instance (X : Nat) (off : Int) : Decidable (AtOk X off) := inferInstanceAs (Decidable (_ ∧ _))
def atV (X : Nat) (off : Int) : Int := if AtOk X off then off / sizeV (clOf X) * sizeV (clOf X) else 0
def szV (X : Nat) (off : Int) : Int := if AtOk X off then sizeV (clOf X) else 0
theorem page_class {X : Nat} (hg : GoodX X) (h1 : stOf X = 1) : IsClass (clOf X) ∧ IsMap (mpOf X) (clOf X) ∧ rnOf X = 0 := by
  have hg' : CtlGood (stOf X) (clOf X) (mpOf X) (rnOf X) := hg
  rw [show ((stOf X : Nat) : Int) = 1 by omega] at hg'
  obtain ⟨a, b, c⟩ := good_page.1 hg'
  exact ⟨a, b, by omega⟩
/-- The block at the offset can be released: it starts there. -/
def RelOk (X : Nat) (off : Int) : Prop := AtOk X off ∧ atV X off = off
instance (X : Nat) (off : Int) : Decidable (RelOk X off) := inferInstanceAs (Decidable (_ ∧ _))
def blkN (X : Nat) (off : Int) : Nat := (off / sizeV (clOf X)).toNat
def relM (X : Nat) (off : Int) : Nat := mpOf X - 2 ^ blkN X off
def relY (X : Nat) (off : Int) : Nat := if RelOk X off then packA 1 (clOf X) (relM X off) 0 else 0
def relS (X : Nat) (off : Int) : Int := if RelOk X off then sizeV (clOf X) else 0
/-- The words that are taken. -/
def takenV (X : Nat) : Int := if GoodX X ∧ stOf X = 1 then ((onesTo (mpOf X) 32).length : Int) * sizeV (clOf X) else if GoodX X ∧ stOf X = 2 then 16 else 0

theorem div_block {s off : Int} (h1 : 1 ≤ s) (h2 : s ≤ 16) (h0 : 0 ≤ off) (h3 : off < 16) : 0 ≤ off / s ∧ off / s < 16 ∧ off.tdiv s = off / s := by
  refine ⟨Int.ediv_nonneg h0 (by omega), ?_, Int.tdiv_eq_ediv_of_nonneg h0⟩
  have := Int.ediv_le_self s h0
  omega
theorem clear_bit {M b : Nat} (h : M.testBit b = true) : M &&& (4294967295 - 2 ^ b) = M - 2 ^ b ∨ ¬ M < 4294967296 ∨ ¬ b < 32 := by
  by_cases hM : M < 4294967296
  · by_cases hb : b < 32
    · left
      have hp : 2 ^ b < 2 ^ 32 := Nat.pow_lt_pow_right (by omega) hb
      have e : 4294967295 - 2 ^ b = 2 ^ 32 - (2 ^ b + 1) := by omega
      have h1 : (M &&& (4294967295 - 2 ^ b)) ||| 2 ^ b = M := by
        refine Nat.eq_of_testBit_eq fun i => ?_
        rw [Nat.testBit_or, Nat.testBit_and, e, Nat.testBit_two_pow_sub_succ (by omega), Nat.testBit_two_pow]
        by_cases hi : b = i
        · subst hi; simp [h]
        · by_cases h32 : i < 32
          · simp [hi, h32]
          · simp [hi, h32]
            exact Nat.testBit_lt_two_pow (Nat.lt_of_lt_of_le hM (Nat.pow_le_pow_right (n := 2) (by omega) (show 32 ≤ i by omega)))
      have h2 : (M &&& (4294967295 - 2 ^ b)) &&& 2 ^ b = 0 := by
        refine Nat.eq_of_testBit_eq fun i => ?_
        rw [Nat.testBit_and, Nat.testBit_and, e, Nat.testBit_two_pow_sub_succ (by omega), Nat.testBit_two_pow, Nat.zero_testBit]
        by_cases hi : b = i
        · simp [hi]
        · simp [hi]
      have h3 := or_and_sum 32 (M &&& (4294967295 - 2 ^ b)) (2 ^ b) (Nat.lt_of_le_of_lt Nat.and_le_left (by omega)) hp
      omega
    · exact .inr (.inr hb)
  · exact .inr (.inl hM)
theorem bit_le {M b : Nat} (h : M.testBit b = true) : 2 ^ b ≤ M := Nat.ge_two_pow_of_testBit h

theorem pick_ones (X : Nat) : ∀ m n, (List.range m).filter (fun j => decide (j ∈ (onesTo X m).take n)) = (onesTo X m).take n := by
  intro m
  induction m with
  | zero => intro n; simp [onesTo]
  | succ m ih =>
    intro n
    have hlow : ∀ k, (List.range m).filter (fun j => decide (j ∈ (onesTo X m).take k ++ [m])) = (List.range m).filter (fun j => decide (j ∈ (onesTo X m).take k)) := fun k => by
      apply List.filter_congr
      intro j hj
      have : ¬ j = m := by simp at hj; omega
      simp [this]
    have hno : ∀ k, ¬ m ∈ (onesTo X m).take k := fun k h => by have := onesTo_lt (List.mem_of_mem_take h); omega
    rw [List.range_succ, List.filter_append]
    by_cases hb : X / 2 ^ m % 2 = 1
    · rw [onesTo_hit hb]
      by_cases hn : n ≤ (onesTo X m).length
      · rw [List.take_append_of_le_length hn, ih n]
        simp [hno n]
      · have e : (onesTo X m ++ [m]).take n = (onesTo X m).take n ++ [m] := by
          rw [List.take_of_length_le (by simp; omega), List.take_of_length_le (by omega)]
        rw [e, hlow n, ih n]
        simp
    · rw [onesTo_miss hb, ih n]
      simp [hno n]
/-- The word of the lowest n set bits has just these bits set. -/
theorem take_ones (X n : Nat) : onesTo (orL ((onesTo X 32).take n)) 32 = (onesTo X 32).take n := by
  have h := pick_ones X 32 n
  rw [← h]
  unfold onesTo
  apply List.filter_congr
  intro j _
  rw [orL_bit]
  have := pick_ones X 32 n
  unfold onesTo at this
  rw [this]
theorem ones_clL {X : Nat} {K n : Int} : onesTo (orL (clL X K n)) 32 = clL X K n := by
  by_cases h : ClaimOk X K n
  · obtain ⟨hp, e, _⟩ := cl_ok h
    rw [e, ← free_form_page hp.2.1, take_ones]
  · rw [(cl_no h).1]; exact ones_none 32

end Go.Proofs.Ytibkjnfbpgohbaa
