/- What a claim and a release do to a control word, in plain numbers: for the laws of stage 5. -/
import Derived.Test.YtomcdfaomfkmjaaIClaim
import Derived.Test.YtomcdfaomfkmjaaLCtl
namespace Go.Proofs.Ytomcdfaomfkmjaa
open Go.RowKit

theorem pack_lt32 (K : Int) (m : Nat) : packA 1 K m 0 < 4294967296 := packA_lt 1 K m 0
/-- The word of a page, read. -/
theorem page_read {K : Int} {m : Nat} (h : CtlGood 1 K m 0) : GoodX (packA 1 K m 0) ∧ stOf (packA 1 K m 0) = 1 ∧ (clOf (packA 1 K m 0) : Int) = K ∧ mpOf (packA 1 K m 0) = m := by
  obtain ⟨e1, e2, e3, _⟩ := unpack h
  have hg := (good_pack h).1
  rw [packA_good h] at *
  exact ⟨hg, by omega, e2, e3⟩
theorem clear_bits {M b : Nat} (hM : M < 65536) (hb : b < 16) (h : M.testBit b = true) (i : Nat) : (M - 2 ^ b).testBit i = (M.testBit i && decide (i ≠ b)) := by
  have hp : 2 ^ b < 2 ^ 32 := Nat.pow_lt_pow_right (by omega) (by omega)
  rcases clear_bit h with h1 | h1 | h1
  · rw [← h1, Nat.testBit_and, show 4294967295 - 2 ^ b = 2 ^ 32 - (2 ^ b + 1) by omega, Nat.testBit_two_pow_sub_succ (by omega), Nat.testBit_two_pow]
    by_cases hi : i < 32
    · by_cases hbi : b = i
      · subst hbi; simp
      · have : ¬ i = b := fun e => hbi e.symm
        simp [hi, hbi, this]
    · rw [Nat.testBit_lt_two_pow (Nat.lt_of_lt_of_le (show M < 2 ^ 32 by omega) (Nat.pow_le_pow_right (n := 2) (by omega) (show 32 ≤ i by omega)))]
      rfl
  · exact absurd (show M < 4294967296 by omega) h1
  · exact absurd (show b < 32 by omega) h1
theorem ones_clear {M b : Nat} (hM : M < 65536) (hb : b < 16) (h : M.testBit b = true) : (onesTo (M - 2 ^ b) 32).length + 1 = (onesTo M 32).length := by
  have hmem : b ∈ onesTo M 32 := mem_ones.2 ⟨by omega, h⟩
  have e : onesTo (M - 2 ^ b) 32 = (onesTo M 32).erase b := by
    rw [(ones_nodup M 32).erase_eq_filter]
    unfold onesTo
    rw [List.filter_filter]
    apply List.filter_congr
    intro i _
    rw [clear_bits hM hb h i]
    by_cases hi : i = b <;> simp [hi]
  have hpos : 0 < (onesTo M 32).length := List.length_pos_of_mem hmem
  rw [e, List.length_erase_of_mem hmem]
  omega
theorem set_sub {M b : Nat} (hM : M < 65536) (hb : b < 16) (h : M.testBit b = false) : (M ||| 2 ^ b) - 2 ^ b = M := by
  have hp : 2 ^ b < 2 ^ 16 := Nat.pow_lt_pow_right (by omega) hb
  have h1 := or_and_sum 16 M (2 ^ b) (by omega) hp
  have h2 : M &&& 2 ^ b = 0 := by
    refine Nat.eq_of_testBit_eq fun i => ?_
    rw [Nat.testBit_and, Nat.testBit_two_pow, Nat.zero_testBit]
    by_cases hi : b = i
    · subst hi; simp [h]
    · simp [hi]
  omega
theorem ones_set {M b : Nat} (hM : M < 65536) (hb : b < 16) (h : M.testBit b = false) : (onesTo (M ||| 2 ^ b) 32).length = (onesTo M 32).length + 1 := by
  have hp : 2 ^ b < 2 ^ 16 := Nat.pow_lt_pow_right (by omega) hb
  have h1 := ones_clear (M := M ||| 2 ^ b) (Nat.or_lt_two_pow (n := 16) (by omega) hp) hb (by rw [Nat.testBit_or, Nat.testBit_two_pow]; simp)
  rw [set_sub hM hb h] at h1
  omega
theorem orL_cons (a : Nat) (l : List Nat) : orL (a :: l) = 2 ^ a ||| orL l := by
  refine Nat.eq_of_testBit_eq fun i => ?_
  rw [Nat.testBit_or, orL_bit, orL_bit, Nat.testBit_two_pow]
  by_cases h : a = i
  · subst h; simp
  · have : ¬ i = a := fun e => h e.symm
    simp [h, this]
theorem ones_or (L : List Nat) : ∀ M, M < 65536 → L.Nodup → (∀ b ∈ L, b < 16 ∧ M.testBit b = false) → (onesTo (M ||| orL L) 32).length = (onesTo M 32).length + L.length := by
  induction L with
  | nil => intro M _ _ _; rw [orL_nil, Nat.or_zero]; rfl
  | cons a l ih =>
    intro M hM hnd hb
    obtain ⟨ha, hMa⟩ := hb a List.mem_cons_self
    have hp : 2 ^ a < 2 ^ 16 := Nat.pow_lt_pow_right (by omega) ha
    obtain ⟨hna, hnl⟩ := List.nodup_cons.1 hnd
    rw [orL_cons, ← Nat.or_assoc, ih (M ||| 2 ^ a) (Nat.or_lt_two_pow (n := 16) (by omega) hp) hnl (fun b hbl => ?_), ones_set hM ha hMa, List.length_cons]
    · omega
    · obtain ⟨h1, h2⟩ := hb b (List.mem_cons_of_mem _ hbl)
      refine ⟨h1, ?_⟩
      have : ¬ a = b := fun e => hna (e ▸ hbl)
      rw [Nat.testBit_or, Nat.testBit_two_pow, h2]
      simp [this]
theorem class_size {K : Int} (h : IsClass K) : classV (sizeV K) = K := by
  rcases five h with rfl | rfl | rfl | rfl | rfl <;> decide
theorem taken_page {X : Nat} {K : Int} (h : PageX X K) : takenV X = ((onesTo (mpOf X) 32).length : Int) * sizeV K := by
  obtain ⟨hg, hk, hs⟩ := h
  rcases hs with h0 | ⟨h1, hc⟩
  · have hm := ((good_free (.inl (by omega : ((stOf X : Nat) : Int) = 0))).1 hg).2.1
    rw [hm, ones_none]
    unfold takenV
    rw [if_neg (fun h => by omega), if_neg (fun h => by omega)]
    simp
  · unfold takenV
    rw [if_pos ⟨hg, h1⟩, hc]
theorem good_zero : GoodX 0 := .inl ⟨.inl rfl, rfl, rfl, rfl⟩
theorem page_zero {K : Int} (h : IsClass K) : PageX 0 K := ⟨good_zero, h, .inl rfl⟩
theorem page_word {K : Int} {m : Nat} (h : CtlGood 1 K m 0) : PageX (packA 1 K m 0) K ∧ mpOf (packA 1 K m 0) = m := by
  obtain ⟨a, b, c, d⟩ := page_read h
  exact ⟨⟨a, (good_page.1 h).1, .inr ⟨b, c⟩⟩, d⟩
/-- A word whose page has the map m, also where m has no block. -/
theorem page_any {K : Int} {m : Nat} (hk : IsClass K) (hm : m < 2 ^ (perV K).toNat) : PageX (packA 1 K m 0) K ∧ mpOf (packA 1 K m 0) = m := by
  by_cases h0 : m = 0
  · subst h0
    rw [pack_none]
    exact ⟨page_zero hk, rfl⟩
  · exact page_word (good_page.2 ⟨hk, ⟨h0, hm⟩, rfl⟩)
/-- The word of a page is told by its class and its map. -/
theorem pack_back {X : Nat} {K : Int} (h : PageX X K) : packA 1 K (mpOf X) 0 = X := by
  obtain ⟨hg, hk, hs⟩ := h
  rcases hs with h0 | ⟨h1, hc⟩
  · obtain ⟨a, b, c⟩ := (good_free (.inl (by omega : ((stOf X : Nat) : Int) = 0))).1 hg
    have := repack X
    rw [b, pack_none]
    unfold packV at this
    omega
  · obtain ⟨a, b, c⟩ := page_class hg h1
    rw [hc] at a b
    rw [packA_good (good_page.2 ⟨a, b, rfl⟩)]
    have := repack X
    unfold packV at this ⊢
    omega
/-- A release, told: the word is good, the block is gone, the words and the room are counted. -/
theorem rel_law {X : Nat} {off : Int} (h : RelOk X off) : GoodX (relY X off) ∧ ¬ AtOk (relY X off) off ∧ takenV X - takenV (relY X off) = relS X off ∧ roomV X (classV (relS X off)) < roomV (relY X off) (classV (relS X off)) := by
  obtain ⟨b, q0, q1, q2, q3, q4, q5, q6, q7, q8⟩ := rel_facts h
  obtain ⟨v1, v2, _⟩ := rel_yes h
  have hg := h.1.1
  have h1 := h.1.2.1
  obtain ⟨hk, hmap, _⟩ := page_class hg h1
  have hP : PageX X (clOf X) := ⟨hg, hk, .inr ⟨h1, rfl⟩⟩
  have hm := mp_lt X
  have hlt : relM X off < 2 ^ (perV (clOf X)).toNat := Nat.lt_of_le_of_lt (by rw [q6]; exact Nat.sub_le _ _) hmap.2
  obtain ⟨hPy, hmy⟩ := page_any hk hlt
  have hones := ones_clear hm q0 q5
  rw [← q6] at hones
  rw [v1, v2, class_size hk]
  refine ⟨hPy.1, fun hA => ?_, ?_, ?_⟩
  · obtain ⟨_, s1, o0, o1, hb⟩ := hA
    have hc : (clOf (packA 1 (clOf X) (relM X off) 0) : Int) = (clOf X : Int) := by
      rcases hPy.2.2 with h0 | h0
      · omega
      · exact h0.2
    rw [hc, hmy, q6] at hb
    have hbb : (off / sizeV (clOf X)).toNat = b := q1
    rw [hbb, clear_bits hm q0 q5] at hb
    simp at hb
  · rw [taken_page hP, taken_page hPy, hmy]
    have : ((onesTo (mpOf X) 32).length : Int) = ((onesTo (relM X off) 32).length : Int) + 1 := by omega
    rw [this, Int.add_mul]
    omega
  · have r1 := room_page hP
    have r2 := room_page hPy
    rw [hmy] at r2
    omega

/-- A claim, told: the room and the words are counted. -/
theorem claim_law {X : Nat} {K n : Int} (h : ClaimOk X K n) : roomV (clY X K n) K + (clL X K n).length = roomV X K ∧ takenV (clY X K n) = takenV X + ((clL X K n).length : Int) * sizeV K ∧ PageX (clY X K n) K ∧ mpOf (clY X K n) = mpOf X ||| orL (clL X K n) := by
  obtain ⟨hP, e1, e2⟩ := cl_ok h
  obtain ⟨hPy, hmy⟩ := page_word (cl_good h)
  rw [← e2] at hPy hmy
  have hones := ones_or (clL X K n) (mpOf X) (mp_lt X) (clL_nodup X K n) (fun b hb => ⟨clL_lt hb, (clL_mem hb).2.2⟩)
  have r1 := room_page hP
  have r2 := room_page hPy
  rw [hmy] at r2
  refine ⟨by omega, ?_, hPy, hmy⟩
  rw [taken_page hP, taken_page hPy, hmy, hones, Int.natCast_add, Int.add_mul]
theorem blk_arith {K : Int} (hk : IsClass K) {b : Nat} (hb : b < (perV K).toNat) : (b : Int) * sizeV K / sizeV K = b ∧ ((b : Int) * sizeV K + sizeV K - 1) / sizeV K = b ∧ 0 ≤ (b : Int) * sizeV K ∧ (b : Int) * sizeV K + sizeV K - 1 < 16 ∧ (b : Int) * sizeV K < 16 ∧ 0 ≤ (b : Int) * sizeV K + sizeV K - 1 := by
  rcases five hk with rfl | rfl | rfl | rfl | rfl <;> simp [sizeV, perV] at hb ⊢ <;> omega
/-- A block that a claim got: it was free, and is allocated behind it. -/
theorem claim_block {X : Nat} {K n : Int} {b : Nat} (hb : b ∈ clL X K n) : ¬ AtOk X ((b : Int) * sizeV K) ∧ AtOk (clY X K n) ((b : Int) * sizeV K + sizeV K - 1) ∧ atV (clY X K n) ((b : Int) * sizeV K + sizeV K - 1) = (b : Int) * sizeV K ∧ szV (clY X K n) ((b : Int) * sizeV K + sizeV K - 1) = sizeV K := by
  obtain ⟨hc, hp, hfree⟩ := clL_mem hb
  obtain ⟨hP, e1, e2⟩ := cl_ok hc
  have hk := hP.2.1
  obtain ⟨a1, a2, a3, a4, a5, a6⟩ := blk_arith hk hp
  obtain ⟨g1, g2, g3, g4⟩ := page_read (cl_good hc)
  rw [← e2] at g1 g2 g3 g4
  have hA : AtOk (clY X K n) ((b : Int) * sizeV K + sizeV K - 1) := by
    refine ⟨g1, g2, a6, a4, ?_⟩
    rw [g3, a2, g4, Int.toNat_natCast, Nat.testBit_or, orL_bit]
    simp [hb]
  refine ⟨fun hx => ?_, hA, ?_, ?_⟩
  · obtain ⟨_, s1, _, _, ht⟩ := hx
    have hcl : (clOf X : Int) = K := by
      rcases hP.2.2 with h0 | h0
      · omega
      · exact h0.2
    rw [hcl, a1, Int.toNat_natCast, hfree] at ht
    simp at ht
  · rw [(at_yes hA).1, g3, a2]
  · rw [(at_yes hA).2.1, g3]
/-- One block of the claim is released: the word of the rest. -/
theorem rel_step {M : Nat} {K : Int} {R : List Nat} (hk : IsClass K) (hM : M < 2 ^ (perV K).toNat) (hnd : R.Nodup) (hR : ∀ b ∈ R, b < (perV K).toNat ∧ M.testBit b = false) {i : Nat} (hi : i < R.length) :
    RelOk (packA 1 K (M ||| orL R) 0) ((R[i] : Int) * sizeV K) ∧ relY (packA 1 K (M ||| orL R) 0) ((R[i] : Int) * sizeV K) = packA 1 K (M ||| orL (R.eraseIdx i)) 0 ∧ relS (packA 1 K (M ||| orL R) 0) ((R[i] : Int) * sizeV K) = sizeV K := by
  have hmem : R[i] ∈ R := List.getElem_mem hi
  obtain ⟨hp, hfree⟩ := hR _ hmem
  have hper := per_bounds hk
  obtain ⟨a1, a2, a3, a4, a5, a6⟩ := blk_arith hk hp
  have hbit : (M ||| orL R).testBit R[i] = true := by rw [Nat.testBit_or, orL_bit]; simp
  have hlt : M ||| orL R < 2 ^ (perV K).toNat := Nat.or_lt_two_pow hM (orL_bound fun b hb => (hR b hb).1)
  have h16 : M ||| orL R < 65536 := Nat.lt_of_lt_of_le hlt (lim_le hk)
  have hgood : CtlGood 1 K (M ||| orL R) 0 := good_page.2 ⟨hk, ⟨fun h0 => by rw [h0] at hbit; simp at hbit, hlt⟩, rfl⟩
  obtain ⟨g1, g2, g3, g4⟩ := page_read hgood
  have hA : AtOk (packA 1 K (M ||| orL R) 0) ((R[i] : Int) * sizeV K) := ⟨g1, g2, a3, a5, by rw [g3, a1, g4, Int.toNat_natCast]; exact hbit⟩
  have hRel : RelOk (packA 1 K (M ||| orL R) 0) ((R[i] : Int) * sizeV K) := ⟨hA, by rw [(at_yes hA).1, g3, a1]⟩
  refine ⟨hRel, ?_, ?_⟩
  · rw [(rel_yes hRel).1, g3]
    congr 1
    unfold relM blkN
    rw [g4, g3, a1, Int.toNat_natCast]
    refine Nat.eq_of_testBit_eq fun j => ?_
    rw [clear_bits h16 (by omega) hbit, Nat.testBit_or, Nat.testBit_or, orL_bit, orL_bit]
    have hmemE : j ∈ R.eraseIdx i ↔ j ∈ R ∧ j ≠ R[i] := by
      rw [List.mem_eraseIdx_iff_getElem]
      constructor
      · rintro ⟨k, hk', hne, rfl⟩
        exact ⟨List.getElem_mem hk', fun e => hne ((List.getElem_inj hnd).1 e)⟩
      · rintro ⟨hm, hne⟩
        obtain ⟨k, hk', rfl⟩ := List.getElem_of_mem hm
        exact ⟨k, hk', fun e => hne (by subst e; rfl), rfl⟩
    by_cases hj : j = R[i]
    · subst hj
      simp [hmemE, hfree]
    · simp [hmemE, hj]
  · rw [(rel_yes hRel).2.1, g3]

end Go.Proofs.Ytomcdfaomfkmjaa
