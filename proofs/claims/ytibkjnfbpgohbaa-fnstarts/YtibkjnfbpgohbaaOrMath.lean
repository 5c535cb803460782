/- Plain arithmetic: the word of a list of bits ('orL'), reading a list of bits one by one ('bitsG'). -/
import Derived.Test.YtibkjnfbpgohbaaSBits
namespace Go.Proofs.Ytibkjnfbpgohbaa

/-- The word with these bits. -/
def orL (l : List Nat) : Nat := l.foldl (fun a k => a ||| 2 ^ k) 0
theorem orL_nil : orL [] = 0 := rfl
theorem orL_snoc (l : List Nat) (k : Nat) : orL (l ++ [k]) = orL l ||| 2 ^ k := by simp [orL]
theorem or_fold_bit (l : List Nat) : ∀ a j : Nat, (l.foldl (fun a k => a ||| 2 ^ k) a).testBit j = (a.testBit j || decide (j ∈ l)) := by
  induction l with
  | nil => intro a j; simp
  | cons k l ih =>
    intro a j
    rw [List.foldl_cons, ih, Nat.testBit_or, Nat.testBit_two_pow]
    by_cases h : k = j
    · subst h; simp
    · have h' : ¬ j = k := fun e => h e.symm
      simp [h, h']
theorem orL_bit (l : List Nat) (j : Nat) : (orL l).testBit j = decide (j ∈ l) := by
  rw [orL, or_fold_bit]; simp
theorem orL_lt {l : List Nat} (h : ∀ k ∈ l, k < 32) : orL l < 4294967296 := by
  show orL l < 2 ^ 32
  refine Nat.lt_pow_two_of_testBit _ fun j hj => ?_
  rw [orL_bit]
  exact decide_eq_false fun e => by have := h j e; omega
theorem mem_ones {X m j : Nat} : j ∈ onesTo X m ↔ j < m ∧ X.testBit j = true := by simp [onesTo]
theorem orL_ones {X : Nat} (h : X < 4294967296) : orL (onesTo X 32) = X := by
  refine Nat.eq_of_testBit_eq fun j => ?_
  rw [orL_bit]
  by_cases h1 : j < 32
  · by_cases h2 : X.testBit j = true
    · rw [h2]; exact decide_eq_true (mem_ones.2 ⟨h1, h2⟩)
    · have h3 : X.testBit j = false := by simpa using h2
      rw [h3]; exact decide_eq_false fun e => h2 (mem_ones.1 e).2
  · have h3 : X.testBit j = false := Nat.testBit_lt_two_pow (Nat.lt_of_lt_of_le h (Nat.pow_le_pow_right (n := 2) (by omega) (show 32 ≤ j by omega)))
    rw [h3]; exact decide_eq_false fun e => h1 (mem_ones.1 e).1
theorem ones_nodup (X m : Nat) : (onesTo X m).Nodup := by unfold onesTo; exact List.Sublist.nodup List.filter_sublist List.nodup_range
theorem ones_orL {l : List Nat} {X : Nat} (hX : X < 4294967296) (h : ∀ j, j < 32 → (X.testBit j = true ↔ j ∈ l)) (h2 : ∀ j ∈ l, j < 32) : orL l = X := by
  rw [← orL_ones hX]
  refine Nat.eq_of_testBit_eq fun j => ?_
  rw [orL_bit, orL_bit]
  refine decide_eq_decide.2 ⟨fun e => mem_ones.2 ⟨h2 j e, (h j (h2 j e)).2 e⟩, fun e => (h j (mem_ones.1 e).1).1 (mem_ones.1 e).2⟩
theorem ones_take_lt (X n : Nat) : ∀ k ∈ (onesTo X 32).take n, k < 32 := fun _ h => (mem_ones.1 (List.mem_of_mem_take h)).1

/-- A list of numbers read one by one as bits onto a: nothing where one is out of 0..31 or comes twice. -/
def bitsG : Nat → List Int → Option Nat
  | a, [] => some a
  | a, k :: l => if k < 0 ∨ 31 < k ∨ a.testBit k.toNat = true then none else bitsG (a ||| 2 ^ k.toNat) l
theorem bitsG_ok : ∀ (l : List Nat) (a : Nat), (∀ k ∈ l, k < 32 ∧ a.testBit k = false) → l.Nodup → bitsG a (ints l) = some (l.foldl (fun a k => a ||| 2 ^ k) a) := by
  intro l
  induction l with
  | nil => intro a _ _; rfl
  | cons k l ih =>
    intro a h hn
    have hk := h k (by simp)
    rw [List.nodup_cons] at hn
    show bitsG a ((k : Int) :: ints l) = _
    rw [bitsG, if_neg (by
      rintro (h1 | h1 | h1)
      · omega
      · omega
      · rw [Int.toNat_natCast, hk.2] at h1; cases h1)]
    rw [Int.toNat_natCast, List.foldl_cons]
    refine ih _ (fun j hj => ⟨(h j (by simp [hj])).1, ?_⟩) hn.2
    rw [Nat.testBit_or, (h j (by simp [hj])).2, Nat.testBit_two_pow]
    have : ¬ k = j := fun e => hn.1 (e ▸ hj)
    simp [this]
theorem bitsG_take (X n : Nat) : bitsG 0 (ints ((onesTo X 32).take n)) = some (orL ((onesTo X 32).take n)) :=
  bitsG_ok _ 0 (fun k hk => ⟨ones_take_lt X n k hk, Nat.zero_testBit k⟩) (List.Sublist.nodup (List.take_sublist _ _) (ones_nodup X 32))
theorem bitsG_next {a : Nat} {l : List Int} {i : Nat} (h : i < l.length) : bitsG a (l.drop i) = if l[i]?.getD 0 < 0 ∨ 31 < l[i]?.getD 0 ∨ a.testBit (l[i]?.getD 0).toNat = true then none else bitsG (a ||| 2 ^ (l[i]?.getD 0).toNat) (l.drop (i + 1)) := by
  rw [List.drop_eq_getElem_cons h, bitsG]
  simp [h]
theorem bitsG_end {a : Nat} {l : List Int} {i : Nat} (h : l.length ≤ i) : bitsG a (l.drop i) = some a := by
  rw [List.drop_eq_nil_of_le h, bitsG]
theorem bitsG_lt : ∀ (l : List Int) (a y : Nat), a < 4294967296 → bitsG a l = some y → y < 4294967296 := by
  intro l
  induction l with
  | nil => intro a y ha h; simp [bitsG] at h; omega
  | cons k l ih =>
    intro a y ha h
    rw [bitsG] at h
    split at h
    · cases h
    · rename_i h1
      have h2 : 0 ≤ k ∧ k ≤ 31 := by omega
      refine ih _ y ?_ h
      exact Nat.or_lt_two_pow (n := 32) (by omega) (Nat.pow_lt_pow_right (by omega) (by omega))

/-- The complement below a width. -/
def freeB (X m : Nat) : Nat := (4294967295 - X) &&& (2 ^ m - 1)
theorem free_bit {X m j : Nat} (hX : X < 4294967296) (hm : m ≤ 32) : (freeB X m).testBit j = (decide (j < m) && !X.testBit j) := by
  unfold freeB
  have e : 4294967295 - X = 2 ^ 32 - (X + 1) := by omega
  rw [Nat.testBit_and, e, Nat.testBit_two_pow_sub_succ (by omega), Nat.testBit_two_pow_sub_one]
  by_cases h : j < m
  · have : j < 32 := by omega
    simp [h, this]
  · simp [h]
theorem free_lt {X m : Nat} : freeB X m < 4294967296 := Nat.lt_of_le_of_lt Nat.and_le_left (by omega)
/-- The free bits below k. -/
def freeTo (X k : Nat) : List Nat := (List.range k).filter (fun j => !X.testBit j)
theorem freeTo_hit {X m : Nat} (h : X / 2 ^ m % 2 = 0) : freeTo X (m + 1) = freeTo X m ++ [m] := by
  have : X.testBit m = false := by rw [Nat.testBit_eq_decide_div_mod_eq]; simp [h]
  simp [freeTo, List.range_succ, this]
theorem freeTo_miss {X m : Nat} (h : X / 2 ^ m % 2 = 1) : freeTo X (m + 1) = freeTo X m := by
  have : X.testBit m = true := by rw [Nat.testBit_eq_decide_div_mod_eq]; simp [h]
  simp [freeTo, List.range_succ, this]
theorem freeTo_len (X m : Nat) : (freeTo X m).length ≤ m := by
  have := List.length_filter_le (fun k => !X.testBit k) (List.range m)
  simpa [freeTo] using this
theorem free_ones {X m : Nat} (hX : X < 4294967296) (hm : m ≤ 32) : onesTo (freeB X m) 32 = freeTo X m := by
  obtain ⟨d, hd⟩ : ∃ d, 32 = m + d := ⟨32 - m, by omega⟩
  unfold onesTo freeTo
  rw [hd, List.range_add, List.filter_append]
  have h1 : (List.range m).filter (fun k => (freeB X m).testBit k) = (List.range m).filter (fun j => !X.testBit j) := by
    apply List.filter_congr
    intro j hj
    rw [free_bit hX hm]
    simp at hj
    simp [hj]
  have h2 : ((List.range d).map (m + ·)).filter (fun k => (freeB X m).testBit k) = [] := by
    rw [List.filter_eq_nil_iff]
    intro j hj
    obtain ⟨i, _, rfl⟩ := List.mem_map.1 hj
    rw [free_bit hX hm]
    have : ¬ m + i < m := by omega
    simp [this]
  rw [h1, h2, List.append_nil]

end Go.Proofs.Ytibkjnfbpgohbaa
