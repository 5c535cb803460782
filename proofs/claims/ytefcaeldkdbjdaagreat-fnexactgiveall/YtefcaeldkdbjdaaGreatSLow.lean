/- The contracts of the model's BitList, Ones, Lowest, Highest and of its list of free bits. -/
/- Plain arithmetic: the word of a list of bits ('orL'), reading a list of bits one by one ('bitsG'). -/
/- The contracts of the model's BitsOf, MaskOf, TakeLow and FreeLow. -/
/- The contracts of the model's MaskOf, TakeLow and FreeLow. -/
import Derived.Test.YtefcaeldkdbjdaaGreatBitsW
/- Plain arithmetic of the set bits of a number: 'onesTo X m', the set bits of X below m in ascending order. -/
namespace Go.Proofs.YtefcaeldkdbjdaaGreat

/-- The numbers of the set bits of X below m, in ascending order. -/
def onesTo (X m : Nat) : List Nat := (List.range m).filter (fun k => X.testBit k)

theorem onesTo_zero (X : Nat) : onesTo X 0 = [] := rfl
theorem onesTo_hit {X m : Nat} (h : X / 2 ^ m % 2 = 1) : onesTo X (m + 1) = onesTo X m ++ [m] := by
  have : X.testBit m = true := by rw [Nat.testBit_eq_decide_div_mod_eq]; simp [h]
  simp [onesTo, List.range_succ, this]
theorem onesTo_miss {X m : Nat} (h : ¬ X / 2 ^ m % 2 = 1) : onesTo X (m + 1) = onesTo X m := by
  have : X.testBit m = false := by rw [Nat.testBit_eq_decide_div_mod_eq]; simp [h]
  simp [onesTo, List.range_succ, this]
theorem onesTo_lt {X m k : Nat} (h : k ∈ onesTo X m) : k < m := by
  simp [onesTo] at h; exact h.1
theorem onesTo_len (X m : Nat) : (onesTo X m).length ≤ m := by
  have := List.length_filter_le (fun k => X.testBit k) (List.range m)
  simpa [onesTo] using this
/-- Beyond the highest set bit nothing comes. -/
theorem onesTo_stop {X k : Nat} (h : X / 2 ^ k = 0) : ∀ m, k ≤ m → onesTo X m = onesTo X k := by
  intro m hm
  induction m with
  | zero => obtain rfl : k = 0 := by omega
            rfl
  | succ m ih =>
    by_cases e : k = m + 1
    · rw [e]
    · rw [onesTo_miss, ih (by omega)]
      have h1 : X / 2 ^ m = 0 := by
        have : 2 ^ k ≤ 2 ^ m := Nat.pow_le_pow_right (by omega) (by omega)
        rw [Nat.div_eq_zero_iff] at h ⊢
        rcases h with h | h
        · have : 0 < 2 ^ k := Nat.pow_pos (by omega)
          omega
        · exact .inr (by omega)
      rw [h1]; simp
theorem onesTo_pre {X k m : Nat} (h : k ≤ m) : onesTo X k <+: onesTo X m := by
  unfold onesTo
  refine List.IsPrefix.filter _ ?_
  obtain ⟨d, rfl⟩ : ∃ d, m = k + d := ⟨m - k, by omega⟩
  rw [List.range_add]
  exact List.prefix_append _ _

end Go.Proofs.YtefcaeldkdbjdaaGreat

namespace Go.Proofs.YtefcaeldkdbjdaaGreat
open Go.RowKit

/-- Natural numbers as Go's ints. -/
def ints (l : List Nat) : List Int := l.map (fun k : Nat => (k : Int))
theorem ints_len (l : List Nat) : (ints l).length = l.length := by simp [ints]
theorem ints_snoc (l : List Nat) (k : Nat) : ints (l ++ [k]) = ints l ++ [(k : Int)] := by simp [ints]
theorem ints_at (l : List Nat) {k : Nat} (h : k < l.length) : (ints l)[k]?.getD 0 = (l[k] : Int) := by simp [ints, h]

/-- 'append(s, x)' onto a slice of ints that the call owns, and what it leaves alone. -/
theorem wpList_push_far {w : World} {ops : Array Oper} {rest : List Oper} {o : Oper} {a : Act} {Q : Exit → Act → World → Prop} (hgd : o.guard = none) (s x : Operand)
    (ho : o.op = .call { callee := .builtin .append, args := #[s, x], argTypes := #[29, 29] })
    (b0 n c : Nat) (A : Option Addr) (zs : List Int) (z : Int) (hs : a.eval s = .slice A n c) (hx : a.eval x = .slice (some ⟨w.heap.size, 0, none⟩) 1 1)
    (hO : OwnK 3 .i64 w b0 A n c zs) (hn : n ≤ 1000000) (hb : b0 ≤ w.heap.size)
    (h : ∀ A' c' w', Hid (OwnK 3 .i64 w' b0 A' (n + 1) c' (zs ++ [z])) → Hid (w.grownBy w' (Value.slice A n c).ownBlock) → Hid (∀ g, (Value.slice A' (n + 1) c').ownBlock = some g → (Value.slice A n c).ownBlock = some g ∨ w.heap.size ≤ g) → wpList Tryz.prog ops Q rest (a.put o.dst (.slice A' (n + 1) c')) w') :
    wpList Tryz.prog ops Q (o :: rest) a (w.alloc (.cells #[.int .i64 z] 3)) := by
  obtain ⟨i0, hi, hz0, hz1, hz2⟩ := info_parts info_int
  refine wpList_append_own_at _ hgd s x 29 ho b0 3 i0 (.int .i64 0) 1 8 Tryz.underlying29 hi hz0 hz1 hz2 rfl (by omega) (.slice A n c) n _ hs (hO.alloc _) ⟨w.heap.size, 0, none⟩ 1 1 [.int .i64 z] hx rfl ?_ (by simp [Value.oneCell']) (by unfold maxLen; omega) (by omega) (by simp; omega) ?_
  · intro j u hj
    match j, hj with
    | 0, hj => simp at hj; subst hj; simp [Addr.add]
  · intro v' w' h1 h2 _ h4
    have h3 : w'.ownsRow b0 3 1 v' (n + 1) ((zs ++ [z]).map (Value.int .i64)) := by simpa using h1
    obtain ⟨A', c', rfl, h5⟩ := OwnK.shape h3
    refine h A' c' w' h5 ?_ ?_
    · exact ⟨h2.os, h2.tape, h2.output, Nat.le_trans (by simp) h2.size, fun i hi hne => (h2.block i (by simp; omega) hne).trans (Below.heap_alloc w _ i hi)⟩
    · intro g hg
      rcases h4 with h4 | h4
      · exact .inl (h4 ▸ hg)
      · rw [hg] at h4
        refine .inr ?_
        injection h4 with h4
        simp at h4
        omega

set_option maxHeartbeats 1000000 in
theorem sBitList_any (X : Nat) (w : World) (hX : X < 4294967296) :
    Calls Tryz.prog 36 #[.int .u32 (X : Int)] w fun e w' => ∃ A c, e = .returned (.slice A (onesTo X 32).length c) ∧ OwnK 3 .i64 w' w.heap.size A (onesTo X 32).length c (ints (onesTo X 32)) ∧ Below w.heap.size w w' := by
  have HX := Lib.hid hX
  clear hX
  go_enter Tryz.func36, Tryz.ntmps36
  go_wp2_with fail
  refine (bits_any X _ HX.out).mono ?_
  rintro e w1 ⟨gb, cb, rfl, hob, hb1⟩
  have OB := Lib.hid hob
  have UB := OwnK.range hob gb rfl
  have BB : Hid (Below w.heap.size w w1) := (by repeat (first | exact Below.refl _ _ | refine Below.drew ?_ | refine Below.setCell ?_ (by first | omega | (simp; done) | (simp; omega) | (simp [*]; done)) _ | refine Below.alloc ?_ (by first | omega | (simp; done) | (simp; omega) | (simp [*]; done)) _ | refine Below.trans ?_ (Below.mono (hb1) (by first | omega | (simp; done) | (simp; omega) | (simp [*]; done)))))
  have OO : Hid (OwnK 3 .i64 w1 w.heap.size (some ⟨w.heap.size, 0, none⟩) 0 0 (ints (onesTo X 0))) := OwnK.below (World.ownsRow_made w #[] 0 (Nat.le_refl _) (by unfold maxLen; omega) rfl) hb1
  simp only [World.size_alloc] at UB
  have z1 := hb1.size
  simp only [World.size_alloc] at z1
  clear hob hb1
  go_wp2
  go_loopw [3, 5] (fun v i wr => ∃ (k n : Nat) (A : Option Addr) (c : Nat), k ≤ 32 ∧ i = .int .i64 k ∧ n = (onesTo X k).length ∧ v = .slice A n c ∧ Hid (OwnK 3 .i64 wr w.heap.size A n c (ints (onesTo X k))) ∧ Hid (OwnK 3 .i64 wr w.heap.size (some ⟨gb, 0, none⟩) 32 cb (bitL X 32)) ∧ Hid (∀ g, (Value.slice A n c).ownBlock = some g → g ≠ gb) ∧ Hid (Below w.heap.size w wr) ∧ gb < wr.heap.size) (fun _ i _ => 32 - (intOf i).toNat)
  case atStart => exact ⟨0, 0, _, _, by omega, rfl, rfl, rfl, OO, OB.out.from_ (by simp), fun g h => by (have h2 : w.heap.size = g := by injection h); omega, BB, by omega⟩
  case round =>
    obtain ⟨k, m, A, c, hk, rfl, hm, rfl, HO, HG, HNE, HB, hgb⟩ := hrel
    clear OO OB BB
    have hs : w.heap.size ≤ wr.heap.size := HB.out.size
    have HM := Lib.hid hm
    have hm0 : m ≤ 1000 := by have := onesTo_len X k; omega
    clear hm
    by_cases hlt : k < 32
    · have c2 := HG.out.cell rfl hlt
      rw [bitL_at X 32 k hlt] at c2
      by_cases h1 : X / 2 ^ k % 2 = 1
      · rw [h1] at c2
        have HN := Lib.hid (onesTo_hit h1)
        clear h1
        go_wp2_with (at_builtin; refine wpList_push_far rfl (.tmp 18) (.tmp 20) rfl w.heap.size m c A (ints (onesTo X k)) _ rfl rfl HO.out (by omega) hs ?_)
        intro A' c' w2 O2 G2 N2
        have NN : Hid (∀ g, (Value.slice A' (m + 1) c').ownBlock = some g → g ≠ gb) := fun g hg => by
          rcases N2.out g hg with h | h
          · exact HNE.out g h
          · omega
        have OG : Hid (OwnK 3 .i64 w2 w.heap.size (some ⟨gb, 0, none⟩) 32 cb (bitL X 32)) := HG.out.far G2.out (fun g hg e => by
          injection hg with hg
          exact HNE.out g e hg.symm)
        have BG : Hid (Below w.heap.size w w2) := HB.out.grown G2.out hs (fun g hg => (OwnK.range HO.out g hg).1)
        have zz := G2.out.size
        clear c2
        go_wp2
        go_roundw
        case rel => exact ⟨k + 1, m + 1, A', c', by omega, by go_num, by rw [HN.out, HM.out]; simp, rfl, by rw [HN.out, ints_snoc]; exact O2, OG, NN, BG, by omega⟩
        case measure => simp [intOf]; omega
      · have h0 : X / 2 ^ k % 2 = 0 := by omega
        rw [h0] at c2
        have HN := Lib.hid (onesTo_miss h1)
        clear h1 h0
        go_wp2
        go_roundw
        case rel => exact ⟨k + 1, m, A, c, by omega, by go_num, by rw [HN.out, HM.out], rfl, by rw [HN.out]; exact HO, HG, HNE, HB, hgb⟩
        case measure => simp [intOf]; omega
    · obtain rfl : k = 32 := by omega
      go_wp2
      go_ret
      have := HM.out
      subst this
      exact ⟨A, c, rfl, HO.out, HB.out⟩

/-- The lowest and the highest of a list in ascending order; -1 where there is none. -/
def lowOf (l : List Nat) : Int := (l.head?.map (fun k => (k : Int))).getD (-1)
def highOf (l : List Nat) : Int := (l.getLast?.map (fun k => (k : Int))).getD (-1)
theorem highOf_snoc (l : List Nat) (k : Nat) : highOf (l ++ [k]) = k := by simp [highOf]
theorem lowOf_pre {p l : List Nat} {k : Nat} (h : p <+: l) (e : p = [k]) : lowOf l = k := by
  obtain ⟨q, rfl⟩ := h
  subst e
  rfl
theorem low_at {l : List Nat} (h : 0 < l.length) : (ints l)[0]?.getD 0 = lowOf l := by
  cases l with
  | nil => simp at h
  | cons a l => rfl
theorem high_at {l : List Nat} (h : 0 < l.length) : (ints l)[l.length - 1]?.getD 0 = highOf l := by
  have h1 : l.length - 1 < l.length := by omega
  rw [ints_at l h1, highOf, List.getLast?_eq_getElem?, List.getElem?_eq_getElem h1]
  rfl
theorem low_nil {l : List Nat} (h : l.length = 0) : lowOf l = -1 ∧ highOf l = -1 := by
  obtain rfl : l = [] := List.eq_nil_of_length_eq_zero h
  exact ⟨rfl, rfl⟩

set_option maxHeartbeats 400000 in
theorem sOnes_any (X : Nat) (w : World) (hX : X < 4294967296) :
    Calls Tryz.prog 70 #[.int .u32 (X : Int)] w fun e w' => e = .returned (.int .i64 ((onesTo X 32).length : Int)) ∧ Below w.heap.size w w' := by
  have HC := Lib.hid (sBitList_any X w hX)
  clear hX
  go_enter Tryz.func70, Tryz.ntmps70
  go_wp2_with fail
  refine HC.out.mono ?_
  rintro e w1 ⟨A, c, rfl, ho, hb⟩
  have HB := Lib.hid hb
  clear ho hb
  go_wp2
  go_ret
  exact ⟨rfl, HB.out⟩

set_option maxHeartbeats 400000 in
theorem sHighest_any (X : Nat) (w : World) (hX : X < 4294967296) :
    Calls Tryz.prog 68 #[.int .u32 (X : Int)] w fun e w' => e = .returned (.int .i64 (highOf (onesTo X 32))) ∧ Below w.heap.size w w' := by
  have HC := Lib.hid (sBitList_any X w hX)
  clear hX
  generalize hl : onesTo X 32 = l at *
  have hn : l.length ≤ 32 := by rw [← hl]; exact onesTo_len X 32
  clear hl
  go_enter Tryz.func68, Tryz.ntmps68
  go_wp2_with fail
  refine HC.out.mono ?_
  rintro e w1 ⟨A, c, rfl, ho, hb⟩
  have HB := Lib.hid hb
  clear hb
  by_cases h0 : l.length = 0
  · obtain ⟨_, e1⟩ := low_nil h0
    have HE := Lib.hid e1
    clear e1 ho
    rw [h0]
    go_wp2
    go_ret
    exact ⟨by rw [HE.out]; rfl, HB.out⟩
  · obtain ⟨g, rfl, _, _⟩ := ho.form (by omega)
    have c1 := ho.cell rfl (show l.length - 1 < l.length by omega)
    rw [high_at (by omega)] at c1
    obtain ⟨m, hm⟩ : ∃ m, l.length = m + 1 := ⟨l.length - 1, by omega⟩
    rw [hm] at c1 hn ⊢
    have h1 : ¬ ((m + 1 : Nat) : Int) = 0 := by omega
    clear ho h0 hm
    rw [Nat.add_sub_cancel] at c1
    go_wp2
    go_ret
    exact ⟨rfl, HB.out⟩

end Go.Proofs.YtefcaeldkdbjdaaGreat

namespace Go.Proofs.YtefcaeldkdbjdaaGreat

/-- The word with these bits. -/
def orL (l : List Nat) : Nat := l.foldl (fun a k => a ||| 2 ^ k) 0
theorem orL_nil : orL [] = 0 := rfl
theorem orL_snoc (l : List Nat) (k : Nat) : orL (l ++ [k]) = orL l ||| 2 ^ k := by simp [orL]
theorem or_fold_bit (l : List Nat) : ∀ a j : Nat, (l.foldl (fun a k => a ||| 2 ^ k) a).testBit j = (a.testBit j || decide (j ∈ l)) := by
  induction l with
  | nil => intro a j; simp
  | cons k l ih =>
    intro a j
    rw [List.foldl_cons, ih, Nat.testBit_or, Nat.testBit_two_pow]
    by_cases h : k = j
    · subst h; simp
    · have h' : ¬ j = k := fun e => h e.symm
      simp [h, h']
theorem orL_bit (l : List Nat) (j : Nat) : (orL l).testBit j = decide (j ∈ l) := by
  rw [orL, or_fold_bit]; simp
theorem orL_lt {l : List Nat} (h : ∀ k ∈ l, k < 32) : orL l < 4294967296 := by
  show orL l < 2 ^ 32
  refine Nat.lt_pow_two_of_testBit _ fun j hj => ?_
  rw [orL_bit]
  exact decide_eq_false fun e => by have := h j e; omega
theorem mem_ones {X m j : Nat} : j ∈ onesTo X m ↔ j < m ∧ X.testBit j = true := by simp [onesTo]
theorem orL_ones {X : Nat} (h : X < 4294967296) : orL (onesTo X 32) = X := by
  refine Nat.eq_of_testBit_eq fun j => ?_
  rw [orL_bit]
  by_cases h1 : j < 32
  · by_cases h2 : X.testBit j = true
    · rw [h2]; exact decide_eq_true (mem_ones.2 ⟨h1, h2⟩)
    · have h3 : X.testBit j = false := by simpa using h2
      rw [h3]; exact decide_eq_false fun e => h2 (mem_ones.1 e).2
  · have h3 : X.testBit j = false := Nat.testBit_lt_two_pow (Nat.lt_of_lt_of_le h (Nat.pow_le_pow_right (n := 2) (by omega) (show 32 ≤ j by omega)))
    rw [h3]; exact decide_eq_false fun e => h1 (mem_ones.1 e).1
theorem ones_nodup (X m : Nat) : (onesTo X m).Nodup := by unfold onesTo; exact List.Sublist.nodup List.filter_sublist List.nodup_range
theorem ones_orL {l : List Nat} {X : Nat} (hX : X < 4294967296) (h : ∀ j, j < 32 → (X.testBit j = true ↔ j ∈ l)) (h2 : ∀ j ∈ l, j < 32) : orL l = X := by
  rw [← orL_ones hX]
  refine Nat.eq_of_testBit_eq fun j => ?_
  rw [orL_bit, orL_bit]
  refine decide_eq_decide.2 ⟨fun e => mem_ones.2 ⟨h2 j e, (h j (h2 j e)).2 e⟩, fun e => (h j (mem_ones.1 e).1).1 (mem_ones.1 e).2⟩
theorem ones_take_lt (X n : Nat) : ∀ k ∈ (onesTo X 32).take n, k < 32 := fun _ h => (mem_ones.1 (List.mem_of_mem_take h)).1

/-- A list of numbers read one by one as bits onto a: nothing where one is out of 0..31 or comes twice. -/
def bitsG : Nat → List Int → Option Nat
  | a, [] => some a
  | a, k :: l => if k < 0 ∨ 31 < k ∨ a.testBit k.toNat = true then none else bitsG (a ||| 2 ^ k.toNat) l
theorem bitsG_ok : ∀ (l : List Nat) (a : Nat), (∀ k ∈ l, k < 32 ∧ a.testBit k = false) → l.Nodup → bitsG a (ints l) = some (l.foldl (fun a k => a ||| 2 ^ k) a) := by
  intro l
  induction l with
  | nil => intro a _ _; rfl
  | cons k l ih =>
    intro a h hn
    have hk := h k (by simp)
    rw [List.nodup_cons] at hn
    show bitsG a ((k : Int) :: ints l) = _
    rw [bitsG, if_neg (by
      rintro (h1 | h1 | h1)
      · omega
      · omega
      · rw [Int.toNat_natCast, hk.2] at h1; cases h1)]
    rw [Int.toNat_natCast, List.foldl_cons]
    refine ih _ (fun j hj => ⟨(h j (by simp [hj])).1, ?_⟩) hn.2
    rw [Nat.testBit_or, (h j (by simp [hj])).2, Nat.testBit_two_pow]
    have : ¬ k = j := fun e => hn.1 (e ▸ hj)
    simp [this]
theorem bitsG_take (X n : Nat) : bitsG 0 (ints ((onesTo X 32).take n)) = some (orL ((onesTo X 32).take n)) :=
  bitsG_ok _ 0 (fun k hk => ⟨ones_take_lt X n k hk, Nat.zero_testBit k⟩) (List.Sublist.nodup (List.take_sublist _ _) (ones_nodup X 32))
theorem bitsG_next {a : Nat} {l : List Int} {i : Nat} (h : i < l.length) : bitsG a (l.drop i) = if l[i]?.getD 0 < 0 ∨ 31 < l[i]?.getD 0 ∨ a.testBit (l[i]?.getD 0).toNat = true then none else bitsG (a ||| 2 ^ (l[i]?.getD 0).toNat) (l.drop (i + 1)) := by
  rw [List.drop_eq_getElem_cons h, bitsG]
  simp [h]
theorem bitsG_end {a : Nat} {l : List Int} {i : Nat} (h : l.length ≤ i) : bitsG a (l.drop i) = some a := by
  rw [List.drop_eq_nil_of_le h, bitsG]
theorem bitsG_lt : ∀ (l : List Int) (a y : Nat), a < 4294967296 → bitsG a l = some y → y < 4294967296 := by
  intro l
  induction l with
  | nil => intro a y ha h; simp [bitsG] at h; omega
  | cons k l ih =>
    intro a y ha h
    rw [bitsG] at h
    split at h
    · cases h
    · rename_i h1
      have h2 : 0 ≤ k ∧ k ≤ 31 := by omega
      refine ih _ y ?_ h
      exact Nat.or_lt_two_pow (n := 32) (by omega) (Nat.pow_lt_pow_right (by omega) (by omega))

/-- The complement below a width. -/
def freeB (X m : Nat) : Nat := (4294967295 - X) &&& (2 ^ m - 1)
theorem free_bit {X m j : Nat} (hX : X < 4294967296) (hm : m ≤ 32) : (freeB X m).testBit j = (decide (j < m) && !X.testBit j) := by
  unfold freeB
  have e : 4294967295 - X = 2 ^ 32 - (X + 1) := by omega
  rw [Nat.testBit_and, e, Nat.testBit_two_pow_sub_succ (by omega), Nat.testBit_two_pow_sub_one]
  by_cases h : j < m
  · have : j < 32 := by omega
    simp [h, this]
  · simp [h]
theorem free_lt {X m : Nat} : freeB X m < 4294967296 := Nat.lt_of_le_of_lt Nat.and_le_left (by omega)
/-- The free bits below k. -/
def freeTo (X k : Nat) : List Nat := (List.range k).filter (fun j => !X.testBit j)
theorem freeTo_hit {X m : Nat} (h : X / 2 ^ m % 2 = 0) : freeTo X (m + 1) = freeTo X m ++ [m] := by
  have : X.testBit m = false := by rw [Nat.testBit_eq_decide_div_mod_eq]; simp [h]
  simp [freeTo, List.range_succ, this]
theorem freeTo_miss {X m : Nat} (h : X / 2 ^ m % 2 = 1) : freeTo X (m + 1) = freeTo X m := by
  have : X.testBit m = true := by rw [Nat.testBit_eq_decide_div_mod_eq]; simp [h]
  simp [freeTo, List.range_succ, this]
theorem freeTo_len (X m : Nat) : (freeTo X m).length ≤ m := by
  have := List.length_filter_le (fun k => !X.testBit k) (List.range m)
  simpa [freeTo] using this
theorem free_ones {X m : Nat} (hX : X < 4294967296) (hm : m ≤ 32) : onesTo (freeB X m) 32 = freeTo X m := by
  obtain ⟨d, hd⟩ : ∃ d, 32 = m + d := ⟨32 - m, by omega⟩
  unfold onesTo freeTo
  rw [hd, List.range_add, List.filter_append]
  have h1 : (List.range m).filter (fun k => (freeB X m).testBit k) = (List.range m).filter (fun j => !X.testBit j) := by
    apply List.filter_congr
    intro j hj
    rw [free_bit hX hm]
    simp at hj
    simp [hj]
  have h2 : ((List.range d).map (m + ·)).filter (fun k => (freeB X m).testBit k) = [] := by
    rw [List.filter_eq_nil_iff]
    intro j hj
    obtain ⟨i, _, rfl⟩ := List.mem_map.1 hj
    rw [free_bit hX hm]
    have : ¬ m + i < m := by omega
    simp [this]
  rw [h1, h2, List.append_nil]

end Go.Proofs.YtefcaeldkdbjdaaGreat

namespace Go.Proofs.YtefcaeldkdbjdaaGreat
open Go.RowKit

theorem wordL_bitL {y : Nat} (h : y < 4294967296) : wordL (bitL y 32) = (y : Int) := by
  have := wordL_or 32 y y h h
  simpa [bitL, Int.max_self] using this
theorem bitL_set {y j : Nat} (hj : j < 32) : (bitL y 32).set j 1 = bitL (y ||| 2 ^ j) 32 := by
  refine List.ext_getElem (by simp [bitL]) fun i h1 h2 => ?_
  simp only [bitL, List.getElem_set, List.getElem_map, List.getElem_range]
  rw [← Nat.toNat_testBit, ← Nat.toNat_testBit, Nat.testBit_or, Nat.testBit_two_pow]
  by_cases e : j = i
  · simp [e]
  · simp [e]
theorem bitL_bits (y : Nat) : ∀ b ∈ bitL y 32, 0 ≤ b ∧ b ≤ 1 := by
  intro b hb
  obtain ⟨i, _, rfl⟩ := List.mem_map.1 hb
  omega
theorem bitL_zero : bitL 0 32 = List.replicate 32 0 := by decide
theorem bit_mod (y j : Nat) : y.testBit j = true ↔ y / 2 ^ j % 2 = 1 := by rw [Nat.testBit_eq_decide_div_mod_eq]; simp

/-- What reading a list of bits answers. -/
def ofA (l : List Int) : Nat := (bitsG 0 l).getD 0
def ofB (l : List Int) : Bool := (bitsG 0 l).isSome

set_option maxRecDepth 100000 in
set_option maxHeartbeats 2000000 in
theorem sBitsOf_any (A : Option Addr) (n c B : Nat) (l : List Int) (w : World) (h : RdK .i64 w B A n l) (hB : B ≤ w.heap.size) (hn : n ≤ 1048576) :
    Calls Tryz.prog 80 #[.slice A n c] w fun e w' => e = .returned (.tuple #[.int .u32 (ofA l : Int), .bool (ofB l)]) ∧ Below w.heap.size w w' := by
  obtain ⟨i0, hi, hz0, hz1, hz2⟩ := info_parts info_int
  have hb2 : i0.bytes * 32 ≤ 281474976710656 := by rw [hz2]; omega
  have hb3 : 32 ≤ maxLen := by unfold maxLen; omega
  have HL := Lib.hid h.1
  have H2 := Lib.hid h.2
  have HI := Lib.hid hi
  have HZ0 := Lib.hid hz0
  have HZ1 := Lib.hid hz1
  clear h hi hz0 hz1 hz2
  go_enter Tryz.func80, Tryz.ntmps80
  go_wp2_with (at_make; refine wpList_make_full _ rfl _ _ 29 rfl w.heap.size 3 i0 (.int .i64 0) 1 Tryz.underlying29 HI.out HZ0.out HZ1.out .i64 .i64 _ _ 32 rfl rfl rfl rfl hb2 hb3 (Nat.le_refl _) ?_)
  intro w1 hown hgr
  have HO : Hid (OwnK 3 .i64 w1 w.heap.size (some ⟨w.heap.size, 0, none⟩) 32 32 (bitL 0 32)) := by
    have := toList_madeCells_one (.int .i64 0) 32
    have h3 : w1.ownsRow w.heap.size 3 1 (.slice (some ⟨w.heap.size, 0, none⟩) 32 32) 32 (List.replicate 32 (.int .i64 0)) := this ▸ hown
    show w1.ownsRow _ _ _ _ _ ((bitL 0 32).map _)
    rw [bitL_zero, List.map_replicate]
    exact h3
  have HB : Hid (Below w.heap.size w w1) := (Below.refl _ _).grown hgr (Nat.le_refl _) (by simp)
  clear hown hgr
  go_wp2
  go_loopw [5] (fun i wr => ∃ k y : Nat, k ≤ n ∧ i = .int .i64 k ∧ Hid (y < 4294967296) ∧ Hid (bitsG 0 l = bitsG y (l.drop k)) ∧ Hid (OwnK 3 .i64 wr w.heap.size (some ⟨w.heap.size, 0, none⟩) 32 32 (bitL y 32)) ∧ Hid (Below w.heap.size w wr)) (fun i _ => n - (intOf i).toNat)
  case atStart => exact ⟨0, 0, Nat.zero_le _, rfl, (by omega : 0 < 4294967296), (by simp : bitsG 0 l = bitsG 0 (l.drop 0)), HO, HB⟩
  case round =>
    obtain ⟨k, y, hk, rfl, HY, HG, HOr, HBr⟩ := hrel
    clear HO HB
    by_cases hlt : k < n
    · obtain ⟨g, o, rfl, hg, hc⟩ := H2.out (by omega)
      have c1 : wr.cell? ⟨g, o + k, none⟩ = some (.int .i64 (l[k]?.getD 0)) := (HBr.out.cell (p := ⟨g, o + k, none⟩) (by show g < _; omega)).trans (hc k hlt)
      have HS := Lib.hid (bitsG_next (a := y) (l := l) (i := k) (by have := HL.out; omega))
      clear hc
      generalize l[k]?.getD 0 = z at *
      by_cases h0 : z < 0
      · have HE : Hid (bitsG 0 l = none) := by
          show _ = _
          rw [HG.out, HS.out, if_pos (.inl h0)]
        clear HS HG
        go_wp2
        go_ret2
        exact ⟨by simp only [ofA, ofB, HE.out]; rfl, HBr.out⟩
      · by_cases h31 : 31 < z
        · have HE : Hid (bitsG 0 l = none) := by
            show _ = _
            rw [HG.out, HS.out, if_pos (.inr (.inl h31))]
          clear HS HG
          go_wp2
          go_ret2
          exact ⟨by simp only [ofA, ofB, HE.out]; rfl, HBr.out⟩
        · obtain ⟨j, rfl⟩ := Int.eq_ofNat_of_zero_le (show 0 ≤ z by omega)
          have hj : j < 32 := by omega
          have c2 := HOr.out.cell rfl hj
          have f2 := HOr.out.free rfl j
          rw [bitL_at y 32 j hj] at c2
          by_cases ht : y / 2 ^ j % 2 = 1
          · have HE : Hid (bitsG 0 l = none) := by
              show _ = _
              rw [HG.out, HS.out, if_pos (.inr (.inr ((bit_mod _ _).2 ht)))]
            rw [ht] at c2
            clear HS HG
            go_wp2
            go_ret2
            exact ⟨by simp only [ofA, ofB, HE.out]; rfl, HBr.out⟩
          · have HE : Hid (bitsG 0 l = bitsG (y ||| 2 ^ j) (l.drop (k + 1))) := by
              show _ = _
              rw [HG.out, HS.out, if_neg (by
                rintro (h5 | h5 | h5)
                · omega
                · omega
                · exact ht ((bit_mod _ _).1 h5))]
              rfl
            have ht0 : y / 2 ^ j % 2 = 0 := by omega
            rw [ht0] at c2
            have HN : Hid (OwnK 3 .i64 (wr.setCell ⟨w.heap.size, j, none⟩ (.int .i64 1)) w.heap.size (some ⟨w.heap.size, 0, none⟩) 32 32 (bitL (y ||| 2 ^ j) 32)) := by
              rw [← bitL_set hj]; exact HOr.out.store
            have HM : Hid (Below w.heap.size w (wr.setCell ⟨w.heap.size, j, none⟩ (.int .i64 1))) := HBr.out.setCell (Nat.le_refl _) _
            have HY2 : Hid (y ||| 2 ^ j < 4294967296) := Nat.or_lt_two_pow (n := 32) (by have := HY.out; omega) (Nat.pow_lt_pow_right (by omega) hj)
            clear HS HG HOr HBr ht ht0
            go_wp2
            go_roundw
            case rel => exact ⟨k + 1, _, by omega, by go_num, HY2, HE, HN, HM⟩
            case measure => simp [intOf]; omega
    · have HE : Hid (bitsG 0 l = some y) := by
        show _ = _
        rw [HG.out, bitsG_end (by have := HL.out; omega)]
      have HW := word_any (some ⟨w.heap.size, 0, none⟩) 32 _ _ wr HOr.out.rd (bitL_bits y)
      rw [wordL_bitL HY.out] at HW
      have CW := Lib.hid HW
      clear HG HW
      go_wp2_with fail
      refine CW.out.mono ?_
      rintro e w2 ⟨rfl, rfl⟩
      go_wp2
      go_ret2
      exact ⟨by simp only [ofA, ofB, HE.out]; rfl, HBr.out⟩

theorem RdK.take {kd : IntKind} {w : World} {B : Nat} {A : Option Addr} {n m : Nat} {zs : List Int} (h : RdK kd w B A n zs) (hm : m ≤ n) : RdK kd w B A m (zs.take m) :=
  ⟨by rw [List.length_take, h.1]; omega, fun h0 => by
    obtain ⟨g, o, e, hg, hc⟩ := h.2 (by omega)
    refine ⟨g, o, e, hg, fun i hi => ?_⟩
    rw [hc i (by omega)]
    simp [hi]⟩
theorem OwnK.cap {e : TypeId} {kd : IntKind} {w : World} {b0 n c : Nat} {A : Option Addr} {zs : List Int} (h : OwnK e kd w b0 A n c zs) : n ≤ c ∧ c ≤ maxLen := by
  rcases h.2 with ⟨hv, h0⟩ | ⟨g, cap, cur, hv, r⟩
  · injection hv with h1 h2 h3
    unfold maxLen
    omega
  · injection hv with h1 h2 h3
    obtain ⟨_, _, r1, r2, _⟩ := r
    omega

theorem take_ints (l : List Nat) (m : Nat) : (ints l).take m = ints (l.take m) := by simp [ints]

end Go.Proofs.YtefcaeldkdbjdaaGreat

namespace Go.Proofs.YtefcaeldkdbjdaaGreat
open Go.RowKit

/-- A width that a word has. -/
def IsWidth (n : Int) : Prop := 0 ≤ n ∧ n ≤ 32
instance (n : Int) : Decidable (IsWidth n) := inferInstanceAs (Decidable (0 ≤ n ∧ n ≤ 32))
/-- The mask of a width, and the free bits below it. -/
def maskV (n : Int) : Nat := if IsWidth n then 2 ^ n.toNat - 1 else 0
def freeV (X : Nat) (n : Int) : Nat := if IsWidth n then freeB X n.toNat else 0
theorem maskV_lt (n : Int) : maskV n < 4294967296 := by
  unfold maskV
  split
  · rename_i h
    have h1 : n.toNat ≤ 32 := by unfold IsWidth at h; omega
    have : 2 ^ n.toNat ≤ 2 ^ 32 := Nat.pow_le_pow_right (by omega) h1
    omega
  · omega
theorem freeV_and (X : Nat) (n : Int) : (4294967295 - X) &&& maskV n = freeV X n := by
  unfold maskV freeV freeB
  split
  · rfl
  · simp
theorem freeV_lt (X : Nat) (n : Int) : freeV X n < 4294967296 := by
  unfold freeV
  split
  · exact free_lt
  · omega
theorem ones_none (m : Nat) : onesTo 0 m = [] := by
  have := onesTo_stop (X := 0) (k := 0) (by simp) m (by omega)
  rw [this, onesTo_zero]
theorem ofA_take (X n : Nat) : ofA (ints ((onesTo X 32).take n)) = orL ((onesTo X 32).take n) := by unfold ofA; rw [bitsG_take]; rfl

theorem mask_next (k : Nat) : 2 ^ k - 1 ||| 2 ^ k = 2 ^ (k + 1) - 1 := by
  refine Nat.eq_of_testBit_eq fun j => ?_
  rw [Nat.testBit_or, Nat.testBit_two_pow_sub_one, Nat.testBit_two_pow, Nat.testBit_two_pow_sub_one, ← Bool.decide_or]
  refine decide_eq_decide.2 ?_
  omega

end Go.Proofs.YtefcaeldkdbjdaaGreat
