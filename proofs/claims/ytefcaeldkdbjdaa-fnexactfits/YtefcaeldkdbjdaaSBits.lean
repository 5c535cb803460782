/- The contracts of the model's BitList, Ones, Lowest, Highest and of its list of free bits. -/
import Derived.Test.YtefcaeldkdbjdaaBitsW
import Derived.Test.YtefcaeldkdbjdaaOnesMath
namespace Go.Proofs.Ytefcaeldkdbjdaa
open Go.RowKit

/-- Natural numbers as Go's ints. -/
def ints (l : List Nat) : List Int := l.map (fun k : Nat => (k : Int))
theorem ints_len (l : List Nat) : (ints l).length = l.length := by simp [ints]
theorem ints_snoc (l : List Nat) (k : Nat) : ints (l ++ [k]) = ints l ++ [(k : Int)] := by simp [ints]
theorem ints_at (l : List Nat) {k : Nat} (h : k < l.length) : (ints l)[k]?.getD 0 = (l[k] : Int) := by simp [ints, h]

/-- 'append(s, x)' onto a slice of ints that the call owns, and what it leaves alone. -/
theorem wpList_push_far {w : World} {ops : Array Oper} {rest : List Oper} {o : Oper} {a : Act} {Q : Exit → Act → World → Prop} (hgd : o.guard = none) (s x : Operand)
    (ho : o.op = .call { callee := .builtin .append, args := #[s, x], argTypes := #[56, 56] })
    (b0 n c : Nat) (A : Option Addr) (zs : List Int) (z : Int) (hs : a.eval s = .slice A n c) (hx : a.eval x = .slice (some ⟨w.heap.size, 0, none⟩) 1 1)
    (hO : OwnK 3 .i64 w b0 A n c zs) (hn : n ≤ 1000000) (hb : b0 ≤ w.heap.size)
    (h : ∀ A' c' w', Hid (OwnK 3 .i64 w' b0 A' (n + 1) c' (zs ++ [z])) → Hid (w.grownBy w' (Value.slice A n c).ownBlock) → Hid (∀ g, (Value.slice A' (n + 1) c').ownBlock = some g → (Value.slice A n c).ownBlock = some g ∨ w.heap.size ≤ g) → wpList Try.prog ops Q rest (a.put o.dst (.slice A' (n + 1) c')) w') :
    wpList Try.prog ops Q (o :: rest) a (w.alloc (.cells #[.int .i64 z] 3)) := by
  obtain ⟨i0, hi, hz0, hz1, hz2⟩ := info_parts info_int
  refine wpList_append_own_at _ hgd s x 56 ho b0 3 i0 (.int .i64 0) 1 8 Try.underlying56 hi hz0 hz1 hz2 rfl (by omega) (.slice A n c) n _ hs (hO.alloc _) ⟨w.heap.size, 0, none⟩ 1 1 [.int .i64 z] hx rfl ?_ (by simp [Value.oneCell']) (by unfold maxLen; omega) (by omega) (by simp; omega) ?_
  · intro j u hj
    match j, hj with
    | 0, hj => simp at hj; subst hj; simp [Addr.add]
  · intro v' w' h1 h2 _ h4
    have h3 : w'.ownsRow b0 3 1 v' (n + 1) ((zs ++ [z]).map (Value.int .i64)) := by simpa using h1
    obtain ⟨A', c', rfl, h5⟩ := OwnK.shape h3
    refine h A' c' w' h5 ?_ ?_
    · exact ⟨h2.os, h2.tape, h2.output, Nat.le_trans (by simp) h2.size, fun i hi hne => (h2.block i (by simp; omega) hne).trans (Below.heap_alloc w _ i hi)⟩
    · intro g hg
      rcases h4 with h4 | h4
      · exact .inl (h4 ▸ hg)
      · rw [hg] at h4
        refine .inr ?_
        injection h4 with h4
        simp at h4
        omega

set_option maxHeartbeats 1000000 in
theorem sBitList_any (X : Nat) (w : World) (hX : X < 4294967296) :
    Calls Try.prog 42 #[.int .u32 (X : Int)] w fun e w' => ∃ A c, e = .returned (.slice A (onesTo X 32).length c) ∧ OwnK 3 .i64 w' w.heap.size A (onesTo X 32).length c (ints (onesTo X 32)) ∧ Below w.heap.size w w' := by
  have HX := Lib.hid hX
  clear hX
  go_enter Try.func42, Try.ntmps42
  go_wp2_with fail
  refine (bits_any X _ HX.out).mono ?_
  rintro e w1 ⟨gb, cb, rfl, hob, hb1⟩
  have OB := Lib.hid hob
  have UB := OwnK.range hob gb rfl
  have BB : Hid (Below w.heap.size w w1) := (by repeat (first | exact Below.refl _ _ | refine Below.drew ?_ | refine Below.setCell ?_ (by first | omega | (simp; done) | (simp; omega) | (simp [*]; done)) _ | refine Below.alloc ?_ (by first | omega | (simp; done) | (simp; omega) | (simp [*]; done)) _ | refine Below.trans ?_ (Below.mono (hb1) (by first | omega | (simp; done) | (simp; omega) | (simp [*]; done)))))
  have OO : Hid (OwnK 3 .i64 w1 w.heap.size (some ⟨w.heap.size, 0, none⟩) 0 0 (ints (onesTo X 0))) := OwnK.below (World.ownsRow_made w #[] 0 (Nat.le_refl _) (by unfold maxLen; omega) rfl) hb1
  simp only [World.size_alloc] at UB
  have z1 := hb1.size
  simp only [World.size_alloc] at z1
  clear hob hb1
  go_wp2
  go_loopw [3, 5] (fun v i wr => ∃ (k n : Nat) (A : Option Addr) (c : Nat), k ≤ 32 ∧ i = .int .i64 k ∧ n = (onesTo X k).length ∧ v = .slice A n c ∧ Hid (OwnK 3 .i64 wr w.heap.size A n c (ints (onesTo X k))) ∧ Hid (OwnK 3 .i64 wr w.heap.size (some ⟨gb, 0, none⟩) 32 cb (bitL X 32)) ∧ Hid (∀ g, (Value.slice A n c).ownBlock = some g → g ≠ gb) ∧ Hid (Below w.heap.size w wr) ∧ gb < wr.heap.size) (fun _ i _ => 32 - (intOf i).toNat)
  case atStart => exact ⟨0, 0, _, _, by omega, rfl, rfl, rfl, OO, OB.out.from_ (by simp), fun g h => by (have h2 : w.heap.size = g := by injection h); omega, BB, by omega⟩
  case round =>
    obtain ⟨k, m, A, c, hk, rfl, hm, rfl, HO, HG, HNE, HB, hgb⟩ := hrel
    clear OO OB BB
    have hs : w.heap.size ≤ wr.heap.size := HB.out.size
    have HM := Lib.hid hm
    have hm0 : m ≤ 1000 := by have := onesTo_len X k; omega
    clear hm
    by_cases hlt : k < 32
    · have c2 := HG.out.cell rfl hlt
      rw [bitL_at X 32 k hlt] at c2
      by_cases h1 : X / 2 ^ k % 2 = 1
      · rw [h1] at c2
        have HN := Lib.hid (onesTo_hit h1)
        clear h1
        go_wp2_with (at_builtin; refine wpList_push_far rfl (.tmp 18) (.tmp 20) rfl w.heap.size m c A (ints (onesTo X k)) _ rfl rfl HO.out (by omega) hs ?_)
        intro A' c' w2 O2 G2 N2
        have NN : Hid (∀ g, (Value.slice A' (m + 1) c').ownBlock = some g → g ≠ gb) := fun g hg => by
          rcases N2.out g hg with h | h
          · exact HNE.out g h
          · omega
        have OG : Hid (OwnK 3 .i64 w2 w.heap.size (some ⟨gb, 0, none⟩) 32 cb (bitL X 32)) := HG.out.far G2.out (fun g hg e => by
          injection hg with hg
          exact HNE.out g e hg.symm)
        have BG : Hid (Below w.heap.size w w2) := HB.out.grown G2.out hs (fun g hg => (OwnK.range HO.out g hg).1)
        have zz := G2.out.size
        clear c2
        go_wp2
        go_roundw
        case rel => exact ⟨k + 1, m + 1, A', c', by omega, by go_num, by rw [HN.out, HM.out]; simp, rfl, by rw [HN.out, ints_snoc]; exact O2, OG, NN, BG, by omega⟩
        case measure => simp [intOf]; omega
      · have h0 : X / 2 ^ k % 2 = 0 := by omega
        rw [h0] at c2
        have HN := Lib.hid (onesTo_miss h1)
        clear h1 h0
        go_wp2
        go_roundw
        case rel => exact ⟨k + 1, m, A, c, by omega, by go_num, by rw [HN.out, HM.out], rfl, by rw [HN.out]; exact HO, HG, HNE, HB, hgb⟩
        case measure => simp [intOf]; omega
    · obtain rfl : k = 32 := by omega
      go_wp2
      go_ret
      have := HM.out
      subst this
      exact ⟨A, c, rfl, HO.out, HB.out⟩

/-- The lowest and the highest of a list in ascending order; -1 where there is none. -/
def lowOf (l : List Nat) : Int := (l.head?.map (fun k => (k : Int))).getD (-1)
def highOf (l : List Nat) : Int := (l.getLast?.map (fun k => (k : Int))).getD (-1)
theorem highOf_snoc (l : List Nat) (k : Nat) : highOf (l ++ [k]) = k := by simp [highOf]
theorem lowOf_pre {p l : List Nat} {k : Nat} (h : p <+: l) (e : p = [k]) : lowOf l = k := by
  obtain ⟨q, rfl⟩ := h
  subst e
  rfl
theorem low_at {l : List Nat} (h : 0 < l.length) : (ints l)[0]?.getD 0 = lowOf l := by
  cases l with
  | nil => simp at h
  | cons a l => rfl
theorem high_at {l : List Nat} (h : 0 < l.length) : (ints l)[l.length - 1]?.getD 0 = highOf l := by
  have h1 : l.length - 1 < l.length := by omega
  rw [ints_at l h1, highOf, List.getLast?_eq_getElem?, List.getElem?_eq_getElem h1]
  rfl
theorem low_nil {l : List Nat} (h : l.length = 0) : lowOf l = -1 ∧ highOf l = -1 := by
  obtain rfl : l = [] := List.eq_nil_of_length_eq_zero h
  exact ⟨rfl, rfl⟩

set_option maxHeartbeats 400000 in
theorem sOnes_any (X : Nat) (w : World) (hX : X < 4294967296) :
    Calls Try.prog 31 #[.int .u32 (X : Int)] w fun e w' => e = .returned (.int .i64 ((onesTo X 32).length : Int)) ∧ Below w.heap.size w w' := by
  have HC := Lib.hid (sBitList_any X w hX)
  clear hX
  go_enter Try.func31, Try.ntmps31
  go_wp2_with fail
  refine HC.out.mono ?_
  rintro e w1 ⟨A, c, rfl, ho, hb⟩
  have HB := Lib.hid hb
  clear ho hb
  go_wp2
  go_ret
  exact ⟨rfl, HB.out⟩

set_option maxHeartbeats 400000 in
theorem sHighest_any (X : Nat) (w : World) (hX : X < 4294967296) :
    Calls Try.prog 47 #[.int .u32 (X : Int)] w fun e w' => e = .returned (.int .i64 (highOf (onesTo X 32))) ∧ Below w.heap.size w w' := by
  have HC := Lib.hid (sBitList_any X w hX)
  clear hX
  generalize hl : onesTo X 32 = l at *
  have hn : l.length ≤ 32 := by rw [← hl]; exact onesTo_len X 32
  clear hl
  go_enter Try.func47, Try.ntmps47
  go_wp2_with fail
  refine HC.out.mono ?_
  rintro e w1 ⟨A, c, rfl, ho, hb⟩
  have HB := Lib.hid hb
  clear hb
  by_cases h0 : l.length = 0
  · obtain ⟨_, e1⟩ := low_nil h0
    have HE := Lib.hid e1
    clear e1 ho
    rw [h0]
    go_wp2
    go_ret
    exact ⟨by rw [HE.out]; rfl, HB.out⟩
  · obtain ⟨g, rfl, _, _⟩ := ho.form (by omega)
    have c1 := ho.cell rfl (show l.length - 1 < l.length by omega)
    rw [high_at (by omega)] at c1
    obtain ⟨m, hm⟩ : ∃ m, l.length = m + 1 := ⟨l.length - 1, by omega⟩
    rw [hm] at c1 hn ⊢
    have h1 : ¬ ((m + 1 : Nat) : Int) = 0 := by omega
    clear ho h0 hm
    rw [Nat.add_sub_cancel] at c1
    go_wp2
    go_ret
    exact ⟨rfl, HB.out⟩

end Go.Proofs.Ytefcaeldkdbjdaa
