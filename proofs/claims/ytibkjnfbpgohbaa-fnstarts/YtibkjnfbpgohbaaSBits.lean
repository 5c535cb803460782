/- The contracts of the model's BitList, Ones, Lowest, Highest and of its list of free bits. -/
import Derived.Test.YtibkjnfbpgohbaaBitsW
import Derived.Test.YtibkjnfbpgohbaaOnesMath
namespace Go.Proofs.Ytibkjnfbpgohbaa
open Go.RowKit

/-- Natural numbers as Go's ints. -/
def ints (l : List Nat) : List Int := l.map (fun k : Nat => (k : Int))
theorem ints_len (l : List Nat) : (ints l).length = l.length := by simp [ints]
theorem ints_snoc (l : List Nat) (k : Nat) : ints (l ++ [k]) = ints l ++ [(k : Int)] := by simp [ints]
theorem ints_at (l : List Nat) {k : Nat} (h : k < l.length) : (ints l)[k]?.getD 0 = (l[k] : Int) := by simp [ints, h]

/-- 'append(s, x)' onto a slice of ints that the call owns, and what it leaves alone. -/
theorem wpList_push_far {w : World} {ops : Array Oper} {rest : List Oper} {o : Oper} {a : Act} {Q : Exit → Act → World → Prop} (hgd : o.guard = none) (s x : Operand)
    (ho : o.op = .call { callee := .builtin .append, args := #[s, x], argTypes := #[31, 31] })
    (b0 n c : Nat) (A : Option Addr) (zs : List Int) (z : Int) (hs : a.eval s = .slice A n c) (hx : a.eval x = .slice (some ⟨w.heap.size, 0, none⟩) 1 1)
    (hO : OwnK 3 .i64 w b0 A n c zs) (hn : n ≤ 1000000) (hb : b0 ≤ w.heap.size)
    (h : ∀ A' c' w', Hid (OwnK 3 .i64 w' b0 A' (n + 1) c' (zs ++ [z])) → Hid (w.grownBy w' (Value.slice A n c).ownBlock) → Hid (∀ g, (Value.slice A' (n + 1) c').ownBlock = some g → (Value.slice A n c).ownBlock = some g ∨ w.heap.size ≤ g) → wpList Try.prog ops Q rest (a.put o.dst (.slice A' (n + 1) c')) w') :
    wpList Try.prog ops Q (o :: rest) a (w.alloc (.cells #[.int .i64 z] 3)) := by
  obtain ⟨i0, hi, hz0, hz1, hz2⟩ := info_parts info_int
  refine wpList_append_own_at _ hgd s x 31 ho b0 3 i0 (.int .i64 0) 1 8 Try.underlying31 hi hz0 hz1 hz2 rfl (by omega) (.slice A n c) n _ hs (hO.alloc _) ⟨w.heap.size, 0, none⟩ 1 1 [.int .i64 z] hx rfl ?_ (by simp [Value.oneCell']) (by unfold maxLen; omega) (by omega) (by simp; omega) ?_
  · intro j u hj
    match j, hj with
    | 0, hj => simp at hj; subst hj; simp [Addr.add]
  · intro v' w' h1 h2 _ h4
    have h3 : w'.ownsRow b0 3 1 v' (n + 1) ((zs ++ [z]).map (Value.int .i64)) := by simpa using h1
    obtain ⟨A', c', rfl, h5⟩ := OwnK.shape h3
    refine h A' c' w' h5 ?_ ?_
    · exact ⟨h2.os, h2.tape, h2.output, Nat.le_trans (by simp) h2.size, fun i hi hne => (h2.block i (by simp; omega) hne).trans (Below.heap_alloc w _ i hi)⟩
    · intro g hg
      rcases h4 with h4 | h4
      · exact .inl (h4 ▸ hg)
      · rw [hg] at h4
        refine .inr ?_
        injection h4 with h4
        simp at h4
        omega

/-- The lowest and the highest of a list in ascending order; -1 where there is none. -/
def lowOf (l : List Nat) : Int := (l.head?.map (fun k => (k : Int))).getD (-1)
def highOf (l : List Nat) : Int := (l.getLast?.map (fun k => (k : Int))).getD (-1)
theorem highOf_snoc (l : List Nat) (k : Nat) : highOf (l ++ [k]) = k := by simp [highOf]
theorem lowOf_pre {p l : List Nat} {k : Nat} (h : p <+: l) (e : p = [k]) : lowOf l = k := by
  obtain ⟨q, rfl⟩ := h
  subst e
  rfl
theorem low_at {l : List Nat} (h : 0 < l.length) : (ints l)[0]?.getD 0 = lowOf l := by
  cases l with
  | nil => simp at h
  | cons a l => rfl
theorem high_at {l : List Nat} (h : 0 < l.length) : (ints l)[l.length - 1]?.getD 0 = highOf l := by
  have h1 : l.length - 1 < l.length := by omega
  rw [ints_at l h1, highOf, List.getLast?_eq_getElem?, List.getElem?_eq_getElem h1]
  rfl
theorem low_nil {l : List Nat} (h : l.length = 0) : lowOf l = -1 ∧ highOf l = -1 := by
  obtain rfl : l = [] := List.eq_nil_of_length_eq_zero h
  exact ⟨rfl, rfl⟩

end Go.Proofs.Ytibkjnfbpgohbaa
