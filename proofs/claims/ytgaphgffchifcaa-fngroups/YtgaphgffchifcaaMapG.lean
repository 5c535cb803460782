/- A map from ints to words that the call makes: what it holds at every key, told by a function. -/
import Derived.Test.YtgaphgffchifcaaIFill
import Derived.Maps.OwnIn
import Derived.Maps.Views
namespace Go.Proofs.Ytgaphgffchifcaa
open Go.RowKit Go.Shelf Go.Maps

/-- Block b is a map of at most n entries; at the key z (an int64) it holds the word f z, 0 where there is none. -/
def MapG (W : World) (b n : Nat) (f : Int → Nat) : Prop :=
  ∃ D : DataW Unit, W.ownsMap Try.prog 3 (plainElem Try.prog 24) b n D ∧ IsMap D ∧ ∀ z : Int, (Lit.int .i64 z).wf = true → D.atKey (.int .i64 z) (.lit (.int .u32 0)) = .lit (.int .u32 (f z : Int))

theorem MapG.made (W : World) : MapG (W.alloc (.map #[] 0)) W.heap.size 0 (fun _ => 0) := ⟨.map [], World.ownsMap_made _ _ _ _, ⟨[], rfl⟩, fun _ _ => rfl⟩
theorem MapG.lt {W : World} {b n : Nat} {f : Int → Nat} (h : MapG W b n f) : b < W.heap.size := by obtain ⟨D, ho, _⟩ := h; exact ho.lt
theorem MapG.kept {W W' : World} {row : Option Nat} {b n : Nat} {f : Int → Nat} (h : MapG W b n f) (hg : W.grownBy W' row) (hne : some b ≠ row) : MapG W' b n f := by
  obtain ⟨D, ho, hm, ha⟩ := h
  exact ⟨D, ho.kept hg hne, hm, ha⟩
theorem MapG.low {W W' : World} {b n : Nat} {f : Int → Nat} (h : MapG W b n f) (hb : Below W.heap.size W W') : MapG W' b n f :=
  h.kept (row := none) ⟨hb.os, hb.tape, hb.output, hb.size, fun k hk _ => hb.block k hk⟩ (by simp)
theorem MapG.drew {W : World} {b n : Nat} {f : Int → Nat} (h : MapG W b n f) : MapG W.drew b n f := by
  obtain ⟨D, ho, hm, ha⟩ := h
  exact ⟨D, ho.drew, hm, ha⟩
/-- The look-up. -/
theorem MapG.look {W : World} {b n : Nat} {f : Int → Nat} (h : MapG W b n f) {z : Int} (hz : (Lit.int .i64 z).wf = true) :
    (Instr.lookup 74 (.map (some b)) (.int .i64 z) false).run Try.prog W = .ok (.int .u32 (f z : Int)) W := by
  obtain ⟨D, ho, _, ha⟩ := h
  obtain ⟨c, hr, hc, _⟩ := ho.lookup_int (int_keyed Try.underlying3) Try.underlying74 Try.underlying24 (Try.zeroValue24 W) (keyOf_int_mk Try.underlying3 hz)
  rw [ha z hz] at hc
  injection hc with hc
  injection hc with _ hc
  rw [hr, hc]
/-- The store. -/
theorem MapG.store {W : World} {b n : Nat} {f : Int → Nat} (h : MapG W b n f) (hn : n < maxLen) {z : Int} (hz : (Lit.int .i64 z).wf = true) {y : Nat} (hy : y < 4294967296) :
    ∃ W', (Instr.mapUpdate 74 (.map (some b)) (.int .i64 z) (.int .u32 (y : Int))).run Try.prog W = .ok () W' ∧ MapG W' b (n + 1) (fun x => if x = z then y else f x) ∧ W.grownBy W' (some b) := by
  obtain ⟨D, ho, hm, ha⟩ := h
  have hwy : (Lit.int .u32 (y : Int)).wf = true := by simp [Lit.wf, IntKind.min, IntKind.max, IntKind.signed, IntKind.bits]; omega
  obtain ⟨W', hr, ho', hg⟩ := ho.update (int_keyed Try.underlying3) Try.underlying74 hn (keyOf_int_mk Try.underlying3 hz) (plainElem_int Try.underlying24 hwy)
  refine ⟨W', hr, ⟨_, ho', hm.put _ _, fun x hx => ?_⟩, hg⟩
  by_cases e : x = z
  · subst e
    rw [atKey_put_same hm (by simp [WideAt.IsKeyLit])]
    dsimp only
    rw [if_pos rfl]
  · dsimp only
    rw [if_neg e, atKey_put_other (by intro h2; injection h2 with _ h2; exact e h2), ha x hx]

end Go.Proofs.Ytgaphgffchifcaa
