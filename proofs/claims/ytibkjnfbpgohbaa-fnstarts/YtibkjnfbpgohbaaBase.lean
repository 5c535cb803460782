/- What a slice of 32-bit words holds, in the words of this proof: 'Rd' (it reads as a list) and small facts on worlds that only grow. -/
import Derived.Test.YtibkjnfbpgohbaaRows
import Derived.WalkKit
import Derived.WalkSpells
import Derived.WalkLawsBesides
import Derived.Deep.QuietTactic
import Derived.BigQuiet
import Derived.Lib.Hide
namespace Go.Proofs.Ytibkjnfbpgohbaa
open Go.RowKit

/-- The slice at A, of n words, reads as the numbers zs, and lies below block B. -/
def Rd (w : World) (B : Nat) (A : Option Addr) (n : Nat) (zs : List Int) : Prop :=
  zs.length = n ∧ (0 < n → ∃ g o, A = some ⟨g, o, none⟩ ∧ g < B ∧ ∀ i, i < n → w.cell? ⟨g, o + i, none⟩ = some (.int .u32 (zs[i]?.getD 0)))

section
variable {w w' : World} {B B' n : Nat} {A : Option Addr} {zs : List Int}
theorem Rd.zero : Rd w B A 0 [] := ⟨rfl, fun h => absurd h (by omega)⟩
theorem Rd.keep (h : Rd w B A n zs) (hk : ∀ p : Addr, p.block < B → w'.cell? p = w.cell? p) : Rd w' B A n zs :=
  ⟨h.1, fun hn => by
    obtain ⟨g, o, e, hg, hc⟩ := h.2 hn
    exact ⟨g, o, e, hg, fun i hi => (hk ⟨g, o + i, none⟩ hg).trans (hc i hi)⟩⟩
theorem Rd.more (h : Rd w B A n zs) (hB : B ≤ B') : Rd w B' A n zs :=
  ⟨h.1, fun hn => by
    obtain ⟨g, o, e, hg, hc⟩ := h.2 hn
    exact ⟨g, o, e, by omega, hc⟩⟩
theorem Rd.below (h : Rd w B A n zs) (hb : Below B w w') : Rd w' B A n zs := h.keep fun _ hp => hb.cell hp
theorem Rd.alloc (h : Rd w B A n zs) (hB : B ≤ w.heap.size) (o : Obj) : Rd (w.alloc o) B A n zs := h.keep fun p hp => World.cell?_alloc_lt w o p (by omega)
end

/-- One cell of a block that was there, in a later world. -/
theorem later {w w' : World} {b o : Nat} {v : Value} (hb : Below w.heap.size w w') (h : w.cell? ⟨b, o, none⟩ = some v) : w'.cell? ⟨b, o, none⟩ = some v :=
  (hb.cell (p := ⟨b, o, none⟩) (World.block_lt_of_cell? w _ h)).trans h
/-- The same behind a new block. -/
theorem older {w : World} {b o : Nat} {v : Value} (h : w.cell? ⟨b, o, none⟩ = some v) (ob : Obj) : (w.alloc ob).cell? ⟨b, o, none⟩ = some v :=
  (World.cell?_alloc_lt w ob ⟨b, o, none⟩ (World.block_lt_of_cell? w _ h)).trans h

/-- All old cells and all old marks read as before. -/
theorem bcell {W w1 : World} (hb : Below W.heap.size W w1) : (∀ b o, b < W.heap.size → w1.cell? ⟨b, o, none⟩ = W.cell? ⟨b, o, none⟩) ∧ (∀ b o, b < W.heap.size → w1.frozen? ⟨b, o, none⟩ = W.frozen? ⟨b, o, none⟩) :=
  ⟨fun b o h => hb.cell (p := ⟨b, o, none⟩) h, fun b o h => hb.frozen (p := ⟨b, o, none⟩) h⟩

/-- The slice at A, of n words and capacity c, is the call's own: it begins at the head of a block from b0 on (or is nil), nothing of it frozen, and holds the numbers zs. -/
def Own (w : World) (b0 : Nat) (A : Option Addr) (n c : Nat) (zs : List Int) : Prop := w.ownsRow b0 41 1 (.slice A n c) n (zs.map (Value.int .u32))

section
variable {w w' : World} {b0 n c : Nat} {A : Option Addr} {zs : List Int}
theorem Own.len (h : Own w b0 A n c zs) : zs.length = n := by simpa using h.1
theorem Own.zero : Own w b0 none 0 0 [] := World.ownsRow_nil _ _ _ _
theorem Own.form (h : Own w b0 A n c zs) (hn : 0 < n) : ∃ g, A = some ⟨g, 0, none⟩ ∧ b0 ≤ g ∧ g < w.heap.size := by
  rcases h.2 with ⟨hv, h0⟩ | ⟨g, cap, cur, hv, hb, hh, _⟩
  · omega
  · exact ⟨g, by injection hv, hb, (Array.getElem?_eq_some_iff.1 hh).1⟩
theorem Own.cell (h : Own w b0 A n c zs) {g i : Nat} (hA : A = some ⟨g, 0, none⟩) (hi : i < n) : w.cell? ⟨g, i, none⟩ = some (.int .u32 (zs[i]?.getD 0)) := by
  subst hA
  rw [World.ownsRow.cellAt h i (by omega)]
  have hl : i < zs.length := by rw [h.len]; exact hi
  simp [hl]
theorem Own.free (h : Own w b0 A n c zs) {g : Nat} (hA : A = some ⟨g, 0, none⟩) (i : Nat) : w.frozen? ⟨g, i, none⟩ = false := by
  subst hA
  exact World.ownsRow.frozenAt h i
theorem Own.rd (h : Own w b0 A n c zs) : Rd w w.heap.size A n zs :=
  ⟨h.len, fun hn => by
    obtain ⟨g, hA, _, hlt⟩ := h.form hn
    exact ⟨g, 0, hA, hlt, fun i hi => by rw [Nat.zero_add]; exact h.cell hA hi⟩⟩
theorem Own.below (h : Own w b0 A n c zs) (hb : Below w.heap.size w w') : Own w' b0 A n c zs :=
  World.ownsRow.kept h (row := none) ⟨hb.os, hb.tape, hb.output, hb.size, fun k hk _ => hb.block k hk⟩ (by cases hv : (Value.slice A n c).ownBlock <;> simp)
theorem Own.from_ {b1 : Nat} (h : Own w b0 A n c zs) (hb : b1 ≤ b0) : Own w b1 A n c zs := by
  refine ⟨h.1, ?_⟩
  rcases h.2 with h2 | ⟨g, cap, cur, hv, hg, r⟩
  · exact .inl h2
  · exact .inr ⟨g, cap, cur, hv, by omega, r⟩
theorem Own.store {g i : Nat} {x : Int} (h : Own w b0 (some ⟨g, 0, none⟩) n c zs) : Own (w.setCell ⟨g, i, none⟩ (.int .u32 x)) b0 (some ⟨g, 0, none⟩) n c (zs.set i x) := by
  have h1 := World.ownsRow.stored h i (.int .u32 x)
  rw [← List.map_set] at h1
  exact h1.1
theorem Own.low {p : Addr} (h : Own w b0 A n c zs) (hp : p.block < b0) (u : Value) : Own (w.setCell p u) b0 A n c zs := ownsRow_setCell_below h hp u
theorem Own.alloc (h : Own w b0 A n c zs) (o : Obj) : Own (w.alloc o) b0 A n c zs := World.ownsRow.alloc h o
theorem Own.drew (h : Own w b0 A n c zs) : Own w.drew b0 A n c zs := h
theorem Own.drewN (h : Own w b0 A n c zs) (k : Nat) : Own (w.drewN k) b0 A n c zs := h
theorem Own.far {p : Addr} (h : Own w b0 A n c zs) (hp : ∀ g, A = some ⟨g, 0, none⟩ → g ≠ p.block) (u : Value) : Own (w.setCell p u) b0 A n c zs := by
  refine ⟨h.1, ?_⟩
  rcases h.2 with h2 | ⟨g, cap, cur, hv, hg, hh, r⟩
  · exact .inl h2
  · refine .inr ⟨g, cap, cur, hv, hg, ?_, r⟩
    rw [Below.heap_setCell _ _ _ _ (hp g (by injection hv))]
    exact hh
end

end Go.Proofs.Ytibkjnfbpgohbaa
