/- Lists of warps that a call owns, rows and all. -/
import Derived.Test.YtooegpebimpjcaaOwnW
import Derived.Test.YtooegpebimpjcaaCopyI
namespace Go.Proofs.Ytooegpebimpjcaa
open Go.RowKit
set_option linter.unusedVariables false

def rowA (xs : List Wc) (i : Nat) : Option Nat := (Value.slice (wat xs i).A (wat xs i).v.vs.length (wat xs i).c).ownBlock
def rowB (xs : List Wc) (i : Nat) : Option Nat := (Value.slice (wat xs i).B (wat xs i).v.gs.length (wat xs i).d).ownBlock
/-- The rows of the first n warps are the call's own. -/
def Inner (w : World) (b0 n : Nat) (xs : List Wc) : Prop :=
  ∀ i, i < n → OwnK 3 .i64 w b0 (wat xs i).A (wat xs i).v.vs.length (wat xs i).c (wat xs i).v.vs ∧ OwnK 3 .i64 w b0 (wat xs i).B (wat xs i).v.gs.length (wat xs i).d (wat xs i).v.gs
/-- The rows of the first n warps lie apart, and apart from the block of the list. -/
def Dis (g : Option Nat) (n : Nat) (xs : List Wc) : Prop :=
  ∀ i, i < n → ∀ q, (rowA xs i = some q → g ≠ some q ∧ (∀ j, j < n → rowB xs j ≠ some q) ∧ (∀ j, j < n → j ≠ i → rowA xs j ≠ some q)) ∧ (rowB xs i = some q → g ≠ some q ∧ (∀ j, j < n → j ≠ i → rowB xs j ≠ some q))
/-- The slice at A, of n warps and capacity c, is the call's own, rows and all. -/
def OwnM (w : World) (b0 : Nat) (A : Option Addr) (n c : Nat) (xs : List Wc) : Prop := OwnW w b0 A n c xs ∧ Inner w b0 n xs ∧ Dis (Value.slice A n c).ownBlock n xs

section
variable {w w' : World} {b0 n c : Nat} {A : Option Addr} {xs : List Wc}
theorem Inner.kp {r : Nat → Prop} (h : Inner w b0 n xs) (k : Kp r w w') (hr : ∀ i, i < n → ∀ q, rowA xs i = some q ∨ rowB xs i = some q → ¬ r q) : Inner w' b0 n xs :=
  fun i hi => ⟨(h i hi).1.kp k (fun q hq => hr i hi q (.inl hq)), (h i hi).2.kp k (fun q hq => hr i hi q (.inr hq))⟩
theorem Inner.below (h : Inner w b0 n xs) (hb : Below w.heap.size w w') : Inner w' b0 n xs := h.kp (r := fun _ => False) (Kp.of_below hb) (fun _ _ _ _ h => h)
theorem Inner.lt (h : Inner w b0 n xs) {i q : Nat} (hi : i < n) (hq : rowA xs i = some q ∨ rowB xs i = some q) : b0 ≤ q ∧ q < w.heap.size := by
  rcases hq with hq | hq
  · exact World.ownsRow.lt (h i hi).1 q hq
  · exact World.ownsRow.lt (h i hi).2 q hq
theorem OwnM.len (h : OwnM w b0 A n c xs) : xs.length = n := h.1.len
theorem OwnM.rd (h : OwnM w b0 A n c xs) : RdW w w.heap.size A n xs := h.1.rd (Nat.le_refl _) (fun i hi => ⟨(h.2.1 i hi).1.rd, (h.2.1 i hi).2.rd⟩)
theorem OwnM.kp {r : Nat → Prop} (h : OwnM w b0 A n c xs) (k : Kp r w w') (ho : ∀ q, (Value.slice A n c).ownBlock = some q → ¬ r q) (hr : ∀ i, i < n → ∀ q, rowA xs i = some q ∨ rowB xs i = some q → ¬ r q) : OwnM w' b0 A n c xs :=
  ⟨row_kp h.1 k ho, h.2.1.kp k hr, h.2.2⟩
theorem OwnM.below (h : OwnM w b0 A n c xs) (hb : Below w.heap.size w w') : OwnM w' b0 A n c xs := ⟨h.1.below hb, h.2.1.below hb, h.2.2⟩
end
/-- The blocks of a list, rows and all. -/
def InM (A : Option Addr) (n c : Nat) (xs : List Wc) (q : Nat) : Prop := (Value.slice A n c).ownBlock = some q ∨ ∃ i, i < n ∧ (rowA xs i = some q ∨ rowB xs i = some q)
theorem OwnM.lt {w : World} {b0 n c : Nat} {A : Option Addr} {xs : List Wc} (h : OwnM w b0 A n c xs) {q : Nat} (hq : InM A n c xs q) : b0 ≤ q ∧ q < w.heap.size := by
  rcases hq with hq | ⟨i, hi, hq⟩
  · exact h.1.range q hq
  · exact h.2.1.lt hi hq

/-- Eight stores into one block. -/
theorem Kp.set8 (w : World) (g p0 p1 p2 p3 p4 p5 p6 p7 : Nat) (c0 c1 c2 c3 c4 c5 c6 c7 : Value) :
    Kp (fun k => k = g) w ((((((((w.setCell ⟨g, p0, none⟩ c0).setCell ⟨g, p1, none⟩ c1).setCell ⟨g, p2, none⟩ c2).setCell ⟨g, p3, none⟩ c3).setCell ⟨g, p4, none⟩ c4).setCell ⟨g, p5, none⟩ c5).setCell ⟨g, p6, none⟩ c6).setCell ⟨g, p7, none⟩ c7) :=
  (((((((Kp.setCell w ⟨g, p0, none⟩ c0).trans (Kp.setCell _ ⟨g, p1, none⟩ c1)).trans (Kp.setCell _ ⟨g, p2, none⟩ c2)).trans (Kp.setCell _ ⟨g, p3, none⟩ c3)).trans (Kp.setCell _ ⟨g, p4, none⟩ c4)).trans (Kp.setCell _ ⟨g, p5, none⟩ c5)).trans (Kp.setCell _ ⟨g, p6, none⟩ c6)).trans (Kp.setCell _ ⟨g, p7, none⟩ c7)

/-- One more warp, laid behind all the others. -/
theorem Inner.next {w : World} {b0 n : Nat} {xs : List Wc} {y : Wc} (h : Inner w b0 n xs) (hn : n < xs.length) (h1 : OwnK 3 .i64 w b0 y.A y.v.vs.length y.c y.v.vs) (h2 : OwnK 3 .i64 w b0 y.B y.v.gs.length y.d y.v.gs) : Inner w b0 (n + 1) (xs.set n y) := by
  intro i hi
  rw [wat_set hn]
  by_cases e : n = i
  · rw [if_pos e]; exact ⟨h1, h2⟩
  · rw [if_neg e]; exact h i (by omega)
theorem rowA_set {xs : List Wc} {n i : Nat} {y : Wc} (hn : n < xs.length) : rowA (xs.set n y) i = if n = i then (Value.slice y.A y.v.vs.length y.c).ownBlock else rowA xs i := by
  unfold rowA
  rw [wat_set hn]
  by_cases e : n = i
  · simp [e]
  · simp [e]
theorem rowB_set {xs : List Wc} {n i : Nat} {y : Wc} (hn : n < xs.length) : rowB (xs.set n y) i = if n = i then (Value.slice y.B y.v.gs.length y.d).ownBlock else rowB xs i := by
  unfold rowB
  rw [wat_set hn]
  by_cases e : n = i
  · simp [e]
  · simp [e]
theorem Dis.next {g : Option Nat} {n lo : Nat} {xs : List Wc} {y : Wc} (h : Dis g n xs) (hn : n < xs.length) (hlo : ∀ i, i < n → ∀ q, rowA xs i = some q ∨ rowB xs i = some q → q < lo) (hg : ∀ q, g = some q → q < lo)
    (h1 : ∀ q, (Value.slice y.A y.v.vs.length y.c).ownBlock = some q → lo ≤ q ∧ (Value.slice y.B y.v.gs.length y.d).ownBlock ≠ some q) (h2 : ∀ q, (Value.slice y.B y.v.gs.length y.d).ownBlock = some q → lo ≤ q) : Dis g (n + 1) (xs.set n y) := by
  intro i hi q
  rw [rowA_set hn, rowB_set hn]
  constructor
  · intro hq
    by_cases e : n = i
    · rw [if_pos e] at hq
      obtain ⟨l1, l2⟩ := h1 q hq
      refine ⟨fun hh => by have := hg q hh; omega, fun j hj hh => ?_, fun j hj hne hh => ?_⟩
      · rw [rowB_set hn] at hh
        by_cases e2 : n = j
        · rw [if_pos e2] at hh; exact l2 hh
        · rw [if_neg e2] at hh; have := hlo j (by omega) q (.inr hh); omega
      · rw [rowA_set hn, if_neg (by omega)] at hh
        have := hlo j (by omega) q (.inl hh); omega
    · rw [if_neg e] at hq
      have hq2 := hlo i (by omega) q (.inl hq)
      obtain ⟨k1, k2, k3⟩ := (h i (by omega) q).1 hq
      refine ⟨k1, fun j hj hh => ?_, fun j hj hne hh => ?_⟩
      · rw [rowB_set hn] at hh
        by_cases e2 : n = j
        · rw [if_pos e2] at hh; have := h2 q hh; omega
        · rw [if_neg e2] at hh; exact k2 j (by omega) hh
      · rw [rowA_set hn] at hh
        by_cases e2 : n = j
        · rw [if_pos e2] at hh; have := h1 q hh; omega
        · rw [if_neg e2] at hh; exact k3 j (by omega) hne hh
  · intro hq
    by_cases e : n = i
    · rw [if_pos e] at hq
      have l1 := h2 q hq
      refine ⟨fun hh => by have := hg q hh; omega, fun j hj hne hh => ?_⟩
      rw [rowB_set hn, if_neg (by omega)] at hh
      have := hlo j (by omega) q (.inr hh); omega
    · rw [if_neg e] at hq
      have hq2 := hlo i (by omega) q (.inr hq)
      obtain ⟨k1, k2⟩ := (h i (by omega) q).2 hq
      refine ⟨k1, fun j hj hne hh => ?_⟩
      rw [rowB_set hn] at hh
      by_cases e2 : n = j
      · rw [if_pos e2] at hh; have := h2 q hh; omega
      · rw [if_neg e2] at hh; exact k2 j (by omega) hne hh

end Go.Proofs.Ytooegpebimpjcaa
