/- What the model's draws share: what is known of the world while numbers are drawn. -/
import Derived.Test.YtomcdfaomfkmjaaDrawB
import Derived.OpenShut
import Derived.Deep.RegionHeld3
namespace Go.Proofs.Ytomcdfaomfkmjaa
open Go.RowKit

/-- While numbers are drawn: the cursor stands in the first new block, nothing old has turned. -/
def CI (w : World) (A : Option Addr) (n c : Nat) (bs : List Int) (K : Nat) (wr : World) : Prop := Cur wr w.heap.size A n c bs K ∧ Below w.heap.size w wr
section
variable {w wr w' : World} {A : Option Addr} {n c K : Nat} {bs : List Int}
theorem CI.alloc (h : CI w A n c bs K wr) (o : Obj) : CI w A n c bs K (wr.alloc o) := ⟨h.1.alloc o, h.2.alloc h.2.size o⟩
theorem CI.drew (h : CI w A n c bs K wr) : CI w A n c bs K wr.drew := ⟨h.1, h.2.drew⟩
theorem CI.lt (h : CI w A n c bs K wr) : w.heap.size < wr.heap.size := h.1.lt
theorem ci_pick (h : CI w A n c bs K wr) (N : Int) (hK : K ≤ 1000) (hN : N ≤ 1000) :
    Calls Try.prog 42 #[.pointer (some ⟨w.heap.size, 0, none⟩), .int .i64 N] wr fun e w' => ∃ r : Int, e = .returned (.int .i64 r) ∧ 0 ≤ r ∧ (r < N ∨ r = 0) ∧ Hid (CI w A n c bs (K + 1) w') ∧ Hid (wr.grownBy w' (some w.heap.size)) :=
  (pick_any w.heap.size A n c bs K N wr h.1 (by omega) (by omega)).mono fun _ _ ⟨x, he, hx, hc, hg⟩ => ⟨x, he, hx.1, hx.2, ⟨hc.out, below_of_grown h.2 hg.out (Nat.le_refl _) h.2.size⟩, hg⟩
theorem ci_raw (h : CI w A n c bs K wr) (hK : K ≤ 1000) :
    Calls Try.prog 43 #[.pointer (some ⟨w.heap.size, 0, none⟩)] wr fun e w' => ∃ r : Int, e = .returned (.int .i64 r) ∧ Hid ((Lit.int .i64 r).wf = true) ∧ Hid (CI w A n c bs (K + 2) w') ∧ Hid (wr.grownBy w' (some w.heap.size)) :=
  (raw_any w.heap.size A n c bs K wr h.1 (by omega)).mono fun _ _ ⟨x, he, hx, hc, hg⟩ => ⟨x, he, hx, ⟨hc.out, below_of_grown h.2 hg.out (Nat.le_refl _) h.2.size⟩, hg⟩

theorem lit_call {g b : Nat} {o : Obj} (L : wr.heap[g]? = some o) (hg : wr.grownBy w' (some b)) (hne : b < g) : w'.heap[g]? = some o := (hg.block g (Array.getElem?_eq_some_iff.1 L).1 (by simp; omega)).trans L
theorem lit_alloc {g : Nat} {o : Obj} (L : wr.heap[g]? = some o) (o' : Obj) : (wr.alloc o').heap[g]? = some o := (Below.heap_alloc wr o' g (Array.getElem?_eq_some_iff.1 L).1).trans L
end
theorem lit2 {wr : World} {g : Nat} {a1 a2 r : Int} (L : wr.heap[g]? = some (.cells #[.int .i64 a1, .int .i64 a2] 3 (0, 0))) (h1 : (Lit.int .i64 a1).wf = true) (h2 : (Lit.int .i64 a2).wf = true) (s0 : 0 ≤ r) (s1 : r < 2 ∨ r = 0) :
    ∃ v : Int, Hid ((Lit.int .i64 v).wf = true) ∧ wr.cell? ⟨g, r.toNat, none⟩ = some (.int .i64 v) := by
  have hcell := fun k => cell_of_row wr g k _ _ (0, 0) L
  rcases (show r = 0 ∨ r = 1 by omega) with rfl | rfl
  · exact ⟨a1, h1, hcell 0⟩
  · exact ⟨a2, h2, hcell 1⟩
theorem lit3 {wr : World} {g : Nat} {a1 a2 a3 r : Int} (L : wr.heap[g]? = some (.cells #[.int .i64 a1, .int .i64 a2, .int .i64 a3] 3 (0, 0))) (h1 : (Lit.int .i64 a1).wf = true) (h2 : (Lit.int .i64 a2).wf = true) (h3 : (Lit.int .i64 a3).wf = true) (s0 : 0 ≤ r) (s1 : r < 3 ∨ r = 0) :
    ∃ v : Int, Hid ((Lit.int .i64 v).wf = true) ∧ wr.cell? ⟨g, r.toNat, none⟩ = some (.int .i64 v) := by
  have hcell := fun k => cell_of_row wr g k _ _ (0, 0) L
  rcases (show r = 0 ∨ r = 1 ∨ r = 2 by omega) with rfl | rfl | rfl
  · exact ⟨a1, h1, hcell 0⟩
  · exact ⟨a2, h2, hcell 1⟩
  · exact ⟨a3, h3, hcell 2⟩
theorem lit4 {wr : World} {g : Nat} {a1 a2 a3 a4 r : Int} (L : wr.heap[g]? = some (.cells #[.int .i64 a1, .int .i64 a2, .int .i64 a3, .int .i64 a4] 3 (0, 0))) (h1 : (Lit.int .i64 a1).wf = true) (h2 : (Lit.int .i64 a2).wf = true) (h3 : (Lit.int .i64 a3).wf = true) (h4 : (Lit.int .i64 a4).wf = true) (s0 : 0 ≤ r) (s1 : r < 4 ∨ r = 0) :
    ∃ v : Int, Hid ((Lit.int .i64 v).wf = true) ∧ wr.cell? ⟨g, r.toNat, none⟩ = some (.int .i64 v) := by
  have hcell := fun k => cell_of_row wr g k _ _ (0, 0) L
  rcases (show r = 0 ∨ r = 1 ∨ r = 2 ∨ r = 3 by omega) with rfl | rfl | rfl | rfl
  · exact ⟨a1, h1, hcell 0⟩
  · exact ⟨a2, h2, hcell 1⟩
  · exact ⟨a3, h3, hcell 2⟩
  · exact ⟨a4, h4, hcell 3⟩

end Go.Proofs.Ytomcdfaomfkmjaa
