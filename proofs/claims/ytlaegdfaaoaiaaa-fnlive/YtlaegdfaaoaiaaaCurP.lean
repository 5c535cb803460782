/- What the draws of lists of blocks share: the cursor stands in the first new block, nothing old has turned. -/
import Derived.Test.YtlaegdfaaoaiaaaCurOpen
import Derived.Test.YtlaegdfaaoaiaaaCurMem
import Derived.Test.YtlaegdfaaoaiaaaOwnP
import Derived.Test.YtlaegdfaaoaiaaaBlkP
namespace Go.Proofs.Ytlaegdfaaoaiaaa
open Go.RowKit

/-- While numbers are drawn. -/
def CI (w : World) (A : Option Addr) (n c : Nat) (bs : List Int) (K : Nat) (wr : World) : Prop := Cur wr w.heap.size A n c bs K ∧ Below w.heap.size w wr
section
variable {w wr w' : World} {A : Option Addr} {n c K K' : Nat} {bs : List Int}
theorem CI.alloc (h : CI w A n c bs K wr) (o : Obj) : CI w A n c bs K (wr.alloc o) := ⟨h.1.alloc o, h.2.alloc h.2.size o⟩
theorem CI.drew (h : CI w A n c bs K wr) : CI w A n c bs K wr.drew := ⟨h.1, h.2.drew⟩
theorem CI.mono (h : CI w A n c bs K wr) (hk : K ≤ K') : CI w A n c bs K' wr := ⟨h.1.mono hk, h.2⟩
theorem CI.lt (h : CI w A n c bs K wr) : w.heap.size < wr.heap.size := h.1.lt
theorem CI.below (h : CI w A n c bs K wr) (hb : Below wr.heap.size wr w') : CI w A n c bs K w' := ⟨h.1.below hb, h.2.trans (hb.mono h.2.size)⟩
theorem CI.far (h : CI w A n c bs K wr) {row : Option Nat} (hg : wr.grownBy w' row) (hne : ∀ g, row = some g → w.heap.size < g) : CI w A n c bs K w' :=
  ⟨h.1.keep fun k hk => hg.block k (by have := h.lt; omega) (fun e => by have := hne k e.symm; omega), h.2.grown hg (Nat.le_of_lt h.lt) (fun k hk => Nat.le_of_lt (hne k hk))⟩
theorem ci_pick (h : CI w A n c bs K wr) (N : Int) (hK : K ≤ 1000) (hN : N ≤ 1000) :
    Calls Try.prog 35 #[.pointer (some ⟨w.heap.size, 0, none⟩), .int .i64 N] wr fun e w' => ∃ r : Int, e = .returned (.int .i64 r) ∧ 0 ≤ r ∧ (r < N ∨ r = 0) ∧ Hid (CI w A n c bs (K + 1) w') ∧ Hid (wr.grownBy w' (some w.heap.size)) :=
  (pick_any w.heap.size A n c bs K N wr h.1 (by omega) (by omega)).mono fun _ _ ⟨x, he, hx, hc, hg⟩ => ⟨x, he, hx.1, hx.2, ⟨hc.out, below_of_grown h.2 hg.out (Nat.le_refl _) h.2.size⟩, hg⟩
theorem ci_raw (h : CI w A n c bs K wr) (hK : K ≤ 1000) :
    Calls Try.prog 37 #[.pointer (some ⟨w.heap.size, 0, none⟩)] wr fun e w' => ∃ r : Int, e = .returned (.int .i64 r) ∧ Hid ((Lit.int .i64 r).wf = true) ∧ Hid (CI w A n c bs (K + 2) w') ∧ Hid (wr.grownBy w' (some w.heap.size)) :=
  (raw_any w.heap.size A n c bs K wr h.1 (by omega)).mono fun _ _ ⟨x, he, hx, hc, hg⟩ => ⟨x, he, hx, ⟨hc.out, below_of_grown h.2 hg.out (Nat.le_refl _) h.2.size⟩, hg⟩
theorem ci_once (h : CI w A n c bs K wr) (N : Int) (hK : K ≤ 1000) (hN0 : 0 ≤ N) (hN : N ≤ 1000) :
    Calls Try.prog 36 #[.pointer (some ⟨w.heap.size, 0, none⟩), .int .i64 N] wr fun e w' => ∃ r : Bool, e = .returned (.bool r) ∧ Hid (CI w A n c bs (K + 1) w') ∧ Hid (wr.grownBy w' (some w.heap.size)) :=
  (once_any w.heap.size A n c bs K N wr h.1 (by omega) hN0 (by omega)).mono fun _ _ ⟨x, he, hc, hg⟩ => ⟨x, he, ⟨hc.out, below_of_grown h.2 hg.out (Nat.le_refl _) h.2.size⟩, hg⟩
theorem ci_size (h : CI w A n c bs K wr) (N : Int) (hK : K ≤ 1000) (hN0 : 0 ≤ N) (hN : N ≤ 1000) :
    Calls Try.prog 41 #[.pointer (some ⟨w.heap.size, 0, none⟩), .int .i64 N] wr fun e w' => ∃ r : Int, e = .returned (.int .i64 r) ∧ 0 ≤ r ∧ r ≤ N ∧ Hid (CI w A n c bs (K + 1) w') ∧ Hid (wr.grownBy w' (some w.heap.size)) :=
  (size_any w.heap.size A n c bs K N wr h.1 (by omega) hN0 (by omega)).mono fun _ _ ⟨x, he, hx, hc, hg⟩ => ⟨x, he, hx.1, hx.2, ⟨hc.out, below_of_grown h.2 hg.out (Nat.le_refl _) h.2.size⟩, hg⟩
theorem own_cur {b0 m cm : Nat} {Am : Option Addr} {ps : List (Int × Int)} (h : OwnP wr b0 Am m cm ps) (hb : w.heap.size < b0) (hg : wr.grownBy w' (some w.heap.size)) : OwnP w' b0 Am m cm ps :=
  h.far hg (fun g hg1 e => by have := h.range g hg1; injection e with e; omega)
theorem blk_cur {b : Nat} {x y : Int} (h : BlkAt wr b x y) (hb : w.heap.size < b) (hg : wr.grownBy w' (some w.heap.size)) : BlkAt w' b x y :=
  h.far hg (fun e => by injection e with e; omega)
end
theorem wfP_snoc {ps : List (Int × Int)} {x y : Int} (h : WfP ps) (hx : -9223372036854775808 ≤ x ∧ x < 9223372036854775808) (hy : -9223372036854775808 ≤ y ∧ y < 9223372036854775808) : WfP (ps ++ [(x, y)]) := fun p hp => by
  rcases List.mem_append.1 hp with hp | hp
  · exact h p hp
  · simp at hp; subst hp; exact ⟨hx, hy⟩
theorem wfP_set {ps : List (Int × Int)} {i : Nat} {x y : Int} (h : WfP ps) (hx : -9223372036854775808 ≤ x ∧ x < 9223372036854775808) (hy : -9223372036854775808 ≤ y ∧ y < 9223372036854775808) : WfP (ps.set i (x, y)) := fun p hp => by
  rcases List.mem_or_eq_of_mem_set hp with hp | hp
  · exact h p hp
  · subst hp; exact ⟨hx, hy⟩
theorem lit_call {wr w' : World} {g b : Nat} {o : Obj} (L : wr.heap[g]? = some o) (hg : wr.grownBy w' (some b)) (hne : b < g) : w'.heap[g]? = some o := (hg.block g (Array.getElem?_eq_some_iff.1 L).1 (by simp; omega)).trans L
theorem lit3 {wr : World} {g : Nat} {a1 a2 a3 r : Int} (L : wr.heap[g]? = some (.cells #[.int .i64 a1, .int .i64 a2, .int .i64 a3] 3 (0, 0))) (h1 : (Lit.int .i64 a1).wf = true) (h2 : (Lit.int .i64 a2).wf = true) (h3 : (Lit.int .i64 a3).wf = true) (s0 : 0 ≤ r) (s1 : r < 3 ∨ r = 0) :
    ∃ v : Int, Hid ((Lit.int .i64 v).wf = true) ∧ wr.cell? ⟨g, r.toNat, none⟩ = some (.int .i64 v) := by
  have hcell := fun k => cell_of_row wr g k _ _ (0, 0) L
  rcases (show r = 0 ∨ r = 1 ∨ r = 2 by omega) with rfl | rfl | rfl
  · exact ⟨a1, h1, hcell 0⟩
  · exact ⟨a2, h2, hcell 1⟩
  · exact ⟨a3, h3, hcell 2⟩

end Go.Proofs.Ytlaegdfaaoaiaaa
