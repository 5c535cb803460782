/- The ledger of FnSema in plain numbers; a semaphore that lies in a block. -/
import Derived.Test.YthmmkleddembbaaSemaV
import Derived.Test.YthmmkleddembbaaOffK
namespace Go.Proofs.Ythmmkleddembbaa
open Go.RowKit
set_option linter.unusedVariables false

theorem sum_take_next {zs : List Int} {i : Nat} (h : i < zs.length) : (zs.take (i + 1)).sum = (zs.take i).sum + zs[i]?.getD 0 := by
  rw [List.take_succ_eq_append_getElem h, List.sum_append]; simp [h]
def Small (zs : List Int) : Prop := ∀ z ∈ zs, 1 ≤ z ∧ z ≤ 5
theorem small_sum : ∀ {zs : List Int}, Small zs → 0 ≤ zs.sum ∧ zs.sum ≤ 5 * zs.length
  | [], _ => by simp
  | z :: zs, h => by
    have h1 := small_sum (zs := zs) (fun y hy => h y (List.mem_cons_of_mem _ hy))
    have h2 := h z (List.mem_cons_self ..)
    simp only [List.sum_cons, List.length_cons]
    omega
theorem Small.take {zs : List Int} (h : Small zs) (i : Nat) : Small (zs.take i) := fun z hz => h z (List.mem_of_mem_take hz)
theorem take_sum {zs : List Int} (h : Small zs) (i : Nat) : 0 ≤ (zs.take i).sum ∧ (zs.take i).sum ≤ 5 * i := by
  have h1 := small_sum (h.take i)
  have h2 := List.length_take_le i zs
  omega
/-- After K operations: what came, what was given, what is due, who waits. -/
def SInv (K : Nat) (C E R M G D : Int) (zs : List Int) : Prop :=
  C = M - G ∧ E = D ∧ R = zs.sum ∧ 0 ≤ G ∧ G ≤ M ∧ 0 ≤ D ∧ M + D ≤ 8 + 6 * K ∧ Small zs ∧ zs.length ≤ K ∧ R ≤ C + E
theorem SInv.good {K : Nat} {C E R M G D : Int} {zs : List Int} (h : SInv K C E R M G D zs) (hK : K ≤ 30) : SemaGood C E R := by
  obtain ⟨h1, h2, h3, h4, h5, h6, h7, h8, h9, h10⟩ := h
  have := small_sum h8
  unfold SemaGood
  omega
theorem SInv.more {K : Nat} {C E R M G D : Int} {zs : List Int} (h : SInv K C E R M G D zs) : SInv (K + 1) C E R M G D zs := by
  obtain ⟨h1, h2, h3, h4, h5, h6, h7, h8, h9, h10⟩ := h
  exact ⟨h1, h2, h3, h4, h5, h6, by omega, h8, by omega, h10⟩
theorem small_snoc {zs : List Int} {x : Int} (h : Small zs) (h1 : 1 ≤ x) (h2 : x ≤ 5) : Small (zs ++ [x]) := fun z hz => by
  rcases List.mem_append.1 hz with hz | hz
  · exact h z hz
  · simp at hz; omega
theorem SInv.now {K : Nat} {C E R M G D x : Int} {zs : List Int} (h : SInv K C E R M G D zs) (hx : 1 ≤ x) (h1 : x ≤ C - R) : SInv (K + 1) (C - x) E R M (G + x) D zs := by
  obtain ⟨h1, h2, h3, h4, h5, h6, h7, h8, h9, h10⟩ := h
  have := small_sum h8
  exact ⟨by omega, h2, h3, by omega, by omega, h6, by omega, h8, by omega, by omega⟩
theorem SInv.wait {K : Nat} {C E R M G D x : Int} {zs : List Int} (h : SInv K C E R M G D zs) (hx : 1 ≤ x) (hx2 : x ≤ 5) (h2 : x ≤ C + E - R) : SInv (K + 1) C E (R + x) M G D (zs ++ [x]) := by
  obtain ⟨h1, h2, h3, h4, h5, h6, h7, h8, h9, h10⟩ := h
  exact ⟨h1, h2, by simp [List.sum_append]; omega, h4, h5, h6, by omega, small_snoc h8 hx hx2, by simp; omega, by omega⟩
theorem SInv.make {K : Nat} {C E R M G D x : Int} {zs : List Int} (h : SInv K C E R M G D zs) (hx : 1 ≤ x) (hx2 : x ≤ 5) : SInv (K + 1) C (E + 6) (R + x) M G (D + 6) (zs ++ [x]) := by
  obtain ⟨h1, h2, h3, h4, h5, h6, h7, h8, h9, h10⟩ := h
  exact ⟨h1, by omega, by simp [List.sum_append]; omega, h4, h5, by omega, by omega, small_snoc h8 hx hx2, by simp; omega, by omega⟩
theorem SInv.post {K : Nat} {C E R M G D p : Int} {zs : List Int} (h : SInv K C E R M G D zs) (hp : 1 ≤ p) (hp2 : p ≤ D) : SInv (K + 1) (C + p) (E - p) R (M + p) G (D - p) zs := by
  obtain ⟨h1, h2, h3, h4, h5, h6, h7, h8, h9, h10⟩ := h
  exact ⟨by omega, by omega, h3, h4, by omega, by omega, by omega, h8, by omega, by omega⟩
theorem SInv.serve {K : Nat} {C E R M G D z : Int} {zs : List Int} (h : SInv K C E R M G D (z :: zs)) (h1 : z ≤ C) : SInv (K + 1) (C - z) E (R - z) M (G + z) D zs := by
  obtain ⟨h1, h2, h3, h4, h5, h6, h7, h8, h9, h10⟩ := h
  have hz := h8 z (List.mem_cons_self ..)
  simp only [List.sum_cons, List.length_cons] at h3 h9
  exact ⟨by omega, h2, by omega, by omega, by omega, h6, by omega, fun y hy => h8 y (List.mem_cons_of_mem _ hy), by omega, by omega⟩
theorem SInv.serveOk {K : Nat} {C E R M G D z : Int} {zs : List Int} (h : SInv K C E R M G D (z :: zs)) (hK : K ≤ 29) : decide (ServeOk C E R z) = decide (z ≤ C) := by
  have hz := h.2.2.2.2.2.2.2.1 z (List.mem_cons_self ..)
  by_cases h1 : z ≤ C
  · rw [decide_eq_true h1]
    exact decide_eq_true ⟨⟨hz.1, by omega⟩, h.good (by omega), (h.serve h1).good (by omega)⟩
  · rw [decide_eq_false h1]
    refine decide_eq_false (fun k => ?_)
    have := k.2.2.1.1
    omega

/-- A semaphore in the block b. -/
def S3 (w : World) (b : Nat) (C E R : Int) : Prop :=
  b < w.heap.size ∧ (w.cell? ⟨b, 0, none⟩ = some (.int .i64 C) ∧ w.cell? ⟨b, 1, none⟩ = some (.int .i64 E) ∧ w.cell? ⟨b, 2, none⟩ = some (.int .i64 R)) ∧
    w.frozen? ⟨b, 0, none⟩ = false ∧ w.frozen? ⟨b, 1, none⟩ = false ∧ w.frozen? ⟨b, 2, none⟩ = false
section
variable {w w' : World} {b : Nat} {C E R : Int}
theorem S3.below {B : Nat} (h : S3 w b C E R) (hb : Below B w w') (hB : b < B) : S3 w' b C E R :=
  ⟨Nat.lt_of_lt_of_le h.1 hb.size, ⟨(hb.cell (p := ⟨b, 0, none⟩) hB).trans h.2.1.1, (hb.cell (p := ⟨b, 1, none⟩) hB).trans h.2.1.2.1, (hb.cell (p := ⟨b, 2, none⟩) hB).trans h.2.1.2.2⟩,
    (hb.frozen (p := ⟨b, 0, none⟩) hB).trans h.2.2.1, (hb.frozen (p := ⟨b, 1, none⟩) hB).trans h.2.2.2.1, (hb.frozen (p := ⟨b, 2, none⟩) hB).trans h.2.2.2.2⟩
theorem S3.alloc (h : S3 w b C E R) (o : Obj) : S3 (w.alloc o) b C E R := h.below ((Below.refl w.heap.size w).alloc (Nat.le_refl _) o) h.1
theorem S3.drew (h : S3 w b C E R) : S3 w.drew b C E R := h
theorem S3.other {p : Addr} (h : S3 w b C E R) (hp : ¬ p.block = b) (v : Value) : S3 (w.setCell p v) b C E R := by
  have ne : ∀ k, p ≠ ⟨b, k, none⟩ := fun k e => hp (by rw [e])
  exact ⟨by rw [World.size_setCell]; exact h.1, ⟨(World.cell?_setCell_other _ _ _ _ (ne 0)).trans h.2.1.1, (World.cell?_setCell_other _ _ _ _ (ne 1)).trans h.2.1.2.1, (World.cell?_setCell_other _ _ _ _ (ne 2)).trans h.2.1.2.2⟩,
    by rw [World.frozen?_setCell]; exact h.2.2.1, by rw [World.frozen?_setCell]; exact h.2.2.2.1, by rw [World.frozen?_setCell]; exact h.2.2.2.2⟩
theorem S3.set0 (h : S3 w b C E R) (x : Int) : S3 (w.setCell ⟨b, 0, none⟩ (.int .i64 x)) b x E R :=
  ⟨by rw [World.size_setCell]; exact h.1, ⟨World.cell?_setCell_same _ _ _ h.2.1.1, (World.cell?_setCell_other _ _ _ _ (by simp)).trans h.2.1.2.1, (World.cell?_setCell_other _ _ _ _ (by simp)).trans h.2.1.2.2⟩,
    by rw [World.frozen?_setCell]; exact h.2.2.1, by rw [World.frozen?_setCell]; exact h.2.2.2.1, by rw [World.frozen?_setCell]; exact h.2.2.2.2⟩
theorem S3.set1 (h : S3 w b C E R) (x : Int) : S3 (w.setCell ⟨b, 1, none⟩ (.int .i64 x)) b C x R :=
  ⟨by rw [World.size_setCell]; exact h.1, ⟨(World.cell?_setCell_other _ _ _ _ (by simp)).trans h.2.1.1, World.cell?_setCell_same _ _ _ h.2.1.2.1, (World.cell?_setCell_other _ _ _ _ (by simp)).trans h.2.1.2.2⟩,
    by rw [World.frozen?_setCell]; exact h.2.2.1, by rw [World.frozen?_setCell]; exact h.2.2.2.1, by rw [World.frozen?_setCell]; exact h.2.2.2.2⟩
theorem S3.set2 (h : S3 w b C E R) (x : Int) : S3 (w.setCell ⟨b, 2, none⟩ (.int .i64 x)) b C E x :=
  ⟨by rw [World.size_setCell]; exact h.1, ⟨(World.cell?_setCell_other _ _ _ _ (by simp)).trans h.2.1.1, (World.cell?_setCell_other _ _ _ _ (by simp)).trans h.2.1.2.1, World.cell?_setCell_same _ _ _ h.2.1.2.2⟩,
    by rw [World.frozen?_setCell]; exact h.2.2.1, by rw [World.frozen?_setCell]; exact h.2.2.2.1, by rw [World.frozen?_setCell]; exact h.2.2.2.2⟩
theorem S3.of_row {t : TypeId} (h : w.heap[b]? = some (.cells #[.int .i64 C, .int .i64 E, .int .i64 R] t (0, 0))) : S3 w b C E R :=
  ⟨(Array.getElem?_eq_some_iff.1 h).1, ⟨(cell_of_row _ _ 0 _ _ (0, 0) h).trans rfl, (cell_of_row _ _ 1 _ _ (0, 0) h).trans rfl, (cell_of_row _ _ 2 _ _ (0, 0) h).trans rfl⟩,
    by simp [World.frozen?, h], by simp [World.frozen?, h], by simp [World.frozen?, h]⟩
theorem S3.new (w : World) (C E R : Int) (t : TypeId) : S3 (w.alloc (.cells #[.int .i64 C, .int .i64 E, .int .i64 R] t)) w.heap.size C E R := S3.of_row (heap_alloc_new w _)
end

end Go.Proofs.Ythmmkleddembbaa
