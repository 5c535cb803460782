/- The model's draws of semaphores: sema, many, DrawSemaPack, DrawSemaRead, DrawSemaPost; nothing old has turned. -/
import Derived.Test.YthmmkleddembbaaCurOpen
import Derived.Test.YthmmkleddembbaaSSema
import Derived.Deep.RegionHeld3
import Derived.OpenShut
namespace Go.Proofs.Ythmmkleddembbaa
open Go.RowKit
set_option linter.unusedVariables false
set_option linter.unusedSimpArgs false

theorem blkS {w : World} {b : Nat} {v0 v1 v2 : Value} {t : TypeId} (h : w.heap[b]? = some (.cells #[v0, v1, v2] t (0, 0))) :
    (w.cell? ⟨b, 0, none⟩ = some v0 ∧ w.cell? ⟨b, 1, none⟩ = some v1 ∧ w.cell? ⟨b, 2, none⟩ = some v2) ∧ w.frozen? ⟨b, 0, none⟩ = false ∧ w.frozen? ⟨b, 1, none⟩ = false ∧ w.frozen? ⟨b, 2, none⟩ = false :=
  ⟨⟨(cell_of_row _ _ 0 _ _ (0, 0) h).trans rfl, (cell_of_row _ _ 1 _ _ (0, 0) h).trans rfl, (cell_of_row _ _ 2 _ _ (0, 0) h).trans rfl⟩, by simp [World.frozen?, h], by simp [World.frozen?, h], by simp [World.frozen?, h]⟩
theorem litS_call {wr w' : World} {g b : Nat} {o : Obj} (L : wr.heap[g]? = some o) (hg : wr.grownBy w' (some b)) (hne : b < g) : w'.heap[g]? = some o := (hg.block g (Array.getElem?_eq_some_iff.1 L).1 (by simp; omega)).trans L
theorem litS_ne {wr w' : World} {g b : Nat} {o : Obj} (L : wr.heap[g]? = some o) (hg : wr.grownBy w' (some b)) (hne : g ≠ b) : w'.heap[g]? = some o := (hg.block g (Array.getElem?_eq_some_iff.1 L).1 (by simp; omega)).trans L
theorem litS_alloc {wr : World} {g : Nat} {o : Obj} (L : wr.heap[g]? = some o) (o' : Obj) : (wr.alloc o').heap[g]? = some o := (Below.heap_alloc wr o' g (Array.getElem?_eq_some_iff.1 L).1).trans L
theorem litS2 {wr : World} {g : Nat} {a1 a2 r : Int} (L : wr.heap[g]? = some (.cells #[.int .i64 a1, .int .i64 a2] 3 (0, 0))) (h1 : (Lit.int .i64 a1).wf = true) (h2 : (Lit.int .i64 a2).wf = true) (s0 : 0 ≤ r) (s1 : r < 2 ∨ r = 0) :
    ∃ v : Int, Hid ((Lit.int .i64 v).wf = true) ∧ wr.cell? ⟨g, r.toNat, none⟩ = some (.int .i64 v) := by
  have hcell := fun k => cell_of_row wr g k _ _ (0, 0) L
  rcases (show r = 0 ∨ r = 1 by omega) with rfl | rfl
  · exact ⟨a1, h1, hcell 0⟩
  · exact ⟨a2, h2, hcell 1⟩
theorem litS3 {wr : World} {g : Nat} {a1 a2 a3 r : Int} (L : wr.heap[g]? = some (.cells #[.int .i64 a1, .int .i64 a2, .int .i64 a3] 3 (0, 0))) (h1 : (Lit.int .i64 a1).wf = true) (h2 : (Lit.int .i64 a2).wf = true) (h3 : (Lit.int .i64 a3).wf = true) (s0 : 0 ≤ r) (s1 : r < 3 ∨ r = 0) :
    ∃ v : Int, Hid ((Lit.int .i64 v).wf = true) ∧ wr.cell? ⟨g, r.toNat, none⟩ = some (.int .i64 v) := by
  have hcell := fun k => cell_of_row wr g k _ _ (0, 0) L
  rcases (show r = 0 ∨ r = 1 ∨ r = 2 by omega) with rfl | rfl | rfl
  · exact ⟨a1, h1, hcell 0⟩
  · exact ⟨a2, h2, hcell 1⟩
  · exact ⟨a3, h3, hcell 2⟩
theorem litS5 {wr : World} {g : Nat} {a1 a2 a3 a4 a5 r : Int} (L : wr.heap[g]? = some (.cells #[.int .i64 a1, .int .i64 a2, .int .i64 a3, .int .i64 a4, .int .i64 a5] 3 (0, 0))) (h1 : (Lit.int .i64 a1).wf = true) (h2 : (Lit.int .i64 a2).wf = true) (h3 : (Lit.int .i64 a3).wf = true) (h4 : (Lit.int .i64 a4).wf = true) (h5 : (Lit.int .i64 a5).wf = true) (s0 : 0 ≤ r) (s1 : r < 5 ∨ r = 0) :
    ∃ v : Int, Hid ((Lit.int .i64 v).wf = true) ∧ wr.cell? ⟨g, r.toNat, none⟩ = some (.int .i64 v) := by
  have hcell := fun k => cell_of_row wr g k _ _ (0, 0) L
  rcases (show r = 0 ∨ r = 1 ∨ r = 2 ∨ r = 3 ∨ r = 4 by omega) with rfl | rfl | rfl | rfl | rfl
  · exact ⟨a1, h1, hcell 0⟩
  · exact ⟨a2, h2, hcell 1⟩
  · exact ⟨a3, h3, hcell 2⟩
  · exact ⟨a4, h4, hcell 3⟩
  · exact ⟨a5, h5, hcell 4⟩

/-- A block that holds a semaphore. -/
def semaB (C E R : Int) : Obj := .cells #[.int .i64 C, .int .i64 E, .int .i64 R] 26 (0, 0)
/-- While a semaphore is drawn: the cursor, the cell of the result, the block of the semaphore so far; nothing else has turned. -/
def DS (w0 : World) (b : Nat) (A : Option Addr) (n c : Nat) (bs : List Int) (K kb : Nat) (C E R : Int) (wr : World) : Prop :=
  Cur wr b A n c bs K ∧ w0.grownBy wr (some b) ∧ wr.heap[w0.heap.size]? = some (semaB 0 0 0) ∧ wr.heap[kb]? = some (semaB C E R) ∧ b < w0.heap.size ∧ w0.heap.size < kb
section
variable {w0 wr w' : World} {b n c K kb : Nat} {A : Option Addr} {bs : List Int} {C E R : Int}
theorem DS.moved {K' : Nat} (h : DS w0 b A n c bs K kb C E R wr) (hc : Cur w' b A n c bs K') (hg : wr.grownBy w' (some b)) : DS w0 b A n c bs K' kb C E R w' := by
  obtain ⟨_, h2, h3, h4, h5, h6⟩ := h
  exact ⟨hc, gtrans h2 hg, litS_call h3 hg h5, litS_call h4 hg (by omega), h5, h6⟩
theorem DS.drew (h : DS w0 b A n c bs K kb C E R wr) : DS w0 b A n c bs K kb C E R wr.drew := h.moved h.1.drew (gdrew (World.grownBy.refl _ _))
theorem DS.alloc (h : DS w0 b A n c bs K kb C E R wr) (o : Obj) : DS w0 b A n c bs K kb C E R (wr.alloc o) := h.moved (h.1.alloc o) (World.grownBy_alloc _ _ _)
theorem DS.lt (h : DS w0 b A n c bs K kb C E R wr) : b < wr.heap.size := h.1.lt
theorem DS.pick (h : DS w0 b A n c bs K kb C E R wr) (N : Int) (hK : K ≤ 1000) (hN : N ≤ 100000) :
    Calls Try.prog 27 #[.pointer (some ⟨b, 0, none⟩), .int .i64 N] wr fun e w' => ∃ r : Int, e = .returned (.int .i64 r) ∧ 0 ≤ r ∧ (r < N ∨ r = 0) ∧ Hid (DS w0 b A n c bs (K + 1) kb C E R w') ∧ Hid (wr.grownBy w' (some b)) :=
  (pick_any b A n c bs K N wr h.1 (by omega) (by omega)).mono fun _ _ ⟨x, he, hx, hc, hg⟩ => ⟨x, he, hx.1, hx.2, h.moved hc.out hg.out, hg⟩
theorem DS.raw (h : DS w0 b A n c bs K kb C E R wr) (hK : K ≤ 1000) :
    Calls Try.prog 28 #[.pointer (some ⟨b, 0, none⟩)] wr fun e w' => ∃ r : Int, e = .returned (.int .i64 r) ∧ Hid ((Lit.int .i64 r).wf = true) ∧ Hid (DS w0 b A n c bs (K + 2) kb C E R w') :=
  (raw_any b A n c bs K wr h.1 (by omega)).mono fun _ _ ⟨x, he, hx, hc, hg⟩ => ⟨x, he, hx, h.moved hc.out hg.out⟩
theorem DS.stored (h : DS w0 b A n c bs K kb C E R wr) {i : Nat} {v : Value} {C' E' R' : Int} (he : (wr.setCell ⟨kb, i, none⟩ v).heap[kb]? = some (semaB C' E' R')) : DS w0 b A n c bs K kb C' E' R' (wr.setCell ⟨kb, i, none⟩ v) := by
  obtain ⟨h1, h2, h3, h4, h5, h6⟩ := h
  have hk : ∀ k, k ≠ kb → (wr.setCell ⟨kb, i, none⟩ v).heap[k]? = wr.heap[k]? := fun k hk => Below.heap_setCell wr ⟨kb, i, none⟩ v k hk
  exact ⟨h1.keep fun k hk2 => hk k (by omega), gnew h2 (by omega) v, (hk _ (by omega)).trans h3, he, h5, h6⟩
theorem DS.set0 (h : DS w0 b A n c bs K kb C E R wr) (x : Int) : DS w0 b A n c bs K kb x E R (wr.setCell ⟨kb, 0, none⟩ (.int .i64 x)) := h.stored (by simp [World.setCell, Array.getElem?_modify, h.2.2.2.1, semaB])
theorem DS.set1 (h : DS w0 b A n c bs K kb C E R wr) (x : Int) : DS w0 b A n c bs K kb C x R (wr.setCell ⟨kb, 1, none⟩ (.int .i64 x)) := h.stored (by simp [World.setCell, Array.getElem?_modify, h.2.2.2.1, semaB])
theorem DS.set2 (h : DS w0 b A n c bs K kb C E R wr) (x : Int) : DS w0 b A n c bs K kb C E x (wr.setCell ⟨kb, 2, none⟩ (.int .i64 x)) := h.stored (by simp [World.setCell, Array.getElem?_modify, h.2.2.2.1, semaB])
theorem DS.cells (h : DS w0 b A n c bs K kb C E R wr) :
    ((wr.cell? ⟨kb, 0, none⟩ = some (.int .i64 C) ∧ wr.cell? ⟨kb, 1, none⟩ = some (.int .i64 E) ∧ wr.cell? ⟨kb, 2, none⟩ = some (.int .i64 R)) ∧
      wr.frozen? ⟨kb, 0, none⟩ = false ∧ wr.frozen? ⟨kb, 1, none⟩ = false ∧ wr.frozen? ⟨kb, 2, none⟩ = false) := blkS h.2.2.2.1
theorem DS.res (h : DS w0 b A n c bs K kb C E R wr) :
    ((wr.cell? ⟨w0.heap.size, 0, none⟩ = some (.int .i64 0) ∧ wr.cell? ⟨w0.heap.size, 1, none⟩ = some (.int .i64 0) ∧ wr.cell? ⟨w0.heap.size, 2, none⟩ = some (.int .i64 0)) ∧
      wr.frozen? ⟨w0.heap.size, 0, none⟩ = false ∧ wr.frozen? ⟨w0.heap.size, 1, none⟩ = false ∧ wr.frozen? ⟨w0.heap.size, 2, none⟩ = false) := blkS h.2.2.1
/-- The end: the semaphore is handed out through the cell of the result. -/
theorem DS.fin (h : DS w0 b A n c bs K kb C E R wr) {K' : Nat} (hK : K ≤ K') (v0 v1 v2 : Value) :
    Cur (((wr.setCell ⟨w0.heap.size, 0, none⟩ v0).setCell ⟨w0.heap.size, 1, none⟩ v1).setCell ⟨w0.heap.size, 2, none⟩ v2) b A n c bs K' ∧
      w0.grownBy (((wr.setCell ⟨w0.heap.size, 0, none⟩ v0).setCell ⟨w0.heap.size, 1, none⟩ v1).setCell ⟨w0.heap.size, 2, none⟩ v2) (some b) := by
  obtain ⟨h1, h2, h3, h4, h5, h6⟩ := h
  refine ⟨(h1.mono hK).keep fun k hk => ?_, gnew (gnew (gnew h2 (Nat.le_refl _) _) (Nat.le_refl _) _) (Nat.le_refl _) _⟩
  rw [Below.heap_setCell _ _ _ _ (by show k ≠ w0.heap.size; omega), Below.heap_setCell _ _ _ _ (by show k ≠ w0.heap.size; omega), Below.heap_setCell _ _ _ _ (by show k ≠ w0.heap.size; omega)]
end
/-- A semaphore was drawn. -/
def GotSema (b : Nat) (A : Option Addr) (n c : Nat) (bs : List Int) (K : Nat) (w : World) (e : Ending) (w' : World) : Prop :=
  ∃ C E R : Int, e = .returned (.agg #[.int .i64 C, .int .i64 E, .int .i64 R]) ∧ Hid ((Lit.int .i64 C).wf = true) ∧ Hid ((Lit.int .i64 E).wf = true) ∧ Hid ((Lit.int .i64 R).wf = true) ∧ Hid (Cur w' b A n c bs (K + 7)) ∧ Hid (w.grownBy w' (some b))

set_option maxRecDepth 100000 in
set_option maxHeartbeats 4000000 in
theorem sema_any (b : Nat) (A : Option Addr) (n c : Nat) (bs : List Int) (K : Nat) (w : World) (h : Cur w b A n c bs K) (hK : K ≤ 900) :
    Calls Try.prog 22 #[.pointer (some ⟨b, 0, none⟩)] w (GotSema b A n c bs K w) := by
  have H := Lib.hid h
  have hlt := h.lt
  clear h
  go_enter Try.func22, Try.ntmps22
  go_wp2_with fail
  refine (pick_any b A n c bs K 12 _ (H.out.alloc _) (by omega) (by omega)).mono ?_
  rintro e w1 ⟨r1, rfl, ⟨p0, p1⟩, C1, G1⟩
  have p2 : r1 < 12 := by omega
  clear p1 H
  go_wp2_with fail
  refine (pick_any b A n c bs (K + 1) 12 _ C1.out (by omega) (by omega)).mono ?_
  rintro e w2 ⟨r2, rfl, ⟨s0, s1⟩, C2, G2⟩
  have s2 : r2 < 12 := by omega
  clear s1
  have G3 := Lib.hid (gtrans (gtrans (World.grownBy_alloc _ _ _) G1.out) G2.out)
  have L3 := Lib.hid (litS_call (litS_call (heap_alloc_new w (.cells #[.int .i64 0, .int .i64 0, .int .i64 0] 26)) G1.out hlt) G2.out hlt)
  have hk1 : w.heap.size < w2.heap.size := by have := G3.out.size; have := (Array.getElem?_eq_some_iff.1 L3.out).1; omega
  have D3 : Hid (DS w b A n c bs (K + 2) w2.heap.size r1 r2 0 (w2.alloc (.cells #[.int .i64 r1, .int .i64 r2, .int .i64 0] 26))) :=
    ⟨C2.out.alloc _, galloc G3.out _, litS_alloc L3.out _, heap_alloc_new w2 _, hlt, hk1⟩
  have hkne : ¬ w.heap.size = w2.heap.size := by omega
  have hkne' : ¬ w2.heap.size = w.heap.size := by omega
  clear C1 C2 G1 G2 G3 L3
  obtain ⟨⟨c0, c1, c2⟩, f0, f1, f2⟩ := D3.out.cells
  go_wp2_with fail
  refine (D3.out.pick (r1 + r2 + 1) (by omega) (by omega)).mono ?_
  rintro e w3 ⟨r3, rfl, t0, t1, D4, _⟩
  have t2 : r3 < 24 := by omega
  clear t1 c0 c1 c2 f0 f1 f2 D3
  have W1 := Lib.hid (wf_i64 (r := r1) (by omega) (by omega))
  have W2 := Lib.hid (wf_i64 (r := r2) (by omega) (by omega))
  have W3 := Lib.hid (wf_i64 (r := r3) (by omega) (by omega))
  obtain ⟨⟨c0, c1, c2⟩, f0, f1, f2⟩ := D4.out.cells
  have D5 := Lib.hid (D4.out.set2 r3)
  go_wp2_with fail
  refine (D5.out.pick 12 (by omega) (by omega)).mono ?_
  rintro e w4 ⟨r4, rfl, u0, u1, D6, _⟩
  have u2 : r4 < 12 := by omega
  clear u1 c0 c1 c2 f0 f1 f2 D5 D4
  have hl4 := D6.out.lt
  by_cases e0 : r4 = 0
  · subst e0
    go_wp2_with fail
    refine (D6.out.raw (by omega)).mono ?_
    rintro e w5 ⟨r5, rfl, R5, D7⟩
    have hl5 := D7.out.lt
    go_wp2_with fail
    refine ((D7.out.alloc _).pick 3 (by omega) (by omega)).mono ?_
    rintro e w6 ⟨r6, rfl, y0, y1, D8, G8⟩
    have y2 : r6 < 3 := by omega
    obtain ⟨v, hv, hc⟩ := litS3 (r := r6) (litS_call (heap_alloc_new w5 _) G8.out hl5) R5.out (wf_i64 (r := 1000) (by omega) (by omega)) (wf_i64 (r := 1001) (by omega) (by omega)) y0 y1
    obtain ⟨⟨c0, c1, c2⟩, f0, f1, f2⟩ := D8.out.cells
    obtain ⟨⟨q0, q1, q2⟩, g0, g1, g2⟩ := D8.out.res
    have D9 := Lib.hid (D8.out.set0 v)
    clear D6 D7 G8 y1 R5
    go_wp2
    refine bodyPost_ret (v := .agg #[.int .i64 v, .int .i64 r2, .int .i64 r3]) ?_ rfl ⟨v, r2, r3, rfl, hv, W2, W3, ?_, ?_⟩
    · simp [results, Try.results22, go_sem, *]
    · with_reducible exact Lib.hid (D9.out.fin (K' := K + 7) (by omega) _ _ _).1
    · with_reducible exact Lib.hid (D9.out.fin (K' := K + 7) (by omega) _ _ _).2
  · by_cases e1 : r4 = 1
    · subst e1
      go_wp2_with fail
      refine (D6.out.raw (by omega)).mono ?_
      rintro e w5 ⟨r5, rfl, R5, D7⟩
      have hl5 := D7.out.lt
      go_wp2_with fail
      refine ((D7.out.alloc _).pick 3 (by omega) (by omega)).mono ?_
      rintro e w6 ⟨r6, rfl, y0, y1, D8, G8⟩
      have y2 : r6 < 3 := by omega
      obtain ⟨v, hv, hc⟩ := litS3 (r := r6) (litS_call (heap_alloc_new w5 _) G8.out hl5) R5.out (wf_i64 (r := 1000) (by omega) (by omega)) (wf_i64 (r := 1001) (by omega) (by omega)) y0 y1
      obtain ⟨⟨c0, c1, c2⟩, f0, f1, f2⟩ := D8.out.cells
      obtain ⟨⟨q0, q1, q2⟩, g0, g1, g2⟩ := D8.out.res
      have D9 := Lib.hid (D8.out.set1 v)
      clear D6 D7 G8 y1 R5
      go_wp2
      refine bodyPost_ret (v := .agg #[.int .i64 r1, .int .i64 v, .int .i64 r3]) ?_ rfl ⟨r1, v, r3, rfl, W1, hv, W3, ?_, ?_⟩
      · simp [results, Try.results22, go_sem, *]
      · with_reducible exact Lib.hid (D9.out.fin (K' := K + 7) (by omega) _ _ _).1
      · with_reducible exact Lib.hid (D9.out.fin (K' := K + 7) (by omega) _ _ _).2
    · by_cases e2 : r4 = 2
      · subst e2
        have x5 := Lib.hid D6.out.drew
        obtain ⟨⟨c0, c1, c2⟩, f0, f1, f2⟩ := D6.out.cells
        have c2d : w4.drew.cell? ⟨w2.heap.size, 2, none⟩ = some (.int .i64 r3) := c2
        have ew : IntKind.i64.wrap (r3 + 5) = r3 + 5 := IntWalk.i64_in _ (by omega)
        have hl4d : b < w4.drew.heap.size := hl4
        clear c0 c1 c2 f0 f1 f2
        go_wp2_with fail
        refine wp_region_noPanic ?_
        refine wp_region_held_drew (S := fun _ => True) (by kernel_rfl) trivial (fun hHeld => ?_)
        refine wpAnyH_take (i := 0) (v := ?v1) rfl (by kernel_rfl) (by kernel_rfl) (by kernel_rfl) (fun _ _ _ h => h) (Or.inl ⟨by rfl, ?hy1⟩) (by assumption) ?rest1
        case hy1 =>
          intro wz hSw
          clear hSw
          go_simp <;> with_reducible rfl
        try simp only [List.getElem_toArray, List.getElem_cons_zero, List.getElem_cons_succ, Act.put, List.setIfInBounds_toArray, List.set_cons_zero, List.set_cons_succ]
        refine wpAnyH_take (i := 2) (v := ?v2) rfl (by kernel_rfl) (by kernel_rfl) (by kernel_rfl) (fun _ _ _ h => h) (Or.inl ⟨by rfl, ?hy2⟩) (by assumption) ?rest2
        case hy2 =>
          intro wz hSw
          clear hSw
          go_simp <;> with_reducible rfl
        try simp only [List.getElem_toArray, List.getElem_cons_zero, List.getElem_cons_succ, Act.put, List.setIfInBounds_toArray, List.set_cons_zero, List.set_cons_succ]
        refine wpAnyH_take (i := 6) (v := ?v3) rfl (by kernel_rfl) (by kernel_rfl) (by kernel_rfl) (fun _ _ _ h => h) (Or.inl ⟨by rfl, ?hy3⟩) (by assumption) ?rest3
        case hy3 =>
          intro wz hSw
          clear hSw
          go_simp <;> with_reducible rfl
        try simp only [List.getElem_toArray, List.getElem_cons_zero, List.getElem_cons_succ, Act.put, List.setIfInBounds_toArray, List.set_cons_zero, List.set_cons_succ]
        refine wpAnyH_ready (rs := [1, 3]) (by kernel_rfl) (by simp) (AllReadyH.cons rfl (fun K hK => ?_) (AllReadyH.cons rfl (fun K hK => ?_) AllReadyH.nil))
        · skip
          go_simp
          refine (x5.out.raw (by omega)).mono ?_
          rintro e w5 ⟨r5, rfl, R5, E1⟩
          obtain ⟨⟨_, _, c2w⟩, _⟩ := E1.out.cells
          have hl5 := E1.out.lt
          go_wp2_with fail
          clear hHeld
          refine hK.out _ _ (trivial) (fun hHeld => ?_)
          clear hK K
          try simp only [List.getElem_toArray, List.getElem_cons_zero, List.getElem_cons_succ, Act.put, List.setIfInBounds_toArray, List.set_cons_zero, List.set_cons_succ]
          refine wpAnyH_ready (rs := [3, 7]) (by kernel_rfl) (by simp) (AllReadyH.cons rfl (fun K hK => ?_) (AllReadyH.cons rfl (fun K hK => ?_) AllReadyH.nil))
          · skip
            go_simp
            clear hHeld
            refine hK.out _ _ (trivial) (fun hHeld => ?_)
            clear hK K
            try simp only [List.getElem_toArray, List.getElem_cons_zero, List.getElem_cons_succ, Act.put, List.setIfInBounds_toArray, List.set_cons_zero, List.set_cons_succ]
            refine wpAnyH_take (i := 4) (v := .int .i64 (r3 + 5)) rfl (by kernel_rfl) (by kernel_rfl) (by kernel_rfl) (fun _ _ _ h => h) (Or.inl ⟨by rfl, ?hy4⟩) (by assumption) ?rest4
            case hy4 =>
              intro wz hSw
              clear hSw
              first
                | (go_simp; done)
                | (go_simp <;> with_reducible rfl)
                | (go_simp; rw [ew])
            try simp only [List.getElem_toArray, List.getElem_cons_zero, List.getElem_cons_succ, Act.put, List.setIfInBounds_toArray, List.set_cons_zero, List.set_cons_succ]
            refine wpAnyH_ready (rs := [5, 7]) (by kernel_rfl) (by simp) (AllReadyH.cons rfl (fun K hK => ?_) (AllReadyH.cons rfl (fun K hK => ?_) AllReadyH.nil))
            · skip
              have L3 := Lib.hid (heap_alloc_new w5 (.cells #[.int .i64 r5, .int .i64 (r3 + 5)] 3))
              have E3 := Lib.hid (E1.out.alloc (.cells #[.int .i64 r5, .int .i64 (r3 + 5)] 3))
              go_simp
              clear hHeld
              refine hK.out _ _ (trivial) (fun hHeld => ?_)
              clear hK K
              try simp only [List.getElem_toArray, List.getElem_cons_zero, List.getElem_cons_succ, Act.put, List.setIfInBounds_toArray, List.set_cons_zero, List.set_cons_succ]
              refine wpAnyH_ready (rs := [7]) (by kernel_rfl) (by simp) (AllReadyH.cons rfl (fun K hK => ?_) AllReadyH.nil)
              go_simp
              refine (E3.out.pick 2 (by omega) (by omega)).mono ?_
              rintro e w7 ⟨r7, rfl, y0, y1, E4, G4⟩
              have y2 : r7 < 2 := by omega
              obtain ⟨⟨_, _, c2x⟩, _⟩ := E4.out.cells
              have M4 := Lib.hid (litS_call L3.out G4.out (by first | exact hl5 | omega))
              go_wp2_with fail
              clear hHeld
              refine hK.out _ _ (trivial) (fun hHeld => ?_)
              clear hK K
              try simp only [List.getElem_toArray, List.getElem_cons_zero, List.getElem_cons_succ, Act.put, List.setIfInBounds_toArray, List.set_cons_zero, List.set_cons_succ]
              obtain ⟨v, hv, hc⟩ := litS2 (r := r7) M4.out R5.out (wf_i64 (r := r3 + 5) (by omega) (by omega)) y0 y1
              refine wpAnyH_take (i := 8) (v := ?v5) rfl (by kernel_rfl) (by kernel_rfl) (by kernel_rfl) (fun _ _ _ h => h) (Or.inl ⟨by rfl, ?hy5⟩) (by assumption) ?rest5
              case hy5 =>
                intro wz hSw
                clear hSw
                go_simp <;> with_reducible rfl
              try simp only [List.getElem_toArray, List.getElem_cons_zero, List.getElem_cons_succ, Act.put, List.setIfInBounds_toArray, List.set_cons_zero, List.set_cons_succ]
              refine wpAnyH_ready (rs := [9]) (by kernel_rfl) (by simp) (AllReadyH.cons rfl (fun K hK => ?_) AllReadyH.nil)
              go_simp
              clear hHeld
              refine hK.out _ _ (trivial) (fun hHeld => ?_)
              clear hK K
              try simp only [List.getElem_toArray, List.getElem_cons_zero, List.getElem_cons_succ, Act.put, List.setIfInBounds_toArray, List.set_cons_zero, List.set_cons_succ]
              refine wpAnyH_take (i := 10) (v := ?v6) rfl (by kernel_rfl) (by kernel_rfl) (by kernel_rfl) (fun _ _ _ h => h) (Or.inl ⟨by rfl, ?hy6⟩) (by assumption) ?rest6
              case hy6 =>
                intro wz hSw
                clear hSw
                go_simp <;> with_reducible rfl
              try simp only [List.getElem_toArray, List.getElem_cons_zero, List.getElem_cons_succ, Act.put, List.setIfInBounds_toArray, List.set_cons_zero, List.set_cons_succ]
              refine wpAnyH_ready (rs := [11]) (by kernel_rfl) (by simp) (AllReadyH.cons rfl (fun K hK => ?_) AllReadyH.nil)
              obtain ⟨⟨c0, c1, c2⟩, f0, f1, f2⟩ := E4.out.cells
              obtain ⟨⟨q0, q1, q2⟩, g0, g1, g2⟩ := E4.out.res
              have D9 := Lib.hid (E4.out.set2 v)
              go_simp
              clear hHeld
              refine hK.out _ _ (trivial) (fun hHeld => ?_)
              clear hK K
              try simp only [List.getElem_toArray, List.getElem_cons_zero, List.getElem_cons_succ, Act.put, List.setIfInBounds_toArray, List.set_cons_zero, List.set_cons_succ]
              refine wpAnyH_done (by kernel_rfl) ?_ _
              refine NoPanic.normal ?_
              go_wp2
              refine bodyPost_ret (v := .agg #[.int .i64 r1, .int .i64 r2, .int .i64 v]) ?_ rfl ⟨r1, r2, v, rfl, W1, W2, hv, ?_, ?_⟩
              · simp [results, Try.results22, go_sem, *]
              · with_reducible exact Lib.hid (D9.out.fin (K' := K + 7) (by omega) _ _ _).1
              · with_reducible exact Lib.hid (D9.out.fin (K' := K + 7) (by omega) _ _ _).2
            · skip
              go_simp
              refine (E1.out.pick 2 (by omega) (by omega)).mono ?_
              rintro e w7 ⟨r7, rfl, y0, y1, E3, G3⟩
              have y2 : r7 < 2 := by omega
              obtain ⟨⟨_, _, c2x⟩, _⟩ := E3.out.cells
              go_wp2_with fail
              clear hHeld
              refine hK.out _ _ (trivial) (fun hHeld => ?_)
              clear hK K
              try simp only [List.getElem_toArray, List.getElem_cons_zero, List.getElem_cons_succ, Act.put, List.setIfInBounds_toArray, List.set_cons_zero, List.set_cons_succ]
              refine wpAnyH_ready (rs := [5]) (by kernel_rfl) (by simp) (AllReadyH.cons rfl (fun K hK => ?_) AllReadyH.nil)
              have L6 := Lib.hid (heap_alloc_new w7 (.cells #[.int .i64 r5, .int .i64 (r3 + 5)] 3))
              have E6 := Lib.hid (E3.out.alloc (.cells #[.int .i64 r5, .int .i64 (r3 + 5)] 3))
              go_simp
              clear hHeld
              refine hK.out _ _ (trivial) (fun hHeld => ?_)
              clear hK K
              try simp only [List.getElem_toArray, List.getElem_cons_zero, List.getElem_cons_succ, Act.put, List.setIfInBounds_toArray, List.set_cons_zero, List.set_cons_succ]
              obtain ⟨v, hv, hc⟩ := litS2 (r := r7) L6.out R5.out (wf_i64 (r := r3 + 5) (by omega) (by omega)) y0 y1
              refine wpAnyH_take (i := 8) (v := ?v7) rfl (by kernel_rfl) (by kernel_rfl) (by kernel_rfl) (fun _ _ _ h => h) (Or.inl ⟨by rfl, ?hy7⟩) (by assumption) ?rest7
              case hy7 =>
                intro wz hSw
                clear hSw
                go_simp <;> with_reducible rfl
              try simp only [List.getElem_toArray, List.getElem_cons_zero, List.getElem_cons_succ, Act.put, List.setIfInBounds_toArray, List.set_cons_zero, List.set_cons_succ]
              refine wpAnyH_ready (rs := [9]) (by kernel_rfl) (by simp) (AllReadyH.cons rfl (fun K hK => ?_) AllReadyH.nil)
              go_simp
              clear hHeld
              refine hK.out _ _ (trivial) (fun hHeld => ?_)
              clear hK K
              try simp only [List.getElem_toArray, List.getElem_cons_zero, List.getElem_cons_succ, Act.put, List.setIfInBounds_toArray, List.set_cons_zero, List.set_cons_succ]
              refine wpAnyH_take (i := 10) (v := ?v8) rfl (by kernel_rfl) (by kernel_rfl) (by kernel_rfl) (fun _ _ _ h => h) (Or.inl ⟨by rfl, ?hy8⟩) (by assumption) ?rest8
              case hy8 =>
                intro wz hSw
                clear hSw
                go_simp <;> with_reducible rfl
              try simp only [List.getElem_toArray, List.getElem_cons_zero, List.getElem_cons_succ, Act.put, List.setIfInBounds_toArray, List.set_cons_zero, List.set_cons_succ]
              refine wpAnyH_ready (rs := [11]) (by kernel_rfl) (by simp) (AllReadyH.cons rfl (fun K hK => ?_) AllReadyH.nil)
              obtain ⟨⟨c0, c1, c2⟩, f0, f1, f2⟩ := E6.out.cells
              obtain ⟨⟨q0, q1, q2⟩, g0, g1, g2⟩ := E6.out.res
              have D9 := Lib.hid (E6.out.set2 v)
              go_simp
              clear hHeld
              refine hK.out _ _ (trivial) (fun hHeld => ?_)
              clear hK K
              try simp only [List.getElem_toArray, List.getElem_cons_zero, List.getElem_cons_succ, Act.put, List.setIfInBounds_toArray, List.set_cons_zero, List.set_cons_succ]
              refine wpAnyH_done (by kernel_rfl) ?_ _
              refine NoPanic.normal ?_
              go_wp2
              refine bodyPost_ret (v := .agg #[.int .i64 r1, .int .i64 r2, .int .i64 v]) ?_ rfl ⟨r1, r2, v, rfl, W1, W2, hv, ?_, ?_⟩
              · simp [results, Try.results22, go_sem, *]
              · with_reducible exact Lib.hid (D9.out.fin (K' := K + 7) (by omega) _ _ _).1
              · with_reducible exact Lib.hid (D9.out.fin (K' := K + 7) (by omega) _ _ _).2
          · skip
            go_simp
            refine (E1.out.pick 2 (by omega) (by omega)).mono ?_
            rintro e w7 ⟨r7, rfl, y0, y1, E2, G2⟩
            have y2 : r7 < 2 := by omega
            obtain ⟨⟨_, _, c2x⟩, _⟩ := E2.out.cells
            go_wp2_with fail
            clear hHeld
            refine hK.out _ _ (trivial) (fun hHeld => ?_)
            clear hK K
            try simp only [List.getElem_toArray, List.getElem_cons_zero, List.getElem_cons_succ, Act.put, List.setIfInBounds_toArray, List.set_cons_zero, List.set_cons_succ]
            refine wpAnyH_ready (rs := [3]) (by kernel_rfl) (by simp) (AllReadyH.cons rfl (fun K hK => ?_) AllReadyH.nil)
            go_simp
            clear hHeld
            refine hK.out _ _ (trivial) (fun hHeld => ?_)
            clear hK K
            try simp only [List.getElem_toArray, List.getElem_cons_zero, List.getElem_cons_succ, Act.put, List.setIfInBounds_toArray, List.set_cons_zero, List.set_cons_succ]
            refine wpAnyH_take (i := 4) (v := .int .i64 (r3 + 5)) rfl (by kernel_rfl) (by kernel_rfl) (by kernel_rfl) (fun _ _ _ h => h) (Or.inl ⟨by rfl, ?hy9⟩) (by assumption) ?rest9
            case hy9 =>
              intro wz hSw
              clear hSw
              first
                | (go_simp; done)
                | (go_simp <;> with_reducible rfl)
                | (go_simp; rw [ew])
            try simp only [List.getElem_toArray, List.getElem_cons_zero, List.getElem_cons_succ, Act.put, List.setIfInBounds_toArray, List.set_cons_zero, List.set_cons_succ]
            refine wpAnyH_ready (rs := [5]) (by kernel_rfl) (by simp) (AllReadyH.cons rfl (fun K hK => ?_) AllReadyH.nil)
            have L9 := Lib.hid (heap_alloc_new w7 (.cells #[.int .i64 r5, .int .i64 (r3 + 5)] 3))
            have E9 := Lib.hid (E2.out.alloc (.cells #[.int .i64 r5, .int .i64 (r3 + 5)] 3))
            go_simp
            clear hHeld
            refine hK.out _ _ (trivial) (fun hHeld => ?_)
            clear hK K
            try simp only [List.getElem_toArray, List.getElem_cons_zero, List.getElem_cons_succ, Act.put, List.setIfInBounds_toArray, List.set_cons_zero, List.set_cons_succ]
            obtain ⟨v, hv, hc⟩ := litS2 (r := r7) L9.out R5.out (wf_i64 (r := r3 + 5) (by omega) (by omega)) y0 y1
            refine wpAnyH_take (i := 8) (v := ?v10) rfl (by kernel_rfl) (by kernel_rfl) (by kernel_rfl) (fun _ _ _ h => h) (Or.inl ⟨by rfl, ?hy10⟩) (by assumption) ?rest10
            case hy10 =>
              intro wz hSw
              clear hSw
              go_simp <;> with_reducible rfl
            try simp only [List.getElem_toArray, List.getElem_cons_zero, List.getElem_cons_succ, Act.put, List.setIfInBounds_toArray, List.set_cons_zero, List.set_cons_succ]
            refine wpAnyH_ready (rs := [9]) (by kernel_rfl) (by simp) (AllReadyH.cons rfl (fun K hK => ?_) AllReadyH.nil)
            go_simp
            clear hHeld
            refine hK.out _ _ (trivial) (fun hHeld => ?_)
            clear hK K
            try simp only [List.getElem_toArray, List.getElem_cons_zero, List.getElem_cons_succ, Act.put, List.setIfInBounds_toArray, List.set_cons_zero, List.set_cons_succ]
            refine wpAnyH_take (i := 10) (v := ?v11) rfl (by kernel_rfl) (by kernel_rfl) (by kernel_rfl) (fun _ _ _ h => h) (Or.inl ⟨by rfl, ?hy11⟩) (by assumption) ?rest11
            case hy11 =>
              intro wz hSw
              clear hSw
              go_simp <;> with_reducible rfl
            try simp only [List.getElem_toArray, List.getElem_cons_zero, List.getElem_cons_succ, Act.put, List.setIfInBounds_toArray, List.set_cons_zero, List.set_cons_succ]
            refine wpAnyH_ready (rs := [11]) (by kernel_rfl) (by simp) (AllReadyH.cons rfl (fun K hK => ?_) AllReadyH.nil)
            obtain ⟨⟨c0, c1, c2⟩, f0, f1, f2⟩ := E9.out.cells
            obtain ⟨⟨q0, q1, q2⟩, g0, g1, g2⟩ := E9.out.res
            have D9 := Lib.hid (E9.out.set2 v)
            go_simp
            clear hHeld
            refine hK.out _ _ (trivial) (fun hHeld => ?_)
            clear hK K
            try simp only [List.getElem_toArray, List.getElem_cons_zero, List.getElem_cons_succ, Act.put, List.setIfInBounds_toArray, List.set_cons_zero, List.set_cons_succ]
            refine wpAnyH_done (by kernel_rfl) ?_ _
            refine NoPanic.normal ?_
            go_wp2
            refine bodyPost_ret (v := .agg #[.int .i64 r1, .int .i64 r2, .int .i64 v]) ?_ rfl ⟨r1, r2, v, rfl, W1, W2, hv, ?_, ?_⟩
            · simp [results, Try.results22, go_sem, *]
            · with_reducible exact Lib.hid (D9.out.fin (K' := K + 7) (by omega) _ _ _).1
            · with_reducible exact Lib.hid (D9.out.fin (K' := K + 7) (by omega) _ _ _).2
        · skip
          go_simp
          clear hHeld
          refine hK.out _ _ (trivial) (fun hHeld => ?_)
          clear hK K
          try simp only [List.getElem_toArray, List.getElem_cons_zero, List.getElem_cons_succ, Act.put, List.setIfInBounds_toArray, List.set_cons_zero, List.set_cons_succ]
          refine wpAnyH_take (i := 4) (v := .int .i64 (r3 + 5)) rfl (by kernel_rfl) (by kernel_rfl) (by kernel_rfl) (fun _ _ _ h => h) (Or.inl ⟨by rfl, ?hy12⟩) (by assumption) ?rest12
          case hy12 =>
            intro wz hSw
            clear hSw
            first
              | (go_simp; done)
              | (go_simp <;> with_reducible rfl)
              | (go_simp; rw [ew])
          try simp only [List.getElem_toArray, List.getElem_cons_zero, List.getElem_cons_succ, Act.put, List.setIfInBounds_toArray, List.set_cons_zero, List.set_cons_succ]
          refine wpAnyH_ready (rs := [1]) (by kernel_rfl) (by simp) (AllReadyH.cons rfl (fun K hK => ?_) AllReadyH.nil)
          go_simp
          refine (x5.out.raw (by omega)).mono ?_
          rintro e w5 ⟨r5, rfl, R5, E11⟩
          obtain ⟨⟨_, _, c2w⟩, _⟩ := E11.out.cells
          have hl5 := E11.out.lt
          go_wp2_with fail
          clear hHeld
          refine hK.out _ _ (trivial) (fun hHeld => ?_)
          clear hK K
          try simp only [List.getElem_toArray, List.getElem_cons_zero, List.getElem_cons_succ, Act.put, List.setIfInBounds_toArray, List.set_cons_zero, List.set_cons_succ]
          refine wpAnyH_ready (rs := [5, 7]) (by kernel_rfl) (by simp) (AllReadyH.cons rfl (fun K hK => ?_) (AllReadyH.cons rfl (fun K hK => ?_) AllReadyH.nil))
          · skip
            have L12 := Lib.hid (heap_alloc_new w5 (.cells #[.int .i64 r5, .int .i64 (r3 + 5)] 3))
            have E12 := Lib.hid (E11.out.alloc (.cells #[.int .i64 r5, .int .i64 (r3 + 5)] 3))
            go_simp
            clear hHeld
            refine hK.out _ _ (trivial) (fun hHeld => ?_)
            clear hK K
            try simp only [List.getElem_toArray, List.getElem_cons_zero, List.getElem_cons_succ, Act.put, List.setIfInBounds_toArray, List.set_cons_zero, List.set_cons_succ]
            refine wpAnyH_ready (rs := [7]) (by kernel_rfl) (by simp) (AllReadyH.cons rfl (fun K hK => ?_) AllReadyH.nil)
            go_simp
            refine (E12.out.pick 2 (by omega) (by omega)).mono ?_
            rintro e w7 ⟨r7, rfl, y0, y1, E13, G13⟩
            have y2 : r7 < 2 := by omega
            obtain ⟨⟨_, _, c2x⟩, _⟩ := E13.out.cells
            have M13 := Lib.hid (litS_call L12.out G13.out (by first | exact hl5 | omega))
            go_wp2_with fail
            clear hHeld
            refine hK.out _ _ (trivial) (fun hHeld => ?_)
            clear hK K
            try simp only [List.getElem_toArray, List.getElem_cons_zero, List.getElem_cons_succ, Act.put, List.setIfInBounds_toArray, List.set_cons_zero, List.set_cons_succ]
            obtain ⟨v, hv, hc⟩ := litS2 (r := r7) M13.out R5.out (wf_i64 (r := r3 + 5) (by omega) (by omega)) y0 y1
            refine wpAnyH_take (i := 8) (v := ?v13) rfl (by kernel_rfl) (by kernel_rfl) (by kernel_rfl) (fun _ _ _ h => h) (Or.inl ⟨by rfl, ?hy13⟩) (by assumption) ?rest13
            case hy13 =>
              intro wz hSw
              clear hSw
              go_simp <;> with_reducible rfl
            try simp only [List.getElem_toArray, List.getElem_cons_zero, List.getElem_cons_succ, Act.put, List.setIfInBounds_toArray, List.set_cons_zero, List.set_cons_succ]
            refine wpAnyH_ready (rs := [9]) (by kernel_rfl) (by simp) (AllReadyH.cons rfl (fun K hK => ?_) AllReadyH.nil)
            go_simp
            clear hHeld
            refine hK.out _ _ (trivial) (fun hHeld => ?_)
            clear hK K
            try simp only [List.getElem_toArray, List.getElem_cons_zero, List.getElem_cons_succ, Act.put, List.setIfInBounds_toArray, List.set_cons_zero, List.set_cons_succ]
            refine wpAnyH_take (i := 10) (v := ?v14) rfl (by kernel_rfl) (by kernel_rfl) (by kernel_rfl) (fun _ _ _ h => h) (Or.inl ⟨by rfl, ?hy14⟩) (by assumption) ?rest14
            case hy14 =>
              intro wz hSw
              clear hSw
              go_simp <;> with_reducible rfl
            try simp only [List.getElem_toArray, List.getElem_cons_zero, List.getElem_cons_succ, Act.put, List.setIfInBounds_toArray, List.set_cons_zero, List.set_cons_succ]
            refine wpAnyH_ready (rs := [11]) (by kernel_rfl) (by simp) (AllReadyH.cons rfl (fun K hK => ?_) AllReadyH.nil)
            obtain ⟨⟨c0, c1, c2⟩, f0, f1, f2⟩ := E13.out.cells
            obtain ⟨⟨q0, q1, q2⟩, g0, g1, g2⟩ := E13.out.res
            have D9 := Lib.hid (E13.out.set2 v)
            go_simp
            clear hHeld
            refine hK.out _ _ (trivial) (fun hHeld => ?_)
            clear hK K
            try simp only [List.getElem_toArray, List.getElem_cons_zero, List.getElem_cons_succ, Act.put, List.setIfInBounds_toArray, List.set_cons_zero, List.set_cons_succ]
            refine wpAnyH_done (by kernel_rfl) ?_ _
            refine NoPanic.normal ?_
            go_wp2
            refine bodyPost_ret (v := .agg #[.int .i64 r1, .int .i64 r2, .int .i64 v]) ?_ rfl ⟨r1, r2, v, rfl, W1, W2, hv, ?_, ?_⟩
            · simp [results, Try.results22, go_sem, *]
            · with_reducible exact Lib.hid (D9.out.fin (K' := K + 7) (by omega) _ _ _).1
            · with_reducible exact Lib.hid (D9.out.fin (K' := K + 7) (by omega) _ _ _).2
          · skip
            go_simp
            refine (E11.out.pick 2 (by omega) (by omega)).mono ?_
            rintro e w7 ⟨r7, rfl, y0, y1, E12, G12⟩
            have y2 : r7 < 2 := by omega
            obtain ⟨⟨_, _, c2x⟩, _⟩ := E12.out.cells
            go_wp2_with fail
            clear hHeld
            refine hK.out _ _ (trivial) (fun hHeld => ?_)
            clear hK K
            try simp only [List.getElem_toArray, List.getElem_cons_zero, List.getElem_cons_succ, Act.put, List.setIfInBounds_toArray, List.set_cons_zero, List.set_cons_succ]
            refine wpAnyH_ready (rs := [5]) (by kernel_rfl) (by simp) (AllReadyH.cons rfl (fun K hK => ?_) AllReadyH.nil)
            have L15 := Lib.hid (heap_alloc_new w7 (.cells #[.int .i64 r5, .int .i64 (r3 + 5)] 3))
            have E15 := Lib.hid (E12.out.alloc (.cells #[.int .i64 r5, .int .i64 (r3 + 5)] 3))
            go_simp
            clear hHeld
            refine hK.out _ _ (trivial) (fun hHeld => ?_)
            clear hK K
            try simp only [List.getElem_toArray, List.getElem_cons_zero, List.getElem_cons_succ, Act.put, List.setIfInBounds_toArray, List.set_cons_zero, List.set_cons_succ]
            obtain ⟨v, hv, hc⟩ := litS2 (r := r7) L15.out R5.out (wf_i64 (r := r3 + 5) (by omega) (by omega)) y0 y1
            refine wpAnyH_take (i := 8) (v := ?v15) rfl (by kernel_rfl) (by kernel_rfl) (by kernel_rfl) (fun _ _ _ h => h) (Or.inl ⟨by rfl, ?hy15⟩) (by assumption) ?rest15
            case hy15 =>
              intro wz hSw
              clear hSw
              go_simp <;> with_reducible rfl
            try simp only [List.getElem_toArray, List.getElem_cons_zero, List.getElem_cons_succ, Act.put, List.setIfInBounds_toArray, List.set_cons_zero, List.set_cons_succ]
            refine wpAnyH_ready (rs := [9]) (by kernel_rfl) (by simp) (AllReadyH.cons rfl (fun K hK => ?_) AllReadyH.nil)
            go_simp
            clear hHeld
            refine hK.out _ _ (trivial) (fun hHeld => ?_)
            clear hK K
            try simp only [List.getElem_toArray, List.getElem_cons_zero, List.getElem_cons_succ, Act.put, List.setIfInBounds_toArray, List.set_cons_zero, List.set_cons_succ]
            refine wpAnyH_take (i := 10) (v := ?v16) rfl (by kernel_rfl) (by kernel_rfl) (by kernel_rfl) (fun _ _ _ h => h) (Or.inl ⟨by rfl, ?hy16⟩) (by assumption) ?rest16
            case hy16 =>
              intro wz hSw
              clear hSw
              go_simp <;> with_reducible rfl
            try simp only [List.getElem_toArray, List.getElem_cons_zero, List.getElem_cons_succ, Act.put, List.setIfInBounds_toArray, List.set_cons_zero, List.set_cons_succ]
            refine wpAnyH_ready (rs := [11]) (by kernel_rfl) (by simp) (AllReadyH.cons rfl (fun K hK => ?_) AllReadyH.nil)
            obtain ⟨⟨c0, c1, c2⟩, f0, f1, f2⟩ := E15.out.cells
            obtain ⟨⟨q0, q1, q2⟩, g0, g1, g2⟩ := E15.out.res
            have D9 := Lib.hid (E15.out.set2 v)
            go_simp
            clear hHeld
            refine hK.out _ _ (trivial) (fun hHeld => ?_)
            clear hK K
            try simp only [List.getElem_toArray, List.getElem_cons_zero, List.getElem_cons_succ, Act.put, List.setIfInBounds_toArray, List.set_cons_zero, List.set_cons_succ]
            refine wpAnyH_done (by kernel_rfl) ?_ _
            refine NoPanic.normal ?_
            go_wp2
            refine bodyPost_ret (v := .agg #[.int .i64 r1, .int .i64 r2, .int .i64 v]) ?_ rfl ⟨r1, r2, v, rfl, W1, W2, hv, ?_, ?_⟩
            · simp [results, Try.results22, go_sem, *]
            · with_reducible exact Lib.hid (D9.out.fin (K' := K + 7) (by omega) _ _ _).1
            · with_reducible exact Lib.hid (D9.out.fin (K' := K + 7) (by omega) _ _ _).2
      · obtain ⟨⟨c0, c1, c2⟩, f0, f1, f2⟩ := D6.out.cells
        obtain ⟨⟨q0, q1, q2⟩, g0, g1, g2⟩ := D6.out.res
        go_wp2
        refine bodyPost_ret (v := .agg #[.int .i64 r1, .int .i64 r2, .int .i64 r3]) ?_ rfl ⟨r1, r2, r3, rfl, W1, W2, W3, ?_, ?_⟩
        · simp [results, Try.results22, go_sem, *]
        · with_reducible exact Lib.hid (D6.out.fin (K' := K + 7) (by omega) _ _ _).1
        · with_reducible exact Lib.hid (D6.out.fin (K' := K + 7) (by omega) _ _ _).2

set_option maxRecDepth 100000 in
set_option maxHeartbeats 4000000 in
theorem many_any (b : Nat) (A : Option Addr) (n c : Nat) (bs : List Int) (K : Nat) (w : World) (h : Cur w b A n c bs K) (hK : K ≤ 900) :
    Calls Try.prog 23 #[.pointer (some ⟨b, 0, none⟩)] w fun e w' => ∃ v : Int, e = .returned (.int .i64 v) ∧ Hid ((Lit.int .i64 v).wf = true) ∧ Hid (Cur w' b A n c bs (K + 5)) ∧ Hid (w.grownBy w' (some b)) := by
  have H := Lib.hid h
  clear h
  go_enter Try.func23, Try.ntmps23
  go_wp2_with fail
  refine (pick_any b A n c bs K 9 _ H.out (by omega) (by omega)).mono ?_
  rintro e w1 ⟨r1, rfl, ⟨p0, p1⟩, C1, G1⟩
  have p2 : r1 < 9 := by omega
  clear p1 H
  go_wp2_with fail
  refine (pick_any b A n c bs (K + 1) 20 _ C1.out (by omega) (by omega)).mono ?_
  rintro e w2 ⟨r2, rfl, ⟨s0, s1⟩, C2, G2⟩
  have s2 : r2 < 20 := by omega
  clear s1 C1
  go_wp2_with fail
  refine (raw_any b A n c bs (K + 2) _ C2.out (by omega)).mono ?_
  rintro e w3 ⟨r3, rfl, R3, C3, G3⟩
  have hl3 := C3.out.lt
  clear C2
  go_wp2_with fail
  refine (pick_any b A n c bs (K + 4) 5 _ (C3.out.alloc _) (by omega) (by omega)).mono ?_
  rintro e w4 ⟨r4, rfl, ⟨t0, t1⟩, C4, G4⟩
  have t2 : r4 < 5 := by omega
  obtain ⟨v, hv, hc⟩ := litS5 (r := r4) (litS_call (heap_alloc_new w3 _) G4.out hl3) (wf_i64 (r := 1 + r1) (by omega) (by omega)) (wf_i64 (r := 1 + r2) (by omega) (by omega)) (wf_i64 (r := 1000) (by omega) (by omega)) (wf_i64 (r := 1001) (by omega) (by omega)) R3 t0 t1
  have GG := Lib.hid (gtrans (gtrans (gtrans G1.out G2.out) G3.out) (gtrans (World.grownBy_alloc _ _ _) G4.out))
  clear t1 C3 G1 G2 G3 G4
  go_wp2
  go_ret
  exact ⟨v, rfl, hv, C4, GG⟩

/-- A semaphore is drawn. -/
def DrawnSema (w : World) (e : Ending) (w' : World) : Prop := ∃ C E R : Int, e = .returned (.agg #[.int .i64 C, .int .i64 E, .int .i64 R]) ∧ (Hid ((Lit.int .i64 C).wf = true) ∧ Hid ((Lit.int .i64 E).wf = true) ∧ Hid ((Lit.int .i64 R).wf = true)) ∧ Hid (Below w.heap.size w w')

theorem oneS_new {w w1 : World} {o1 : Obj} (h : Below (w.alloc o1).heap.size (w.alloc o1) w1) : w1.heap[w.heap.size]? = some o1 ∧ Below w.heap.size w w1 := by
  have hs : (w.alloc o1).heap.size = w.heap.size + 1 := World.size_alloc w o1
  exact ⟨(h.block _ (by omega)).trans (heap_alloc_new w o1), ((Below.refl _ w).alloc (Nat.le_refl _) o1).trans (h.mono (by omega))⟩

set_option maxRecDepth 100000 in
set_option maxHeartbeats 2000000 in
theorem drawSemaPost (A : Option Addr) (n c : Nat) (bs : List Int) (w : World) (h : RdK .u8 w w.heap.size A n bs) (hf : ∀ z ∈ bs, 0 ≤ z ∧ z < 256) (hn : n ≤ 1048576) :
    Calls Try.prog 12 #[.slice A n c] w fun e w' => ∃ C E R N : Int, e = .returned (.tuple #[.agg #[.int .i64 C, .int .i64 E, .int .i64 R], .int .i64 N]) ∧ (Hid ((Lit.int .i64 C).wf = true) ∧ Hid ((Lit.int .i64 E).wf = true) ∧ Hid ((Lit.int .i64 R).wf = true) ∧ Hid ((Lit.int .i64 N).wf = true)) ∧ Hid (Below w.heap.size w w') := by
  have H : Hid (∀ o, RdK .u8 (w.alloc o) (w.alloc o).heap.size A n bs) := fun o => rdk_more (h.keep fun p hp => World.cell?_alloc_lt w o p hp) (by simp)
  have HF := Lib.hid hf
  clear h hf
  go_enter Try.func12, Try.ntmps12
  go_wp2_with fail
  refine (open_cur A n c bs _ (H.out _) HF.out hn).mono ?_
  rintro e w1 ⟨rfl, C1, B1⟩
  have z1 := B1.out.size
  obtain ⟨u1, hb1⟩ := oneS_new B1.out
  have U1 := Lib.hid u1
  have HB1 := Lib.hid hb1
  simp only [World.size_alloc] at C1 z1
  have hz : w.heap.size < w1.heap.size := by omega
  clear H HF B1 u1 hb1
  go_wp2_with fail
  refine (sema_any (w.heap.size + 1) A n c bs 0 _ C1.out (by omega)).mono ?_
  rintro e w2 ⟨C, E, R, rfl, WC, WE, WR, C2, G2⟩
  have U2 := Lib.hid (litS_ne U1.out G2.out (by omega))
  have HB2 := Lib.hid (below_of_grown HB1.out G2.out (by omega) (by omega))
  have z2 := G2.out.size
  clear U1 HB1 G2 C1
  go_wp2_with fail
  refine (many_any (w.heap.size + 1) A n c bs 7 _ C2.out (by omega)).mono ?_
  rintro e w3 ⟨N, rfl, WN, _, G3⟩
  obtain ⟨⟨q0, q1, q2⟩, g0, g1, g2⟩ := blkS (litS_ne U2.out G3.out (by omega))
  have HB3 := Lib.hid (below_of_grown HB2.out G3.out (by omega) (by omega))
  clear U2 HB2 G3 C2
  go_wp2
  refine bodyPost_ret (v := .tuple #[.agg #[.int .i64 C, .int .i64 E, .int .i64 R], .int .i64 N]) ?_ rfl ⟨C, E, R, N, rfl, ⟨WC, WE, WR, WN⟩, ?_⟩
  · simp [results, Try.results12, go_sem, *]
  · exact Lib.hid (by repeat (first | exact Below.refl _ _ | refine Below.drew ?_ | refine Below.setCell ?_ (by first | omega | (simp; done) | (simp; omega) | (simp [*]; done)) _ | refine Below.alloc ?_ (by first | omega | (simp; done) | (simp; omega) | (simp [*]; done)) _ | refine Below.trans ?_ (Below.mono (HB3.out) (by first | omega | (simp; done) | (simp; omega) | (simp [*]; done)))))

end Go.Proofs.Ythmmkleddembbaa
