/- How an argument of these statements is opened: a list of blocks, a block. -/
import Derived.Test.YthcchnaoenjhlaaOpenB
import Derived.Test.YthcchnaoenjhlaaOwnP
import Derived.Lib.SmallJoins
import Derived.Deep.Slices
namespace Go.Proofs.Ythcchnaoenjhlaa
open Go.ChangeShapes Go.WideShapes Go.ChangeAt Go.RowKit

set_option maxRecDepth 100000 in
theorem cells_blk : Try.prog.cellsOf 75 = 2 := by kernel_rfl

set_option maxRecDepth 100000 in
theorem int_cell {H : Type} {enc : TypeId × Value → H} {W : World} {t : TypeId} {k : IntKind} {n : Nat} {c : Value} {y : DataW H × List MemPlace} (ht : Try.prog.underlying t = some (.int k)) (h : DataW.trod enc Try.prog W 0 (fun _ => true) true n t [c] = some y) : ∃ z, c = .int k z ∧ (Lit.int k z).wf = true := by
  obtain ⟨z, hc, _, hw⟩ := DataW.trod_int ht h
  simp at hc
  exact ⟨z, hc, hw⟩

set_option maxRecDepth 100000 in
theorem open_blk {H : Type} {enc : TypeId × Value → H} {W : World} {base : Nat} {v : Value} {d : DataW H} {p : List MemPlace} (hv : Value.okWide Try.prog W .any base 75 v)
    (h : DataW.Trod enc Try.prog W 0 (fun _ => true) true 75 v d p) :
    ∃ a b, v = .agg #[.int .i64 a, .int .i64 b] ∧ (Lit.int .i64 a).wf = true ∧ (Lit.int .i64 b).wf = true := by
  obtain ⟨c0, c1, y0, y1, m, rfl, _, _, h0, h1⟩ := Joins.open_agg2 Try.underlying75 (by kernel_rfl) cells_blk hv h
  obtain ⟨a, rfl, wa⟩ := int_cell Try.underlying3 h0
  obtain ⟨b, rfl, wb⟩ := int_cell Try.underlying3 h1
  exact ⟨a, b, rfl, wa, wb⟩

set_option maxRecDepth 100000 in
/-- The two cells of a block that is read. -/
theorem blk_cells {H : Type} {enc : TypeId × Value → H} {W : World} {n : Nat} {cs : List Value} {x : DataW H × List MemPlace} (h : DataW.trod enc Try.prog W 0 (fun _ => true) true n 75 cs = some x) :
    ∃ a b, cs = [.int .i64 a, .int .i64 b] ∧ (Lit.int .i64 a).wf = true ∧ (Lit.int .i64 b).wf = true := by
  obtain ⟨y0, y1, m, _, hl, h0, h1⟩ := trod_struct2 Try.underlying75 h
  rw [cells_blk] at hl
  match cs, hl with
  | [c0, c1], _ =>
    have k3 : Try.prog.cellsOf 3 = 1 := by kernel_rfl
    simp [k3] at h0 h1
    obtain ⟨a, rfl, wa⟩ := int_cell Try.underlying3 h0
    obtain ⟨b, rfl, wb⟩ := int_cell Try.underlying3 h1
    exact ⟨a, b, rfl, wa, wb⟩

set_option maxRecDepth 100000 in
theorem open_blkS {H : Type} {enc : TypeId × Value → H} {W : World} {base : Nat} {v : Value} {d : DataW H} {p : List MemPlace} (hv : Value.okWide Try.prog W .any base 28 v)
    (h : DataW.Trod enc Try.prog W 0 (fun _ => true) true 28 v d p) :
    ∃ A n c ps, v = .slice A n c ∧ n ≤ maxLen ∧ RdP W W.heap.size A n ps ∧ WfP ps := by
  obtain ⟨a0, l0, c0, rfl⟩ := okWide_slice Try.underlying28 hv
  obtain ⟨fuel, hf⟩ := h
  rcases Deep.open_slice Try.underlying28 hf with ⟨hcs, _⟩ | ⟨x, l, c, m, n', D, Pl, hcs, _, hl, hm, hmm, _, hel⟩
  · simp [Value.cells] at hcs
    obtain ⟨rfl, rfl, rfl⟩ := hcs
    exact ⟨_, _, _, [], rfl, by unfold maxLen; omega, RdP.zero, by intro p hp; simp at hp⟩
  · simp [Value.cells] at hcs
    obtain ⟨rfl, rfl, rfl⟩ := hcs
    simp at hmm
    subst hmm
    rw [cells_blk] at hel
    have hel2 : ∀ i, i < l0 → ∃ q : Int × Int, (W.cell? (x.add (i * 2)) = some (.int .i64 q.1) ∧ W.cell? (x.add (i * 2 + 1)) = some (.int .i64 q.2)) ∧ (Lit.int .i64 q.1).wf = true ∧ (Lit.int .i64 q.2).wf = true := by
      intro i hi
      obtain ⟨cs', h1, h2⟩ := hel i (by omega)
      obtain ⟨a, b, rfl, wa, wb⟩ := blk_cells h2
      have h3 := (World.cells?_some h1).2.2
      have e0 := h3 0 (by omega)
      have e1 := h3 1 (by omega)
      rw [Deep.add_add] at e0 e1
      exact ⟨(a, b), ⟨by simpa using e0, by simpa using e1⟩, wa, wb⟩
    obtain ⟨f, hf2⟩ := Deep.choose_lt hel2
    refine ⟨_, _, _, (List.range l0).map f, rfl, by omega, ⟨by simp, fun hn => ?_⟩, ?_⟩
    · obtain ⟨b, off, spot⟩ := x
      have h0 := (hf2 0 (by omega)).1.1
      have hspot : spot = none := by simpa [Addr.add] using World.cell?_spot h0
      subst hspot
      have hblk := World.block_lt_of_cell? W _ h0
      refine ⟨b, off, rfl, by simpa [Addr.add] using hblk, fun i hi => ?_⟩
      have e := (hf2 i hi).1
      have e1 : pa ((List.range l0).map f) i = (f i).1 := by simp [pa, hi]
      have e2 : pb ((List.range l0).map f) i = (f i).2 := by simp [pb, hi]
      rw [e1, e2, ← e.1, ← e.2]
      constructor
      · congr 1
        unfold Addr.add; split <;> simp_all
      · congr 1
    · intro q hq
      obtain ⟨i, hi, rfl⟩ := List.mem_map.1 hq
      have e := (hf2 i (by simpa using hi)).2
      exact ⟨int_of_wf e.1, int_of_wf e.2⟩

end Go.Proofs.Ythcchnaoenjhlaa
