/- How an argument of these statements is opened: a fact, a list of facts. -/
import Derived.Test.YthcchnaoenjhlaaOpenB
import Derived.Test.YthcchnaoenjhlaaOwnF
import Derived.Lib.SmallJoins
import Derived.Deep.Slices
namespace Go.Proofs.Ythcchnaoenjhlaa
open Go.ChangeShapes Go.WideShapes Go.ChangeAt Go.RowKit Go.Deep Go.Joins

theorem cells_factL : Try.prog.cellsOf 23 = 5 := by kernel_rfl

theorem int_cellF {H : Type} {enc : TypeId × Value → H} {W : World} {t : TypeId} {k : IntKind} {n : Nat} {c : Value} {y : DataW H × List MemPlace} (ht : Try.prog.underlying t = some (.int k)) (h : DataW.trod enc Try.prog W 0 (fun _ => true) true n t [c] = some y) : ∃ z, c = .int k z ∧ (Lit.int k z).wf = true := by
  obtain ⟨z, hc, _, hw⟩ := DataW.trod_int ht h
  simp at hc
  exact ⟨z, hc, hw⟩

/-- Five one-cell fields: each cell and its reading. -/
theorem cells5 {H : Type} {enc : TypeId × Value → H} {P : Program} {W : World} {base : Nat} {spare : Nat → Bool} {held : Bool} {t : TypeId} {f0 f1 f2 f3 f4 : Field} {n : Nat} {cs : List Value} {x : DataW H × List MemPlace}
    (hs : P.underlying t = some (.struct #[f0, f1, f2, f3, f4])) (hone : oneCellFields P #[f0, f1, f2, f3, f4] = true) (hC : P.cellsOf t = 5) (hf : DataW.trod enc P W base spare held n t cs = some x) :
    ∃ (c0 c1 c2 c3 c4 : Value) (k : Nat), cs = [c0, c1, c2, c3, c4] ∧
      (∃ y, DataW.trod enc P W base spare held k f0.type [c0] = some y) ∧ (∃ y, DataW.trod enc P W base spare held k f1.type [c1] = some y) ∧ (∃ y, DataW.trod enc P W base spare held k f2.type [c2] = some y) ∧ (∃ y, DataW.trod enc P W base spare held k f3.type [c3] = some y) ∧ (∃ y, DataW.trod enc P W base spare held k f4.type [c4] = some y) := by
  obtain ⟨ys, k, _, _, hsz, hlen, hg⟩ := DataW.trod_struct hs hf
  rw [hC] at hsz
  match cs, hsz with
  | [c0, c1, c2, c3, c4], _ =>
    have g : ∀ j (hj : j < 5) (f : Field) (c : Value), (#[f0, f1, f2, f3, f4] : Array Field)[j]? = some f → [c0, c1, c2, c3, c4][j]? = some c → ∃ y, DataW.trod enc P W base spare held k f.type [c] = some y := by
      intro j hj f c h1 h2
      obtain ⟨o, q⟩ := hone_of hone j f h1
      have hx := hg j f h1
      have hl : j < ys.length := by rw [hlen]; exact hj
      rw [o, q, List.getElem?_eq_getElem hl] at hx
      have hd : (([c0, c1, c2, c3, c4] : List Value).drop j).take 1 = [c] := by
        obtain ⟨hl, rfl⟩ := List.getElem?_eq_some_iff.1 h2
        rw [List.drop_eq_getElem_cons hl]
        rfl
      rw [hd] at hx
      exact ⟨_, hx⟩
    exact ⟨c0, c1, c2, c3, c4, k, rfl, g 0 (by omega) _ _ rfl rfl, g 1 (by omega) _ _ rfl rfl, g 2 (by omega) _ _ rfl rfl, g 3 (by omega) _ _ rfl rfl, g 4 (by omega) _ _ rfl rfl⟩

set_option maxRecDepth 100000 in
/-- The cells of a fact that is read. -/
theorem fact_cells {H : Type} {enc : TypeId × Value → H} {W : World} {n : Nat} {cs : List Value} {x : DataW H × List MemPlace} (h : DataW.trod enc Try.prog W 0 (fun _ => true) true n 23 cs = some x) :
    ∃ f : Fc, cs = f.cells ∧ f.Wf := by
  obtain ⟨c0, c1, c2, c3, c4, k, rfl, ⟨y0, g0⟩, ⟨y1, g1⟩, ⟨y2, g2⟩, ⟨y3, g3⟩, ⟨y4, g4⟩⟩ := cells5 Try.underlying23 (by kernel_rfl) cells_factL h
  obtain ⟨a, rfl, wa⟩ := int_cellF Try.underlying3 g0
  obtain ⟨b, rfl, wb⟩ := int_cellF Try.underlying3 g1
  obtain ⟨c, rfl, wc⟩ := int_cellF Try.underlying3 g2
  obtain ⟨d, rfl, wd⟩ := int_cellF Try.underlying3 g3
  obtain ⟨e, rfl, we⟩ := int_cellF Try.underlying3 g4
  exact ⟨⟨a, b, c, d, e⟩, rfl, ⟨int_of_wf wa, int_of_wf wb, int_of_wf wc⟩, int_of_wf wd, int_of_wf we⟩

set_option maxRecDepth 100000 in
theorem open_fact {H : Type} {enc : TypeId × Value → H} {W : World} {base : Nat} {v : Value} {d : DataW H} {p : List MemPlace} (hv : Value.okWide Try.prog W .any base 23 v)
    (h : DataW.Trod enc Try.prog W 0 (fun _ => true) true 23 v d p) :
    ∃ f : Fc, v = .agg #[.int .i64 f.k, .int .i64 f.i, .int .i64 f.l, .int .i64 f.a, .int .i64 f.s] ∧ f.Wf := by
  obtain ⟨cs, rfl, _⟩ := okWide_struct Try.underlying23 hv
  obtain ⟨fuel, hf⟩ := h
  obtain ⟨l⟩ := cs
  simp only [Value.cells] at hf
  obtain ⟨f, rfl, hw⟩ := fact_cells hf
  exact ⟨f, rfl, hw⟩

set_option maxRecDepth 100000 in
theorem open_factS {H : Type} {enc : TypeId × Value → H} {W : World} {base : Nat} {v : Value} {d : DataW H} {p : List MemPlace} (hv : Value.okWide Try.prog W .any base 37 v)
    (h : DataW.Trod enc Try.prog W 0 (fun _ => true) true 37 v d p) :
    ∃ A n c fs, v = .slice A n c ∧ n ≤ maxLen ∧ RdF W W.heap.size A n fs ∧ ∀ f ∈ fs, f.Wf := by
  obtain ⟨a0, l0, c0, rfl⟩ := okWide_slice Try.underlying37 hv
  obtain ⟨fuel, hf⟩ := h
  rcases Deep.open_slice Try.underlying37 hf with ⟨hcs, _⟩ | ⟨x, l, c, m, n', D, Pl, hcs, _, hl, hm, hmm, _, hel⟩
  · simp [Value.cells] at hcs
    obtain ⟨rfl, rfl, rfl⟩ := hcs
    exact ⟨_, _, _, [], rfl, by unfold maxLen; omega, RdF.zero, by intro p hp; simp at hp⟩
  · simp [Value.cells] at hcs
    obtain ⟨rfl, rfl, rfl⟩ := hcs
    simp at hmm
    subst hmm
    rw [cells_factL] at hel
    have hel2 : ∀ i, i < l0 → ∃ f : Fc, (∀ k v, f.cells[k]? = some v → W.cell? (x.add (i * 5 + k)) = some v) ∧ f.Wf := by
      intro i hi
      obtain ⟨cs', h1, h2⟩ := hel i (by omega)
      obtain ⟨f, rfl, hw⟩ := fact_cells h2
      refine ⟨f, fun k v hk => ?_, hw⟩
      have hk5 : k < 5 := by
        have := (List.getElem?_eq_some_iff.1 hk).1
        simpa [Fc.cells] using this
      have h3 := (World.cells?_some h1).2.2 k (by omega)
      rw [Deep.add_add, hk] at h3
      exact h3
    obtain ⟨f, hf2⟩ := Deep.choose_lt hel2
    refine ⟨_, _, _, (List.range l0).map f, rfl, by omega, ⟨by simp, fun hn => ?_⟩, ?_⟩
    · obtain ⟨b, off, spot⟩ := x
      have h0 := (hf2 0 (by omega)).1 0 _ rfl
      have hspot : spot = none := by simpa [Addr.add] using World.cell?_spot h0
      subst hspot
      have hblk := World.block_lt_of_cell? W _ h0
      refine ⟨b, off, rfl, by simpa [Addr.add] using hblk, fun i hi => At5.of fun k v hk => ?_⟩
      have e1 : fat ((List.range l0).map f) i = f i := by simp [fat, hi]
      rw [e1] at hk
      have e := (hf2 i hi).1 k v hk
      rw [← e]
      congr 1
      unfold Addr.add; split <;> simp_all <;> omega
    · intro q hq
      obtain ⟨i, hi, rfl⟩ := List.mem_map.1 hq
      exact (hf2 i (by simpa using hi)).2

end Go.Proofs.Ythcchnaoenjhlaa
