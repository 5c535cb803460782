/- How an argument of these statements is opened: a machine, an event. -/
import Derived.Test.YtooegpebimpjcaaGreatOpenW
import Derived.Test.YtooegpebimpjcaaGreatOwnM
import Derived.Deep.Slices
namespace Go.Proofs.YtooegpebimpjcaaGreat
open Go.ChangeShapes Go.WideShapes Go.ChangeAt Go.RowKit Go.Deep Go.Joins

theorem cells_machL : Tryz.prog.cellsOf 62 = 2 := by kernel_rfl

theorem cells_memW : Tryz.prog.cellsOf 28 = 1 := by kernel_rfl

theorem cells_u32W : Tryz.prog.cellsOf 23 = 1 := by kernel_rfl

theorem cells_u32sW : Tryz.prog.cellsOf 26 = 1 := by kernel_rfl

set_option maxRecDepth 100000 in
theorem u32s_cellW {H : Type} {enc : TypeId × Value → H} {W : World} {n : Nat} {v : Value} {y : DataW H × List MemPlace} (h : DataW.trod enc Tryz.prog W 0 (fun _ => true) true n 26 [v] = some y) :
    ∃ A n c zs, v = .slice A n c ∧ n ≤ maxLen ∧ RdK .u32 W W.heap.size A n zs ∧ ∀ z ∈ zs, 0 ≤ z ∧ z < 4294967296 := by
  rcases open_ints Tryz.underlying26 Tryz.underlying23 cells_u32W h with ⟨hcs, _⟩ | ⟨x, l, c, zs, hcs, _, hl, hm, hz, _, hcell, hwz⟩
  · simp at hcs
    subst hcs
    exact ⟨_, _, _, [], rfl, by unfold maxLen; omega, RdK.zero, by intro z hz; simp at hz⟩
  · simp at hcs
    subst hcs
    have hz' : zs.length = c := by simpa using hz
    refine ⟨_, _, _, zs.take l, rfl, by omega, ⟨by simp; omega, fun hn => ?_⟩, fun z hzz => by
      obtain ⟨X, rfl, hX⟩ := nat_of_wf (hwz z (List.mem_of_mem_take hzz)); omega⟩
    obtain ⟨b, off, spot⟩ := x
    have h0 := hcell 0 (by omega)
    have hspot : spot = none := by simpa [Addr.add] using World.cell?_spot h0
    subst hspot
    have hblk := World.block_lt_of_cell? W _ h0
    refine ⟨b, off, rfl, by simpa [Addr.add] using hblk, fun i hi => ?_⟩
    have := hcell i (by omega)
    have e : (zs.take l)[i]?.getD 0 = zs.getD i 0 := by simp [hi]
    rw [e, ← this]
    congr 1
    unfold Addr.add; split <;> simp_all

theorem cells_eventL : Tryz.prog.cellsOf 65 = 5 := by kernel_rfl

set_option maxRecDepth 100000 in
theorem open_event {H : Type} {enc : TypeId × Value → H} {W : World} {base : Nat} {v : Value} {d : DataW H} {p : List MemPlace} (hv : Value.okWide Tryz.prog W .any base 65 v)
    (h : DataW.Trod enc Tryz.prog W 0 (fun _ => true) true 65 v d p) :
    ∃ (ek ew en rk : Int) (A : Option Addr) (n c : Nat) (zs : List Int), v = .agg #[.int .i64 ek, .int .i64 ew, .int .i64 en, .int .i64 rk, .slice A n c] ∧
      ((Lit.int .i64 ek).wf = true ∧ (Lit.int .i64 ew).wf = true ∧ (Lit.int .i64 en).wf = true ∧ (Lit.int .i64 rk).wf = true) ∧ (n ≤ maxLen ∧ RdK .i64 W W.heap.size A n zs ∧ Fits zs) := by
  obtain ⟨cs, rfl, hsz⟩ := okWide_struct Tryz.underlying65 hv
  rw [cells_eventL] at hsz
  obtain ⟨l⟩ := cs
  match l, hsz with
  | [c0, c1, c2, c3, c4], _ =>
    obtain ⟨fuel, hf⟩ := h
    obtain ⟨ys, k, _, _, _, hlen, hg⟩ := DataW.trod_struct Tryz.underlying65 hf
    have k1 := cells_int1
    have k2 := cells_ints1
    have k3 := cells_reqL
    have g0 := hg 0 _ rfl
    have g1 := hg 1 _ rfl
    have g2 := hg 2 _ rfl
    have g3 := hg 3 _ rfl
    have hs4 : ys.length = 4 := hlen
    simp [k1, Value.cells] at g0 g1 g2
    simp [k3, Value.cells] at g3
    rw [List.getElem?_eq_getElem (by omega)] at g0 g1 g2 g3
    obtain ⟨ek, rfl, w0⟩ := int_cellW Tryz.underlying3 g0
    obtain ⟨ew, rfl, w1⟩ := int_cellW Tryz.underlying3 g1
    obtain ⟨en, rfl, w2⟩ := int_cellW Tryz.underlying3 g2
    obtain ⟨z0, z1, m, _, _, h3, h4⟩ := trod_struct2 Tryz.underlying63 g3
    simp [k1, k2] at h3 h4
    obtain ⟨rk, rfl, w3⟩ := int_cellW Tryz.underlying3 h3
    obtain ⟨A, n, c, zs, rfl, hm, hr, hfv⟩ := ints_cellW h4
    exact ⟨ek, ew, en, rk, A, n, c, zs, rfl, ⟨w0, w1, w2, w3⟩, hm, hr, hfv⟩

set_option maxRecDepth 100000 in
/-- The eight cells of a warp that is read. -/
theorem warp_cells {H : Type} {enc : TypeId × Value → H} {W : World} {n : Nat} {cs : List Value} {x : DataW H × List MemPlace} (h : DataW.trod enc Tryz.prog W 0 (fun _ => true) true n 25 cs = some x) :
    ∃ x : Wc, cs = x.cells ∧ x.Rows W W.heap.size ∧ x.v.Fit := by
  have hu := Tryz.underlying25
  obtain ⟨ys, k, _, _, hl, hlen, hg⟩ := DataW.trod_struct hu h
  rw [cells_warpL] at hl
  match cs, hl with
  | [c0, c1, c2, c3, c4, c5, c6, c7], _ =>
    have k1 := cells_int1
    have k2 := cells_ints1
    have k3 : Tryz.prog.cellsOf 23 = 1 := by kernel_rfl
    have g0 := hg 0 _ rfl
    have g1 := hg 1 _ rfl
    have g2 := hg 2 _ rfl
    have g3 := hg 3 _ rfl
    have g4 := hg 4 _ rfl
    have g5 := hg 5 _ rfl
    have g6 := hg 6 _ rfl
    have g7 := hg 7 _ rfl
    have hsz : ys.length = 8 := hlen
    simp [k1] at g0
    simp [k2] at g1 g2
    simp [k3] at g3 g7
    simp [k1] at g4 g5 g6
    rw [List.getElem?_eq_getElem (by omega)] at g0 g1 g2 g3 g4 g5 g6 g7
    obtain ⟨kd, rfl, wk⟩ := int_cellW Tryz.underlying3 g0
    obtain ⟨A, n, c, vs, rfl, hm, hr, hfv⟩ := ints_cellW g1
    obtain ⟨B, m, e, gs, rfl, hm2, hr2, hfg⟩ := ints_cellW g2
    obtain ⟨td, rfl, wt⟩ := nat_cellW Tryz.underlying23 g3
    obtain ⟨ph, rfl, wp⟩ := int_cellW Tryz.underlying3 g4
    obtain ⟨pr, rfl, wr⟩ := int_cellW Tryz.underlying3 g5
    obtain ⟨hd, rfl, wh⟩ := int_cellW Tryz.underlying3 g6
    obtain ⟨sn, rfl, ws⟩ := nat_cellW Tryz.underlying23 g7
    have l1 := hr.1
    have l2 := hr2.1
    subst l1 l2
    exact ⟨⟨⟨kd, vs, gs, td, ph, pr, hd, sn⟩, A, c, B, e⟩, rfl, ⟨hr, hr2⟩, hm, hm2, wt, ws, wr⟩

set_option maxRecDepth 100000 in
theorem open_mach {H : Type} {enc : TypeId × Value → H} {W : World} {base : Nat} {v : Value} {d : DataW H} {p : List MemPlace} (hv : Value.okWide Tryz.prog W .any base 62 v)
    (h : DataW.Trod enc Tryz.prog W 0 (fun _ => true) true 62 v d p) :
    ∃ (A : Option Addr) (n c : Nat) (zs : List Int) (B : Option Addr) (m e : Nat) (xs : List Wc), v = .agg #[.slice A n c, .slice B m e] ∧
      (n ≤ maxLen ∧ RdK .u32 W W.heap.size A n zs ∧ ∀ z ∈ zs, 0 ≤ z ∧ z < 4294967296) ∧ (m ≤ maxLen ∧ RdW W W.heap.size B m xs ∧ ∀ x ∈ xs, x.v.Fit) := by
  obtain ⟨c0, c1, y0, y1, k, rfl, _, _, h0, h1⟩ := Joins.open_agg2 Tryz.underlying62 (by kernel_rfl) cells_machL hv h
  obtain ⟨z0, k0, _, _, hy⟩ := trod_struct1 Tryz.underlying28 h0
  simp only [cells_u32sW, List.drop_zero, List.take_succ_cons, List.take_zero] at hy
  obtain ⟨A, n, c, zs, rfl, hm, hr, hf⟩ := u32s_cellW hy
  rcases Deep.open_slice Tryz.underlying60 h1 with ⟨hcs, _⟩ | ⟨x, l, c', m, n', D, Pl, hcs, _, hl, hm2, hmm, _, hel⟩
  · simp at hcs
    subst hcs
    exact ⟨A, n, c, zs, _, _, _, [], rfl, ⟨hm, hr, hf⟩, by unfold maxLen; omega, RdW.zero, by intro x hx; simp at hx⟩
  · simp at hcs
    subst hcs
    simp at hmm
    subst hmm
    rw [cells_warpL] at hel
    have hel2 : ∀ i, i < l → ∃ q : Wc, (∀ k v, q.cells[k]? = some v → W.cell? (x.add (i * 8 + k)) = some v) ∧ q.Rows W W.heap.size ∧ q.v.Fit := by
      intro i hi
      obtain ⟨cs', h1, h2⟩ := hel i (by omega)
      obtain ⟨q, rfl, hq, hf⟩ := warp_cells h2
      refine ⟨q, fun k v hk => ?_, hq, hf⟩
      have h3 := (World.cells?_some h1).2.2
      have hlt : k < 8 := by
        have := (List.getElem?_eq_some_iff.1 hk).1
        simpa [Wc.cells] using this
      have e0 := h3 k hlt
      rw [Deep.add_add] at e0
      rw [e0]
      simpa using hk
    obtain ⟨f, hf2⟩ := Deep.choose_lt hel2
    have hw : ∀ i, i < l → wat ((List.range l).map f) i = f i := by
      intro i hi
      simp [wat, hi]
    refine ⟨A, n, c, zs, _, _, _, (List.range l).map f, rfl, ⟨hm, hr, hf⟩, by omega, ⟨by simp, fun i hi => ?_, fun hn => ?_⟩, ?_⟩
    · rw [hw i hi]; exact (hf2 i hi).2.1
    · obtain ⟨b, off, spot⟩ := x
      have h0 := (hf2 0 (by omega)).1 0 _ rfl
      have hspot : spot = none := by simpa [Addr.add] using World.cell?_spot h0
      subst hspot
      have hblk := World.block_lt_of_cell? W _ h0
      refine ⟨b, off, rfl, by simpa [Addr.add] using hblk, fun i hi k v hk => ?_⟩
      rw [hw i hi] at hk
      rw [← (hf2 i hi).1 k v hk]
      congr 1
      unfold Addr.add; split <;> simp_all
      omega
    · intro q hq
      obtain ⟨i, hi, rfl⟩ := List.mem_map.1 hq
      exact (hf2 i (by simpa using hi)).2.2

end Go.Proofs.YtooegpebimpjcaaGreat
