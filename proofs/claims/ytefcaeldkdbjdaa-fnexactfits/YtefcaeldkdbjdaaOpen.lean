/- How an argument of these statements is opened: a memory by value, a slice of bytes. -/
import Derived.Test.YtefcaeldkdbjdaaOpenB
namespace Go.Proofs.Ytefcaeldkdbjdaa
open Go.ChangeShapes Go.WideShapes Go.ChangeAt Go.RowKit

theorem cells_mem : Try.prog.cellsOf 26 = 1 := by kernel_rfl
theorem cells_words : Try.prog.cellsOf 24 = 1 := by kernel_rfl
theorem cells_u32 : Try.prog.cellsOf 36 = 1 := by kernel_rfl

theorem u32_of_wf {z : Int} (h : (Lit.int .u32 z).wf = true) : 0 ≤ z ∧ z < 4294967296 := by
  have := bounds_u32 h
  omega

theorem at_bounds {zs : List Int} (hf : ∀ z ∈ zs, 0 ≤ z ∧ z < 4294967296) {k : Nat} (hk : k < zs.length) : 0 ≤ zs[k]?.getD 0 ∧ zs[k]?.getD 0 < 4294967296 := by
  rw [List.getElem?_eq_getElem hk, Option.getD_some]
  exact hf _ (List.getElem_mem hk)

set_option maxRecDepth 100000 in
theorem open_mem {H : Type} {enc : TypeId × Value → H} {W : World} {base : Nat} {v : Value} {d : DataW H} {p : List MemPlace} (hv : Value.okWide Try.prog W .any base 26 v)
    (h : DataW.Trod enc Try.prog W 0 (fun _ => true) true 26 v d p) :
    ∃ A n c zs, v = .agg #[.slice A n c] ∧ n ≤ maxLen ∧ Rd W W.heap.size A n zs ∧ ∀ z ∈ zs, 0 ≤ z ∧ z < 4294967296 := by
  obtain ⟨cs, rfl, hsz⟩ := okWide_struct Try.underlying26 hv
  rw [cells_mem] at hsz
  obtain ⟨c0, rfl⟩ : ∃ c0, cs = #[c0] := by
    obtain ⟨l⟩ := cs
    match l, hsz with
    | [c0], _ => exact ⟨c0, rfl⟩
  obtain ⟨fuel, hf⟩ := h
  obtain ⟨y0, n, _, _, hy⟩ := trod_struct1 Try.underlying26 hf
  simp only [cells_words, Value.cells, List.drop_zero, List.take_succ_cons, List.take_zero] at hy
  rcases open_ints Try.underlying24 Try.underlying36 cells_u32 hy with ⟨hcs, _⟩ | ⟨x, l, c, zs, hcs, _, hl, hm, hz, _, hcell, hwz⟩
  · simp at hcs
    subst hcs
    exact ⟨_, _, _, [], rfl, by unfold maxLen; omega, Rd.zero, by simp⟩
  · simp at hcs
    subst hcs
    have hz' : zs.length = c := by simpa using hz
    refine ⟨_, _, _, zs.take l, rfl, by omega, ⟨by simp; omega, fun hn => ?_⟩, fun z hzz => u32_of_wf (hwz z (List.mem_of_mem_take hzz))⟩
    obtain ⟨b, off, spot⟩ := x
    have h0 := hcell 0 (by omega)
    have hspot : spot = none := by simpa [Addr.add] using World.cell?_spot h0
    subst hspot
    have hblk := World.block_lt_of_cell? W _ h0
    refine ⟨b, off, rfl, by simpa [Addr.add] using hblk, fun i hi => ?_⟩
    have := hcell i (by omega)
    have e : (zs.take l)[i]?.getD 0 = zs.getD i 0 := by simp [hi]
    rw [e, ← this]
    congr 1
    unfold Addr.add; split <;> simp_all

end Go.Proofs.Ytefcaeldkdbjdaa
