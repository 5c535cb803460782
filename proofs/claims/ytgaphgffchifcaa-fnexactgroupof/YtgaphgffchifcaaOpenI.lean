/- How an argument of these statements is opened: a slice of ints. -/
import Derived.Test.YtgaphgffchifcaaOpenB
import Derived.Test.YtgaphgffchifcaaOwnK
namespace Go.Proofs.Ytgaphgffchifcaa
open Go.ChangeShapes Go.WideShapes Go.ChangeAt Go.RowKit

theorem cells_int : Try.prog.cellsOf 3 = 1 := by kernel_rfl

theorem open_intS {H : Type} {enc : TypeId × Value → H} {W : World} {base : Nat} {v : Value} {d : DataW H} {p : List MemPlace} (hv : Value.okWide Try.prog W .any base 33 v)
    (h : DataW.Trod enc Try.prog W 0 (fun _ => true) true 33 v d p) :
    ∃ A n c bs, v = .slice A n c ∧ n ≤ maxLen ∧ RdK .i64 W W.heap.size A n bs ∧ ∀ z ∈ bs, -9223372036854775808 ≤ z ∧ z < 9223372036854775808 := by
  obtain ⟨a0, l0, c0, rfl⟩ := okWide_slice Try.underlying33 hv
  obtain ⟨fuel, hf⟩ := h
  rcases open_ints Try.underlying33 Try.underlying3 cells_int hf with ⟨hcs, _⟩ | ⟨x, l, c, zs, hcs, _, hl, hm, hz, _, hcell, hwz⟩
  · simp [Value.cells] at hcs
    obtain ⟨rfl, rfl, rfl⟩ := hcs
    exact ⟨_, _, _, [], rfl, by unfold maxLen; omega, RdK.zero, by simp⟩
  · simp [Value.cells] at hcs
    obtain ⟨rfl, rfl, rfl⟩ := hcs
    have hz' : zs.length = c0 := by simpa using hz
    refine ⟨_, _, _, zs.take l0, rfl, by omega, ⟨by simp; omega, fun hn => ?_⟩, fun z hzz => by have := bounds_i64 (hwz z (List.mem_of_mem_take hzz)); omega⟩
    obtain ⟨b, off, spot⟩ := x
    have h0 := hcell 0 (by omega)
    have hspot : spot = none := by simpa [Addr.add] using World.cell?_spot h0
    subst hspot
    have hblk := World.block_lt_of_cell? W _ h0
    refine ⟨b, off, rfl, by simpa [Addr.add] using hblk, fun i hi => ?_⟩
    have := hcell i (by omega)
    have e : (zs.take l0)[i]?.getD 0 = zs.getD i 0 := by simp [hi]
    rw [e, ← this]
    congr 1
    unfold Addr.add; split <;> simp_all

end Go.Proofs.Ytgaphgffchifcaa
