/- How an argument of these statements is opened: a semaphore by value. -/
import Derived.Test.YtflkakfflfocmaaOpenB
import Derived.Lib.SmallJoins
namespace Go.Proofs.Ytflkakfflfocmaa
open Go.ChangeShapes Go.WideShapes Go.ChangeAt Go.RowKit

theorem cells_sema : Try.prog.cellsOf 35 = 3 := by kernel_rfl

theorem int_cellS {H : Type} {enc : TypeId × Value → H} {W : World} {t : TypeId} {k : IntKind} {n : Nat} {c : Value} {y : DataW H × List MemPlace} (ht : Try.prog.underlying t = some (.int k)) (h : DataW.trod enc Try.prog W 0 (fun _ => true) true n t [c] = some y) : ∃ z, c = .int k z ∧ (Lit.int k z).wf = true := by
  obtain ⟨z, hc, _, hw⟩ := DataW.trod_int ht h
  simp at hc
  exact ⟨z, hc, hw⟩

set_option maxRecDepth 100000 in
theorem open_sema {H : Type} {enc : TypeId × Value → H} {W : World} {base : Nat} {v : Value} {d : DataW H} {p : List MemPlace} (hv : Value.okWide Try.prog W .any base 35 v)
    (h : DataW.Trod enc Try.prog W 0 (fun _ => true) true 35 v d p) :
    ∃ a b c, v = .agg #[.int .i64 a, .int .i64 b, .int .i64 c] ∧ (Lit.int .i64 a).wf = true ∧ (Lit.int .i64 b).wf = true ∧ (Lit.int .i64 c).wf = true := by
  obtain ⟨c0, c1, c2, y0, y1, y2, m, rfl, _, _, h0, h1, h2⟩ := Joins.open_agg3 Try.underlying35 (by kernel_rfl) cells_sema hv h
  obtain ⟨a, rfl, wa⟩ := int_cellS Try.underlying3 h0
  obtain ⟨b, rfl, wb⟩ := int_cellS Try.underlying3 h1
  obtain ⟨c, rfl, wc⟩ := int_cellS Try.underlying3 h2
  exact ⟨a, b, c, rfl, wa, wb, wc⟩

end Go.Proofs.Ytflkakfflfocmaa
