/- How an argument of these statements is opened: a control state by value. -/
import Derived.Test.YtaidlmhenmlknaaOpenB
import Derived.Lib.SmallJoins
namespace Go.Proofs.Ytaidlmhenmlknaa
open Go.ChangeShapes Go.WideShapes Go.ChangeAt Go.RowKit

theorem cells_ctl : Try.prog.cellsOf 37 = 4 := by kernel_rfl

theorem int_cell {H : Type} {enc : TypeId × Value → H} {W : World} {t : TypeId} {k : IntKind} {n : Nat} {c : Value} {y : DataW H × List MemPlace} (ht : Try.prog.underlying t = some (.int k)) (h : DataW.trod enc Try.prog W 0 (fun _ => true) true n t [c] = some y) : ∃ z, c = .int k z ∧ (Lit.int k z).wf = true := by
  obtain ⟨z, hc, _, hw⟩ := DataW.trod_int ht h
  simp at hc
  exact ⟨z, hc, hw⟩

theorem open_ctl {H : Type} {enc : TypeId × Value → H} {W : World} {base : Nat} {v : Value} {d : DataW H} {p : List MemPlace} (hv : Value.okWide Try.prog W .any base 37 v)
    (h : DataW.Trod enc Try.prog W 0 (fun _ => true) true 37 v d p) :
    ∃ a b c e, v = .agg #[.int .i64 a, .int .i64 b, .int .u32 c, .int .i64 e] ∧ (Lit.int .i64 a).wf = true ∧ (Lit.int .i64 b).wf = true ∧ (Lit.int .u32 c).wf = true ∧ (Lit.int .i64 e).wf = true := by
  obtain ⟨c0, c1, c2, c3, y0, y1, y2, y3, m, rfl, _, _, h0, h1, h2, h3⟩ := Joins.open_agg4 Try.underlying37 (by kernel_rfl) cells_ctl hv h
  obtain ⟨a, rfl, wa⟩ := int_cell Try.underlying3 h0
  obtain ⟨b, rfl, wb⟩ := int_cell Try.underlying3 h1
  obtain ⟨c, rfl, wc⟩ := int_cell Try.underlying26 h2
  obtain ⟨e, rfl, we⟩ := int_cell Try.underlying3 h3
  exact ⟨a, b, c, e, rfl, wa, wb, wc, we⟩

end Go.Proofs.Ytaidlmhenmlknaa
