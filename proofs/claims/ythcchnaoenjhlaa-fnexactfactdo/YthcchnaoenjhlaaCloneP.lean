/- The contract of slices.Clone at lists of blocks. -/
import Derived.Test.YthcchnaoenjhlaaAppP
import Derived.Lib.SliceRun
namespace Go.Proofs.Ythcchnaoenjhlaa
open Go.RowKit

set_option maxHeartbeats 1000000 in
theorem clone_any (g o n c B : Nat) (ps : List (Int × Int)) (w : World) (h : RdP w B (some ⟨g, o, none⟩) n ps) (hn : n ≤ 1048640) :
    Calls Try.prog 132 #[.slice (some ⟨g, o, none⟩) n c] w fun e w' => ∃ A' c', e = .returned (.slice A' n c') ∧ OwnP w' w.heap.size A' n c' ps ∧ Below w.heap.size w w' := by
  have q : ∀ (w : World) (a : Option Addr) (n c n' c' : Nat), (binOp .eql 30 (.slice a n c) (.slice none n' c')).run Try.prog w = .ok (.bool a.isNone) w := fun w a n c n' c' => Lib.run_eql_slice_nil w _ _ a n c n' c' Try.underlying30
  have HL := Lib.hid h.1
  have HR : Hid (∀ i, i < n → w.cell? ⟨g, o + i * 2, none⟩ = some (.int .i64 (pa ps i)) ∧ w.cell? ⟨g, o + i * 2 + 1, none⟩ = some (.int .i64 (pb ps i))) := fun i hi => by
    obtain ⟨g', o', e, _, hc⟩ := h.2 (by omega)
    injection e with e
    injection e with e1 e2
    subst e1 e2
    exact hc i hi
  have HO : Hid (OwnP (w.alloc (.cells #[] 71)) w.heap.size (some ⟨w.heap.size, 0, none⟩) 0 0 []) := World.ownsRow_made w #[] 0 (Nat.le_refl _) (Nat.zero_le _) (by simp)
  have HC : Hid (∀ i, i < n → (w.alloc (.cells #[] 71)).cell? ⟨g, o + i * 2, none⟩ = some (.int .i64 (pa ps i)) ∧ (w.alloc (.cells #[] 71)).cell? ⟨g, o + i * 2 + 1, none⟩ = some (.int .i64 (pb ps i))) := fun i hi => ⟨older (HR.out i hi).1 _, older (HR.out i hi).2 _⟩
  clear h
  go_enter Try.func132, Try.ntmps132
  go_wp2_with (at_builtin; refine wpList_cat_p rfl _ _ rfl w.heap.size 0 0 _ [] ps g o n c rfl rfl HO.out HL.out HC.out (by omega) (by simp) ?_; intro A' c' w' HO' HB' _)
  go_ret
  refine ⟨A', c', by simp, by simpa using HO'.out, ((Below.refl _ _).alloc (Nat.le_refl _) _).trans HB'.out⟩

end Go.Proofs.Ythcchnaoenjhlaa
