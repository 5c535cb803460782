/- Two rows compared as arrays. -/
import Derived.Test.YtgaphgffchifcaaRowBox
import Derived.ChangeKeysEq
import Derived.Laws.StructEq
namespace Go.Proofs.Ytgaphgffchifcaa
open Go.RowKit Go.Shelf

theorem row_guard : Try.prog.eqGuardType Try.prog.depth 70 = false := by kernel_rfl
theorem int_cells : Try.prog.cellsOf 3 = 1 := by kernel_rfl
theorem int_plain : Try.prog.plainKey 3 = true := by kernel_rfl
theorem row_item (W : World) (zs : List Int) (i : Nat) (hi : i < zs.length) : (part 3 (rowC zs) (i * 1)).run Try.prog W = .ok (.int .i64 (zs[i]?.getD 0)) W := by
  refine Go.run_part_plain W int_plain ?_
  simp [rowC, hi]
theorem row_items (W : World) (us zs : List Int) (hu : us.length = 8) (hz : zs.length = 8) : ∀ (is : List Nat), (∀ i ∈ is, i < 8) → (Op.eqItems 9999 3 (Try.prog.cellsOf 3) (rowC us) (rowC zs) is).run Try.prog W = .ok (decide (∀ i ∈ is, us[i]?.getD 0 = zs[i]?.getD 0)) W := by
  intro is
  rw [int_cells]
  induction is with
  | nil => intro _; simp [Op.eqItems]
  | cons i is ih =>
    intro h
    have hi : i < 8 := h i (by simp)
    have e : (Op.equalIn (9998 + 1) 3 (.int .i64 (us[i]?.getD 0)) (.int .i64 (zs[i]?.getD 0))).run Try.prog W = .ok (us[i]?.getD 0 == zs[i]?.getD 0) W := run_equalIn_int W 9998 3 .i64 .i64 _ _ Try.underlying3
    simp only [Op.eqItems, Sem.run_bind, row_item W us i (by omega), row_item W zs i (by omega), Result.andThen_ok]
    rw [e]
    simp only [Result.andThen_ok]
    by_cases hh : us[i]?.getD 0 = zs[i]?.getD 0
    · rw [if_neg (by simp [hh]), ih (fun j hj => h j (by simp [hj]))]
      simp [hh]
    · rw [if_pos (by simpa using hh)]
      simp [hh]
theorem row_eq (W : World) (us zs : List Int) (hu : us.length = 8) (hz : zs.length = 8) : (Op.equalIn 10000 70 (.agg (rowC us)) (.agg (rowC zs))).run Try.prog W = .ok (decide (us = zs)) W := by
  obtain ⟨i0, hi, _, _, _⟩ := info_parts info_int
  rw [run_equalIn_array W 9999 (rowC us) (rowC zs) Try.underlying70 hi, row_items W us zs hu hz _ (by simp)]
  congr 1
  apply decide_eq_decide.2
  constructor
  · intro h
    apply List.ext_getElem?
    intro i
    by_cases h8 : i < 8
    · have := h i (by simpa using h8)
      rw [List.getElem?_eq_getElem (by omega), List.getElem?_eq_getElem (by omega)] at this ⊢
      simpa using this
    · rw [List.getElem?_eq_none (by omega), List.getElem?_eq_none (by omega)]
  · rintro rfl i _
    rfl

end Go.Proofs.Ytgaphgffchifcaa
