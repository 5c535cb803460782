/- The contract of the model's l03Alike: the lanes of a list that have the number of its first. -/
import Derived.Test.YtgaphgffchifcaaSRow
import Derived.Test.YtgaphgffchifcaaGroupMath
import Derived.Test.YtgaphgffchifcaaSOf
import Derived.Test.YtgaphgffchifcaaIGrp
namespace Go.Proofs.Ytgaphgffchifcaa
open Go.RowKit

theorem alike_take (zs : List Int) (l : List Nat) (z : Int) {k : Nat} (h : k < l.length) : alike zs (l.take (k + 1)) z = alike zs (l.take k) z ++ (if at0 zs l[k] = z then [l[k]] else []) := by
  rw [List.take_succ_eq_append_getElem h, alike_snoc]
theorem alike_len (zs : List Int) (l : List Nat) (z : Int) : (alike zs l z).length ≤ l.length := List.length_filter_le _ _
/-- The value of the first lane of a list. -/
def first0 (zs : List Int) (l : List Nat) : Int := at0 zs (l[0]?.getD 0)

set_option maxRecDepth 100000 in
set_option maxHeartbeats 1000000 in
theorem sAlike_any (A A2 : Option Addr) (c c2 B : Nat) (zs : List Int) (l : List Nat) (w : World) (h : RdK .i64 w B A 8 zs) (h2 : RdK .i64 w B A2 l.length (ints l)) (hB : B ≤ w.heap.size) (hl8 : ∀ j ∈ l, j < 8) (hl : l.length ≤ 32) :
    Calls Try.prog 67 #[.slice A 8 c, .slice A2 l.length c2] w fun e w' => ∃ A' c', e = .returned (.slice A' (alike zs l (first0 zs l)).length c') ∧ OwnK 3 .i64 w' w.heap.size A' (alike zs l (first0 zs l)).length c' (ints (alike zs l (first0 zs l))) ∧ Below w.heap.size w w' := by
  obtain ⟨ga, oa, rfl, hga, hca⟩ := h.2 (by omega)
  have HA := Lib.hid hca
  have H2 := Lib.hid h2
  have HL8 := Lib.hid hl8
  clear h h2 hca hl8
  have OO : Hid (OwnK 3 .i64 (w.alloc (.cells #[] 3)) w.heap.size (some ⟨w.heap.size, 0, none⟩) 0 0 (ints (alike zs (l.take 0) (first0 zs l)))) := World.ownsRow_made w #[] 0 (Nat.le_refl _) (by unfold maxLen; omega) rfl
  have B0 : Hid (Below w.heap.size w (w.alloc (.cells #[] 3))) := (Below.refl _ w).alloc (Nat.le_refl _) _
  go_enter Try.func67, Try.ntmps67
  go_wp2
  go_loopw [5, 6] (fun v i wr => ∃ (k m : Nat) (A' : Option Addr) (c' : Nat), k ≤ l.length ∧ m ≤ k ∧ i = .int .i64 k ∧ v = .slice A' m c' ∧ Hid ((alike zs (l.take k) (first0 zs l)).length = m) ∧ Hid (OwnK 3 .i64 wr w.heap.size A' m c' (ints (alike zs (l.take k) (first0 zs l)))) ∧ Hid (Below w.heap.size w wr)) (fun _ i _ => l.length - (intOf i).toNat)
  case atStart => exact ⟨0, 0, _, _, by omega, by omega, rfl, rfl, rfl, OO, B0⟩
  case round =>
    obtain ⟨k, m, A', c', hk, hmk, rfl, rfl, HM, HO, HB⟩ := hrel
    clear OO B0
    have hs : w.heap.size ≤ wr.heap.size := HB.out.size
    by_cases hlt : k < l.length
    · obtain ⟨gl, ol, rfl, hgl, hcl⟩ := H2.out.2 (by omega)
      have c1 := hcl k hlt
      have c0 := hcl 0 (by omega)
      rw [ints_at l hlt] at c1
      rw [ints_at l (show 0 < l.length by omega)] at c0
      have c1' := (HB.out.cell (p := ⟨gl, ol + k, none⟩) (by show gl < _; omega)).trans c1
      have c0' := (HB.out.cell (p := ⟨gl, ol + 0, none⟩) (by show gl < _; omega)).trans c0
      have hj : l[k] < 8 := HL8.out _ (List.getElem_mem hlt)
      have hj0 : l[0] < 8 := HL8.out _ (List.getElem_mem _)
      have c2 : wr.cell? ⟨ga, oa + l[k], none⟩ = some (.int .i64 (at0 zs l[k])) := (HB.out.cell (p := ⟨ga, oa + l[k], none⟩) (by show ga < _; omega)).trans (HA.out _ hj)
      have c3 : wr.cell? ⟨ga, oa + l[0], none⟩ = some (.int .i64 (at0 zs l[0])) := (HB.out.cell (p := ⟨ga, oa + l[0], none⟩) (by show ga < _; omega)).trans (HA.out _ hj0)
      have hf : first0 zs l = at0 zs l[0] := by unfold first0; rw [List.getElem?_eq_getElem (by omega), Option.getD_some]
      have HT := Lib.hid (alike_take zs l (first0 zs l) hlt)
      rw [← hf] at c3
      have hkl : (k : Int) < (l.length : Int) := by omega
      have hl0 : (0 : Int) < (l.length : Int) := by omega
      generalize first0 zs l = z0 at *
      generalize at0 zs l[k] = z at *
      generalize l[k] = j at *
      generalize l[0] = j0 at *
      have hj' : (j : Int) < 8 := by omega
      have hj0' : (j0 : Int) < 8 := by omega
      clear hcl hf c1 c0
      simp only [Nat.add_zero] at c0'
      by_cases hz : z = z0
      · subst hz
        rw [if_pos rfl] at HT
        go_wp2
        go_quiet (fail)
        go_wp2_with (at_builtin; refine wpList_push_int rfl (.tmp 28) (.tmp 33) rfl w.heap.size m c' A' _ _ rfl rfl HO.out (by omega) hs ?_)
        intro A3 c3' w4 O3 B3
        have HB4 : Hid (Below w.heap.size w w4) := (show Below w.heap.size w (wr.drewN nq) from ⟨HB.out.os, HB.out.tape, HB.out.output, HB.out.size, HB.out.block⟩).trans B3.out
        clear HB B3 HO
        go_wp2
        go_roundw
        case rel =>
          refine ⟨k + 1, m + 1, A3, c3', by omega, by omega, by go_num, rfl, ?_, ?_, HB4⟩
          · show _ = _
            rw [HT.out, List.length_append, HM.out]; rfl
          · rw [HT.out, ints_snoc]; exact O3
        case measure => simp [intOf]; omega
      · rw [if_neg hz, List.append_nil] at HT
        have hz' : (z == z0) = false := by simpa using hz
        clear hz
        go_wp2
        go_quiet (fail)
        go_wp2
        go_roundw
        case rel =>
          refine ⟨k + 1, m, A', c', by omega, by omega, by go_num, rfl, ?_, ?_, ⟨HB.out.os, HB.out.tape, HB.out.output, HB.out.size, HB.out.block⟩⟩
          · rw [HT.out]; exact HM
          · rw [HT.out]; exact HO.out
        case measure => simp [intOf]; omega
    · obtain rfl : k = l.length := by omega
      go_wp2
      go_ret
      have := HO.out
      have hm := HM.out
      rw [List.take_length] at this hm
      rw [hm]
      exact ⟨A', c', rfl, this, HB.out⟩

end Go.Proofs.Ytgaphgffchifcaa
