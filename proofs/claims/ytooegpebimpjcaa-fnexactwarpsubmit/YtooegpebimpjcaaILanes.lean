/- The contract of the program's lanes: the mask of the lanes that ask, of a valid request. -/
import Derived.Test.YtooegpebimpjcaaIReq
import Derived.Test.YtooegpebimpjcaaBallot
import Derived.Test.YtooegpebimpjcaaKp
namespace Go.Proofs.Ytooegpebimpjcaa
open Go.RowKit
set_option linter.unusedVariables false

theorem info_bool8 : (Try.prog.info? 4).map (fun i => (i.zero, i.size, i.bytes)) = some (some (.bool false), 1, 1) := by kernel_rfl

/-- Which elements are not z, for the first k; then as it was. -/
def notTo (z : Int) (vs : List Int) (k : Nat) : List Bool := (vs.take k).map (fun x => x != z) ++ List.replicate (8 - k) false
theorem notTo_next {z : Int} {vs : List Int} {k : Nat} (hl : vs.length = 8) (hk : k < 8) : (notTo z vs k).set k (vs[k]?.getD 0 != z) = notTo z vs (k + 1) := by
  have h1 : k < vs.length := by omega
  unfold notTo
  rw [List.take_succ_eq_append_getElem h1, show 8 - k = (8 - (k + 1)) + 1 by omega, List.replicate_succ, List.set_append]
  simp [h1, Nat.min_eq_left (Nat.le_of_lt h1), show min k 8 = k by omega]
  rw [List.take_succ_eq_append_getElem (show k < (vs.map (fun x => x != z)).length by simpa using h1)]
  simp
theorem notTo_all {z : Int} {vs : List Int} (hl : vs.length = 8) : notTo z vs 8 = vs.map (fun x => x != z) := by
  unfold notTo
  rw [List.take_of_length_le (by omega)]; simp
theorem lanes_ask {kd z : Int} {vs : List Int} (h : ReqGood kd vs) (hz : (kd = 1 ∧ z = 0) ∨ (kd = 2 ∧ z = -1)) : ballotA 8 (vs.map (fun x => x != z)) = orL (askL kd vs) := by
  unfold ballotA
  rw [if_pos rfl]
  congr 1
  unfold truesTo askL
  apply List.filter_congr
  intro i hi
  have hi8 : i < vs.length := by rw [h.1]; simpa using hi
  have hr := h.2 _ (List.getElem_mem hi8)
  unfold at0
  simp only [List.getElem?_map, List.getElem?_eq_getElem hi8, Option.map_some, Option.getD_some]
  rw [Bool.eq_iff_iff]
  simp only [bne_iff_ne, decide_eq_true_iff]
  unfold Asks
  unfold InReq at hr
  omega

set_option maxRecDepth 100000 in
set_option maxHeartbeats 2000000 in
theorem lanes_any (kd : Int) (A : Option Addr) (n c B : Nat) (vs : List Int) (w : World) (h : RdK .i64 w B A n vs) (hB : B ≤ w.heap.size) (hg : ReqGood kd vs) :
    Calls Try.prog 56 #[.agg #[.int .i64 kd, .slice A n c]] w fun e w' => e = .returned (.int .u32 ((orL (askL kd vs) : Nat) : Int)) ∧ Below w.heap.size w w' := by
  obtain ⟨i0, hi, hz0, hz1, hz2⟩ := info_parts info_bool8
  have hn : n = 8 := by rw [← h.1]; exact hg.1
  subst hn
  have HL := Lib.hid h.1
  have H2 := Lib.hid h.2
  have HI := Lib.hid hi
  have HZ0 := Lib.hid hz0
  have HZ1 := Lib.hid hz1
  have HZ2 := Lib.hid hz2
  obtain ⟨z, hk, hz⟩ : ∃ z, ((kd == 2) = false ∧ z = 0 ∨ (kd == 2) = true ∧ z = -1) ∧ ballotA 8 (vs.map (fun x => x != z)) = orL (askL kd vs) := by
    have hx := hg.2 (vs[0]'(by have := hg.1; omega)) (List.getElem_mem (by have := hg.1; omega))
    unfold InReq at hx
    rcases hx with ⟨hx, _⟩ | ⟨hx, _⟩
    · exact ⟨0, .inl ⟨by simp; omega, rfl⟩, lanes_ask hg (.inl ⟨hx, rfl⟩)⟩
    · exact ⟨-1, .inr ⟨by simp; omega, rfl⟩, lanes_ask hg (.inr ⟨hx, rfl⟩)⟩
  have HE := Lib.hid hz
  clear h hg hi hz0 hz1 hz2 hz
  rcases hk with ⟨hk, rfl⟩ | ⟨hk, rfl⟩
  · have B1 := Lib.hid (bel1 w (.cells #[.int .i64 kd, .slice A 8 c] 39))
    go_enter Try.func56, Try.ntmps56
    go_wp2_with (at_make; refine wpList_make_full _ rfl _ _ 116 rfl (w.heap.size + 1) 4 i0 (.bool false) 1 Try.underlying116 HI.out HZ0.out HZ1.out .i64 .i64 _ _ 8 rfl rfl rfl rfl (by rw [HZ2.out]; omega) (by unfold maxLen; omega) (by simp) ?_)
    intro w1 hown hgr
    have ez : (w.alloc (.cells #[.int .i64 kd, .slice A 8 c] 39)).heap.size = w.heap.size + 1 := sz1 _ _
    have HB : Hid (Below w.heap.size w w1) := B1.out.grown hgr B1.out.size (by simp)
    have hv := (hgr.block w.heap.size (by rw [ez]; omega) (by simp)).trans (heap_alloc_new w (.cells #[.int .i64 kd, .slice A 8 c] 39))
    have a1 := blkc hv 1 rfl
    have HO : Hid (OwnB w1 (w.heap.size + 1) (some ⟨w.heap.size + 1, 0, none⟩) 8 8 (notTo 0 vs 0)) := by
      have := toList_madeCells_one (.bool false) 8
      have h3 : w1.ownsRow (w.heap.size + 1) 4 1 (.slice (some ⟨w.heap.size + 1, 0, none⟩) 8 8) 8 (List.replicate 8 (.bool false)) := this ▸ hown
      show w1.ownsRow _ _ _ _ _ ((notTo 0 vs 0).map _)
      simpa [notTo] using h3
    clear hown hgr hv ez
    go_wp2
    clear a1
    go_loopw [19] (fun i wr => ∃ k : Nat, k ≤ 8 ∧ i = .int .i64 k ∧ Hid (OwnB wr (w.heap.size + 1) (some ⟨w.heap.size + 1, 0, none⟩) 8 8 (notTo 0 vs k)) ∧ Hid (Below w.heap.size w wr)) (fun i _ => 8 - (intOf i).toNat)
    case atStart => exact ⟨0, Nat.zero_le _, rfl, HO, HB⟩
    case round =>
      obtain ⟨k, hk8, rfl, HOr, HBr⟩ := hrel
      clear HO HB
      by_cases hlt : k < 8
      · obtain ⟨g, o, rfl, hg, hc⟩ := H2.out (by omega)
        have c1 : wr.cell? ⟨g, o + k, none⟩ = some (.int .i64 (vs[k]?.getD 0)) := (HBr.out.cell (p := ⟨g, o + k, none⟩) (by show g < _; omega)).trans (hc k hlt)
        have c2 := HOr.out.cell rfl hlt
        have f2 := HOr.out.free rfl k
        have hkI : (k : Int) < 8 := by omega
        have HN : Hid (OwnB (wr.setCell ⟨w.heap.size + 1, k, none⟩ (.bool (vs[k]?.getD 0 != 0))) (w.heap.size + 1) (some ⟨w.heap.size + 1, 0, none⟩) 8 8 (notTo 0 vs (k + 1))) := by
          rw [← notTo_next HL.out hlt]; exact HOr.out.store
        have HM : Hid (Below w.heap.size w (wr.setCell ⟨w.heap.size + 1, k, none⟩ (.bool (vs[k]?.getD 0 != 0)))) := HBr.out.setCell (by show _ ≤ w.heap.size + 1; omega) _
        generalize vs[k]?.getD 0 = x at *
        clear hc HOr HBr
        go_wp2
        go_roundw
        case rel => exact ⟨k + 1, by omega, by go_num, HN, HM⟩
        case measure => simp [intOf]; omega
      · obtain rfl : k = 8 := by omega
        have HA : Hid (OwnB wr (w.heap.size + 1) (some ⟨w.heap.size + 1, 0, none⟩) 8 8 (vs.map (fun x => x != 0))) := by
          have := HOr.out
          rwa [notTo_all HL.out] at this
        go_wp2_with fail
        refine (ballot_any _ 8 8 _ _ _ HA.out.rd).mono ?_
        rintro e w5 ⟨rfl, rfl⟩
        rw [HE.out]
        go_wp2
        go_ret
        exact ⟨rfl, HBr.out⟩
  · have B1 := Lib.hid (bel1 w (.cells #[.int .i64 kd, .slice A 8 c] 39))
    go_enter Try.func56, Try.ntmps56
    go_wp2_with (at_make; refine wpList_make_full _ rfl _ _ 116 rfl (w.heap.size + 1) 4 i0 (.bool false) 1 Try.underlying116 HI.out HZ0.out HZ1.out .i64 .i64 _ _ 8 rfl rfl rfl rfl (by rw [HZ2.out]; omega) (by unfold maxLen; omega) (by simp) ?_)
    intro w1 hown hgr
    have ez : (w.alloc (.cells #[.int .i64 kd, .slice A 8 c] 39)).heap.size = w.heap.size + 1 := sz1 _ _
    have HB : Hid (Below w.heap.size w w1) := B1.out.grown hgr B1.out.size (by simp)
    have hv := (hgr.block w.heap.size (by rw [ez]; omega) (by simp)).trans (heap_alloc_new w (.cells #[.int .i64 kd, .slice A 8 c] 39))
    have a1 := blkc hv 1 rfl
    have HO : Hid (OwnB w1 (w.heap.size + 1) (some ⟨w.heap.size + 1, 0, none⟩) 8 8 (notTo (-1) vs 0)) := by
      have := toList_madeCells_one (.bool false) 8
      have h3 : w1.ownsRow (w.heap.size + 1) 4 1 (.slice (some ⟨w.heap.size + 1, 0, none⟩) 8 8) 8 (List.replicate 8 (.bool false)) := this ▸ hown
      show w1.ownsRow _ _ _ _ _ ((notTo (-1) vs 0).map _)
      simpa [notTo] using h3
    clear hown hgr hv ez
    go_wp2
    clear a1
    go_loopw [19] (fun i wr => ∃ k : Nat, k ≤ 8 ∧ i = .int .i64 k ∧ Hid (OwnB wr (w.heap.size + 1) (some ⟨w.heap.size + 1, 0, none⟩) 8 8 (notTo (-1) vs k)) ∧ Hid (Below w.heap.size w wr)) (fun i _ => 8 - (intOf i).toNat)
    case atStart => exact ⟨0, Nat.zero_le _, rfl, HO, HB⟩
    case round =>
      obtain ⟨k, hk8, rfl, HOr, HBr⟩ := hrel
      clear HO HB
      by_cases hlt : k < 8
      · obtain ⟨g, o, rfl, hg, hc⟩ := H2.out (by omega)
        have c1 : wr.cell? ⟨g, o + k, none⟩ = some (.int .i64 (vs[k]?.getD 0)) := (HBr.out.cell (p := ⟨g, o + k, none⟩) (by show g < _; omega)).trans (hc k hlt)
        have c2 := HOr.out.cell rfl hlt
        have f2 := HOr.out.free rfl k
        have hkI : (k : Int) < 8 := by omega
        have HN : Hid (OwnB (wr.setCell ⟨w.heap.size + 1, k, none⟩ (.bool (vs[k]?.getD 0 != (-1)))) (w.heap.size + 1) (some ⟨w.heap.size + 1, 0, none⟩) 8 8 (notTo (-1) vs (k + 1))) := by
          rw [← notTo_next HL.out hlt]; exact HOr.out.store
        have HM : Hid (Below w.heap.size w (wr.setCell ⟨w.heap.size + 1, k, none⟩ (.bool (vs[k]?.getD 0 != (-1))))) := HBr.out.setCell (by show _ ≤ w.heap.size + 1; omega) _
        generalize vs[k]?.getD 0 = x at *
        clear hc HOr HBr
        go_wp2
        go_roundw
        case rel => exact ⟨k + 1, by omega, by go_num, HN, HM⟩
        case measure => simp [intOf]; omega
      · obtain rfl : k = 8 := by omega
        have HA : Hid (OwnB wr (w.heap.size + 1) (some ⟨w.heap.size + 1, 0, none⟩) 8 8 (vs.map (fun x => x != (-1)))) := by
          have := HOr.out
          rwa [notTo_all HL.out] at this
        go_wp2_with fail
        refine (ballot_any _ 8 8 _ _ _ HA.out.rd).mono ?_
        rintro e w5 ⟨rfl, rfl⟩
        rw [HE.out]
        go_wp2
        go_ret
        exact ⟨rfl, HBr.out⟩

end Go.Proofs.Ytooegpebimpjcaa
