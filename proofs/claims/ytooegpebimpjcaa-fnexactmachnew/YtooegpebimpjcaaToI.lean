/- The contract of the laws' toIntS: a copy of a slice of ints. Condition: at most 2^20 elements. -/
import Derived.Test.YtooegpebimpjcaaOwnK
namespace Go.Proofs.Ytooegpebimpjcaa
open Go.RowKit

/-- The first k numbers of zs, then zeros. -/
def fillTo (zs : List Int) (n k : Nat) : List Int := zs.take k ++ List.replicate (n - k) 0
theorem fill_len {zs : List Int} {n k : Nat} (hl : zs.length = n) (hk : k ≤ n) : (fillTo zs n k).length = n := by simp [fillTo]; omega
theorem fill_next {zs : List Int} {n k : Nat} (hl : zs.length = n) (hk : k < n) : (fillTo zs n k).set k (zs[k]?.getD 0) = fillTo zs n (k + 1) := by
  have h1 : k < zs.length := by omega
  unfold fillTo
  rw [List.take_succ_eq_append_getElem h1, show n - k = (n - (k + 1)) + 1 from by omega, List.replicate_succ, List.set_append]
  simp only [List.getElem?_eq_getElem h1, Option.getD_some, List.length_take, Nat.min_eq_left (Nat.le_of_lt h1), Nat.lt_irrefl, if_false, Nat.sub_self, List.set_cons_zero, List.append_assoc, List.cons_append, List.nil_append]
theorem fill_all {zs : List Int} {n k : Nat} (hl : zs.length = n) (hk : n ≤ k) : fillTo zs n k = zs := by
  unfold fillTo
  rw [List.take_of_length_le (by omega), show n - k = 0 from by omega]; simp

set_option maxHeartbeats 1000000 in
theorem toI_any (A : Option Addr) (n c B : Nat) (zs : List Int) (w : World) (h : RdK .i64 w B A n zs) (hB : B ≤ w.heap.size) (hn : n ≤ 1048576) :
    Calls Try.prog 52 #[.slice A n c] w fun e w' => ∃ g, e = .returned (.slice (some ⟨g, 0, none⟩) n n) ∧ OwnK 3 .i64 w' w.heap.size (some ⟨g, 0, none⟩) n n zs ∧ Below w.heap.size w w' := by
  obtain ⟨i0, hi, hz0, hz1, hz2⟩ := info_parts info_int
  have hb2 : i0.bytes * n ≤ 281474976710656 := by rw [hz2]; omega
  have hb3 : n ≤ maxLen := by unfold maxLen; omega
  have HL := Lib.hid h.1
  have H2 := Lib.hid h.2
  have HI := Lib.hid hi
  have HZ0 := Lib.hid hz0
  have HZ1 := Lib.hid hz1
  clear h hi hz0 hz1 hz2
  go_enter Try.func52, Try.ntmps52
  go_wp2_with (at_make; refine wpList_make_full _ rfl _ _ 27 rfl w.heap.size 3 i0 (.int .i64 0) 1 Try.underlying27 HI.out HZ0.out HZ1.out .i64 .i64 _ _ n rfl rfl rfl rfl hb2 hb3 (Nat.le_refl _) ?_)
  intro w1 hown hgr
  have HO : Hid (OwnK 3 .i64 w1 w.heap.size (some ⟨w.heap.size, 0, none⟩) n n (fillTo zs n 0)) := by
    have := toList_madeCells_one (.int .i64 0) n
    have h3 : w1.ownsRow w.heap.size 3 1 (.slice (some ⟨w.heap.size, 0, none⟩) n n) n (List.replicate n (.int .i64 0)) := this ▸ hown
    show w1.ownsRow _ _ _ _ _ ((fillTo zs n 0).map _)
    simpa [fillTo] using h3
  have HB : Hid (Below w.heap.size w w1) := (Below.refl _ _).grown hgr (Nat.le_refl _) (by simp)
  clear hown hgr
  go_wp2
  go_loopw [4] (fun i wr => ∃ k : Nat, k ≤ n ∧ i = .int .i64 k ∧ Hid (OwnK 3 .i64 wr w.heap.size (some ⟨w.heap.size, 0, none⟩) n n (fillTo zs n k)) ∧ Hid (Below w.heap.size w wr)) (fun i _ => n - (intOf i).toNat)
  case atStart => exact ⟨0, Nat.zero_le _, rfl, HO, HB⟩
  case round =>
    obtain ⟨k, hk, rfl, HOr, HBr⟩ := hrel
    clear HO HB
    by_cases hlt : k < n
    · obtain ⟨g, o, rfl, hg, hc⟩ := H2.out (by omega)
      have c1 : wr.cell? ⟨g, o + k, none⟩ = some (.int .i64 (zs[k]?.getD 0)) := (HBr.out.cell (p := ⟨g, o + k, none⟩) (by show g < _; omega)).trans (hc k hlt)
      have c2 := HOr.out.cell rfl hlt
      have f2 := HOr.out.free rfl k
      have HN : Hid (OwnK 3 .i64 (wr.setCell ⟨w.heap.size, k, none⟩ (.int .i64 (zs[k]?.getD 0))) w.heap.size (some ⟨w.heap.size, 0, none⟩) n n (fillTo zs n (k + 1))) := by
        rw [← fill_next HL.out hlt]; exact HOr.out.store
      have HM : Hid (Below w.heap.size w (wr.setCell ⟨w.heap.size, k, none⟩ (.int .i64 (zs[k]?.getD 0)))) := HBr.out.setCell (Nat.le_refl _) _
      clear hc HOr HBr
      go_wp2
      go_roundw
      case rel => exact ⟨k + 1, by omega, by go_num, HN, HM⟩
      case measure => simp [intOf]; omega
    · go_wp2
      go_ret
      refine ⟨w.heap.size, rfl, ?_, HBr.out⟩
      have := HOr.out
      rwa [fill_all HL.out (by omega)] at this

end Go.Proofs.Ytooegpebimpjcaa
