/- The contract of the program's blockSetOf: the set of a list's blocks. -/
import Derived.Test.YthcchnaoenjhlaaSetP
import Derived.Test.YthcchnaoenjhlaaBlkP
namespace Go.Proofs.Ythcchnaoenjhlaa
open Go.RowKit Go.Maps

theorem take_mem {ps : List (Int × Int)} {k : Nat} (h : k < ps.length) (q : Int × Int) : (decide (q = (pa ps k, pb ps k)) || decide (q ∈ ps.take k)) = decide (q ∈ ps.take (k + 1)) := by
  rw [take_succ_p h]
  by_cases h1 : q = (pa ps k, pb ps k) <;> by_cases h2 : q ∈ ps.take k <;> simp [h1, h2]

set_option maxHeartbeats 1000000 in
theorem blockSetOf_any (A : Option Addr) (n c B : Nat) (ps : List (Int × Int)) (w : World) (h : RdP w B A n ps) (hB : B ≤ w.heap.size) (hn : n ≤ 1000) (hW : WfP ps) :
    Calls Try.prog 96 #[.slice A n c] w fun e w' => e = .returned (.map (some w.heap.size)) ∧ SetG w' w.heap.size n (fun p => decide (p ∈ ps)) ∧ Below w.heap.size w w' := by
  have hmk := fun W : World => run_makeMap (P := Try.prog) 123 W
  have HL := Lib.hid h.1
  have H2 := Lib.hid h.2
  have HW := Lib.hid hW
  have HS0 : Hid (SetG (w.alloc (.map #[] 0)) w.heap.size 0 (fun p => decide (p ∈ ps.take 0))) := (SetG.made w).congr (fun p _ => by simp)
  have HB0 := Lib.hid ((Below.refl _ w).alloc (Nat.le_refl _) (.map #[] 0))
  clear h hW
  go_enter Try.func96, Try.ntmps96
  go_wp2
  go_loopw [9] (fun i wr => ∃ k : Nat, k ≤ n ∧ i = .int .i64 k ∧ Hid (SetG wr w.heap.size k (fun p => decide (p ∈ ps.take k))) ∧ Hid (Below w.heap.size w wr)) (fun i _ => n - (intOf i).toNat)
  case atStart => exact ⟨0, Nat.zero_le _, rfl, HS0, HB0⟩
  case round =>
    obtain ⟨k, hk, rfl, HS, HBr⟩ := hrel
    clear HS0 HB0
    by_cases hlt : k < n
    · obtain ⟨g, o, rfl, hg, hc⟩ := H2.out (by omega)
      have c1 : wr.cell? ⟨g, o + k * 2, none⟩ = some (.int .i64 (pa ps k)) := (HBr.out.cell (p := ⟨g, o + k * 2, none⟩) (by show g < _; omega)).trans (hc k hlt).1
      have c2 : wr.cell? ⟨g, o + k * 2 + 1, none⟩ = some (.int .i64 (pb ps k)) := (HBr.out.cell (p := ⟨g, o + k * 2 + 1, none⟩) (by show g < _; omega)).trans (hc k hlt).2
      have hkl : k < ps.length := by rw [HL.out]; exact hlt
      have hw2 : Wf2 (pa ps k, pb ps k) := ⟨wf_in (HW.out.at k).1, wf_in (HW.out.at k).2⟩
      obtain ⟨w2, hr, hs2, hg2⟩ := (HS.out.alloc (.cells #[.int .i64 (pa ps k), .int .i64 (pb ps k)] 71)).store (by unfold maxLen; omega) hw2
      have HS2 := Lib.hid (hs2.congr (fun q _ => take_mem hkl q))
      have HB2 := Lib.hid ((HBr.out.alloc HBr.out.size (.cells #[.int .i64 (pa ps k), .int .i64 (pb ps k)] 71)).grown hg2 (by have := HBr.out.size; simp; omega) (fun j hj => by injection hj with hj; omega))
      unfold valP at hr
      generalize pa ps k = x at *
      generalize pb ps k = y at *
      clear hc hs2 hg2 HS HBr hw2
      go_wp2
      go_roundw
      case rel => exact ⟨k + 1, by omega, by go_num, HS2, HB2⟩
      case measure => simp [intOf]; omega
    · have HS2 := Lib.hid (HS.out.congr (f' := fun p => decide (p ∈ ps)) (fun q _ => by rw [List.take_of_length_le (by rw [HL.out]; omega)]))
      have hkn : k = n := by omega
      go_wp2
      go_ret
      subst hkn
      exact ⟨rfl, HS2.out, HBr.out⟩

end Go.Proofs.Ythcchnaoenjhlaa
