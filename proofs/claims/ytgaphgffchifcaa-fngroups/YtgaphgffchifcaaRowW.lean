/- A row of eight ints as the program keeps it: an array in a block of its own; the contract of rowOf. -/
import Derived.Test.YtgaphgffchifcaaIterX
import Derived.Deep.WholeRow
import Derived.Laws.Cover3
namespace Go.Proofs.Ytgaphgffchifcaa
open Go.RowKit Go.Shelf

attribute [local go_sem] Oper.semAt_some

theorem eight {zs : List Int} (h : zs.length = 8) : ∃ v0 v1 v2 v3 v4 v5 v6 v7, zs = [v0, v1, v2, v3, v4, v5, v6, v7] := by
  match zs, h with
  | [v0, v1, v2, v3, v4, v5, v6, v7], _ => exact ⟨v0, v1, v2, v3, v4, v5, v6, v7, rfl⟩

set_option maxRecDepth 100000 in
set_option maxHeartbeats 800000 in
theorem rowOf_in (F : Fence) (n : Nat) (hf : F.fn 63) (hro : F.round = none) (A : Option Addr) (c B : Nat) (v0 v1 v2 v3 v4 v5 v6 v7 : Int) (w : World) (h : RdK .i64 w B A 8 [v0, v1, v2, v3, v4, v5, v6, v7]) (hB : B ≤ w.heap.size) :
    CallsIn F n Try.prog 63 #[.slice A 8 c] w fun e w' => e = .returned (.tuple #[.agg #[.int .i64 v0, .int .i64 v1, .int .i64 v2, .int .i64 v3, .int .i64 v4, .int .i64 v5, .int .i64 v6, .int .i64 v7], .bool true]) ∧ w' = w.alloc (.cells #[.int .i64 v0, .int .i64 v1, .int .i64 v2, .int .i64 v3, .int .i64 v4, .int .i64 v5, .int .i64 v6, .int .i64 v7] 70) := by
  obtain ⟨g, o, rfl, hg, hc⟩ := h.2 (by omega)
  have c0 := hc 0 (by omega)
  have c1 := hc 1 (by omega)
  have c2 := hc 2 (by omega)
  have c3 := hc 3 (by omega)
  have c4 := hc 4 (by omega)
  have c5 := hc 5 (by omega)
  have c6 := hc 6 (by omega)
  have c7 := hc 7 (by omega)
  simp only [Nat.add_zero, List.getElem?_cons_zero, List.getElem?_cons_succ, Option.getD_some] at c0 c1 c2 c3 c4 c5 c6 c7
  have hg' : g < w.heap.size := by omega
  clear hc h
  have hat : ∀ w, (Instr.arrayAt 70 (.slice (some ⟨g, o, none⟩) 8 c)).run Try.prog w = .ok (.pointer (some ⟨g, o, none⟩)) w := fun w => run_arrayAt w 70 _ 8 _ 8 c Try.underlying70 (by omega)
  refine callsIn_of_wp Try.func63 rfl hf ?_ hro
  simp only [Try.ntmps63, List.size_toArray, List.length_cons, List.length_nil, Nat.reduceAdd, Nat.reduceSub, Array.replicate_succ, Array.replicate_zero, List.push_toArray, List.append_toArray, List.nil_append, List.cons_append]
  gi_wp2_with (simp only [hat])
  refine bodyPost_ret (v := .tuple #[.agg #[.int .i64 v0, .int .i64 v1, .int .i64 v2, .int .i64 v3, .int .i64 v4, .int .i64 v5, .int .i64 v6, .int .i64 v7], .bool true]) ?_ rfl ⟨rfl, rfl⟩
  have hres : Try.f63.results = #[.cell 2 70, .tmp 3] := by kernel_rfl
  rw [results_cell_tmp hres]
  go_simp

set_option maxRecDepth 100000 in
set_option maxHeartbeats 800000 in
theorem rowOf_no (F : Fence) (n : Nat) (hf : F.fn 63) (hro : F.round = none) (A : Option Addr) (m c : Nat) (w : World) (hm : ¬ m = 8) :
    CallsIn F n Try.prog 63 #[.slice A m c] w fun e w' => e = .returned (.tuple #[.agg #[.int .i64 0, .int .i64 0, .int .i64 0, .int .i64 0, .int .i64 0, .int .i64 0, .int .i64 0, .int .i64 0], .bool false]) ∧ w' = w.alloc (.cells #[.int .i64 0, .int .i64 0, .int .i64 0, .int .i64 0, .int .i64 0, .int .i64 0, .int .i64 0, .int .i64 0] 70) := by
  have hm' : ¬ (m : Int) = 8 := by omega
  clear hm
  refine callsIn_of_wp Try.func63 rfl hf ?_ hro
  simp only [Try.ntmps63, List.size_toArray, List.length_cons, List.length_nil, Nat.reduceAdd, Nat.reduceSub, Array.replicate_succ, Array.replicate_zero, List.push_toArray, List.append_toArray, List.nil_append, List.cons_append]
  gi_wp2
  refine bodyPost_ret (v := .tuple #[.agg #[.int .i64 0, .int .i64 0, .int .i64 0, .int .i64 0, .int .i64 0, .int .i64 0, .int .i64 0, .int .i64 0], .bool false]) ?_ rfl ⟨rfl, rfl⟩
  have hres : Try.f63.results = #[.cell 2 70, .tmp 3] := by kernel_rfl
  rw [results_cell_tmp hres]
  go_simp

end Go.Proofs.Ytgaphgffchifcaa
