/- What the model's DrawChunksFor hands out: a number; nothing old has turned. -/
import Derived.Test.YtaidlmhenmlknaaDrawT
namespace Go.Proofs.Ytaidlmhenmlknaa
open Go.RowKit

theorem lit5 {wr : World} {g : Nat} {a1 a2 a3 a4 a5 r : Int} (L : wr.heap[g]? = some (.cells #[.int .i64 a1, .int .i64 a2, .int .i64 a3, .int .i64 a4, .int .i64 a5] 3 (0, 0))) (h1 : (Lit.int .i64 a1).wf = true) (h2 : (Lit.int .i64 a2).wf = true) (h3 : (Lit.int .i64 a3).wf = true) (h4 : (Lit.int .i64 a4).wf = true) (h5 : (Lit.int .i64 a5).wf = true) (s0 : 0 ≤ r) (s1 : r < 5 ∨ r = 0) :
    ∃ v : Int, Hid ((Lit.int .i64 v).wf = true) ∧ wr.cell? ⟨g, r.toNat, none⟩ = some (.int .i64 v) := by
  have hcell := fun k => cell_of_row wr g k _ _ (0, 0) L
  rcases (show r = 0 ∨ r = 1 ∨ r = 2 ∨ r = 3 ∨ r = 4 by omega) with rfl | rfl | rfl | rfl | rfl
  · exact ⟨a1, h1, hcell 0⟩
  · exact ⟨a2, h2, hcell 1⟩
  · exact ⟨a3, h3, hcell 2⟩
  · exact ⟨a4, h4, hcell 3⟩
  · exact ⟨a5, h5, hcell 4⟩

set_option maxRecDepth 100000 in
set_option maxHeartbeats 4000000 in
theorem drawChunksFor (A : Option Addr) (n c : Nat) (bs : List Int) (w : World) (h : RdK .u8 w w.heap.size A n bs) (hf : ∀ z ∈ bs, 0 ≤ z ∧ z < 256) (hn : n ≤ 1048576) :
    Calls Try.prog 13 #[.slice A n c] w fun e w' => ∃ N : Int, e = .returned (.int .i64 N) ∧ Hid ((Lit.int .i64 N).wf = true) ∧ Hid (Below w.heap.size w w') := by
  have H := Lib.hid h
  have HF := Lib.hid hf
  clear h hf
  go_enter Try.func13, Try.ntmps13
  go_wp2_with fail
  refine (open_cur A n c bs _ H.out HF.out hn).mono ?_
  rintro e w1 ⟨rfl, C1, B1⟩
  have I0 : Hid (CI w A n c bs 0 w1) := ⟨C1.out, B1.out⟩
  clear C1 B1 H HF
  go_wp2_with fail
  refine (ci_pick I0.out 19 (by omega) (by omega)).mono ?_
  rintro e w2 ⟨r2, rfl, p2, q2, I2, _⟩
  clear I0
  go_wp2_with fail
  refine (ci_pick I2.out 256 (by omega) (by omega)).mono ?_
  rintro e w3 ⟨r3, rfl, p3, q3, I3, _⟩
  clear I2
  go_wp2_with fail
  refine (ci_raw I3.out (by omega)).mono ?_
  rintro e w4 ⟨r4, rfl, W4, I4, _⟩
  clear I3
  go_wp2_with fail
  have hlt := I4.out.lt
  refine (ci_pick (I4.out.alloc _) 5 (by omega) (by omega)).mono ?_
  rintro e w5 ⟨r5, rfl, p5, q5, I5, G5⟩
  obtain ⟨v, hv, hc⟩ := lit5 (lit_call (heap_alloc_new w4 _) G5.out hlt) (wf_i64 (r := r2) (by omega) (by omega)) (wf_i64 (r := r3) (by omega) (by omega)) (wf_i64 (r := 256) (by omega) (by omega)) (wf_i64 (r := 257) (by omega) (by omega)) W4.out p5 q5
  have t5 : r5 < 5 := by omega
  clear q5 G5 I4
  go_wp2
  go_ret
  exact ⟨v, rfl, hv, I5.out.2⟩

end Go.Proofs.Ytaidlmhenmlknaa
