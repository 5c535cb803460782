/- What the model's DrawHeadWord hands out: a number; nothing old has turned. -/
import Derived.Test.YtomcdfaomfkmjaaDrawT
namespace Go.Proofs.Ytomcdfaomfkmjaa
open Go.RowKit

set_option maxRecDepth 100000 in
set_option maxHeartbeats 4000000 in
theorem drawHeadWord (A : Option Addr) (n c : Nat) (bs : List Int) (w : World) (h : RdK .u8 w w.heap.size A n bs) (hf : ∀ z ∈ bs, 0 ≤ z ∧ z < 256) (hn : n ≤ 1048576) :
    Calls Try.prog 29 #[.slice A n c] w fun e w' => ∃ N : Int, e = .returned (.int .i64 N) ∧ Hid ((Lit.int .i64 N).wf = true) ∧ Hid (Below w.heap.size w w') := by
  have H := Lib.hid h
  have HF := Lib.hid hf
  clear h hf
  go_enter Try.func29, Try.ntmps29
  go_wp2_with fail
  refine (open_cur A n c bs _ H.out HF.out hn).mono ?_
  rintro e w1 ⟨rfl, C1, B1⟩
  have I0 : Hid (CI w A n c bs 0 w1) := ⟨C1.out, B1.out⟩
  clear C1 B1 H HF
  go_wp2_with fail
  refine (ci_pick I0.out 18 (by omega) (by omega)).mono ?_
  rintro e w2 ⟨r2, rfl, p2, q2, I2, _⟩
  clear I0
  go_wp2_with fail
  refine (ci_raw I2.out (by omega)).mono ?_
  rintro e w4 ⟨r4, rfl, W4, I4, _⟩
  clear I2
  go_wp2_with fail
  have hlt := I4.out.lt
  refine (ci_pick (I4.out.alloc _) 2 (by omega) (by omega)).mono ?_
  rintro e w5 ⟨r5, rfl, p5, q5, I5, G5⟩
  obtain ⟨v, hv, hc⟩ := lit2 (lit_call (heap_alloc_new w4 _) G5.out hlt) (wf_i64 (r := r2) (by omega) (by omega)) W4.out p5 q5
  have t5 : r5 < 2 := by omega
  clear q5 G5 I4
  go_wp2
  go_ret
  exact ⟨v, rfl, hv, I5.out.2⟩

end Go.Proofs.Ytomcdfaomfkmjaa
