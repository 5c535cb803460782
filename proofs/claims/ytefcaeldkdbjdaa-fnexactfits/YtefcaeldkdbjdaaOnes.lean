/- The contracts of the program's Ones, Lowest and Highest: the number of set bits, the lowest, the highest. -/
import Derived.Test.YtefcaeldkdbjdaaIter
import Derived.Test.YtefcaeldkdbjdaaSBits
namespace Go.Proofs.Ytefcaeldkdbjdaa
open Go.RowKit Go.Shelf

attribute [local go_sem] Oper.semAt_some

theorem len_vals (l : List (Fin 32)) : (l.map (fun k => k.val)).length = l.length := by simp

set_option maxRecDepth 100000 in
set_option maxHeartbeats 2000000 in
theorem ones_in (F : Fence) (n X : Nat) (w : World) (hX : X < 4294967296) (h3 : F.fn 40) (h5 : F.fn 34) (h6 : F.fn 45) (hro : F.round = none) (hn : 3 ≤ n) :
    CallsIn F n Try.prog 40 #[.int .u32 (X : Int)] w fun e w' => e = .returned (.int .i64 ((onesTo X 32).length : Int)) ∧ Below w.heap.size w w' := by
  have HX := Lib.hid hX
  clear hX
  have h1 : 1 ≤ n := by omega
  refine callsIn_of_wp_marks Try.func40 rfl h3 ?_ hro
  simp only [Try.ntmps40, List.size_toArray, List.length_cons, List.length_nil, Nat.reduceAdd, Nat.reduceSub, Array.replicate_succ, Array.replicate_zero, List.push_toArray, List.append_toArray, List.nil_append, List.cons_append]
  gi_wp2_with (gi_at_call 34; refine (oneBits_in F (n - 1) h5 hro _ _).mono ?_; rintro e w' ⟨rfl, rfl⟩)
  have hs := Boxed.new w 3 (.int .i64 0)
  have hb := Boxed.new (w.alloc (.cells #[.int .i64 0] 3)) 36 (.int .u32 (X : Int))
  rw [World.size_alloc] at hb
  have hB0 : Below w.heap.size w ((w.alloc (.cells #[.int .i64 0] 3)).alloc (.cells #[.int .u32 (X : Int)] 36)) := ((Below.refl _ w).alloc (Nat.le_refl _) _).alloc (by simp) _
  refine wpIn_rangeFunc_ownF hro h1 (gf := 45) (lb := #[.pointer (some ⟨w.heap.size + 1, 0, none⟩)]) rfl h6 (enters_of Try.func45 (by kernel_rfl) rfl)
    (iter_stops F (n - 1) h6 hro (by omega) (w.heap.size + 1) X HX.out _ (by simp) hb.cell) keepsBox_t (keepsBox_b (by simp)) (Below.refl _ _) (fun _ => rfl)
    (fun pre W => Boxed W w.heap.size 3 (.int .i64 (pre.length : Int)) ∧ Below w.heap.size w W)
    (fun _ _ _ => False)
    (OwnFrom.and (Go.Own.from (boxed_own _ _ _) _) (ownFrom_below (Nat.le_refl _) (by simp; omega)))
    (fun _ _ _ _ _ hs _ _ => hs)
    ⟨hs.alloc _, hB0⟩
    ?a1 ?assign ?body ?done ?stop
  case assign =>
    intro l x W K hK
    gi_wp2
    exact hK
  case body =>
    rintro l pre x W ⟨hv, hB⟩ hlt
    have hc := hv.cell
    have hf := hv.frozen
    gi_wp2
    exact ⟨KeepsOthers.setCell _ _ _, keepsBox_set _ (by omega) _ _, by simpa using hv.set (.int .i64 ((pre.length : Int) + 1)), hB.setCell (p := ⟨w.heap.size, 0, none⟩) (Nat.le_refl _) _⟩
  case done =>
    rintro D ys W hD hS ⟨hv, hB⟩ hK
    have hc := hv.cell
    gi_wp2
    refine ⟨by simp, .inl ⟨_, _, rfl, run_takeDeferred hK, ?_⟩⟩
    exact ⟨_, results_tmp rfl _ _ _, by rw [← hS, len_vals]; rfl, hB.trans (belowK_b (w := w) (Nat.le_refl _) W D _ _ (by simp at hD; omega) hK rfl rfl)⟩
  case stop =>
    rintro D c pre W _ _ h _
    exact h.elim

theorem ones_any (X : Nat) (w : World) (hX : X < 4294967296) :
    Calls Try.prog 40 #[.int .u32 (X : Int)] w fun e w' => e = .returned (.int .i64 ((onesTo X 32).length : Int)) ∧ Below w.heap.size w w' :=
  callsIn_wide.1 (ones_in Fence.wide 3 X w hX trivial trivial trivial rfl (Nat.le_refl _))

end Go.Proofs.Ytefcaeldkdbjdaa
