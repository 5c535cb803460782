/- The contract of the program's BitList: the numbers of the set bits in ascending order, in memory of its own. -/
import Derived.Test.YtgaphgffchifcaaTake
import Derived.Maps.AppendAt
namespace Go.Proofs.Ytgaphgffchifcaa
open Go.RowKit Go.Shelf

attribute [local go_sem] Oper.semAt_some

theorem ints_vals (l : List (Fin 32)) (x : Fin 32) : (ints (vals (l ++ [x]))).map (Value.int .i64) = (ints (vals l)).map (Value.int .i64) ++ [.int .i64 (x.val : Int)] := by simp [ints, vals]

set_option maxRecDepth 100000 in
set_option maxHeartbeats 2000000 in
theorem bitList_in (F : Fence) (n X : Nat) (w : World) (hX : X < 4294967296) (h3 : F.fn 28) (h5 : F.fn 54) (h6 : F.fn 70) (hro : F.round = none) (hn : 3 ≤ n) :
    CallsIn F n Try.prog 28 #[.int .u32 (X : Int)] w fun e w' => ∃ A c, e = .returned (.slice A (onesTo X 32).length c) ∧ OwnK 3 .i64 w' w.heap.size A (onesTo X 32).length c (ints (onesTo X 32)) ∧ Below w.heap.size w w' := by
  have HX := Lib.hid hX
  clear hX
  have h1 : 1 ≤ n := by omega
  obtain ⟨i0, hi, hz0, hz1, hz2⟩ := info_parts info_int
  refine callsIn_of_wp_marks Try.func28 rfl h3 ?_ hro
  simp only [Try.ntmps28, List.size_toArray, List.length_cons, List.length_nil, Nat.reduceAdd, Nat.reduceSub, Array.replicate_succ, Array.replicate_zero, List.push_toArray, List.append_toArray, List.nil_append, List.cons_append]
  gi_wp2_with (gi_at_call 54; refine (oneBits_in F (n - 1) h5 hro _ _).mono ?_; rintro e w' ⟨rfl, rfl⟩)
  have bO := Boxed.new w 33 (.slice none 0 0)
  have bN := Boxed.new (w.alloc (.cells #[.slice none 0 0] 33)) 24 (.int .u32 (X : Int))
  rw [World.size_alloc] at bN
  have hB0 : Below w.heap.size w ((w.alloc (.cells #[.slice none 0 0] 33)).alloc (.cells #[.int .u32 (X : Int)] 24)) := ((Below.refl _ w).alloc (Nat.le_refl _) _).alloc (by simp) _
  refine wpIn_rangeFunc_ownG hro h1 (gf := 70) (lb := #[.pointer (some ⟨w.heap.size + 1, 0, none⟩)]) rfl h6 (enters_of Try.func70 (by kernel_rfl) rfl)
    (iter_stops F (n - 1) h6 hro (by omega) (w.heap.size + 1) X HX.out _ (by simp) bN.cell) keepsBox_t (keepsBox_b (by simp)) (Below.refl _ _) (fun _ => rfl)
    (fun pre W => ((∃ v, Boxed W w.heap.size 33 v ∧ W.ownsRow w.heap.size 3 1 v (vals pre).length ((ints (vals pre)).map (Value.int .i64)) ∧ True) ∧ Boxed W (w.heap.size + 1) 24 (.int .u32 (X : Int))) ∧ Below w.heap.size w W)
    (fun _ _ _ => False)
    (OwnFrom.and (OwnFrom.and (Go.Own.from (holdsRow_own w.heap.size w.heap.size 33 3 1 (fun pre => (vals pre).length) (fun pre => (ints (vals pre)).map (Value.int .i64)) (fun _ _ => True)) _) (Go.Own.from (boxed_own _ _ _) _)) (ownFrom_below (Nat.le_refl _) (by simp; omega)))
    (fun _ _ _ _ _ hs _ _ => hs)
    ⟨⟨⟨_, bO.alloc _, World.ownsRow_nil _ _ _ _, trivial⟩, bN⟩, hB0⟩
    ?a1 ?assign ?body ?done ?stop
  case assign =>
    intro l x W K hK
    gi_wp2
    exact hK
  case body =>
    rintro l pre x W ⟨⟨⟨v, hv, hrow, _⟩, hx⟩, hB⟩ hlt
    have hc := hv.cell
    have hpl : (vals pre).length < 32 := by rw [vals_len]; exact hlt
    have HX2 := Lib.hid hx
    clear hx
    gi_wp2_with (gi_at_builtin; refine wpListIn_append_own _ rfl _ _ 33 rfl w.heap.size 3 i0 (.int .i64 0) 1 8 Try.underlying33 hi hz0 hz1 hz2 rfl (by decide) _ _ _ rfl (hrow.alloc _) ⟨W.heap.size, 0, none⟩ 1 1 [.int .i64 (x.val : Int)] rfl rfl (cell_one_new _ _ _) (by simp [Value.oneCell']) (by unfold maxLen; omega) (by omega) (by have := hB.size; simp; omega) ?_; intro v' w1 hown' hgrow _; obtain ⟨g', cap', rfl⟩ := ownsRow_succ hown'; obtain ⟨hv1, hv2, hr2, hk2, hb2⟩ := hv.appended (by decide) hrow hB.size (Nat.le_refl _) hown' hgrow; have hc1 := hv1.cell; have hf1 := hv1.frozen)
    have hx3 := ((HX2.out.alloc (.cells #[.int .i64 (x.val : Int)] 3)).kept hgrow (HX2.out.not_row (by decide) hrow)).other (show w.heap.size + 1 ≠ w.heap.size by omega) (.slice (some ⟨g', 0, none⟩) ((vals pre).length + 1) cap')
    refine ⟨hk2.from _, hx3.cell.trans HX2.out.cell.symm, ⟨⟨_, hv2, ?_, trivial⟩, hx3⟩, hB.trans hb2⟩
    rw [ints_vals, vals_snoc, List.length_append]
    exact hr2
  case done =>
    rintro D ys W hD hS ⟨⟨⟨v, hv, hrow, _⟩, hx⟩, hB⟩ hK
    have hc := hv.cell
    have hS' : vals ys = onesTo X 32 := hS
    rw [hS'] at hrow
    obtain ⟨A, c, rfl, ho⟩ := OwnK.shape hrow
    gi_wp2
    refine ⟨by simp, .inl ⟨_, _, rfl, run_takeDeferred hK, ?_⟩⟩
    exact ⟨_, results_tmp rfl _ _ _, A, c, rfl, ownsRow_putObj ho _ hK rfl, hB.trans (belowK_b (w := w) (Nat.le_refl _) W D _ _ (by simp at hD; omega) hK rfl rfl)⟩
  case stop =>
    rintro D c pre W _ _ h _
    exact h.elim

theorem bitList_any (X : Nat) (w : World) (hX : X < 4294967296) :
    Calls Try.prog 28 #[.int .u32 (X : Int)] w fun e w' => ∃ A c, e = .returned (.slice A (onesTo X 32).length c) ∧ OwnK 3 .i64 w' w.heap.size A (onesTo X 32).length c (ints (onesTo X 32)) ∧ Below w.heap.size w w' :=
  callsIn_wide.1 (bitList_in Fence.wide 3 X w hX trivial trivial trivial rfl (Nat.le_refl _))

end Go.Proofs.Ytgaphgffchifcaa
