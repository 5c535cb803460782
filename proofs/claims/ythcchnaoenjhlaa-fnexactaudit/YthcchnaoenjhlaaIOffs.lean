/- The contract of the program's offsetsOf: where the blocks of a map start, in ascending order, in memory of its own. -/
import Derived.Test.YthcchnaoenjhlaaClaimM
import Derived.Test.YthcchnaoenjhlaaBList
namespace Go.Proofs.Ythcchnaoenjhlaa
open Go.RowKit Go.Shelf

attribute [local go_sem] Oper.semAt_some

/-- The offsets of blocks of size z. -/
def offL (z : Int) (l : List Nat) : List Int := l.map (fun k : Nat => (k : Int) * z)
theorem offL_len (z : Int) (l : List Nat) : (offL z l).length = l.length := by simp [offL]
theorem offL_vals (z : Int) (l : List (Fin 32)) (x : Fin 32) : (offL z (vals (l ++ [x]))).map (Value.int .i64) = (offL z (vals l)).map (Value.int .i64) ++ [.int .i64 ((x.val : Int) * z)] := by simp [offL, vals]
theorem off_mul {z : Int} (h1 : 1 ≤ z) (h2 : z ≤ 16) (x : Nat) (hx : x < 32) : IntKind.i64.wrap ((x : Int) * z) = (x : Int) * z := by
  refine IntWalk.i64_in _ ?_
  have a : (0 : Int) ≤ (x : Int) * z := Int.mul_nonneg (by omega) (by omega)
  have b : (x : Int) * z ≤ 32 * z := Int.mul_le_mul_of_nonneg_right (by omega) (by omega)
  omega

set_option maxRecDepth 100000 in
set_option maxHeartbeats 2000000 in
theorem offsetsOf_in (F : Fence) (n X : Nat) (z : Int) (w : World) (hX : X < 4294967296) (z1 : 1 ≤ z) (z2 : z ≤ 16) (h3 : F.fn 64) (h5 : F.fn 70) (h6 : F.fn 74) (hro : F.round = none) (hn : 3 ≤ n) :
    CallsIn F n Try.prog 64 #[.int .u32 (X : Int), .int .i64 z] w fun e w' => ∃ A c, e = .returned (.slice A (onesTo X 32).length c) ∧ OwnK 3 .i64 w' w.heap.size A (onesTo X 32).length c (offL z (onesTo X 32)) ∧ Below w.heap.size w w' := by
  have HX := Lib.hid hX
  have HZ := Lib.hid (off_mul z1 z2)
  clear hX z1 z2
  have h1 : 1 ≤ n := by omega
  obtain ⟨i0, hi, hz0, hz1, hz2⟩ := info_parts info_int
  refine callsIn_of_wp_marks Try.func64 rfl h3 ?_ hro
  simp only [Try.ntmps64, List.size_toArray, List.length_cons, List.length_nil, Nat.reduceAdd, Nat.reduceSub, Array.replicate_succ, Array.replicate_zero, List.push_toArray, List.append_toArray, List.nil_append, List.cons_append]
  gi_wp2_with (gi_at_call 70; refine (oneBits_in F (n - 1) h5 hro _ _).mono ?_; rintro e w' ⟨rfl, rfl⟩)
  obtain ⟨V, hV⟩ : ∃ V, w.alloc (.cells #[.int .i64 z] 3) = V := ⟨_, rfl⟩
  have hVs : V.heap.size = w.heap.size + 1 := by rw [← hV]; simp
  have cV : V.cell? ⟨w.heap.size, 0, none⟩ = some (.int .i64 z) := by rw [← hV]; exact (cell_of_row _ w.heap.size 0 _ _ (0, 0) (heap_alloc_new w _)).trans rfl
  have bV : Below w.heap.size w V := by rw [← hV]; exact (Below.refl _ w).alloc (Nat.le_refl _) _
  have bO : Boxed ((V.alloc (.cells #[.slice none 0 0] 58)).alloc (.cells #[.int .u32 (X : Int)] 81)) (w.heap.size + 1) 58 (.slice none 0 0) := by
    have := Boxed.new V 58 (.slice none 0 0)
    rw [hVs] at this
    exact this.alloc _
  have bN : Boxed ((V.alloc (.cells #[.slice none 0 0] 58)).alloc (.cells #[.int .u32 (X : Int)] 81)) (w.heap.size + 1 + 1) 81 (.int .u32 (X : Int)) := by
    have := Boxed.new (V.alloc (.cells #[.slice none 0 0] 58)) 81 (.int .u32 (X : Int))
    rwa [World.size_alloc, hVs] at this
  have hB0 : Below (w.heap.size + 1) V ((V.alloc (.cells #[.slice none 0 0] 58)).alloc (.cells #[.int .u32 (X : Int)] 81)) := ((Below.refl _ V).alloc (by omega) _).alloc (by simp; omega) _
  have hsz : ((V.alloc (.cells #[.slice none 0 0] 58)).alloc (.cells #[.int .u32 (X : Int)] 81)).heap.size = w.heap.size + 3 := by simp; omega
  rw [hV]
  obtain ⟨W0, hW0⟩ : ∃ W0, ((V.alloc (.cells #[.slice none 0 0] 58)).alloc (.cells #[.int .u32 (X : Int)] 81)) = W0 := ⟨_, rfl⟩
  rw [hW0] at hB0 bO bN hsz ⊢
  clear hW0 hV
  refine wpIn_rangeFunc_ownG hro h1 (gf := 74) (lb := #[.pointer (some ⟨w.heap.size + 1 + 1, 0, none⟩)]) rfl h6 (enters_of Try.func74 (by kernel_rfl) rfl)
    (iter_stops F (n - 1) h6 hro (by omega) (w.heap.size + 1 + 1) X HX.out W0 (by omega) bN.cell) keepsBox_t (keepsBox_b (by omega)) (Below.refl _ _) (fun _ => rfl)
    (fun pre W => ((∃ v, Boxed W (w.heap.size + 1) 58 v ∧ W.ownsRow (w.heap.size + 1) 3 1 v (vals pre).length ((offL z (vals pre)).map (Value.int .i64)) ∧ True) ∧ Boxed W (w.heap.size + 1 + 1) 81 (.int .u32 (X : Int))) ∧ Below (w.heap.size + 1) V W)
    (fun _ _ _ => False)
    (OwnFrom.and (OwnFrom.and (Go.Own.from (holdsRow_own (w.heap.size + 1) (w.heap.size + 1) 58 3 1 (fun pre => (vals pre).length) (fun pre => (offL z (vals pre)).map (Value.int .i64)) (fun _ _ => True)) _) (Go.Own.from (boxed_own _ _ _) _)) (ownFrom_below (by omega) (by omega)))
    (fun _ _ _ _ _ hs _ _ => hs)
    ⟨⟨⟨_, bO, World.ownsRow_nil _ _ _ _, trivial⟩, bN⟩, hB0⟩
    ?a1 ?assign ?body ?done ?stop
  case assign =>
    intro l x W K hK
    gi_wp2
    exact hK
  case body =>
    rintro l pre x W ⟨⟨⟨v, hv, hrow, _⟩, hx⟩, hB⟩ hlt
    have hc := hv.cell
    have hpl : (vals pre).length < 32 := by rw [vals_len]; exact hlt
    have cz : W.cell? ⟨w.heap.size, 0, none⟩ = some (.int .i64 z) := (hB.cell (p := ⟨w.heap.size, 0, none⟩) (by show w.heap.size < _; omega)).trans cV
    have hmul := HZ.out x.val x.isLt
    have HX2 := Lib.hid hx
    have hsW : w.heap.size + 1 ≤ W.heap.size := by have := hB.size; omega
    clear hx
    gi_wp2_with (gi_at_builtin; refine wpListIn_append_own _ rfl _ _ 58 rfl (w.heap.size + 1) 3 i0 (.int .i64 0) 1 8 Try.underlying58 hi hz0 hz1 hz2 rfl (by decide) _ _ _ rfl (hrow.alloc _) ⟨W.heap.size, 0, none⟩ 1 1 [.int .i64 ((x.val : Int) * z)] rfl rfl (cell_one_new _ _ _) (by simp [Value.oneCell']) (by unfold maxLen; omega) (by omega) (by simp; omega) ?_; intro v' w1 hown' hgrow _; obtain ⟨g', cap', rfl⟩ := ownsRow_succ hown'; obtain ⟨hv1, hv2, hr2, hk2, hb2⟩ := hv.appended (by decide) hrow hsW (Nat.le_refl _) hown' hgrow; have hc1 := hv1.cell; have hf1 := hv1.frozen)
    have hx3 := ((HX2.out.alloc (.cells #[.int .i64 ((x.val : Int) * z)] 3)).kept hgrow (HX2.out.not_row (by decide) hrow)).other (show w.heap.size + 1 + 1 ≠ w.heap.size + 1 by omega) (.slice (some ⟨g', 0, none⟩) ((vals pre).length + 1) cap')
    refine ⟨hk2.from _, hx3.cell.trans HX2.out.cell.symm, ⟨⟨_, hv2, ?_, trivial⟩, hx3⟩, hB.trans hb2⟩
    rw [offL_vals, vals_snoc, List.length_append]
    exact hr2
  case done =>
    rintro D ys W hD hS ⟨⟨⟨v, hv, hrow, _⟩, hx⟩, hB⟩ hK
    have hc := hv.cell
    have hS' : vals ys = onesTo X 32 := hS
    rw [hS'] at hrow
    obtain ⟨A, c, rfl, ho⟩ := OwnK.shape hrow
    gi_wp2
    refine ⟨by simp, .inl ⟨_, _, rfl, run_takeDeferred hK, ?_⟩⟩
    exact ⟨_, results_tmp rfl _ _ _, A, c, rfl, (OwnK.from_ (ownsRow_putObj ho _ hK rfl) (by omega)), bV.trans ((hB.mono (by omega)).trans (belowK_b (w := w) (Nat.le_refl _) W D _ _ (by omega) hK rfl rfl))⟩
  case stop =>
    rintro D c pre W _ _ h _
    exact h.elim

theorem offsetsOf_any (X : Nat) (z : Int) (w : World) (hX : X < 4294967296) (z1 : 1 ≤ z) (z2 : z ≤ 16) :
    Calls Try.prog 64 #[.int .u32 (X : Int), .int .i64 z] w fun e w' => ∃ A c, e = .returned (.slice A (onesTo X 32).length c) ∧ OwnK 3 .i64 w' w.heap.size A (onesTo X 32).length c (offL z (onesTo X 32)) ∧ Below w.heap.size w w' :=
  callsIn_wide.1 (offsetsOf_in Fence.wide 3 X z w hX z1 z2 trivial trivial trivial rfl (Nat.le_refl _))

end Go.Proofs.Ythcchnaoenjhlaa
