/- The contract of the program's Gather: the values of the lanes of a mask, in memory of its own. -/
import Derived.Test.YtgaphgffchifcaaRowBox
import Derived.Test.YtgaphgffchifcaaBList
namespace Go.Proofs.Ytgaphgffchifcaa
open Go.RowKit Go.Shelf

attribute [local go_sem] Oper.semAt_some

/-- The values of these lanes. -/
def gath (zs : List Int) (l : List Nat) : List Int := l.map (fun k => zs[k]?.getD 0)
theorem gath_len (zs : List Int) (l : List Nat) : (gath zs l).length = l.length := by simp [gath]
theorem gath_snoc (zs : List Int) (l : List Nat) (k : Nat) : gath zs (l ++ [k]) = gath zs l ++ [zs[k]?.getD 0] := by simp [gath]
theorem gath_snocV (zs : List Int) (l : List Nat) (k : Nat) : (gath zs (l ++ [k])).map (Value.int .i64) = (gath zs l).map (Value.int .i64) ++ [.int .i64 (zs[k]?.getD 0)] := by simp [gath]

set_option maxRecDepth 100000 in
set_option maxHeartbeats 4000000 in
theorem gather_in (F : Fence) (n : Nat) (A : Option Addr) (c B X : Nat) (v0 v1 v2 v3 v4 v5 v6 v7 : Int) (w : World) (h : RdK .i64 w B A 8 [v0, v1, v2, v3, v4, v5, v6, v7]) (hB : B ≤ w.heap.size) (hX : X < 256) (h0 : F.fn 32) (hrw : F.fn 63) (hf : F.fn 53) (hm : F.fn 59) (hg : F.fn 72) (h5 : F.fn 54) (h6 : F.fn 70) (hro : F.round = none) (hn : 3 ≤ n) :
    CallsIn F n Try.prog 32 #[.slice A 8 c, .int .u32 (X : Int)] w fun e w' => ∃ A' c', e = .returned (.slice A' (gath [v0, v1, v2, v3, v4, v5, v6, v7] (onesTo X 32)).length c') ∧ OwnK 3 .i64 w' w.heap.size A' (gath [v0, v1, v2, v3, v4, v5, v6, v7] (onesTo X 32)).length c' (gath [v0, v1, v2, v3, v4, v5, v6, v7] (onesTo X 32)) ∧ Below w.heap.size w w' := by
  have hX32 : X < 4294967296 := by omega
  have HM : Hid (∀ W, CallsIn F (n - 1) Try.prog 53 #[.int .u32 (X : Int)] W fun e w' => e = .returned (.bool (decide (X < 256))) ∧ W = w') := fun W => isMask_in F (n - 1) X W hX32 hf hm hg (by omega) hro
  rw [decide_eq_true hX] at HM
  have HR := Lib.hid (rowOf_in F (n - 1) hrw hro A c B v0 v1 v2 v3 v4 v5 v6 v7 w h hB)
  have h1 : 1 ≤ n := by omega
  have HX := Lib.hid hX32
  have HX8 := Lib.hid hX
  obtain ⟨i0, hi, hz0, hz1, hz2⟩ := info_parts info_int
  clear hX hX32 h
  obtain ⟨rc, hrc⟩ : ∃ rc, rowC [v0, v1, v2, v3, v4, v5, v6, v7] = rc := ⟨_, rfl⟩
  refine callsIn_of_wp_marks Try.func32 rfl h0 ?_ hro
  simp only [Try.ntmps32, List.size_toArray, List.length_cons, List.length_nil, Nat.reduceAdd, Nat.reduceSub, Array.replicate_succ, Array.replicate_zero, List.push_toArray, List.append_toArray, List.nil_append, List.cons_append]
  gi_wp2_with (first | (gi_at_call 63; refine HR.out.mono ?_; rintro e w' ⟨rfl, rfl⟩) | (gi_at_call 53; refine (HM.out _).mono ?_; rintro e w' ⟨rfl, rfl⟩) | (gi_at_call 54; refine (oneBits_in F (n - 1) h5 hro _ _).mono ?_; rintro e w' ⟨rfl, rfl⟩))
  have hB0 : Below w.heap.size w ((((w.alloc (.cells #[.int .i64 v0, .int .i64 v1, .int .i64 v2, .int .i64 v3, .int .i64 v4, .int .i64 v5, .int .i64 v6, .int .i64 v7] 70)).alloc (.cells #[.int .i64 v0, .int .i64 v1, .int .i64 v2, .int .i64 v3, .int .i64 v4, .int .i64 v5, .int .i64 v6, .int .i64 v7] 70)).alloc (.cells #[.slice none 0 0] 33)).alloc (.cells #[.int .u32 (X : Int)] 24)) := ((((Below.refl _ w).alloc (Nat.le_refl _) _).alloc (by simp) _).alloc (by simp; omega) _).alloc (by simp; omega) _
  have rB : RowBox ((((w.alloc (.cells #[.int .i64 v0, .int .i64 v1, .int .i64 v2, .int .i64 v3, .int .i64 v4, .int .i64 v5, .int .i64 v6, .int .i64 v7] 70)).alloc (.cells #[.int .i64 v0, .int .i64 v1, .int .i64 v2, .int .i64 v3, .int .i64 v4, .int .i64 v5, .int .i64 v6, .int .i64 v7] 70)).alloc (.cells #[.slice none 0 0] 33)).alloc (.cells #[.int .u32 (X : Int)] 24)) (w.heap.size + 1) [v0, v1, v2, v3, v4, v5, v6, v7] := by
    have := RowBox.new (w.alloc (.cells #[.int .i64 v0, .int .i64 v1, .int .i64 v2, .int .i64 v3, .int .i64 v4, .int .i64 v5, .int .i64 v6, .int .i64 v7] 70)) [v0, v1, v2, v3, v4, v5, v6, v7]
    rw [World.size_alloc] at this
    exact (this.alloc _).alloc _
  have bO : Boxed ((((w.alloc (.cells #[.int .i64 v0, .int .i64 v1, .int .i64 v2, .int .i64 v3, .int .i64 v4, .int .i64 v5, .int .i64 v6, .int .i64 v7] 70)).alloc (.cells #[.int .i64 v0, .int .i64 v1, .int .i64 v2, .int .i64 v3, .int .i64 v4, .int .i64 v5, .int .i64 v6, .int .i64 v7] 70)).alloc (.cells #[.slice none 0 0] 33)).alloc (.cells #[.int .u32 (X : Int)] 24)) (w.heap.size + 1 + 1) 33 (.slice none 0 0) := by
    have := Boxed.new ((w.alloc (.cells #[.int .i64 v0, .int .i64 v1, .int .i64 v2, .int .i64 v3, .int .i64 v4, .int .i64 v5, .int .i64 v6, .int .i64 v7] 70)).alloc (.cells #[.int .i64 v0, .int .i64 v1, .int .i64 v2, .int .i64 v3, .int .i64 v4, .int .i64 v5, .int .i64 v6, .int .i64 v7] 70)) 33 (.slice none 0 0)
    simp only [World.size_alloc] at this
    exact this.alloc _
  have bN : Boxed ((((w.alloc (.cells #[.int .i64 v0, .int .i64 v1, .int .i64 v2, .int .i64 v3, .int .i64 v4, .int .i64 v5, .int .i64 v6, .int .i64 v7] 70)).alloc (.cells #[.int .i64 v0, .int .i64 v1, .int .i64 v2, .int .i64 v3, .int .i64 v4, .int .i64 v5, .int .i64 v6, .int .i64 v7] 70)).alloc (.cells #[.slice none 0 0] 33)).alloc (.cells #[.int .u32 (X : Int)] 24)) (w.heap.size + 1 + 1 + 1) 24 (.int .u32 (X : Int)) := by
    have := Boxed.new (((w.alloc (.cells #[.int .i64 v0, .int .i64 v1, .int .i64 v2, .int .i64 v3, .int .i64 v4, .int .i64 v5, .int .i64 v6, .int .i64 v7] 70)).alloc (.cells #[.int .i64 v0, .int .i64 v1, .int .i64 v2, .int .i64 v3, .int .i64 v4, .int .i64 v5, .int .i64 v6, .int .i64 v7] 70)).alloc (.cells #[.slice none 0 0] 33)) 24 (.int .u32 (X : Int))
    simp only [World.size_alloc] at this
    exact this
  have hsz : ((((w.alloc (.cells #[.int .i64 v0, .int .i64 v1, .int .i64 v2, .int .i64 v3, .int .i64 v4, .int .i64 v5, .int .i64 v6, .int .i64 v7] 70)).alloc (.cells #[.int .i64 v0, .int .i64 v1, .int .i64 v2, .int .i64 v3, .int .i64 v4, .int .i64 v5, .int .i64 v6, .int .i64 v7] 70)).alloc (.cells #[.slice none 0 0] 33)).alloc (.cells #[.int .u32 (X : Int)] 24)).heap.size = w.heap.size + 4 := by simp
  obtain ⟨W0, hW0⟩ : ∃ W0, ((((w.alloc (.cells #[.int .i64 v0, .int .i64 v1, .int .i64 v2, .int .i64 v3, .int .i64 v4, .int .i64 v5, .int .i64 v6, .int .i64 v7] 70)).alloc (.cells #[.int .i64 v0, .int .i64 v1, .int .i64 v2, .int .i64 v3, .int .i64 v4, .int .i64 v5, .int .i64 v6, .int .i64 v7] 70)).alloc (.cells #[.slice none 0 0] 33)).alloc (.cells #[.int .u32 (X : Int)] 24)) = W0 := ⟨_, rfl⟩
  rw [hW0] at hB0 rB bO bN hsz ⊢
  clear hW0 HR HM
  have hlen : ([v0, v1, v2, v3, v4, v5, v6, v7] : List Int).length = 8 := rfl
  obtain ⟨zs, hzs⟩ : ∃ zs, ([v0, v1, v2, v3, v4, v5, v6, v7] : List Int) = zs := ⟨_, rfl⟩
  rw [hzs] at rB hlen
  refine wpIn_rangeFunc_ownG hro h1 (gf := 70) (lb := #[.pointer (some ⟨w.heap.size + 1 + 1 + 1, 0, none⟩)]) rfl h6 (enters_of Try.func70 (by kernel_rfl) rfl)
    (iterX_stops F (n - 1) h6 hro (by omega) (w.heap.size + 1 + 1 + 1) X HX.out W0 (by omega) bN.cell) keepsBox_t (keepsBox_b (by omega)) (Below.refl _ _) (fun _ => rfl)
    (fun pre W => ((∃ v, Boxed W (w.heap.size + 1 + 1) 33 v ∧ W.ownsRow w.heap.size 3 1 v (valsX pre).length ((gath zs (valsX pre)).map (Value.int .i64)) ∧ True) ∧ (RowBox W (w.heap.size + 1) zs ∧ Boxed W (w.heap.size + 1 + 1 + 1) 24 (.int .u32 (X : Int)))) ∧ Below w.heap.size w W)
    (fun _ _ _ => False)
    (OwnFrom.and (OwnFrom.and (Go.Own.from (holdsRow_own w.heap.size (w.heap.size + 1 + 1) 33 3 1 (fun pre => (valsX pre).length) (fun pre => (gath zs (valsX pre)).map (Value.int .i64)) (fun _ _ => True)) _) (OwnFrom.and (Go.Own.from (rowBox_own _ _) _) (Go.Own.from (boxed_own _ _ _) _))) (ownFrom_below (Nat.le_refl _) (by omega)))
    (fun _ _ _ _ _ hs _ _ => hs)
    ⟨⟨⟨_, bO, World.ownsRow_nil _ _ _ _, trivial⟩, rB, bN⟩, hB0⟩
    ?a1 ?assign ?body ?done ?stop
  case assign =>
    intro l x W K hK
    gi_wp2
    exact hK
  case body =>
    rintro l pre x W ⟨⟨⟨v, hv, hrow, _⟩, hr, hx⟩, hB⟩ hlt
    have hmx := mixed
    have hc := hv.cell
    have hpl : (valsX pre).length < 32 := by rw [valsX_len]; exact hlt
    have hx8 : x.val < 8 := bit_lt_8 HX8.out x.2
    have hx8' : (x.val : Int) < 8 := by omega
    have cr := hr.cell (i := x.val) (by omega)
    have HG := Lib.hid (gath_snocV zs (valsX pre) x.val)
    generalize zs[x.val]?.getD 0 = z at *
    have HX2 := Lib.hid hx
    have HR := Lib.hid hr
    have hl1 := hr.lt
    have hl2 := hv.lt
    clear hx hr
    gi_wp2
    refine wpIn_region_any (by assumption) ?_
    change wpAnyIn _ _ _ _ _ _ _ _ _ (World.drew _)
    refine wpAnyIn_ready (rs := [0, 1]) (by kernel_rfl) (by simp) (AllReadyIn.cons rfl (fun K hK => ?_) (AllReadyIn.cons rfl (fun K hK => ?_) AllReadyIn.nil))
    · skip
      go_simp
      refine hK _ _ ?_
      clear hK K
      refine wpAnyIn_ready (rs := [1]) (by kernel_rfl) (by simp) (AllReadyIn.cons rfl (fun K hK => ?_) AllReadyIn.nil)
      go_simp
      refine hK _ _ ?_
      clear hK K
      refine wpAnyIn_ready (rs := [2]) (by kernel_rfl) (by simp) (AllReadyIn.cons rfl (fun K hK => ?_) AllReadyIn.nil)
      go_simp
      refine hK _ _ ?_
      clear hK K
      refine wpAnyIn_ready (rs := [3]) (by kernel_rfl) (by simp) (AllReadyIn.cons rfl (fun K hK => ?_) AllReadyIn.nil)
      go_simp
      refine hK _ _ ?_
      clear hK K
      refine wpAnyIn_ready (rs := [4]) (by kernel_rfl) (by simp) (AllReadyIn.cons rfl (fun K hK => ?_) AllReadyIn.nil)
      go_simp
      refine hK _ _ ?_
      clear hK K
      refine wpAnyIn_ready (rs := [5]) (by kernel_rfl) (by simp) (AllReadyIn.cons rfl (fun K hK => ?_) AllReadyIn.nil)
      refine stepIn_append rfl _ _ 33 rfl w.heap.size 3 i0 (.int .i64 0) 1 8 Try.underlying33 hi hz0 hz1 hz2 rfl (by decide) v _ _ rfl (hrow.alloc _) ⟨W.heap.size, 0, none⟩ 1 1 [.int .i64 z] rfl rfl (cell_one_new _ _ _) (by simp [Value.oneCell']) (by unfold maxLen; omega) (by omega) (by have := hB.size; simp; omega) ?_
      intro v' w1 hown' hgrow0
      have hgrow : (W.alloc (.cells #[.int .i64 z] 3)).grownBy w1 v.ownBlock := ⟨hgrow0.os, hgrow0.tape, hgrow0.output, hgrow0.size, hgrow0.block⟩
      obtain ⟨g', cap', rfl⟩ := ownsRow_succ hown'
      obtain ⟨hv1, hv2, hr2, hk2, hb2⟩ := hv.appended (by decide) hrow hB.size (by omega) hown' hgrow
      have hc1 := hv1.cell
      have hf1 := hv1.frozen
      refine hK _ _ ?_
      clear hK K
      refine wpAnyIn_ready (rs := [6]) (by kernel_rfl) (by simp) (AllReadyIn.cons rfl (fun K hK => ?_) AllReadyIn.nil)
      go_simp
      refine hK _ _ ?_
      clear hK K
      refine wpAnyIn_done (by kernel_rfl) ?_ _
      gi_wp2
      have hx3 := ((HX2.out.alloc (.cells #[.int .i64 z] 3)).kept hgrow (HX2.out.not_row (by decide) hrow)).other (show w.heap.size + 1 + 1 + 1 ≠ w.heap.size + 1 + 1 by omega) (.slice (some ⟨g', 0, none⟩) ((valsX pre).length + 1) cap')
      have hr3 := ((HR.out.alloc (.cells #[.int .i64 z] 3)).kept hgrow (HR.out.not_row hrow)).other (p := ⟨w.heap.size + 1 + 1, 0, none⟩) (show w.heap.size + 1 ≠ w.heap.size + 1 + 1 by omega) (.slice (some ⟨g', 0, none⟩) ((valsX pre).length + 1) cap')
      refine ⟨hk2.from _, hx3.cell.trans HX2.out.cell.symm, ⟨⟨_, hv2, ?_, trivial⟩, hr3, hx3⟩, hB.trans hb2⟩
      rw [valsX_snoc, HG.out, List.length_append]
      exact hr2
    · skip
      go_simp
      refine hK _ _ ?_
      clear hK K
      refine wpAnyIn_ready (rs := [0, 2]) (by kernel_rfl) (by simp) (AllReadyIn.cons rfl (fun K hK => ?_) (AllReadyIn.cons rfl (fun K hK => ?_) AllReadyIn.nil))
      · skip
        go_simp
        refine hK _ _ ?_
        clear hK K
        refine wpAnyIn_ready (rs := [2]) (by kernel_rfl) (by simp) (AllReadyIn.cons rfl (fun K hK => ?_) AllReadyIn.nil)
        go_simp
        refine hK _ _ ?_
        clear hK K
        refine wpAnyIn_ready (rs := [3]) (by kernel_rfl) (by simp) (AllReadyIn.cons rfl (fun K hK => ?_) AllReadyIn.nil)
        go_simp
        refine hK _ _ ?_
        clear hK K
        refine wpAnyIn_ready (rs := [4]) (by kernel_rfl) (by simp) (AllReadyIn.cons rfl (fun K hK => ?_) AllReadyIn.nil)
        go_simp
        refine hK _ _ ?_
        clear hK K
        refine wpAnyIn_ready (rs := [5]) (by kernel_rfl) (by simp) (AllReadyIn.cons rfl (fun K hK => ?_) AllReadyIn.nil)
        refine stepIn_append rfl _ _ 33 rfl w.heap.size 3 i0 (.int .i64 0) 1 8 Try.underlying33 hi hz0 hz1 hz2 rfl (by decide) v _ _ rfl (hrow.alloc _) ⟨W.heap.size, 0, none⟩ 1 1 [.int .i64 z] rfl rfl (cell_one_new _ _ _) (by simp [Value.oneCell']) (by unfold maxLen; omega) (by omega) (by have := hB.size; simp; omega) ?_
        intro v' w1 hown' hgrow0
        have hgrow : (W.alloc (.cells #[.int .i64 z] 3)).grownBy w1 v.ownBlock := ⟨hgrow0.os, hgrow0.tape, hgrow0.output, hgrow0.size, hgrow0.block⟩
        obtain ⟨g', cap', rfl⟩ := ownsRow_succ hown'
        obtain ⟨hv1, hv2, hr2, hk2, hb2⟩ := hv.appended (by decide) hrow hB.size (by omega) hown' hgrow
        have hc1 := hv1.cell
        have hf1 := hv1.frozen
        refine hK _ _ ?_
        clear hK K
        refine wpAnyIn_ready (rs := [6]) (by kernel_rfl) (by simp) (AllReadyIn.cons rfl (fun K hK => ?_) AllReadyIn.nil)
        go_simp
        refine hK _ _ ?_
        clear hK K
        refine wpAnyIn_done (by kernel_rfl) ?_ _
        gi_wp2
        have hx3 := ((HX2.out.alloc (.cells #[.int .i64 z] 3)).kept hgrow (HX2.out.not_row (by decide) hrow)).other (show w.heap.size + 1 + 1 + 1 ≠ w.heap.size + 1 + 1 by omega) (.slice (some ⟨g', 0, none⟩) ((valsX pre).length + 1) cap')
        have hr3 := ((HR.out.alloc (.cells #[.int .i64 z] 3)).kept hgrow (HR.out.not_row hrow)).other (p := ⟨w.heap.size + 1 + 1, 0, none⟩) (show w.heap.size + 1 ≠ w.heap.size + 1 + 1 by omega) (.slice (some ⟨g', 0, none⟩) ((valsX pre).length + 1) cap')
        refine ⟨hk2.from _, hx3.cell.trans HX2.out.cell.symm, ⟨⟨_, hv2, ?_, trivial⟩, hr3, hx3⟩, hB.trans hb2⟩
        rw [valsX_snoc, HG.out, List.length_append]
        exact hr2
      · skip
        go_simp
        refine hK _ _ ?_
        clear hK K
        refine wpAnyIn_ready (rs := [0, 3]) (by kernel_rfl) (by simp) (AllReadyIn.cons rfl (fun K hK => ?_) (AllReadyIn.cons rfl (fun K hK => ?_) AllReadyIn.nil))
        · skip
          go_simp
          refine hK _ _ ?_
          clear hK K
          refine wpAnyIn_ready (rs := [3]) (by kernel_rfl) (by simp) (AllReadyIn.cons rfl (fun K hK => ?_) AllReadyIn.nil)
          go_simp
          refine hK _ _ ?_
          clear hK K
          refine wpAnyIn_ready (rs := [4]) (by kernel_rfl) (by simp) (AllReadyIn.cons rfl (fun K hK => ?_) AllReadyIn.nil)
          go_simp
          refine hK _ _ ?_
          clear hK K
          refine wpAnyIn_ready (rs := [5]) (by kernel_rfl) (by simp) (AllReadyIn.cons rfl (fun K hK => ?_) AllReadyIn.nil)
          refine stepIn_append rfl _ _ 33 rfl w.heap.size 3 i0 (.int .i64 0) 1 8 Try.underlying33 hi hz0 hz1 hz2 rfl (by decide) v _ _ rfl (hrow.alloc _) ⟨W.heap.size, 0, none⟩ 1 1 [.int .i64 z] rfl rfl (cell_one_new _ _ _) (by simp [Value.oneCell']) (by unfold maxLen; omega) (by omega) (by have := hB.size; simp; omega) ?_
          intro v' w1 hown' hgrow0
          have hgrow : (W.alloc (.cells #[.int .i64 z] 3)).grownBy w1 v.ownBlock := ⟨hgrow0.os, hgrow0.tape, hgrow0.output, hgrow0.size, hgrow0.block⟩
          obtain ⟨g', cap', rfl⟩ := ownsRow_succ hown'
          obtain ⟨hv1, hv2, hr2, hk2, hb2⟩ := hv.appended (by decide) hrow hB.size (by omega) hown' hgrow
          have hc1 := hv1.cell
          have hf1 := hv1.frozen
          refine hK _ _ ?_
          clear hK K
          refine wpAnyIn_ready (rs := [6]) (by kernel_rfl) (by simp) (AllReadyIn.cons rfl (fun K hK => ?_) AllReadyIn.nil)
          go_simp
          refine hK _ _ ?_
          clear hK K
          refine wpAnyIn_done (by kernel_rfl) ?_ _
          gi_wp2
          have hx3 := ((HX2.out.alloc (.cells #[.int .i64 z] 3)).kept hgrow (HX2.out.not_row (by decide) hrow)).other (show w.heap.size + 1 + 1 + 1 ≠ w.heap.size + 1 + 1 by omega) (.slice (some ⟨g', 0, none⟩) ((valsX pre).length + 1) cap')
          have hr3 := ((HR.out.alloc (.cells #[.int .i64 z] 3)).kept hgrow (HR.out.not_row hrow)).other (p := ⟨w.heap.size + 1 + 1, 0, none⟩) (show w.heap.size + 1 ≠ w.heap.size + 1 + 1 by omega) (.slice (some ⟨g', 0, none⟩) ((valsX pre).length + 1) cap')
          refine ⟨hk2.from _, hx3.cell.trans HX2.out.cell.symm, ⟨⟨_, hv2, ?_, trivial⟩, hr3, hx3⟩, hB.trans hb2⟩
          rw [valsX_snoc, HG.out, List.length_append]
          exact hr2
        · skip
          go_simp
          refine hK _ _ ?_
          clear hK K
          refine wpAnyIn_ready (rs := [0, 4]) (by kernel_rfl) (by simp) (AllReadyIn.cons rfl (fun K hK => ?_) (AllReadyIn.cons rfl (fun K hK => ?_) AllReadyIn.nil))
          · skip
            go_simp
            refine hK _ _ ?_
            clear hK K
            refine wpAnyIn_ready (rs := [4]) (by kernel_rfl) (by simp) (AllReadyIn.cons rfl (fun K hK => ?_) AllReadyIn.nil)
            go_simp
            refine hK _ _ ?_
            clear hK K
            refine wpAnyIn_ready (rs := [5]) (by kernel_rfl) (by simp) (AllReadyIn.cons rfl (fun K hK => ?_) AllReadyIn.nil)
            refine stepIn_append rfl _ _ 33 rfl w.heap.size 3 i0 (.int .i64 0) 1 8 Try.underlying33 hi hz0 hz1 hz2 rfl (by decide) v _ _ rfl (hrow.alloc _) ⟨W.heap.size, 0, none⟩ 1 1 [.int .i64 z] rfl rfl (cell_one_new _ _ _) (by simp [Value.oneCell']) (by unfold maxLen; omega) (by omega) (by have := hB.size; simp; omega) ?_
            intro v' w1 hown' hgrow0
            have hgrow : (W.alloc (.cells #[.int .i64 z] 3)).grownBy w1 v.ownBlock := ⟨hgrow0.os, hgrow0.tape, hgrow0.output, hgrow0.size, hgrow0.block⟩
            obtain ⟨g', cap', rfl⟩ := ownsRow_succ hown'
            obtain ⟨hv1, hv2, hr2, hk2, hb2⟩ := hv.appended (by decide) hrow hB.size (by omega) hown' hgrow
            have hc1 := hv1.cell
            have hf1 := hv1.frozen
            refine hK _ _ ?_
            clear hK K
            refine wpAnyIn_ready (rs := [6]) (by kernel_rfl) (by simp) (AllReadyIn.cons rfl (fun K hK => ?_) AllReadyIn.nil)
            go_simp
            refine hK _ _ ?_
            clear hK K
            refine wpAnyIn_done (by kernel_rfl) ?_ _
            gi_wp2
            have hx3 := ((HX2.out.alloc (.cells #[.int .i64 z] 3)).kept hgrow (HX2.out.not_row (by decide) hrow)).other (show w.heap.size + 1 + 1 + 1 ≠ w.heap.size + 1 + 1 by omega) (.slice (some ⟨g', 0, none⟩) ((valsX pre).length + 1) cap')
            have hr3 := ((HR.out.alloc (.cells #[.int .i64 z] 3)).kept hgrow (HR.out.not_row hrow)).other (p := ⟨w.heap.size + 1 + 1, 0, none⟩) (show w.heap.size + 1 ≠ w.heap.size + 1 + 1 by omega) (.slice (some ⟨g', 0, none⟩) ((valsX pre).length + 1) cap')
            refine ⟨hk2.from _, hx3.cell.trans HX2.out.cell.symm, ⟨⟨_, hv2, ?_, trivial⟩, hr3, hx3⟩, hB.trans hb2⟩
            rw [valsX_snoc, HG.out, List.length_append]
            exact hr2
          · skip
            go_simp
            refine hK _ _ ?_
            clear hK K
            refine wpAnyIn_ready (rs := [0]) (by kernel_rfl) (by simp) (AllReadyIn.cons rfl (fun K hK => ?_) AllReadyIn.nil)
            go_simp
            refine hK _ _ ?_
            clear hK K
            refine wpAnyIn_ready (rs := [5]) (by kernel_rfl) (by simp) (AllReadyIn.cons rfl (fun K hK => ?_) AllReadyIn.nil)
            refine stepIn_append rfl _ _ 33 rfl w.heap.size 3 i0 (.int .i64 0) 1 8 Try.underlying33 hi hz0 hz1 hz2 rfl (by decide) v _ _ rfl (hrow.alloc _) ⟨W.heap.size, 0, none⟩ 1 1 [.int .i64 z] rfl rfl (cell_one_new _ _ _) (by simp [Value.oneCell']) (by unfold maxLen; omega) (by omega) (by have := hB.size; simp; omega) ?_
            intro v' w1 hown' hgrow0
            have hgrow : (W.alloc (.cells #[.int .i64 z] 3)).grownBy w1 v.ownBlock := ⟨hgrow0.os, hgrow0.tape, hgrow0.output, hgrow0.size, hgrow0.block⟩
            obtain ⟨g', cap', rfl⟩ := ownsRow_succ hown'
            obtain ⟨hv1, hv2, hr2, hk2, hb2⟩ := hv.appended (by decide) hrow hB.size (by omega) hown' hgrow
            have hc1 := hv1.cell
            have hf1 := hv1.frozen
            refine hK _ _ ?_
            clear hK K
            refine wpAnyIn_ready (rs := [6]) (by kernel_rfl) (by simp) (AllReadyIn.cons rfl (fun K hK => ?_) AllReadyIn.nil)
            go_simp
            refine hK _ _ ?_
            clear hK K
            refine wpAnyIn_done (by kernel_rfl) ?_ _
            gi_wp2
            have hx3 := ((HX2.out.alloc (.cells #[.int .i64 z] 3)).kept hgrow (HX2.out.not_row (by decide) hrow)).other (show w.heap.size + 1 + 1 + 1 ≠ w.heap.size + 1 + 1 by omega) (.slice (some ⟨g', 0, none⟩) ((valsX pre).length + 1) cap')
            have hr3 := ((HR.out.alloc (.cells #[.int .i64 z] 3)).kept hgrow (HR.out.not_row hrow)).other (p := ⟨w.heap.size + 1 + 1, 0, none⟩) (show w.heap.size + 1 ≠ w.heap.size + 1 + 1 by omega) (.slice (some ⟨g', 0, none⟩) ((valsX pre).length + 1) cap')
            refine ⟨hk2.from _, hx3.cell.trans HX2.out.cell.symm, ⟨⟨_, hv2, ?_, trivial⟩, hr3, hx3⟩, hB.trans hb2⟩
            rw [valsX_snoc, HG.out, List.length_append]
            exact hr2
  case done =>
    subst hzs
    rintro D ys W hD hS ⟨⟨⟨v, hv, hrow, _⟩, hr, hx⟩, hB⟩ hK
    have hc := hv.cell
    have hS' : valsX ys = onesTo X 32 := hS
    rw [hS', ← gath_len [v0, v1, v2, v3, v4, v5, v6, v7]] at hrow
    obtain ⟨A', c', rfl, ho'⟩ := OwnK.shape hrow
    gi_wp2
    refine ⟨by simp, .inl ⟨_, _, rfl, run_takeDeferred hK, ?_⟩⟩
    exact ⟨_, results_tmp rfl _ _ _, A', c', rfl, ownsRow_putObj ho' _ hK rfl, hB.trans (belowK_b (w := w) (Nat.le_refl _) W D _ _ (by omega) hK rfl rfl)⟩
  case stop =>
    rintro D c pre W _ _ h _
    exact h.elim

set_option maxRecDepth 100000 in
set_option maxHeartbeats 1000000 in
theorem gather_nomask (F : Fence) (n : Nat) (A : Option Addr) (c B X : Nat) (v0 v1 v2 v3 v4 v5 v6 v7 : Int) (w : World) (h : RdK .i64 w B A 8 [v0, v1, v2, v3, v4, v5, v6, v7]) (hB : B ≤ w.heap.size) (hX : ¬ X < 256) (hX32 : X < 4294967296) (h0 : F.fn 32) (hrw : F.fn 63) (hf : F.fn 53) (hm : F.fn 59) (hg : F.fn 72) (h5 : F.fn 54) (h6 : F.fn 70) (hro : F.round = none) (hn : 3 ≤ n) :
    CallsIn F n Try.prog 32 #[.slice A 8 c, .int .u32 (X : Int)] w fun e w' => e = .returned (.slice none 0 0) ∧ Below w.heap.size w w' := by
  have HM : Hid (∀ W, CallsIn F (n - 1) Try.prog 53 #[.int .u32 (X : Int)] W fun e w' => e = .returned (.bool (decide (X < 256))) ∧ W = w') := fun W => isMask_in F (n - 1) X W hX32 hf hm hg (by omega) hro
  rw [decide_eq_false hX] at HM
  have HR := Lib.hid (rowOf_in F (n - 1) hrw hro A c B v0 v1 v2 v3 v4 v5 v6 v7 w h hB)
  have h1 : 1 ≤ n := by omega
  clear hX hX32 h
  refine callsIn_of_wp Try.func32 rfl h0 ?_ hro
  simp only [Try.ntmps32, List.size_toArray, List.length_cons, List.length_nil, Nat.reduceAdd, Nat.reduceSub, Array.replicate_succ, Array.replicate_zero, List.push_toArray, List.append_toArray, List.nil_append, List.cons_append]
  gi_wp2_with (first | (gi_at_call 63; refine HR.out.mono ?_; rintro e w' ⟨rfl, rfl⟩) | (gi_at_call 53; refine (HM.out _).mono ?_; rintro e w' ⟨rfl, rfl⟩))
  go_ret
  exact ⟨rfl, ((Below.refl _ w).alloc (Nat.le_refl _) _).alloc (by simp) _⟩

set_option maxRecDepth 100000 in
set_option maxHeartbeats 1000000 in
theorem gather_norow (F : Fence) (n : Nat) (A : Option Addr) (m c X : Nat) (w : World) (hm8 : ¬ m = 8) (h0 : F.fn 32) (hrw : F.fn 63) (hf : F.fn 53) (hro : F.round = none) (hn : 3 ≤ n) :
    CallsIn F n Try.prog 32 #[.slice A m c, .int .u32 (X : Int)] w fun e w' => e = .returned (.slice none 0 0) ∧ Below w.heap.size w w' := by
  have HR := Lib.hid (rowOf_no F (n - 1) hrw hro A m c w hm8)
  have h1 : 1 ≤ n := by omega
  clear hm8
  refine callsIn_of_wp Try.func32 rfl h0 ?_ hro
  simp only [Try.ntmps32, List.size_toArray, List.length_cons, List.length_nil, Nat.reduceAdd, Nat.reduceSub, Array.replicate_succ, Array.replicate_zero, List.push_toArray, List.append_toArray, List.nil_append, List.cons_append]
  gi_wp2_with (gi_at_call 63; refine HR.out.mono ?_; rintro e w' ⟨rfl, rfl⟩)
  go_ret
  exact ⟨rfl, ((Below.refl _ w).alloc (Nat.le_refl _) _).alloc (by simp) _⟩

/-- What Gather answers. -/
def gatherV (m X : Nat) (zs : List Int) : List Int := if m = 8 ∧ X < 256 then gath zs (onesTo X 32) else []
theorem gather_any (A : Option Addr) (m c B X : Nat) (zs : List Int) (w : World) (h : RdK .i64 w B A m zs) (hB : B ≤ w.heap.size) (hX32 : X < 4294967296) :
    Calls Try.prog 32 #[.slice A m c, .int .u32 (X : Int)] w fun e w' => ∃ A' c', e = .returned (.slice A' (gatherV m X zs).length c') ∧ OwnK 3 .i64 w' w.heap.size A' (gatherV m X zs).length c' (gatherV m X zs) ∧ Below w.heap.size w w' := by
  refine (callsIn_wide (n := 3)).1 ?_
  by_cases hm8 : m = 8
  · subst hm8
    obtain ⟨v0, v1, v2, v3, v4, v5, v6, v7, rfl⟩ := eight h.1
    by_cases hX : X < 256
    · have e : gatherV 8 X [v0, v1, v2, v3, v4, v5, v6, v7] = gath [v0, v1, v2, v3, v4, v5, v6, v7] (onesTo X 32) := if_pos ⟨rfl, hX⟩
      rw [e]
      exact gather_in Fence.wide 3 A c B X v0 v1 v2 v3 v4 v5 v6 v7 w h hB hX trivial trivial trivial trivial trivial trivial trivial rfl (Nat.le_refl _)
    · have e : gatherV 8 X [v0, v1, v2, v3, v4, v5, v6, v7] = [] := if_neg fun e => hX e.2
      rw [e]
      exact (gather_nomask Fence.wide 3 A c B X v0 v1 v2 v3 v4 v5 v6 v7 w h hB hX hX32 trivial trivial trivial trivial trivial trivial trivial rfl (Nat.le_refl _)).mono fun _ _ ⟨h1, h2⟩ => ⟨none, 0, h1, World.ownsRow_nil _ _ _ _, h2⟩
  · have e : gatherV m X zs = [] := if_neg fun e => hm8 e.1
    rw [e]
    exact (gather_norow Fence.wide 3 A m c X w hm8 trivial trivial trivial rfl (Nat.le_refl _)).mono fun _ _ ⟨h1, h2⟩ => ⟨none, 0, h1, World.ownsRow_nil _ _ _ _, h2⟩

end Go.Proofs.Ytgaphgffchifcaa
