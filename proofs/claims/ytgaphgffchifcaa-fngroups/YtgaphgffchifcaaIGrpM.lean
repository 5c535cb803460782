/- The contract of the program's Groups where the lanes have several values. -/
import Derived.Test.YtgaphgffchifcaaIGrp
namespace Go.Proofs.Ytgaphgffchifcaa
open Go.RowKit Go.Shelf

attribute [local go_sem] Oper.semAt_some

set_option maxRecDepth 100000 in
set_option maxHeartbeats 4000000 in
theorem grp_many_in (F : Fence) (n : Nat) (A : Option Addr) (c B X : Nat) (v0 v1 v2 v3 v4 v5 v6 v7 : Int) (w : World) (h : RdK .i64 w B A 8 [v0, v1, v2, v3, v4, v5, v6, v7]) (hB : B ≤ w.heap.size) (hX : X < 256) (h0X : X ≠ 0) (hv : ∀ z ∈ [v0, v1, v2, v3, v4, v5, v6, v7], -9223372036854775808 ≤ z ∧ z < 9223372036854775808) (k0 : Nat) (hk0 : k0 ∈ onesTo X 32) (hlead : nthV X 0 = (k0 : Int)) (hcase : ¬ fillL (at0 [v0, v1, v2, v3, v4, v5, v6, v7] k0) [v0, v1, v2, v3, v4, v5, v6, v7] (onesTo X 32) = [v0, v1, v2, v3, v4, v5, v6, v7]) (h0 : F.fn 24) (hrw : F.fn 63) (hf : F.fn 53) (hm : F.fn 59) (hg : F.fn 72) (hl : F.fn 19) (ht : F.fn 16) (hr : F.fn 18) (hh : F.fn 57) (ho : F.fn 58) (h5 : F.fn 54) (h6 : F.fn 70) (hfi : F.fn 64) (hgr : F.fn 65) (hro : F.round = none) (hn : 12 ≤ n) :
    CallsIn F n Try.prog 24 #[.slice A 8 c, .int .u32 (X : Int)] w fun e w' => ∃ A' c', e = .returned (.slice A' (groupsL [v0, v1, v2, v3, v4, v5, v6, v7] (onesTo X 32)).length c') ∧ OwnK 24 .u32 w' w.heap.size A' (groupsL [v0, v1, v2, v3, v4, v5, v6, v7] (onesTo X 32)).length c' (ints (groupsL [v0, v1, v2, v3, v4, v5, v6, v7] (onesTo X 32))) ∧ Below w.heap.size w w' := by
  have HGr : Hid (∀ W, CallsIn F (n - 1) Try.prog 65 #[.agg #[.int .i64 v0, .int .i64 v1, .int .i64 v2, .int .i64 v3, .int .i64 v4, .int .i64 v5, .int .i64 v6, .int .i64 v7], .int .u32 (X : Int)] W fun e w' => ∃ b k, e = .returned (.map (some b)) ∧ W.heap.size ≤ b ∧ k ≤ 32 ∧ MapG w' b k (grp [v0, v1, v2, v3, v4, v5, v6, v7] (onesTo X 32)) ∧ Below W.heap.size W w') := fun W => groups_in F (n - 1) X v0 v1 v2 v3 v4 v5 v6 v7 W hX hv hgr h5 h6 hro (by omega)
  have HLx : Hid (∀ (Y : Nat) W, Y < 4294967296 → CallsIn F (n - 1 - 1 - 1) Try.prog 19 #[.int .u32 (Y : Int)] W fun e w' => e = .returned (.int .i64 (nthV Y 0)) ∧ Below W.heap.size W w') := fun Y W hY => leader_in F (n - 1 - 1 - 1) Y W hY hl ht hr hh hf hm hg ho h5 h6 (by omega) hro
  have HV := Lib.hid hv
  clear hv
  have hX32 : X < 4294967296 := by omega
  have HM : Hid (∀ W, CallsIn F (n - 1) Try.prog 53 #[.int .u32 (X : Int)] W fun e w' => e = .returned (.bool (decide (X < 256))) ∧ W = w') := fun W => isMask_in F (n - 1) X W hX32 hf hm hg (by omega) hro
  rw [decide_eq_true hX] at HM
  have HR := Lib.hid (rowOf_in F (n - 1) hrw hro A c B v0 v1 v2 v3 v4 v5 v6 v7 w h hB)
  have HL : Hid (∀ W, CallsIn F (n - 1) Try.prog 19 #[.int .u32 (X : Int)] W fun e w' => e = .returned (.int .i64 (nthV X 0)) ∧ Below W.heap.size W w') := fun W => leader_in F (n - 1) X W hX32 hl ht hr hh hf hm hg ho h5 h6 (by omega) hro
  rw [hlead] at HL
  have hk8 : k0 < 8 := ones_lt_8 hX hk0
  have hk8' : (k0 : Int) < 8 := by omega
  have HFl : Hid (∀ W, CallsIn F (n - 1) Try.prog 64 #[.agg #[.int .i64 v0, .int .i64 v1, .int .i64 v2, .int .i64 v3, .int .i64 v4, .int .i64 v5, .int .i64 v6, .int .i64 v7], .int .u32 (X : Int), .int .i64 (at0 [v0, v1, v2, v3, v4, v5, v6, v7] k0)] W fun e w' => e = .returned (.agg (rowC (fillL (at0 [v0, v1, v2, v3, v4, v5, v6, v7] k0) [v0, v1, v2, v3, v4, v5, v6, v7] (onesTo X 32)))) ∧ Below W.heap.size W w') := fun W => filled_in F (n - 1) X v0 v1 v2 v3 v4 v5 v6 v7 _ W hX hfi h5 h6 hro (by omega)
  have heq := fun W => row_eq W (fillL (at0 [v0, v1, v2, v3, v4, v5, v6, v7] k0) [v0, v1, v2, v3, v4, v5, v6, v7] (onesTo X 32)) [v0, v1, v2, v3, v4, v5, v6, v7] (by rw [fillL_len]; rfl) rfl
  rw [decide_eq_false hcase] at heq
  have heq' : ∀ W, (Op.equalIn 10000 70 (.agg (rowC (fillL (at0 [v0, v1, v2, v3, v4, v5, v6, v7] k0) [v0, v1, v2, v3, v4, v5, v6, v7] (onesTo X 32)))) (.agg #[.int .i64 v0, .int .i64 v1, .int .i64 v2, .int .i64 v3, .int .i64 v4, .int .i64 v5, .int .i64 v6, .int .i64 v7])).run Try.prog W = .ok false W := heq
  clear heq
  have hgd := row_guard
  have h1 : 1 ≤ n := by omega
  have hmx := mixed
  have HI : (Try.prog.info? 70).map (·.size) = some (#[.int .i64 v0, .int .i64 v1, .int .i64 v2, .int .i64 v3, .int .i64 v4, .int .i64 v5, .int .i64 v6, .int .i64 v7] : Array Value).size := row_size
  have HX := Lib.hid hX32
  have HX8 := Lib.hid hX
  have H0X : ¬ ((X : Int) = 0) := by omega
  have HK0 := Lib.hid hk0
  clear hX hX32 h h0X hlead hk0
  obtain ⟨i0, hi, hz0', hz1, hz2⟩ := info_parts info_word
  refine callsIn_of_wp_marks Try.func24 rfl h0 ?_ hro
  simp only [Try.ntmps24, List.size_toArray, List.length_cons, List.length_nil, Nat.reduceAdd, Nat.reduceSub, Array.replicate_succ, Array.replicate_zero, List.push_toArray, List.append_toArray, List.nil_append, List.cons_append]
  gi_wp2_with (first | (gi_at_call 63; refine HR.out.mono ?_; rintro e w' ⟨rfl, rfl⟩) | (gi_at_call 53; refine (HM.out _).mono ?_; rintro e w' ⟨rfl, rfl⟩))
  have hB0 : Below w.heap.size w ((w.alloc (.cells #[.int .i64 v0, .int .i64 v1, .int .i64 v2, .int .i64 v3, .int .i64 v4, .int .i64 v5, .int .i64 v6, .int .i64 v7] 70)).alloc (.cells #[.int .i64 v0, .int .i64 v1, .int .i64 v2, .int .i64 v3, .int .i64 v4, .int .i64 v5, .int .i64 v6, .int .i64 v7] 70)) := ((Below.refl _ w).alloc (Nat.le_refl _) _).alloc (by simp) _
  have r0 : ((w.alloc (.cells #[.int .i64 v0, .int .i64 v1, .int .i64 v2, .int .i64 v3, .int .i64 v4, .int .i64 v5, .int .i64 v6, .int .i64 v7] 70)).alloc (.cells #[.int .i64 v0, .int .i64 v1, .int .i64 v2, .int .i64 v3, .int .i64 v4, .int .i64 v5, .int .i64 v6, .int .i64 v7] 70)).heap[w.heap.size + 1]? = some (.cells #[.int .i64 v0, .int .i64 v1, .int .i64 v2, .int .i64 v3, .int .i64 v4, .int .i64 v5, .int .i64 v6, .int .i64 v7] 70 (0, 0)) := by
    have := RowBox.new (w.alloc (.cells #[.int .i64 v0, .int .i64 v1, .int .i64 v2, .int .i64 v3, .int .i64 v4, .int .i64 v5, .int .i64 v6, .int .i64 v7] 70)) [v0, v1, v2, v3, v4, v5, v6, v7]
    rw [World.size_alloc] at this
    exact this
  have hsz : ((w.alloc (.cells #[.int .i64 v0, .int .i64 v1, .int .i64 v2, .int .i64 v3, .int .i64 v4, .int .i64 v5, .int .i64 v6, .int .i64 v7] 70)).alloc (.cells #[.int .i64 v0, .int .i64 v1, .int .i64 v2, .int .i64 v3, .int .i64 v4, .int .i64 v5, .int .i64 v6, .int .i64 v7] 70)).heap.size = w.heap.size + 2 := by simp
  obtain ⟨W0, hW0⟩ : ∃ W0, ((w.alloc (.cells #[.int .i64 v0, .int .i64 v1, .int .i64 v2, .int .i64 v3, .int .i64 v4, .int .i64 v5, .int .i64 v6, .int .i64 v7] 70)).alloc (.cells #[.int .i64 v0, .int .i64 v1, .int .i64 v2, .int .i64 v3, .int .i64 v4, .int .i64 v5, .int .i64 v6, .int .i64 v7] 70)) = W0 := ⟨_, rfl⟩
  rw [hW0] at hB0 r0 hsz ⊢
  clear hW0 HR HM
  generalize rowC (fillL (at0 [v0, v1, v2, v3, v4, v5, v6, v7] k0) [v0, v1, v2, v3, v4, v5, v6, v7] (onesTo X 32)) = fc at *
  generalize hz0 : at0 [v0, v1, v2, v3, v4, v5, v6, v7] k0 = z0 at *
  apply cut_at (R := fun w' => w'.heap[w.heap.size + 1]? = some (.cells #[.int .i64 v0, .int .i64 v1, .int .i64 v2, .int .i64 v3, .int .i64 v4, .int .i64 v5, .int .i64 v6, .int .i64 v7] 70 (0, 0)) ∧ Below w.heap.size w w')
  case h =>
    refine wpIn_region_any (by assumption) ?_
    change wpAnyIn _ _ _ _ _ _ _ _ _ (World.drew _)
    refine wpAnyIn_take (i := 1) (v := ?v7) hro rfl (by kernel_rfl) (by kernel_rfl) (by kernel_rfl) (fun _ _ _ h => by cases h.1) ⟨Or.inl ⟨by rfl, ?y7⟩, fun _ => rfl⟩ ?r7
    case y7 => intro w; go_simp; try with_reducible rfl
    case r7 =>
      refine wpAnyIn_take (i := 2) (v := ?v8) hro rfl (by kernel_rfl) (by kernel_rfl) (by kernel_rfl) (fun _ _ _ h => by cases h.1) ⟨Or.inl ⟨by rfl, ?y8⟩, fun _ => rfl⟩ ?r8
      case y8 => intro w; go_simp; try with_reducible rfl
      case r8 =>
        refine wpAnyIn_ready (rs := [0, 3, 7]) (by kernel_rfl) (by simp) (AllReadyIn.cons rfl (fun K hK => ?_) (AllReadyIn.cons rfl (fun K hK => ?_) (AllReadyIn.cons rfl (fun K hK => ?_) AllReadyIn.nil)))
        · skip
          refine stepIn_load_row rfl 70 _ rfl (w.heap.size + 1) rfl 70 #[.int .i64 v0, .int .i64 v1, .int .i64 v2, .int .i64 v3, .int .i64 v4, .int .i64 v5, .int .i64 v6, .int .i64 v7] (0, 0) _ r0 Try.underlying70 rfl HI ?_
          refine hK _ _ ?_
          clear hK K
          refine wpAnyIn_ready (rs := [3, 7]) (by kernel_rfl) (by simp) (AllReadyIn.cons rfl (fun K hK => ?_) (AllReadyIn.cons rfl (fun K hK => ?_) AllReadyIn.nil))
          · skip
            go_simp
            gi_wp2_with (gi_at_call 19; refine (HL.out _).mono ?_; rintro e w1 ⟨rfl, hb1⟩; have r1 := (hb1.block (w.heap.size + 1) (by show _ < W0.heap.size; omega)).trans r0; have z1 := hb1.size; have HB1 := Lib.hid hb1; clear hb1)
            refine wpAnyIn_take (i := 4) (v := ?v9) hro rfl (by kernel_rfl) (by kernel_rfl) (by kernel_rfl) (fun _ _ _ h => by cases h.1) ⟨Or.inl ⟨by rfl, ?y9⟩, fun _ => rfl⟩ ?r9
            case y9 => intro w; go_simp; try with_reducible rfl
            case r9 =>
              refine wpAnyIn_ready (rs := [5, 7]) (by kernel_rfl) (by simp) (AllReadyIn.cons rfl (fun K hK => ?_) (AllReadyIn.cons rfl (fun K hK => ?_) AllReadyIn.nil))
              · skip
                have c5 : World.cell? w1 ⟨w.heap.size + 1, k0, none⟩ = some (.int .i64 z0) := by
                  have h5 := RowBox.cell (zs := [v0, v1, v2, v3, v4, v5, v6, v7]) (i := k0) r1 (by simpa using hk8)
                  rw [← hz0]
                  exact h5
                go_simp
                refine hK _ _ ?_
                clear hK K
                refine wpAnyIn_ready (rs := [6, 7]) (by kernel_rfl) (by simp) (AllReadyIn.cons rfl (fun K hK => ?_) (AllReadyIn.cons rfl (fun K hK => ?_) AllReadyIn.nil))
                · skip
                  go_simp
                  gi_wp2_with (gi_at_call 64; refine (HFl.out _).mono ?_; rintro e w2 ⟨rfl, hb2⟩; have r2 := (hb2.block (w.heap.size + 1) (by have : W0.heap.size ≤ w1.heap.size := z1; omega)).trans r1; have HB2 := Lib.hid hb2; clear hb2)
                  refine wpAnyIn_ready (rs := [7]) (by kernel_rfl) (by simp) (AllReadyIn.cons rfl (fun K hK => ?_) AllReadyIn.nil)
                  refine stepIn_load_row rfl 70 _ rfl (w.heap.size + 1) rfl 70 #[.int .i64 v0, .int .i64 v1, .int .i64 v2, .int .i64 v3, .int .i64 v4, .int .i64 v5, .int .i64 v6, .int .i64 v7] (0, 0) _ r2 Try.underlying70 rfl HI ?_
                  refine hK _ _ ?_
                  clear hK K
                  refine wpAnyIn_ready (rs := [8]) (by kernel_rfl) (by simp) (AllReadyIn.cons rfl (fun K hK => ?_) AllReadyIn.nil)
                  go_simp
                  refine hK _ _ ?_
                  clear hK K
                  refine wpAnyIn_done (by kernel_rfl) ?_ _
                  refine ⟨rfl, rfl, r2, ?_⟩
                  exact (hB0.drew.trans (HB1.out.mono (by show _ ≤ W0.heap.size; omega))).trans (HB2.out.mono (by have : W0.heap.size ≤ w1.heap.size := z1; omega))
                · skip
                  refine stepIn_load_row rfl 70 _ rfl (w.heap.size + 1) rfl 70 #[.int .i64 v0, .int .i64 v1, .int .i64 v2, .int .i64 v3, .int .i64 v4, .int .i64 v5, .int .i64 v6, .int .i64 v7] (0, 0) _ r1 Try.underlying70 rfl HI ?_
                  refine hK _ _ ?_
                  clear hK K
                  refine wpAnyIn_ready (rs := [6]) (by kernel_rfl) (by simp) (AllReadyIn.cons rfl (fun K hK => ?_) AllReadyIn.nil)
                  go_simp
                  gi_wp2_with (gi_at_call 64; refine (HFl.out _).mono ?_; rintro e w2 ⟨rfl, hb2⟩; have r2 := (hb2.block (w.heap.size + 1) (by have : W0.heap.size ≤ w1.heap.size := z1; omega)).trans r1; have HB2 := Lib.hid hb2; clear hb2)
                  refine wpAnyIn_ready (rs := [8]) (by kernel_rfl) (by simp) (AllReadyIn.cons rfl (fun K hK => ?_) AllReadyIn.nil)
                  go_simp
                  refine hK _ _ ?_
                  clear hK K
                  refine wpAnyIn_done (by kernel_rfl) ?_ _
                  refine ⟨rfl, rfl, r2, ?_⟩
                  exact (hB0.drew.trans (HB1.out.mono (by show _ ≤ W0.heap.size; omega))).trans (HB2.out.mono (by have : W0.heap.size ≤ w1.heap.size := z1; omega))
              · skip
                refine stepIn_load_row rfl 70 _ rfl (w.heap.size + 1) rfl 70 #[.int .i64 v0, .int .i64 v1, .int .i64 v2, .int .i64 v3, .int .i64 v4, .int .i64 v5, .int .i64 v6, .int .i64 v7] (0, 0) _ r1 Try.underlying70 rfl HI ?_
                refine hK _ _ ?_
                clear hK K
                refine wpAnyIn_ready (rs := [5]) (by kernel_rfl) (by simp) (AllReadyIn.cons rfl (fun K hK => ?_) AllReadyIn.nil)
                have c5 : World.cell? w1 ⟨w.heap.size + 1, k0, none⟩ = some (.int .i64 z0) := by
                  have h5 := RowBox.cell (zs := [v0, v1, v2, v3, v4, v5, v6, v7]) (i := k0) r1 (by simpa using hk8)
                  rw [← hz0]
                  exact h5
                go_simp
                refine hK _ _ ?_
                clear hK K
                refine wpAnyIn_ready (rs := [6]) (by kernel_rfl) (by simp) (AllReadyIn.cons rfl (fun K hK => ?_) AllReadyIn.nil)
                go_simp
                gi_wp2_with (gi_at_call 64; refine (HFl.out _).mono ?_; rintro e w2 ⟨rfl, hb2⟩; have r2 := (hb2.block (w.heap.size + 1) (by have : W0.heap.size ≤ w1.heap.size := z1; omega)).trans r1; have HB2 := Lib.hid hb2; clear hb2)
                refine wpAnyIn_ready (rs := [8]) (by kernel_rfl) (by simp) (AllReadyIn.cons rfl (fun K hK => ?_) AllReadyIn.nil)
                go_simp
                refine hK _ _ ?_
                clear hK K
                refine wpAnyIn_done (by kernel_rfl) ?_ _
                refine ⟨rfl, rfl, r2, ?_⟩
                exact (hB0.drew.trans (HB1.out.mono (by show _ ≤ W0.heap.size; omega))).trans (HB2.out.mono (by have : W0.heap.size ≤ w1.heap.size := z1; omega))
          · skip
            refine stepIn_load_row rfl 70 _ rfl (w.heap.size + 1) rfl 70 #[.int .i64 v0, .int .i64 v1, .int .i64 v2, .int .i64 v3, .int .i64 v4, .int .i64 v5, .int .i64 v6, .int .i64 v7] (0, 0) _ r0 Try.underlying70 rfl HI ?_
            refine hK _ _ ?_
            clear hK K
            refine wpAnyIn_ready (rs := [3]) (by kernel_rfl) (by simp) (AllReadyIn.cons rfl (fun K hK => ?_) AllReadyIn.nil)
            go_simp
            gi_wp2_with (gi_at_call 19; refine (HL.out _).mono ?_; rintro e w1 ⟨rfl, hb1⟩; have r1 := (hb1.block (w.heap.size + 1) (by show _ < W0.heap.size; omega)).trans r0; have z1 := hb1.size; have HB1 := Lib.hid hb1; clear hb1)
            refine wpAnyIn_take (i := 4) (v := ?v10) hro rfl (by kernel_rfl) (by kernel_rfl) (by kernel_rfl) (fun _ _ _ h => by cases h.1) ⟨Or.inl ⟨by rfl, ?y10⟩, fun _ => rfl⟩ ?r10
            case y10 => intro w; go_simp; try with_reducible rfl
            case r10 =>
              refine wpAnyIn_ready (rs := [5]) (by kernel_rfl) (by simp) (AllReadyIn.cons rfl (fun K hK => ?_) AllReadyIn.nil)
              have c5 : World.cell? w1 ⟨w.heap.size + 1, k0, none⟩ = some (.int .i64 z0) := by
                have h5 := RowBox.cell (zs := [v0, v1, v2, v3, v4, v5, v6, v7]) (i := k0) r1 (by simpa using hk8)
                rw [← hz0]
                exact h5
              go_simp
              refine hK _ _ ?_
              clear hK K
              refine wpAnyIn_ready (rs := [6]) (by kernel_rfl) (by simp) (AllReadyIn.cons rfl (fun K hK => ?_) AllReadyIn.nil)
              go_simp
              gi_wp2_with (gi_at_call 64; refine (HFl.out _).mono ?_; rintro e w2 ⟨rfl, hb2⟩; have r2 := (hb2.block (w.heap.size + 1) (by have : W0.heap.size ≤ w1.heap.size := z1; omega)).trans r1; have HB2 := Lib.hid hb2; clear hb2)
              refine wpAnyIn_ready (rs := [8]) (by kernel_rfl) (by simp) (AllReadyIn.cons rfl (fun K hK => ?_) AllReadyIn.nil)
              go_simp
              refine hK _ _ ?_
              clear hK K
              refine wpAnyIn_done (by kernel_rfl) ?_ _
              refine ⟨rfl, rfl, r2, ?_⟩
              exact (hB0.drew.trans (HB1.out.mono (by show _ ≤ W0.heap.size; omega))).trans (HB2.out.mono (by have : W0.heap.size ≤ w1.heap.size := z1; omega))
        · skip
          go_simp
          gi_wp2_with (gi_at_call 19; refine (HL.out _).mono ?_; rintro e w1 ⟨rfl, hb1⟩; have r1 := (hb1.block (w.heap.size + 1) (by show _ < W0.heap.size; omega)).trans r0; have z1 := hb1.size; have HB1 := Lib.hid hb1; clear hb1)
          refine wpAnyIn_take (i := 4) (v := ?v11) hro rfl (by kernel_rfl) (by kernel_rfl) (by kernel_rfl) (fun _ _ _ h => by cases h.1) ⟨Or.inl ⟨by rfl, ?y11⟩, fun _ => rfl⟩ ?r11
          case y11 => intro w; go_simp; try with_reducible rfl
          case r11 =>
            refine wpAnyIn_ready (rs := [0, 5, 7]) (by kernel_rfl) (by simp) (AllReadyIn.cons rfl (fun K hK => ?_) (AllReadyIn.cons rfl (fun K hK => ?_) (AllReadyIn.cons rfl (fun K hK => ?_) AllReadyIn.nil)))
            · skip
              refine stepIn_load_row rfl 70 _ rfl (w.heap.size + 1) rfl 70 #[.int .i64 v0, .int .i64 v1, .int .i64 v2, .int .i64 v3, .int .i64 v4, .int .i64 v5, .int .i64 v6, .int .i64 v7] (0, 0) _ r1 Try.underlying70 rfl HI ?_
              refine hK _ _ ?_
              clear hK K
              refine wpAnyIn_ready (rs := [5, 7]) (by kernel_rfl) (by simp) (AllReadyIn.cons rfl (fun K hK => ?_) (AllReadyIn.cons rfl (fun K hK => ?_) AllReadyIn.nil))
              · skip
                have c5 : World.cell? w1 ⟨w.heap.size + 1, k0, none⟩ = some (.int .i64 z0) := by
                  have h5 := RowBox.cell (zs := [v0, v1, v2, v3, v4, v5, v6, v7]) (i := k0) r1 (by simpa using hk8)
                  rw [← hz0]
                  exact h5
                go_simp
                refine hK _ _ ?_
                clear hK K
                refine wpAnyIn_ready (rs := [6, 7]) (by kernel_rfl) (by simp) (AllReadyIn.cons rfl (fun K hK => ?_) (AllReadyIn.cons rfl (fun K hK => ?_) AllReadyIn.nil))
                · skip
                  go_simp
                  gi_wp2_with (gi_at_call 64; refine (HFl.out _).mono ?_; rintro e w2 ⟨rfl, hb2⟩; have r2 := (hb2.block (w.heap.size + 1) (by have : W0.heap.size ≤ w1.heap.size := z1; omega)).trans r1; have HB2 := Lib.hid hb2; clear hb2)
                  refine wpAnyIn_ready (rs := [7]) (by kernel_rfl) (by simp) (AllReadyIn.cons rfl (fun K hK => ?_) AllReadyIn.nil)
                  refine stepIn_load_row rfl 70 _ rfl (w.heap.size + 1) rfl 70 #[.int .i64 v0, .int .i64 v1, .int .i64 v2, .int .i64 v3, .int .i64 v4, .int .i64 v5, .int .i64 v6, .int .i64 v7] (0, 0) _ r2 Try.underlying70 rfl HI ?_
                  refine hK _ _ ?_
                  clear hK K
                  refine wpAnyIn_ready (rs := [8]) (by kernel_rfl) (by simp) (AllReadyIn.cons rfl (fun K hK => ?_) AllReadyIn.nil)
                  go_simp
                  refine hK _ _ ?_
                  clear hK K
                  refine wpAnyIn_done (by kernel_rfl) ?_ _
                  refine ⟨rfl, rfl, r2, ?_⟩
                  exact (hB0.drew.trans (HB1.out.mono (by show _ ≤ W0.heap.size; omega))).trans (HB2.out.mono (by have : W0.heap.size ≤ w1.heap.size := z1; omega))
                · skip
                  refine stepIn_load_row rfl 70 _ rfl (w.heap.size + 1) rfl 70 #[.int .i64 v0, .int .i64 v1, .int .i64 v2, .int .i64 v3, .int .i64 v4, .int .i64 v5, .int .i64 v6, .int .i64 v7] (0, 0) _ r1 Try.underlying70 rfl HI ?_
                  refine hK _ _ ?_
                  clear hK K
                  refine wpAnyIn_ready (rs := [6]) (by kernel_rfl) (by simp) (AllReadyIn.cons rfl (fun K hK => ?_) AllReadyIn.nil)
                  go_simp
                  gi_wp2_with (gi_at_call 64; refine (HFl.out _).mono ?_; rintro e w2 ⟨rfl, hb2⟩; have r2 := (hb2.block (w.heap.size + 1) (by have : W0.heap.size ≤ w1.heap.size := z1; omega)).trans r1; have HB2 := Lib.hid hb2; clear hb2)
                  refine wpAnyIn_ready (rs := [8]) (by kernel_rfl) (by simp) (AllReadyIn.cons rfl (fun K hK => ?_) AllReadyIn.nil)
                  go_simp
                  refine hK _ _ ?_
                  clear hK K
                  refine wpAnyIn_done (by kernel_rfl) ?_ _
                  refine ⟨rfl, rfl, r2, ?_⟩
                  exact (hB0.drew.trans (HB1.out.mono (by show _ ≤ W0.heap.size; omega))).trans (HB2.out.mono (by have : W0.heap.size ≤ w1.heap.size := z1; omega))
              · skip
                refine stepIn_load_row rfl 70 _ rfl (w.heap.size + 1) rfl 70 #[.int .i64 v0, .int .i64 v1, .int .i64 v2, .int .i64 v3, .int .i64 v4, .int .i64 v5, .int .i64 v6, .int .i64 v7] (0, 0) _ r1 Try.underlying70 rfl HI ?_
                refine hK _ _ ?_
                clear hK K
                refine wpAnyIn_ready (rs := [5]) (by kernel_rfl) (by simp) (AllReadyIn.cons rfl (fun K hK => ?_) AllReadyIn.nil)
                have c5 : World.cell? w1 ⟨w.heap.size + 1, k0, none⟩ = some (.int .i64 z0) := by
                  have h5 := RowBox.cell (zs := [v0, v1, v2, v3, v4, v5, v6, v7]) (i := k0) r1 (by simpa using hk8)
                  rw [← hz0]
                  exact h5
                go_simp
                refine hK _ _ ?_
                clear hK K
                refine wpAnyIn_ready (rs := [6]) (by kernel_rfl) (by simp) (AllReadyIn.cons rfl (fun K hK => ?_) AllReadyIn.nil)
                go_simp
                gi_wp2_with (gi_at_call 64; refine (HFl.out _).mono ?_; rintro e w2 ⟨rfl, hb2⟩; have r2 := (hb2.block (w.heap.size + 1) (by have : W0.heap.size ≤ w1.heap.size := z1; omega)).trans r1; have HB2 := Lib.hid hb2; clear hb2)
                refine wpAnyIn_ready (rs := [8]) (by kernel_rfl) (by simp) (AllReadyIn.cons rfl (fun K hK => ?_) AllReadyIn.nil)
                go_simp
                refine hK _ _ ?_
                clear hK K
                refine wpAnyIn_done (by kernel_rfl) ?_ _
                refine ⟨rfl, rfl, r2, ?_⟩
                exact (hB0.drew.trans (HB1.out.mono (by show _ ≤ W0.heap.size; omega))).trans (HB2.out.mono (by have : W0.heap.size ≤ w1.heap.size := z1; omega))
            · skip
              have c5 : World.cell? w1 ⟨w.heap.size + 1, k0, none⟩ = some (.int .i64 z0) := by
                have h5 := RowBox.cell (zs := [v0, v1, v2, v3, v4, v5, v6, v7]) (i := k0) r1 (by simpa using hk8)
                rw [← hz0]
                exact h5
              go_simp
              refine hK _ _ ?_
              clear hK K
              refine wpAnyIn_ready (rs := [0, 7]) (by kernel_rfl) (by simp) (AllReadyIn.cons rfl (fun K hK => ?_) (AllReadyIn.cons rfl (fun K hK => ?_) AllReadyIn.nil))
              · skip
                refine stepIn_load_row rfl 70 _ rfl (w.heap.size + 1) rfl 70 #[.int .i64 v0, .int .i64 v1, .int .i64 v2, .int .i64 v3, .int .i64 v4, .int .i64 v5, .int .i64 v6, .int .i64 v7] (0, 0) _ r1 Try.underlying70 rfl HI ?_
                refine hK _ _ ?_
                clear hK K
                refine wpAnyIn_ready (rs := [6, 7]) (by kernel_rfl) (by simp) (AllReadyIn.cons rfl (fun K hK => ?_) (AllReadyIn.cons rfl (fun K hK => ?_) AllReadyIn.nil))
                · skip
                  go_simp
                  gi_wp2_with (gi_at_call 64; refine (HFl.out _).mono ?_; rintro e w2 ⟨rfl, hb2⟩; have r2 := (hb2.block (w.heap.size + 1) (by have : W0.heap.size ≤ w1.heap.size := z1; omega)).trans r1; have HB2 := Lib.hid hb2; clear hb2)
                  refine wpAnyIn_ready (rs := [7]) (by kernel_rfl) (by simp) (AllReadyIn.cons rfl (fun K hK => ?_) AllReadyIn.nil)
                  refine stepIn_load_row rfl 70 _ rfl (w.heap.size + 1) rfl 70 #[.int .i64 v0, .int .i64 v1, .int .i64 v2, .int .i64 v3, .int .i64 v4, .int .i64 v5, .int .i64 v6, .int .i64 v7] (0, 0) _ r2 Try.underlying70 rfl HI ?_
                  refine hK _ _ ?_
                  clear hK K
                  refine wpAnyIn_ready (rs := [8]) (by kernel_rfl) (by simp) (AllReadyIn.cons rfl (fun K hK => ?_) AllReadyIn.nil)
                  go_simp
                  refine hK _ _ ?_
                  clear hK K
                  refine wpAnyIn_done (by kernel_rfl) ?_ _
                  refine ⟨rfl, rfl, r2, ?_⟩
                  exact (hB0.drew.trans (HB1.out.mono (by show _ ≤ W0.heap.size; omega))).trans (HB2.out.mono (by have : W0.heap.size ≤ w1.heap.size := z1; omega))
                · skip
                  refine stepIn_load_row rfl 70 _ rfl (w.heap.size + 1) rfl 70 #[.int .i64 v0, .int .i64 v1, .int .i64 v2, .int .i64 v3, .int .i64 v4, .int .i64 v5, .int .i64 v6, .int .i64 v7] (0, 0) _ r1 Try.underlying70 rfl HI ?_
                  refine hK _ _ ?_
                  clear hK K
                  refine wpAnyIn_ready (rs := [6]) (by kernel_rfl) (by simp) (AllReadyIn.cons rfl (fun K hK => ?_) AllReadyIn.nil)
                  go_simp
                  gi_wp2_with (gi_at_call 64; refine (HFl.out _).mono ?_; rintro e w2 ⟨rfl, hb2⟩; have r2 := (hb2.block (w.heap.size + 1) (by have : W0.heap.size ≤ w1.heap.size := z1; omega)).trans r1; have HB2 := Lib.hid hb2; clear hb2)
                  refine wpAnyIn_ready (rs := [8]) (by kernel_rfl) (by simp) (AllReadyIn.cons rfl (fun K hK => ?_) AllReadyIn.nil)
                  go_simp
                  refine hK _ _ ?_
                  clear hK K
                  refine wpAnyIn_done (by kernel_rfl) ?_ _
                  refine ⟨rfl, rfl, r2, ?_⟩
                  exact (hB0.drew.trans (HB1.out.mono (by show _ ≤ W0.heap.size; omega))).trans (HB2.out.mono (by have : W0.heap.size ≤ w1.heap.size := z1; omega))
              · skip
                refine stepIn_load_row rfl 70 _ rfl (w.heap.size + 1) rfl 70 #[.int .i64 v0, .int .i64 v1, .int .i64 v2, .int .i64 v3, .int .i64 v4, .int .i64 v5, .int .i64 v6, .int .i64 v7] (0, 0) _ r1 Try.underlying70 rfl HI ?_
                refine hK _ _ ?_
                clear hK K
                refine wpAnyIn_ready (rs := [0]) (by kernel_rfl) (by simp) (AllReadyIn.cons rfl (fun K hK => ?_) AllReadyIn.nil)
                refine stepIn_load_row rfl 70 _ rfl (w.heap.size + 1) rfl 70 #[.int .i64 v0, .int .i64 v1, .int .i64 v2, .int .i64 v3, .int .i64 v4, .int .i64 v5, .int .i64 v6, .int .i64 v7] (0, 0) _ r1 Try.underlying70 rfl HI ?_
                refine hK _ _ ?_
                clear hK K
                refine wpAnyIn_ready (rs := [6]) (by kernel_rfl) (by simp) (AllReadyIn.cons rfl (fun K hK => ?_) AllReadyIn.nil)
                go_simp
                gi_wp2_with (gi_at_call 64; refine (HFl.out _).mono ?_; rintro e w2 ⟨rfl, hb2⟩; have r2 := (hb2.block (w.heap.size + 1) (by have : W0.heap.size ≤ w1.heap.size := z1; omega)).trans r1; have HB2 := Lib.hid hb2; clear hb2)
                refine wpAnyIn_ready (rs := [8]) (by kernel_rfl) (by simp) (AllReadyIn.cons rfl (fun K hK => ?_) AllReadyIn.nil)
                go_simp
                refine hK _ _ ?_
                clear hK K
                refine wpAnyIn_done (by kernel_rfl) ?_ _
                refine ⟨rfl, rfl, r2, ?_⟩
                exact (hB0.drew.trans (HB1.out.mono (by show _ ≤ W0.heap.size; omega))).trans (HB2.out.mono (by have : W0.heap.size ≤ w1.heap.size := z1; omega))
            · skip
              refine stepIn_load_row rfl 70 _ rfl (w.heap.size + 1) rfl 70 #[.int .i64 v0, .int .i64 v1, .int .i64 v2, .int .i64 v3, .int .i64 v4, .int .i64 v5, .int .i64 v6, .int .i64 v7] (0, 0) _ r1 Try.underlying70 rfl HI ?_
              refine hK _ _ ?_
              clear hK K
              refine wpAnyIn_ready (rs := [0, 5]) (by kernel_rfl) (by simp) (AllReadyIn.cons rfl (fun K hK => ?_) (AllReadyIn.cons rfl (fun K hK => ?_) AllReadyIn.nil))
              · skip
                refine stepIn_load_row rfl 70 _ rfl (w.heap.size + 1) rfl 70 #[.int .i64 v0, .int .i64 v1, .int .i64 v2, .int .i64 v3, .int .i64 v4, .int .i64 v5, .int .i64 v6, .int .i64 v7] (0, 0) _ r1 Try.underlying70 rfl HI ?_
                refine hK _ _ ?_
                clear hK K
                refine wpAnyIn_ready (rs := [5]) (by kernel_rfl) (by simp) (AllReadyIn.cons rfl (fun K hK => ?_) AllReadyIn.nil)
                have c5 : World.cell? w1 ⟨w.heap.size + 1, k0, none⟩ = some (.int .i64 z0) := by
                  have h5 := RowBox.cell (zs := [v0, v1, v2, v3, v4, v5, v6, v7]) (i := k0) r1 (by simpa using hk8)
                  rw [← hz0]
                  exact h5
                go_simp
                refine hK _ _ ?_
                clear hK K
                refine wpAnyIn_ready (rs := [6]) (by kernel_rfl) (by simp) (AllReadyIn.cons rfl (fun K hK => ?_) AllReadyIn.nil)
                go_simp
                gi_wp2_with (gi_at_call 64; refine (HFl.out _).mono ?_; rintro e w2 ⟨rfl, hb2⟩; have r2 := (hb2.block (w.heap.size + 1) (by have : W0.heap.size ≤ w1.heap.size := z1; omega)).trans r1; have HB2 := Lib.hid hb2; clear hb2)
                refine wpAnyIn_ready (rs := [8]) (by kernel_rfl) (by simp) (AllReadyIn.cons rfl (fun K hK => ?_) AllReadyIn.nil)
                go_simp
                refine hK _ _ ?_
                clear hK K
                refine wpAnyIn_done (by kernel_rfl) ?_ _
                refine ⟨rfl, rfl, r2, ?_⟩
                exact (hB0.drew.trans (HB1.out.mono (by show _ ≤ W0.heap.size; omega))).trans (HB2.out.mono (by have : W0.heap.size ≤ w1.heap.size := z1; omega))
              · skip
                have c5 : World.cell? w1 ⟨w.heap.size + 1, k0, none⟩ = some (.int .i64 z0) := by
                  have h5 := RowBox.cell (zs := [v0, v1, v2, v3, v4, v5, v6, v7]) (i := k0) r1 (by simpa using hk8)
                  rw [← hz0]
                  exact h5
                go_simp
                refine hK _ _ ?_
                clear hK K
                refine wpAnyIn_ready (rs := [0]) (by kernel_rfl) (by simp) (AllReadyIn.cons rfl (fun K hK => ?_) AllReadyIn.nil)
                refine stepIn_load_row rfl 70 _ rfl (w.heap.size + 1) rfl 70 #[.int .i64 v0, .int .i64 v1, .int .i64 v2, .int .i64 v3, .int .i64 v4, .int .i64 v5, .int .i64 v6, .int .i64 v7] (0, 0) _ r1 Try.underlying70 rfl HI ?_
                refine hK _ _ ?_
                clear hK K
                refine wpAnyIn_ready (rs := [6]) (by kernel_rfl) (by simp) (AllReadyIn.cons rfl (fun K hK => ?_) AllReadyIn.nil)
                go_simp
                gi_wp2_with (gi_at_call 64; refine (HFl.out _).mono ?_; rintro e w2 ⟨rfl, hb2⟩; have r2 := (hb2.block (w.heap.size + 1) (by have : W0.heap.size ≤ w1.heap.size := z1; omega)).trans r1; have HB2 := Lib.hid hb2; clear hb2)
                refine wpAnyIn_ready (rs := [8]) (by kernel_rfl) (by simp) (AllReadyIn.cons rfl (fun K hK => ?_) AllReadyIn.nil)
                go_simp
                refine hK _ _ ?_
                clear hK K
                refine wpAnyIn_done (by kernel_rfl) ?_ _
                refine ⟨rfl, rfl, r2, ?_⟩
                exact (hB0.drew.trans (HB1.out.mono (by show _ ≤ W0.heap.size; omega))).trans (HB2.out.mono (by have : W0.heap.size ≤ w1.heap.size := z1; omega))
        · skip
          refine stepIn_load_row rfl 70 _ rfl (w.heap.size + 1) rfl 70 #[.int .i64 v0, .int .i64 v1, .int .i64 v2, .int .i64 v3, .int .i64 v4, .int .i64 v5, .int .i64 v6, .int .i64 v7] (0, 0) _ r0 Try.underlying70 rfl HI ?_
          refine hK _ _ ?_
          clear hK K
          refine wpAnyIn_ready (rs := [0, 3]) (by kernel_rfl) (by simp) (AllReadyIn.cons rfl (fun K hK => ?_) (AllReadyIn.cons rfl (fun K hK => ?_) AllReadyIn.nil))
          · skip
            refine stepIn_load_row rfl 70 _ rfl (w.heap.size + 1) rfl 70 #[.int .i64 v0, .int .i64 v1, .int .i64 v2, .int .i64 v3, .int .i64 v4, .int .i64 v5, .int .i64 v6, .int .i64 v7] (0, 0) _ r0 Try.underlying70 rfl HI ?_
            refine hK _ _ ?_
            clear hK K
            refine wpAnyIn_ready (rs := [3]) (by kernel_rfl) (by simp) (AllReadyIn.cons rfl (fun K hK => ?_) AllReadyIn.nil)
            go_simp
            gi_wp2_with (gi_at_call 19; refine (HL.out _).mono ?_; rintro e w1 ⟨rfl, hb1⟩; have r1 := (hb1.block (w.heap.size + 1) (by show _ < W0.heap.size; omega)).trans r0; have z1 := hb1.size; have HB1 := Lib.hid hb1; clear hb1)
            refine wpAnyIn_take (i := 4) (v := ?v12) hro rfl (by kernel_rfl) (by kernel_rfl) (by kernel_rfl) (fun _ _ _ h => by cases h.1) ⟨Or.inl ⟨by rfl, ?y12⟩, fun _ => rfl⟩ ?r12
            case y12 => intro w; go_simp; try with_reducible rfl
            case r12 =>
              refine wpAnyIn_ready (rs := [5]) (by kernel_rfl) (by simp) (AllReadyIn.cons rfl (fun K hK => ?_) AllReadyIn.nil)
              have c5 : World.cell? w1 ⟨w.heap.size + 1, k0, none⟩ = some (.int .i64 z0) := by
                have h5 := RowBox.cell (zs := [v0, v1, v2, v3, v4, v5, v6, v7]) (i := k0) r1 (by simpa using hk8)
                rw [← hz0]
                exact h5
              go_simp
              refine hK _ _ ?_
              clear hK K
              refine wpAnyIn_ready (rs := [6]) (by kernel_rfl) (by simp) (AllReadyIn.cons rfl (fun K hK => ?_) AllReadyIn.nil)
              go_simp
              gi_wp2_with (gi_at_call 64; refine (HFl.out _).mono ?_; rintro e w2 ⟨rfl, hb2⟩; have r2 := (hb2.block (w.heap.size + 1) (by have : W0.heap.size ≤ w1.heap.size := z1; omega)).trans r1; have HB2 := Lib.hid hb2; clear hb2)
              refine wpAnyIn_ready (rs := [8]) (by kernel_rfl) (by simp) (AllReadyIn.cons rfl (fun K hK => ?_) AllReadyIn.nil)
              go_simp
              refine hK _ _ ?_
              clear hK K
              refine wpAnyIn_done (by kernel_rfl) ?_ _
              refine ⟨rfl, rfl, r2, ?_⟩
              exact (hB0.drew.trans (HB1.out.mono (by show _ ≤ W0.heap.size; omega))).trans (HB2.out.mono (by have : W0.heap.size ≤ w1.heap.size := z1; omega))
          · skip
            go_simp
            gi_wp2_with (gi_at_call 19; refine (HL.out _).mono ?_; rintro e w1 ⟨rfl, hb1⟩; have r1 := (hb1.block (w.heap.size + 1) (by show _ < W0.heap.size; omega)).trans r0; have z1 := hb1.size; have HB1 := Lib.hid hb1; clear hb1)
            refine wpAnyIn_take (i := 4) (v := ?v13) hro rfl (by kernel_rfl) (by kernel_rfl) (by kernel_rfl) (fun _ _ _ h => by cases h.1) ⟨Or.inl ⟨by rfl, ?y13⟩, fun _ => rfl⟩ ?r13
            case y13 => intro w; go_simp; try with_reducible rfl
            case r13 =>
              refine wpAnyIn_ready (rs := [0, 5]) (by kernel_rfl) (by simp) (AllReadyIn.cons rfl (fun K hK => ?_) (AllReadyIn.cons rfl (fun K hK => ?_) AllReadyIn.nil))
              · skip
                refine stepIn_load_row rfl 70 _ rfl (w.heap.size + 1) rfl 70 #[.int .i64 v0, .int .i64 v1, .int .i64 v2, .int .i64 v3, .int .i64 v4, .int .i64 v5, .int .i64 v6, .int .i64 v7] (0, 0) _ r1 Try.underlying70 rfl HI ?_
                refine hK _ _ ?_
                clear hK K
                refine wpAnyIn_ready (rs := [5]) (by kernel_rfl) (by simp) (AllReadyIn.cons rfl (fun K hK => ?_) AllReadyIn.nil)
                have c5 : World.cell? w1 ⟨w.heap.size + 1, k0, none⟩ = some (.int .i64 z0) := by
                  have h5 := RowBox.cell (zs := [v0, v1, v2, v3, v4, v5, v6, v7]) (i := k0) r1 (by simpa using hk8)
                  rw [← hz0]
                  exact h5
                go_simp
                refine hK _ _ ?_
                clear hK K
                refine wpAnyIn_ready (rs := [6]) (by kernel_rfl) (by simp) (AllReadyIn.cons rfl (fun K hK => ?_) AllReadyIn.nil)
                go_simp
                gi_wp2_with (gi_at_call 64; refine (HFl.out _).mono ?_; rintro e w2 ⟨rfl, hb2⟩; have r2 := (hb2.block (w.heap.size + 1) (by have : W0.heap.size ≤ w1.heap.size := z1; omega)).trans r1; have HB2 := Lib.hid hb2; clear hb2)
                refine wpAnyIn_ready (rs := [8]) (by kernel_rfl) (by simp) (AllReadyIn.cons rfl (fun K hK => ?_) AllReadyIn.nil)
                go_simp
                refine hK _ _ ?_
                clear hK K
                refine wpAnyIn_done (by kernel_rfl) ?_ _
                refine ⟨rfl, rfl, r2, ?_⟩
                exact (hB0.drew.trans (HB1.out.mono (by show _ ≤ W0.heap.size; omega))).trans (HB2.out.mono (by have : W0.heap.size ≤ w1.heap.size := z1; omega))
              · skip
                have c5 : World.cell? w1 ⟨w.heap.size + 1, k0, none⟩ = some (.int .i64 z0) := by
                  have h5 := RowBox.cell (zs := [v0, v1, v2, v3, v4, v5, v6, v7]) (i := k0) r1 (by simpa using hk8)
                  rw [← hz0]
                  exact h5
                go_simp
                refine hK _ _ ?_
                clear hK K
                refine wpAnyIn_ready (rs := [0]) (by kernel_rfl) (by simp) (AllReadyIn.cons rfl (fun K hK => ?_) AllReadyIn.nil)
                refine stepIn_load_row rfl 70 _ rfl (w.heap.size + 1) rfl 70 #[.int .i64 v0, .int .i64 v1, .int .i64 v2, .int .i64 v3, .int .i64 v4, .int .i64 v5, .int .i64 v6, .int .i64 v7] (0, 0) _ r1 Try.underlying70 rfl HI ?_
                refine hK _ _ ?_
                clear hK K
                refine wpAnyIn_ready (rs := [6]) (by kernel_rfl) (by simp) (AllReadyIn.cons rfl (fun K hK => ?_) AllReadyIn.nil)
                go_simp
                gi_wp2_with (gi_at_call 64; refine (HFl.out _).mono ?_; rintro e w2 ⟨rfl, hb2⟩; have r2 := (hb2.block (w.heap.size + 1) (by have : W0.heap.size ≤ w1.heap.size := z1; omega)).trans r1; have HB2 := Lib.hid hb2; clear hb2)
                refine wpAnyIn_ready (rs := [8]) (by kernel_rfl) (by simp) (AllReadyIn.cons rfl (fun K hK => ?_) AllReadyIn.nil)
                go_simp
                refine hK _ _ ?_
                clear hK K
                refine wpAnyIn_done (by kernel_rfl) ?_ _
                refine ⟨rfl, rfl, r2, ?_⟩
                exact (hB0.drew.trans (HB1.out.mono (by show _ ≤ W0.heap.size; omega))).trans (HB2.out.mono (by have : W0.heap.size ≤ w1.heap.size := z1; omega))
  case h2 =>
    rintro w2 ⟨r0, hB0⟩
    clear hz0
    gi_wp2_with (first | (refine wpListIn_load_row rfl 70 _ rfl (w.heap.size + 1) rfl 70 #[.int .i64 v0, .int .i64 v1, .int .i64 v2, .int .i64 v3, .int .i64 v4, .int .i64 v5, .int .i64 v6, .int .i64 v7] (0, 0) _ r0 Try.underlying70 rfl HI ?_) | (gi_at_call 65; refine (HGr.out _).mono ?_; rintro e w3 ⟨b, kb, rfl, hbb, hkb, mb, hb3⟩; have HMB := Lib.hid mb; have HB3 := Lib.hid hb3; clear mb hb3) | (gi_at_call 54; refine (oneBits_in F (n - 1) h5 hro _ _).mono ?_; rintro e w' ⟨rfl, rfl⟩))
    have z3 : w2.heap.size ≤ w3.heap.size := HB3.out.size
    have z2 : w.heap.size + 1 < w2.heap.size := (Array.getElem?_eq_some_iff.1 r0).1
    have hB2 : Below w.heap.size w (((w3.alloc (.cells #[.map (some b)] 74)).alloc (.cells #[.slice none 0 0] 36)).alloc (.cells #[.int .u32 (X : Int)] 24)) := (((hB0.trans (HB3.out.mono (by omega))).alloc (by omega) _).alloc (by simp; omega) _).alloc (by simp; omega) _
    have rB : RowBox (((w3.alloc (.cells #[.map (some b)] 74)).alloc (.cells #[.slice none 0 0] 36)).alloc (.cells #[.int .u32 (X : Int)] 24)) (w.heap.size + 1) [v0, v1, v2, v3, v4, v5, v6, v7] := ((RowBox.low (zs := [v0, v1, v2, v3, v4, v5, v6, v7]) r0 HB3.out).alloc _).alloc _ |>.alloc _
    have mB : MapG (((w3.alloc (.cells #[.map (some b)] 74)).alloc (.cells #[.slice none 0 0] 36)).alloc (.cells #[.int .u32 (X : Int)] 24)) b kb (grp [v0, v1, v2, v3, v4, v5, v6, v7] (onesTo X 32)) := ((HMB.out.kept (row := none) (World.grownBy_alloc _ _ none) (by simp)).kept (row := none) (World.grownBy_alloc _ _ none) (by simp)).kept (row := none) (World.grownBy_alloc _ _ none) (by simp)
    have bM : Boxed (((w3.alloc (.cells #[.map (some b)] 74)).alloc (.cells #[.slice none 0 0] 36)).alloc (.cells #[.int .u32 (X : Int)] 24)) w3.heap.size 74 (.map (some b)) := ((Boxed.new w3 74 (.map (some b))).alloc _).alloc _
    have bO : Boxed (((w3.alloc (.cells #[.map (some b)] 74)).alloc (.cells #[.slice none 0 0] 36)).alloc (.cells #[.int .u32 (X : Int)] 24)) (w3.heap.size + 1) 36 (.slice none 0 0) := by
      have := Boxed.new (w3.alloc (.cells #[.map (some b)] 74)) 36 (.slice none 0 0)
      simp only [World.size_alloc] at this
      exact this.alloc _
    have bN : Boxed (((w3.alloc (.cells #[.map (some b)] 74)).alloc (.cells #[.slice none 0 0] 36)).alloc (.cells #[.int .u32 (X : Int)] 24)) (w3.heap.size + 1 + 1) 24 (.int .u32 (X : Int)) := by
      have := Boxed.new ((w3.alloc (.cells #[.map (some b)] 74)).alloc (.cells #[.slice none 0 0] 36)) 24 (.int .u32 (X : Int))
      simp only [World.size_alloc] at this
      exact this
    have hb3 : b < w3.heap.size := HMB.out.lt
    have hsz3 : (((w3.alloc (.cells #[.map (some b)] 74)).alloc (.cells #[.slice none 0 0] 36)).alloc (.cells #[.int .u32 (X : Int)] 24)).heap.size = w3.heap.size + 3 := by simp
    obtain ⟨W4, hW4⟩ : ∃ W4, (((w3.alloc (.cells #[.map (some b)] 74)).alloc (.cells #[.slice none 0 0] 36)).alloc (.cells #[.int .u32 (X : Int)] 24)) = W4 := ⟨_, rfl⟩
    rw [hW4] at hB2 rB mB bM bO bN hsz3 ⊢
    generalize hq : w3.heap.size = q at *
    clear hW4 HGr HL HFl heq' hcase HMB HB3 hB0 hq
    have hlen : ([v0, v1, v2, v3, v4, v5, v6, v7] : List Int).length = 8 := rfl
    obtain ⟨zs, hzs⟩ : ∃ zs, ([v0, v1, v2, v3, v4, v5, v6, v7] : List Int) = zs := ⟨_, rfl⟩
    rw [hzs] at rB mB hlen HV
    have HLs : Hid ((onesTo X 32).Pairwise (· < ·)) := ones_sorted _ _
    have HL8 : Hid (∀ j ∈ onesTo X 32, j < 8) := fun j hj => ones_lt_8 HX8.out hj
    refine wpIn_rangeFunc_ownG hro h1 (gf := 70) (lb := #[.pointer (some ⟨q + 1 + 1, 0, none⟩)]) rfl h6 (enters_of Try.func70 (by kernel_rfl) rfl)
      (iterX_stops F (n - 1) h6 hro (by omega) (q + 1 + 1) X HX.out W4 (by omega) bN.cell) keepsBox_t (keepsBox_b (by omega)) (Below.refl _ _) (fun _ => rfl)
      (fun pre W => ((∃ v, Boxed W (q + 1) 36 v ∧ W.ownsRow w.heap.size 24 1 v (grpsTo zs (onesTo X 32) (valsX pre)).length ((ints (grpsTo zs (onesTo X 32) (valsX pre))).map (Value.int .u32)) ∧ v.ownBlock ≠ some (q + 1 + 1)) ∧ (MapG W b kb (grp zs (onesTo X 32)) ∧ (RowBox W (w.heap.size + 1) zs ∧ (Boxed W q 74 (.map (some b)) ∧ Boxed W (q + 1 + 1) 24 (.int .u32 (X : Int)))))) ∧ Below w.heap.size w W)
      (fun _ _ _ => False)
      (OwnFrom.and (OwnFrom.and (Go.Own.from (holdsRow_own w.heap.size (q + 1) 36 24 1 (fun pre => (grpsTo zs (onesTo X 32) (valsX pre)).length) (fun pre => (ints (grpsTo zs (onesTo X 32) (valsX pre))).map (Value.int .u32)) (fun _ v => v.ownBlock ≠ some (q + 1 + 1))) _) (OwnFrom.and (mapG_own _ _ (by omega) (fun _ => kb) (fun _ => grp zs (onesTo X 32))) (OwnFrom.and (Go.Own.from (rowBox_own _ _) _) (OwnFrom.and (Go.Own.from (boxed_own _ _ _) _) (Go.Own.from (boxed_own _ _ _) _))))) (ownFrom_below (Nat.le_refl _) (by omega)))
      (fun _ _ _ _ _ hs _ _ => hs)
      ⟨⟨⟨_, bO, World.ownsRow_nil _ _ _ _, by simp [Value.ownBlock]⟩, mB, rB, bM, bN⟩, hB2⟩
      ?a1 ?assign ?body ?done ?stop
    case assign =>
      intro l x W K hK
      gi_wp2
      exact hK
    case body =>
      rintro l pre x W ⟨⟨⟨v, hv, hrow, hvo⟩, m1, r1, b1, b2⟩, hB⟩ hlt
      have HVO := Lib.hid hvo
      clear hvo
      have hd : 1 ≤ n - 1 - 1 := by omega
      have hx8 : x.val < 8 := bit_lt_8 HX8.out x.2
      have hx8' : (x.val : Int) < 8 := by omega
      have hpl : (grpsTo zs (onesTo X 32) (valsX pre)).length < 32 := Nat.lt_of_le_of_lt (grpsTo_len _ _ _) (by rw [valsX_len]; exact hlt)
      have cm := b1.cell
      have cr : W.cell? ⟨w.heap.size + 1, x.val, none⟩ = some (.int .i64 (at0 zs x.val)) := r1.cell (i := x.val) (by omega)
      have hz := wf_of_range (at0_range HV.out x.val)
      have HLk := Lib.hid ((m1.drew).look hz)
      have hG : grp zs (onesTo X 32) (at0 zs x.val) < 4294967296 := grp_lt fun k hk => by have := HL8.out k hk; omega
      have HLy : Hid (∀ W, CallsIn F (n - 1 - 1 - 1) Try.prog 19 #[.int .u32 ((grp zs (onesTo X 32) (at0 zs x.val) : Nat) : Int)] W fun e w' => e = .returned (.int .i64 (nthV (grp zs (onesTo X 32) (at0 zs x.val)) 0)) ∧ Below W.heap.size W w') := fun W => HLx.out _ W hG
      have hiff := lead_iff (zs := zs) (k := x.val) HLs.out HL8.out
      have HV0 := Lib.hid hv
      have HRow := Lib.hid hrow
      have HM1 := Lib.hid m1
      have HR1 := Lib.hid r1
      have HB1 := Lib.hid b1
      have HB2 := Lib.hid b2
      clear hv hrow m1 r1 b1 b2 hG hz
      by_cases hld : leads zs (onesTo X 32) x.val = true
      · have HST : Hid (grpsTo zs (onesTo X 32) (valsX (pre ++ [x])) = grpsTo zs (onesTo X 32) (valsX pre) ++ [grp zs (onesTo X 32) (at0 zs x.val)]) := by
          show _ = _
          rw [valsX_snoc, grpsTo_hit hld]
        rw [hiff.2 hld] at HLy
        clear hiff hld
        generalize grp zs (onesTo X 32) (at0 zs x.val) = g at *
        generalize at0 zs x.val = z at *
        gi_wp2
        apply cut_at (R := fun w' => w' = W.drew)
        case h =>
          refine wpIn_region_any (by assumption) ?_
          refine wpAny_inRound (by kernel_rfl) _ _ _ _ ?_
          change wpAnyIn _ _ _ _ _ _ _ _ _ (World.drew _)
          refine wpAnyIn_take (i := 1) (v := ?v14) hro rfl (by kernel_rfl) (by kernel_rfl) (by kernel_rfl) (fun _ _ _ h => by cases h.1) ⟨Or.inl ⟨by rfl, ?y14⟩, fun _ => rfl⟩ ?r14
          case y14 => intro w; go_simp; try with_reducible rfl
          case r14 =>
            refine wpAnyIn_take (i := 2) (v := ?v15) hro rfl (by kernel_rfl) (by kernel_rfl) (by kernel_rfl) (fun _ _ _ h => by cases h.1) ⟨Or.inl ⟨by rfl, ?y15⟩, fun _ => rfl⟩ ?r15
            case y15 => intro w; go_simp; try with_reducible rfl
            case r15 =>
              refine wpAnyIn_ready (rs := [0, 3]) (by kernel_rfl) (by simp) (AllReadyIn.cons rfl (fun K hK => ?_) (AllReadyIn.cons rfl (fun K hK => ?_) AllReadyIn.nil))
              · skip
                go_simp
                refine hK _ _ ?_
                clear hK K
                refine wpAnyIn_ready (rs := [3]) (by kernel_rfl) (by simp) (AllReadyIn.cons rfl (fun K hK => ?_) AllReadyIn.nil)
                go_simp
                refine hK _ _ ?_
                clear hK K
                refine wpAnyIn_ready (rs := [4]) (by kernel_rfl) (by simp) (AllReadyIn.cons rfl (fun K hK => ?_) AllReadyIn.nil)
                refine stepIn_lookup rfl _ _ 74 rfl _ HLk.out ?_
                refine hK _ _ ?_
                clear hK K
                refine wpAnyIn_take (i := 5) (v := ?v16) hro rfl (by kernel_rfl) (by kernel_rfl) (by kernel_rfl) (fun _ _ _ h => by cases h.1) ⟨Or.inl ⟨by rfl, ?y16⟩, fun _ => rfl⟩ ?r16
                case y16 => intro w; go_simp; try with_reducible rfl
                case r16 =>
                  refine wpAnyIn_done (by kernel_rfl) ?_ _
                  exact ⟨rfl, rfl, rfl⟩
              · skip
                go_simp
                refine hK _ _ ?_
                clear hK K
                refine wpAnyIn_ready (rs := [0]) (by kernel_rfl) (by simp) (AllReadyIn.cons rfl (fun K hK => ?_) AllReadyIn.nil)
                go_simp
                refine hK _ _ ?_
                clear hK K
                refine wpAnyIn_ready (rs := [4]) (by kernel_rfl) (by simp) (AllReadyIn.cons rfl (fun K hK => ?_) AllReadyIn.nil)
                refine stepIn_lookup rfl _ _ 74 rfl _ HLk.out ?_
                refine hK _ _ ?_
                clear hK K
                refine wpAnyIn_take (i := 5) (v := ?v17) hro rfl (by kernel_rfl) (by kernel_rfl) (by kernel_rfl) (fun _ _ _ h => by cases h.1) ⟨Or.inl ⟨by rfl, ?y17⟩, fun _ => rfl⟩ ?r17
                case y17 => intro w; go_simp; try with_reducible rfl
                case r17 =>
                  refine wpAnyIn_done (by kernel_rfl) ?_ _
                  exact ⟨rfl, rfl, rfl⟩
        case h2 =>
          rintro w' rfl
          gi_wp2_with (first | (gi_at_call 19; refine (CallsIn.inRound l (HLy.out _)).mono ?_; rintro e w5 ⟨rfl, hb50⟩; have hb5 : Below W.heap.size W w5 := ⟨hb50.os, hb50.tape, hb50.output, hb50.size, hb50.block⟩; have hz5 := hb5.size; have hv5 := boxed_low HV0.out hb5; have hc5 := hv5.cell; have HV5 := Lib.hid hv5; have HRow5 := Lib.hid (ownsRow_low HRow.out hb5); have HM5 := Lib.hid (HM1.out.low hb5); have HR5 := Lib.hid (HR1.out.low hb5); have HB15 := Lib.hid (boxed_low HB1.out hb5); have HB25 := Lib.hid (boxed_low HB2.out hb5); have HB5 := Lib.hid hb5; clear hb50 hb5 hv5) | (gi_at_builtin; refine wpListIn_append_at rfl _ _ 36 rfl w.heap.size 24 i0 (.int .u32 0) 1 4 Try.underlying36 hi hz0' hz1 hz2 rfl (by decide) _ _ _ rfl (HRow5.out.alloc _) ⟨w5.heap.size, 0, none⟩ 1 1 [.int .u32 (g : Int)] rfl rfl (cell_one_new _ _ _) (by simp [Value.oneCell']) (by unfold maxLen; omega) (by omega) (by have := hB.size; simp; omega) ?_; intro v' w6 hown' hgrow hat; obtain ⟨g', cap', rfl⟩ := ownsRow_succ hown'; obtain ⟨hv1, hv2, hr2, hk2, hb2⟩ := HV5.out.appended (by decide) HRow5.out (by have := hB.size; omega) (by omega) hown' hgrow; have hc1 := hv1.cell; have hf1 := hv1.frozen))
          have hx3 := ((HB25.out.alloc (.cells #[.int .u32 (g : Int)] 24)).kept hgrow (fun e => HVO.out e.symm)).other (show q + 1 + 1 ≠ q + 1 by omega) (.slice (some ⟨g', 0, none⟩) ((grpsTo zs (onesTo X 32) (valsX pre)).length + 1) cap')
          have hm3 := ((HB15.out.alloc (.cells #[.int .u32 (g : Int)] 24)).kept hgrow (HB15.out.not_row (by decide) HRow5.out)).other (show q ≠ q + 1 by omega) (.slice (some ⟨g', 0, none⟩) ((grpsTo zs (onesTo X 32) (valsX pre)).length + 1) cap')
          have hr3 := ((HR5.out.alloc (.cells #[.int .u32 (g : Int)] 24)).kept hgrow (HR5.out.not_rowU HRow5.out)).other (p := ⟨q + 1, 0, none⟩) (show w.heap.size + 1 ≠ q + 1 by omega) (.slice (some ⟨g', 0, none⟩) ((grpsTo zs (onesTo X 32) (valsX pre)).length + 1) cap')
          have hg3 := ((HM5.out.kept (row := none) (World.grownBy_alloc _ (.cells #[.int .u32 (g : Int)] 24) none) (by simp)).kept hgrow (HM5.out.not_row HRow5.out)).kept (grownBy_setAt _ (q + 1) 0 (.slice (some ⟨g', 0, none⟩) ((grpsTo zs (onesTo X 32) (valsX pre)).length + 1) cap')) (by intro e; injection e with e; omega)
          refine ⟨((keeps_below HB5.out).trans hk2).from _, hx3.cell.trans HB2.out.cell.symm, ⟨⟨_, hv2, ?_, ?_⟩, hg3, hr3, hm3, hx3⟩, (hB.trans (HB5.out.mono hB.size)).trans hb2⟩
          rotate_left
          · rcases hat with hat | hat
            · rw [hat]; exact HVO.out
            · rw [hat]
              have := HB25.out.lt
              intro e
              injection e with e
              simp at e
              omega
          rw [HST.out, List.length_append, ints_snoc, List.map_append]
          exact hr2
      · have HST : Hid (grpsTo zs (onesTo X 32) (valsX (pre ++ [x])) = grpsTo zs (onesTo X 32) (valsX pre)) := by
          show _ = _
          rw [valsX_snoc, grpsTo_miss hld]
        have hne : ¬ nthV (grp zs (onesTo X 32) (at0 zs x.val)) 0 = (x.val : Int) := fun e => hld (hiff.1 e)
        clear hiff hld
        generalize nthV (grp zs (onesTo X 32) (at0 zs x.val)) 0 = y at *
        have hne' : (y == (x.val : Int)) = false := by simpa using hne
        clear hne
        generalize grp zs (onesTo X 32) (at0 zs x.val) = g at *
        generalize at0 zs x.val = z at *
        gi_wp2
        apply cut_at (R := fun w' => w' = W.drew)
        case h =>
          refine wpIn_region_any (by assumption) ?_
          refine wpAny_inRound (by kernel_rfl) _ _ _ _ ?_
          change wpAnyIn _ _ _ _ _ _ _ _ _ (World.drew _)
          refine wpAnyIn_take (i := 1) (v := ?v18) hro rfl (by kernel_rfl) (by kernel_rfl) (by kernel_rfl) (fun _ _ _ h => by cases h.1) ⟨Or.inl ⟨by rfl, ?y18⟩, fun _ => rfl⟩ ?r18
          case y18 => intro w; go_simp; try with_reducible rfl
          case r18 =>
            refine wpAnyIn_take (i := 2) (v := ?v19) hro rfl (by kernel_rfl) (by kernel_rfl) (by kernel_rfl) (fun _ _ _ h => by cases h.1) ⟨Or.inl ⟨by rfl, ?y19⟩, fun _ => rfl⟩ ?r19
            case y19 => intro w; go_simp; try with_reducible rfl
            case r19 =>
              refine wpAnyIn_ready (rs := [0, 3]) (by kernel_rfl) (by simp) (AllReadyIn.cons rfl (fun K hK => ?_) (AllReadyIn.cons rfl (fun K hK => ?_) AllReadyIn.nil))
              · skip
                go_simp
                refine hK _ _ ?_
                clear hK K
                refine wpAnyIn_ready (rs := [3]) (by kernel_rfl) (by simp) (AllReadyIn.cons rfl (fun K hK => ?_) AllReadyIn.nil)
                go_simp
                refine hK _ _ ?_
                clear hK K
                refine wpAnyIn_ready (rs := [4]) (by kernel_rfl) (by simp) (AllReadyIn.cons rfl (fun K hK => ?_) AllReadyIn.nil)
                refine stepIn_lookup rfl _ _ 74 rfl _ HLk.out ?_
                refine hK _ _ ?_
                clear hK K
                refine wpAnyIn_take (i := 5) (v := ?v20) hro rfl (by kernel_rfl) (by kernel_rfl) (by kernel_rfl) (fun _ _ _ h => by cases h.1) ⟨Or.inl ⟨by rfl, ?y20⟩, fun _ => rfl⟩ ?r20
                case y20 => intro w; go_simp; try with_reducible rfl
                case r20 =>
                  refine wpAnyIn_done (by kernel_rfl) ?_ _
                  exact ⟨rfl, rfl, rfl⟩
              · skip
                go_simp
                refine hK _ _ ?_
                clear hK K
                refine wpAnyIn_ready (rs := [0]) (by kernel_rfl) (by simp) (AllReadyIn.cons rfl (fun K hK => ?_) AllReadyIn.nil)
                go_simp
                refine hK _ _ ?_
                clear hK K
                refine wpAnyIn_ready (rs := [4]) (by kernel_rfl) (by simp) (AllReadyIn.cons rfl (fun K hK => ?_) AllReadyIn.nil)
                refine stepIn_lookup rfl _ _ 74 rfl _ HLk.out ?_
                refine hK _ _ ?_
                clear hK K
                refine wpAnyIn_take (i := 5) (v := ?v21) hro rfl (by kernel_rfl) (by kernel_rfl) (by kernel_rfl) (fun _ _ _ h => by cases h.1) ⟨Or.inl ⟨by rfl, ?y21⟩, fun _ => rfl⟩ ?r21
                case y21 => intro w; go_simp; try with_reducible rfl
                case r21 =>
                  refine wpAnyIn_done (by kernel_rfl) ?_ _
                  exact ⟨rfl, rfl, rfl⟩
        case h2 =>
          rintro w' rfl
          gi_wp2_with (gi_at_call 19; refine (CallsIn.inRound l (HLy.out _)).mono ?_; rintro e w5 ⟨rfl, hb50⟩; have hb5 : Below W.heap.size W w5 := ⟨hb50.os, hb50.tape, hb50.output, hb50.size, hb50.block⟩; have HB5 := Lib.hid hb5; clear hb50 hb5)
          refine ⟨(keeps_below HB5.out).from _, keepsBox_below HB2.out.lt HB5.out, ⟨⟨v, boxed_low HV0.out HB5.out, ?_, HVO.out⟩, HM1.out.low HB5.out, HR1.out.low HB5.out, boxed_low HB1.out HB5.out, boxed_low HB2.out HB5.out⟩, hB.trans (HB5.out.mono hB.size)⟩
          rw [HST.out]
          exact ownsRow_low HRow.out HB5.out
    case done =>
      subst hzs
      rintro D ys W hD hS ⟨⟨⟨v, hv, hrow, _⟩, _, _, _, _⟩, hB⟩ hK
      have hc := hv.cell
      have hS' : valsX ys = onesTo X 32 := hS
      rw [hS'] at hrow
      have hrow' : W.ownsRow w.heap.size 24 1 v (groupsL [v0, v1, v2, v3, v4, v5, v6, v7] (onesTo X 32)).length ((ints (groupsL [v0, v1, v2, v3, v4, v5, v6, v7] (onesTo X 32))).map (Value.int .u32)) := hrow
      clear hrow
      obtain ⟨A', c', rfl, ho'⟩ := OwnK.shape hrow'
      gi_wp2
      refine ⟨by simp, .inl ⟨_, _, rfl, run_takeDeferred hK, ?_⟩⟩
      exact ⟨_, results_tmp rfl _ _ _, A', c', rfl, ownsRow_putObj ho' _ hK rfl, hB.trans (belowK_b (w := w) (Nat.le_refl _) W D _ _ (by omega) hK rfl rfl)⟩
    case stop =>
      rintro D c pre W _ _ h _
      exact h.elim

end Go.Proofs.Ytgaphgffchifcaa
