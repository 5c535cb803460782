/- The contract of the program's groups: a map that holds, at every value, the word of the lanes of the mask with this value. -/
import Derived.Test.YtgaphgffchifcaaMapG
import Derived.Test.YtgaphgffchifcaaRoundR
import Derived.Test.YtgaphgffchifcaaILow
import Derived.Carry
namespace Go.Proofs.Ytgaphgffchifcaa
open Go.RowKit Go.Shelf

attribute [local go_sem] Oper.semAt_some

theorem mapG_own {β : Type} (B b : Nat) (hb : b < B) (n : β → Nat) (f : β → Int → Nat) : OwnFrom B (fun s W => MapG W b (n s) (f s)) := fun s X Y row hs hg hrow =>
  hs.kept hg (fun e' => by have := (hrow b e'.symm).1; omega)

/-- A look-up and a store as one step of a region that draws its order. -/
theorem stepIn_lookup {F : Fence} {nF : Nat} {P : Program} {w w' : World} {ops : Array Oper} {o : Oper} {a : Act} {K : Act → World → Prop} {Q : Exit → Act → World → Prop} {E : Prop} (hgd : o.guard = none) (m x : Operand) (t : TypeId)
    (ho : o.op = .lookup t m x false) (v : Value) (hr : (Instr.lookup t (a.eval m) (a.eval x) false).run P w = .ok v w') (h : K (a.put o.dst v) w') :
    if Region.wanted o (yielded ops a.tmps) = true then Oper.wpIn F nF P o a w K Q else E := by
  have hw : Region.wanted o (yielded ops a.tmps) = true := by simp [Region.wanted, hgd]
  rw [if_pos hw]
  unfold Oper.wpIn
  refine ⟨by simp [Oper.about, ho], ?_⟩
  rw [Oper.semAt_plain F _ _ (by rw [ho]; intro c hc'; cases hc')]
  simp [execOp, ho, hr, Result.andThen]
  exact h
theorem stepIn_update {F : Fence} {nF : Nat} {P : Program} {w w' : World} {ops : Array Oper} {o : Oper} {a : Act} {K : Act → World → Prop} {Q : Exit → Act → World → Prop} {E : Prop} (hgd : o.guard = none) (m x y : Operand) (t : TypeId)
    (ho : o.op = .mapUpdate t m x y) (hr : (Instr.mapUpdate t (a.eval m) (a.eval x) (a.eval y)).run P w = .ok () w') (h : K (a.put o.dst undef) w') :
    if Region.wanted o (yielded ops a.tmps) = true then Oper.wpIn F nF P o a w K Q else E := by
  have hw : Region.wanted o (yielded ops a.tmps) = true := by simp [Region.wanted, hgd]
  rw [if_pos hw]
  unfold Oper.wpIn
  refine ⟨by simp [Oper.about, ho], ?_⟩
  rw [Oper.semAt_plain F _ _ (by rw [ho]; intro c hc'; cases hc')]
  simp [execOp, ho, hr, Result.andThen]
  exact h
theorem wf_of_range {z : Int} (h : -9223372036854775808 ≤ z ∧ z < 9223372036854775808) : (Lit.int .i64 z).wf = true := by
  simp [Lit.wf, IntKind.min, IntKind.max, IntKind.signed, IntKind.bits]; omega
theorem at0_range {zs : List Int} (hv : ∀ z ∈ zs, -9223372036854775808 ≤ z ∧ z < 9223372036854775808) (k : Nat) : -9223372036854775808 ≤ at0 zs k ∧ at0 zs k < 9223372036854775808 := by
  unfold at0
  by_cases h : k < zs.length
  · rw [List.getElem?_eq_getElem h, Option.getD_some]; exact hv _ (List.getElem_mem h)
  · rw [List.getElem?_eq_none (by omega)]; simp
theorem keepsBox_grown {B : Nat} {W W' : World} {b : Nat} (hg : W.grownBy W' (some b)) (hB : B < W.heap.size) (hne : B ≠ b) : KeepsBox B W W' :=
  World.cell?_of_block (hg.block B hB (by simp [hne]))

set_option maxRecDepth 100000 in
set_option maxHeartbeats 4000000 in
theorem groups_in (F : Fence) (n X : Nat) (v0 v1 v2 v3 v4 v5 v6 v7 : Int) (w : World) (hX : X < 256) (hv : ∀ z ∈ [v0, v1, v2, v3, v4, v5, v6, v7], -9223372036854775808 ≤ z ∧ z < 9223372036854775808) (h0 : F.fn 65) (h5 : F.fn 54) (h6 : F.fn 70) (hro : F.round = none) (hn : 3 ≤ n) :
    CallsIn F n Try.prog 65 #[.agg #[.int .i64 v0, .int .i64 v1, .int .i64 v2, .int .i64 v3, .int .i64 v4, .int .i64 v5, .int .i64 v6, .int .i64 v7], .int .u32 (X : Int)] w fun e w' => ∃ b k, e = .returned (.map (some b)) ∧ w.heap.size ≤ b ∧ k ≤ 32 ∧ MapG w' b k (grp [v0, v1, v2, v3, v4, v5, v6, v7] (onesTo X 32)) ∧ Below w.heap.size w w' := by
  have hX32 : X < 4294967296 := by omega
  have h1 : 1 ≤ n := by omega
  have HX := Lib.hid hX32
  have HX8 := Lib.hid hX
  have HV := Lib.hid hv
  clear hX hX32 hv
  have hmk := fun W : World => run_makeMap (P := Try.prog) 74 W
  refine callsIn_of_wp_marks Try.func65 rfl h0 ?_ hro
  simp only [Try.ntmps65, List.size_toArray, List.length_cons, List.length_nil, Nat.reduceAdd, Nat.reduceSub, Array.replicate_succ, Array.replicate_zero, List.push_toArray, List.append_toArray, List.nil_append, List.cons_append]
  gi_wp2_with (gi_at_call 54; refine (oneBits_in F (n - 1) h5 hro _ _).mono ?_; rintro e w' ⟨rfl, rfl⟩)
  have hB0 : Below w.heap.size w ((((w.alloc (.cells #[.int .i64 v0, .int .i64 v1, .int .i64 v2, .int .i64 v3, .int .i64 v4, .int .i64 v5, .int .i64 v6, .int .i64 v7] 70)).alloc (.map #[] 0)).alloc (.cells #[.map (some (w.heap.size + 1))] 74)).alloc (.cells #[.int .u32 (X : Int)] 24)) := ((((Below.refl _ w).alloc (Nat.le_refl _) _).alloc (by simp) _).alloc (by simp; omega) _).alloc (by simp; omega) _
  have rB : RowBox ((((w.alloc (.cells #[.int .i64 v0, .int .i64 v1, .int .i64 v2, .int .i64 v3, .int .i64 v4, .int .i64 v5, .int .i64 v6, .int .i64 v7] 70)).alloc (.map #[] 0)).alloc (.cells #[.map (some (w.heap.size + 1))] 74)).alloc (.cells #[.int .u32 (X : Int)] 24)) w.heap.size [v0, v1, v2, v3, v4, v5, v6, v7] := (((RowBox.new w [v0, v1, v2, v3, v4, v5, v6, v7]).alloc _).alloc _).alloc _
  have mB : MapG ((((w.alloc (.cells #[.int .i64 v0, .int .i64 v1, .int .i64 v2, .int .i64 v3, .int .i64 v4, .int .i64 v5, .int .i64 v6, .int .i64 v7] 70)).alloc (.map #[] 0)).alloc (.cells #[.map (some (w.heap.size + 1))] 74)).alloc (.cells #[.int .u32 (X : Int)] 24)) (w.heap.size + 1) 0 (fun _ => 0) := by
    have := MapG.made (w.alloc (.cells #[.int .i64 v0, .int .i64 v1, .int .i64 v2, .int .i64 v3, .int .i64 v4, .int .i64 v5, .int .i64 v6, .int .i64 v7] 70))
    rw [World.size_alloc] at this
    exact (this.kept (row := none) (World.grownBy_alloc _ _ none) (by simp)).kept (row := none) (World.grownBy_alloc _ _ none) (by simp)
  have bM : Boxed ((((w.alloc (.cells #[.int .i64 v0, .int .i64 v1, .int .i64 v2, .int .i64 v3, .int .i64 v4, .int .i64 v5, .int .i64 v6, .int .i64 v7] 70)).alloc (.map #[] 0)).alloc (.cells #[.map (some (w.heap.size + 1))] 74)).alloc (.cells #[.int .u32 (X : Int)] 24)) (w.heap.size + 1 + 1) 74 (.map (some (w.heap.size + 1))) := by
    have := Boxed.new ((w.alloc (.cells #[.int .i64 v0, .int .i64 v1, .int .i64 v2, .int .i64 v3, .int .i64 v4, .int .i64 v5, .int .i64 v6, .int .i64 v7] 70)).alloc (.map #[] 0)) 74 (.map (some (w.heap.size + 1)))
    simp only [World.size_alloc] at this
    exact this.alloc _
  have bN : Boxed ((((w.alloc (.cells #[.int .i64 v0, .int .i64 v1, .int .i64 v2, .int .i64 v3, .int .i64 v4, .int .i64 v5, .int .i64 v6, .int .i64 v7] 70)).alloc (.map #[] 0)).alloc (.cells #[.map (some (w.heap.size + 1))] 74)).alloc (.cells #[.int .u32 (X : Int)] 24)) (w.heap.size + 1 + 1 + 1) 24 (.int .u32 (X : Int)) := by
    have := Boxed.new (((w.alloc (.cells #[.int .i64 v0, .int .i64 v1, .int .i64 v2, .int .i64 v3, .int .i64 v4, .int .i64 v5, .int .i64 v6, .int .i64 v7] 70)).alloc (.map #[] 0)).alloc (.cells #[.map (some (w.heap.size + 1))] 74)) 24 (.int .u32 (X : Int))
    simp only [World.size_alloc] at this
    exact this
  have hsz : ((((w.alloc (.cells #[.int .i64 v0, .int .i64 v1, .int .i64 v2, .int .i64 v3, .int .i64 v4, .int .i64 v5, .int .i64 v6, .int .i64 v7] 70)).alloc (.map #[] 0)).alloc (.cells #[.map (some (w.heap.size + 1))] 74)).alloc (.cells #[.int .u32 (X : Int)] 24)).heap.size = w.heap.size + 4 := by simp
  obtain ⟨W0, hW0⟩ : ∃ W0, ((((w.alloc (.cells #[.int .i64 v0, .int .i64 v1, .int .i64 v2, .int .i64 v3, .int .i64 v4, .int .i64 v5, .int .i64 v6, .int .i64 v7] 70)).alloc (.map #[] 0)).alloc (.cells #[.map (some (w.heap.size + 1))] 74)).alloc (.cells #[.int .u32 (X : Int)] 24)) = W0 := ⟨_, rfl⟩
  rw [hW0] at hB0 rB mB bM bN hsz ⊢
  clear hW0
  have hlen : ([v0, v1, v2, v3, v4, v5, v6, v7] : List Int).length = 8 := rfl
  obtain ⟨zs, hzs⟩ : ∃ zs, ([v0, v1, v2, v3, v4, v5, v6, v7] : List Int) = zs := ⟨_, rfl⟩
  rw [hzs] at rB hlen HV
  refine wpIn_rangeFunc_ownG hro h1 (gf := 70) (lb := #[.pointer (some ⟨w.heap.size + 1 + 1 + 1, 0, none⟩)]) rfl h6 (enters_of Try.func70 (by kernel_rfl) rfl)
    (iterX_stops F (n - 1) h6 hro (by omega) (w.heap.size + 1 + 1 + 1) X HX.out W0 (by omega) bN.cell) keepsBox_t (keepsBox_b (by omega)) (Below.refl _ _) (fun _ => rfl)
    (fun pre W => (MapG W (w.heap.size + 1) (valsX pre).length (grp zs (valsX pre)) ∧ (RowBox W w.heap.size zs ∧ (Boxed W (w.heap.size + 1 + 1) 74 (.map (some (w.heap.size + 1))) ∧ Boxed W (w.heap.size + 1 + 1 + 1) 24 (.int .u32 (X : Int))))) ∧ Below w.heap.size w W)
    (fun _ _ _ => False)
    (OwnFrom.and (OwnFrom.and (mapG_own _ _ (by omega) (fun pre => (valsX pre).length) (fun pre => grp zs (valsX pre))) (OwnFrom.and (Go.Own.from (rowBox_own _ _) _) (OwnFrom.and (Go.Own.from (boxed_own _ _ _) _) (Go.Own.from (boxed_own _ _ _) _)))) (ownFrom_below (Nat.le_refl _) (by omega)))
    (fun _ _ _ _ _ hs _ _ => hs)
    ⟨⟨mB, rB, bM, bN⟩, hB0⟩
    ?a1 ?assign ?body ?done ?stop
  case assign =>
    intro l x W K hK
    gi_wp2
    exact hK
  case body =>
    rintro l pre x W ⟨⟨m1, r1, b1, b2⟩, hB⟩ hlt
    have hmx := mixed
    have hx8 : x.val < 8 := bit_lt_8 HX8.out x.2
    have hx8' : (x.val : Int) < 8 := by omega
    have hpl : (valsX pre).length < 32 := by rw [valsX_len]; exact hlt
    have hp8 : ∀ k ∈ valsX pre, k < 8 := by
      intro k hk
      obtain ⟨y, _, rfl⟩ := List.mem_map.1 hk
      exact bit_lt_8 HX8.out y.2
    have cm := b1.cell
    have cr : W.cell? ⟨w.heap.size, x.val, none⟩ = some (.int .i64 (at0 zs x.val)) := r1.cell (i := x.val) (by omega)
    have hz := wf_of_range (at0_range HV.out x.val)
    have hG : grp zs (valsX pre) (at0 zs x.val) < 4294967296 := grp_lt fun k hk => by have := hp8 k hk; omega
    have h2 : 2 ^ x.val < 4294967296 := Nat.pow_lt_pow_right (by omega) (show x.val < 32 by omega)
    have HL := Lib.hid ((m1.drew).look hz)
    have HN : Hid (MapG W.drew (w.heap.size + 1) (valsX pre).length (grp zs (valsX pre))) := m1.drew
    have HR := Lib.hid r1
    have HC := Lib.hid b1
    have HD := Lib.hid b2
    have HH : Hid (grp zs (valsX (pre ++ [x])) (at0 zs x.val) = grp zs (valsX pre) (at0 zs x.val) ||| 2 ^ x.val) := by
      show _ = _
      rw [valsX_snoc, grp_hit]
    have HO : Hid (∀ z, at0 zs x.val ≠ z → grp zs (valsX (pre ++ [x])) z = grp zs (valsX pre) z) := fun z hz => by rw [valsX_snoc, grp_miss hz]
    have hor := or_bit hG (show x.val < 32 by omega)
    rw [← IntKind.wrap_u32] at hor
    have HY : Hid (grp zs (valsX pre) (at0 zs x.val) ||| 2 ^ x.val < 4294967296) := Nat.or_lt_two_pow (n := 32) hG h2
    clear m1 r1 b1 b2
    generalize grp zs (valsX pre) (at0 zs x.val) = ga at *
    generalize at0 zs x.val = z at *
    gi_wp2
    refine wpIn_region_any (by assumption) ?_
    refine wpAny_inRound (by kernel_rfl) _ _ _ _ ?_
    change wpAnyIn _ _ _ _ _ _ _ _ _ (World.drew _)
    refine wpAnyIn_take (i := 1) (v := ?v1) hro rfl (by kernel_rfl) (by kernel_rfl) (by kernel_rfl) (fun _ _ _ h => h) ⟨Or.inl ⟨by rfl, ?y1⟩, fun _ => rfl⟩ ?r1
    case y1 => intro w; go_simp; try with_reducible rfl
    case r1 =>
      refine wpAnyIn_take (i := 2) (v := ?v2) hro rfl (by kernel_rfl) (by kernel_rfl) (by kernel_rfl) (fun _ _ _ h => h) ⟨Or.inl ⟨by rfl, ?y2⟩, fun _ => rfl⟩ ?r2
      case y2 => intro w; go_simp; try with_reducible rfl
      case r2 =>
        refine wpAnyIn_take (i := 5) (v := ?v3) hro rfl (by kernel_rfl) (by kernel_rfl) (by kernel_rfl) (fun _ _ _ h => h) ⟨Or.inl ⟨by rfl, ?y3⟩, fun _ => rfl⟩ ?r3
        case y3 => intro w; go_simp; try with_reducible rfl
        case r3 =>
          refine wpAnyIn_take (i := 6) (v := ?v4) hro rfl (by kernel_rfl) (by kernel_rfl) (by kernel_rfl) (fun _ _ _ h => h) ⟨Or.inl ⟨by rfl, ?y4⟩, fun _ => rfl⟩ ?r4
          case y4 => intro w; go_simp; try with_reducible rfl
          case r4 =>
            refine wpAnyIn_ready (rs := [0, 3]) (by kernel_rfl) (by simp) (AllReadyIn.cons rfl (fun K hK => ?_) (AllReadyIn.cons rfl (fun K hK => ?_) AllReadyIn.nil))
            · skip
              go_simp
              refine hK _ _ ?_
              clear hK K
              refine wpAnyIn_ready (rs := [3]) (by kernel_rfl) (by simp) (AllReadyIn.cons rfl (fun K hK => ?_) AllReadyIn.nil)
              go_simp
              refine hK _ _ ?_
              clear hK K
              refine wpAnyIn_ready (rs := [4]) (by kernel_rfl) (by simp) (AllReadyIn.cons rfl (fun K hK => ?_) AllReadyIn.nil)
              refine stepIn_lookup rfl _ _ 74 rfl _ HL.out ?_
              refine hK _ _ ?_
              clear hK K
              refine wpAnyIn_take (i := 7) (v := ?v5) hro rfl (by kernel_rfl) (by kernel_rfl) (by kernel_rfl) (fun _ _ _ h => h) ⟨Or.inl ⟨by rfl, ?y5⟩, fun _ => rfl⟩ ?r5
              case y5 => intro w; go_simp; try with_reducible rfl
              case r5 =>
                refine wpAnyIn_ready (rs := [8]) (by kernel_rfl) (by simp) (AllReadyIn.cons rfl (fun K hK => ?_) AllReadyIn.nil)
                obtain ⟨W2, hr2, m2, g2⟩ := HN.out.store (by unfold maxLen; omega) hz HY.out
                refine stepIn_update rfl _ _ _ 74 rfl hr2 ?_
                refine hK _ _ ?_
                clear hK K
                refine wpAnyIn_done (by kernel_rfl) ?_ _
                gi_wp2
                have g3 : W.grownBy W2 (some (w.heap.size + 1)) := ⟨g2.os, g2.tape, g2.output, g2.size, g2.block⟩
                have hw2 := HD.out.lt
                refine ⟨KeepsFrom.of_grownBy g3 (fun j e => by injection e with e; omega), keepsBox_grown g3 hw2 (by omega), ⟨?_, HR.out.kept g3 (by intro e; injection e with e; omega), HC.out.kept g3 (by intro e; injection e with e; omega), HD.out.kept g3 (by intro e; injection e with e; omega)⟩, hB.grown g3 hB.size (fun j e => by injection e with e; omega)⟩
                have hf : (fun y => if y = z then ga ||| 2 ^ x.val else grp zs (valsX pre) y) = grp zs (valsX (pre ++ [x])) := by
                  funext y
                  by_cases e : y = z
                  · rw [if_pos e, e, HH.out]
                  · rw [if_neg e, HO.out y (fun h => e h.symm)]
                rw [hf] at m2
                rw [show (valsX (pre ++ [x])).length = (valsX pre).length + 1 by rw [valsX_snoc]; simp]
                exact m2
            · skip
              go_simp
              refine hK _ _ ?_
              clear hK K
              refine wpAnyIn_ready (rs := [0]) (by kernel_rfl) (by simp) (AllReadyIn.cons rfl (fun K hK => ?_) AllReadyIn.nil)
              go_simp
              refine hK _ _ ?_
              clear hK K
              refine wpAnyIn_ready (rs := [4]) (by kernel_rfl) (by simp) (AllReadyIn.cons rfl (fun K hK => ?_) AllReadyIn.nil)
              refine stepIn_lookup rfl _ _ 74 rfl _ HL.out ?_
              refine hK _ _ ?_
              clear hK K
              refine wpAnyIn_take (i := 7) (v := ?v6) hro rfl (by kernel_rfl) (by kernel_rfl) (by kernel_rfl) (fun _ _ _ h => h) ⟨Or.inl ⟨by rfl, ?y6⟩, fun _ => rfl⟩ ?r6
              case y6 => intro w; go_simp; try with_reducible rfl
              case r6 =>
                refine wpAnyIn_ready (rs := [8]) (by kernel_rfl) (by simp) (AllReadyIn.cons rfl (fun K hK => ?_) AllReadyIn.nil)
                obtain ⟨W2, hr2, m2, g2⟩ := HN.out.store (by unfold maxLen; omega) hz HY.out
                refine stepIn_update rfl _ _ _ 74 rfl hr2 ?_
                refine hK _ _ ?_
                clear hK K
                refine wpAnyIn_done (by kernel_rfl) ?_ _
                gi_wp2
                have g3 : W.grownBy W2 (some (w.heap.size + 1)) := ⟨g2.os, g2.tape, g2.output, g2.size, g2.block⟩
                have hw2 := HD.out.lt
                refine ⟨KeepsFrom.of_grownBy g3 (fun j e => by injection e with e; omega), keepsBox_grown g3 hw2 (by omega), ⟨?_, HR.out.kept g3 (by intro e; injection e with e; omega), HC.out.kept g3 (by intro e; injection e with e; omega), HD.out.kept g3 (by intro e; injection e with e; omega)⟩, hB.grown g3 hB.size (fun j e => by injection e with e; omega)⟩
                have hf : (fun y => if y = z then ga ||| 2 ^ x.val else grp zs (valsX pre) y) = grp zs (valsX (pre ++ [x])) := by
                  funext y
                  by_cases e : y = z
                  · rw [if_pos e, e, HH.out]
                  · rw [if_neg e, HO.out y (fun h => e h.symm)]
                rw [hf] at m2
                rw [show (valsX (pre ++ [x])).length = (valsX pre).length + 1 by rw [valsX_snoc]; simp]
                exact m2
  case done =>
    subst hzs
    rintro D ys W hD hS ⟨⟨m1, _, b1, _⟩, hB⟩ hK
    have hS' : valsX ys = onesTo X 32 := hS
    rw [hS'] at m1
    have hc := b1.cell
    have hl := onesTo_len X 32
    gi_wp2
    refine ⟨by simp, .inl ⟨_, _, rfl, run_takeDeferred hK, ?_⟩⟩
    exact ⟨_, results_tmp rfl _ _ _, _, _, rfl, by omega, hl, m1.kept (grownBy_putObj' _ _ _) (by intro e; injection e with e; omega), hB.trans (belowK_b (w := w) (Nat.le_refl _) W D _ _ (by omega) hK rfl rfl)⟩
  case stop =>
    rintro D c pre W _ _ h _
    exact h.elim

end Go.Proofs.Ytgaphgffchifcaa
