/- The contract of the program's filled: the row with one value in the lanes of the mask. -/
import Derived.Test.YtgaphgffchifcaaRowBox
import Derived.Test.YtgaphgffchifcaaGroupMath
namespace Go.Proofs.Ytgaphgffchifcaa
open Go.RowKit Go.Shelf

attribute [local go_sem] Oper.semAt_some

theorem wpListIn_load_row {F : Fence} {n : Nat} {P : Program} {ops : Array Oper} {rest : List Oper} {o : Oper} {a : Act} {w : World} {Q : Exit → Act → World → Prop} (hgd : o.guard = none) (ty : TypeId) (x : Operand) (ho : o.op = .load ty x)
    (g : Nat) (hx : a.eval x = .pointer (some ⟨g, 0, none⟩)) (t : TypeId) (cs : Array Value) (fr : Nat × Nat) (d : TypeDesc) (hg : w.heap[g]? = some (.cells cs t fr))
    (hu : P.underlying ty = some d) (hd : (match d with | .struct _ | .array _ _ => true | _ => false) = true) (hi : (P.info? ty).map (·.size) = some cs.size)
    (h : wpListIn F n P ops Q rest (a.put o.dst (.agg cs)) w) : wpListIn F n P ops Q (o :: rest) a w := by
  refine wpListIn_plain hgd fun K hK => ?_
  unfold Oper.wpIn
  refine ⟨by simp [Oper.about, ho], ?_⟩
  rw [Oper.semAt_plain F _ _ (by rw [ho]; intro c hc'; cases hc')]
  simp only [execOp, ho, hx, Instr.loadAt, Instr.sureAddr, Sem.run_bind, Sem.run_pure, Result.andThen_ok, run_loadVar_row w g t ty cs fr d hg hu hd hi]
  exact hK _ _ h
theorem wpListIn_store_row {F : Fence} {n : Nat} {P : Program} {ops : Array Oper} {rest : List Oper} {o : Oper} {a : Act} {w : World} {Q : Exit → Act → World → Prop} (hgd : o.guard = none) (ty : TypeId) (x y : Operand) (ho : o.op = .store ty x y)
    (g : Nat) (cells : Array Value) (hx : a.eval x = .pointer (some ⟨g, 0, none⟩)) (hy : a.eval y = .agg cells)
    (t : TypeId) (old : Array Value) (hg : w.heap[g]? = some (.cells old t (0, 0))) (hi : (P.info? ty).map (·.size) = some cells.size)
    (hold : old.size = cells.size) (h1 : cells.all (·.oneCell') = true)
    (h : wpListIn F n P ops Q rest (a.put o.dst undef) (w.setRow g cells)) : wpListIn F n P ops Q (o :: rest) a w := by
  refine wpListIn_plain hgd fun K hK => ?_
  unfold Oper.wpIn
  refine ⟨by simp [Oper.about, ho], ?_⟩
  rw [Oper.semAt_plain F _ _ (by rw [ho]; intro c hc'; cases hc')]
  simp only [execOp, ho, hx, hy, Instr.storeAt, Instr.sureAddr, Sem.run_bind, Sem.run_pure, Result.andThen_ok, run_storeVar_row w g t ty old cells hg hi hold h1]
  exact hK _ _ h
theorem row_size : (Try.prog.info? 70).map (·.size) = some 8 := by kernel_rfl
theorem row_info {zs : List Int} (h : zs.length = 8) : (Try.prog.info? 70).map (·.size) = some (rowC zs).size := by
  have : (rowC zs).size = 8 := by simp [rowC, h]
  rw [this]; exact row_size
theorem row_one (zs : List Int) : (rowC zs).all (·.oneCell') = true := by
  simp [rowC, Value.oneCell']

set_option maxRecDepth 100000 in
set_option maxHeartbeats 4000000 in
theorem filled_in (F : Fence) (n X : Nat) (v0 v1 v2 v3 v4 v5 v6 v7 v : Int) (w : World) (hX : X < 256) (h0 : F.fn 64) (h5 : F.fn 54) (h6 : F.fn 70) (hro : F.round = none) (hn : 3 ≤ n) :
    CallsIn F n Try.prog 64 #[.agg #[.int .i64 v0, .int .i64 v1, .int .i64 v2, .int .i64 v3, .int .i64 v4, .int .i64 v5, .int .i64 v6, .int .i64 v7], .int .u32 (X : Int), .int .i64 v] w fun e w' => e = .returned (.agg (rowC (fillL v [v0, v1, v2, v3, v4, v5, v6, v7] (onesTo X 32)))) ∧ Below w.heap.size w w' := by
  have hX32 : X < 4294967296 := by omega
  have h1 : 1 ≤ n := by omega
  have HX := Lib.hid hX32
  have HX8 := Lib.hid hX
  clear hX hX32
  refine callsIn_of_wp_marks Try.func64 rfl h0 ?_ hro
  simp only [Try.ntmps64, List.size_toArray, List.length_cons, List.length_nil, Nat.reduceAdd, Nat.reduceSub, Array.replicate_succ, Array.replicate_zero, List.push_toArray, List.append_toArray, List.nil_append, List.cons_append]
  gi_wp2_with (gi_at_call 54; refine (oneBits_in F (n - 1) h5 hro _ _).mono ?_; rintro e w' ⟨rfl, rfl⟩)
  have hB0 : Below w.heap.size w ((((w.alloc (.cells #[.int .i64 v0, .int .i64 v1, .int .i64 v2, .int .i64 v3, .int .i64 v4, .int .i64 v5, .int .i64 v6, .int .i64 v7] 70)).alloc (.cells #[.int .i64 v] 3)).alloc (.cells #[.int .i64 0, .int .i64 0, .int .i64 0, .int .i64 0, .int .i64 0, .int .i64 0, .int .i64 0, .int .i64 0] 70)).alloc (.cells #[.int .u32 (X : Int)] 24)) := ((((Below.refl _ w).alloc (Nat.le_refl _) _).alloc (by simp) _).alloc (by simp; omega) _).alloc (by simp; omega) _
  have rB : RowBox ((((w.alloc (.cells #[.int .i64 v0, .int .i64 v1, .int .i64 v2, .int .i64 v3, .int .i64 v4, .int .i64 v5, .int .i64 v6, .int .i64 v7] 70)).alloc (.cells #[.int .i64 v] 3)).alloc (.cells #[.int .i64 0, .int .i64 0, .int .i64 0, .int .i64 0, .int .i64 0, .int .i64 0, .int .i64 0, .int .i64 0] 70)).alloc (.cells #[.int .u32 (X : Int)] 24)) w.heap.size [v0, v1, v2, v3, v4, v5, v6, v7] := (((RowBox.new w [v0, v1, v2, v3, v4, v5, v6, v7]).alloc _).alloc _).alloc _
  have bV : Boxed ((((w.alloc (.cells #[.int .i64 v0, .int .i64 v1, .int .i64 v2, .int .i64 v3, .int .i64 v4, .int .i64 v5, .int .i64 v6, .int .i64 v7] 70)).alloc (.cells #[.int .i64 v] 3)).alloc (.cells #[.int .i64 0, .int .i64 0, .int .i64 0, .int .i64 0, .int .i64 0, .int .i64 0, .int .i64 0, .int .i64 0] 70)).alloc (.cells #[.int .u32 (X : Int)] 24)) (w.heap.size + 1) 3 (.int .i64 v) := by
    have := Boxed.new (w.alloc (.cells #[.int .i64 v0, .int .i64 v1, .int .i64 v2, .int .i64 v3, .int .i64 v4, .int .i64 v5, .int .i64 v6, .int .i64 v7] 70)) 3 (.int .i64 v)
    simp only [World.size_alloc] at this
    exact (this.alloc _).alloc _
  have rZ : RowBox ((((w.alloc (.cells #[.int .i64 v0, .int .i64 v1, .int .i64 v2, .int .i64 v3, .int .i64 v4, .int .i64 v5, .int .i64 v6, .int .i64 v7] 70)).alloc (.cells #[.int .i64 v] 3)).alloc (.cells #[.int .i64 0, .int .i64 0, .int .i64 0, .int .i64 0, .int .i64 0, .int .i64 0, .int .i64 0, .int .i64 0] 70)).alloc (.cells #[.int .u32 (X : Int)] 24)) (w.heap.size + 1 + 1) [0, 0, 0, 0, 0, 0, 0, 0] := by
    have := RowBox.new ((w.alloc (.cells #[.int .i64 v0, .int .i64 v1, .int .i64 v2, .int .i64 v3, .int .i64 v4, .int .i64 v5, .int .i64 v6, .int .i64 v7] 70)).alloc (.cells #[.int .i64 v] 3)) [0, 0, 0, 0, 0, 0, 0, 0]
    simp only [World.size_alloc] at this
    exact this.alloc _
  have bN : Boxed ((((w.alloc (.cells #[.int .i64 v0, .int .i64 v1, .int .i64 v2, .int .i64 v3, .int .i64 v4, .int .i64 v5, .int .i64 v6, .int .i64 v7] 70)).alloc (.cells #[.int .i64 v] 3)).alloc (.cells #[.int .i64 0, .int .i64 0, .int .i64 0, .int .i64 0, .int .i64 0, .int .i64 0, .int .i64 0, .int .i64 0] 70)).alloc (.cells #[.int .u32 (X : Int)] 24)) (w.heap.size + 1 + 1 + 1) 24 (.int .u32 (X : Int)) := by
    have := Boxed.new (((w.alloc (.cells #[.int .i64 v0, .int .i64 v1, .int .i64 v2, .int .i64 v3, .int .i64 v4, .int .i64 v5, .int .i64 v6, .int .i64 v7] 70)).alloc (.cells #[.int .i64 v] 3)).alloc (.cells #[.int .i64 0, .int .i64 0, .int .i64 0, .int .i64 0, .int .i64 0, .int .i64 0, .int .i64 0, .int .i64 0] 70)) 24 (.int .u32 (X : Int))
    simp only [World.size_alloc] at this
    exact this
  have hsz : ((((w.alloc (.cells #[.int .i64 v0, .int .i64 v1, .int .i64 v2, .int .i64 v3, .int .i64 v4, .int .i64 v5, .int .i64 v6, .int .i64 v7] 70)).alloc (.cells #[.int .i64 v] 3)).alloc (.cells #[.int .i64 0, .int .i64 0, .int .i64 0, .int .i64 0, .int .i64 0, .int .i64 0, .int .i64 0, .int .i64 0] 70)).alloc (.cells #[.int .u32 (X : Int)] 24)).heap.size = w.heap.size + 4 := by simp
  obtain ⟨W0, hW0⟩ : ∃ W0, ((((w.alloc (.cells #[.int .i64 v0, .int .i64 v1, .int .i64 v2, .int .i64 v3, .int .i64 v4, .int .i64 v5, .int .i64 v6, .int .i64 v7] 70)).alloc (.cells #[.int .i64 v] 3)).alloc (.cells #[.int .i64 0, .int .i64 0, .int .i64 0, .int .i64 0, .int .i64 0, .int .i64 0, .int .i64 0, .int .i64 0] 70)).alloc (.cells #[.int .u32 (X : Int)] 24)) = W0 := ⟨_, rfl⟩
  rw [hW0] at hB0 rB bV rZ bN hsz ⊢
  clear hW0
  have hlen : ([v0, v1, v2, v3, v4, v5, v6, v7] : List Int).length = 8 := rfl
  obtain ⟨zs, hzs⟩ : ∃ zs, ([v0, v1, v2, v3, v4, v5, v6, v7] : List Int) = zs := ⟨_, rfl⟩
  rw [hzs] at rB hlen
  refine wpIn_rangeFunc_ownF hro h1 (gf := 70) (lb := #[.pointer (some ⟨w.heap.size + 1 + 1 + 1, 0, none⟩)]) rfl h6 (enters_of Try.func70 (by kernel_rfl) rfl)
    (iterX_stops F (n - 1) h6 hro (by omega) (w.heap.size + 1 + 1 + 1) X HX.out W0 (by omega) bN.cell) keepsBox_t (keepsBox_b (by omega)) (Below.refl _ _) (fun _ => rfl)
    (fun pre W => (RowBox W w.heap.size (fillL v zs (valsX pre)) ∧ (Boxed W (w.heap.size + 1) 3 (.int .i64 v) ∧ RowBox W (w.heap.size + 1 + 1) [0, 0, 0, 0, 0, 0, 0, 0])) ∧ Below w.heap.size w W)
    (fun _ _ _ => False)
    (OwnFrom.and (OwnFrom.and (Go.Own.from (rowBox_own _ _) _) (OwnFrom.and (Go.Own.from (boxed_own _ _ _) _) (Go.Own.from (rowBox_own _ _) _))) (ownFrom_below (Nat.le_refl _) (by omega)))
    (fun _ _ _ _ _ hs _ _ => hs)
    ⟨⟨rB, bV, rZ⟩, hB0⟩
    ?a1 ?assign ?body ?done ?stop
  case assign =>
    intro l x W K hK
    gi_wp2
    exact hK
  case body =>
    rintro l pre x W ⟨⟨r1, b1, r2⟩, hB⟩ hlt
    have hx8 : x.val < 8 := bit_lt_8 HX8.out x.2
    have hx8' : (x.val : Int) < 8 := by omega
    have hln : (fillL v zs (valsX pre)).length = 8 := by rw [fillL_len, hlen]
    have HST : Hid (fillL v zs (valsX (pre ++ [x])) = (fillL v zs (valsX pre)).set x.val v) := by
      show _ = _
      rw [valsX_snoc, fillL_snoc]
    have cb := b1.cell
    have cr := r1.cell (i := x.val) (by omega)
    have fr := r1.frozen x.val
    have R1 := Lib.hid r1
    have R2 := Lib.hid r2
    have B1 := Lib.hid b1
    generalize fillL v zs (valsX pre) = rr at *
    clear r1 r2 b1
    gi_wp2
    refine ⟨KeepsOthers.setCell _ _ _, keepsBox_set _ (by omega) _ _, ⟨?_, B1.out.kept (grownBy_setAt _ _ _ _) (by intro e; injection e with e; omega), R2.out.kept (grownBy_setAt _ _ _ _) (by intro e; injection e with e; omega)⟩, hB.setCell (p := ⟨w.heap.size, x.val, none⟩) (Nat.le_refl _) _⟩
    rw [HST.out]
    exact R1.out.store _ _
  case done =>
    subst hzs
    rintro D ys W hD hS ⟨⟨r1, _, r2⟩, hB⟩ hK
    have hS' : valsX ys = onesTo X 32 := hS
    rw [hS'] at r1
    have hln : (fillL v [v0, v1, v2, v3, v4, v5, v6, v7] (onesTo X 32)).length = 8 := by rw [fillL_len]; rfl
    obtain ⟨rr, hrr⟩ : ∃ rr, fillL v [v0, v1, v2, v3, v4, v5, v6, v7] (onesTo X 32) = rr := ⟨_, rfl⟩
    rw [hrr] at r1 hln
    have hs8 : (rowC [0, 0, 0, 0, 0, 0, 0, 0]).size = (rowC rr).size := by simp [rowC, hln]
    have HI := row_info hln
    gi_wp2_with (first | (refine wpListIn_load_row rfl 70 _ rfl w.heap.size rfl 70 (rowC rr) (0, 0) _ r1 Try.underlying70 rfl HI ?_) | (refine wpListIn_store_row rfl 70 _ _ rfl (w.heap.size + 1 + 1) (rowC rr) rfl rfl 70 (rowC [0, 0, 0, 0, 0, 0, 0, 0]) r2 HI hs8 (row_one rr) ?_))
    have hK' : (W.setRow (w.heap.size + 1 + 1) (rowC rr)).heap[D]? = some (.deferred (some [])) := (setRow_other W (w.heap.size + 1 + 1) D _ (by omega)).trans hK
    have hB' : Below w.heap.size w (W.setRow (w.heap.size + 1 + 1) (rowC rr)) := ⟨hB.os, hB.tape, hB.output, by simpa using hB.size, fun k hk => (setRow_other W _ k _ (by omega)).trans (hB.block k hk)⟩
    have hres : Try.f64.results = #[.cell 6 70] := by kernel_rfl
    refine ⟨by simp, .inl ⟨_, _, rfl, run_takeDeferred hK', ?_⟩⟩
    exact ⟨.agg (rowC rr), results_cell_row hres _ _ (w.heap.size + 1 + 1) 70 (rowC rr) (0, 0) _ rfl ((World.putObj_heap_other (by omega)).trans (setRow_heap W (w.heap.size + 1 + 1) _ (rowC rr) 70 (0, 0) r2)) Try.underlying70 rfl HI, by rw [hrr], hB'.trans (belowK_b (w := w) (Nat.le_refl _) _ D _ _ (by omega) hK' rfl rfl)⟩
  case stop =>
    rintro D c pre W _ _ h _
    exact h.elim

end Go.Proofs.Ytgaphgffchifcaa
