/- The contracts of the program's Groups and GroupOf: the groups of the lanes of a mask, in memory of its own. -/
import Derived.Test.YtgaphgffchifcaaIGroups
import Derived.Test.YtgaphgffchifcaaEqRow
namespace Go.Proofs.Ytgaphgffchifcaa
open Go.RowKit Go.Shelf

attribute [local go_sem] Oper.semAt_some

theorem lead_first {X : Nat} (hX : X < 256) (h0 : X ≠ 0) : ∃ k, k ∈ onesTo X 32 ∧ nthV X 0 = (k : Int) := by
  rw [nthV_zero hX]
  cases hl : onesTo X 32 with
  | nil =>
    exfalso
    apply h0
    rw [← orL_ones (show X < 4294967296 by omega), hl]; rfl
  | cons k t => exact ⟨k, by simp, rfl⟩
theorem ownU_one (W : World) (X : Nat) {n : Nat} (hb : n ≤ W.heap.size) : OwnK 24 .u32 (W.alloc (.cells #[.int .u32 (X : Int)] 24)) n (some ⟨W.heap.size, 0, none⟩) [X].length 1 (ints [X]) :=
  ⟨rfl, .inr ⟨W.heap.size, 1, #[.int .u32 (X : Int)], rfl, hb, World.alloc_heap_new W _, Nat.le_refl _, by unfold maxLen; omega, rfl, rfl⟩⟩
theorem info_word : (Try.prog.info? 24).map (fun i => (i.zero, i.size, i.bytes)) = some (some (.int .u32 0), 1, 4) := by kernel_rfl
/-- The groups that the lanes of l lead. -/
def grpsTo (zs : List Int) (L l : List Nat) : List Nat := (l.filter (fun k => leads zs L k)).map (fun k => grp zs L (at0 zs k))
theorem grpsTo_hit {zs : List Int} {L l : List Nat} {k : Nat} (h : leads zs L k = true) : grpsTo zs L (l ++ [k]) = grpsTo zs L l ++ [grp zs L (at0 zs k)] := by simp [grpsTo, h]
theorem grpsTo_miss {zs : List Int} {L l : List Nat} {k : Nat} (h : ¬ leads zs L k = true) : grpsTo zs L (l ++ [k]) = grpsTo zs L l := by simp [grpsTo, h]
theorem grpsTo_len (zs : List Int) (L l : List Nat) : (grpsTo zs L l).length ≤ l.length := by
  unfold grpsTo
  rw [List.length_map]
  exact List.length_filter_le _ _
theorem MapG.not_row {W : World} {b n : Nat} {f : Int → Nat} (h : MapG W b n f) {base size k : Nat} {e : TypeId} {v : Value} {xs : List Value} (hr : W.ownsRow base e size v k xs) : some b ≠ v.ownBlock := by
  obtain ⟨D, ⟨es, ck, hb, _⟩, _⟩ := h
  rcases hr.2 with ⟨rfl, _⟩ | ⟨g, cap, cur, rfl, _, hgb, _⟩
  · simp [Value.ownBlock]
  · intro e'
    obtain rfl : b = g := by simpa [Value.ownBlock] using e'
    rw [hb] at hgb
    simp at hgb
theorem RowBox.not_rowU {W : World} {B : Nat} {zs : List Int} (h : RowBox W B zs) {base size k : Nat} {v : Value} {xs : List Value} (hr : W.ownsRow base 24 size v k xs) : some B ≠ v.ownBlock := by
  rcases hr.2 with ⟨rfl, _⟩ | ⟨g, cap, cur, rfl, _, hgb, _⟩
  · simp [Value.ownBlock]
  · intro e'
    obtain rfl : B = g := by simpa [Value.ownBlock] using e'
    have := (show W.heap[B]? = _ from h).symm.trans hgb
    simp at this
/-- 'append' onto a slice that the call owns, with the place of the new row. -/
theorem wpListIn_append_at {F : Fence} {n : Nat} {P : Program} {w : World} {ops : Array Oper} {rest : List Oper} {o : Oper} {a : Act} {Q : Exit → Act → World → Prop} (hgd : o.guard = none) (s x : Operand) (t : TypeId)
    (ho : o.op = .call { callee := .builtin .append, args := #[s, x], argTypes := #[t, t] })
    (base : Nat) (e : TypeId) (i : TypeInfo) (z : Value) (size bytes : Nat) (ht : P.underlying t = some (.slice e)) (hi : P.info? e = some i) (hz : i.zero = some z)
    (hsize : i.size = size) (hby : i.bytes = bytes) (hzs : z.cells.size = size) (hsz : 0 < size)
    (v : Value) (k : Nat) (xs : List Value) (hs : a.eval s = v) (hown : w.ownsRow base e size v k xs)
    (ad : Addr) (m c : Nat) (news : List Value) (hx : a.eval x = .slice (some ad) m c) (hl : news.length = m * size) (hnews : ∀ j u, news[j]? = some u → w.cell? (ad.add j) = some u) (h1 : ∀ u ∈ news, u.oneCell' = true)
    (h63 : k + m ≤ maxLen) (hbytes : (k + m) * bytes ≤ 140737488355328) (hbase : base ≤ w.heap.size)
    (h : ∀ v' w', w'.ownsRow base e size v' (k + m) (xs ++ news) → w.grownBy w' v.ownBlock → (v'.ownBlock = v.ownBlock ∨ v'.ownBlock = some w.heap.size) → wpListIn F n P ops Q rest (a.put o.dst v') w') :
    wpListIn F n P ops Q (o :: rest) a w := by
  refine wpListIn_plain hgd fun K hK => ?_
  obtain ⟨v', w', hr, h2, h3, _, h5⟩ := run_append_own_at (P := P) w base t o.type e i z size bytes ht hi hz hsize hby hzs hsz v k xs hown ad m c news hl hnews h1 h63 hbytes hbase
  unfold Oper.wpIn
  refine ⟨by simp [Oper.about, ho, resolve, Target.leads, Sem.run_pure], ?_⟩
  rw [Oper.semAt_plain F _ _ (by rw [ho]; intro c hc'; cases hc')]
  simp [execOp, ho, resolve, invoke, builtin, hs, hx, hr, Result.andThen]
  exact hK _ _ (h v' w' h2 h3 h5)
theorem ownsRow_low {W W' : World} {base size k : Nat} {e : TypeId} {v : Value} {xs : List Value} (h : W.ownsRow base e size v k xs) (hb : Below W.heap.size W W') : W'.ownsRow base e size v k xs :=
  World.ownsRow.kept h (row := none) ⟨hb.os, hb.tape, hb.output, hb.size, fun k hk _ => hb.block k hk⟩ (by cases hv : v.ownBlock <;> simp)
/-- Behind a piece of code the walk goes on from one activation alone. -/
theorem cut_at {F : Fence} {n : Nat} {P : Program} {c : Code} {Q : Exit → Act → World → Prop} {a : Act} {w : World} (A : Act) (R : World → Prop) (h : c.wpIn F n P (fun e a' w' => e = .normal ∧ a' = A ∧ R w') a w) (h2 : ∀ w', R w' → Q .normal A w') : c.wpIn F n P Q a w :=
  Go.wpIn_mono h (by rintro e a' w' ⟨rfl, rfl, h3⟩; exact h2 w' h3)
theorem stepIn_load_row {F : Fence} {nF : Nat} {P : Program} {w : World} {ops : Array Oper} {o : Oper} {a : Act} {K : Act → World → Prop} {Q : Exit → Act → World → Prop} {E : Prop} (hgd : o.guard = none) (ty : TypeId) (x : Operand) (ho : o.op = .load ty x)
    (g : Nat) (hx : a.eval x = .pointer (some ⟨g, 0, none⟩)) (t : TypeId) (cs : Array Value) (fr : Nat × Nat) (d : TypeDesc) (hg : w.heap[g]? = some (.cells cs t fr))
    (hu : P.underlying ty = some d) (hd : (match d with | .struct _ | .array _ _ => true | _ => false) = true) (hi : (P.info? ty).map (·.size) = some cs.size)
    (h : K (a.put o.dst (.agg cs)) w) : if Region.wanted o (yielded ops a.tmps) = true then Oper.wpIn F nF P o a w K Q else E := by
  have hw : Region.wanted o (yielded ops a.tmps) = true := by simp [Region.wanted, hgd]
  rw [if_pos hw]
  unfold Oper.wpIn
  refine ⟨by simp [Oper.about, ho], ?_⟩
  rw [Oper.semAt_plain F _ _ (by rw [ho]; intro c hc'; cases hc')]
  simp only [execOp, ho, hx, Instr.loadAt, Instr.sureAddr, Sem.run_bind, Sem.run_pure, Result.andThen_ok, run_loadVar_row w g t ty cs fr d hg hu hd hi]
  exact h

set_option maxRecDepth 100000 in
set_option maxHeartbeats 4000000 in
theorem grp_same_in (F : Fence) (n : Nat) (A : Option Addr) (c B X : Nat) (v0 v1 v2 v3 v4 v5 v6 v7 : Int) (w : World) (h : RdK .i64 w B A 8 [v0, v1, v2, v3, v4, v5, v6, v7]) (hB : B ≤ w.heap.size) (hX : X < 256) (h0X : X ≠ 0) (k0 : Nat) (hk0 : k0 ∈ onesTo X 32) (hlead : nthV X 0 = (k0 : Int)) (hcase : fillL (at0 [v0, v1, v2, v3, v4, v5, v6, v7] k0) [v0, v1, v2, v3, v4, v5, v6, v7] (onesTo X 32) = [v0, v1, v2, v3, v4, v5, v6, v7]) (h0 : F.fn 24) (hrw : F.fn 63) (hf : F.fn 53) (hm : F.fn 59) (hg : F.fn 72) (hl : F.fn 19) (ht : F.fn 16) (hr : F.fn 18) (hh : F.fn 57) (ho : F.fn 58) (h5 : F.fn 54) (h6 : F.fn 70) (hfi : F.fn 64) (hgr : F.fn 65) (hro : F.round = none) (hn : 12 ≤ n) :
    CallsIn F n Try.prog 24 #[.slice A 8 c, .int .u32 (X : Int)] w fun e w' => ∃ A' c', e = .returned (.slice A' (groupsL [v0, v1, v2, v3, v4, v5, v6, v7] (onesTo X 32)).length c') ∧ OwnK 24 .u32 w' w.heap.size A' (groupsL [v0, v1, v2, v3, v4, v5, v6, v7] (onesTo X 32)).length c' (ints (groupsL [v0, v1, v2, v3, v4, v5, v6, v7] (onesTo X 32))) ∧ Below w.heap.size w w' := by
  have HG : Hid (groupsL [v0, v1, v2, v3, v4, v5, v6, v7] (onesTo X 32) = [X]) := groupsL_one hX h0X (v := at0 [v0, v1, v2, v3, v4, v5, v6, v7] k0) (fun k hk => by
    have h2 := fillL_at (at0 [v0, v1, v2, v3, v4, v5, v6, v7] k0) (onesTo X 32) [v0, v1, v2, v3, v4, v5, v6, v7] k hk (ones_lt_8 hX hk)
    rw [hcase] at h2
    exact h2)
  have hX32 : X < 4294967296 := by omega
  have HM : Hid (∀ W, CallsIn F (n - 1) Try.prog 53 #[.int .u32 (X : Int)] W fun e w' => e = .returned (.bool (decide (X < 256))) ∧ W = w') := fun W => isMask_in F (n - 1) X W hX32 hf hm hg (by omega) hro
  rw [decide_eq_true hX] at HM
  have HR := Lib.hid (rowOf_in F (n - 1) hrw hro A c B v0 v1 v2 v3 v4 v5 v6 v7 w h hB)
  have HL : Hid (∀ W, CallsIn F (n - 1) Try.prog 19 #[.int .u32 (X : Int)] W fun e w' => e = .returned (.int .i64 (nthV X 0)) ∧ Below W.heap.size W w') := fun W => leader_in F (n - 1) X W hX32 hl ht hr hh hf hm hg ho h5 h6 (by omega) hro
  rw [hlead] at HL
  have hk8 : k0 < 8 := ones_lt_8 hX hk0
  have hk8' : (k0 : Int) < 8 := by omega
  have HFl : Hid (∀ W, CallsIn F (n - 1) Try.prog 64 #[.agg #[.int .i64 v0, .int .i64 v1, .int .i64 v2, .int .i64 v3, .int .i64 v4, .int .i64 v5, .int .i64 v6, .int .i64 v7], .int .u32 (X : Int), .int .i64 (at0 [v0, v1, v2, v3, v4, v5, v6, v7] k0)] W fun e w' => e = .returned (.agg (rowC (fillL (at0 [v0, v1, v2, v3, v4, v5, v6, v7] k0) [v0, v1, v2, v3, v4, v5, v6, v7] (onesTo X 32)))) ∧ Below W.heap.size W w') := fun W => filled_in F (n - 1) X v0 v1 v2 v3 v4 v5 v6 v7 _ W hX hfi h5 h6 hro (by omega)
  have heq := fun W => row_eq W (fillL (at0 [v0, v1, v2, v3, v4, v5, v6, v7] k0) [v0, v1, v2, v3, v4, v5, v6, v7] (onesTo X 32)) [v0, v1, v2, v3, v4, v5, v6, v7] (by rw [fillL_len]; rfl) rfl
  rw [decide_eq_true hcase] at heq
  have heq' : ∀ W, (Op.equalIn 10000 70 (.agg (rowC (fillL (at0 [v0, v1, v2, v3, v4, v5, v6, v7] k0) [v0, v1, v2, v3, v4, v5, v6, v7] (onesTo X 32)))) (.agg #[.int .i64 v0, .int .i64 v1, .int .i64 v2, .int .i64 v3, .int .i64 v4, .int .i64 v5, .int .i64 v6, .int .i64 v7])).run Try.prog W = .ok true W := heq
  clear heq
  have hgd := row_guard
  have h1 : 1 ≤ n := by omega
  have hmx := mixed
  have HI : (Try.prog.info? 70).map (·.size) = some (#[.int .i64 v0, .int .i64 v1, .int .i64 v2, .int .i64 v3, .int .i64 v4, .int .i64 v5, .int .i64 v6, .int .i64 v7] : Array Value).size := row_size
  have HX := Lib.hid hX32
  have HX8 := Lib.hid hX
  have H0X : ¬ ((X : Int) = 0) := by omega
  have HK0 := Lib.hid hk0
  clear hX hX32 h h0X hlead hk0
  refine callsIn_of_wp Try.func24 rfl h0 ?_ hro
  simp only [Try.ntmps24, List.size_toArray, List.length_cons, List.length_nil, Nat.reduceAdd, Nat.reduceSub, Array.replicate_succ, Array.replicate_zero, List.push_toArray, List.append_toArray, List.nil_append, List.cons_append]
  gi_wp2_with (first | (gi_at_call 63; refine HR.out.mono ?_; rintro e w' ⟨rfl, rfl⟩) | (gi_at_call 53; refine (HM.out _).mono ?_; rintro e w' ⟨rfl, rfl⟩))
  have hB0 : Below w.heap.size w ((w.alloc (.cells #[.int .i64 v0, .int .i64 v1, .int .i64 v2, .int .i64 v3, .int .i64 v4, .int .i64 v5, .int .i64 v6, .int .i64 v7] 70)).alloc (.cells #[.int .i64 v0, .int .i64 v1, .int .i64 v2, .int .i64 v3, .int .i64 v4, .int .i64 v5, .int .i64 v6, .int .i64 v7] 70)) := ((Below.refl _ w).alloc (Nat.le_refl _) _).alloc (by simp) _
  have r0 : ((w.alloc (.cells #[.int .i64 v0, .int .i64 v1, .int .i64 v2, .int .i64 v3, .int .i64 v4, .int .i64 v5, .int .i64 v6, .int .i64 v7] 70)).alloc (.cells #[.int .i64 v0, .int .i64 v1, .int .i64 v2, .int .i64 v3, .int .i64 v4, .int .i64 v5, .int .i64 v6, .int .i64 v7] 70)).heap[w.heap.size + 1]? = some (.cells #[.int .i64 v0, .int .i64 v1, .int .i64 v2, .int .i64 v3, .int .i64 v4, .int .i64 v5, .int .i64 v6, .int .i64 v7] 70 (0, 0)) := by
    have := RowBox.new (w.alloc (.cells #[.int .i64 v0, .int .i64 v1, .int .i64 v2, .int .i64 v3, .int .i64 v4, .int .i64 v5, .int .i64 v6, .int .i64 v7] 70)) [v0, v1, v2, v3, v4, v5, v6, v7]
    rw [World.size_alloc] at this
    exact this
  have hsz : ((w.alloc (.cells #[.int .i64 v0, .int .i64 v1, .int .i64 v2, .int .i64 v3, .int .i64 v4, .int .i64 v5, .int .i64 v6, .int .i64 v7] 70)).alloc (.cells #[.int .i64 v0, .int .i64 v1, .int .i64 v2, .int .i64 v3, .int .i64 v4, .int .i64 v5, .int .i64 v6, .int .i64 v7] 70)).heap.size = w.heap.size + 2 := by simp
  obtain ⟨W0, hW0⟩ : ∃ W0, ((w.alloc (.cells #[.int .i64 v0, .int .i64 v1, .int .i64 v2, .int .i64 v3, .int .i64 v4, .int .i64 v5, .int .i64 v6, .int .i64 v7] 70)).alloc (.cells #[.int .i64 v0, .int .i64 v1, .int .i64 v2, .int .i64 v3, .int .i64 v4, .int .i64 v5, .int .i64 v6, .int .i64 v7] 70)) = W0 := ⟨_, rfl⟩
  rw [hW0] at hB0 r0 hsz ⊢
  clear hW0 HR HM
  generalize rowC (fillL (at0 [v0, v1, v2, v3, v4, v5, v6, v7] k0) [v0, v1, v2, v3, v4, v5, v6, v7] (onesTo X 32)) = fc at *
  generalize hz0 : at0 [v0, v1, v2, v3, v4, v5, v6, v7] k0 = z0 at *
  apply cut_at (R := fun w' => w'.heap[w.heap.size + 1]? = some (.cells #[.int .i64 v0, .int .i64 v1, .int .i64 v2, .int .i64 v3, .int .i64 v4, .int .i64 v5, .int .i64 v6, .int .i64 v7] 70 (0, 0)) ∧ Below w.heap.size w w')
  case h =>
    refine wpIn_region_any (by assumption) ?_
    change wpAnyIn _ _ _ _ _ _ _ _ _ (World.drew _)
    refine wpAnyIn_take (i := 1) (v := ?v7) hro rfl (by kernel_rfl) (by kernel_rfl) (by kernel_rfl) (fun _ _ _ h => by cases h.1) ⟨Or.inl ⟨by rfl, ?y7⟩, fun _ => rfl⟩ ?r7
    case y7 => intro w; go_simp; try with_reducible rfl
    case r7 =>
      refine wpAnyIn_take (i := 2) (v := ?v8) hro rfl (by kernel_rfl) (by kernel_rfl) (by kernel_rfl) (fun _ _ _ h => by cases h.1) ⟨Or.inl ⟨by rfl, ?y8⟩, fun _ => rfl⟩ ?r8
      case y8 => intro w; go_simp; try with_reducible rfl
      case r8 =>
        refine wpAnyIn_ready (rs := [0, 3, 7]) (by kernel_rfl) (by simp) (AllReadyIn.cons rfl (fun K hK => ?_) (AllReadyIn.cons rfl (fun K hK => ?_) (AllReadyIn.cons rfl (fun K hK => ?_) AllReadyIn.nil)))
        · skip
          refine stepIn_load_row rfl 70 _ rfl (w.heap.size + 1) rfl 70 #[.int .i64 v0, .int .i64 v1, .int .i64 v2, .int .i64 v3, .int .i64 v4, .int .i64 v5, .int .i64 v6, .int .i64 v7] (0, 0) _ r0 Try.underlying70 rfl HI ?_
          refine hK _ _ ?_
          clear hK K
          refine wpAnyIn_ready (rs := [3, 7]) (by kernel_rfl) (by simp) (AllReadyIn.cons rfl (fun K hK => ?_) (AllReadyIn.cons rfl (fun K hK => ?_) AllReadyIn.nil))
          · skip
            go_simp
            gi_wp2_with (gi_at_call 19; refine (HL.out _).mono ?_; rintro e w1 ⟨rfl, hb1⟩; have r1 := (hb1.block (w.heap.size + 1) (by show _ < W0.heap.size; omega)).trans r0; have z1 := hb1.size; have HB1 := Lib.hid hb1; clear hb1)
            refine wpAnyIn_take (i := 4) (v := ?v9) hro rfl (by kernel_rfl) (by kernel_rfl) (by kernel_rfl) (fun _ _ _ h => by cases h.1) ⟨Or.inl ⟨by rfl, ?y9⟩, fun _ => rfl⟩ ?r9
            case y9 => intro w; go_simp; try with_reducible rfl
            case r9 =>
              refine wpAnyIn_ready (rs := [5, 7]) (by kernel_rfl) (by simp) (AllReadyIn.cons rfl (fun K hK => ?_) (AllReadyIn.cons rfl (fun K hK => ?_) AllReadyIn.nil))
              · skip
                have c5 : World.cell? w1 ⟨w.heap.size + 1, k0, none⟩ = some (.int .i64 z0) := by
                  have h5 := RowBox.cell (zs := [v0, v1, v2, v3, v4, v5, v6, v7]) (i := k0) r1 (by simpa using hk8)
                  rw [← hz0]
                  exact h5
                go_simp
                refine hK _ _ ?_
                clear hK K
                refine wpAnyIn_ready (rs := [6, 7]) (by kernel_rfl) (by simp) (AllReadyIn.cons rfl (fun K hK => ?_) (AllReadyIn.cons rfl (fun K hK => ?_) AllReadyIn.nil))
                · skip
                  go_simp
                  gi_wp2_with (gi_at_call 64; refine (HFl.out _).mono ?_; rintro e w2 ⟨rfl, hb2⟩; have r2 := (hb2.block (w.heap.size + 1) (by have : W0.heap.size ≤ w1.heap.size := z1; omega)).trans r1; have HB2 := Lib.hid hb2; clear hb2)
                  refine wpAnyIn_ready (rs := [7]) (by kernel_rfl) (by simp) (AllReadyIn.cons rfl (fun K hK => ?_) AllReadyIn.nil)
                  refine stepIn_load_row rfl 70 _ rfl (w.heap.size + 1) rfl 70 #[.int .i64 v0, .int .i64 v1, .int .i64 v2, .int .i64 v3, .int .i64 v4, .int .i64 v5, .int .i64 v6, .int .i64 v7] (0, 0) _ r2 Try.underlying70 rfl HI ?_
                  refine hK _ _ ?_
                  clear hK K
                  refine wpAnyIn_ready (rs := [8]) (by kernel_rfl) (by simp) (AllReadyIn.cons rfl (fun K hK => ?_) AllReadyIn.nil)
                  go_simp
                  refine hK _ _ ?_
                  clear hK K
                  refine wpAnyIn_done (by kernel_rfl) ?_ _
                  refine ⟨rfl, rfl, r2, ?_⟩
                  exact (hB0.drew.trans (HB1.out.mono (by show _ ≤ W0.heap.size; omega))).trans (HB2.out.mono (by have : W0.heap.size ≤ w1.heap.size := z1; omega))
                · skip
                  refine stepIn_load_row rfl 70 _ rfl (w.heap.size + 1) rfl 70 #[.int .i64 v0, .int .i64 v1, .int .i64 v2, .int .i64 v3, .int .i64 v4, .int .i64 v5, .int .i64 v6, .int .i64 v7] (0, 0) _ r1 Try.underlying70 rfl HI ?_
                  refine hK _ _ ?_
                  clear hK K
                  refine wpAnyIn_ready (rs := [6]) (by kernel_rfl) (by simp) (AllReadyIn.cons rfl (fun K hK => ?_) AllReadyIn.nil)
                  go_simp
                  gi_wp2_with (gi_at_call 64; refine (HFl.out _).mono ?_; rintro e w2 ⟨rfl, hb2⟩; have r2 := (hb2.block (w.heap.size + 1) (by have : W0.heap.size ≤ w1.heap.size := z1; omega)).trans r1; have HB2 := Lib.hid hb2; clear hb2)
                  refine wpAnyIn_ready (rs := [8]) (by kernel_rfl) (by simp) (AllReadyIn.cons rfl (fun K hK => ?_) AllReadyIn.nil)
                  go_simp
                  refine hK _ _ ?_
                  clear hK K
                  refine wpAnyIn_done (by kernel_rfl) ?_ _
                  refine ⟨rfl, rfl, r2, ?_⟩
                  exact (hB0.drew.trans (HB1.out.mono (by show _ ≤ W0.heap.size; omega))).trans (HB2.out.mono (by have : W0.heap.size ≤ w1.heap.size := z1; omega))
              · skip
                refine stepIn_load_row rfl 70 _ rfl (w.heap.size + 1) rfl 70 #[.int .i64 v0, .int .i64 v1, .int .i64 v2, .int .i64 v3, .int .i64 v4, .int .i64 v5, .int .i64 v6, .int .i64 v7] (0, 0) _ r1 Try.underlying70 rfl HI ?_
                refine hK _ _ ?_
                clear hK K
                refine wpAnyIn_ready (rs := [5]) (by kernel_rfl) (by simp) (AllReadyIn.cons rfl (fun K hK => ?_) AllReadyIn.nil)
                have c5 : World.cell? w1 ⟨w.heap.size + 1, k0, none⟩ = some (.int .i64 z0) := by
                  have h5 := RowBox.cell (zs := [v0, v1, v2, v3, v4, v5, v6, v7]) (i := k0) r1 (by simpa using hk8)
                  rw [← hz0]
                  exact h5
                go_simp
                refine hK _ _ ?_
                clear hK K
                refine wpAnyIn_ready (rs := [6]) (by kernel_rfl) (by simp) (AllReadyIn.cons rfl (fun K hK => ?_) AllReadyIn.nil)
                go_simp
                gi_wp2_with (gi_at_call 64; refine (HFl.out _).mono ?_; rintro e w2 ⟨rfl, hb2⟩; have r2 := (hb2.block (w.heap.size + 1) (by have : W0.heap.size ≤ w1.heap.size := z1; omega)).trans r1; have HB2 := Lib.hid hb2; clear hb2)
                refine wpAnyIn_ready (rs := [8]) (by kernel_rfl) (by simp) (AllReadyIn.cons rfl (fun K hK => ?_) AllReadyIn.nil)
                go_simp
                refine hK _ _ ?_
                clear hK K
                refine wpAnyIn_done (by kernel_rfl) ?_ _
                refine ⟨rfl, rfl, r2, ?_⟩
                exact (hB0.drew.trans (HB1.out.mono (by show _ ≤ W0.heap.size; omega))).trans (HB2.out.mono (by have : W0.heap.size ≤ w1.heap.size := z1; omega))
          · skip
            refine stepIn_load_row rfl 70 _ rfl (w.heap.size + 1) rfl 70 #[.int .i64 v0, .int .i64 v1, .int .i64 v2, .int .i64 v3, .int .i64 v4, .int .i64 v5, .int .i64 v6, .int .i64 v7] (0, 0) _ r0 Try.underlying70 rfl HI ?_
            refine hK _ _ ?_
            clear hK K
            refine wpAnyIn_ready (rs := [3]) (by kernel_rfl) (by simp) (AllReadyIn.cons rfl (fun K hK => ?_) AllReadyIn.nil)
            go_simp
            gi_wp2_with (gi_at_call 19; refine (HL.out _).mono ?_; rintro e w1 ⟨rfl, hb1⟩; have r1 := (hb1.block (w.heap.size + 1) (by show _ < W0.heap.size; omega)).trans r0; have z1 := hb1.size; have HB1 := Lib.hid hb1; clear hb1)
            refine wpAnyIn_take (i := 4) (v := ?v10) hro rfl (by kernel_rfl) (by kernel_rfl) (by kernel_rfl) (fun _ _ _ h => by cases h.1) ⟨Or.inl ⟨by rfl, ?y10⟩, fun _ => rfl⟩ ?r10
            case y10 => intro w; go_simp; try with_reducible rfl
            case r10 =>
              refine wpAnyIn_ready (rs := [5]) (by kernel_rfl) (by simp) (AllReadyIn.cons rfl (fun K hK => ?_) AllReadyIn.nil)
              have c5 : World.cell? w1 ⟨w.heap.size + 1, k0, none⟩ = some (.int .i64 z0) := by
                have h5 := RowBox.cell (zs := [v0, v1, v2, v3, v4, v5, v6, v7]) (i := k0) r1 (by simpa using hk8)
                rw [← hz0]
                exact h5
              go_simp
              refine hK _ _ ?_
              clear hK K
              refine wpAnyIn_ready (rs := [6]) (by kernel_rfl) (by simp) (AllReadyIn.cons rfl (fun K hK => ?_) AllReadyIn.nil)
              go_simp
              gi_wp2_with (gi_at_call 64; refine (HFl.out _).mono ?_; rintro e w2 ⟨rfl, hb2⟩; have r2 := (hb2.block (w.heap.size + 1) (by have : W0.heap.size ≤ w1.heap.size := z1; omega)).trans r1; have HB2 := Lib.hid hb2; clear hb2)
              refine wpAnyIn_ready (rs := [8]) (by kernel_rfl) (by simp) (AllReadyIn.cons rfl (fun K hK => ?_) AllReadyIn.nil)
              go_simp
              refine hK _ _ ?_
              clear hK K
              refine wpAnyIn_done (by kernel_rfl) ?_ _
              refine ⟨rfl, rfl, r2, ?_⟩
              exact (hB0.drew.trans (HB1.out.mono (by show _ ≤ W0.heap.size; omega))).trans (HB2.out.mono (by have : W0.heap.size ≤ w1.heap.size := z1; omega))
        · skip
          go_simp
          gi_wp2_with (gi_at_call 19; refine (HL.out _).mono ?_; rintro e w1 ⟨rfl, hb1⟩; have r1 := (hb1.block (w.heap.size + 1) (by show _ < W0.heap.size; omega)).trans r0; have z1 := hb1.size; have HB1 := Lib.hid hb1; clear hb1)
          refine wpAnyIn_take (i := 4) (v := ?v11) hro rfl (by kernel_rfl) (by kernel_rfl) (by kernel_rfl) (fun _ _ _ h => by cases h.1) ⟨Or.inl ⟨by rfl, ?y11⟩, fun _ => rfl⟩ ?r11
          case y11 => intro w; go_simp; try with_reducible rfl
          case r11 =>
            refine wpAnyIn_ready (rs := [0, 5, 7]) (by kernel_rfl) (by simp) (AllReadyIn.cons rfl (fun K hK => ?_) (AllReadyIn.cons rfl (fun K hK => ?_) (AllReadyIn.cons rfl (fun K hK => ?_) AllReadyIn.nil)))
            · skip
              refine stepIn_load_row rfl 70 _ rfl (w.heap.size + 1) rfl 70 #[.int .i64 v0, .int .i64 v1, .int .i64 v2, .int .i64 v3, .int .i64 v4, .int .i64 v5, .int .i64 v6, .int .i64 v7] (0, 0) _ r1 Try.underlying70 rfl HI ?_
              refine hK _ _ ?_
              clear hK K
              refine wpAnyIn_ready (rs := [5, 7]) (by kernel_rfl) (by simp) (AllReadyIn.cons rfl (fun K hK => ?_) (AllReadyIn.cons rfl (fun K hK => ?_) AllReadyIn.nil))
              · skip
                have c5 : World.cell? w1 ⟨w.heap.size + 1, k0, none⟩ = some (.int .i64 z0) := by
                  have h5 := RowBox.cell (zs := [v0, v1, v2, v3, v4, v5, v6, v7]) (i := k0) r1 (by simpa using hk8)
                  rw [← hz0]
                  exact h5
                go_simp
                refine hK _ _ ?_
                clear hK K
                refine wpAnyIn_ready (rs := [6, 7]) (by kernel_rfl) (by simp) (AllReadyIn.cons rfl (fun K hK => ?_) (AllReadyIn.cons rfl (fun K hK => ?_) AllReadyIn.nil))
                · skip
                  go_simp
                  gi_wp2_with (gi_at_call 64; refine (HFl.out _).mono ?_; rintro e w2 ⟨rfl, hb2⟩; have r2 := (hb2.block (w.heap.size + 1) (by have : W0.heap.size ≤ w1.heap.size := z1; omega)).trans r1; have HB2 := Lib.hid hb2; clear hb2)
                  refine wpAnyIn_ready (rs := [7]) (by kernel_rfl) (by simp) (AllReadyIn.cons rfl (fun K hK => ?_) AllReadyIn.nil)
                  refine stepIn_load_row rfl 70 _ rfl (w.heap.size + 1) rfl 70 #[.int .i64 v0, .int .i64 v1, .int .i64 v2, .int .i64 v3, .int .i64 v4, .int .i64 v5, .int .i64 v6, .int .i64 v7] (0, 0) _ r2 Try.underlying70 rfl HI ?_
                  refine hK _ _ ?_
                  clear hK K
                  refine wpAnyIn_ready (rs := [8]) (by kernel_rfl) (by simp) (AllReadyIn.cons rfl (fun K hK => ?_) AllReadyIn.nil)
                  go_simp
                  refine hK _ _ ?_
                  clear hK K
                  refine wpAnyIn_done (by kernel_rfl) ?_ _
                  refine ⟨rfl, rfl, r2, ?_⟩
                  exact (hB0.drew.trans (HB1.out.mono (by show _ ≤ W0.heap.size; omega))).trans (HB2.out.mono (by have : W0.heap.size ≤ w1.heap.size := z1; omega))
                · skip
                  refine stepIn_load_row rfl 70 _ rfl (w.heap.size + 1) rfl 70 #[.int .i64 v0, .int .i64 v1, .int .i64 v2, .int .i64 v3, .int .i64 v4, .int .i64 v5, .int .i64 v6, .int .i64 v7] (0, 0) _ r1 Try.underlying70 rfl HI ?_
                  refine hK _ _ ?_
                  clear hK K
                  refine wpAnyIn_ready (rs := [6]) (by kernel_rfl) (by simp) (AllReadyIn.cons rfl (fun K hK => ?_) AllReadyIn.nil)
                  go_simp
                  gi_wp2_with (gi_at_call 64; refine (HFl.out _).mono ?_; rintro e w2 ⟨rfl, hb2⟩; have r2 := (hb2.block (w.heap.size + 1) (by have : W0.heap.size ≤ w1.heap.size := z1; omega)).trans r1; have HB2 := Lib.hid hb2; clear hb2)
                  refine wpAnyIn_ready (rs := [8]) (by kernel_rfl) (by simp) (AllReadyIn.cons rfl (fun K hK => ?_) AllReadyIn.nil)
                  go_simp
                  refine hK _ _ ?_
                  clear hK K
                  refine wpAnyIn_done (by kernel_rfl) ?_ _
                  refine ⟨rfl, rfl, r2, ?_⟩
                  exact (hB0.drew.trans (HB1.out.mono (by show _ ≤ W0.heap.size; omega))).trans (HB2.out.mono (by have : W0.heap.size ≤ w1.heap.size := z1; omega))
              · skip
                refine stepIn_load_row rfl 70 _ rfl (w.heap.size + 1) rfl 70 #[.int .i64 v0, .int .i64 v1, .int .i64 v2, .int .i64 v3, .int .i64 v4, .int .i64 v5, .int .i64 v6, .int .i64 v7] (0, 0) _ r1 Try.underlying70 rfl HI ?_
                refine hK _ _ ?_
                clear hK K
                refine wpAnyIn_ready (rs := [5]) (by kernel_rfl) (by simp) (AllReadyIn.cons rfl (fun K hK => ?_) AllReadyIn.nil)
                have c5 : World.cell? w1 ⟨w.heap.size + 1, k0, none⟩ = some (.int .i64 z0) := by
                  have h5 := RowBox.cell (zs := [v0, v1, v2, v3, v4, v5, v6, v7]) (i := k0) r1 (by simpa using hk8)
                  rw [← hz0]
                  exact h5
                go_simp
                refine hK _ _ ?_
                clear hK K
                refine wpAnyIn_ready (rs := [6]) (by kernel_rfl) (by simp) (AllReadyIn.cons rfl (fun K hK => ?_) AllReadyIn.nil)
                go_simp
                gi_wp2_with (gi_at_call 64; refine (HFl.out _).mono ?_; rintro e w2 ⟨rfl, hb2⟩; have r2 := (hb2.block (w.heap.size + 1) (by have : W0.heap.size ≤ w1.heap.size := z1; omega)).trans r1; have HB2 := Lib.hid hb2; clear hb2)
                refine wpAnyIn_ready (rs := [8]) (by kernel_rfl) (by simp) (AllReadyIn.cons rfl (fun K hK => ?_) AllReadyIn.nil)
                go_simp
                refine hK _ _ ?_
                clear hK K
                refine wpAnyIn_done (by kernel_rfl) ?_ _
                refine ⟨rfl, rfl, r2, ?_⟩
                exact (hB0.drew.trans (HB1.out.mono (by show _ ≤ W0.heap.size; omega))).trans (HB2.out.mono (by have : W0.heap.size ≤ w1.heap.size := z1; omega))
            · skip
              have c5 : World.cell? w1 ⟨w.heap.size + 1, k0, none⟩ = some (.int .i64 z0) := by
                have h5 := RowBox.cell (zs := [v0, v1, v2, v3, v4, v5, v6, v7]) (i := k0) r1 (by simpa using hk8)
                rw [← hz0]
                exact h5
              go_simp
              refine hK _ _ ?_
              clear hK K
              refine wpAnyIn_ready (rs := [0, 7]) (by kernel_rfl) (by simp) (AllReadyIn.cons rfl (fun K hK => ?_) (AllReadyIn.cons rfl (fun K hK => ?_) AllReadyIn.nil))
              · skip
                refine stepIn_load_row rfl 70 _ rfl (w.heap.size + 1) rfl 70 #[.int .i64 v0, .int .i64 v1, .int .i64 v2, .int .i64 v3, .int .i64 v4, .int .i64 v5, .int .i64 v6, .int .i64 v7] (0, 0) _ r1 Try.underlying70 rfl HI ?_
                refine hK _ _ ?_
                clear hK K
                refine wpAnyIn_ready (rs := [6, 7]) (by kernel_rfl) (by simp) (AllReadyIn.cons rfl (fun K hK => ?_) (AllReadyIn.cons rfl (fun K hK => ?_) AllReadyIn.nil))
                · skip
                  go_simp
                  gi_wp2_with (gi_at_call 64; refine (HFl.out _).mono ?_; rintro e w2 ⟨rfl, hb2⟩; have r2 := (hb2.block (w.heap.size + 1) (by have : W0.heap.size ≤ w1.heap.size := z1; omega)).trans r1; have HB2 := Lib.hid hb2; clear hb2)
                  refine wpAnyIn_ready (rs := [7]) (by kernel_rfl) (by simp) (AllReadyIn.cons rfl (fun K hK => ?_) AllReadyIn.nil)
                  refine stepIn_load_row rfl 70 _ rfl (w.heap.size + 1) rfl 70 #[.int .i64 v0, .int .i64 v1, .int .i64 v2, .int .i64 v3, .int .i64 v4, .int .i64 v5, .int .i64 v6, .int .i64 v7] (0, 0) _ r2 Try.underlying70 rfl HI ?_
                  refine hK _ _ ?_
                  clear hK K
                  refine wpAnyIn_ready (rs := [8]) (by kernel_rfl) (by simp) (AllReadyIn.cons rfl (fun K hK => ?_) AllReadyIn.nil)
                  go_simp
                  refine hK _ _ ?_
                  clear hK K
                  refine wpAnyIn_done (by kernel_rfl) ?_ _
                  refine ⟨rfl, rfl, r2, ?_⟩
                  exact (hB0.drew.trans (HB1.out.mono (by show _ ≤ W0.heap.size; omega))).trans (HB2.out.mono (by have : W0.heap.size ≤ w1.heap.size := z1; omega))
                · skip
                  refine stepIn_load_row rfl 70 _ rfl (w.heap.size + 1) rfl 70 #[.int .i64 v0, .int .i64 v1, .int .i64 v2, .int .i64 v3, .int .i64 v4, .int .i64 v5, .int .i64 v6, .int .i64 v7] (0, 0) _ r1 Try.underlying70 rfl HI ?_
                  refine hK _ _ ?_
                  clear hK K
                  refine wpAnyIn_ready (rs := [6]) (by kernel_rfl) (by simp) (AllReadyIn.cons rfl (fun K hK => ?_) AllReadyIn.nil)
                  go_simp
                  gi_wp2_with (gi_at_call 64; refine (HFl.out _).mono ?_; rintro e w2 ⟨rfl, hb2⟩; have r2 := (hb2.block (w.heap.size + 1) (by have : W0.heap.size ≤ w1.heap.size := z1; omega)).trans r1; have HB2 := Lib.hid hb2; clear hb2)
                  refine wpAnyIn_ready (rs := [8]) (by kernel_rfl) (by simp) (AllReadyIn.cons rfl (fun K hK => ?_) AllReadyIn.nil)
                  go_simp
                  refine hK _ _ ?_
                  clear hK K
                  refine wpAnyIn_done (by kernel_rfl) ?_ _
                  refine ⟨rfl, rfl, r2, ?_⟩
                  exact (hB0.drew.trans (HB1.out.mono (by show _ ≤ W0.heap.size; omega))).trans (HB2.out.mono (by have : W0.heap.size ≤ w1.heap.size := z1; omega))
              · skip
                refine stepIn_load_row rfl 70 _ rfl (w.heap.size + 1) rfl 70 #[.int .i64 v0, .int .i64 v1, .int .i64 v2, .int .i64 v3, .int .i64 v4, .int .i64 v5, .int .i64 v6, .int .i64 v7] (0, 0) _ r1 Try.underlying70 rfl HI ?_
                refine hK _ _ ?_
                clear hK K
                refine wpAnyIn_ready (rs := [0]) (by kernel_rfl) (by simp) (AllReadyIn.cons rfl (fun K hK => ?_) AllReadyIn.nil)
                refine stepIn_load_row rfl 70 _ rfl (w.heap.size + 1) rfl 70 #[.int .i64 v0, .int .i64 v1, .int .i64 v2, .int .i64 v3, .int .i64 v4, .int .i64 v5, .int .i64 v6, .int .i64 v7] (0, 0) _ r1 Try.underlying70 rfl HI ?_
                refine hK _ _ ?_
                clear hK K
                refine wpAnyIn_ready (rs := [6]) (by kernel_rfl) (by simp) (AllReadyIn.cons rfl (fun K hK => ?_) AllReadyIn.nil)
                go_simp
                gi_wp2_with (gi_at_call 64; refine (HFl.out _).mono ?_; rintro e w2 ⟨rfl, hb2⟩; have r2 := (hb2.block (w.heap.size + 1) (by have : W0.heap.size ≤ w1.heap.size := z1; omega)).trans r1; have HB2 := Lib.hid hb2; clear hb2)
                refine wpAnyIn_ready (rs := [8]) (by kernel_rfl) (by simp) (AllReadyIn.cons rfl (fun K hK => ?_) AllReadyIn.nil)
                go_simp
                refine hK _ _ ?_
                clear hK K
                refine wpAnyIn_done (by kernel_rfl) ?_ _
                refine ⟨rfl, rfl, r2, ?_⟩
                exact (hB0.drew.trans (HB1.out.mono (by show _ ≤ W0.heap.size; omega))).trans (HB2.out.mono (by have : W0.heap.size ≤ w1.heap.size := z1; omega))
            · skip
              refine stepIn_load_row rfl 70 _ rfl (w.heap.size + 1) rfl 70 #[.int .i64 v0, .int .i64 v1, .int .i64 v2, .int .i64 v3, .int .i64 v4, .int .i64 v5, .int .i64 v6, .int .i64 v7] (0, 0) _ r1 Try.underlying70 rfl HI ?_
              refine hK _ _ ?_
              clear hK K
              refine wpAnyIn_ready (rs := [0, 5]) (by kernel_rfl) (by simp) (AllReadyIn.cons rfl (fun K hK => ?_) (AllReadyIn.cons rfl (fun K hK => ?_) AllReadyIn.nil))
              · skip
                refine stepIn_load_row rfl 70 _ rfl (w.heap.size + 1) rfl 70 #[.int .i64 v0, .int .i64 v1, .int .i64 v2, .int .i64 v3, .int .i64 v4, .int .i64 v5, .int .i64 v6, .int .i64 v7] (0, 0) _ r1 Try.underlying70 rfl HI ?_
                refine hK _ _ ?_
                clear hK K
                refine wpAnyIn_ready (rs := [5]) (by kernel_rfl) (by simp) (AllReadyIn.cons rfl (fun K hK => ?_) AllReadyIn.nil)
                have c5 : World.cell? w1 ⟨w.heap.size + 1, k0, none⟩ = some (.int .i64 z0) := by
                  have h5 := RowBox.cell (zs := [v0, v1, v2, v3, v4, v5, v6, v7]) (i := k0) r1 (by simpa using hk8)
                  rw [← hz0]
                  exact h5
                go_simp
                refine hK _ _ ?_
                clear hK K
                refine wpAnyIn_ready (rs := [6]) (by kernel_rfl) (by simp) (AllReadyIn.cons rfl (fun K hK => ?_) AllReadyIn.nil)
                go_simp
                gi_wp2_with (gi_at_call 64; refine (HFl.out _).mono ?_; rintro e w2 ⟨rfl, hb2⟩; have r2 := (hb2.block (w.heap.size + 1) (by have : W0.heap.size ≤ w1.heap.size := z1; omega)).trans r1; have HB2 := Lib.hid hb2; clear hb2)
                refine wpAnyIn_ready (rs := [8]) (by kernel_rfl) (by simp) (AllReadyIn.cons rfl (fun K hK => ?_) AllReadyIn.nil)
                go_simp
                refine hK _ _ ?_
                clear hK K
                refine wpAnyIn_done (by kernel_rfl) ?_ _
                refine ⟨rfl, rfl, r2, ?_⟩
                exact (hB0.drew.trans (HB1.out.mono (by show _ ≤ W0.heap.size; omega))).trans (HB2.out.mono (by have : W0.heap.size ≤ w1.heap.size := z1; omega))
              · skip
                have c5 : World.cell? w1 ⟨w.heap.size + 1, k0, none⟩ = some (.int .i64 z0) := by
                  have h5 := RowBox.cell (zs := [v0, v1, v2, v3, v4, v5, v6, v7]) (i := k0) r1 (by simpa using hk8)
                  rw [← hz0]
                  exact h5
                go_simp
                refine hK _ _ ?_
                clear hK K
                refine wpAnyIn_ready (rs := [0]) (by kernel_rfl) (by simp) (AllReadyIn.cons rfl (fun K hK => ?_) AllReadyIn.nil)
                refine stepIn_load_row rfl 70 _ rfl (w.heap.size + 1) rfl 70 #[.int .i64 v0, .int .i64 v1, .int .i64 v2, .int .i64 v3, .int .i64 v4, .int .i64 v5, .int .i64 v6, .int .i64 v7] (0, 0) _ r1 Try.underlying70 rfl HI ?_
                refine hK _ _ ?_
                clear hK K
                refine wpAnyIn_ready (rs := [6]) (by kernel_rfl) (by simp) (AllReadyIn.cons rfl (fun K hK => ?_) AllReadyIn.nil)
                go_simp
                gi_wp2_with (gi_at_call 64; refine (HFl.out _).mono ?_; rintro e w2 ⟨rfl, hb2⟩; have r2 := (hb2.block (w.heap.size + 1) (by have : W0.heap.size ≤ w1.heap.size := z1; omega)).trans r1; have HB2 := Lib.hid hb2; clear hb2)
                refine wpAnyIn_ready (rs := [8]) (by kernel_rfl) (by simp) (AllReadyIn.cons rfl (fun K hK => ?_) AllReadyIn.nil)
                go_simp
                refine hK _ _ ?_
                clear hK K
                refine wpAnyIn_done (by kernel_rfl) ?_ _
                refine ⟨rfl, rfl, r2, ?_⟩
                exact (hB0.drew.trans (HB1.out.mono (by show _ ≤ W0.heap.size; omega))).trans (HB2.out.mono (by have : W0.heap.size ≤ w1.heap.size := z1; omega))
        · skip
          refine stepIn_load_row rfl 70 _ rfl (w.heap.size + 1) rfl 70 #[.int .i64 v0, .int .i64 v1, .int .i64 v2, .int .i64 v3, .int .i64 v4, .int .i64 v5, .int .i64 v6, .int .i64 v7] (0, 0) _ r0 Try.underlying70 rfl HI ?_
          refine hK _ _ ?_
          clear hK K
          refine wpAnyIn_ready (rs := [0, 3]) (by kernel_rfl) (by simp) (AllReadyIn.cons rfl (fun K hK => ?_) (AllReadyIn.cons rfl (fun K hK => ?_) AllReadyIn.nil))
          · skip
            refine stepIn_load_row rfl 70 _ rfl (w.heap.size + 1) rfl 70 #[.int .i64 v0, .int .i64 v1, .int .i64 v2, .int .i64 v3, .int .i64 v4, .int .i64 v5, .int .i64 v6, .int .i64 v7] (0, 0) _ r0 Try.underlying70 rfl HI ?_
            refine hK _ _ ?_
            clear hK K
            refine wpAnyIn_ready (rs := [3]) (by kernel_rfl) (by simp) (AllReadyIn.cons rfl (fun K hK => ?_) AllReadyIn.nil)
            go_simp
            gi_wp2_with (gi_at_call 19; refine (HL.out _).mono ?_; rintro e w1 ⟨rfl, hb1⟩; have r1 := (hb1.block (w.heap.size + 1) (by show _ < W0.heap.size; omega)).trans r0; have z1 := hb1.size; have HB1 := Lib.hid hb1; clear hb1)
            refine wpAnyIn_take (i := 4) (v := ?v12) hro rfl (by kernel_rfl) (by kernel_rfl) (by kernel_rfl) (fun _ _ _ h => by cases h.1) ⟨Or.inl ⟨by rfl, ?y12⟩, fun _ => rfl⟩ ?r12
            case y12 => intro w; go_simp; try with_reducible rfl
            case r12 =>
              refine wpAnyIn_ready (rs := [5]) (by kernel_rfl) (by simp) (AllReadyIn.cons rfl (fun K hK => ?_) AllReadyIn.nil)
              have c5 : World.cell? w1 ⟨w.heap.size + 1, k0, none⟩ = some (.int .i64 z0) := by
                have h5 := RowBox.cell (zs := [v0, v1, v2, v3, v4, v5, v6, v7]) (i := k0) r1 (by simpa using hk8)
                rw [← hz0]
                exact h5
              go_simp
              refine hK _ _ ?_
              clear hK K
              refine wpAnyIn_ready (rs := [6]) (by kernel_rfl) (by simp) (AllReadyIn.cons rfl (fun K hK => ?_) AllReadyIn.nil)
              go_simp
              gi_wp2_with (gi_at_call 64; refine (HFl.out _).mono ?_; rintro e w2 ⟨rfl, hb2⟩; have r2 := (hb2.block (w.heap.size + 1) (by have : W0.heap.size ≤ w1.heap.size := z1; omega)).trans r1; have HB2 := Lib.hid hb2; clear hb2)
              refine wpAnyIn_ready (rs := [8]) (by kernel_rfl) (by simp) (AllReadyIn.cons rfl (fun K hK => ?_) AllReadyIn.nil)
              go_simp
              refine hK _ _ ?_
              clear hK K
              refine wpAnyIn_done (by kernel_rfl) ?_ _
              refine ⟨rfl, rfl, r2, ?_⟩
              exact (hB0.drew.trans (HB1.out.mono (by show _ ≤ W0.heap.size; omega))).trans (HB2.out.mono (by have : W0.heap.size ≤ w1.heap.size := z1; omega))
          · skip
            go_simp
            gi_wp2_with (gi_at_call 19; refine (HL.out _).mono ?_; rintro e w1 ⟨rfl, hb1⟩; have r1 := (hb1.block (w.heap.size + 1) (by show _ < W0.heap.size; omega)).trans r0; have z1 := hb1.size; have HB1 := Lib.hid hb1; clear hb1)
            refine wpAnyIn_take (i := 4) (v := ?v13) hro rfl (by kernel_rfl) (by kernel_rfl) (by kernel_rfl) (fun _ _ _ h => by cases h.1) ⟨Or.inl ⟨by rfl, ?y13⟩, fun _ => rfl⟩ ?r13
            case y13 => intro w; go_simp; try with_reducible rfl
            case r13 =>
              refine wpAnyIn_ready (rs := [0, 5]) (by kernel_rfl) (by simp) (AllReadyIn.cons rfl (fun K hK => ?_) (AllReadyIn.cons rfl (fun K hK => ?_) AllReadyIn.nil))
              · skip
                refine stepIn_load_row rfl 70 _ rfl (w.heap.size + 1) rfl 70 #[.int .i64 v0, .int .i64 v1, .int .i64 v2, .int .i64 v3, .int .i64 v4, .int .i64 v5, .int .i64 v6, .int .i64 v7] (0, 0) _ r1 Try.underlying70 rfl HI ?_
                refine hK _ _ ?_
                clear hK K
                refine wpAnyIn_ready (rs := [5]) (by kernel_rfl) (by simp) (AllReadyIn.cons rfl (fun K hK => ?_) AllReadyIn.nil)
                have c5 : World.cell? w1 ⟨w.heap.size + 1, k0, none⟩ = some (.int .i64 z0) := by
                  have h5 := RowBox.cell (zs := [v0, v1, v2, v3, v4, v5, v6, v7]) (i := k0) r1 (by simpa using hk8)
                  rw [← hz0]
                  exact h5
                go_simp
                refine hK _ _ ?_
                clear hK K
                refine wpAnyIn_ready (rs := [6]) (by kernel_rfl) (by simp) (AllReadyIn.cons rfl (fun K hK => ?_) AllReadyIn.nil)
                go_simp
                gi_wp2_with (gi_at_call 64; refine (HFl.out _).mono ?_; rintro e w2 ⟨rfl, hb2⟩; have r2 := (hb2.block (w.heap.size + 1) (by have : W0.heap.size ≤ w1.heap.size := z1; omega)).trans r1; have HB2 := Lib.hid hb2; clear hb2)
                refine wpAnyIn_ready (rs := [8]) (by kernel_rfl) (by simp) (AllReadyIn.cons rfl (fun K hK => ?_) AllReadyIn.nil)
                go_simp
                refine hK _ _ ?_
                clear hK K
                refine wpAnyIn_done (by kernel_rfl) ?_ _
                refine ⟨rfl, rfl, r2, ?_⟩
                exact (hB0.drew.trans (HB1.out.mono (by show _ ≤ W0.heap.size; omega))).trans (HB2.out.mono (by have : W0.heap.size ≤ w1.heap.size := z1; omega))
              · skip
                have c5 : World.cell? w1 ⟨w.heap.size + 1, k0, none⟩ = some (.int .i64 z0) := by
                  have h5 := RowBox.cell (zs := [v0, v1, v2, v3, v4, v5, v6, v7]) (i := k0) r1 (by simpa using hk8)
                  rw [← hz0]
                  exact h5
                go_simp
                refine hK _ _ ?_
                clear hK K
                refine wpAnyIn_ready (rs := [0]) (by kernel_rfl) (by simp) (AllReadyIn.cons rfl (fun K hK => ?_) AllReadyIn.nil)
                refine stepIn_load_row rfl 70 _ rfl (w.heap.size + 1) rfl 70 #[.int .i64 v0, .int .i64 v1, .int .i64 v2, .int .i64 v3, .int .i64 v4, .int .i64 v5, .int .i64 v6, .int .i64 v7] (0, 0) _ r1 Try.underlying70 rfl HI ?_
                refine hK _ _ ?_
                clear hK K
                refine wpAnyIn_ready (rs := [6]) (by kernel_rfl) (by simp) (AllReadyIn.cons rfl (fun K hK => ?_) AllReadyIn.nil)
                go_simp
                gi_wp2_with (gi_at_call 64; refine (HFl.out _).mono ?_; rintro e w2 ⟨rfl, hb2⟩; have r2 := (hb2.block (w.heap.size + 1) (by have : W0.heap.size ≤ w1.heap.size := z1; omega)).trans r1; have HB2 := Lib.hid hb2; clear hb2)
                refine wpAnyIn_ready (rs := [8]) (by kernel_rfl) (by simp) (AllReadyIn.cons rfl (fun K hK => ?_) AllReadyIn.nil)
                go_simp
                refine hK _ _ ?_
                clear hK K
                refine wpAnyIn_done (by kernel_rfl) ?_ _
                refine ⟨rfl, rfl, r2, ?_⟩
                exact (hB0.drew.trans (HB1.out.mono (by show _ ≤ W0.heap.size; omega))).trans (HB2.out.mono (by have : W0.heap.size ≤ w1.heap.size := z1; omega))
  case h2 =>
    rintro w' ⟨r0, hB0⟩
    have R0 := Lib.hid r0
    have HB0 := Lib.hid hB0
    clear r0 hB0
    gi_wp2
    go_ret
    rw [HG.out]
    exact ⟨_, 1, rfl, ownU_one w' X HB0.out.size, HB0.out.alloc HB0.out.size _⟩

end Go.Proofs.Ytgaphgffchifcaa
