/- The contract of the program's Longest: the longest run of free bits below a width, the lowest of them. -/
import Derived.Test.YtefcaeldkdbjdaaILow
import Derived.Test.YtefcaeldkdbjdaaLongMath
namespace Go.Proofs.Ytefcaeldkdbjdaa
open Go.RowKit Go.Shelf

attribute [local go_sem] Oper.semAt_some

theorem boxed_drew {W : World} {B : Nat} {t : TypeId} {v : Value} (h : Boxed W B t v) : Boxed W.drew B t v := h
theorem keepsBox_more {B b o : Nat} {W W' : World} {u : Value} (h : KeepsBox B W W') (hb : b ≠ B) : KeepsBox B W (W'.setCell ⟨b, o, none⟩ u) := keepsBox_t h (keepsBox_set _ hb _ _)
/-- A box of this type stands there. -/
def HasBox (W : World) (B : Nat) (t : TypeId) : Prop := ∃ v, Boxed W B t v
theorem hasBox {W : World} {B : Nat} {t : TypeId} {v : Value} (h : Boxed W B t v) : HasBox W B t := ⟨v, h⟩
theorem hasBox_any {W : World} {B B' : Nat} {t : TypeId} {u : Value} (h : HasBox W B t) : HasBox (W.setCell ⟨B', 0, none⟩ u) B t := by
  obtain ⟨v, h⟩ := h
  by_cases e : B = B'
  · subst e; exact ⟨_, h.set u⟩
  · exact ⟨_, h.other e u⟩
theorem boxed_put {W : World} {B : Nat} {t : TypeId} {u : Value} (h : HasBox W B t) : Boxed (W.setCell ⟨B, 0, none⟩ u) B t u := by
  obtain ⟨v, h⟩ := h
  exact h.set u
theorem keepsBox_refl {B : Nat} {W : World} : KeepsBox B W W := rfl
theorem keepsBox_drew {B : Nat} {W W' : World} (h : KeepsBox B W W') : KeepsBox B W W'.drew := h
theorem vals_bounds (pre : List (Fin 32)) : (pass (vals pre)).best < 32 ∧ (pass (vals pre)).most ≤ pre.length ∧ (pass (vals pre)).start < 32 ∧ (pass (vals pre)).n ≤ pre.length := by
  have h := pass_bounds (vals pre).reverse (fun k hk => by
    rw [List.mem_reverse] at hk
    obtain ⟨i, _, rfl⟩ := List.mem_map.1 hk
    exact i.isLt)
  rw [List.reverse_reverse, List.length_reverse, vals_len] at h
  exact h

set_option maxRecDepth 100000 in
set_option maxHeartbeats 4000000 in
theorem longest_in (F : Fence) (n X : Nat) (N : Int) (w : World) (hX : X < 4294967296) (hN : IsWidth N) (h3 : F.fn 20) (h4 : F.fn 33) (h7 : F.fn 35) (h5 : F.fn 34) (h6 : F.fn 45) (hro : F.round = none) (hn : 3 ≤ n) :
    CallsIn F n Try.prog 20 #[.int .u32 (X : Int), .int .i64 N] w fun e w' => (∃ b m : Nat, e = .returned (.tuple #[.int .i64 (b : Int), .int .i64 (m : Int)]) ∧ Best (freeV X N) b m) ∧ Below w.heap.size w w' := by
  have HX := Lib.hid hX
  have HF := Lib.hid (free_form hX N)
  have hw := isWidth_in F (n - 1) h4 hro N
  rw [decide_eq_true hN] at hw
  have HW := Lib.hid hw
  have h1 : 1 ≤ n := by omega
  have h1' : 1 ≤ n - 1 := by omega
  have hmx := mixed
  clear hX hw hN
  refine callsIn_of_wp_marks Try.func20 rfl h3 ?_ hro
  simp only [Try.ntmps20, List.size_toArray, List.length_cons, List.length_nil, Nat.reduceAdd, Nat.reduceSub, Array.replicate_succ, Array.replicate_zero, List.push_toArray, List.append_toArray, List.nil_append, List.cons_append]
  gi_wp2_with (first | (gi_at_call 33; refine (HW.out _).mono ?_; rintro e w' ⟨rfl, rfl⟩) | (gi_at_call 35; refine (maskOf_in F (n - 1) h7 h4 h1' hro N _).mono ?_; rintro e w' ⟨rfl, rfl⟩))
  rw [HF.out]
  gi_wp2_with (gi_at_call 34; refine (oneBits_in F (n - 1) h5 hro _ _).mono ?_; rintro e w' ⟨rfl, rfl⟩)
  have b1 := Boxed.new w 3 (.int .i64 0)
  have b2 := Boxed.new (w.alloc (.cells #[.int .i64 0] 3)) 3 (.int .i64 0)
  have b3 := Boxed.new ((w.alloc (.cells #[.int .i64 0] 3)).alloc (.cells #[.int .i64 0] 3)) 3 (.int .i64 0)
  have b4 := Boxed.new (((w.alloc (.cells #[.int .i64 0] 3)).alloc (.cells #[.int .i64 0] 3)).alloc (.cells #[.int .i64 0] 3)) 3 (.int .i64 0)
  have hb := Boxed.new ((((w.alloc (.cells #[.int .i64 0] 3)).alloc (.cells #[.int .i64 0] 3)).alloc (.cells #[.int .i64 0] 3)).alloc (.cells #[.int .i64 0] 3)) 36 (.int .u32 (freeV X N : Int))
  simp only [World.size_alloc] at b2 b3 b4 hb
  have hB0 : Below w.heap.size w (((((w.alloc (.cells #[.int .i64 0] 3)).alloc (.cells #[.int .i64 0] 3)).alloc (.cells #[.int .i64 0] 3)).alloc (.cells #[.int .i64 0] 3)).alloc (.cells #[.int .u32 (freeV X N : Int)] 36)) := (((((Below.refl _ w).alloc (Nat.le_refl _) _).alloc (by simp) _).alloc (by simp; omega) _).alloc (by simp; omega) _).alloc (by simp; omega) _
  refine wpIn_rangeFunc_ownF hro h1 (gf := 45) (lb := #[.pointer (some ⟨w.heap.size + 1 + 1 + 1 + 1, 0, none⟩)]) rfl h6 (enters_of Try.func45 (by kernel_rfl) rfl)
    (iter_stops F (n - 1) h6 hro (by omega) (w.heap.size + 1 + 1 + 1 + 1) (freeV X N) (freeV_lt X N) _ (by simp) hb.cell) keepsBox_t (keepsBox_b (by simp)) (Below.refl _ _) (fun _ => rfl)
    (fun pre W => (Boxed W w.heap.size 3 (.int .i64 ((pass (vals pre)).best : Int)) ∧ (Boxed W (w.heap.size + 1) 3 (.int .i64 ((pass (vals pre)).most : Int)) ∧ (Boxed W (w.heap.size + 1 + 1) 3 (.int .i64 ((pass (vals pre)).start : Int)) ∧ Boxed W (w.heap.size + 1 + 1 + 1) 3 (.int .i64 ((pass (vals pre)).n : Int))))) ∧ Below w.heap.size w W)
    (fun _ _ _ => False)
    (OwnFrom.and (OwnFrom.and (Go.Own.from (boxed_own _ _ _) _) (OwnFrom.and (Go.Own.from (boxed_own _ _ _) _) (OwnFrom.and (Go.Own.from (boxed_own _ _ _) _) (Go.Own.from (boxed_own _ _ _) _)))) (ownFrom_below (Nat.le_refl _) (by simp; omega)))
    (fun _ _ _ _ _ hs _ _ => hs)
    ⟨⟨(((b1.alloc _).alloc _).alloc _).alloc _, ((b2.alloc _).alloc _).alloc _, (b3.alloc _).alloc _, b4.alloc _⟩, hB0⟩
    ?a1 ?assign ?body ?done ?stop
  case assign =>
    intro l x W K hK
    gi_wp2
    exact hK
  case body =>
    rintro l pre x W ⟨⟨v1, v2, v3, v4⟩, hB⟩ hlt
    have hx := x.isLt
    have hbd := vals_bounds pre
    have HP := Lib.hid (congrArg pass (vals_snoc pre x))
    rw [pass_snoc] at HP
    generalize pass (vals pre) = s at *
    obtain ⟨b, m, st, q⟩ := s
    simp only at v1 v2 v3 v4 hbd
    obtain ⟨q1, q2, q3, q4⟩ := hbd
    have c1 := v1.cell
    have f1 := v1.frozen
    have c2 := v2.cell
    have f2 := v2.frozen
    have c3 := v3.cell
    have f3 := v3.frozen
    have c4 := v4.cell
    have f4 := v4.frozen
    by_cases he : x.val = st + q
    · have hne : ((x.val : Int) != (st : Int) + (q : Int)) = false := by simp; omega
      by_cases hm : m < q + 1
      · have hm' : (m : Int) < (q : Int) + 1 := by omega
        have HE : Hid ((LS.mk b m st q).step x.val = ⟨st, q + 1, st, q + 1⟩) := by
          show _ = _
          simp [LS.step, LS.st, LS.n1, he, hm]
        gi_wp2
        gi_region_o
        all_goals gi_wp2
        all_goals
          refine ⟨by repeat (first | with_reducible exact KeepsOthers.refl _ | with_reducible refine KeepsOthers.trans ?_ (KeepsOthers.drew _) | with_reducible refine KeepsOthers.trans ?_ (KeepsOthers.setCell _ _ _)), by repeat (first | with_reducible exact keepsBox_refl | with_reducible refine keepsBox_drew ?_ | with_reducible refine keepsBox_more ?_ (by omega)), ?_, by repeat (first | with_reducible exact hB | with_reducible refine Below.drew ?_ | with_reducible refine Below.setCell ?_ (by simp; try omega) _)⟩
          rw [HP.out]
          rw [HE.out]; push_cast
          refine ⟨?_, ?_, ?_, ?_⟩
          all_goals repeat (first | with_reducible exact v1 | with_reducible exact v2 | with_reducible exact v3 | with_reducible exact v4 | with_reducible refine boxed_drew ?_ | with_reducible refine boxed_put ?_ | with_reducible exact hasBox v1 | with_reducible exact hasBox v2 | with_reducible exact hasBox v3 | with_reducible exact hasBox v4 | with_reducible refine hasBox_any ?_ | with_reducible refine Boxed.other ?_ (by omega) _)
      · have hm' : (q : Int) + 1 ≤ (m : Int) := by omega
        have HE : Hid ((LS.mk b m st q).step x.val = ⟨b, m, st, q + 1⟩) := by
          show _ = _
          simp [LS.step, LS.st, LS.n1, he, hm]
        gi_wp2
        all_goals
          refine ⟨by repeat (first | with_reducible exact KeepsOthers.refl _ | with_reducible refine KeepsOthers.trans ?_ (KeepsOthers.drew _) | with_reducible refine KeepsOthers.trans ?_ (KeepsOthers.setCell _ _ _)), by repeat (first | with_reducible exact keepsBox_refl | with_reducible refine keepsBox_drew ?_ | with_reducible refine keepsBox_more ?_ (by omega)), ?_, by repeat (first | with_reducible exact hB | with_reducible refine Below.drew ?_ | with_reducible refine Below.setCell ?_ (by simp; try omega) _)⟩
          rw [HP.out]
          rw [HE.out]; push_cast
          refine ⟨?_, ?_, ?_, ?_⟩
          all_goals repeat (first | with_reducible exact v1 | with_reducible exact v2 | with_reducible exact v3 | with_reducible exact v4 | with_reducible refine boxed_drew ?_ | with_reducible refine boxed_put ?_ | with_reducible exact hasBox v1 | with_reducible exact hasBox v2 | with_reducible exact hasBox v3 | with_reducible exact hasBox v4 | with_reducible refine hasBox_any ?_ | with_reducible refine Boxed.other ?_ (by omega) _)
    · have hne : ((x.val : Int) != (st : Int) + (q : Int)) = true := by simp; omega
      have y3 := v3.set (.int .i64 (x.val : Int))
      have y4 := v4.other (B' := w.heap.size + 1 + 1) (by omega) (.int .i64 (x.val : Int))
      have e4 := y4.cell
      have g4 := y4.frozen
      have z4 := y4.set (.int .i64 0)
      have c5 := z4.cell
      have f5 := z4.frozen
      have x4 := z4.set (.int .i64 1)
      have c6 := x4.cell
      have f6 := x4.frozen
      have x3 := (y3.other (B' := w.heap.size + 1 + 1 + 1) (by omega) (.int .i64 0)).other (B' := w.heap.size + 1 + 1 + 1) (by omega) (.int .i64 1)
      have c7 := x3.cell
      have x2 := ((v2.other (B' := w.heap.size + 1 + 1) (by omega) (.int .i64 (x.val : Int))).other (B' := w.heap.size + 1 + 1 + 1) (by omega) (.int .i64 0)).other (B' := w.heap.size + 1 + 1 + 1) (by omega) (.int .i64 1)
      have c8 := x2.cell
      have f8 := x2.frozen
      have x1 := ((v1.other (B' := w.heap.size + 1 + 1) (by omega) (.int .i64 (x.val : Int))).other (B' := w.heap.size + 1 + 1 + 1) (by omega) (.int .i64 0)).other (B' := w.heap.size + 1 + 1 + 1) (by omega) (.int .i64 1)
      have c9 := x1.cell
      have f9 := x1.frozen
      by_cases hm : m < 1
      · have hm' : (m : Int) < 1 := by omega
        have HE : Hid ((LS.mk b m st q).step x.val = ⟨x.val, 1, x.val, 1⟩) := by
          show _ = _
          simp [LS.step, LS.st, LS.n1, he, hm]
        gi_wp2
        gi_region_o
        all_goals gi_wp2
        all_goals
          refine ⟨by repeat (first | with_reducible exact KeepsOthers.refl _ | with_reducible refine KeepsOthers.trans ?_ (KeepsOthers.drew _) | with_reducible refine KeepsOthers.trans ?_ (KeepsOthers.setCell _ _ _)), by repeat (first | with_reducible exact keepsBox_refl | with_reducible refine keepsBox_drew ?_ | with_reducible refine keepsBox_more ?_ (by omega)), ?_, by repeat (first | with_reducible exact hB | with_reducible refine Below.drew ?_ | with_reducible refine Below.setCell ?_ (by simp; try omega) _)⟩
          rw [HP.out]
          rw [HE.out]; push_cast
          refine ⟨?_, ?_, ?_, ?_⟩
          all_goals repeat (first | with_reducible exact v1 | with_reducible exact v2 | with_reducible exact v3 | with_reducible exact v4 | with_reducible refine boxed_drew ?_ | with_reducible refine boxed_put ?_ | with_reducible exact hasBox v1 | with_reducible exact hasBox v2 | with_reducible exact hasBox v3 | with_reducible exact hasBox v4 | with_reducible refine hasBox_any ?_ | with_reducible refine Boxed.other ?_ (by omega) _)
      · have hm' : (1 : Int) ≤ (m : Int) := by omega
        have HE : Hid ((LS.mk b m st q).step x.val = ⟨b, m, x.val, 1⟩) := by
          show _ = _
          simp [LS.step, LS.st, LS.n1, he, hm]
        gi_wp2
        all_goals
          refine ⟨by repeat (first | with_reducible exact KeepsOthers.refl _ | with_reducible refine KeepsOthers.trans ?_ (KeepsOthers.drew _) | with_reducible refine KeepsOthers.trans ?_ (KeepsOthers.setCell _ _ _)), by repeat (first | with_reducible exact keepsBox_refl | with_reducible refine keepsBox_drew ?_ | with_reducible refine keepsBox_more ?_ (by omega)), ?_, by repeat (first | with_reducible exact hB | with_reducible refine Below.drew ?_ | with_reducible refine Below.setCell ?_ (by simp; try omega) _)⟩
          rw [HP.out]
          rw [HE.out]; push_cast
          refine ⟨?_, ?_, ?_, ?_⟩
          all_goals repeat (first | with_reducible exact v1 | with_reducible exact v2 | with_reducible exact v3 | with_reducible exact v4 | with_reducible refine boxed_drew ?_ | with_reducible refine boxed_put ?_ | with_reducible exact hasBox v1 | with_reducible exact hasBox v2 | with_reducible exact hasBox v3 | with_reducible exact hasBox v4 | with_reducible refine hasBox_any ?_ | with_reducible refine Boxed.other ?_ (by omega) _)
  case done =>
    rintro D ys W hD hS ⟨⟨v1, v2, v3, v4⟩, hB⟩ hK
    have hS' : vals ys = onesTo (freeV X N) 32 := hS
    rw [hS'] at v1 v2 v3 v4
    have HBest := Lib.hid (pass_best (freeV_lt X N))
    have c1 := v1.cell
    have c2 := v2.cell
    gi_wp2
    gi_region_o
    all_goals gi_wp2
    all_goals
      have hK' : W.drew.heap[D]? = some (.deferred (some [])) := hK
      refine ⟨by simp, .inl ⟨_, _, rfl, run_takeDeferred hK', ?_⟩⟩
      exact ⟨_, results_tmp2 rfl _ _ _, ⟨_, _, rfl, HBest.out⟩, hB.drew.trans (belowK_b (w := w) (Nat.le_refl _) W.drew D _ _ (by simp at hD; omega) hK' rfl rfl)⟩
  case stop =>
    rintro D c pre W _ _ h _
    exact h.elim

theorem longest_no (X : Nat) (N : Int) (w : World) (hN : ¬ IsWidth N) :
    Calls Try.prog 20 #[.int .u32 (X : Int), .int .i64 N] w fun e w' => e = .returned (.tuple #[.int .i64 (-1), .int .i64 0]) ∧ w = w' := by
  have hw := callsIn_wide.1 (isWidth_in Fence.wide 1 trivial rfl N w)
  rw [decide_eq_false hN] at hw
  have HW := Lib.hid hw
  clear hw hN
  go_enter Try.func20, Try.ntmps20
  go_wp2_with fail
  refine HW.out.mono ?_
  rintro e w1 ⟨rfl, rfl⟩
  go_wp2
  go_ret2
  exact ⟨rfl, rfl⟩

theorem longest_any (X : Nat) (N : Int) (w : World) (hX : X < 4294967296) (hN : IsWidth N) :
    Calls Try.prog 20 #[.int .u32 (X : Int), .int .i64 N] w fun e w' => (∃ b m : Nat, e = .returned (.tuple #[.int .i64 (b : Int), .int .i64 (m : Int)]) ∧ Best (freeV X N) b m) ∧ Below w.heap.size w w' :=
  callsIn_wide.1 (longest_in Fence.wide 3 X N w hX hN trivial trivial trivial trivial trivial rfl (Nat.le_refl _))

end Go.Proofs.Ytefcaeldkdbjdaa
