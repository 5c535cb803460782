/- The contract of the program's Spread: the row with the lanes of the mask overwritten, in memory of its own. -/
import Derived.Test.YtgaphgffchifcaaRowBox
namespace Go.Proofs.Ytgaphgffchifcaa
open Go.RowKit Go.Shelf

attribute [local go_sem] Oper.semAt_some

/-- One lane: it takes the value of its rank, where there is one. -/
def sprStep (X : Nat) (vs : List Int) (r : List Int) (k : Nat) : List Int := if rankV X (k : Int) < (vs.length : Int) then r.set k (vs[(rankV X (k : Int)).toNat]?.getD 0) else r
def spr (X : Nat) (vs zs : List Int) (l : List Nat) : List Int := l.foldl (sprStep X vs) zs
theorem sprStep_len (X : Nat) (vs r : List Int) (k : Nat) : (sprStep X vs r k).length = r.length := by unfold sprStep; split <;> simp
theorem spr_len (X : Nat) (vs : List Int) : ∀ (l : List Nat) (zs : List Int), (spr X vs zs l).length = zs.length := by
  intro l
  induction l with
  | nil => intro zs; rfl
  | cons k l ih => intro zs; show (spr X vs (sprStep X vs zs k) l).length = _; rw [ih, sprStep_len]
theorem spr_snoc (X : Nat) (vs zs : List Int) (l : List Nat) (k : Nat) : spr X vs zs (l ++ [k]) = sprStep X vs (spr X vs zs l) k := by simp [spr]
theorem RowBox.own {W : World} {B n : Nat} {zs : List Int} (h : RowBox W B zs) (hl : zs.length = 8) (hb : n ≤ B) : OwnK 70 .i64 W n (some ⟨B, 0, none⟩) 8 8 zs :=
  ⟨by simp [hl], .inr ⟨B, 8, rowC zs, rfl, hb, h, Nat.le_refl _, by unfold maxLen; omega, by simp [rowC, hl], by simp only [rowC, Nat.mul_one]; rw [List.take_of_length_le (by simp [hl])]⟩⟩

set_option maxRecDepth 100000 in
set_option maxHeartbeats 4000000 in
theorem spread_in (F : Fence) (n : Nat) (A A2 : Option Addr) (c B X m2 c2 : Nat) (v0 v1 v2 v3 v4 v5 v6 v7 : Int) (us : List Int) (w : World) (h : RdK .i64 w w.heap.size A 8 [v0, v1, v2, v3, v4, v5, v6, v7]) (h2 : RdK .i64 w w.heap.size A2 m2 us) (hX : X < 256) (h0 : F.fn 36) (hrw : F.fn 63) (hf : F.fn 53) (hm : F.fn 59) (hg : F.fn 72) (h5 : F.fn 54) (hr : F.fn 18) (hh : F.fn 57) (ho : F.fn 58) (h6 : F.fn 70) (hro : F.round = none) (hn : 7 ≤ n) :
    CallsIn F n Try.prog 36 #[.slice A 8 c, .int .u32 (X : Int), .slice A2 m2 c2] w fun e w' => ∃ A' c', e = .returned (.slice A' 8 c') ∧ OwnK 70 .i64 w' w.heap.size A' 8 c' (spr X us [v0, v1, v2, v3, v4, v5, v6, v7] (onesTo X 32)) ∧ Below w.heap.size w w' := by
  have hX32 : X < 4294967296 := by omega
  have HM : Hid (∀ W, CallsIn F (n - 1) Try.prog 53 #[.int .u32 (X : Int)] W fun e w' => e = .returned (.bool (decide (X < 256))) ∧ W = w') := fun W => isMask_in F (n - 1) X W hX32 hf hm hg (by omega) hro
  rw [decide_eq_true hX] at HM
  have HRW := Lib.hid (rowOf_in F (n - 1) hrw hro A c w.heap.size v0 v1 v2 v3 v4 v5 v6 v7 ((w.alloc (.cells #[.int .u32 (X : Int)] 24)).alloc (.cells #[.slice A2 m2 c2] 33)) ((h.alloc (Nat.le_refl _) _).alloc (by simp) _) (by simp; omega))
  have HR : Hid (∀ (L : Int) W, CallsIn F (n - 1 - 1 - 1) Try.prog 18 #[.int .u32 (X : Int), .int .i64 L] W fun e w' => e = .returned (.int .i64 (rankV X L)) ∧ Below W.heap.size W w') := fun L W => rankOf_in F (n - 1 - 1 - 1) X L W hX32 hr hh hf hm hg ho h5 h6 (by omega) hro
  have h1 : 1 ≤ n := by omega
  have HX := Lib.hid hX32
  have HX8 := Lib.hid hX
  have HU := Lib.hid h2
  clear hX hX32 h h2
  refine callsIn_of_wp_marks Try.func36 rfl h0 ?_ hro
  simp only [Try.ntmps36, List.size_toArray, List.length_cons, List.length_nil, Nat.reduceAdd, Nat.reduceSub, Array.replicate_succ, Array.replicate_zero, List.push_toArray, List.append_toArray, List.nil_append, List.cons_append]
  gi_wp2_with (first | (gi_at_call 63; refine HRW.out.mono ?_; rintro e w' ⟨rfl, rfl⟩) | (gi_at_call 53; refine (HM.out _).mono ?_; rintro e w' ⟨rfl, rfl⟩) | (gi_at_call 54; refine (oneBits_in F (n - 1) h5 hro _ _).mono ?_; rintro e w' ⟨rfl, rfl⟩))
  have hB0 : Below w.heap.size w (((((w.alloc (.cells #[.int .u32 (X : Int)] 24)).alloc (.cells #[.slice A2 m2 c2] 33)).alloc (.cells #[.int .i64 v0, .int .i64 v1, .int .i64 v2, .int .i64 v3, .int .i64 v4, .int .i64 v5, .int .i64 v6, .int .i64 v7] 70)).alloc (.cells #[.int .i64 v0, .int .i64 v1, .int .i64 v2, .int .i64 v3, .int .i64 v4, .int .i64 v5, .int .i64 v6, .int .i64 v7] 70)).alloc (.cells #[.int .u32 (X : Int)] 24)) := (((((Below.refl _ w).alloc (Nat.le_refl _) _).alloc (by simp) _).alloc (by simp; omega) _).alloc (by simp; omega) _).alloc (by simp; omega) _
  have bM : Boxed (((((w.alloc (.cells #[.int .u32 (X : Int)] 24)).alloc (.cells #[.slice A2 m2 c2] 33)).alloc (.cells #[.int .i64 v0, .int .i64 v1, .int .i64 v2, .int .i64 v3, .int .i64 v4, .int .i64 v5, .int .i64 v6, .int .i64 v7] 70)).alloc (.cells #[.int .i64 v0, .int .i64 v1, .int .i64 v2, .int .i64 v3, .int .i64 v4, .int .i64 v5, .int .i64 v6, .int .i64 v7] 70)).alloc (.cells #[.int .u32 (X : Int)] 24)) w.heap.size 24 (.int .u32 (X : Int)) := ((((Boxed.new w 24 (.int .u32 (X : Int))).alloc _).alloc _).alloc _).alloc _
  have bU : Boxed (((((w.alloc (.cells #[.int .u32 (X : Int)] 24)).alloc (.cells #[.slice A2 m2 c2] 33)).alloc (.cells #[.int .i64 v0, .int .i64 v1, .int .i64 v2, .int .i64 v3, .int .i64 v4, .int .i64 v5, .int .i64 v6, .int .i64 v7] 70)).alloc (.cells #[.int .i64 v0, .int .i64 v1, .int .i64 v2, .int .i64 v3, .int .i64 v4, .int .i64 v5, .int .i64 v6, .int .i64 v7] 70)).alloc (.cells #[.int .u32 (X : Int)] 24)) (w.heap.size + 1) 33 (.slice A2 m2 c2) := by
    have := Boxed.new (w.alloc (.cells #[.int .u32 (X : Int)] 24)) 33 (.slice A2 m2 c2)
    simp only [World.size_alloc] at this
    exact ((this.alloc _).alloc _).alloc _
  have rB : RowBox (((((w.alloc (.cells #[.int .u32 (X : Int)] 24)).alloc (.cells #[.slice A2 m2 c2] 33)).alloc (.cells #[.int .i64 v0, .int .i64 v1, .int .i64 v2, .int .i64 v3, .int .i64 v4, .int .i64 v5, .int .i64 v6, .int .i64 v7] 70)).alloc (.cells #[.int .i64 v0, .int .i64 v1, .int .i64 v2, .int .i64 v3, .int .i64 v4, .int .i64 v5, .int .i64 v6, .int .i64 v7] 70)).alloc (.cells #[.int .u32 (X : Int)] 24)) (w.heap.size + 1 + 1 + 1) [v0, v1, v2, v3, v4, v5, v6, v7] := by
    have := RowBox.new (((w.alloc (.cells #[.int .u32 (X : Int)] 24)).alloc (.cells #[.slice A2 m2 c2] 33)).alloc (.cells #[.int .i64 v0, .int .i64 v1, .int .i64 v2, .int .i64 v3, .int .i64 v4, .int .i64 v5, .int .i64 v6, .int .i64 v7] 70)) [v0, v1, v2, v3, v4, v5, v6, v7]
    simp only [World.size_alloc] at this
    exact this.alloc _
  have bN : Boxed (((((w.alloc (.cells #[.int .u32 (X : Int)] 24)).alloc (.cells #[.slice A2 m2 c2] 33)).alloc (.cells #[.int .i64 v0, .int .i64 v1, .int .i64 v2, .int .i64 v3, .int .i64 v4, .int .i64 v5, .int .i64 v6, .int .i64 v7] 70)).alloc (.cells #[.int .i64 v0, .int .i64 v1, .int .i64 v2, .int .i64 v3, .int .i64 v4, .int .i64 v5, .int .i64 v6, .int .i64 v7] 70)).alloc (.cells #[.int .u32 (X : Int)] 24)) (w.heap.size + 1 + 1 + 1 + 1) 24 (.int .u32 (X : Int)) := by
    have := Boxed.new ((((w.alloc (.cells #[.int .u32 (X : Int)] 24)).alloc (.cells #[.slice A2 m2 c2] 33)).alloc (.cells #[.int .i64 v0, .int .i64 v1, .int .i64 v2, .int .i64 v3, .int .i64 v4, .int .i64 v5, .int .i64 v6, .int .i64 v7] 70)).alloc (.cells #[.int .i64 v0, .int .i64 v1, .int .i64 v2, .int .i64 v3, .int .i64 v4, .int .i64 v5, .int .i64 v6, .int .i64 v7] 70)) 24 (.int .u32 (X : Int))
    simp only [World.size_alloc] at this
    exact this
  have hsz : (((((w.alloc (.cells #[.int .u32 (X : Int)] 24)).alloc (.cells #[.slice A2 m2 c2] 33)).alloc (.cells #[.int .i64 v0, .int .i64 v1, .int .i64 v2, .int .i64 v3, .int .i64 v4, .int .i64 v5, .int .i64 v6, .int .i64 v7] 70)).alloc (.cells #[.int .i64 v0, .int .i64 v1, .int .i64 v2, .int .i64 v3, .int .i64 v4, .int .i64 v5, .int .i64 v6, .int .i64 v7] 70)).alloc (.cells #[.int .u32 (X : Int)] 24)).heap.size = w.heap.size + 5 := by simp
  obtain ⟨W0, hW0⟩ : ∃ W0, (((((w.alloc (.cells #[.int .u32 (X : Int)] 24)).alloc (.cells #[.slice A2 m2 c2] 33)).alloc (.cells #[.int .i64 v0, .int .i64 v1, .int .i64 v2, .int .i64 v3, .int .i64 v4, .int .i64 v5, .int .i64 v6, .int .i64 v7] 70)).alloc (.cells #[.int .i64 v0, .int .i64 v1, .int .i64 v2, .int .i64 v3, .int .i64 v4, .int .i64 v5, .int .i64 v6, .int .i64 v7] 70)).alloc (.cells #[.int .u32 (X : Int)] 24)) = W0 := ⟨_, rfl⟩
  rw [hW0] at hB0 rB bM bU bN hsz ⊢
  clear hW0 HRW HM
  have hlen : ([v0, v1, v2, v3, v4, v5, v6, v7] : List Int).length = 8 := rfl
  obtain ⟨zs, hzs⟩ : ∃ zs, ([v0, v1, v2, v3, v4, v5, v6, v7] : List Int) = zs := ⟨_, rfl⟩
  rw [hzs] at rB hlen
  refine wpIn_rangeFunc_ownF hro h1 (gf := 70) (lb := #[.pointer (some ⟨w.heap.size + 1 + 1 + 1 + 1, 0, none⟩)]) rfl h6 (enters_of Try.func70 (by kernel_rfl) rfl)
    (iterX_stops F (n - 1) h6 hro (by omega) (w.heap.size + 1 + 1 + 1 + 1) X HX.out W0 (by omega) bN.cell) keepsBox_t (keepsBox_b (by omega)) (Below.refl _ _) (fun _ => rfl)
    (fun pre W => (RowBox W (w.heap.size + 1 + 1 + 1) (spr X us zs (valsX pre)) ∧ (Boxed W w.heap.size 24 (.int .u32 (X : Int)) ∧ (Boxed W (w.heap.size + 1) 33 (.slice A2 m2 c2) ∧ Boxed W (w.heap.size + 1 + 1 + 1 + 1) 24 (.int .u32 (X : Int))))) ∧ Below w.heap.size w W)
    (fun _ _ _ => False)
    (OwnFrom.and (OwnFrom.and (Go.Own.from (rowBox_own _ _) _) (OwnFrom.and (Go.Own.from (boxed_own _ _ _) _) (OwnFrom.and (Go.Own.from (boxed_own _ _ _) _) (Go.Own.from (boxed_own _ _ _) _)))) (ownFrom_below (Nat.le_refl _) (by omega)))
    (fun _ _ _ _ _ hs _ _ => hs)
    ⟨⟨rB, bM, bU, bN⟩, hB0⟩
    ?a1 ?assign ?body ?done ?stop
  case assign =>
    intro l x W K hK
    gi_wp2
    exact hK
  case body =>
    rintro l pre x W ⟨⟨r1, v1, v2, v4⟩, hB⟩ hlt
    have hd : 1 ≤ n - 1 - 1 := by omega
    have hc1 := v1.cell
    have hx8 : x.val < 8 := bit_lt_8 HX8.out x.2
    have hx8' : (x.val : Int) < 8 := by omega
    have hrk := rankV_hit HX8.out x.2
    have HRx := HR.out (x.val : Int)
    have HST : Hid (spr X us zs (valsX (pre ++ [x])) = sprStep X us (spr X us zs (valsX pre)) x.val) := by
      show _ = _
      rw [valsX_snoc, spr_snoc]
    have hln : (spr X us zs (valsX pre)).length = 8 := by rw [spr_len, hlen]
    generalize spr X us zs (valsX pre) = rr at *
    unfold sprStep at HST
    rw [hrk] at HRx HST
    rw [Int.toNat_natCast] at HST
    have hul := HU.out.1
    rw [hul] at HST
    generalize (onesTo X x.val).length = i at *
    have HRy := Lib.hid HRx
    clear HRx HR hrk
    have R1 := Lib.hid r1
    have V1 := Lib.hid v1
    have V2 := Lib.hid v2
    have V4 := Lib.hid v4
    clear r1 v1 v2 v4
    by_cases hi : i < m2
    · have hi' : (i : Int) < (m2 : Int) := by omega
      obtain ⟨gu, ou, rfl, hgu, hcu⟩ := HU.out.2 (by omega)
      have cu := hcu i hi
      rw [if_pos hi'] at HST
      generalize us[i]?.getD 0 = u at *
      clear hcu
      gi_wp2_with (gi_at_call 18; refine (CallsIn.inRound l (HRy.out _)).mono ?_; rintro e w1 ⟨rfl, hb1⟩; have V2' := (boxed_low V2.out hb1).cell; have R1' := R1.out.low hb1; have cr := R1'.cell (i := x.val) (by omega); have fr := R1'.frozen x.val; have cu' : w1.cell? ⟨gu, ou + i, none⟩ = some (.int .i64 u) := (hb1.cell (p := ⟨gu, ou + i, none⟩) (by have := hB.size; show gu < _; omega)).trans ((hB.cell (p := ⟨gu, ou + i, none⟩) hgu).trans cu); have HB1 := Lib.hid hb1; have HR1 := Lib.hid R1'; clear hb1 R1')
      refine ⟨(keeps_below HB1.out).trans (KeepsOthers.setCell _ _ _), keepsBox_t (keepsBox_below V4.out.lt HB1.out) (keepsBox_set _ (by omega) _ _), ⟨?_, (boxed_low V1.out HB1.out).kept (grownBy_setAt _ _ _ _) (by intro e; injection e with e; omega), (boxed_low V2.out HB1.out).kept (grownBy_setAt _ _ _ _) (by intro e; injection e with e; omega), (boxed_low V4.out HB1.out).kept (grownBy_setAt _ _ _ _) (by intro e; injection e with e; omega)⟩, (hB.trans (HB1.out.mono hB.size)).setCell (p := ⟨w.heap.size + 1 + 1 + 1, x.val, none⟩) (by simp; omega) _⟩
      rw [HST.out]
      exact HR1.out.store _ _
    · have hi' : ¬ (i : Int) < (m2 : Int) := by omega
      rw [if_neg hi'] at HST
      gi_wp2_with (gi_at_call 18; refine (CallsIn.inRound l (HRy.out _)).mono ?_; rintro e w1 ⟨rfl, hb1⟩; have V2' := (boxed_low V2.out hb1).cell; have HB1 := Lib.hid hb1; clear hb1)
      refine ⟨keeps_below HB1.out, keepsBox_below V4.out.lt HB1.out, ⟨?_, boxed_low V1.out HB1.out, boxed_low V2.out HB1.out, boxed_low V4.out HB1.out⟩, hB.trans (HB1.out.mono hB.size)⟩
      rw [HST.out]
      exact R1.out.low HB1.out
  case done =>
    subst hzs
    rintro D ys W hD hS ⟨⟨r1, _, _, _⟩, hB⟩ hK
    have hS' : valsX ys = onesTo X 32 := hS
    rw [hS'] at r1
    have hln : (spr X us [v0, v1, v2, v3, v4, v5, v6, v7] (onesTo X 32)).length = 8 := by rw [spr_len]; rfl
    gi_wp2
    refine ⟨by simp, .inl ⟨_, _, rfl, run_takeDeferred hK, ?_⟩⟩
    exact ⟨_, results_tmp rfl _ _ _, _, 8, rfl, ownsRow_putObj (r1.own hln (by omega)) _ hK rfl, hB.trans (belowK_b (w := w) (Nat.le_refl _) W D _ _ (by omega) hK rfl rfl)⟩
  case stop =>
    rintro D c pre W _ _ h _
    exact h.elim

set_option maxRecDepth 100000 in
set_option maxHeartbeats 1000000 in
theorem spread_nomask (F : Fence) (n : Nat) (A A2 : Option Addr) (c X m2 c2 : Nat) (v0 v1 v2 v3 v4 v5 v6 v7 : Int) (w : World) (h : RdK .i64 w w.heap.size A 8 [v0, v1, v2, v3, v4, v5, v6, v7]) (hX : ¬ X < 256) (hX32 : X < 4294967296) (h0 : F.fn 36) (hrw : F.fn 63) (hf : F.fn 53) (hm : F.fn 59) (hg : F.fn 72) (h5 : F.fn 54) (h6 : F.fn 70) (hro : F.round = none) (hn : 3 ≤ n) :
    CallsIn F n Try.prog 36 #[.slice A 8 c, .int .u32 (X : Int), .slice A2 m2 c2] w fun e w' => e = .returned (.slice none 0 0) ∧ Below w.heap.size w w' := by
  have HM : Hid (∀ W, CallsIn F (n - 1) Try.prog 53 #[.int .u32 (X : Int)] W fun e w' => e = .returned (.bool (decide (X < 256))) ∧ W = w') := fun W => isMask_in F (n - 1) X W hX32 hf hm hg (by omega) hro
  rw [decide_eq_false hX] at HM
  have HRW := Lib.hid (rowOf_in F (n - 1) hrw hro A c w.heap.size v0 v1 v2 v3 v4 v5 v6 v7 ((w.alloc (.cells #[.int .u32 (X : Int)] 24)).alloc (.cells #[.slice A2 m2 c2] 33)) ((h.alloc (Nat.le_refl _) _).alloc (by simp) _) (by simp; omega))
  have h1 : 1 ≤ n := by omega
  clear hX hX32 h
  refine callsIn_of_wp Try.func36 rfl h0 ?_ hro
  simp only [Try.ntmps36, List.size_toArray, List.length_cons, List.length_nil, Nat.reduceAdd, Nat.reduceSub, Array.replicate_succ, Array.replicate_zero, List.push_toArray, List.append_toArray, List.nil_append, List.cons_append]
  gi_wp2_with (first | (gi_at_call 63; refine HRW.out.mono ?_; rintro e w' ⟨rfl, rfl⟩) | (gi_at_call 53; refine (HM.out _).mono ?_; rintro e w' ⟨rfl, rfl⟩))
  go_ret
  exact ⟨rfl, ((((Below.refl _ w).alloc (Nat.le_refl _) _).alloc (by simp) _).alloc (by simp; omega) _).alloc (by simp; omega) _⟩

set_option maxRecDepth 100000 in
set_option maxHeartbeats 1000000 in
theorem spread_norow (F : Fence) (n : Nat) (A A2 : Option Addr) (m c X m2 c2 : Nat) (w : World) (hm8 : ¬ m = 8) (h0 : F.fn 36) (hrw : F.fn 63) (hf : F.fn 53) (hro : F.round = none) (hn : 3 ≤ n) :
    CallsIn F n Try.prog 36 #[.slice A m c, .int .u32 (X : Int), .slice A2 m2 c2] w fun e w' => e = .returned (.slice none 0 0) ∧ Below w.heap.size w w' := by
  have HR := Lib.hid (rowOf_no F (n - 1) hrw hro A m c ((w.alloc (.cells #[.int .u32 (X : Int)] 24)).alloc (.cells #[.slice A2 m2 c2] 33)) hm8)
  have h1 : 1 ≤ n := by omega
  clear hm8
  refine callsIn_of_wp Try.func36 rfl h0 ?_ hro
  simp only [Try.ntmps36, List.size_toArray, List.length_cons, List.length_nil, Nat.reduceAdd, Nat.reduceSub, Array.replicate_succ, Array.replicate_zero, List.push_toArray, List.append_toArray, List.nil_append, List.cons_append]
  gi_wp2_with (gi_at_call 63; refine HR.out.mono ?_; rintro e w' ⟨rfl, rfl⟩)
  go_ret
  exact ⟨rfl, ((((Below.refl _ w).alloc (Nat.le_refl _) _).alloc (by simp) _).alloc (by simp; omega) _).alloc (by simp; omega) _⟩

/-- What Spread answers. -/
def spreadV (m X : Nat) (zs us : List Int) : List Int := if m = 8 ∧ X < 256 then spr X us zs (onesTo X 32) else []
theorem spread_any (A A2 : Option Addr) (m c X m2 c2 : Nat) (zs us : List Int) (w : World) (h : RdK .i64 w w.heap.size A m zs) (h2 : RdK .i64 w w.heap.size A2 m2 us) (hX32 : X < 4294967296) :
    Calls Try.prog 36 #[.slice A m c, .int .u32 (X : Int), .slice A2 m2 c2] w fun e w' => ∃ A' c', e = .returned (.slice A' (spreadV m X zs us).length c') ∧ OwnK 70 .i64 w' w.heap.size A' (spreadV m X zs us).length c' (spreadV m X zs us) ∧ Below w.heap.size w w' := by
  refine (callsIn_wide (n := 7)).1 ?_
  by_cases hm8 : m = 8
  · subst hm8
    obtain ⟨v0, v1, v2, v3, v4, v5, v6, v7, rfl⟩ := eight h.1
    by_cases hX : X < 256
    · have e : spreadV 8 X [v0, v1, v2, v3, v4, v5, v6, v7] us = spr X us [v0, v1, v2, v3, v4, v5, v6, v7] (onesTo X 32) := if_pos ⟨rfl, hX⟩
      have e8 : (spr X us [v0, v1, v2, v3, v4, v5, v6, v7] (onesTo X 32)).length = 8 := by rw [spr_len]; rfl
      rw [e, e8]
      exact spread_in Fence.wide 7 A A2 c 0 X m2 c2 v0 v1 v2 v3 v4 v5 v6 v7 us w h h2 hX trivial trivial trivial trivial trivial trivial trivial trivial trivial trivial rfl (Nat.le_refl _)
    · have e : spreadV 8 X [v0, v1, v2, v3, v4, v5, v6, v7] us = [] := if_neg fun e => hX e.2
      rw [e]
      exact (spread_nomask Fence.wide 7 A A2 c X m2 c2 v0 v1 v2 v3 v4 v5 v6 v7 w h hX hX32 trivial trivial trivial trivial trivial trivial trivial rfl (by omega)).mono fun _ _ ⟨h1, h2⟩ => ⟨none, 0, h1, World.ownsRow_nil _ _ _ _, h2⟩
  · have e : spreadV m X zs us = [] := if_neg fun e => hm8 e.1
    rw [e]
    exact (spread_norow Fence.wide 7 A A2 m c X m2 c2 w hm8 trivial trivial trivial rfl (by omega)).mono fun _ _ ⟨h1, h2⟩ => ⟨none, 0, h1, World.ownsRow_nil _ _ _ _, h2⟩

end Go.Proofs.Ytgaphgffchifcaa
