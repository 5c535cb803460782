/- The contracts of the program's isMask, hasLane, RankOf, NthLane and Leader. -/
import Derived.Test.YtefcaeldkdbjdaaGreatOnes
import Derived.Test.YtefcaeldkdbjdaaGreatWarpM
namespace Go.Proofs.YtefcaeldkdbjdaaGreat
open Go.RowKit Go.Shelf

attribute [local go_sem] Oper.semAt_some

theorem maskV_8 : maskV 8 = 255 := by decide
theorem mask_form8 {X : Nat} (h : X < 4294967296) : (bits .andNot .u32 (X : Int) 255 == 0) = decide (X < 256) := by
  have h1 := u32_andNot_nat X 255 h (by omega)
  have h2 : (X &&& (4294967295 - 255) = 0) ↔ X < 256 := by
    have e : 4294967295 - 255 = 2 ^ 32 - (255 + 1) := by omega
    constructor
    · intro h3
      refine Nat.lt_pow_two_of_testBit (n := 8) _ fun j hj => ?_
      by_cases h32 : j < 32
      · have h4 := congrArg (fun y => Nat.testBit y j) h3
        simp only [Nat.zero_testBit] at h4
        rw [e, Nat.testBit_and, Nat.testBit_two_pow_sub_succ (by omega), show (255 : Nat) = 2 ^ 8 - 1 from rfl, Nat.testBit_two_pow_sub_one] at h4
        have : ¬ j < 8 := by omega
        simpa [h32, this] using h4
      · exact Nat.testBit_lt_two_pow (Nat.lt_of_lt_of_le h (Nat.pow_le_pow_right (n := 2) (by omega) (show 32 ≤ j by omega)))
    · intro h3
      refine Nat.eq_of_testBit_eq fun j => ?_
      rw [e, Nat.testBit_and, Nat.testBit_two_pow_sub_succ (by omega), show (255 : Nat) = 2 ^ 8 - 1 from rfl, Nat.testBit_two_pow_sub_one, Nat.zero_testBit]
      by_cases h8 : j < 8
      · simp [h8]
      · have : X.testBit j = false := Nat.testBit_lt_two_pow (Nat.lt_of_lt_of_le h3 (Nat.pow_le_pow_right (n := 2) (by omega) (show 8 ≤ j by omega)))
        simp [this]
  have h3 : bits .andNot .u32 (X : Int) 255 = ((X &&& (4294967295 - 255) : Nat) : Int) := h1
  rw [h3]
  by_cases hx : X < 256
  · rw [decide_eq_true hx, h2.2 hx]; rfl
  · rw [decide_eq_false hx]
    have : ¬ (X &&& (4294967295 - 255)) = 0 := fun e => hx (h2.1 e)
    generalize X &&& (4294967295 - 255) = y at *
    simpa using this

set_option maxRecDepth 100000 in
set_option maxHeartbeats 400000 in
theorem isMask_in (F : Fence) (n X : Nat) (w : World) (hX : X < 4294967296) (hf : F.fn 89) (hm : F.fn 84) (hg : F.fn 97) (hn : 2 ≤ n) (hro : F.round = none) :
    CallsIn F n Tryz.prog 89 #[.int .u32 (X : Int)] w fun e w' => e = .returned (.bool (decide (X < 256))) ∧ w = w' := by
  have HM := Lib.hid (maskOf_in F (n - 1) hm hg (by omega) hro 8 w)
  rw [maskV_8] at HM
  have HX := Lib.hid (mask_form8 hX)
  have h1 : 1 ≤ n := by omega
  clear hX
  refine callsIn_of_wp Tryz.func89 rfl hf ?_ hro
  simp only [Tryz.ntmps89, List.size_toArray, List.length_cons, List.length_nil, Nat.reduceAdd, Nat.reduceSub, Array.replicate_succ, Array.replicate_zero, List.push_toArray, List.append_toArray, List.nil_append, List.cons_append]
  gi_wp2_with (gi_at_call 84; refine HM.out.mono ?_; rintro e w' ⟨rfl, rfl⟩)
  go_ret
  exact ⟨by rw [← HX.out]; rfl, rfl⟩

/-- Is it a lane of the mask? -/
def hasV (X : Nat) (L : Int) : Bool := decide (X < 256 ∧ 0 ≤ L ∧ X.testBit L.toNat = true)
theorem bit_form {X k : Nat} (h : X < 256) : (bits .and .u32 ((X : Int) / 2 ^ min k 32) 1 == 1) = hasV X (k : Int) := by
  rw [and_one (by omega)]
  have h1 : X.testBit k = X.testBit (min k 32) := by
    by_cases hk : k ≤ 32
    · rw [Nat.min_eq_left hk]
    · rw [Nat.min_eq_right (by omega), Nat.testBit_lt_two_pow (Nat.lt_of_lt_of_le h (Nat.pow_le_pow_right (n := 2) (by omega) (show 8 ≤ k by omega))), Nat.testBit_lt_two_pow (Nat.lt_of_lt_of_le h (Nat.pow_le_pow_right (n := 2) (by omega) (show 8 ≤ 32 by omega)))]
  unfold hasV
  by_cases hb : X.testBit k = true
  · rw [decide_eq_true ⟨h, by omega, by simpa using hb⟩]
    rw [h1, Nat.testBit_eq_decide_div_mod_eq] at hb
    have := of_decide_eq_true hb
    rw [this]; rfl
  · rw [decide_eq_false (fun e => hb (by simpa using e.2.2))]
    rw [h1, Nat.testBit_eq_decide_div_mod_eq] at hb
    have h2 : ¬ X / 2 ^ min k 32 % 2 = 1 := by simpa using hb
    have h3 : X / 2 ^ min k 32 % 2 = 0 := by omega
    rw [h3]; rfl
theorem hasV_neg {X : Nat} {L : Int} (h : ¬ 0 ≤ L) : hasV X L = false := decide_eq_false fun e => h e.2.1
theorem hasV_nomask {X : Nat} {L : Int} (h : ¬ X < 256) : hasV X L = false := decide_eq_false fun e => h e.1

set_option maxRecDepth 100000 in
set_option maxHeartbeats 800000 in
theorem hasLane_in (F : Fence) (n X : Nat) (L : Int) (w : World) (hX : X < 4294967296) (h0 : F.fn 116) (hf : F.fn 89) (hm : F.fn 84) (hg : F.fn 97) (hn : 3 ≤ n) (hro : F.round = none) :
    CallsIn F n Tryz.prog 116 #[.int .u32 (X : Int), .int .i64 L] w fun e w' => e = .returned (.bool (hasV X L)) ∧ w = w' := by
  have HM := Lib.hid (isMask_in F (n - 1) X w hX hf hm hg (by omega) hro)
  have h1 : 1 ≤ n := by omega
  by_cases hx : X < 256
  · rw [decide_eq_true hx] at HM
    by_cases hL : 0 ≤ L
    · obtain ⟨k, rfl⟩ := Int.eq_ofNat_of_zero_le hL
      have HB := Lib.hid (bit_form (k := k) hx)
      refine callsIn_of_wp Tryz.func116 rfl h0 ?_ hro
      simp only [Tryz.ntmps116, List.size_toArray, List.length_cons, List.length_nil, Nat.reduceAdd, Nat.reduceSub, Array.replicate_succ, Array.replicate_zero, List.push_toArray, List.append_toArray, List.nil_append, List.cons_append]
      gi_wp2_with (gi_at_call 89; refine HM.out.mono ?_; rintro e w' ⟨rfl, rfl⟩)
      go_ret
      exact ⟨by rw [← HB.out]; rfl, rfl⟩
    · have HB := Lib.hid (hasV_neg (X := X) hL)
      refine callsIn_of_wp Tryz.func116 rfl h0 ?_ hro
      simp only [Tryz.ntmps116, List.size_toArray, List.length_cons, List.length_nil, Nat.reduceAdd, Nat.reduceSub, Array.replicate_succ, Array.replicate_zero, List.push_toArray, List.append_toArray, List.nil_append, List.cons_append]
      gi_wp2_with (gi_at_call 89; refine HM.out.mono ?_; rintro e w' ⟨rfl, rfl⟩)
      go_ret
      exact ⟨by rw [HB.out]; rfl, rfl⟩
  · rw [decide_eq_false hx] at HM
    have HB := Lib.hid (hasV_nomask (L := L) hx)
    refine callsIn_of_wp Tryz.func116 rfl h0 ?_ hro
    simp only [Tryz.ntmps116, List.size_toArray, List.length_cons, List.length_nil, Nat.reduceAdd, Nat.reduceSub, Array.replicate_succ, Array.replicate_zero, List.push_toArray, List.append_toArray, List.nil_append, List.cons_append]
    gi_wp2_with (gi_at_call 89; refine HM.out.mono ?_; rintro e w' ⟨rfl, rfl⟩)
    go_ret
    exact ⟨by rw [HB.out]; rfl, rfl⟩

theorem and_mask {X : Nat} {L : Int} (h : X < 256) (hb : hasV X L = true) : bits .and .u32 (X : Int) (maskV L : Int) = ((X &&& (2 ^ L.toNat - 1) : Nat) : Int) ∧ (X &&& (2 ^ L.toNat - 1)) < 4294967296 ∧ ((onesTo (X &&& (2 ^ L.toNat - 1)) 32).length : Int) = rankV X L := by
  have h2 := of_decide_eq_true hb
  have h8 := bit_lt_8 h h2.2.2
  have hV : maskV L = 2 ^ L.toNat - 1 := if_pos ⟨h2.2.1, by omega⟩
  refine ⟨by rw [u32_and_nat X _ (by omega) (maskV_lt L), hV], Nat.lt_of_le_of_lt Nat.and_le_left (by omega), ?_⟩
  rw [ones_mask (by omega)]
  exact (if_pos h2).symm

set_option maxRecDepth 100000 in
set_option maxHeartbeats 800000 in
theorem rankOf_in (F : Fence) (n X : Nat) (L : Int) (w : World) (hX : X < 4294967296) (hr : F.fn 115) (h0 : F.fn 116) (hf : F.fn 89) (hm : F.fn 84) (hg : F.fn 97) (ho : F.fn 110) (h5 : F.fn 78) (h6 : F.fn 87) (hn : 4 ≤ n) (hro : F.round = none) :
    CallsIn F n Tryz.prog 115 #[.int .u32 (X : Int), .int .i64 L] w fun e w' => e = .returned (.int .i64 (rankV X L)) ∧ Below w.heap.size w w' := by
  have HM := Lib.hid (hasLane_in F (n - 1) X L w hX h0 hf hm hg (by omega) hro)
  have HK := Lib.hid (maskOf_in F (n - 1) hm hg (by omega) hro L w)
  have h1 : 1 ≤ n := by omega
  by_cases hb : hasV X L = true
  · rw [hb] at HM
    have hx : X < 256 := (of_decide_eq_true hb).1
    obtain ⟨e1, e2, e3⟩ := and_mask hx hb
    have HO := Lib.hid (ones_in F (n - 1) _ w e2 ho h5 h6 hro (by omega))
    rw [← e1, e3] at HO
    clear hX hb hx e1 e2 e3
    refine callsIn_of_wp Tryz.func115 rfl hr ?_ hro
    simp only [Tryz.ntmps115, List.size_toArray, List.length_cons, List.length_nil, Nat.reduceAdd, Nat.reduceSub, Array.replicate_succ, Array.replicate_zero, List.push_toArray, List.append_toArray, List.nil_append, List.cons_append]
    gi_wp2_with (gi_at_call 116; refine HM.out.mono ?_; rintro e w' ⟨rfl, rfl⟩)
    gi_wp2_with (gi_at_call 84; refine HK.out.mono ?_; rintro e w' ⟨rfl, rfl⟩)
    gi_wp2_with (gi_at_call 110; refine HO.out.mono ?_; rintro e w' ⟨rfl, hb⟩)
    go_ret
    exact ⟨rfl, hb⟩
  · have hb' : hasV X L = false := by simpa using hb
    rw [hb'] at HM
    have HV := Lib.hid (rankV_no (of_decide_eq_false hb'))
    clear hb hb' HK
    refine callsIn_of_wp Tryz.func115 rfl hr ?_ hro
    simp only [Tryz.ntmps115, List.size_toArray, List.length_cons, List.length_nil, Nat.reduceAdd, Nat.reduceSub, Array.replicate_succ, Array.replicate_zero, List.push_toArray, List.append_toArray, List.nil_append, List.cons_append]
    gi_wp2_with (gi_at_call 116; refine HM.out.mono ?_; rintro e w' ⟨rfl, rfl⟩)
    go_ret
    exact ⟨by rw [HV.out]; rfl, Below.refl _ _⟩
theorem rankOf_any (X : Nat) (L : Int) (w : World) (hX : X < 4294967296) :
    Calls Tryz.prog 115 #[.int .u32 (X : Int), .int .i64 L] w fun e w' => e = .returned (.int .i64 (rankV X L)) ∧ Below w.heap.size w w' :=
  callsIn_wide.1 (rankOf_in Fence.wide 4 X L w hX trivial trivial trivial trivial trivial trivial trivial trivial (Nat.le_refl _) rfl)

theorem boxed_low {W W' : World} {B : Nat} {t : TypeId} {v : Value} (h : Boxed W B t v) (hb : Below W.heap.size W W') : Boxed W' B t v := (hb.block B h.lt).trans h
theorem keeps_below {W W' : World} (hb : Below W.heap.size W W') : KeepsOthers W W' := ⟨hb.size, fun k _ h _ => (hb.block k (Array.getElem?_eq_some_iff.1 h).1).trans h⟩
theorem keepsBox_below {W W' : World} {B : Nat} (h : B < W.heap.size) (hb : Below W.heap.size W W') : KeepsBox B W W' := hb.cell (p := ⟨B, 0, none⟩) h

set_option maxRecDepth 100000 in
set_option maxHeartbeats 2000000 in
theorem nthLane_in (F : Fence) (n X : Nat) (N : Int) (w : World) (hX : X < 4294967296) (ht : F.fn 114) (hr : F.fn 115) (h0 : F.fn 116) (hf : F.fn 89) (hm : F.fn 84) (hg : F.fn 97) (ho : F.fn 110) (h5 : F.fn 78) (h6 : F.fn 87) (hn : 7 ≤ n) (hro : F.round = none) :
    CallsIn F n Tryz.prog 114 #[.int .u32 (X : Int), .int .i64 N] w fun e w' => e = .returned (.int .i64 (nthV X N)) ∧ Below w.heap.size w w' := by
  have HM : Hid (∀ W, CallsIn F (n - 1) Tryz.prog 89 #[.int .u32 (X : Int)] W fun e w' => e = .returned (.bool (decide (X < 256))) ∧ W = w') := fun W => isMask_in F (n - 1) X W hX hf hm hg (by omega) hro
  have h1 : 1 ≤ n := by omega
  by_cases hx : X < 256
  · have HR : Hid (∀ (L : Int) W, CallsIn F (n - 1 - 1 - 1) Tryz.prog 115 #[.int .u32 (X : Int), .int .i64 L] W fun e w' => e = .returned (.int .i64 (rankV X L)) ∧ Below W.heap.size W w') := fun L W => rankOf_in F (n - 1 - 1 - 1) X L W hX hr h0 hf hm hg ho h5 h6 (by omega) hro
    rw [decide_eq_true hx] at HM
    have HX := Lib.hid hX
    have HX8 := Lib.hid hx
    clear hX hx
    refine callsIn_of_wp_marks Tryz.func114 rfl ht ?_ hro
    simp only [Tryz.ntmps114, List.size_toArray, List.length_cons, List.length_nil, Nat.reduceAdd, Nat.reduceSub, Array.replicate_succ, Array.replicate_zero, List.push_toArray, List.append_toArray, List.nil_append, List.cons_append]
    gi_wp2_with (first | (gi_at_call 89; refine (HM.out _).mono ?_; rintro e w' ⟨rfl, rfl⟩) | (gi_at_call 78; refine (oneBits_in F (n - 1) h5 hro _ _).mono ?_; rintro e w' ⟨rfl, rfl⟩))
    have bX := Boxed.new w 47 (.int .u32 (X : Int))
    have bN := Boxed.new (w.alloc (.cells #[.int .u32 (X : Int)] 47)) 3 (.int .i64 N)
    have bR := Boxed.new ((w.alloc (.cells #[.int .u32 (X : Int)] 47)).alloc (.cells #[.int .i64 N] 3)) 3 (.int .i64 0)
    have bI := Boxed.new (((w.alloc (.cells #[.int .u32 (X : Int)] 47)).alloc (.cells #[.int .i64 N] 3)).alloc (.cells #[.int .i64 0] 3)) 47 (.int .u32 (X : Int))
    simp only [World.size_alloc] at bN bR bI
    have hB0 : Below w.heap.size w ((((w.alloc (.cells #[.int .u32 (X : Int)] 47)).alloc (.cells #[.int .i64 N] 3)).alloc (.cells #[.int .i64 0] 3)).alloc (.cells #[.int .u32 (X : Int)] 47)) := ((((Below.refl _ w).alloc (Nat.le_refl _) _).alloc (by simp) _).alloc (by simp; omega) _).alloc (by simp; omega) _
    refine wpIn_rangeFunc_ownF hro h1 (gf := 87) (lb := #[.pointer (some ⟨w.heap.size + 1 + 1 + 1, 0, none⟩)]) rfl h6 (enters_of Tryz.func87 (by kernel_rfl) rfl)
      (iter_stops F (n - 1) h6 hro (by omega) (w.heap.size + 1 + 1 + 1) X HX.out _ (by simp) bI.cell) keepsBox_t (keepsBox_b (by simp)) (Below.refl _ _) (fun _ => rfl)
      (fun pre W => ((∀ y ∈ pre, rankV X ((y.val : Nat) : Int) ≠ N) ∧ (Boxed W w.heap.size 47 (.int .u32 (X : Int)) ∧ (Boxed W (w.heap.size + 1) 3 (.int .i64 N) ∧ (Boxed W (w.heap.size + 1 + 1) 3 (.int .i64 0) ∧ Boxed W (w.heap.size + 1 + 1 + 1) 47 (.int .u32 (X : Int)))))) ∧ Below w.heap.size w W)
      (fun c pre W => (c = .ret ∧ ∃ x : Fin 32, (x ∈ pre ∧ rankV X ((x.val : Nat) : Int) = N) ∧ Boxed W (w.heap.size + 1 + 1) 3 (.int .i64 (x.val : Int))) ∧ Below w.heap.size w W)
      (OwnFrom.and (OwnFrom.and (ownFrom_pure _ _) (OwnFrom.and (Go.Own.from (boxed_own _ _ _) _) (OwnFrom.and (Go.Own.from (boxed_own _ _ _) _) (OwnFrom.and (Go.Own.from (boxed_own _ _ _) _) (Go.Own.from (boxed_own _ _ _) _))))) (ownFrom_below (Nat.le_refl _) (by simp; omega)))
      (fun c => OwnFrom.and (fun s A B row hs hg hr => by
        obtain ⟨h1, x, h2, h3⟩ := hs
        exact ⟨h1, x, h2, Go.Own.from (boxed_own (β := Unit) (w.heap.size + 1 + 1) 3 (fun _ => .int .i64 (x.val : Int))) _ () A B row h3 hg hr⟩) (ownFrom_below (Nat.le_refl _) (by simp; omega)))
      ⟨⟨by simp, ((bX.alloc _).alloc _).alloc _, (bN.alloc _).alloc _, bR.alloc _, bI⟩, hB0⟩
      ?a1 ?assign ?body ?done ?stop
    case assign =>
      intro l x W K hK
      gi_wp2
      exact hK
    case body =>
      rintro l pre x W ⟨⟨hp, v1, v2, v3, v4⟩, hB⟩ hlt
      have hmx := mixed
      have hd : 1 ≤ n - 1 - 1 := by omega
      have hc1 := v1.cell
      have hc2 := v2.cell
      have hc3 := v3.cell
      have hf3 := v3.frozen
      have hl2 := v2.lt
      have hl3 := v3.lt
      have V2 := Lib.hid v2
      have V3 := Lib.hid v3
      have V1 := Lib.hid v1
      have V4 := Lib.hid v4
      have HP := Lib.hid hp
      clear v1 v2 v3 v4 hp
      by_cases hq : rankV X ((x.val : Nat) : Int) = N
      · have hq' : (rankV X ((x.val : Nat) : Int) == N) = true := by simpa using hq
        have HQ := Lib.hid hq
        clear hq
        gi_wp2
        gi_region_with_o (gi_at_call 115; refine (CallsIn.inRound l (HR.out _ _)).mono ?_; rintro e w1 ⟨rfl, hb1⟩; have hc2' : w1.cell? ⟨w.heap.size + 1, 0, none⟩ = some (.int .i64 N) := (hb1.cell (p := ⟨w.heap.size + 1, 0, none⟩) hl2).trans hc2; have hc3' : w1.cell? ⟨w.heap.size + 1 + 1, 0, none⟩ = some (.int .i64 0) := (hb1.cell (p := ⟨w.heap.size + 1 + 1, 0, none⟩) hl3).trans hc3; have hf3' : w1.frozen? ⟨w.heap.size + 1 + 1, 0, none⟩ = false := (hb1.frozen (p := ⟨w.heap.size + 1 + 1, 0, none⟩) hl3).trans hf3)
        all_goals gi_wp2
        all_goals
          have hb2 : Below W.heap.size W w1 := (Below.refl _ W).drew.trans hb1
          exact ⟨(keeps_below hb2).trans (KeepsOthers.setCell _ _ _), ⟨rfl, x, ⟨by simp, HQ.out⟩, (boxed_low V3.out hb2).set _⟩, (hB.trans (hb2.mono hB.size)).setCell (p := ⟨w.heap.size + 1 + 1, 0, none⟩) (by simp; omega) _⟩
      · have hq' : (rankV X ((x.val : Nat) : Int) == N) = false := by simpa using hq
        have HQ := Lib.hid hq
        clear hq
        gi_wp2
        gi_region_with_o (gi_at_call 115; refine (CallsIn.inRound l (HR.out _ _)).mono ?_; rintro e w1 ⟨rfl, hb1⟩; have hc2' : w1.cell? ⟨w.heap.size + 1, 0, none⟩ = some (.int .i64 N) := (hb1.cell (p := ⟨w.heap.size + 1, 0, none⟩) hl2).trans hc2)
        all_goals gi_wp2
        all_goals
          have hb2 : Below W.heap.size W w1 := (Below.refl _ W).drew.trans hb1
          refine ⟨keeps_below hb2, keepsBox_below V4.out.lt hb2, ⟨?_, boxed_low V1.out hb2, boxed_low V2.out hb2, boxed_low V3.out hb2, boxed_low V4.out hb2⟩, hB.trans (hb2.mono hB.size)⟩
          intro y hy
          rcases List.mem_append.1 hy with h | h
          · exact HP.out y h
          · obtain rfl := List.mem_singleton.1 h
            exact HQ.out
    case done =>
      rintro D ys W hD hS ⟨⟨hp, v1, v2, v3, v4⟩, hB⟩ hK
      have hc := v3.cell
      have hf := v3.frozen
      have HN : Hid (nthV X N = -1) := nthV_none fun L hL => by
        rw [← hS] at hL
        obtain ⟨y, hy, rfl⟩ := List.mem_map.1 hL
        exact hp y hy
      have V3 := Lib.hid v3
      clear hp v1 v2 v3 v4
      gi_wp2
      have hK' := (KeepsOthers.setCell W ⟨w.heap.size + 1 + 1, 0, none⟩ (.int .i64 (-1))).same D _ hK rfl
      refine ⟨by simp, .inl ⟨_, _, rfl, run_takeDeferred hK', ?_⟩⟩
      have hc5 := cell_kept (V3.out.set (.int .i64 (-1))).cell (grownBy_putObj' _ D (.deferred none)) (fun r e => by cases e; exact ⟨_, hK', rfl⟩)
      refine ⟨.int .i64 (-1), ?_, by rw [HN.out], (hB.setCell (p := ⟨w.heap.size + 1 + 1, 0, none⟩) (by simp; omega) _).trans (belowK_b (w := w) (Nat.le_refl _) _ D _ _ (by simp at hD; omega) hK' rfl rfl)⟩
      simp [results, Tryz.results114, go_sem, hc5]
    case stop =>
      rintro D c pre W hD hpre ⟨⟨rfl, x, ⟨hx, hq⟩, hv⟩, hB⟩ hK
      have HN : Hid (nthV X N = ((x.val : Nat) : Int)) := nthV_of_rank (by
        obtain ⟨q, hq2⟩ := hpre
        rw [← hq2]
        exact List.mem_append_left _ (List.mem_map.2 ⟨x, hx, rfl⟩)) HX8.out hq
      clear hq hx
      gi_wp2
      refine ⟨by simp, .inl ⟨_, _, rfl, run_takeDeferred hK, ?_⟩⟩
      have hc5 := cell_kept hv.cell (grownBy_putObj' _ D (.deferred none)) (fun r e => by cases e; exact ⟨_, hK, rfl⟩)
      refine ⟨.int .i64 (x.val : Int), ?_, by rw [HN.out], hB.trans (belowK_b (w := w) (Nat.le_refl _) W D _ _ (by simp at hD; omega) hK rfl rfl)⟩
      simp [results, Tryz.results114, go_sem, hc5]
  · rw [decide_eq_false hx] at HM
    have HV := Lib.hid (nthV_nomask (N := N) hx)
    clear hx hX
    refine callsIn_of_wp Tryz.func114 rfl ht ?_ hro
    simp only [Tryz.ntmps114, List.size_toArray, List.length_cons, List.length_nil, Nat.reduceAdd, Nat.reduceSub, Array.replicate_succ, Array.replicate_zero, List.push_toArray, List.append_toArray, List.nil_append, List.cons_append]
    gi_wp2_with (gi_at_call 89; refine (HM.out _).mono ?_; rintro e w' ⟨rfl, rfl⟩)
    refine bodyPost_ret (v := .int .i64 (-1)) ?_ rfl ⟨by rw [HV.out], (((Below.refl _ w).alloc (Nat.le_refl _) _).alloc (by simp) _).alloc (by simp; omega) _⟩
    simp [results, Tryz.results114, go_sem]
theorem nthLane_any (X : Nat) (N : Int) (w : World) (hX : X < 4294967296) :
    Calls Tryz.prog 114 #[.int .u32 (X : Int), .int .i64 N] w fun e w' => e = .returned (.int .i64 (nthV X N)) ∧ Below w.heap.size w w' :=
  callsIn_wide.1 (nthLane_in Fence.wide 7 X N w hX trivial trivial trivial trivial trivial trivial trivial trivial trivial (Nat.le_refl _) rfl)

set_option maxRecDepth 100000 in
set_option maxHeartbeats 400000 in
theorem leader_in (F : Fence) (n X : Nat) (w : World) (hX : X < 4294967296) (hl : F.fn 113) (ht : F.fn 114) (hr : F.fn 115) (h0 : F.fn 116) (hf : F.fn 89) (hm : F.fn 84) (hg : F.fn 97) (ho : F.fn 110) (h5 : F.fn 78) (h6 : F.fn 87) (hn : 8 ≤ n) (hro : F.round = none) :
    CallsIn F n Tryz.prog 113 #[.int .u32 (X : Int)] w fun e w' => e = .returned (.int .i64 (nthV X 0)) ∧ Below w.heap.size w w' := by
  have HM := Lib.hid (nthLane_in F (n - 1) X 0 w hX ht hr h0 hf hm hg ho h5 h6 (by omega) hro)
  have h1 : 1 ≤ n := by omega
  clear hX
  refine callsIn_of_wp Tryz.func113 rfl hl ?_ hro
  simp only [Tryz.ntmps113, List.size_toArray, List.length_cons, List.length_nil, Nat.reduceAdd, Nat.reduceSub, Array.replicate_succ, Array.replicate_zero, List.push_toArray, List.append_toArray, List.nil_append, List.cons_append]
  gi_wp2_with (gi_at_call 114; refine HM.out.mono ?_; rintro e w' ⟨rfl, hb⟩)
  go_ret
  exact ⟨rfl, hb⟩
theorem leader_any (X : Nat) (w : World) (hX : X < 4294967296) :
    Calls Tryz.prog 113 #[.int .u32 (X : Int)] w fun e w' => e = .returned (.int .i64 (nthV X 0)) ∧ Below w.heap.size w w' :=
  callsIn_wide.1 (leader_in Fence.wide 8 X w hX trivial trivial trivial trivial trivial trivial trivial trivial trivial trivial (Nat.le_refl _) rfl)

end Go.Proofs.YtefcaeldkdbjdaaGreat
