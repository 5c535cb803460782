/- The contract of the program's iterator over the set bits of a word: it hands out their numbers in ascending order, till a round says no. -/
/- The contract of the program's TakeLow: the word of the lowest set bits. -/
/- The contracts of the program's isWidth, MaskOf, FreeLow and BitsOf. -/
/- The contracts of the program's Ones, Lowest and Highest: the number of set bits, the lowest, the highest. -/
import Derived.RangeFuncNested
import Derived.RangeFuncBound
import Derived.RangeFuncCalls
import Derived.RangeFuncLeaves
import Derived.Shelf.Abstract
import Derived.Shelf.RegionOpen
import Derived.OwnWalkIn
import Derived.TacticsInMore
import Derived.LoopNIn
import Derived.LoopIn
import Derived.Test.YtefcaeldkdbjdaaGreatBase
import Derived.Test.YtefcaeldkdbjdaaGreatSLow
import Derived.Laws.BitsAllLaws
namespace Go.Proofs.YtefcaeldkdbjdaaGreat
open Go.RowKit Go.Shelf

attribute [local go_sem] Oper.semAt_some

/-- What a round that goes on keeps: the box of the word. -/
def KeepsBox (B : Nat) (W W' : World) : Prop := W'.cell? ⟨B, 0, none⟩ = W.cell? ⟨B, 0, none⟩

theorem hz0 {X k : Nat} (h : X / 2 ^ k = 0) : (X : Int) / 2 ^ k = 0 := by exact_mod_cast h
theorem zero_of {X k : Nat} (h : (X : Int) / 2 ^ k = 0) : X / 2 ^ k = 0 := by exact_mod_cast h
theorem lt_of_more {X k : Nat} (hX : X < 4294967296) (h : ¬ X / 2 ^ k = 0) : k < 32 := by
  refine Nat.lt_of_not_le fun h1 => h ?_
  have : 2 ^ 32 ≤ 2 ^ k := Nat.pow_le_pow_right (by omega) h1
  exact Nat.div_eq_of_lt (by omega)
theorem and_one {X k : Nat} (hX : X < 4294967296) : bits .and .u32 ((X : Int) / 2 ^ k) 1 = ((X / 2 ^ k % 2 : Nat) : Int) := by
  have h := u32_and_nat (X / 2 ^ k) 1 (Nat.lt_of_le_of_lt (Nat.div_le_self _ _) hX) (by omega)
  rw [Nat.and_one_is_mod] at h
  rw [← h]
  congr 1


set_option maxRecDepth 100000 in
set_option maxHeartbeats 1000000 in
theorem iter1_in (F : Fence) (n : Nat) (hf : F.fn 87) (hro : F.round = none) (hn : 1 ≤ n) (l B X : Nat) (hX : X < 4294967296) (J Jx : List (Fin 32) → World → Prop)
    (hY : ∀ pre x W, J pre W → pre.length < 32 → YieldAt F (n - 1) Tryz.prog l #[.int .i64 ((x : Fin 32).val : Int)] W fun e W' =>
      (e = .returned (.bool true) ∧ J (pre ++ [x]) W' ∧ KeepsBox B W W') ∨ (e = .returned (.bool false) ∧ Jx (pre ++ [x]) W'))
    (W : World) (hB : W.cell? ⟨B, 0, none⟩ = some (.int .u32 (X : Int))) (h0 : J [] W) :
    CallsIn F n Tryz.prog 87 #[.func (.yield l) #[] #[], .pointer (some ⟨B, 0, none⟩)] W fun e W' => (∃ v, e = .returned v) ∧
      ((∃ ys : List (Fin 32), ys.map (fun k => k.val) = onesTo X 32 ∧ J ys W') ∨ (∃ pre : List (Fin 32), pre.map (fun k => k.val) <+: onesTo X 32 ∧ Jx pre W')) := by
  refine callsIn_of_wp Tryz.func87 rfl hf ?_ hro
  simp only [Tryz.ntmps87, List.size_toArray, List.length_cons, List.length_nil, Nat.reduceAdd, Nat.reduceSub, Array.replicate_succ, Array.replicate_zero, List.push_toArray, List.append_toArray, List.nil_append, List.cons_append]
  gi_wp2
  gi_loopw [3] (fun i wr => ∃ (k : Nat) (pre : List (Fin 32)), k ≤ 32 ∧ i = .int .i64 k ∧ wr.cell? ⟨B, 0, none⟩ = some (.int .u32 (X : Int)) ∧ pre.map (fun k => k.val) = onesTo X k ∧ J pre wr)
    (fun i _ => 33 - (intOf i).toNat)
  case atStart => exact ⟨0, [], by omega, rfl, hB, rfl, h0⟩
  case round =>
    obtain ⟨k, pre, hk, rfl, hc, hp, hJ⟩ := hrel
    have HK := Lib.hid hk
    have HP := Lib.hid hp
    have HX := Lib.hid hX
    clear hp hX hB h0
    by_cases hz : X / 2 ^ k = 0
    · have hb : (((X : Int) / 2 ^ k) != 0) = false := by simpa using hz0 hz
      have HZ := Lib.hid hz
      clear hz hY
      gi_wp2
      go_end0
      exact ⟨⟨_, rfl⟩, .inl ⟨pre, by rw [HP.out, onesTo_stop HZ.out 32 HK.out], hJ⟩⟩
    · have hk32 : k < 32 := lt_of_more HX.out hz
      clear hk
      have hk : k ≤ 32 := by omega
      have hb : (((X : Int) / 2 ^ k) != 0) = true := by simpa using fun e => hz (zero_of e)
      clear hz
      by_cases h1 : X / 2 ^ k % 2 = 1
      · have ha : bits .and .u32 ((X : Int) / 2 ^ k) 1 = 1 := by rw [and_one HX.out, h1]; rfl
        have HN := Lib.hid (onesTo_hit h1)
        clear h1
        obtain ⟨fn, tmps, assign, body, hy, hR⟩ := hY pre ⟨k, hk32⟩ wr hJ (by
          have := congrArg List.length HP.out
          rw [List.length_map] at this
          have := onesTo_len X k
          omega)
        dsimp only at hy
        clear hY
        gi_wp2
        refine hR.mono ?_
        rintro e W3 (⟨rfl, hJ3, hk3⟩ | ⟨rfl, hJx3⟩)
        · have hc3 : W3.cell? ⟨B, 0, none⟩ = some (.int .u32 (X : Int)) := hk3.trans hc
          gi_wp2
          go_roundw
          case rel => exact ⟨k + 1, pre ++ [⟨k, hk32⟩], by omega, by go_num, hc3, by rw [HN.out, List.map_append, HP.out]; rfl, hJ3⟩
          case measure => simp [intOf]; omega
        · gi_wp2
          refine bodyPost_ret (results_none rfl _ _ _) rfl ?_
          refine ⟨⟨_, rfl⟩, .inr ⟨pre ++ [⟨k, hk32⟩], ?_, hJx3⟩⟩
          rw [List.map_append, HP.out]
          have h5 := onesTo_pre (X := X) (k := k + 1) (m := 32) (by omega)
          rw [HN.out] at h5
          exact h5
      · have ha : bits .and .u32 ((X : Int) / 2 ^ k) 1 = 0 := by
          rw [and_one HX.out, show X / 2 ^ k % 2 = 0 from by omega]; rfl
        have HN := Lib.hid (onesTo_miss h1)
        clear h1 hY
        gi_wp2
        refine ⟨fun _ h => (by cases h), ?_⟩
        gi_wp2
        go_roundw
        case rel => exact ⟨k + 1, pre, by omega, by go_num, hc, by rw [HN.out, HP.out], hJ⟩
        case measure => simp [intOf]; omega

set_option maxHeartbeats 1000000 in
theorem oneBits_in (F : Fence) (n : Nat) (hf : F.fn 78) (hro : F.round = none) (x : Int) (w : World) :
    CallsIn F n Tryz.prog 78 #[.int .u32 x] w fun e w' => e = .returned (.func (.func 87) #[] #[.pointer (some ⟨w.heap.size, 0, none⟩)]) ∧ w' = w.alloc (.cells #[.int .u32 x] 47) := by
  refine callsIn_of_wp Tryz.func78 rfl hf ?_ hro
  simp only [Tryz.ntmps78, List.size_toArray, List.length_cons, List.length_nil, Nat.reduceAdd, Nat.reduceSub, Array.replicate_succ, Array.replicate_zero, List.push_toArray, List.append_toArray, List.nil_append, List.cons_append]
  gi_wp2
  go_ret
  exact ⟨rfl, rfl⟩

/-- The iterator stops: all set bits in ascending order, or a first part of them. -/
theorem iter_stops (F : Fence) (n : Nat) (hf : F.fn 87) (hro : F.round = none) (hn : 1 ≤ n) (B X : Nat) (hX : X < 4294967296) (w : World) (hB : B < w.heap.size) (hc : w.cell? ⟨B, 0, none⟩ = some (.int .u32 (X : Int))) :
    SeqStopsK F n Tryz.prog 87 #[.pointer (some ⟨B, 0, none⟩)] (fun x : Fin 32 => #[Value.int .i64 (x.val : Int)]) (KeepsBox B) (fun ys => ys.map (fun k => k.val) = onesTo X 32) (fun pre => pre.map (fun k => k.val) <+: onesTo X 32) 32 w := fun l J Jx W hW _ _ hY h0 =>
  iter1_in F n hf hro hn l B X hX J Jx hY W ((hW.cell (p := ⟨B, 0, none⟩) hB).trans hc) h0

theorem keepsBox_t {B : Nat} : ∀ {A C D : World}, KeepsBox B A C → KeepsBox B C D → KeepsBox B A D := fun h1 h2 => Eq.trans h2 h1
theorem keepsBox_b {w : World} {B : Nat} (h : B < w.heap.size) : ∀ (W : World) (l : Nat) (o o' : Obj), w.heap.size ≤ l → W.heap[l]? = some o → o.isCells = false → o.isWalk = false → KeepsBox B W (W.putObj l o') := fun W l o o' hl h1 h2 h3 =>
  (belowK_b (w := w) (Nat.le_refl _) W l o o' hl h1 h2 h3).cell (p := ⟨B, 0, none⟩) h
theorem keepsBox_set {B b : Nat} (W : World) (h : b ≠ B) (o : Nat) (u : Value) : KeepsBox B W (W.setCell ⟨b, o, none⟩ u) := World.cell?_setCell_other _ _ _ _ (by intro e; exact h (congrArg Addr.block e))

end Go.Proofs.YtefcaeldkdbjdaaGreat

namespace Go.Proofs.YtefcaeldkdbjdaaGreat
open Go.RowKit Go.Shelf

attribute [local go_sem] Oper.semAt_some

def vals (l : List (Fin 32)) : List Nat := l.map (fun k => k.val)
theorem vals_snoc (l : List (Fin 32)) (x : Fin 32) : vals (l ++ [x]) = vals l ++ [x.val] := by simp [vals]
theorem vals_len (l : List (Fin 32)) : (vals l).length = l.length := by simp [vals]
theorem vals_lt (l : List (Fin 32)) : orL (vals l) < 4294967296 := orL_lt fun k hk => by
  obtain ⟨i, _, rfl⟩ := List.mem_map.1 hk
  exact i.isLt
theorem pow_cast (k : Nat) : (2 : Int) ^ k = ((2 ^ k : Nat) : Int) := by rw [Int.natCast_pow]; rfl
theorem or_next (pre : List (Fin 32)) (x : Fin 32) : bits .or .u32 ((orL (vals pre) : Nat) : Int) (2 ^ x.val % 4294967296) = ((orL (vals (pre ++ [x])) : Nat) : Int) := by
  have h2 : 2 ^ x.val < 4294967296 := Nat.pow_lt_pow_right (n := 32) (by omega) x.isLt
  have h := u32_or_nat (orL (vals pre)) (2 ^ x.val) (vals_lt pre) h2
  rw [vals_snoc, orL_snoc, ← h, pow_cast]
  generalize 2 ^ x.val = y at *
  rw [Int.emod_eq_of_lt (by omega) (by omega)]
theorem mixed : Tryz.prog.follows Departure.mixedOrders = true := by kernel_rfl

end Go.Proofs.YtefcaeldkdbjdaaGreat

namespace Go.Proofs.YtefcaeldkdbjdaaGreat
open Go.RowKit Go.Shelf

attribute [local go_sem] Oper.semAt_some

theorem mask_form {M : Nat} (h : M ≤ 32) : IntKind.u64.wrap (IntKind.u64.wrap (2 ^ M) - 1) % 4294967296 = ((2 ^ M - 1 : Nat) : Int) := by
  have h1 : 2 ^ M ≤ 2 ^ 32 := Nat.pow_le_pow_right (by omega) h
  have h2 : 0 < 2 ^ M := Nat.pow_pos (by omega)
  rw [pow_cast]
  generalize 2 ^ M = y at *
  simp only [IntKind.wrap, IntKind.bits, IntKind.signed]
  simp
  omega
theorem not_form {X : Nat} (h : X < 4294967296) : bits .xor .u32 IntKind.u32.max (X : Int) = ((4294967295 - X : Nat) : Int) := by
  have h1 := u32_xor_nat 4294967295 X (by omega) h
  have h2 : 4294967295 ^^^ X = 4294967295 - X := by
    have e : 4294967295 - X = 2 ^ 32 - (X + 1) := by omega
    rw [e]
    refine Nat.eq_of_testBit_eq fun j => ?_
    rw [Nat.testBit_xor, Nat.testBit_two_pow_sub_succ (by omega), show 4294967295 = 2 ^ 32 - 1 from rfl, Nat.testBit_two_pow_sub_one]
    by_cases hj : j < 32
    · simp [hj]
    · have h3 : X.testBit j = false := Nat.testBit_lt_two_pow (Nat.lt_of_lt_of_le h (Nat.pow_le_pow_right (n := 2) (by omega) (show 32 ≤ j by omega)))
      simp [hj, h3]
  rw [h2] at h1
  exact h1
theorem free_form {X : Nat} (h : X < 4294967296) (wd : Int) : bits .and .u32 (bits .xor .u32 IntKind.u32.max (X : Int)) (maskV wd : Int) = (freeV X wd : Int) := by
  rw [not_form h, u32_and_nat _ _ (by omega) (maskV_lt wd), freeV_and]

set_option maxHeartbeats 400000 in
theorem isWidth_in (F : Fence) (n : Nat) (hf : F.fn 97) (hro : F.round = none) (N : Int) (w : World) :
    CallsIn F n Tryz.prog 97 #[.int .i64 N] w fun e w' => e = .returned (.bool (decide (IsWidth N))) ∧ w = w' := by
  by_cases h0 : 0 ≤ N
  · by_cases h1 : N ≤ 32
    · have hd : Hid (decide (IsWidth N) = true) := decide_eq_true ⟨h0, h1⟩
      refine callsIn_of_wp Tryz.func97 rfl hf ?_ hro
      simp only [Tryz.ntmps97, List.size_toArray, List.length_cons, List.length_nil, Nat.reduceAdd, Nat.reduceSub, Array.replicate_succ, Array.replicate_zero, List.push_toArray, List.append_toArray, List.nil_append, List.cons_append]
      gi_wp2
      go_ret
      exact ⟨by rw [hd.out]; rfl, rfl⟩
    · have hd : Hid (decide (IsWidth N) = false) := decide_eq_false (fun h => h1 h.2)
      refine callsIn_of_wp Tryz.func97 rfl hf ?_ hro
      simp only [Tryz.ntmps97, List.size_toArray, List.length_cons, List.length_nil, Nat.reduceAdd, Nat.reduceSub, Array.replicate_succ, Array.replicate_zero, List.push_toArray, List.append_toArray, List.nil_append, List.cons_append]
      gi_wp2
      go_ret
      exact ⟨by rw [hd.out]; rfl, rfl⟩
  · have hd : Hid (decide (IsWidth N) = false) := decide_eq_false (fun h => h0 h.1)
    refine callsIn_of_wp Tryz.func97 rfl hf ?_ hro
    simp only [Tryz.ntmps97, List.size_toArray, List.length_cons, List.length_nil, Nat.reduceAdd, Nat.reduceSub, Array.replicate_succ, Array.replicate_zero, List.push_toArray, List.append_toArray, List.nil_append, List.cons_append]
    gi_wp2
    go_ret
    exact ⟨by rw [hd.out]; rfl, rfl⟩

set_option maxRecDepth 100000 in
set_option maxHeartbeats 400000 in
theorem maskOf_in (F : Fence) (n : Nat) (hf : F.fn 84) (hg : F.fn 97) (hn : 1 ≤ n) (hro : F.round = none) (N : Int) (w : World) :
    CallsIn F n Tryz.prog 84 #[.int .i64 N] w fun e w' => e = .returned (.int .u32 (maskV N : Int)) ∧ w = w' := by
  have hw := isWidth_in F (n - 1) hg hro N w
  by_cases hN : IsWidth N
  · rw [decide_eq_true hN] at hw
    have HW := Lib.hid hw
    have hV : maskV N = 2 ^ N.toNat - 1 := if_pos hN
    unfold IsWidth at hN
    obtain ⟨M, rfl⟩ := Int.eq_ofNat_of_zero_le hN.1
    rw [Int.toNat_natCast] at hV
    have HV := Lib.hid hV
    have hM : M ≤ 32 := by omega
    clear hV hN hw
    refine callsIn_of_wp Tryz.func84 rfl hf ?_ hro
    simp only [Tryz.ntmps84, List.size_toArray, List.length_cons, List.length_nil, Nat.reduceAdd, Nat.reduceSub, Array.replicate_succ, Array.replicate_zero, List.push_toArray, List.append_toArray, List.nil_append, List.cons_append]
    gi_wp2_with (gi_at_call 97; refine HW.out.mono ?_; rintro e w' ⟨rfl, rfl⟩)
    go_ret
    exact ⟨by rw [HV.out, ← mask_form hM]; rfl, rfl⟩
  · rw [decide_eq_false hN] at hw
    have HW := Lib.hid hw
    have hV : maskV N = 0 := if_neg hN
    have HV := Lib.hid hV
    clear hV hN hw
    refine callsIn_of_wp Tryz.func84 rfl hf ?_ hro
    simp only [Tryz.ntmps84, List.size_toArray, List.length_cons, List.length_nil, Nat.reduceAdd, Nat.reduceSub, Array.replicate_succ, Array.replicate_zero, List.push_toArray, List.append_toArray, List.nil_append, List.cons_append]
    gi_wp2_with (gi_at_call 97; refine HW.out.mono ?_; rintro e w' ⟨rfl, rfl⟩)
    go_ret
    exact ⟨by rw [HV.out]; rfl, rfl⟩
theorem maskOf_any (N : Int) (w : World) : Calls Tryz.prog 84 #[.int .i64 N] w fun e w' => e = .returned (.int .u32 (maskV N : Int)) ∧ w = w' :=
  callsIn_wide.1 (maskOf_in Fence.wide 1 trivial trivial (Nat.le_refl _) rfl N w)

theorem or_bit {y j : Nat} (hy : y < 4294967296) (hj : j < 32) : bits .or .u32 (y : Int) (2 ^ j % 4294967296) = ((y ||| 2 ^ j : Nat) : Int) := by
  have h2 : 2 ^ j < 4294967296 := Nat.pow_lt_pow_right (n := 32) (by omega) hj
  have h := u32_or_nat y (2 ^ j) hy h2
  rw [← h, pow_cast]
  generalize 2 ^ j = z at *
  rw [Int.emod_eq_of_lt (by omega) (by omega)]

end Go.Proofs.YtefcaeldkdbjdaaGreat

namespace Go.Proofs.YtefcaeldkdbjdaaGreat
open Go.RowKit Go.Shelf

attribute [local go_sem] Oper.semAt_some

theorem len_vals (l : List (Fin 32)) : (l.map (fun k => k.val)).length = l.length := by simp

set_option maxRecDepth 100000 in
set_option maxHeartbeats 2000000 in
theorem ones_in (F : Fence) (n X : Nat) (w : World) (hX : X < 4294967296) (h3 : F.fn 110) (h5 : F.fn 78) (h6 : F.fn 87) (hro : F.round = none) (hn : 3 ≤ n) :
    CallsIn F n Tryz.prog 110 #[.int .u32 (X : Int)] w fun e w' => e = .returned (.int .i64 ((onesTo X 32).length : Int)) ∧ Below w.heap.size w w' := by
  have HX := Lib.hid hX
  clear hX
  have h1 : 1 ≤ n := by omega
  refine callsIn_of_wp_marks Tryz.func110 rfl h3 ?_ hro
  simp only [Tryz.ntmps110, List.size_toArray, List.length_cons, List.length_nil, Nat.reduceAdd, Nat.reduceSub, Array.replicate_succ, Array.replicate_zero, List.push_toArray, List.append_toArray, List.nil_append, List.cons_append]
  gi_wp2_with (gi_at_call 78; refine (oneBits_in F (n - 1) h5 hro _ _).mono ?_; rintro e w' ⟨rfl, rfl⟩)
  have hs := Boxed.new w 3 (.int .i64 0)
  have hb := Boxed.new (w.alloc (.cells #[.int .i64 0] 3)) 47 (.int .u32 (X : Int))
  rw [World.size_alloc] at hb
  have hB0 : Below w.heap.size w ((w.alloc (.cells #[.int .i64 0] 3)).alloc (.cells #[.int .u32 (X : Int)] 47)) := ((Below.refl _ w).alloc (Nat.le_refl _) _).alloc (by simp) _
  refine wpIn_rangeFunc_ownF hro h1 (gf := 87) (lb := #[.pointer (some ⟨w.heap.size + 1, 0, none⟩)]) rfl h6 (enters_of Tryz.func87 (by kernel_rfl) rfl)
    (iter_stops F (n - 1) h6 hro (by omega) (w.heap.size + 1) X HX.out _ (by simp) hb.cell) keepsBox_t (keepsBox_b (by simp)) (Below.refl _ _) (fun _ => rfl)
    (fun pre W => Boxed W w.heap.size 3 (.int .i64 (pre.length : Int)) ∧ Below w.heap.size w W)
    (fun _ _ _ => False)
    (OwnFrom.and (Go.Own.from (boxed_own _ _ _) _) (ownFrom_below (Nat.le_refl _) (by simp; omega)))
    (fun _ _ _ _ _ hs _ _ => hs)
    ⟨hs.alloc _, hB0⟩
    ?a1 ?assign ?body ?done ?stop
  case assign =>
    intro l x W K hK
    gi_wp2
    exact hK
  case body =>
    rintro l pre x W ⟨hv, hB⟩ hlt
    have hc := hv.cell
    have hf := hv.frozen
    gi_wp2
    exact ⟨KeepsOthers.setCell _ _ _, keepsBox_set _ (by omega) _ _, by simpa using hv.set (.int .i64 ((pre.length : Int) + 1)), hB.setCell (p := ⟨w.heap.size, 0, none⟩) (Nat.le_refl _) _⟩
  case done =>
    rintro D ys W hD hS ⟨hv, hB⟩ hK
    have hc := hv.cell
    gi_wp2
    refine ⟨by simp, .inl ⟨_, _, rfl, run_takeDeferred hK, ?_⟩⟩
    exact ⟨_, results_tmp rfl _ _ _, by rw [← hS, len_vals]; rfl, hB.trans (belowK_b (w := w) (Nat.le_refl _) W D _ _ (by simp at hD; omega) hK rfl rfl)⟩
  case stop =>
    rintro D c pre W _ _ h _
    exact h.elim

theorem ones_any (X : Nat) (w : World) (hX : X < 4294967296) :
    Calls Tryz.prog 110 #[.int .u32 (X : Int)] w fun e w' => e = .returned (.int .i64 ((onesTo X 32).length : Int)) ∧ Below w.heap.size w w' :=
  callsIn_wide.1 (ones_in Fence.wide 3 X w hX trivial trivial trivial rfl (Nat.le_refl _))

end Go.Proofs.YtefcaeldkdbjdaaGreat
