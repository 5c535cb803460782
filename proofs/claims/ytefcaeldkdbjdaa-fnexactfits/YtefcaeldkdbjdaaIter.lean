/- The contract of the program's iterator over the set bits of a word: it hands out their numbers in ascending order, till a round says no. -/
import Derived.RangeFuncNested
import Derived.RangeFuncBound
import Derived.RangeFuncCalls
import Derived.RangeFuncLeaves
import Derived.Shelf.Abstract
import Derived.Shelf.RegionOpen
import Derived.OwnWalkIn
import Derived.TacticsInMore
import Derived.LoopNIn
import Derived.LoopIn
import Derived.Test.YtefcaeldkdbjdaaBase
import Derived.Test.YtefcaeldkdbjdaaOnesMath
import Derived.Laws.BitsAllLaws
namespace Go.Proofs.Ytefcaeldkdbjdaa
open Go.RowKit Go.Shelf

attribute [local go_sem] Oper.semAt_some

/-- What a round that goes on keeps: the box of the word. -/
def KeepsBox (B : Nat) (W W' : World) : Prop := W'.cell? ⟨B, 0, none⟩ = W.cell? ⟨B, 0, none⟩

theorem hz0 {X k : Nat} (h : X / 2 ^ k = 0) : (X : Int) / 2 ^ k = 0 := by exact_mod_cast h
theorem zero_of {X k : Nat} (h : (X : Int) / 2 ^ k = 0) : X / 2 ^ k = 0 := by exact_mod_cast h
theorem lt_of_more {X k : Nat} (hX : X < 4294967296) (h : ¬ X / 2 ^ k = 0) : k < 32 := by
  refine Nat.lt_of_not_le fun h1 => h ?_
  have : 2 ^ 32 ≤ 2 ^ k := Nat.pow_le_pow_right (by omega) h1
  exact Nat.div_eq_of_lt (by omega)
theorem and_one {X k : Nat} (hX : X < 4294967296) : bits .and .u32 ((X : Int) / 2 ^ k) 1 = ((X / 2 ^ k % 2 : Nat) : Int) := by
  have h := u32_and_nat (X / 2 ^ k) 1 (Nat.lt_of_le_of_lt (Nat.div_le_self _ _) hX) (by omega)
  rw [Nat.and_one_is_mod] at h
  rw [← h]
  congr 1


set_option maxRecDepth 100000 in
set_option maxHeartbeats 1000000 in
theorem iter1_in (F : Fence) (n : Nat) (hf : F.fn 45) (hro : F.round = none) (hn : 1 ≤ n) (l B X : Nat) (hX : X < 4294967296) (J Jx : List (Fin 32) → World → Prop)
    (hY : ∀ pre x W, J pre W → pre.length < 32 → YieldAt F (n - 1) Try.prog l #[.int .i64 ((x : Fin 32).val : Int)] W fun e W' =>
      (e = .returned (.bool true) ∧ J (pre ++ [x]) W' ∧ KeepsBox B W W') ∨ (e = .returned (.bool false) ∧ Jx (pre ++ [x]) W'))
    (W : World) (hB : W.cell? ⟨B, 0, none⟩ = some (.int .u32 (X : Int))) (h0 : J [] W) :
    CallsIn F n Try.prog 45 #[.func (.yield l) #[] #[], .pointer (some ⟨B, 0, none⟩)] W fun e W' => (∃ v, e = .returned v) ∧
      ((∃ ys : List (Fin 32), ys.map (fun k => k.val) = onesTo X 32 ∧ J ys W') ∨ (∃ pre : List (Fin 32), pre.map (fun k => k.val) <+: onesTo X 32 ∧ Jx pre W')) := by
  refine callsIn_of_wp Try.func45 rfl hf ?_ hro
  simp only [Try.ntmps45, List.size_toArray, List.length_cons, List.length_nil, Nat.reduceAdd, Nat.reduceSub, Array.replicate_succ, Array.replicate_zero, List.push_toArray, List.append_toArray, List.nil_append, List.cons_append]
  gi_wp2
  gi_loopw [3] (fun i wr => ∃ (k : Nat) (pre : List (Fin 32)), k ≤ 32 ∧ i = .int .i64 k ∧ wr.cell? ⟨B, 0, none⟩ = some (.int .u32 (X : Int)) ∧ pre.map (fun k => k.val) = onesTo X k ∧ J pre wr)
    (fun i _ => 33 - (intOf i).toNat)
  case atStart => exact ⟨0, [], by omega, rfl, hB, rfl, h0⟩
  case round =>
    obtain ⟨k, pre, hk, rfl, hc, hp, hJ⟩ := hrel
    have HK := Lib.hid hk
    have HP := Lib.hid hp
    have HX := Lib.hid hX
    clear hp hX hB h0
    by_cases hz : X / 2 ^ k = 0
    · have hb : (((X : Int) / 2 ^ k) != 0) = false := by simpa using hz0 hz
      have HZ := Lib.hid hz
      clear hz hY
      gi_wp2
      go_end0
      exact ⟨⟨_, rfl⟩, .inl ⟨pre, by rw [HP.out, onesTo_stop HZ.out 32 HK.out], hJ⟩⟩
    · have hk32 : k < 32 := lt_of_more HX.out hz
      clear hk
      have hk : k ≤ 32 := by omega
      have hb : (((X : Int) / 2 ^ k) != 0) = true := by simpa using fun e => hz (zero_of e)
      clear hz
      by_cases h1 : X / 2 ^ k % 2 = 1
      · have ha : bits .and .u32 ((X : Int) / 2 ^ k) 1 = 1 := by rw [and_one HX.out, h1]; rfl
        have HN := Lib.hid (onesTo_hit h1)
        clear h1
        obtain ⟨fn, tmps, assign, body, hy, hR⟩ := hY pre ⟨k, hk32⟩ wr hJ (by
          have := congrArg List.length HP.out
          rw [List.length_map] at this
          have := onesTo_len X k
          omega)
        dsimp only at hy
        clear hY
        gi_wp2
        refine hR.mono ?_
        rintro e W3 (⟨rfl, hJ3, hk3⟩ | ⟨rfl, hJx3⟩)
        · have hc3 : W3.cell? ⟨B, 0, none⟩ = some (.int .u32 (X : Int)) := hk3.trans hc
          gi_wp2
          go_roundw
          case rel => exact ⟨k + 1, pre ++ [⟨k, hk32⟩], by omega, by go_num, hc3, by rw [HN.out, List.map_append, HP.out]; rfl, hJ3⟩
          case measure => simp [intOf]; omega
        · gi_wp2
          refine bodyPost_ret (results_none rfl _ _ _) rfl ?_
          refine ⟨⟨_, rfl⟩, .inr ⟨pre ++ [⟨k, hk32⟩], ?_, hJx3⟩⟩
          rw [List.map_append, HP.out]
          have h5 := onesTo_pre (X := X) (k := k + 1) (m := 32) (by omega)
          rw [HN.out] at h5
          exact h5
      · have ha : bits .and .u32 ((X : Int) / 2 ^ k) 1 = 0 := by
          rw [and_one HX.out, show X / 2 ^ k % 2 = 0 from by omega]; rfl
        have HN := Lib.hid (onesTo_miss h1)
        clear h1 hY
        gi_wp2
        refine ⟨fun _ h => (by cases h), ?_⟩
        gi_wp2
        go_roundw
        case rel => exact ⟨k + 1, pre, by omega, by go_num, hc, by rw [HN.out, HP.out], hJ⟩
        case measure => simp [intOf]; omega

set_option maxHeartbeats 1000000 in
theorem oneBits_in (F : Fence) (n : Nat) (hf : F.fn 34) (hro : F.round = none) (x : Int) (w : World) :
    CallsIn F n Try.prog 34 #[.int .u32 x] w fun e w' => e = .returned (.func (.func 45) #[] #[.pointer (some ⟨w.heap.size, 0, none⟩)]) ∧ w' = w.alloc (.cells #[.int .u32 x] 36) := by
  refine callsIn_of_wp Try.func34 rfl hf ?_ hro
  simp only [Try.ntmps34, List.size_toArray, List.length_cons, List.length_nil, Nat.reduceAdd, Nat.reduceSub, Array.replicate_succ, Array.replicate_zero, List.push_toArray, List.append_toArray, List.nil_append, List.cons_append]
  gi_wp2
  go_ret
  exact ⟨rfl, rfl⟩

/-- The iterator stops: all set bits in ascending order, or a first part of them. -/
theorem iter_stops (F : Fence) (n : Nat) (hf : F.fn 45) (hro : F.round = none) (hn : 1 ≤ n) (B X : Nat) (hX : X < 4294967296) (w : World) (hB : B < w.heap.size) (hc : w.cell? ⟨B, 0, none⟩ = some (.int .u32 (X : Int))) :
    SeqStopsK F n Try.prog 45 #[.pointer (some ⟨B, 0, none⟩)] (fun x : Fin 32 => #[Value.int .i64 (x.val : Int)]) (KeepsBox B) (fun ys => ys.map (fun k => k.val) = onesTo X 32) (fun pre => pre.map (fun k => k.val) <+: onesTo X 32) 32 w := fun l J Jx W hW _ _ hY h0 =>
  iter1_in F n hf hro hn l B X hX J Jx hY W ((hW.cell (p := ⟨B, 0, none⟩) hB).trans hc) h0

theorem keepsBox_t {B : Nat} : ∀ {A C D : World}, KeepsBox B A C → KeepsBox B C D → KeepsBox B A D := fun h1 h2 => Eq.trans h2 h1
theorem keepsBox_b {w : World} {B : Nat} (h : B < w.heap.size) : ∀ (W : World) (l : Nat) (o o' : Obj), w.heap.size ≤ l → W.heap[l]? = some o → o.isCells = false → o.isWalk = false → KeepsBox B W (W.putObj l o') := fun W l o o' hl h1 h2 h3 =>
  (belowK_b (w := w) (Nat.le_refl _) W l o o' hl h1 h2 h3).cell (p := ⟨B, 0, none⟩) h
theorem keepsBox_set {B b : Nat} (W : World) (h : b ≠ B) (o : Nat) (u : Value) : KeepsBox B W (W.setCell ⟨b, o, none⟩ u) := World.cell?_setCell_other _ _ _ _ (by intro e; exact h (congrArg Addr.block e))

end Go.Proofs.Ytefcaeldkdbjdaa
