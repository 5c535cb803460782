/- The program's iterator over the set bits of a word once more: what a round is handed is known to be a set bit. -/
import Derived.Test.YtgaphgffchifcaaILane
namespace Go.Proofs.Ytgaphgffchifcaa
open Go.RowKit Go.Shelf

attribute [local go_sem] Oper.semAt_some

/-- A set bit of X. -/
abbrev BitOf (X : Nat) := { k : Nat // X.testBit k = true }

set_option maxRecDepth 100000 in
set_option maxHeartbeats 1000000 in
theorem iterX_in (F : Fence) (n : Nat) (hf : F.fn 70) (hro : F.round = none) (hn : 1 ≤ n) (l B X : Nat) (hX : X < 4294967296) (J Jx : List (BitOf X) → World → Prop)
    (hY : ∀ pre x W, J pre W → pre.length < 32 → YieldAt F (n - 1) Try.prog l #[.int .i64 ((x : BitOf X).val : Int)] W fun e W' =>
      (e = .returned (.bool true) ∧ J (pre ++ [x]) W' ∧ KeepsBox B W W') ∨ (e = .returned (.bool false) ∧ Jx (pre ++ [x]) W'))
    (W : World) (hB : W.cell? ⟨B, 0, none⟩ = some (.int .u32 (X : Int))) (h0 : J [] W) :
    CallsIn F n Try.prog 70 #[.func (.yield l) #[] #[], .pointer (some ⟨B, 0, none⟩)] W fun e W' => (∃ v, e = .returned v) ∧
      ((∃ ys : List (BitOf X), ys.map (fun k => k.val) = onesTo X 32 ∧ J ys W') ∨ (∃ pre : List (BitOf X), pre.map (fun k => k.val) <+: onesTo X 32 ∧ Jx pre W')) := by
  refine callsIn_of_wp Try.func70 rfl hf ?_ hro
  simp only [Try.ntmps70, List.size_toArray, List.length_cons, List.length_nil, Nat.reduceAdd, Nat.reduceSub, Array.replicate_succ, Array.replicate_zero, List.push_toArray, List.append_toArray, List.nil_append, List.cons_append]
  gi_wp2
  gi_loopw [3] (fun i wr => ∃ (k : Nat) (pre : List (BitOf X)), k ≤ 32 ∧ i = .int .i64 k ∧ wr.cell? ⟨B, 0, none⟩ = some (.int .u32 (X : Int)) ∧ pre.map (fun k => k.val) = onesTo X k ∧ J pre wr)
    (fun i _ => 33 - (intOf i).toNat)
  case atStart => exact ⟨0, [], by omega, rfl, hB, rfl, h0⟩
  case round =>
    obtain ⟨k, pre, hk, rfl, hc, hp, hJ⟩ := hrel
    have HK := Lib.hid hk
    have HP := Lib.hid hp
    have HX := Lib.hid hX
    clear hp hX hB h0
    by_cases hz : X / 2 ^ k = 0
    · have hb : (((X : Int) / 2 ^ k) != 0) = false := by simpa using hz0 hz
      have HZ := Lib.hid hz
      clear hz hY
      gi_wp2
      go_end0
      exact ⟨⟨_, rfl⟩, .inl ⟨pre, by rw [HP.out, onesTo_stop HZ.out 32 HK.out], hJ⟩⟩
    · have hk32 : k < 32 := lt_of_more HX.out hz
      clear hk
      have hk : k ≤ 32 := by omega
      have hb : (((X : Int) / 2 ^ k) != 0) = true := by simpa using fun e => hz (zero_of e)
      clear hz
      by_cases h1 : X / 2 ^ k % 2 = 1
      · have hk8 : X.testBit k = true := (bit_mod _ _).2 h1
        have ha : bits .and .u32 ((X : Int) / 2 ^ k) 1 = 1 := by rw [and_one HX.out, h1]; rfl
        have HN := Lib.hid (onesTo_hit h1)
        clear h1
        obtain ⟨fn, tmps, assign, body, hy, hR⟩ := hY pre ⟨k, hk8⟩ wr hJ (by
          have := congrArg List.length HP.out
          rw [List.length_map] at this
          have := onesTo_len X k
          omega)
        dsimp only at hy
        clear hY
        gi_wp2
        refine hR.mono ?_
        rintro e W3 (⟨rfl, hJ3, hk3⟩ | ⟨rfl, hJx3⟩)
        · have hc3 : W3.cell? ⟨B, 0, none⟩ = some (.int .u32 (X : Int)) := hk3.trans hc
          gi_wp2
          go_roundw
          case rel => exact ⟨k + 1, pre ++ [⟨k, hk8⟩], by omega, by go_num, hc3, by rw [HN.out, List.map_append, HP.out]; rfl, hJ3⟩
          case measure => simp [intOf]; omega
        · gi_wp2
          refine bodyPost_ret (results_none rfl _ _ _) rfl ?_
          refine ⟨⟨_, rfl⟩, .inr ⟨pre ++ [⟨k, hk8⟩], ?_, hJx3⟩⟩
          rw [List.map_append, HP.out]
          have h5 := onesTo_pre (X := X) (k := k + 1) (m := 32) (by omega)
          rw [HN.out] at h5
          exact h5
      · have ha : bits .and .u32 ((X : Int) / 2 ^ k) 1 = 0 := by
          rw [and_one HX.out, show X / 2 ^ k % 2 = 0 from by omega]; rfl
        have HN := Lib.hid (onesTo_miss h1)
        clear h1 hY
        gi_wp2
        refine ⟨fun _ h => (by cases h), ?_⟩
        gi_wp2
        go_roundw
        case rel => exact ⟨k + 1, pre, by omega, by go_num, hc, by rw [HN.out, HP.out], hJ⟩
        case measure => simp [intOf]; omega

/-- The iterator stops: all set bits in ascending order, or a first part of them. -/
theorem iterX_stops (F : Fence) (n : Nat) (hf : F.fn 70) (hro : F.round = none) (hn : 1 ≤ n) (B X : Nat) (hX : X < 4294967296) (w : World) (hB : B < w.heap.size) (hc : w.cell? ⟨B, 0, none⟩ = some (.int .u32 (X : Int))) :
    SeqStopsK F n Try.prog 70 #[.pointer (some ⟨B, 0, none⟩)] (fun x : BitOf X => #[Value.int .i64 (x.val : Int)]) (KeepsBox B) (fun ys => ys.map (fun k => k.val) = onesTo X 32) (fun pre => pre.map (fun k => k.val) <+: onesTo X 32) 32 w := fun l J Jx W hW _ _ hY h0 =>
  iterX_in F n hf hro hn l B X hX J Jx hY W ((hW.cell (p := ⟨B, 0, none⟩) hB).trans hc) h0

def valsX {X : Nat} (l : List (BitOf X)) : List Nat := l.map (fun k => k.val)
theorem valsX_snoc {X : Nat} (l : List (BitOf X)) (x : BitOf X) : valsX (l ++ [x]) = valsX l ++ [x.val] := by simp [valsX]
theorem valsX_len {X : Nat} (l : List (BitOf X)) : (valsX l).length = l.length := by simp [valsX]

end Go.Proofs.Ytgaphgffchifcaa
