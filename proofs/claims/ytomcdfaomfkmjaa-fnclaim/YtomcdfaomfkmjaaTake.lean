/- The contract of the program's TakeLow: the word of the lowest set bits. -/
import Derived.Test.YtomcdfaomfkmjaaIter
import Derived.Test.YtomcdfaomfkmjaaOrMath
namespace Go.Proofs.Ytomcdfaomfkmjaa
open Go.RowKit Go.Shelf

attribute [local go_sem] Oper.semAt_some

def vals (l : List (Fin 32)) : List Nat := l.map (fun k => k.val)
theorem vals_snoc (l : List (Fin 32)) (x : Fin 32) : vals (l ++ [x]) = vals l ++ [x.val] := by simp [vals]
theorem vals_len (l : List (Fin 32)) : (vals l).length = l.length := by simp [vals]
theorem vals_lt (l : List (Fin 32)) : orL (vals l) < 4294967296 := orL_lt fun k hk => by
  obtain ⟨i, _, rfl⟩ := List.mem_map.1 hk
  exact i.isLt
theorem pow_cast (k : Nat) : (2 : Int) ^ k = ((2 ^ k : Nat) : Int) := by rw [Int.natCast_pow]; rfl
theorem or_next (pre : List (Fin 32)) (x : Fin 32) : bits .or .u32 ((orL (vals pre) : Nat) : Int) (2 ^ x.val % 4294967296) = ((orL (vals (pre ++ [x])) : Nat) : Int) := by
  have h2 : 2 ^ x.val < 4294967296 := Nat.pow_lt_pow_right (n := 32) (by omega) x.isLt
  have h := u32_or_nat (orL (vals pre)) (2 ^ x.val) (vals_lt pre) h2
  rw [vals_snoc, orL_snoc, ← h, pow_cast]
  generalize 2 ^ x.val = y at *
  rw [Int.emod_eq_of_lt (by omega) (by omega)]
theorem mixed : Try.prog.follows Departure.mixedOrders = true := by kernel_rfl

set_option maxRecDepth 100000 in
set_option maxHeartbeats 2000000 in
theorem takeLow_in (F : Fence) (n X : Nat) (N : Int) (w : World) (hX : X < 4294967296) (hN0 : -9223372036854775808 ≤ N) (hN1 : N < 9223372036854775808) (h3 : F.fn 69) (h5 : F.fn 71) (h6 : F.fn 77) (hro : F.round = none) (hn : 3 ≤ n) :
    CallsIn F n Try.prog 69 #[.int .u32 (X : Int), .int .i64 N] w fun e w' => e = .returned (.int .u32 ((orL ((onesTo X 32).take N.toNat) : Nat) : Int)) ∧ Below w.heap.size w w' := by
  have HX := Lib.hid hX
  clear hX
  have h1 : 1 ≤ n := by omega
  have hmx := mixed
  refine callsIn_of_wp_marks Try.func69 rfl h3 ?_ hro
  simp only [Try.ntmps69, List.size_toArray, List.length_cons, List.length_nil, Nat.reduceAdd, Nat.reduceSub, Array.replicate_succ, Array.replicate_zero, List.push_toArray, List.append_toArray, List.nil_append, List.cons_append]
  gi_wp2_with (gi_at_call 71; refine (oneBits_in F (n - 1) h5 hro _ _).mono ?_; rintro e w' ⟨rfl, rfl⟩)
  have hs1 := Boxed.new w 24 (.int .u32 0)
  have hs2 := Boxed.new (w.alloc (.cells #[.int .u32 0] 24)) 3 (.int .i64 N)
  have hb := Boxed.new ((w.alloc (.cells #[.int .u32 0] 24)).alloc (.cells #[.int .i64 N] 3)) 24 (.int .u32 (X : Int))
  simp only [World.size_alloc] at hs2 hb
  have hB0 : Below w.heap.size w (((w.alloc (.cells #[.int .u32 0] 24)).alloc (.cells #[.int .i64 N] 3)).alloc (.cells #[.int .u32 (X : Int)] 24)) := (((Below.refl _ w).alloc (Nat.le_refl _) _).alloc (by simp) _).alloc (by simp; omega) _
  refine wpIn_rangeFunc_ownF hro h1 (gf := 77) (lb := #[.pointer (some ⟨w.heap.size + 1 + 1, 0, none⟩)]) rfl h6 (enters_of Try.func77 (by kernel_rfl) rfl)
    (iter_stops F (n - 1) h6 hro (by omega) (w.heap.size + 1 + 1) X HX.out _ (by simp) hb.cell) keepsBox_t (keepsBox_b (by simp)) (Below.refl _ _) (fun _ => rfl)
    (fun pre W => (((pre.length : Int) ≤ N ∨ pre = []) ∧ (Boxed W w.heap.size 24 (.int .u32 ((orL (vals pre) : Nat) : Int)) ∧ Boxed W (w.heap.size + 1) 3 (.int .i64 (N - (pre.length : Int))))) ∧ Below w.heap.size w W)
    (fun c pre W => (((c = .exit 0) ∧ N.toNat ≤ pre.length) ∧ Boxed W w.heap.size 24 (.int .u32 ((orL ((vals pre).take N.toNat) : Nat) : Int))) ∧ Below w.heap.size w W)
    (OwnFrom.and (OwnFrom.and (ownFrom_pure _ _) (OwnFrom.and (Go.Own.from (boxed_own _ _ _) _) (Go.Own.from (boxed_own _ _ _) _))) (ownFrom_below (Nat.le_refl _) (by simp; omega)))
    (fun c => OwnFrom.and (OwnFrom.and (ownFrom_pure _ _) (Go.Own.from (boxed_own _ _ _) _)) (ownFrom_below (Nat.le_refl _) (by simp; omega)))
    ⟨⟨.inr rfl, (hs1.alloc _).alloc _, by simpa using hs2.alloc _⟩, hB0⟩
    ?a1 ?assign ?body ?done ?stop
  case assign =>
    intro l x W K hK
    gi_wp2
    exact hK
  case body =>
    rintro l pre x W ⟨⟨hp, hv1, hv2⟩, hB⟩ hlt
    have hc1 := hv1.cell
    have hf1 := hv1.frozen
    have hc2 := hv2.cell
    have hf2 := hv2.frozen
    by_cases hle : N - (pre.length : Int) ≤ 0
    · have hl : N.toNat = pre.length := by
        rcases hp with hp | rfl
        · omega
        · simp at hle ⊢; omega
      have HP := Lib.hid hl
      clear hp hl hlt
      gi_wp2
      refine ⟨KeepsOthers.refl _, ⟨⟨rfl, by rw [HP.out]; simp⟩, ?_⟩, hB⟩
      rw [HP.out, vals_snoc, ← vals_len, List.take_left]
      exact hv1
    · have hx := x.isLt
      have HO := Lib.hid (or_next pre x)
      have HV1 := Lib.hid hv1
      have HV2 := Lib.hid hv2
      clear hv1 hv2
      gi_wp2
      gi_region_o
      all_goals gi_wp2
      all_goals
        refine ⟨((KeepsOthers.setCell _ _ _).trans (KeepsOthers.setCell _ _ _)).trans (KeepsOthers.drew _), keepsBox_t (keepsBox_t (keepsBox_set _ (by omega) _ _) (keepsBox_set _ (by omega) _ _)) (rfl : KeepsBox _ _ (World.drew _)), ⟨.inl (by simp; omega), ?_, ?_⟩, ((hB.setCell (p := ⟨w.heap.size, 0, none⟩) (Nat.le_refl _) _).setCell (p := ⟨w.heap.size + 1, 0, none⟩) (by simp) _).drew⟩
        · rw [← HO.out]
          exact (HV1.out.set _).other (by omega) _
        · have e : N - (((pre ++ [x]).length : Nat) : Int) = N - (pre.length : Int) - 1 := by simp; omega
          rw [e]
          exact (HV2.out.other (by omega) _).set _
  case done =>
    rintro D ys W hD hS ⟨⟨hp, hv1, hv2⟩, hB⟩ hK
    have hc1 := hv1.cell
    gi_wp2
    refine ⟨by simp, .inl ⟨_, _, rfl, run_takeDeferred hK, ?_⟩⟩
    refine ⟨_, results_tmp rfl _ _ _, ?_, hB.trans (belowK_b (w := w) (Nat.le_refl _) W D _ _ (by simp at hD; omega) hK rfl rfl)⟩
    have e : (onesTo X 32).take N.toNat = vals ys := by
      show _ = ys.map _
      rw [hS, List.take_of_length_le]
      rw [← hS, List.length_map]
      rcases hp with hp | rfl
      · omega
      · simp
    rw [e]
    rfl
  case stop =>
    rintro D c pre W hD hpre ⟨⟨⟨rfl, hlen⟩, hv⟩, hB⟩ hK
    have hc := hv.cell
    gi_wp2
    refine ⟨by simp, .inl ⟨_, _, rfl, run_takeDeferred hK, ?_⟩⟩
    refine ⟨_, results_tmp rfl _ _ _, ?_, hB.trans (belowK_b (w := w) (Nat.le_refl _) W D _ _ (by simp at hD; omega) hK rfl rfl)⟩
    have e : (onesTo X 32).take N.toNat = (vals pre).take N.toNat := by
      obtain ⟨q, hq⟩ := hpre
      rw [← hq, List.take_append_of_le_length (by simp; omega)]
      rfl
    rw [e]
    rfl

theorem takeLow_any (X : Nat) (N : Int) (w : World) (hX : X < 4294967296) (hN0 : -9223372036854775808 ≤ N) (hN1 : N < 9223372036854775808) :
    Calls Try.prog 69 #[.int .u32 (X : Int), .int .i64 N] w fun e w' => e = .returned (.int .u32 ((orL ((onesTo X 32).take N.toNat) : Nat) : Int)) ∧ Below w.heap.size w w' :=
  callsIn_wide.1 (takeLow_in Fence.wide 3 X N w hX hN0 hN1 trivial trivial trivial rfl (Nat.le_refl _))

end Go.Proofs.Ytomcdfaomfkmjaa
