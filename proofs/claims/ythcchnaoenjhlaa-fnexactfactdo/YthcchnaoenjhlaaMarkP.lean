/- The contracts of the laws' markBlockS and heldBlockS: mark writes 1, 2, 3 .. into a list of blocks of the call's own, held finds them there. -/
import Derived.Test.YthcchnaoenjhlaaLawP
namespace Go.Proofs.Ythcchnaoenjhlaa
open Go.RowKit

/-- (1, 2), (3, 4), .. -/
def marksP (n : Nat) : List (Int × Int) := (List.range n).map fun i : Nat => (1 + 2 * (i : Int), 2 + 2 * (i : Int))
/-- These in the first k places, then as it was. -/
def markToP (ps : List (Int × Int)) (k : Nat) : List (Int × Int) := marksP k ++ ps.drop k
theorem marksP_len (n : Nat) : (marksP n).length = n := by simp [marksP]
theorem markToP_next {ps : List (Int × Int)} {k : Nat} (h : k < ps.length) : (markToP ps k).set k (1 + 2 * (k : Int), 2 + 2 * (k : Int)) = markToP ps (k + 1) := by
  unfold markToP
  rw [List.drop_eq_getElem_cons h, List.set_append]
  simp [marksP, List.range_succ]
  rw [List.drop_eq_getElem_cons h]
  rfl
theorem markToP_all {ps : List (Int × Int)} {k n : Nat} (h : ps.length = n) (hk : n ≤ k) (hk' : k ≤ n) : markToP ps k = marksP n := by
  obtain rfl : k = n := by omega
  unfold markToP
  rw [List.drop_eq_nil_of_le (by omega)]; simp
theorem marksP_pa {n k : Nat} (h : k < n) : pa (marksP n) k = 1 + 2 * (k : Int) := by simp [marksP, pa, h]
theorem marksP_pb {n k : Nat} (h : k < n) : pb (marksP n) k = 2 + 2 * (k : Int) := by simp [marksP, pb, h]

set_option maxHeartbeats 1000000 in
theorem markP_one (g n c b0 : Nat) (ps : List (Int × Int)) (w : World) (h : OwnP w b0 (some ⟨g, 0, none⟩) n c ps) (hn : n ≤ 1048640) :
    Calls Try.prog 17 #[.slice (some ⟨g, 0, none⟩) n c, .int .i64 1] w fun e w' => e = .returned (.int .i64 (1 + 2 * n)) ∧ OwnP w' b0 (some ⟨g, 0, none⟩) n c (marksP n) ∧ w.grownBy w' (some g) := by
  have H := Lib.hid h
  have HL := Lib.hid h.len
  clear h
  go_enter Try.func17, Try.ntmps17
  go_wp2
  go_loopw [1, 5] (fun q i wr => ∃ k : Nat, k ≤ n ∧ i = .int .i64 k ∧ q = .int .i64 (1 + 2 * k) ∧ Hid (OwnP wr b0 (some ⟨g, 0, none⟩) n c (markToP ps k)) ∧ Hid (w.grownBy wr (some g))) (fun _ i _ => n - (intOf i).toNat)
  case atStart => exact ⟨0, Nat.zero_le _, rfl, rfl, by simpa [markToP, marksP] using H, World.grownBy.refl _ _⟩
  case round =>
    obtain ⟨k, hk, rfl, rfl, HO, HG⟩ := hrel
    by_cases hlt : k < n
    · have c1 := HO.out.cell1 rfl hlt
      have f1 := HO.out.free rfl (k * 2)
      have c2 := HO.out.cell2 rfl hlt
      have f2 := HO.out.free rfl (k * 2 + 1)
      have HN : Hid (OwnP ((wr.setCell ⟨g, k * 2, none⟩ (.int .i64 (1 + 2 * (k : Int)))).setCell ⟨g, k * 2 + 1, none⟩ (.int .i64 (1 + 2 * (k : Int) + 1))) b0 (some ⟨g, 0, none⟩) n c (markToP ps (k + 1))) := by
        rw [← markToP_next (by have := HL.out; omega), show (1 + 2 * (k : Int) + 1) = 2 + 2 * (k : Int) by omega]; exact HO.out.store hlt
      have HM : Hid (w.grownBy ((wr.setCell ⟨g, k * 2, none⟩ (.int .i64 (1 + 2 * (k : Int)))).setCell ⟨g, k * 2 + 1, none⟩ (.int .i64 (1 + 2 * (k : Int) + 1))) (some g)) :=
        ⟨HG.out.os, HG.out.tape, HG.out.output, by simpa [World.setCell] using HG.out.size, fun i hi hne => (Below.heap_setCell _ ⟨g, k * 2 + 1, none⟩ _ i (fun e => hne (by simp [e]))).trans ((Below.heap_setCell wr ⟨g, k * 2, none⟩ _ i (fun e => hne (by simp [e]))).trans (HG.out.block i hi hne))⟩
      clear HO HG
      go_wp2
      go_roundw
      case rel => exact ⟨k + 1, by omega, by go_num, by go_num, HN, HM⟩
      case measure => simp [intOf]; omega
    · go_wp2
      go_ret
      have e := markToP_all HL.out (show n ≤ k by omega) hk
      refine ⟨?_, by rw [← e]; exact HO.out, HG.out⟩
      have : k = n := by omega
      rw [this]
      rfl

set_option maxHeartbeats 1000000 in
theorem heldP_any (A : Option Addr) (n c B : Nat) (w : World) (h : RdP w B A n (marksP n)) (hn : n ≤ 1048640) :
    Calls Try.prog 18 #[.slice A n c, .int .i64 1] w fun e w' => e = .returned (.int .i64 (1 + 2 * n)) ∧ w = w' := by
  have H2 := Lib.hid h.2
  clear h
  go_enter Try.func18, Try.ntmps18
  go_wp2
  go_loop [1, 5] (fun q i => ∃ k : Nat, k ≤ n ∧ i = .int .i64 k ∧ q = .int .i64 (1 + 2 * k)) (fun _ i => n - (intOf i).toNat)
  case atStart => exact ⟨0, Nat.zero_le _, rfl, rfl⟩
  case round =>
    obtain ⟨k, hk, rfl, rfl⟩ := hrel
    by_cases hlt : k < n
    · obtain ⟨g, o, rfl, _, hc⟩ := H2.out (by omega)
      obtain ⟨c1, c2⟩ := hc k hlt
      rw [marksP_pa hlt] at c1
      rw [marksP_pb hlt, show (2 + 2 * (k : Int)) = 1 + 2 * (k : Int) + 1 by omega] at c2
      clear hc
      go_wp2
      go_round
      case rel => exact ⟨k + 1, by omega, by go_num, by go_num⟩
      case measure => simp [intOf]; omega
    · go_wp2
      go_ret
      have : k = n := by omega
      rw [this]
      exact ⟨rfl, rfl⟩

theorem markP_zero (w : World) : Calls Try.prog 17 #[.slice none 0 0, .int .i64 1] w fun e w' => e = .returned (.int .i64 1) ∧ w = w' := by
  go_enter Try.func17, Try.ntmps17
  go_wp2
  refine wp_loop_rounds 1 ?_
  rw [rounds_succ]
  go_wp2
  go_ret
  exact ⟨rfl, rfl⟩

theorem markP_any (A : Option Addr) (n c b0 : Nat) (ps : List (Int × Int)) (w : World) (h : OwnP w b0 A n c ps) (hn : n ≤ 1048640) :
    Calls Try.prog 17 #[.slice A n c, .int .i64 1] w fun e w' => e = .returned (.int .i64 (1 + 2 * n)) ∧ OwnP w' b0 A n c (marksP n) ∧ w.grownBy w' (Value.slice A n c).ownBlock := by
  rcases h.2 with ⟨hv, h0⟩ | ⟨g, cap, cur, hv, _⟩
  · injection hv with h1 h2 h3
    subst h1 h2 h3
    exact (markP_zero w).mono fun e w' ⟨h5, h6⟩ => ⟨h5, World.ownsRow_nil _ _ _ _, h6 ▸ World.grownBy.refl _ _⟩
  · injection hv with h1 h2 h3
    subst h1 h3
    exact markP_one g n c b0 ps w h hn

end Go.Proofs.Ythcchnaoenjhlaa
