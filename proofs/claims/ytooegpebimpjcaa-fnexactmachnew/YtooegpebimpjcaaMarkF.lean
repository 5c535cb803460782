/- The laws' markIntS and heldIntS from any start: mark writes q, q + 1, .. into a slice of the call's own, held finds them there. -/
import Derived.Test.YtooegpebimpjcaaOwnK
namespace Go.Proofs.Ytooegpebimpjcaa
open Go.RowKit

/-- q, q + 1, .., n of them. -/
def marksF (q : Int) (n : Nat) : List Int := (List.range n).map (fun i : Nat => q + (i : Int))
def markFTo (q : Int) (zs : List Int) (k : Nat) : List Int := marksF q k ++ zs.drop k
theorem markF_next {q : Int} {zs : List Int} {k : Nat} (h : k < zs.length) : (markFTo q zs k).set k (q + (k : Int)) = markFTo q zs (k + 1) := by
  unfold markFTo marksF
  rw [List.range_succ, List.map_append, List.drop_eq_getElem_cons h, List.set_append]
  simp
  rw [List.drop_eq_getElem_cons h]
  rfl
theorem markF_all {q : Int} {zs : List Int} {k n : Nat} (h : zs.length = n) (hk : n ≤ k) (hk' : k ≤ n) : markFTo q zs k = marksF q n := by
  obtain rfl : k = n := by omega
  unfold markFTo
  rw [List.drop_eq_nil_of_le (by omega)]; simp
theorem marksF_at {q : Int} {n k : Nat} (h : k < n) : (marksF q n)[k]?.getD 0 = q + (k : Int) := by simp [marksF, h]

set_option maxHeartbeats 1000000 in
theorem markF_one {ty : TypeId} (g n c b0 : Nat) (q : Int) (zs : List Int) (w : World) (h : OwnK ty .i64 w b0 (some ⟨g, 0, none⟩) n c zs) (hn : n ≤ 2000000) (h0 : 0 ≤ q) (h1 : q ≤ 100000000) :
    Calls Try.prog 58 #[.slice (some ⟨g, 0, none⟩) n c, .int .i64 q] w fun e w' => e = .returned (.int .i64 (q + n)) ∧ OwnK ty .i64 w' b0 (some ⟨g, 0, none⟩) n c (marksF q n) ∧ w.grownBy w' (some g) := by
  have H := Lib.hid h
  have HL := Lib.hid h.len
  clear h
  go_enter Try.func58, Try.ntmps58
  go_wp2
  go_loopw [1, 5] (fun p i wr => ∃ k : Nat, k ≤ n ∧ i = .int .i64 k ∧ p = .int .i64 (q + k) ∧ Hid (OwnK ty .i64 wr b0 (some ⟨g, 0, none⟩) n c (markFTo q zs k)) ∧ Hid (w.grownBy wr (some g))) (fun _ i _ => n - (intOf i).toNat)
  case atStart => exact ⟨0, Nat.zero_le _, rfl, by simp, by simpa [markFTo, marksF] using H, World.grownBy.refl _ _⟩
  case round =>
    obtain ⟨k, hk, rfl, rfl, HO, HG⟩ := hrel
    by_cases hlt : k < n
    · have c2 := HO.out.cell rfl hlt
      have f2 := HO.out.free rfl k
      have HN : Hid (OwnK ty .i64 (wr.setCell ⟨g, k, none⟩ (.int .i64 (q + (k : Int)))) b0 (some ⟨g, 0, none⟩) n c (markFTo q zs (k + 1))) := by
        rw [← markF_next (by have := HL.out; omega)]; exact HO.out.store
      have HM : Hid (w.grownBy (wr.setCell ⟨g, k, none⟩ (.int .i64 (q + (k : Int)))) (some g)) :=
        ⟨HG.out.os, HG.out.tape, HG.out.output, by simpa [World.setCell] using HG.out.size, fun i hi hne => (Below.heap_setCell wr ⟨g, k, none⟩ _ i (fun e => hne (by simp [e]))).trans (HG.out.block i hi hne)⟩
      clear HO HG
      go_wp2
      go_roundw
      case rel => exact ⟨k + 1, by omega, by go_num, by go_num, HN, HM⟩
      case measure => simp [intOf]; omega
    · go_wp2
      go_ret
      have e := markF_all (q := q) HL.out (show n ≤ k by omega) hk
      refine ⟨?_, by rw [← e]; exact HO.out, HG.out⟩
      have : k = n := by omega
      rw [this]
      rfl

theorem markF_zero (q : Int) (w : World) : Calls Try.prog 58 #[.slice none 0 0, .int .i64 q] w fun e w' => e = .returned (.int .i64 q) ∧ w = w' := by
  go_enter Try.func58, Try.ntmps58
  go_wp2
  refine wp_loop_rounds 1 ?_
  rw [rounds_succ]
  go_wp2
  go_ret
  exact ⟨rfl, rfl⟩

theorem markF_any {ty : TypeId} (A : Option Addr) (n c b0 : Nat) (q : Int) (zs : List Int) (w : World) (h : OwnK ty .i64 w b0 A n c zs) (hn : n ≤ 2000000) (h0 : 0 ≤ q) (h1 : q ≤ 100000000) :
    Calls Try.prog 58 #[.slice A n c, .int .i64 q] w fun e w' => e = .returned (.int .i64 (q + n)) ∧ OwnK ty .i64 w' b0 A n c (marksF q n) ∧ w.grownBy w' (Value.slice A n c).ownBlock := by
  rcases h.2 with ⟨hv, hz⟩ | ⟨g, cap, cur, hv, _⟩
  · injection hv with h2 h3 h4
    subst h2 h3 h4
    exact (markF_zero q w).mono fun e w' ⟨h5, h6⟩ => ⟨by rw [h5]; simp, World.ownsRow_nil _ _ _ _, h6 ▸ World.grownBy.refl _ _⟩
  · injection hv with h2 h3 h4
    subst h2 h4
    exact markF_one g n c b0 q zs w h hn h0 h1

set_option maxHeartbeats 1000000 in
theorem heldF_any (A : Option Addr) (n c B : Nat) (q : Int) (w : World) (h : RdK .i64 w B A n (marksF q n)) (hn : n ≤ 2000000) (h0 : 0 ≤ q) (h1 : q ≤ 100000000) :
    Calls Try.prog 59 #[.slice A n c, .int .i64 q] w fun e w' => e = .returned (.int .i64 (q + n)) ∧ w = w' := by
  have H2 := Lib.hid h.2
  clear h
  go_enter Try.func59, Try.ntmps59
  go_wp2
  go_loop [1, 5] (fun p i => ∃ k : Nat, k ≤ n ∧ i = .int .i64 k ∧ p = .int .i64 (q + k)) (fun _ i => n - (intOf i).toNat)
  case atStart => exact ⟨0, Nat.zero_le _, rfl, by simp⟩
  case round =>
    obtain ⟨k, hk, rfl, rfl⟩ := hrel
    by_cases hlt : k < n
    · obtain ⟨g, o, rfl, _, hc⟩ := H2.out (by omega)
      have c1 := hc k hlt
      rw [marksF_at hlt] at c1
      clear hc
      go_wp2
      go_round
      case rel => exact ⟨k + 1, by omega, by go_num, by go_num⟩
      case measure => simp [intOf]; omega
    · go_wp2
      go_ret
      have : k = n := by omega
      rw [this]
      exact ⟨rfl, rfl⟩

end Go.Proofs.Ytooegpebimpjcaa
