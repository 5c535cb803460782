/- The contracts of the laws' markIntS and heldIntS: mark writes 1, 2, 3 .. into a slice of the call's own, held finds them there. -/
import Derived.Test.YthcchnaoenjhlaaOwnK
namespace Go.Proofs.Ythcchnaoenjhlaa
open Go.RowKit

/-- 1, 2, .. in the first k places, then as it was. -/
def markTo (zs : List Int) (k : Nat) : List Int := (List.range k).map (fun i : Nat => 1 + (i : Int)) ++ zs.drop k
/-- 1, 2, .., n. -/
def marks (n : Nat) : List Int := (List.range n).map (fun i : Nat => 1 + (i : Int))
theorem mark_next {zs : List Int} {k : Nat} (h : k < zs.length) : (markTo zs k).set k (1 + (k : Int)) = markTo zs (k + 1) := by
  unfold markTo
  rw [List.range_succ, List.map_append, List.drop_eq_getElem_cons h, List.set_append]
  simp
  rw [List.drop_eq_getElem_cons h]
  rfl
theorem mark_all {zs : List Int} {k n : Nat} (h : zs.length = n) (hk : n ≤ k) (hk' : k ≤ n) : markTo zs k = marks n := by
  obtain rfl : k = n := by omega
  unfold markTo marks
  rw [List.drop_eq_nil_of_le (by omega)]; simp
theorem marks_at {n k : Nat} (h : k < n) : (marks n)[k]?.getD 0 = 1 + (k : Int) := by simp [marks, h]
theorem marks_len (n : Nat) : (marks n).length = n := by simp [marks]

set_option maxHeartbeats 1000000 in
theorem markI_any {ty : TypeId} (g n c b0 : Nat) (zs : List Int) (w : World) (h : OwnK ty .i64 w b0 (some ⟨g, 0, none⟩) n c zs) (hn : n ≤ 1048640) :
    Calls Try.prog 36 #[.slice (some ⟨g, 0, none⟩) n c, .int .i64 1] w fun e w' => e = .returned (.int .i64 (1 + n)) ∧ OwnK ty .i64 w' b0 (some ⟨g, 0, none⟩) n c (marks n) ∧ w.grownBy w' (some g) := by
  have H := Lib.hid h
  have HL := Lib.hid h.len
  clear h
  go_enter Try.func36, Try.ntmps36
  go_wp2
  go_loopw [1, 5] (fun q i wr => ∃ k : Nat, k ≤ n ∧ i = .int .i64 k ∧ q = .int .i64 (1 + k) ∧ Hid (OwnK ty .i64 wr b0 (some ⟨g, 0, none⟩) n c (markTo zs k)) ∧ Hid (w.grownBy wr (some g))) (fun _ i _ => n - (intOf i).toNat)
  case atStart => exact ⟨0, Nat.zero_le _, rfl, rfl, by simpa [markTo] using H, World.grownBy.refl _ _⟩
  case round =>
    obtain ⟨k, hk, rfl, rfl, HO, HG⟩ := hrel
    by_cases hlt : k < n
    · have c2 := HO.out.cell rfl hlt
      have f2 := HO.out.free rfl k
      have HN : Hid (OwnK ty .i64 (wr.setCell ⟨g, k, none⟩ (.int .i64 (1 + (k : Int)))) b0 (some ⟨g, 0, none⟩) n c (markTo zs (k + 1))) := by
        rw [← mark_next (by have := HL.out; omega)]; exact HO.out.store
      have HM : Hid (w.grownBy (wr.setCell ⟨g, k, none⟩ (.int .i64 (1 + (k : Int)))) (some g)) :=
        ⟨HG.out.os, HG.out.tape, HG.out.output, by simpa [World.setCell] using HG.out.size, fun i hi hne => (Below.heap_setCell wr ⟨g, k, none⟩ _ i (fun e => hne (by simp [e]))).trans (HG.out.block i hi hne)⟩
      clear HO HG
      go_wp2
      go_roundw
      case rel => exact ⟨k + 1, by omega, by go_num, by go_num, HN, HM⟩
      case measure => simp [intOf]; omega
    · go_wp2
      go_ret
      have e := mark_all HL.out (show n ≤ k by omega) hk
      refine ⟨?_, by rw [← e]; exact HO.out, HG.out⟩
      have : k = n := by omega
      rw [this]
      rfl

set_option maxHeartbeats 1000000 in
theorem heldI_any (A : Option Addr) (n c B : Nat) (w : World) (h : RdK .i64 w B A n (marks n)) (hn : n ≤ 1048640) :
    Calls Try.prog 37 #[.slice A n c, .int .i64 1] w fun e w' => e = .returned (.int .i64 (1 + n)) ∧ w = w' := by
  have H2 := Lib.hid h.2
  clear h
  go_enter Try.func37, Try.ntmps37
  go_wp2
  go_loop [1, 5] (fun q i => ∃ k : Nat, k ≤ n ∧ i = .int .i64 k ∧ q = .int .i64 (1 + k)) (fun _ i => n - (intOf i).toNat)
  case atStart => exact ⟨0, Nat.zero_le _, rfl, rfl⟩
  case round =>
    obtain ⟨k, hk, rfl, rfl⟩ := hrel
    by_cases hlt : k < n
    · obtain ⟨g, o, rfl, _, hc⟩ := H2.out (by omega)
      have c1 := hc k hlt
      rw [marks_at hlt] at c1
      clear hc
      go_wp2
      go_round
      case rel => exact ⟨k + 1, by omega, by go_num, by go_num⟩
      case measure => simp [intOf]; omega
    · go_wp2
      go_ret
      have : k = n := by omega
      rw [this]
      exact ⟨rfl, rfl⟩

theorem markI_zero (w : World) : Calls Try.prog 36 #[.slice none 0 0, .int .i64 1] w fun e w' => e = .returned (.int .i64 1) ∧ w = w' := by
  go_enter Try.func36, Try.ntmps36
  go_wp2
  refine wp_loop_rounds 1 ?_
  rw [rounds_succ]
  go_wp2
  go_ret
  exact ⟨rfl, rfl⟩


theorem markS_any {ty : TypeId} (A : Option Addr) (n c b0 : Nat) (zs : List Int) (w : World) (h : OwnK ty .i64 w b0 A n c zs) (hn : n ≤ 1048640) :
    Calls Try.prog 36 #[.slice A n c, .int .i64 1] w fun e w' => e = .returned (.int .i64 (1 + n)) ∧ OwnK ty .i64 w' b0 A n c (marks n) ∧ w.grownBy w' (Value.slice A n c).ownBlock := by
  rcases h.2 with ⟨hv, h0⟩ | ⟨g, cap, cur, hv, _⟩
  · injection hv with h1 h2 h3
    subst h1 h2 h3
    exact (markI_zero w).mono fun e w' ⟨h5, h6⟩ => ⟨h5, World.ownsRow_nil _ _ _ _, h6 ▸ World.grownBy.refl _ _⟩
  · injection hv with h1 h2 h3
    subst h1 h3
    exact markI_any g n c b0 zs w h hn

set_option maxHeartbeats 1000000 in
theorem markQ_one {ty : TypeId} (g n c b0 : Nat) (q : Int) (zs : List Int) (w : World) (h : OwnK ty .i64 w b0 (some ⟨g, 0, none⟩) n c zs) (hn : n ≤ 1048640) (h0 : 0 ≤ q) (h1 : q ≤ 100000000) :
    Calls Try.prog 36 #[.slice (some ⟨g, 0, none⟩) n c, .int .i64 q] w fun e w' => e = .returned (.int .i64 (q + n)) ∧ (∃ ys, OwnK ty .i64 w' b0 (some ⟨g, 0, none⟩) n c ys) ∧ w.grownBy w' (some g) := by
  have H := Lib.hid h
  clear h
  go_enter Try.func36, Try.ntmps36
  go_wp2
  go_loopw [1, 5] (fun p i wr => ∃ k : Nat, k ≤ n ∧ i = .int .i64 k ∧ p = .int .i64 (q + k) ∧ Hid (∃ ys, OwnK ty .i64 wr b0 (some ⟨g, 0, none⟩) n c ys) ∧ Hid (w.grownBy wr (some g))) (fun _ i _ => n - (intOf i).toNat)
  case atStart => exact ⟨0, Nat.zero_le _, rfl, by simp, ⟨zs, H.out⟩, World.grownBy.refl _ _⟩
  case round =>
    obtain ⟨k, hk, rfl, rfl, HO, HG⟩ := hrel
    obtain ⟨ys, ho⟩ := HO.out
    by_cases hlt : k < n
    · have c2 := ho.cell rfl hlt
      have f2 := ho.free rfl k
      have HN : Hid (∃ ys, OwnK ty .i64 (wr.setCell ⟨g, k, none⟩ (.int .i64 (q + (k : Int)))) b0 (some ⟨g, 0, none⟩) n c ys) := ⟨_, ho.store⟩
      have HM : Hid (w.grownBy (wr.setCell ⟨g, k, none⟩ (.int .i64 (q + (k : Int)))) (some g)) :=
        ⟨HG.out.os, HG.out.tape, HG.out.output, by simpa [World.setCell] using HG.out.size, fun i hi hne => (Below.heap_setCell wr ⟨g, k, none⟩ _ i (fun e => hne (by simp [e]))).trans (HG.out.block i hi hne)⟩
      generalize ys[k]?.getD 0 = z at *
      clear HO HG ho
      go_wp2
      go_roundw
      case rel => exact ⟨k + 1, by omega, by go_num, by go_num, HN, HM⟩
      case measure => simp [intOf]; omega
    · clear ho
      go_wp2
      go_ret
      refine ⟨?_, HO.out, HG.out⟩
      have : k = n := by omega
      rw [this]
      rfl

end Go.Proofs.Ythcchnaoenjhlaa
