/- The contracts of the laws' eqUint32S, markUint32S and heldUint32S on slices of words. -/
import Derived.Test.YtgaphgffchifcaaEqI
import Derived.Test.YtgaphgffchifcaaMarkI
namespace Go.Proofs.Ytgaphgffchifcaa
open Go.RowKit

set_option maxHeartbeats 400000 in
theorem eqU_any (A1 A2 : Option Addr) (n1 n2 c1 c2 B1 B2 : Nat) (z1 z2 : List Int) (w : World) (h1 : RdK .u32 w B1 A1 n1 z1) (h2 : RdK .u32 w B2 A2 n2 z2) (m1 : n1 ≤ maxLen) (m2 : n2 ≤ maxLen) :
    Calls Try.prog 43 #[.slice A1 n1 c1, .slice A2 n2 c2] w fun e w' => e = .returned (.bool (decide (z1 = z2))) ∧ ∃ k, w' = w.drewN k := by
  unfold maxLen at m1 m2
  by_cases hn : n1 = n2
  · subst hn
    have HL := Lib.hid h1.1
    have HM := Lib.hid h2.1
    have H1 := Lib.hid h1.2
    have H2 := Lib.hid h2.2
    clear h1 h2
    go_enter Try.func43, Try.ntmps43
    go_wp2
    go_loopw [5] (fun i wr => ∃ k : Nat, k ≤ n1 ∧ i = .int .i64 k ∧ (∃ q, wr = w.drewN q) ∧ Hid (z1.take k = z2.take k)) (fun i _ => n1 - (intOf i).toNat)
    case atStart => exact ⟨0, Nat.zero_le _, rfl, ⟨0, rfl⟩, rfl⟩
    case round =>
      obtain ⟨k, hk, rfl, ⟨q, rfl⟩, HT⟩ := hrel
      by_cases hlt : k < n1
      · obtain ⟨g1, o1, rfl, _, hc1⟩ := H1.out (by omega)
        obtain ⟨g2, o2, rfl, _, hc2⟩ := H2.out (by omega)
        have c1 := hc1 k hlt
        have c2 := hc2 k hlt
        clear hc1 hc2
        by_cases he : z1[k]?.getD 0 = z2[k]?.getD 0
        · have HN := Lib.hid (take_next HT.out (by have := HL.out; omega) (by have := HM.out; omega) he)
          have hb : (z1[k]?.getD 0 != z2[k]?.getD 0) = false := by simp [he]
          have HE := Lib.hid he
          clear he
          go_wp2
          go_quiet (fail)
          go_wp2
          go_roundw
          case rel => exact ⟨k + 1, by omega, by go_num, ⟨_, rfl⟩, HN.out⟩
          case measure => simp [intOf]; omega
        · have HN := Lib.hid (ne_at he)
          have hb : (z1[k]?.getD 0 != z2[k]?.getD 0) = true := by simp [he]
          clear he
          go_wp2
          go_quiet (fail)
          go_wp2
          go_ret
          exact ⟨by simp [HN.out], _, World.drewN_drewN _ _ _⟩
      · have HN := Lib.hid (eq_all HT.out (by have := HL.out; omega) (by have := HM.out; omega))
        go_wp2
        go_ret
        exact ⟨by simp [HN.out], _, rfl⟩
  · have HN : Hid (¬ z1 = z2) := fun e => hn (by rw [← h1.1, ← h2.1, e])
    have hb : ((n1 : Int) != (n2 : Int)) = true := by simp; omega
    clear hn h1 h2
    go_enter Try.func43, Try.ntmps43
    go_wp2
    go_ret
    exact ⟨by simp [HN.out], 0, rfl⟩

set_option maxHeartbeats 1000000 in
theorem markU_one {ty : TypeId} (g n c b0 : Nat) (zs : List Int) (w : World) (h : OwnK ty .u32 w b0 (some ⟨g, 0, none⟩) n c zs) (hn : n ≤ 1048640) :
    Calls Try.prog 45 #[.slice (some ⟨g, 0, none⟩) n c, .int .i64 1] w fun e w' => e = .returned (.int .i64 (1 + n)) ∧ OwnK ty .u32 w' b0 (some ⟨g, 0, none⟩) n c (marks n) ∧ w.grownBy w' (some g) := by
  have H := Lib.hid h
  have HL := Lib.hid h.len
  clear h
  go_enter Try.func45, Try.ntmps45
  go_wp2
  go_loopw [1, 5] (fun q i wr => ∃ k : Nat, k ≤ n ∧ i = .int .i64 k ∧ q = .int .i64 (1 + k) ∧ Hid (OwnK ty .u32 wr b0 (some ⟨g, 0, none⟩) n c (markTo zs k)) ∧ Hid (w.grownBy wr (some g))) (fun _ i _ => n - (intOf i).toNat)
  case atStart => exact ⟨0, Nat.zero_le _, rfl, rfl, by simpa [markTo] using H, World.grownBy.refl _ _⟩
  case round =>
    obtain ⟨k, hk, rfl, rfl, HO, HG⟩ := hrel
    by_cases hlt : k < n
    · have hwr : IntKind.u32.wrap (1 + (k : Int)) = 1 + (k : Int) := IntWalk.u32_in _ (by omega)
      have c2 := HO.out.cell rfl hlt
      have f2 := HO.out.free rfl k
      have HN : Hid (OwnK ty .u32 (wr.setCell ⟨g, k, none⟩ (.int .u32 (1 + (k : Int)))) b0 (some ⟨g, 0, none⟩) n c (markTo zs (k + 1))) := by
        rw [← mark_next (by have := HL.out; omega)]; exact HO.out.store
      have HM : Hid (w.grownBy (wr.setCell ⟨g, k, none⟩ (.int .u32 (1 + (k : Int)))) (some g)) :=
        ⟨HG.out.os, HG.out.tape, HG.out.output, by simpa [World.setCell] using HG.out.size, fun i hi hne => (Below.heap_setCell wr ⟨g, k, none⟩ _ i (fun e => hne (by simp [e]))).trans (HG.out.block i hi hne)⟩
      clear HO HG
      go_wp2
      go_roundw
      case rel => exact ⟨k + 1, by omega, by go_num, by go_num, HN, HM⟩
      case measure => simp [intOf]; omega
    · go_wp2
      go_ret
      have e := mark_all HL.out (show n ≤ k by omega) hk
      refine ⟨?_, by rw [← e]; exact HO.out, HG.out⟩
      have : k = n := by omega
      rw [this]
      rfl

set_option maxHeartbeats 1000000 in
theorem heldU_any (A : Option Addr) (n c B : Nat) (w : World) (h : RdK .u32 w B A n (marks n)) (hn : n ≤ 1048640) :
    Calls Try.prog 46 #[.slice A n c, .int .i64 1] w fun e w' => e = .returned (.int .i64 (1 + n)) ∧ w = w' := by
  have H2 := Lib.hid h.2
  clear h
  go_enter Try.func46, Try.ntmps46
  go_wp2
  go_loop [1, 5] (fun q i => ∃ k : Nat, k ≤ n ∧ i = .int .i64 k ∧ q = .int .i64 (1 + k)) (fun _ i => n - (intOf i).toNat)
  case atStart => exact ⟨0, Nat.zero_le _, rfl, rfl⟩
  case round =>
    obtain ⟨k, hk, rfl, rfl⟩ := hrel
    by_cases hlt : k < n
    · obtain ⟨g, o, rfl, _, hc⟩ := H2.out (by omega)
      have c1 := hc k hlt
      rw [marks_at hlt] at c1
      have hwr : IntKind.u32.wrap (1 + (k : Int)) = 1 + (k : Int) := IntWalk.u32_in _ (by omega)
      clear hc
      go_wp2
      go_round
      case rel => exact ⟨k + 1, by omega, by go_num, by go_num⟩
      case measure => simp [intOf]; omega
    · go_wp2
      go_ret
      have : k = n := by omega
      rw [this]
      exact ⟨rfl, rfl⟩

theorem markU_zero (w : World) : Calls Try.prog 45 #[.slice none 0 0, .int .i64 1] w fun e w' => e = .returned (.int .i64 1) ∧ w = w' := by
  go_enter Try.func45, Try.ntmps45
  go_wp2
  refine wp_loop_rounds 1 ?_
  rw [rounds_succ]
  go_wp2
  go_ret
  exact ⟨rfl, rfl⟩


theorem markU_any {ty : TypeId} (A : Option Addr) (n c b0 : Nat) (zs : List Int) (w : World) (h : OwnK ty .u32 w b0 A n c zs) (hn : n ≤ 1048640) :
    Calls Try.prog 45 #[.slice A n c, .int .i64 1] w fun e w' => e = .returned (.int .i64 (1 + n)) ∧ OwnK ty .u32 w' b0 A n c (marks n) ∧ w.grownBy w' (Value.slice A n c).ownBlock := by
  rcases h.2 with ⟨hv, h0⟩ | ⟨g, cap, cur, hv, _⟩
  · injection hv with h1 h2 h3
    subst h1 h2 h3
    exact (markU_zero w).mono fun e w' ⟨h5, h6⟩ => ⟨h5, World.ownsRow_nil _ _ _ _, h6 ▸ World.grownBy.refl _ _⟩
  · injection hv with h1 h2 h3
    subst h1 h3
    exact markU_one g n c b0 zs w h hn

end Go.Proofs.Ytgaphgffchifcaa
