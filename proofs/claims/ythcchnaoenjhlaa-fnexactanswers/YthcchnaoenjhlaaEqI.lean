/- The contract of the laws' eqIntS: it tells whether two slices of ints hold the same numbers. -/
import Derived.Test.YthcchnaoenjhlaaOwnK
namespace Go.Proofs.Ythcchnaoenjhlaa
open Go.RowKit

theorem take_next {z1 z2 : List Int} {k : Nat} (h : z1.take k = z2.take k) (h1 : k < z1.length) (h2 : k < z2.length) (e : z1[k]?.getD 0 = z2[k]?.getD 0) : z1.take (k + 1) = z2.take (k + 1) := by
  simp only [List.getElem?_eq_getElem h1, List.getElem?_eq_getElem h2, Option.getD_some] at e
  rw [List.take_succ_eq_append_getElem h1, List.take_succ_eq_append_getElem h2, h, e]
theorem ne_at {z1 z2 : List Int} {k : Nat} (e : ¬ z1[k]?.getD 0 = z2[k]?.getD 0) : ¬ z1 = z2 := by
  rintro rfl; exact e rfl
theorem eq_all {z1 z2 : List Int} {k : Nat} (h : z1.take k = z2.take k) (h1 : z1.length ≤ k) (h2 : z2.length ≤ k) : z1 = z2 := by
  rwa [List.take_of_length_le h1, List.take_of_length_le h2] at h

set_option maxHeartbeats 400000 in
theorem eqI_any (A1 A2 : Option Addr) (n1 n2 c1 c2 B1 B2 : Nat) (z1 z2 : List Int) (w : World) (h1 : RdK .i64 w B1 A1 n1 z1) (h2 : RdK .i64 w B2 A2 n2 z2) (m1 : n1 ≤ maxLen) (m2 : n2 ≤ maxLen) :
    Calls Try.prog 35 #[.slice A1 n1 c1, .slice A2 n2 c2] w fun e w' => e = .returned (.bool (decide (z1 = z2))) ∧ ∃ k, w' = w.drewN k := by
  unfold maxLen at m1 m2
  by_cases hn : n1 = n2
  · subst hn
    have HL := Lib.hid h1.1
    have HM := Lib.hid h2.1
    have H1 := Lib.hid h1.2
    have H2 := Lib.hid h2.2
    clear h1 h2
    go_enter Try.func35, Try.ntmps35
    go_wp2
    go_loopw [5] (fun i wr => ∃ k : Nat, k ≤ n1 ∧ i = .int .i64 k ∧ (∃ q, wr = w.drewN q) ∧ Hid (z1.take k = z2.take k)) (fun i _ => n1 - (intOf i).toNat)
    case atStart => exact ⟨0, Nat.zero_le _, rfl, ⟨0, rfl⟩, rfl⟩
    case round =>
      obtain ⟨k, hk, rfl, ⟨q, rfl⟩, HT⟩ := hrel
      by_cases hlt : k < n1
      · obtain ⟨g1, o1, rfl, _, hc1⟩ := H1.out (by omega)
        obtain ⟨g2, o2, rfl, _, hc2⟩ := H2.out (by omega)
        have c1 := hc1 k hlt
        have c2 := hc2 k hlt
        clear hc1 hc2
        by_cases he : z1[k]?.getD 0 = z2[k]?.getD 0
        · have HN := Lib.hid (take_next HT.out (by have := HL.out; omega) (by have := HM.out; omega) he)
          have hb : (z1[k]?.getD 0 != z2[k]?.getD 0) = false := by simp [he]
          have HE := Lib.hid he
          clear he
          go_wp2
          go_quiet (fail)
          go_wp2
          go_roundw
          case rel => exact ⟨k + 1, by omega, by go_num, ⟨_, rfl⟩, HN.out⟩
          case measure => simp [intOf]; omega
        · have HN := Lib.hid (ne_at he)
          have hb : (z1[k]?.getD 0 != z2[k]?.getD 0) = true := by simp [he]
          clear he
          go_wp2
          go_quiet (fail)
          go_wp2
          go_ret
          exact ⟨by simp [HN.out], _, World.drewN_drewN _ _ _⟩
      · have HN := Lib.hid (eq_all HT.out (by have := HL.out; omega) (by have := HM.out; omega))
        go_wp2
        go_ret
        exact ⟨by simp [HN.out], _, rfl⟩
  · have HN : Hid (¬ z1 = z2) := fun e => hn (by rw [← h1.1, ← h2.1, e])
    have hb : ((n1 : Int) != (n2 : Int)) = true := by simp; omega
    clear hn h1 h2
    go_enter Try.func35, Try.ntmps35
    go_wp2
    go_ret
    exact ⟨by simp [HN.out], 0, rfl⟩

end Go.Proofs.Ythcchnaoenjhlaa
