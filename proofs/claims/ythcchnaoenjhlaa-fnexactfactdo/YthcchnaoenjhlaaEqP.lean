/- The contracts of the laws' eqBlockS and sameLive: they tell whether two lists of blocks are the same. -/
import Derived.Test.YthcchnaoenjhlaaLawP
namespace Go.Proofs.Ythcchnaoenjhlaa
open Go.RowKit Go.Sort

theorem take_next_p {z1 z2 : List (Int × Int)} {k : Nat} (h : z1.take k = z2.take k) (h1 : k < z1.length) (h2 : k < z2.length) (e : (pa z1 k, pb z1 k) = (pa z2 k, pb z2 k)) : z1.take (k + 1) = z2.take (k + 1) := by
  rw [take_succ_p h1, take_succ_p h2, h, e]
theorem ne_at_p {z1 z2 : List (Int × Int)} {k : Nat} (e : ¬ (pa z1 k, pb z1 k) = (pa z2 k, pb z2 k)) : ¬ z1 = z2 := by
  rintro rfl; exact e rfl
theorem eq_all_p {z1 z2 : List (Int × Int)} {k : Nat} (h : z1.take k = z2.take k) (h1 : z1.length ≤ k) (h2 : z2.length ≤ k) : z1 = z2 := by
  rwa [List.take_of_length_le h1, List.take_of_length_le h2] at h

set_option maxHeartbeats 1000000 in
theorem eqP_any (A1 A2 : Option Addr) (n1 n2 c1 c2 B1 B2 : Nat) (z1 z2 : List (Int × Int)) (w : World) (h1 : RdP w B1 A1 n1 z1) (h2 : RdP w B2 A2 n2 z2) (hB1 : B1 ≤ w.heap.size) (hB2 : B2 ≤ w.heap.size) (m1 : n1 ≤ maxLen) (m2 : n2 ≤ maxLen) :
    Calls Try.prog 16 #[.slice A1 n1 c1, .slice A2 n2 c2] w fun e w' => e = .returned (.bool (decide (z1 = z2))) ∧ Below w.heap.size w w' := by
  unfold maxLen at m1 m2
  by_cases hn : n1 = n2
  · subst hn
    have HL := Lib.hid h1.1
    have HM := Lib.hid h2.1
    have H1 := Lib.hid h1.2
    have H2 := Lib.hid h2.2
    clear h1 h2
    go_enter Try.func16, Try.ntmps16
    go_wp2
    go_loopw [5] (fun i wr => ∃ k : Nat, k ≤ n1 ∧ i = .int .i64 k ∧ Hid (Below w.heap.size w wr) ∧ Hid (z1.take k = z2.take k)) (fun i _ => n1 - (intOf i).toNat)
    case atStart => exact ⟨0, Nat.zero_le _, rfl, Below.refl _ _, rfl⟩
    case round =>
      obtain ⟨k, hk, rfl, HB, HT⟩ := hrel
      by_cases hlt : k < n1
      · obtain ⟨g1, o1, rfl, hg1, hc1⟩ := H1.out (by omega)
        obtain ⟨g2, o2, rfl, hg2, hc2⟩ := H2.out (by omega)
        have c1 : wr.cell? ⟨g1, o1 + k * 2, none⟩ = some (.int .i64 (pa z1 k)) := (HB.out.cell (p := ⟨g1, o1 + k * 2, none⟩) (by show g1 < _; omega)).trans (hc1 k hlt).1
        have c2 : wr.cell? ⟨g1, o1 + k * 2 + 1, none⟩ = some (.int .i64 (pb z1 k)) := (HB.out.cell (p := ⟨g1, o1 + k * 2 + 1, none⟩) (by show g1 < _; omega)).trans (hc1 k hlt).2
        have c3 : wr.cell? ⟨g2, o2 + k * 2, none⟩ = some (.int .i64 (pa z2 k)) := (HB.out.cell (p := ⟨g2, o2 + k * 2, none⟩) (by show g2 < _; omega)).trans (hc2 k hlt).1
        have c4 : wr.cell? ⟨g2, o2 + k * 2 + 1, none⟩ = some (.int .i64 (pb z2 k)) := (HB.out.cell (p := ⟨g2, o2 + k * 2 + 1, none⟩) (by show g2 < _; omega)).trans (hc2 k hlt).2
        clear hc1 hc2
        have hsz := HB.out.size
        have hs1 : g1 < wr.heap.size := by omega
        have hs2 : g2 < wr.heap.size := by omega
        have d1 := fun m os => cell_grown hs1 c1 m os
        have d2 := fun m os => cell_grown hs1 c2 m os
        have d3 := fun m os => cell_grown hs2 c3 m os
        have d4 := fun m os => cell_grown hs2 c4 m os
        have HC := Lib.hid (fun W => eqBlk_grow (pa z1 k) (pb z1 k) (pa z2 k) (pb z2 k) W)
        have hmx := mixed
        by_cases he : (pa z1 k, pb z1 k) = (pa z2 k, pb z2 k)
        · have HN := Lib.hid (take_next_p HT.out (by have := HL.out; omega) (by have := HM.out; omega) he)
          have hde : decide ((pa z1 k, pb z1 k) = (pa z2 k, pb z2 k)) = true := decide_eq_true he
          rw [hde] at HC
          clear he hde c1 c2 c3 c4
          go_wp2
          go_quiet_grown (first | (go_at_call 45; refine Calls.grown_of (HC.out _)))
          have HB2 := Lib.hid (HB.out.trans ((below_grow wr nq osq).mono hsz))
          generalize grow (wr.drewN nq) osq = w2 at *
          go_wp2
          go_roundw
          case rel => exact ⟨k + 1, by omega, by go_num, HB2, HN⟩
          case measure => simp [intOf]; omega
        · have HN := Lib.hid (ne_at_p he)
          have hde : decide ((pa z1 k, pb z1 k) = (pa z2 k, pb z2 k)) = false := decide_eq_false he
          rw [hde] at HC
          clear he hde c1 c2 c3 c4
          go_wp2
          go_quiet_grown (first | (go_at_call 45; refine Calls.grown_of (HC.out _)))
          have HB2 := Lib.hid (HB.out.trans ((below_grow wr nq osq).mono hsz))
          generalize grow (wr.drewN nq) osq = w2 at *
          go_wp2
          go_ret
          exact ⟨by simp [HN.out], HB2.out⟩
      · have HN := Lib.hid (eq_all_p HT.out (by have := HL.out; omega) (by have := HM.out; omega))
        go_wp2
        go_ret
        exact ⟨by simp [HN.out], HB.out⟩
  · have HN : Hid (¬ z1 = z2) := fun e => hn (by rw [← h1.1, ← h2.1, e])
    have hb : ((n1 : Int) != (n2 : Int)) = true := by simp; omega
    clear hn h1 h2
    go_enter Try.func16, Try.ntmps16
    go_wp2
    go_ret
    exact ⟨by simp [HN.out], Below.refl _ _⟩

end Go.Proofs.Ythcchnaoenjhlaa
