/- The contract of the laws' sameLive: it tells whether two lists of blocks are the same. -/
import Derived.Test.YtlaegdfaaoaiaaaEqP
import Derived.Laws.StructEq
namespace Go.Proofs.Ytlaegdfaaoaiaaa
open Go.RowKit Go.Sort

set_option maxHeartbeats 1000000 in
/-- '!=' of two blocks. -/
theorem neqBlk (x y u v : Int) (w : World) : (binOp .neq 26 (.agg #[.int .i64 x, .int .i64 y]) (.agg #[.int .i64 u, .int .i64 v])).run Try.prog w = .ok (.bool (!decide ((x, y) = (u, v)))) w := by
  have u3 := Try.underlying3
  have a3 := Try.isAgg3
  have z3 := Try.sizeOf3
  have hS : Try.prog.underlying 26 = some (.struct (Try.prog.fieldsOf 26)) := by kernel_rfl
  have hp : Try.prog.stoodInHeld 26 = false := by kernel_rfl
  rw [run_neq_struct, show (10000 : Nat) = 9999 + 1 from rfl, run_equalIn_agg w 9999 26 _ _ hS hp]
  simp only [Program.fieldsOf, Try.underlying26]
  go_simp
  by_cases h1 : x = u <;> by_cases h2 : y = v <;> simp [h1, h2]
/-- '==' of two blocks. -/
theorem eqlBlk (x y u v : Int) (w : World) : (binOp .eql 26 (.agg #[.int .i64 x, .int .i64 y]) (.agg #[.int .i64 u, .int .i64 v])).run Try.prog w = .ok (.bool (decide ((x, y) = (u, v)))) w := by
  have u3 := Try.underlying3
  have a3 := Try.isAgg3
  have z3 := Try.sizeOf3
  have hS : Try.prog.underlying 26 = some (.struct (Try.prog.fieldsOf 26)) := by kernel_rfl
  have hp : Try.prog.stoodInHeld 26 = false := by kernel_rfl
  rw [run_eql_struct, show (10000 : Nat) = 9999 + 1 from rfl, run_equalIn_agg w 9999 26 _ _ hS hp]
  simp only [Program.fieldsOf, Try.underlying26]
  go_simp
  by_cases h1 : x = u <;> by_cases h2 : y = v <;> simp [h1, h2]

set_option maxHeartbeats 1000000 in
theorem samP_any (A1 A2 : Option Addr) (n1 n2 c1 c2 B1 B2 : Nat) (z1 z2 : List (Int × Int)) (w : World) (h1 : RdP w B1 A1 n1 z1) (h2 : RdP w B2 A2 n2 z2) (m1 : n1 ≤ maxLen) (m2 : n2 ≤ maxLen) :
    Calls Try.prog 14 #[.slice A1 n1 c1, .slice A2 n2 c2] w fun e w' => e = .returned (.bool (decide (z1 = z2))) ∧ ∃ k, w' = w.drewN k := by
  unfold maxLen at m1 m2
  by_cases hn : n1 = n2
  · subst hn
    have HL := Lib.hid h1.1
    have HM := Lib.hid h2.1
    have H1 := Lib.hid h1.2
    have H2 := Lib.hid h2.2
    clear h1 h2
    go_enter Try.func14, Try.ntmps14
    go_wp2
    go_loopw [5] (fun i wr => ∃ k : Nat, k ≤ n1 ∧ i = .int .i64 k ∧ (∃ q, wr = w.drewN q) ∧ Hid (z1.take k = z2.take k)) (fun i _ => n1 - (intOf i).toNat)
    case atStart => exact ⟨0, Nat.zero_le _, rfl, ⟨0, rfl⟩, rfl⟩
    case round =>
      obtain ⟨k, hk, rfl, ⟨q, rfl⟩, HT⟩ := hrel
      by_cases hlt : k < n1
      · obtain ⟨g1, o1, rfl, hg1, hc1⟩ := H1.out (by omega)
        obtain ⟨g2, o2, rfl, hg2, hc2⟩ := H2.out (by omega)
        obtain ⟨d1, d2⟩ := hc1 k hlt
        obtain ⟨d3, d4⟩ := hc2 k hlt
        have hne := fun w => neqBlk (pa z1 k) (pb z1 k) (pa z2 k) (pb z2 k) w
        clear hc1 hc2
        by_cases he : (pa z1 k, pb z1 k) = (pa z2 k, pb z2 k)
        · have HN := Lib.hid (take_next_p HT.out (by have := HL.out; omega) (by have := HM.out; omega) he)
          have hde : decide ((pa z1 k, pb z1 k) = (pa z2 k, pb z2 k)) = true := decide_eq_true he
          rw [hde] at hne
          generalize pa z1 k = x1 at *
          generalize pb z1 k = y1 at *
          generalize pa z2 k = x2 at *
          generalize pb z2 k = y2 at *
          clear he hde
          go_wp2
          go_quiet (fail)
          go_wp2
          go_roundw
          case rel => exact ⟨k + 1, by omega, by go_num, ⟨_, rfl⟩, HN.out⟩
          case measure => simp [intOf]; omega
        · have HN := Lib.hid (ne_at_p he)
          have hde : decide ((pa z1 k, pb z1 k) = (pa z2 k, pb z2 k)) = false := decide_eq_false he
          rw [hde] at hne
          generalize pa z1 k = x1 at *
          generalize pb z1 k = y1 at *
          generalize pa z2 k = x2 at *
          generalize pb z2 k = y2 at *
          clear he hde
          go_wp2
          go_quiet (fail)
          go_wp2
          go_ret
          exact ⟨by simp [HN.out], _, World.drewN_drewN _ _ _⟩
      · have HN := Lib.hid (eq_all_p HT.out (by have := HL.out; omega) (by have := HM.out; omega))
        go_wp2
        go_ret
        exact ⟨by simp [HN.out], _, rfl⟩
  · have HN : Hid (¬ z1 = z2) := fun e => hn (by rw [← h1.1, ← h2.1, e])
    have hb : ((n1 : Int) != (n2 : Int)) = true := by simp; omega
    clear hn h1 h2
    go_enter Try.func14, Try.ntmps14
    go_wp2
    go_ret
    exact ⟨by simp [HN.out], 0, rfl⟩

end Go.Proofs.Ytlaegdfaaoaiaaa
