/- The contract of slices.Repeat at one int, eight times; and of the program's WarpNew. -/
import Derived.Test.YtooegpebimpjcaaNewB
import Derived.Laws.CopyRow
import Derived.Laws.CopyOwn
import Derived.LoopN
namespace Go.Proofs.Ytooegpebimpjcaa
open Go.RowKit
set_option linter.unusedVariables false

theorem size_int1 : (Try.prog.info? 3).map (·.size) = some 1 := by kernel_rfl

/-- The row while it is filled: m times x, then zeros. -/
def repC (x : Int) (m : Nat) : Array Value := (List.replicate m (Value.int .i64 x) ++ List.replicate (8 - m) (Value.int .i64 0)).toArray

theorem rep_copy (w0 w : World) (B g m k q : Nat) (z x : Int) (hk : k = 8 - m) (hq : q = 2 * m) (hz : z = (m : Int)) (hm : 2 * m ≤ 8) (h0 : 0 < m) (hh : w.heap[g]? = some (.cells (repC x m) 3 (0, 0))) (hb : Below B w0 w) (hg : B ≤ g) :
    ∃ w', (Builtin.copy_ #[27, 27] 3 #[.slice (some ⟨g, m, none⟩) k k, .slice (some ⟨g, 0, none⟩) m 8]).run Try.prog w = .ok (.int .i64 z) w' ∧ w'.heap[g]? = some (.cells (repC x q) 3 (0, 0)) ∧ Below B w0 w' := by
  subst hk hq hz
  have hl : (List.replicate m (Value.int .i64 x)).length = m := List.length_replicate
  have e1 : (List.replicate m (Value.int .i64 x)).length = Nat.min m (8 - m) := by rw [hl]; exact (Nat.min_eq_left (by omega)).symm
  have e2 : ∀ j v, (List.replicate m (Value.int .i64 x))[j]? = some v → w.cell? ((⟨g, 0, none⟩ : Addr).add j) = some v := by
    intro j v hj
    have hjm : j < m := by
      have := (List.getElem?_eq_some_iff.1 hj).1
      rwa [hl] at this
    have e : v = .int .i64 x := by simp [hjm] at hj; exact hj.symm
    subst e
    have h3 : ((⟨g, 0, none⟩ : Addr).add j) = ⟨g, j, none⟩ := by unfold Addr.add; split <;> simp_all
    rw [h3]
    refine blkc hh j ?_
    simp [repC, hjm, List.getElem?_append]
  have e3 : m + (List.replicate m (Value.int .i64 x)).length ≤ (repC x m).size := by simp [repC]; omega
  have e4 : ∀ v ∈ List.replicate m (Value.int .i64 x), v.oneCell' = true := by
    intro v hv
    rw [(List.mem_replicate.1 hv).2]; rfl
  have h1 := run_copy_row (P := Try.prog) w 27 27 3 3 g m (8 - m) (8 - m) ⟨g, 0, none⟩ m 8 _ 3 (List.replicate m (Value.int .i64 x)) Try.underlying27 size_int1 hh e1 e2 e3 e4
  have e5 : (repC x m).toList.take m ++ List.replicate m (Value.int .i64 x) ++ (repC x m).toList.drop (m + (List.replicate m (Value.int .i64 x)).length) = (repC x (2 * m)).toList := by
    unfold repC
    rw [hl]
    have d1 : (List.replicate m (Value.int .i64 x) ++ List.replicate (8 - m) (Value.int .i64 0)).take m = List.replicate m (Value.int .i64 x) := by
      rw [List.take_append_of_le_length (by simp), List.take_of_length_le (by simp)]
    have d2 : (List.replicate m (Value.int .i64 x) ++ List.replicate (8 - m) (Value.int .i64 0)).drop (m + m) = List.replicate (8 - 2 * m) (Value.int .i64 0) := by
      rw [List.drop_append, List.drop_eq_nil_of_le (by simp), List.drop_replicate]
      simp
      omega
    simp only [d1, d2]
    rw [List.replicate_append_replicate, show m + m = 2 * m by omega]
  rw [e5, hl] at h1
  exact ⟨_, h1, setRow_heap w g _ _ 3 (0, 0) hh, below_setRow hb hg _⟩

theorem rep_first (w0 w : World) (B g b : Nat) (x : Int) (hh : w.heap[g]? = some (.cells (repC x 0) 3 (0, 0))) (hx : w.cell? ⟨b, 0, none⟩ = some (.int .i64 x)) (hb : Below B w0 w) (hg : B ≤ g) :
    ∃ w', (Builtin.copy_ #[27, 27] 3 #[.slice (some ⟨g, 0, none⟩) 8 8, .slice (some ⟨b, 0, none⟩) 1 1]).run Try.prog w = .ok (.int .i64 1) w' ∧ w'.heap[g]? = some (.cells (repC x 1) 3 (0, 0)) ∧ Below B w0 w' := by
  have e2 : ∀ j v, [Value.int .i64 x][j]? = some v → w.cell? ((⟨b, 0, none⟩ : Addr).add j) = some v := by
    intro j v hj
    match j, hj with
    | 0, hj => simp at hj; subst hj; simpa [Addr.add] using hx
  have h1 := run_copy_row (P := Try.prog) w 27 27 3 3 g 0 8 8 ⟨b, 0, none⟩ 1 1 _ 3 [Value.int .i64 x] Try.underlying27 size_int1 hh rfl e2 (by simp [repC]) (by intro v hv; simp at hv; rw [hv]; rfl)
  exact ⟨_, h1, setRow_heap w g _ _ 3 (0, 0) hh, below_setRow hb hg _⟩

theorem mul_1_8 (w : World) : Calls Try.prog 117 #[.int .u64 1, .int .u64 8] w fun e w' => e = .returned (.tuple #[.int .u64 0, .int .u64 8]) ∧ w = w' := by
  go_enter Try.func117, Try.ntmps117
  go_wp2
  go_ret2
  exact ⟨rfl, rfl⟩

set_option maxRecDepth 100000 in
set_option maxHeartbeats 2000000 in
theorem repeat8 (g : Nat) (x : Int) (w : World) (h : w.cell? ⟨g, 0, none⟩ = some (.int .i64 x)) (hg : g < w.heap.size) :
    Calls Try.prog 93 #[.slice (some ⟨g, 0, none⟩) 1 1, .int .i64 8] w fun e w' => ∃ A c, e = .returned (.slice A 8 c) ∧ OwnK 3 .i64 w' w.heap.size A 8 c (List.replicate 8 x) ∧ Below w.heap.size w w' := by
  obtain ⟨i0, hi, hz0, hz1, hz2⟩ := info_parts info_int
  have HM := Lib.hid (mul_1_8 w)
  have HI := Lib.hid hi
  have HZ0 := Lib.hid hz0
  have HZ1 := Lib.hid hz1
  have HZ2 := Lib.hid hz2
  clear hi hz0 hz1 hz2
  go_enter Try.func93, Try.ntmps93
  go_wp2_with fail
  refine HM.out.mono ?_
  rintro e w1 ⟨rfl, rfl⟩
  go_wp2_with (at_make; refine wpList_make_full _ rfl _ _ 27 rfl w.heap.size 3 i0 (.int .i64 0) 1 Try.underlying27 HI.out HZ0.out HZ1.out .i64 .i64 _ _ 8 rfl rfl rfl rfl (by rw [HZ2.out]; omega) (by unfold maxLen; omega) (Nat.le_refl _) ?_)
  intro w1 hown hgr
  have hh1 : w1.heap[w.heap.size]? = some (.cells (repC x 0) 3 (0, 0)) := by
    rcases hown.2 with ⟨hv, _⟩ | ⟨g', cap, cur, hv, _, hh, _, _, hs, ht⟩
    · simp at hv
    · injection hv with v1 v2 v3
      injection v1 with v1
      injection v1 with v1
      subst v1 v3
      rw [hh]
      have e : cur = repC x 0 := by
        rw [List.take_of_length_le (by rw [Array.length_toList, hs]; exact Nat.le_refl _)] at ht
        have h8 := toList_madeCells_one (.int .i64 0) 8
        have hr : (repC x 0).toList = List.replicate 8 (Value.int .i64 0) := rfl
        apply Array.toList_inj.1
        rw [hr]
        exact ht.trans h8
      rw [e]
  have B1 : Below w.heap.size w w1 := (Below.refl _ _).grown hgr (Nat.le_refl _) (by simp)
  have hx1 : w1.cell? ⟨g, 0, none⟩ = some (.int .i64 x) := (B1.cell (p := ⟨g, 0, none⟩) hg).trans h
  obtain ⟨w2, r2, hh2, B2⟩ := rep_first w w1 w.heap.size w.heap.size g x hh1 hx1 B1 (Nat.le_refl _)
  obtain ⟨w3, r3, hh3, B3⟩ := rep_copy w w2.drew w.heap.size w.heap.size 1 7 2 1 x rfl rfl rfl (by omega) (by omega) hh2 B2.drew (Nat.le_refl _)
  obtain ⟨w4, r4, hh4, B4⟩ := rep_copy w w3.drew w.heap.size w.heap.size 2 6 4 2 x rfl rfl rfl (by omega) (by omega) hh3 B3.drew (Nat.le_refl _)
  obtain ⟨w5, r5, hh5, B5⟩ := rep_copy w w4.drew w.heap.size w.heap.size 4 4 8 4 x rfl rfl rfl (by omega) (by omega) hh4 B4.drew (Nat.le_refl _)
  have HH := Lib.hid hh5
  have HB := Lib.hid B5
  clear hown hgr hh1 hx1 hh2 hh3 hh4 hh5 B1 B2 B3 B4 B5 HM HI HZ0 HZ1 HZ2 h
  go_wp2
  refine wp_loop_rounds 4 ?_
  rw [rounds_succ]
  go_wp2
  go_region
  all_goals go_wp2
  rw [rounds_succ]
  go_wp2
  go_region
  all_goals go_wp2
  rw [rounds_succ]
  go_wp2
  go_region
  all_goals go_wp2
  rw [rounds_succ]
  go_wp2
  go_ret
  refine ⟨_, 8, rfl, ⟨rfl, .inr ⟨w.heap.size, 8, repC x 8, rfl, Nat.le_refl _, HH.out, Nat.le_refl _, by unfold maxLen; omega, rfl, rfl⟩⟩, HB.out⟩

end Go.Proofs.Ytooegpebimpjcaa
