/- slices.Repeat of a list of one int, n times, n up to 16. -/
import Derived.Test.YtefcaeldkdbjdaaGreatCopyI
namespace Go.Proofs.YtefcaeldkdbjdaaGreat
open Go.RowKit
set_option linter.unusedVariables false

/-- The row while it is filled: m times x, then zeros. -/
def repN (x : Int) (N m : Nat) : Array Value := (List.replicate m (Value.int .i64 x) ++ List.replicate (N - m) (Value.int .i64 0)).toArray

theorem repN_copy (w0 w : World) (B g N m k j q : Nat) (z x : Int) (hk : k = N - m) (hj : j = min m k) (hq : q = m + j) (hz : z = (j : Int)) (hm : m ≤ N) (h0 : 0 < m) (hh : w.heap[g]? = some (.cells (repN x N m) 3 (0, 0))) (hb : Below B w0 w) (hg : B ≤ g) :
    ∃ w', (Builtin.copy_ #[29, 29] 3 #[.slice (some ⟨g, m, none⟩) k k, .slice (some ⟨g, 0, none⟩) m N]).run Tryz.prog w = .ok (.int .i64 z) w' ∧ w'.heap[g]? = some (.cells (repN x N q) 3 (0, 0)) ∧ Below B w0 w' := by
  have hjm : j ≤ m := by omega
  have hjk : j ≤ k := by omega
  have hl : (List.replicate j (Value.int .i64 x)).length = j := List.length_replicate
  have e1 : (List.replicate j (Value.int .i64 x)).length = Nat.min m k := by rw [hl]; exact hj
  have e2 : ∀ i v, (List.replicate j (Value.int .i64 x))[i]? = some v → w.cell? ((⟨g, 0, none⟩ : Addr).add i) = some v := by
    intro i v hi
    have him : i < j := by
      have := (List.getElem?_eq_some_iff.1 hi).1
      rwa [hl] at this
    have e : v = .int .i64 x := by simp [him] at hi; exact hi.symm
    subst e
    have h3 : ((⟨g, 0, none⟩ : Addr).add i) = ⟨g, i, none⟩ := by unfold Addr.add; split <;> simp_all
    rw [h3]
    refine blkc hh i ?_
    simp [repN, List.getElem?_append, show i < m by omega]
  have e3 : m + (List.replicate j (Value.int .i64 x)).length ≤ (repN x N m).size := by simp [repN]; omega
  have e4 : ∀ v ∈ List.replicate j (Value.int .i64 x), v.oneCell' = true := by
    intro v hv
    rw [(List.mem_replicate.1 hv).2]; rfl
  have h1 := run_copy_row (P := Tryz.prog) w 29 29 3 3 g m k k ⟨g, 0, none⟩ m N _ 3 (List.replicate j (Value.int .i64 x)) Tryz.underlying29 size_int1 hh e1 e2 e3 e4
  have e5 : (repN x N m).toList.take m ++ List.replicate j (Value.int .i64 x) ++ (repN x N m).toList.drop (m + (List.replicate j (Value.int .i64 x)).length) = (repN x N q).toList := by
    unfold repN
    rw [hl, hq]
    have d1 : (List.replicate m (Value.int .i64 x) ++ List.replicate (N - m) (Value.int .i64 0)).take m = List.replicate m (Value.int .i64 x) := by
      rw [List.take_append_of_le_length (by simp), List.take_of_length_le (by simp)]
    have d2 : (List.replicate m (Value.int .i64 x) ++ List.replicate (N - m) (Value.int .i64 0)).drop (m + j) = List.replicate (N - (m + j)) (Value.int .i64 0) := by
      rw [List.drop_append, List.drop_eq_nil_of_le (by simp), List.drop_replicate]
      simp
      omega
    simp only [d1, d2]
    rw [List.replicate_append_replicate]
  rw [e5, hl] at h1
  subst hz
  exact ⟨_, h1, setRow_heap w g _ _ 3 (0, 0) hh, below_setRow hb hg _⟩

theorem repN_first (w0 w : World) (B g b N : Nat) (x : Int) (hN : 0 < N) (hh : w.heap[g]? = some (.cells (repN x N 0) 3 (0, 0))) (hx : w.cell? ⟨b, 0, none⟩ = some (.int .i64 x)) (hb : Below B w0 w) (hg : B ≤ g) :
    ∃ w', (Builtin.copy_ #[29, 29] 3 #[.slice (some ⟨g, 0, none⟩) N N, .slice (some ⟨b, 0, none⟩) 1 1]).run Tryz.prog w = .ok (.int .i64 1) w' ∧ w'.heap[g]? = some (.cells (repN x N 1) 3 (0, 0)) ∧ Below B w0 w' := by
  have e2 : ∀ j v, [Value.int .i64 x][j]? = some v → w.cell? ((⟨b, 0, none⟩ : Addr).add j) = some v := by
    intro j v hj
    match j, hj with
    | 0, hj => simp at hj; subst hj; simpa [Addr.add] using hx
  have h1 := run_copy_row (P := Tryz.prog) w 29 29 3 3 g 0 N N ⟨b, 0, none⟩ 1 1 _ 3 [Value.int .i64 x] Tryz.underlying29 size_int1 hh (Nat.min_eq_left hN).symm e2 (by simp [repN]; omega) (by intro v hv; simp at hv; rw [hv]; rfl)
  have e5 : (repN x N 0).toList.take 0 ++ [Value.int .i64 x] ++ (repN x N 0).toList.drop (0 + [Value.int .i64 x].length) = (repN x N 1).toList := by
    simp [repN, List.drop_replicate]
  rw [e5] at h1
  exact ⟨_, h1, setRow_heap w g _ _ 3 (0, 0) hh, below_setRow hb hg _⟩

theorem mul_1_n0 (w : World) : Calls Tryz.prog 41 #[.int .u64 1, .int .u64 0] w fun e w' => e = .returned (.tuple #[.int .u64 0, .int .u64 0]) ∧ w = w' := by
  go_enter Tryz.func41, Tryz.ntmps41
  go_wp2
  go_ret2
  exact ⟨rfl, rfl⟩

set_option maxRecDepth 100000 in
set_option maxHeartbeats 2000000 in
theorem repeat_n0 (g : Nat) (x : Int) (w : World) (h : w.cell? ⟨g, 0, none⟩ = some (.int .i64 x)) (hg : g < w.heap.size) :
    Calls Tryz.prog 21 #[.slice (some ⟨g, 0, none⟩) 1 1, .int .i64 0] w fun e w' => ∃ A c, e = .returned (.slice A 0 c) ∧ OwnK 3 .i64 w' w.heap.size A 0 c (List.replicate 0 x) ∧ Below w.heap.size w w' := by
  obtain ⟨i0, hi, hz0, hz1, hz2⟩ := info_parts info_int
  have HM := Lib.hid (mul_1_n0 w)
  have HI := Lib.hid hi
  have HZ0 := Lib.hid hz0
  have HZ1 := Lib.hid hz1
  have HZ2 := Lib.hid hz2
  clear hi hz0 hz1 hz2
  go_enter Tryz.func21, Tryz.ntmps21
  go_wp2_with fail
  refine HM.out.mono ?_
  rintro e w1 ⟨rfl, rfl⟩
  go_wp2_with (at_make; refine wpList_make_full _ rfl _ _ 29 rfl w.heap.size 3 i0 (.int .i64 0) 1 Tryz.underlying29 HI.out HZ0.out HZ1.out .i64 .i64 _ _ 0 rfl rfl rfl rfl (by rw [HZ2.out]; omega) (by unfold maxLen; omega) (Nat.le_refl _) ?_)
  intro w1 hown hgr
  have r2 := run_copy_none (P := Tryz.prog) w1 29 29 3 3 (some ⟨w.heap.size, 0, none⟩) (some ⟨g, 0, none⟩) 0 0 1 1 Tryz.underlying29 (by rw [size_int1]) (by simp)
  have B1 := Lib.hid ((Below.refl w.heap.size w).grown hgr (Nat.le_refl _) (by simp))
  have HO : Hid (OwnK 3 .i64 w1 w.heap.size (some ⟨w.heap.size, 0, none⟩) 0 0 (List.replicate 0 x)) := by
    have h3 := toList_madeCells_one (.int .i64 0) 0
    have h4 : w1.ownsRow w.heap.size 3 1 (.slice (some ⟨w.heap.size, 0, none⟩) 0 0) 0 (List.replicate 0 (.int .i64 0)) := by rw [← h3]; exact hown
    exact h4
  clear hown hgr HM HI HZ0 HZ1 HZ2 h
  go_wp2
  refine wp_loop_rounds 1 ?_
  rw [rounds_succ]
  go_wp2
  go_ret
  exact ⟨_, 0, rfl, HO.out, B1.out⟩

theorem mul_1_n1 (w : World) : Calls Tryz.prog 41 #[.int .u64 1, .int .u64 1] w fun e w' => e = .returned (.tuple #[.int .u64 0, .int .u64 1]) ∧ w = w' := by
  go_enter Tryz.func41, Tryz.ntmps41
  go_wp2
  go_ret2
  exact ⟨rfl, rfl⟩

set_option maxRecDepth 100000 in
set_option maxHeartbeats 2000000 in
theorem repeat_n1 (g : Nat) (x : Int) (w : World) (h : w.cell? ⟨g, 0, none⟩ = some (.int .i64 x)) (hg : g < w.heap.size) :
    Calls Tryz.prog 21 #[.slice (some ⟨g, 0, none⟩) 1 1, .int .i64 1] w fun e w' => ∃ A c, e = .returned (.slice A 1 c) ∧ OwnK 3 .i64 w' w.heap.size A 1 c (List.replicate 1 x) ∧ Below w.heap.size w w' := by
  obtain ⟨i0, hi, hz0, hz1, hz2⟩ := info_parts info_int
  have HM := Lib.hid (mul_1_n1 w)
  have HI := Lib.hid hi
  have HZ0 := Lib.hid hz0
  have HZ1 := Lib.hid hz1
  have HZ2 := Lib.hid hz2
  clear hi hz0 hz1 hz2
  go_enter Tryz.func21, Tryz.ntmps21
  go_wp2_with fail
  refine HM.out.mono ?_
  rintro e w1 ⟨rfl, rfl⟩
  go_wp2_with (at_make; refine wpList_make_full _ rfl _ _ 29 rfl w.heap.size 3 i0 (.int .i64 0) 1 Tryz.underlying29 HI.out HZ0.out HZ1.out .i64 .i64 _ _ 1 rfl rfl rfl rfl (by rw [HZ2.out]; omega) (by unfold maxLen; omega) (Nat.le_refl _) ?_)
  intro w1 hown hgr
  have hh1 : w1.heap[w.heap.size]? = some (.cells (repN x 1 0) 3 (0, 0)) := by
    rcases hown.2 with ⟨hv, _⟩ | ⟨g', cap, cur, hv, _, hh, _, _, hs, ht⟩
    · simp at hv
    · injection hv with v1 v2 v3
      injection v1 with v1
      injection v1 with v1
      subst v1 v3
      rw [hh]
      have e : cur = repN x 1 0 := by
        rw [List.take_of_length_le (by rw [Array.length_toList, hs]; exact Nat.le_refl _)] at ht
        have h8 := toList_madeCells_one (.int .i64 0) 1
        have hr : (repN x 1 0).toList = List.replicate 1 (Value.int .i64 0) := rfl
        apply Array.toList_inj.1
        rw [hr]
        exact ht.trans h8
      rw [e]
  have B1 : Below w.heap.size w w1 := (Below.refl _ _).grown hgr (Nat.le_refl _) (by simp)
  have hx1 : w1.cell? ⟨g, 0, none⟩ = some (.int .i64 x) := (B1.cell (p := ⟨g, 0, none⟩) hg).trans h
  obtain ⟨w2, r2, hh2, B2⟩ := repN_first w w1 w.heap.size w.heap.size g 1 x (by omega) hh1 hx1 B1 (Nat.le_refl _)
  have HH := Lib.hid hh2
  have HB := Lib.hid B2
  clear hown hgr hh1 hx1 hh2 B1 B2 HM HI HZ0 HZ1 HZ2 h
  go_wp2
  refine wp_loop_rounds 1 ?_
  rw [rounds_succ]
  go_wp2
  go_ret
  refine ⟨_, 1, rfl, ⟨rfl, .inr ⟨w.heap.size, 1, repN x 1 1, rfl, Nat.le_refl _, HH.out, Nat.le_refl _, by unfold maxLen; omega, rfl, rfl⟩⟩, HB.out⟩

theorem mul_1_n2 (w : World) : Calls Tryz.prog 41 #[.int .u64 1, .int .u64 2] w fun e w' => e = .returned (.tuple #[.int .u64 0, .int .u64 2]) ∧ w = w' := by
  go_enter Tryz.func41, Tryz.ntmps41
  go_wp2
  go_ret2
  exact ⟨rfl, rfl⟩

set_option maxRecDepth 100000 in
set_option maxHeartbeats 2000000 in
theorem repeat_n2 (g : Nat) (x : Int) (w : World) (h : w.cell? ⟨g, 0, none⟩ = some (.int .i64 x)) (hg : g < w.heap.size) :
    Calls Tryz.prog 21 #[.slice (some ⟨g, 0, none⟩) 1 1, .int .i64 2] w fun e w' => ∃ A c, e = .returned (.slice A 2 c) ∧ OwnK 3 .i64 w' w.heap.size A 2 c (List.replicate 2 x) ∧ Below w.heap.size w w' := by
  obtain ⟨i0, hi, hz0, hz1, hz2⟩ := info_parts info_int
  have HM := Lib.hid (mul_1_n2 w)
  have HI := Lib.hid hi
  have HZ0 := Lib.hid hz0
  have HZ1 := Lib.hid hz1
  have HZ2 := Lib.hid hz2
  clear hi hz0 hz1 hz2
  go_enter Tryz.func21, Tryz.ntmps21
  go_wp2_with fail
  refine HM.out.mono ?_
  rintro e w1 ⟨rfl, rfl⟩
  go_wp2_with (at_make; refine wpList_make_full _ rfl _ _ 29 rfl w.heap.size 3 i0 (.int .i64 0) 1 Tryz.underlying29 HI.out HZ0.out HZ1.out .i64 .i64 _ _ 2 rfl rfl rfl rfl (by rw [HZ2.out]; omega) (by unfold maxLen; omega) (Nat.le_refl _) ?_)
  intro w1 hown hgr
  have hh1 : w1.heap[w.heap.size]? = some (.cells (repN x 2 0) 3 (0, 0)) := by
    rcases hown.2 with ⟨hv, _⟩ | ⟨g', cap, cur, hv, _, hh, _, _, hs, ht⟩
    · simp at hv
    · injection hv with v1 v2 v3
      injection v1 with v1
      injection v1 with v1
      subst v1 v3
      rw [hh]
      have e : cur = repN x 2 0 := by
        rw [List.take_of_length_le (by rw [Array.length_toList, hs]; exact Nat.le_refl _)] at ht
        have h8 := toList_madeCells_one (.int .i64 0) 2
        have hr : (repN x 2 0).toList = List.replicate 2 (Value.int .i64 0) := rfl
        apply Array.toList_inj.1
        rw [hr]
        exact ht.trans h8
      rw [e]
  have B1 : Below w.heap.size w w1 := (Below.refl _ _).grown hgr (Nat.le_refl _) (by simp)
  have hx1 : w1.cell? ⟨g, 0, none⟩ = some (.int .i64 x) := (B1.cell (p := ⟨g, 0, none⟩) hg).trans h
  obtain ⟨w2, r2, hh2, B2⟩ := repN_first w w1 w.heap.size w.heap.size g 2 x (by omega) hh1 hx1 B1 (Nat.le_refl _)
  obtain ⟨w3, r3, hh3, B3⟩ := repN_copy w w2.drew w.heap.size w.heap.size 2 1 1 1 2 1 x rfl rfl rfl rfl (by omega) (by omega) hh2 B2.drew (Nat.le_refl _)
  have HH := Lib.hid hh3
  have HB := Lib.hid B3
  clear hown hgr hh1 hx1 hh2 hh3 B1 B2 B3 HM HI HZ0 HZ1 HZ2 h
  go_wp2
  refine wp_loop_rounds 2 ?_
  rw [rounds_succ]
  go_wp2
  go_region
  all_goals go_wp2
  rw [rounds_succ]
  go_wp2
  go_ret
  refine ⟨_, 2, rfl, ⟨rfl, .inr ⟨w.heap.size, 2, repN x 2 2, rfl, Nat.le_refl _, HH.out, Nat.le_refl _, by unfold maxLen; omega, rfl, rfl⟩⟩, HB.out⟩

theorem mul_1_n3 (w : World) : Calls Tryz.prog 41 #[.int .u64 1, .int .u64 3] w fun e w' => e = .returned (.tuple #[.int .u64 0, .int .u64 3]) ∧ w = w' := by
  go_enter Tryz.func41, Tryz.ntmps41
  go_wp2
  go_ret2
  exact ⟨rfl, rfl⟩

set_option maxRecDepth 100000 in
set_option maxHeartbeats 2000000 in
theorem repeat_n3 (g : Nat) (x : Int) (w : World) (h : w.cell? ⟨g, 0, none⟩ = some (.int .i64 x)) (hg : g < w.heap.size) :
    Calls Tryz.prog 21 #[.slice (some ⟨g, 0, none⟩) 1 1, .int .i64 3] w fun e w' => ∃ A c, e = .returned (.slice A 3 c) ∧ OwnK 3 .i64 w' w.heap.size A 3 c (List.replicate 3 x) ∧ Below w.heap.size w w' := by
  obtain ⟨i0, hi, hz0, hz1, hz2⟩ := info_parts info_int
  have HM := Lib.hid (mul_1_n3 w)
  have HI := Lib.hid hi
  have HZ0 := Lib.hid hz0
  have HZ1 := Lib.hid hz1
  have HZ2 := Lib.hid hz2
  clear hi hz0 hz1 hz2
  go_enter Tryz.func21, Tryz.ntmps21
  go_wp2_with fail
  refine HM.out.mono ?_
  rintro e w1 ⟨rfl, rfl⟩
  go_wp2_with (at_make; refine wpList_make_full _ rfl _ _ 29 rfl w.heap.size 3 i0 (.int .i64 0) 1 Tryz.underlying29 HI.out HZ0.out HZ1.out .i64 .i64 _ _ 3 rfl rfl rfl rfl (by rw [HZ2.out]; omega) (by unfold maxLen; omega) (Nat.le_refl _) ?_)
  intro w1 hown hgr
  have hh1 : w1.heap[w.heap.size]? = some (.cells (repN x 3 0) 3 (0, 0)) := by
    rcases hown.2 with ⟨hv, _⟩ | ⟨g', cap, cur, hv, _, hh, _, _, hs, ht⟩
    · simp at hv
    · injection hv with v1 v2 v3
      injection v1 with v1
      injection v1 with v1
      subst v1 v3
      rw [hh]
      have e : cur = repN x 3 0 := by
        rw [List.take_of_length_le (by rw [Array.length_toList, hs]; exact Nat.le_refl _)] at ht
        have h8 := toList_madeCells_one (.int .i64 0) 3
        have hr : (repN x 3 0).toList = List.replicate 3 (Value.int .i64 0) := rfl
        apply Array.toList_inj.1
        rw [hr]
        exact ht.trans h8
      rw [e]
  have B1 : Below w.heap.size w w1 := (Below.refl _ _).grown hgr (Nat.le_refl _) (by simp)
  have hx1 : w1.cell? ⟨g, 0, none⟩ = some (.int .i64 x) := (B1.cell (p := ⟨g, 0, none⟩) hg).trans h
  obtain ⟨w2, r2, hh2, B2⟩ := repN_first w w1 w.heap.size w.heap.size g 3 x (by omega) hh1 hx1 B1 (Nat.le_refl _)
  obtain ⟨w3, r3, hh3, B3⟩ := repN_copy w w2.drew w.heap.size w.heap.size 3 1 2 1 2 1 x rfl rfl rfl rfl (by omega) (by omega) hh2 B2.drew (Nat.le_refl _)
  obtain ⟨w4, r4, hh4, B4⟩ := repN_copy w w3.drew w.heap.size w.heap.size 3 2 1 1 3 1 x rfl rfl rfl rfl (by omega) (by omega) hh3 B3.drew (Nat.le_refl _)
  have HH := Lib.hid hh4
  have HB := Lib.hid B4
  clear hown hgr hh1 hx1 hh2 hh3 hh4 B1 B2 B3 B4 HM HI HZ0 HZ1 HZ2 h
  go_wp2
  refine wp_loop_rounds 3 ?_
  rw [rounds_succ]
  go_wp2
  go_region
  all_goals go_wp2
  rw [rounds_succ]
  go_wp2
  go_region
  all_goals go_wp2
  rw [rounds_succ]
  go_wp2
  go_ret
  refine ⟨_, 3, rfl, ⟨rfl, .inr ⟨w.heap.size, 3, repN x 3 3, rfl, Nat.le_refl _, HH.out, Nat.le_refl _, by unfold maxLen; omega, rfl, rfl⟩⟩, HB.out⟩

theorem mul_1_n4 (w : World) : Calls Tryz.prog 41 #[.int .u64 1, .int .u64 4] w fun e w' => e = .returned (.tuple #[.int .u64 0, .int .u64 4]) ∧ w = w' := by
  go_enter Tryz.func41, Tryz.ntmps41
  go_wp2
  go_ret2
  exact ⟨rfl, rfl⟩

set_option maxRecDepth 100000 in
set_option maxHeartbeats 2000000 in
theorem repeat_n4 (g : Nat) (x : Int) (w : World) (h : w.cell? ⟨g, 0, none⟩ = some (.int .i64 x)) (hg : g < w.heap.size) :
    Calls Tryz.prog 21 #[.slice (some ⟨g, 0, none⟩) 1 1, .int .i64 4] w fun e w' => ∃ A c, e = .returned (.slice A 4 c) ∧ OwnK 3 .i64 w' w.heap.size A 4 c (List.replicate 4 x) ∧ Below w.heap.size w w' := by
  obtain ⟨i0, hi, hz0, hz1, hz2⟩ := info_parts info_int
  have HM := Lib.hid (mul_1_n4 w)
  have HI := Lib.hid hi
  have HZ0 := Lib.hid hz0
  have HZ1 := Lib.hid hz1
  have HZ2 := Lib.hid hz2
  clear hi hz0 hz1 hz2
  go_enter Tryz.func21, Tryz.ntmps21
  go_wp2_with fail
  refine HM.out.mono ?_
  rintro e w1 ⟨rfl, rfl⟩
  go_wp2_with (at_make; refine wpList_make_full _ rfl _ _ 29 rfl w.heap.size 3 i0 (.int .i64 0) 1 Tryz.underlying29 HI.out HZ0.out HZ1.out .i64 .i64 _ _ 4 rfl rfl rfl rfl (by rw [HZ2.out]; omega) (by unfold maxLen; omega) (Nat.le_refl _) ?_)
  intro w1 hown hgr
  have hh1 : w1.heap[w.heap.size]? = some (.cells (repN x 4 0) 3 (0, 0)) := by
    rcases hown.2 with ⟨hv, _⟩ | ⟨g', cap, cur, hv, _, hh, _, _, hs, ht⟩
    · simp at hv
    · injection hv with v1 v2 v3
      injection v1 with v1
      injection v1 with v1
      subst v1 v3
      rw [hh]
      have e : cur = repN x 4 0 := by
        rw [List.take_of_length_le (by rw [Array.length_toList, hs]; exact Nat.le_refl _)] at ht
        have h8 := toList_madeCells_one (.int .i64 0) 4
        have hr : (repN x 4 0).toList = List.replicate 4 (Value.int .i64 0) := rfl
        apply Array.toList_inj.1
        rw [hr]
        exact ht.trans h8
      rw [e]
  have B1 : Below w.heap.size w w1 := (Below.refl _ _).grown hgr (Nat.le_refl _) (by simp)
  have hx1 : w1.cell? ⟨g, 0, none⟩ = some (.int .i64 x) := (B1.cell (p := ⟨g, 0, none⟩) hg).trans h
  obtain ⟨w2, r2, hh2, B2⟩ := repN_first w w1 w.heap.size w.heap.size g 4 x (by omega) hh1 hx1 B1 (Nat.le_refl _)
  obtain ⟨w3, r3, hh3, B3⟩ := repN_copy w w2.drew w.heap.size w.heap.size 4 1 3 1 2 1 x rfl rfl rfl rfl (by omega) (by omega) hh2 B2.drew (Nat.le_refl _)
  obtain ⟨w4, r4, hh4, B4⟩ := repN_copy w w3.drew w.heap.size w.heap.size 4 2 2 2 4 2 x rfl rfl rfl rfl (by omega) (by omega) hh3 B3.drew (Nat.le_refl _)
  have HH := Lib.hid hh4
  have HB := Lib.hid B4
  clear hown hgr hh1 hx1 hh2 hh3 hh4 B1 B2 B3 B4 HM HI HZ0 HZ1 HZ2 h
  go_wp2
  refine wp_loop_rounds 3 ?_
  rw [rounds_succ]
  go_wp2
  go_region
  all_goals go_wp2
  rw [rounds_succ]
  go_wp2
  go_region
  all_goals go_wp2
  rw [rounds_succ]
  go_wp2
  go_ret
  refine ⟨_, 4, rfl, ⟨rfl, .inr ⟨w.heap.size, 4, repN x 4 4, rfl, Nat.le_refl _, HH.out, Nat.le_refl _, by unfold maxLen; omega, rfl, rfl⟩⟩, HB.out⟩

theorem mul_1_n5 (w : World) : Calls Tryz.prog 41 #[.int .u64 1, .int .u64 5] w fun e w' => e = .returned (.tuple #[.int .u64 0, .int .u64 5]) ∧ w = w' := by
  go_enter Tryz.func41, Tryz.ntmps41
  go_wp2
  go_ret2
  exact ⟨rfl, rfl⟩

set_option maxRecDepth 100000 in
set_option maxHeartbeats 2000000 in
theorem repeat_n5 (g : Nat) (x : Int) (w : World) (h : w.cell? ⟨g, 0, none⟩ = some (.int .i64 x)) (hg : g < w.heap.size) :
    Calls Tryz.prog 21 #[.slice (some ⟨g, 0, none⟩) 1 1, .int .i64 5] w fun e w' => ∃ A c, e = .returned (.slice A 5 c) ∧ OwnK 3 .i64 w' w.heap.size A 5 c (List.replicate 5 x) ∧ Below w.heap.size w w' := by
  obtain ⟨i0, hi, hz0, hz1, hz2⟩ := info_parts info_int
  have HM := Lib.hid (mul_1_n5 w)
  have HI := Lib.hid hi
  have HZ0 := Lib.hid hz0
  have HZ1 := Lib.hid hz1
  have HZ2 := Lib.hid hz2
  clear hi hz0 hz1 hz2
  go_enter Tryz.func21, Tryz.ntmps21
  go_wp2_with fail
  refine HM.out.mono ?_
  rintro e w1 ⟨rfl, rfl⟩
  go_wp2_with (at_make; refine wpList_make_full _ rfl _ _ 29 rfl w.heap.size 3 i0 (.int .i64 0) 1 Tryz.underlying29 HI.out HZ0.out HZ1.out .i64 .i64 _ _ 5 rfl rfl rfl rfl (by rw [HZ2.out]; omega) (by unfold maxLen; omega) (Nat.le_refl _) ?_)
  intro w1 hown hgr
  have hh1 : w1.heap[w.heap.size]? = some (.cells (repN x 5 0) 3 (0, 0)) := by
    rcases hown.2 with ⟨hv, _⟩ | ⟨g', cap, cur, hv, _, hh, _, _, hs, ht⟩
    · simp at hv
    · injection hv with v1 v2 v3
      injection v1 with v1
      injection v1 with v1
      subst v1 v3
      rw [hh]
      have e : cur = repN x 5 0 := by
        rw [List.take_of_length_le (by rw [Array.length_toList, hs]; exact Nat.le_refl _)] at ht
        have h8 := toList_madeCells_one (.int .i64 0) 5
        have hr : (repN x 5 0).toList = List.replicate 5 (Value.int .i64 0) := rfl
        apply Array.toList_inj.1
        rw [hr]
        exact ht.trans h8
      rw [e]
  have B1 : Below w.heap.size w w1 := (Below.refl _ _).grown hgr (Nat.le_refl _) (by simp)
  have hx1 : w1.cell? ⟨g, 0, none⟩ = some (.int .i64 x) := (B1.cell (p := ⟨g, 0, none⟩) hg).trans h
  obtain ⟨w2, r2, hh2, B2⟩ := repN_first w w1 w.heap.size w.heap.size g 5 x (by omega) hh1 hx1 B1 (Nat.le_refl _)
  obtain ⟨w3, r3, hh3, B3⟩ := repN_copy w w2.drew w.heap.size w.heap.size 5 1 4 1 2 1 x rfl rfl rfl rfl (by omega) (by omega) hh2 B2.drew (Nat.le_refl _)
  obtain ⟨w4, r4, hh4, B4⟩ := repN_copy w w3.drew w.heap.size w.heap.size 5 2 3 2 4 2 x rfl rfl rfl rfl (by omega) (by omega) hh3 B3.drew (Nat.le_refl _)
  obtain ⟨w5, r5, hh5, B5⟩ := repN_copy w w4.drew w.heap.size w.heap.size 5 4 1 1 5 1 x rfl rfl rfl rfl (by omega) (by omega) hh4 B4.drew (Nat.le_refl _)
  have HH := Lib.hid hh5
  have HB := Lib.hid B5
  clear hown hgr hh1 hx1 hh2 hh3 hh4 hh5 B1 B2 B3 B4 B5 HM HI HZ0 HZ1 HZ2 h
  go_wp2
  refine wp_loop_rounds 4 ?_
  rw [rounds_succ]
  go_wp2
  go_region
  all_goals go_wp2
  rw [rounds_succ]
  go_wp2
  go_region
  all_goals go_wp2
  rw [rounds_succ]
  go_wp2
  go_region
  all_goals go_wp2
  rw [rounds_succ]
  go_wp2
  go_ret
  refine ⟨_, 5, rfl, ⟨rfl, .inr ⟨w.heap.size, 5, repN x 5 5, rfl, Nat.le_refl _, HH.out, Nat.le_refl _, by unfold maxLen; omega, rfl, rfl⟩⟩, HB.out⟩

theorem mul_1_n6 (w : World) : Calls Tryz.prog 41 #[.int .u64 1, .int .u64 6] w fun e w' => e = .returned (.tuple #[.int .u64 0, .int .u64 6]) ∧ w = w' := by
  go_enter Tryz.func41, Tryz.ntmps41
  go_wp2
  go_ret2
  exact ⟨rfl, rfl⟩

set_option maxRecDepth 100000 in
set_option maxHeartbeats 2000000 in
theorem repeat_n6 (g : Nat) (x : Int) (w : World) (h : w.cell? ⟨g, 0, none⟩ = some (.int .i64 x)) (hg : g < w.heap.size) :
    Calls Tryz.prog 21 #[.slice (some ⟨g, 0, none⟩) 1 1, .int .i64 6] w fun e w' => ∃ A c, e = .returned (.slice A 6 c) ∧ OwnK 3 .i64 w' w.heap.size A 6 c (List.replicate 6 x) ∧ Below w.heap.size w w' := by
  obtain ⟨i0, hi, hz0, hz1, hz2⟩ := info_parts info_int
  have HM := Lib.hid (mul_1_n6 w)
  have HI := Lib.hid hi
  have HZ0 := Lib.hid hz0
  have HZ1 := Lib.hid hz1
  have HZ2 := Lib.hid hz2
  clear hi hz0 hz1 hz2
  go_enter Tryz.func21, Tryz.ntmps21
  go_wp2_with fail
  refine HM.out.mono ?_
  rintro e w1 ⟨rfl, rfl⟩
  go_wp2_with (at_make; refine wpList_make_full _ rfl _ _ 29 rfl w.heap.size 3 i0 (.int .i64 0) 1 Tryz.underlying29 HI.out HZ0.out HZ1.out .i64 .i64 _ _ 6 rfl rfl rfl rfl (by rw [HZ2.out]; omega) (by unfold maxLen; omega) (Nat.le_refl _) ?_)
  intro w1 hown hgr
  have hh1 : w1.heap[w.heap.size]? = some (.cells (repN x 6 0) 3 (0, 0)) := by
    rcases hown.2 with ⟨hv, _⟩ | ⟨g', cap, cur, hv, _, hh, _, _, hs, ht⟩
    · simp at hv
    · injection hv with v1 v2 v3
      injection v1 with v1
      injection v1 with v1
      subst v1 v3
      rw [hh]
      have e : cur = repN x 6 0 := by
        rw [List.take_of_length_le (by rw [Array.length_toList, hs]; exact Nat.le_refl _)] at ht
        have h8 := toList_madeCells_one (.int .i64 0) 6
        have hr : (repN x 6 0).toList = List.replicate 6 (Value.int .i64 0) := rfl
        apply Array.toList_inj.1
        rw [hr]
        exact ht.trans h8
      rw [e]
  have B1 : Below w.heap.size w w1 := (Below.refl _ _).grown hgr (Nat.le_refl _) (by simp)
  have hx1 : w1.cell? ⟨g, 0, none⟩ = some (.int .i64 x) := (B1.cell (p := ⟨g, 0, none⟩) hg).trans h
  obtain ⟨w2, r2, hh2, B2⟩ := repN_first w w1 w.heap.size w.heap.size g 6 x (by omega) hh1 hx1 B1 (Nat.le_refl _)
  obtain ⟨w3, r3, hh3, B3⟩ := repN_copy w w2.drew w.heap.size w.heap.size 6 1 5 1 2 1 x rfl rfl rfl rfl (by omega) (by omega) hh2 B2.drew (Nat.le_refl _)
  obtain ⟨w4, r4, hh4, B4⟩ := repN_copy w w3.drew w.heap.size w.heap.size 6 2 4 2 4 2 x rfl rfl rfl rfl (by omega) (by omega) hh3 B3.drew (Nat.le_refl _)
  obtain ⟨w5, r5, hh5, B5⟩ := repN_copy w w4.drew w.heap.size w.heap.size 6 4 2 2 6 2 x rfl rfl rfl rfl (by omega) (by omega) hh4 B4.drew (Nat.le_refl _)
  have HH := Lib.hid hh5
  have HB := Lib.hid B5
  clear hown hgr hh1 hx1 hh2 hh3 hh4 hh5 B1 B2 B3 B4 B5 HM HI HZ0 HZ1 HZ2 h
  go_wp2
  refine wp_loop_rounds 4 ?_
  rw [rounds_succ]
  go_wp2
  go_region
  all_goals go_wp2
  rw [rounds_succ]
  go_wp2
  go_region
  all_goals go_wp2
  rw [rounds_succ]
  go_wp2
  go_region
  all_goals go_wp2
  rw [rounds_succ]
  go_wp2
  go_ret
  refine ⟨_, 6, rfl, ⟨rfl, .inr ⟨w.heap.size, 6, repN x 6 6, rfl, Nat.le_refl _, HH.out, Nat.le_refl _, by unfold maxLen; omega, rfl, rfl⟩⟩, HB.out⟩

theorem mul_1_n7 (w : World) : Calls Tryz.prog 41 #[.int .u64 1, .int .u64 7] w fun e w' => e = .returned (.tuple #[.int .u64 0, .int .u64 7]) ∧ w = w' := by
  go_enter Tryz.func41, Tryz.ntmps41
  go_wp2
  go_ret2
  exact ⟨rfl, rfl⟩

set_option maxRecDepth 100000 in
set_option maxHeartbeats 2000000 in
theorem repeat_n7 (g : Nat) (x : Int) (w : World) (h : w.cell? ⟨g, 0, none⟩ = some (.int .i64 x)) (hg : g < w.heap.size) :
    Calls Tryz.prog 21 #[.slice (some ⟨g, 0, none⟩) 1 1, .int .i64 7] w fun e w' => ∃ A c, e = .returned (.slice A 7 c) ∧ OwnK 3 .i64 w' w.heap.size A 7 c (List.replicate 7 x) ∧ Below w.heap.size w w' := by
  obtain ⟨i0, hi, hz0, hz1, hz2⟩ := info_parts info_int
  have HM := Lib.hid (mul_1_n7 w)
  have HI := Lib.hid hi
  have HZ0 := Lib.hid hz0
  have HZ1 := Lib.hid hz1
  have HZ2 := Lib.hid hz2
  clear hi hz0 hz1 hz2
  go_enter Tryz.func21, Tryz.ntmps21
  go_wp2_with fail
  refine HM.out.mono ?_
  rintro e w1 ⟨rfl, rfl⟩
  go_wp2_with (at_make; refine wpList_make_full _ rfl _ _ 29 rfl w.heap.size 3 i0 (.int .i64 0) 1 Tryz.underlying29 HI.out HZ0.out HZ1.out .i64 .i64 _ _ 7 rfl rfl rfl rfl (by rw [HZ2.out]; omega) (by unfold maxLen; omega) (Nat.le_refl _) ?_)
  intro w1 hown hgr
  have hh1 : w1.heap[w.heap.size]? = some (.cells (repN x 7 0) 3 (0, 0)) := by
    rcases hown.2 with ⟨hv, _⟩ | ⟨g', cap, cur, hv, _, hh, _, _, hs, ht⟩
    · simp at hv
    · injection hv with v1 v2 v3
      injection v1 with v1
      injection v1 with v1
      subst v1 v3
      rw [hh]
      have e : cur = repN x 7 0 := by
        rw [List.take_of_length_le (by rw [Array.length_toList, hs]; exact Nat.le_refl _)] at ht
        have h8 := toList_madeCells_one (.int .i64 0) 7
        have hr : (repN x 7 0).toList = List.replicate 7 (Value.int .i64 0) := rfl
        apply Array.toList_inj.1
        rw [hr]
        exact ht.trans h8
      rw [e]
  have B1 : Below w.heap.size w w1 := (Below.refl _ _).grown hgr (Nat.le_refl _) (by simp)
  have hx1 : w1.cell? ⟨g, 0, none⟩ = some (.int .i64 x) := (B1.cell (p := ⟨g, 0, none⟩) hg).trans h
  obtain ⟨w2, r2, hh2, B2⟩ := repN_first w w1 w.heap.size w.heap.size g 7 x (by omega) hh1 hx1 B1 (Nat.le_refl _)
  obtain ⟨w3, r3, hh3, B3⟩ := repN_copy w w2.drew w.heap.size w.heap.size 7 1 6 1 2 1 x rfl rfl rfl rfl (by omega) (by omega) hh2 B2.drew (Nat.le_refl _)
  obtain ⟨w4, r4, hh4, B4⟩ := repN_copy w w3.drew w.heap.size w.heap.size 7 2 5 2 4 2 x rfl rfl rfl rfl (by omega) (by omega) hh3 B3.drew (Nat.le_refl _)
  obtain ⟨w5, r5, hh5, B5⟩ := repN_copy w w4.drew w.heap.size w.heap.size 7 4 3 3 7 3 x rfl rfl rfl rfl (by omega) (by omega) hh4 B4.drew (Nat.le_refl _)
  have HH := Lib.hid hh5
  have HB := Lib.hid B5
  clear hown hgr hh1 hx1 hh2 hh3 hh4 hh5 B1 B2 B3 B4 B5 HM HI HZ0 HZ1 HZ2 h
  go_wp2
  refine wp_loop_rounds 4 ?_
  rw [rounds_succ]
  go_wp2
  go_region
  all_goals go_wp2
  rw [rounds_succ]
  go_wp2
  go_region
  all_goals go_wp2
  rw [rounds_succ]
  go_wp2
  go_region
  all_goals go_wp2
  rw [rounds_succ]
  go_wp2
  go_ret
  refine ⟨_, 7, rfl, ⟨rfl, .inr ⟨w.heap.size, 7, repN x 7 7, rfl, Nat.le_refl _, HH.out, Nat.le_refl _, by unfold maxLen; omega, rfl, rfl⟩⟩, HB.out⟩

theorem mul_1_n8 (w : World) : Calls Tryz.prog 41 #[.int .u64 1, .int .u64 8] w fun e w' => e = .returned (.tuple #[.int .u64 0, .int .u64 8]) ∧ w = w' := by
  go_enter Tryz.func41, Tryz.ntmps41
  go_wp2
  go_ret2
  exact ⟨rfl, rfl⟩

set_option maxRecDepth 100000 in
set_option maxHeartbeats 2000000 in
theorem repeat_n8 (g : Nat) (x : Int) (w : World) (h : w.cell? ⟨g, 0, none⟩ = some (.int .i64 x)) (hg : g < w.heap.size) :
    Calls Tryz.prog 21 #[.slice (some ⟨g, 0, none⟩) 1 1, .int .i64 8] w fun e w' => ∃ A c, e = .returned (.slice A 8 c) ∧ OwnK 3 .i64 w' w.heap.size A 8 c (List.replicate 8 x) ∧ Below w.heap.size w w' := by
  obtain ⟨i0, hi, hz0, hz1, hz2⟩ := info_parts info_int
  have HM := Lib.hid (mul_1_n8 w)
  have HI := Lib.hid hi
  have HZ0 := Lib.hid hz0
  have HZ1 := Lib.hid hz1
  have HZ2 := Lib.hid hz2
  clear hi hz0 hz1 hz2
  go_enter Tryz.func21, Tryz.ntmps21
  go_wp2_with fail
  refine HM.out.mono ?_
  rintro e w1 ⟨rfl, rfl⟩
  go_wp2_with (at_make; refine wpList_make_full _ rfl _ _ 29 rfl w.heap.size 3 i0 (.int .i64 0) 1 Tryz.underlying29 HI.out HZ0.out HZ1.out .i64 .i64 _ _ 8 rfl rfl rfl rfl (by rw [HZ2.out]; omega) (by unfold maxLen; omega) (Nat.le_refl _) ?_)
  intro w1 hown hgr
  have hh1 : w1.heap[w.heap.size]? = some (.cells (repN x 8 0) 3 (0, 0)) := by
    rcases hown.2 with ⟨hv, _⟩ | ⟨g', cap, cur, hv, _, hh, _, _, hs, ht⟩
    · simp at hv
    · injection hv with v1 v2 v3
      injection v1 with v1
      injection v1 with v1
      subst v1 v3
      rw [hh]
      have e : cur = repN x 8 0 := by
        rw [List.take_of_length_le (by rw [Array.length_toList, hs]; exact Nat.le_refl _)] at ht
        have h8 := toList_madeCells_one (.int .i64 0) 8
        have hr : (repN x 8 0).toList = List.replicate 8 (Value.int .i64 0) := rfl
        apply Array.toList_inj.1
        rw [hr]
        exact ht.trans h8
      rw [e]
  have B1 : Below w.heap.size w w1 := (Below.refl _ _).grown hgr (Nat.le_refl _) (by simp)
  have hx1 : w1.cell? ⟨g, 0, none⟩ = some (.int .i64 x) := (B1.cell (p := ⟨g, 0, none⟩) hg).trans h
  obtain ⟨w2, r2, hh2, B2⟩ := repN_first w w1 w.heap.size w.heap.size g 8 x (by omega) hh1 hx1 B1 (Nat.le_refl _)
  obtain ⟨w3, r3, hh3, B3⟩ := repN_copy w w2.drew w.heap.size w.heap.size 8 1 7 1 2 1 x rfl rfl rfl rfl (by omega) (by omega) hh2 B2.drew (Nat.le_refl _)
  obtain ⟨w4, r4, hh4, B4⟩ := repN_copy w w3.drew w.heap.size w.heap.size 8 2 6 2 4 2 x rfl rfl rfl rfl (by omega) (by omega) hh3 B3.drew (Nat.le_refl _)
  obtain ⟨w5, r5, hh5, B5⟩ := repN_copy w w4.drew w.heap.size w.heap.size 8 4 4 4 8 4 x rfl rfl rfl rfl (by omega) (by omega) hh4 B4.drew (Nat.le_refl _)
  have HH := Lib.hid hh5
  have HB := Lib.hid B5
  clear hown hgr hh1 hx1 hh2 hh3 hh4 hh5 B1 B2 B3 B4 B5 HM HI HZ0 HZ1 HZ2 h
  go_wp2
  refine wp_loop_rounds 4 ?_
  rw [rounds_succ]
  go_wp2
  go_region
  all_goals go_wp2
  rw [rounds_succ]
  go_wp2
  go_region
  all_goals go_wp2
  rw [rounds_succ]
  go_wp2
  go_region
  all_goals go_wp2
  rw [rounds_succ]
  go_wp2
  go_ret
  refine ⟨_, 8, rfl, ⟨rfl, .inr ⟨w.heap.size, 8, repN x 8 8, rfl, Nat.le_refl _, HH.out, Nat.le_refl _, by unfold maxLen; omega, rfl, rfl⟩⟩, HB.out⟩

theorem mul_1_n9 (w : World) : Calls Tryz.prog 41 #[.int .u64 1, .int .u64 9] w fun e w' => e = .returned (.tuple #[.int .u64 0, .int .u64 9]) ∧ w = w' := by
  go_enter Tryz.func41, Tryz.ntmps41
  go_wp2
  go_ret2
  exact ⟨rfl, rfl⟩

set_option maxRecDepth 100000 in
set_option maxHeartbeats 2000000 in
theorem repeat_n9 (g : Nat) (x : Int) (w : World) (h : w.cell? ⟨g, 0, none⟩ = some (.int .i64 x)) (hg : g < w.heap.size) :
    Calls Tryz.prog 21 #[.slice (some ⟨g, 0, none⟩) 1 1, .int .i64 9] w fun e w' => ∃ A c, e = .returned (.slice A 9 c) ∧ OwnK 3 .i64 w' w.heap.size A 9 c (List.replicate 9 x) ∧ Below w.heap.size w w' := by
  obtain ⟨i0, hi, hz0, hz1, hz2⟩ := info_parts info_int
  have HM := Lib.hid (mul_1_n9 w)
  have HI := Lib.hid hi
  have HZ0 := Lib.hid hz0
  have HZ1 := Lib.hid hz1
  have HZ2 := Lib.hid hz2
  clear hi hz0 hz1 hz2
  go_enter Tryz.func21, Tryz.ntmps21
  go_wp2_with fail
  refine HM.out.mono ?_
  rintro e w1 ⟨rfl, rfl⟩
  go_wp2_with (at_make; refine wpList_make_full _ rfl _ _ 29 rfl w.heap.size 3 i0 (.int .i64 0) 1 Tryz.underlying29 HI.out HZ0.out HZ1.out .i64 .i64 _ _ 9 rfl rfl rfl rfl (by rw [HZ2.out]; omega) (by unfold maxLen; omega) (Nat.le_refl _) ?_)
  intro w1 hown hgr
  have hh1 : w1.heap[w.heap.size]? = some (.cells (repN x 9 0) 3 (0, 0)) := by
    rcases hown.2 with ⟨hv, _⟩ | ⟨g', cap, cur, hv, _, hh, _, _, hs, ht⟩
    · simp at hv
    · injection hv with v1 v2 v3
      injection v1 with v1
      injection v1 with v1
      subst v1 v3
      rw [hh]
      have e : cur = repN x 9 0 := by
        rw [List.take_of_length_le (by rw [Array.length_toList, hs]; exact Nat.le_refl _)] at ht
        have h8 := toList_madeCells_one (.int .i64 0) 9
        have hr : (repN x 9 0).toList = List.replicate 9 (Value.int .i64 0) := rfl
        apply Array.toList_inj.1
        rw [hr]
        exact ht.trans h8
      rw [e]
  have B1 : Below w.heap.size w w1 := (Below.refl _ _).grown hgr (Nat.le_refl _) (by simp)
  have hx1 : w1.cell? ⟨g, 0, none⟩ = some (.int .i64 x) := (B1.cell (p := ⟨g, 0, none⟩) hg).trans h
  obtain ⟨w2, r2, hh2, B2⟩ := repN_first w w1 w.heap.size w.heap.size g 9 x (by omega) hh1 hx1 B1 (Nat.le_refl _)
  obtain ⟨w3, r3, hh3, B3⟩ := repN_copy w w2.drew w.heap.size w.heap.size 9 1 8 1 2 1 x rfl rfl rfl rfl (by omega) (by omega) hh2 B2.drew (Nat.le_refl _)
  obtain ⟨w4, r4, hh4, B4⟩ := repN_copy w w3.drew w.heap.size w.heap.size 9 2 7 2 4 2 x rfl rfl rfl rfl (by omega) (by omega) hh3 B3.drew (Nat.le_refl _)
  obtain ⟨w5, r5, hh5, B5⟩ := repN_copy w w4.drew w.heap.size w.heap.size 9 4 5 4 8 4 x rfl rfl rfl rfl (by omega) (by omega) hh4 B4.drew (Nat.le_refl _)
  obtain ⟨w6, r6, hh6, B6⟩ := repN_copy w w5.drew w.heap.size w.heap.size 9 8 1 1 9 1 x rfl rfl rfl rfl (by omega) (by omega) hh5 B5.drew (Nat.le_refl _)
  have HH := Lib.hid hh6
  have HB := Lib.hid B6
  clear hown hgr hh1 hx1 hh2 hh3 hh4 hh5 hh6 B1 B2 B3 B4 B5 B6 HM HI HZ0 HZ1 HZ2 h
  go_wp2
  refine wp_loop_rounds 5 ?_
  rw [rounds_succ]
  go_wp2
  go_region
  all_goals go_wp2
  rw [rounds_succ]
  go_wp2
  go_region
  all_goals go_wp2
  rw [rounds_succ]
  go_wp2
  go_region
  all_goals go_wp2
  rw [rounds_succ]
  go_wp2
  go_region
  all_goals go_wp2
  rw [rounds_succ]
  go_wp2
  go_ret
  refine ⟨_, 9, rfl, ⟨rfl, .inr ⟨w.heap.size, 9, repN x 9 9, rfl, Nat.le_refl _, HH.out, Nat.le_refl _, by unfold maxLen; omega, rfl, rfl⟩⟩, HB.out⟩

theorem mul_1_n10 (w : World) : Calls Tryz.prog 41 #[.int .u64 1, .int .u64 10] w fun e w' => e = .returned (.tuple #[.int .u64 0, .int .u64 10]) ∧ w = w' := by
  go_enter Tryz.func41, Tryz.ntmps41
  go_wp2
  go_ret2
  exact ⟨rfl, rfl⟩

set_option maxRecDepth 100000 in
set_option maxHeartbeats 2000000 in
theorem repeat_n10 (g : Nat) (x : Int) (w : World) (h : w.cell? ⟨g, 0, none⟩ = some (.int .i64 x)) (hg : g < w.heap.size) :
    Calls Tryz.prog 21 #[.slice (some ⟨g, 0, none⟩) 1 1, .int .i64 10] w fun e w' => ∃ A c, e = .returned (.slice A 10 c) ∧ OwnK 3 .i64 w' w.heap.size A 10 c (List.replicate 10 x) ∧ Below w.heap.size w w' := by
  obtain ⟨i0, hi, hz0, hz1, hz2⟩ := info_parts info_int
  have HM := Lib.hid (mul_1_n10 w)
  have HI := Lib.hid hi
  have HZ0 := Lib.hid hz0
  have HZ1 := Lib.hid hz1
  have HZ2 := Lib.hid hz2
  clear hi hz0 hz1 hz2
  go_enter Tryz.func21, Tryz.ntmps21
  go_wp2_with fail
  refine HM.out.mono ?_
  rintro e w1 ⟨rfl, rfl⟩
  go_wp2_with (at_make; refine wpList_make_full _ rfl _ _ 29 rfl w.heap.size 3 i0 (.int .i64 0) 1 Tryz.underlying29 HI.out HZ0.out HZ1.out .i64 .i64 _ _ 10 rfl rfl rfl rfl (by rw [HZ2.out]; omega) (by unfold maxLen; omega) (Nat.le_refl _) ?_)
  intro w1 hown hgr
  have hh1 : w1.heap[w.heap.size]? = some (.cells (repN x 10 0) 3 (0, 0)) := by
    rcases hown.2 with ⟨hv, _⟩ | ⟨g', cap, cur, hv, _, hh, _, _, hs, ht⟩
    · simp at hv
    · injection hv with v1 v2 v3
      injection v1 with v1
      injection v1 with v1
      subst v1 v3
      rw [hh]
      have e : cur = repN x 10 0 := by
        rw [List.take_of_length_le (by rw [Array.length_toList, hs]; exact Nat.le_refl _)] at ht
        have h8 := toList_madeCells_one (.int .i64 0) 10
        have hr : (repN x 10 0).toList = List.replicate 10 (Value.int .i64 0) := rfl
        apply Array.toList_inj.1
        rw [hr]
        exact ht.trans h8
      rw [e]
  have B1 : Below w.heap.size w w1 := (Below.refl _ _).grown hgr (Nat.le_refl _) (by simp)
  have hx1 : w1.cell? ⟨g, 0, none⟩ = some (.int .i64 x) := (B1.cell (p := ⟨g, 0, none⟩) hg).trans h
  obtain ⟨w2, r2, hh2, B2⟩ := repN_first w w1 w.heap.size w.heap.size g 10 x (by omega) hh1 hx1 B1 (Nat.le_refl _)
  obtain ⟨w3, r3, hh3, B3⟩ := repN_copy w w2.drew w.heap.size w.heap.size 10 1 9 1 2 1 x rfl rfl rfl rfl (by omega) (by omega) hh2 B2.drew (Nat.le_refl _)
  obtain ⟨w4, r4, hh4, B4⟩ := repN_copy w w3.drew w.heap.size w.heap.size 10 2 8 2 4 2 x rfl rfl rfl rfl (by omega) (by omega) hh3 B3.drew (Nat.le_refl _)
  obtain ⟨w5, r5, hh5, B5⟩ := repN_copy w w4.drew w.heap.size w.heap.size 10 4 6 4 8 4 x rfl rfl rfl rfl (by omega) (by omega) hh4 B4.drew (Nat.le_refl _)
  obtain ⟨w6, r6, hh6, B6⟩ := repN_copy w w5.drew w.heap.size w.heap.size 10 8 2 2 10 2 x rfl rfl rfl rfl (by omega) (by omega) hh5 B5.drew (Nat.le_refl _)
  have HH := Lib.hid hh6
  have HB := Lib.hid B6
  clear hown hgr hh1 hx1 hh2 hh3 hh4 hh5 hh6 B1 B2 B3 B4 B5 B6 HM HI HZ0 HZ1 HZ2 h
  go_wp2
  refine wp_loop_rounds 5 ?_
  rw [rounds_succ]
  go_wp2
  go_region
  all_goals go_wp2
  rw [rounds_succ]
  go_wp2
  go_region
  all_goals go_wp2
  rw [rounds_succ]
  go_wp2
  go_region
  all_goals go_wp2
  rw [rounds_succ]
  go_wp2
  go_region
  all_goals go_wp2
  rw [rounds_succ]
  go_wp2
  go_ret
  refine ⟨_, 10, rfl, ⟨rfl, .inr ⟨w.heap.size, 10, repN x 10 10, rfl, Nat.le_refl _, HH.out, Nat.le_refl _, by unfold maxLen; omega, rfl, rfl⟩⟩, HB.out⟩

theorem mul_1_n11 (w : World) : Calls Tryz.prog 41 #[.int .u64 1, .int .u64 11] w fun e w' => e = .returned (.tuple #[.int .u64 0, .int .u64 11]) ∧ w = w' := by
  go_enter Tryz.func41, Tryz.ntmps41
  go_wp2
  go_ret2
  exact ⟨rfl, rfl⟩

set_option maxRecDepth 100000 in
set_option maxHeartbeats 2000000 in
theorem repeat_n11 (g : Nat) (x : Int) (w : World) (h : w.cell? ⟨g, 0, none⟩ = some (.int .i64 x)) (hg : g < w.heap.size) :
    Calls Tryz.prog 21 #[.slice (some ⟨g, 0, none⟩) 1 1, .int .i64 11] w fun e w' => ∃ A c, e = .returned (.slice A 11 c) ∧ OwnK 3 .i64 w' w.heap.size A 11 c (List.replicate 11 x) ∧ Below w.heap.size w w' := by
  obtain ⟨i0, hi, hz0, hz1, hz2⟩ := info_parts info_int
  have HM := Lib.hid (mul_1_n11 w)
  have HI := Lib.hid hi
  have HZ0 := Lib.hid hz0
  have HZ1 := Lib.hid hz1
  have HZ2 := Lib.hid hz2
  clear hi hz0 hz1 hz2
  go_enter Tryz.func21, Tryz.ntmps21
  go_wp2_with fail
  refine HM.out.mono ?_
  rintro e w1 ⟨rfl, rfl⟩
  go_wp2_with (at_make; refine wpList_make_full _ rfl _ _ 29 rfl w.heap.size 3 i0 (.int .i64 0) 1 Tryz.underlying29 HI.out HZ0.out HZ1.out .i64 .i64 _ _ 11 rfl rfl rfl rfl (by rw [HZ2.out]; omega) (by unfold maxLen; omega) (Nat.le_refl _) ?_)
  intro w1 hown hgr
  have hh1 : w1.heap[w.heap.size]? = some (.cells (repN x 11 0) 3 (0, 0)) := by
    rcases hown.2 with ⟨hv, _⟩ | ⟨g', cap, cur, hv, _, hh, _, _, hs, ht⟩
    · simp at hv
    · injection hv with v1 v2 v3
      injection v1 with v1
      injection v1 with v1
      subst v1 v3
      rw [hh]
      have e : cur = repN x 11 0 := by
        rw [List.take_of_length_le (by rw [Array.length_toList, hs]; exact Nat.le_refl _)] at ht
        have h8 := toList_madeCells_one (.int .i64 0) 11
        have hr : (repN x 11 0).toList = List.replicate 11 (Value.int .i64 0) := rfl
        apply Array.toList_inj.1
        rw [hr]
        exact ht.trans h8
      rw [e]
  have B1 : Below w.heap.size w w1 := (Below.refl _ _).grown hgr (Nat.le_refl _) (by simp)
  have hx1 : w1.cell? ⟨g, 0, none⟩ = some (.int .i64 x) := (B1.cell (p := ⟨g, 0, none⟩) hg).trans h
  obtain ⟨w2, r2, hh2, B2⟩ := repN_first w w1 w.heap.size w.heap.size g 11 x (by omega) hh1 hx1 B1 (Nat.le_refl _)
  obtain ⟨w3, r3, hh3, B3⟩ := repN_copy w w2.drew w.heap.size w.heap.size 11 1 10 1 2 1 x rfl rfl rfl rfl (by omega) (by omega) hh2 B2.drew (Nat.le_refl _)
  obtain ⟨w4, r4, hh4, B4⟩ := repN_copy w w3.drew w.heap.size w.heap.size 11 2 9 2 4 2 x rfl rfl rfl rfl (by omega) (by omega) hh3 B3.drew (Nat.le_refl _)
  obtain ⟨w5, r5, hh5, B5⟩ := repN_copy w w4.drew w.heap.size w.heap.size 11 4 7 4 8 4 x rfl rfl rfl rfl (by omega) (by omega) hh4 B4.drew (Nat.le_refl _)
  obtain ⟨w6, r6, hh6, B6⟩ := repN_copy w w5.drew w.heap.size w.heap.size 11 8 3 3 11 3 x rfl rfl rfl rfl (by omega) (by omega) hh5 B5.drew (Nat.le_refl _)
  have HH := Lib.hid hh6
  have HB := Lib.hid B6
  clear hown hgr hh1 hx1 hh2 hh3 hh4 hh5 hh6 B1 B2 B3 B4 B5 B6 HM HI HZ0 HZ1 HZ2 h
  go_wp2
  refine wp_loop_rounds 5 ?_
  rw [rounds_succ]
  go_wp2
  go_region
  all_goals go_wp2
  rw [rounds_succ]
  go_wp2
  go_region
  all_goals go_wp2
  rw [rounds_succ]
  go_wp2
  go_region
  all_goals go_wp2
  rw [rounds_succ]
  go_wp2
  go_region
  all_goals go_wp2
  rw [rounds_succ]
  go_wp2
  go_ret
  refine ⟨_, 11, rfl, ⟨rfl, .inr ⟨w.heap.size, 11, repN x 11 11, rfl, Nat.le_refl _, HH.out, Nat.le_refl _, by unfold maxLen; omega, rfl, rfl⟩⟩, HB.out⟩

theorem mul_1_n12 (w : World) : Calls Tryz.prog 41 #[.int .u64 1, .int .u64 12] w fun e w' => e = .returned (.tuple #[.int .u64 0, .int .u64 12]) ∧ w = w' := by
  go_enter Tryz.func41, Tryz.ntmps41
  go_wp2
  go_ret2
  exact ⟨rfl, rfl⟩

set_option maxRecDepth 100000 in
set_option maxHeartbeats 2000000 in
theorem repeat_n12 (g : Nat) (x : Int) (w : World) (h : w.cell? ⟨g, 0, none⟩ = some (.int .i64 x)) (hg : g < w.heap.size) :
    Calls Tryz.prog 21 #[.slice (some ⟨g, 0, none⟩) 1 1, .int .i64 12] w fun e w' => ∃ A c, e = .returned (.slice A 12 c) ∧ OwnK 3 .i64 w' w.heap.size A 12 c (List.replicate 12 x) ∧ Below w.heap.size w w' := by
  obtain ⟨i0, hi, hz0, hz1, hz2⟩ := info_parts info_int
  have HM := Lib.hid (mul_1_n12 w)
  have HI := Lib.hid hi
  have HZ0 := Lib.hid hz0
  have HZ1 := Lib.hid hz1
  have HZ2 := Lib.hid hz2
  clear hi hz0 hz1 hz2
  go_enter Tryz.func21, Tryz.ntmps21
  go_wp2_with fail
  refine HM.out.mono ?_
  rintro e w1 ⟨rfl, rfl⟩
  go_wp2_with (at_make; refine wpList_make_full _ rfl _ _ 29 rfl w.heap.size 3 i0 (.int .i64 0) 1 Tryz.underlying29 HI.out HZ0.out HZ1.out .i64 .i64 _ _ 12 rfl rfl rfl rfl (by rw [HZ2.out]; omega) (by unfold maxLen; omega) (Nat.le_refl _) ?_)
  intro w1 hown hgr
  have hh1 : w1.heap[w.heap.size]? = some (.cells (repN x 12 0) 3 (0, 0)) := by
    rcases hown.2 with ⟨hv, _⟩ | ⟨g', cap, cur, hv, _, hh, _, _, hs, ht⟩
    · simp at hv
    · injection hv with v1 v2 v3
      injection v1 with v1
      injection v1 with v1
      subst v1 v3
      rw [hh]
      have e : cur = repN x 12 0 := by
        rw [List.take_of_length_le (by rw [Array.length_toList, hs]; exact Nat.le_refl _)] at ht
        have h8 := toList_madeCells_one (.int .i64 0) 12
        have hr : (repN x 12 0).toList = List.replicate 12 (Value.int .i64 0) := rfl
        apply Array.toList_inj.1
        rw [hr]
        exact ht.trans h8
      rw [e]
  have B1 : Below w.heap.size w w1 := (Below.refl _ _).grown hgr (Nat.le_refl _) (by simp)
  have hx1 : w1.cell? ⟨g, 0, none⟩ = some (.int .i64 x) := (B1.cell (p := ⟨g, 0, none⟩) hg).trans h
  obtain ⟨w2, r2, hh2, B2⟩ := repN_first w w1 w.heap.size w.heap.size g 12 x (by omega) hh1 hx1 B1 (Nat.le_refl _)
  obtain ⟨w3, r3, hh3, B3⟩ := repN_copy w w2.drew w.heap.size w.heap.size 12 1 11 1 2 1 x rfl rfl rfl rfl (by omega) (by omega) hh2 B2.drew (Nat.le_refl _)
  obtain ⟨w4, r4, hh4, B4⟩ := repN_copy w w3.drew w.heap.size w.heap.size 12 2 10 2 4 2 x rfl rfl rfl rfl (by omega) (by omega) hh3 B3.drew (Nat.le_refl _)
  obtain ⟨w5, r5, hh5, B5⟩ := repN_copy w w4.drew w.heap.size w.heap.size 12 4 8 4 8 4 x rfl rfl rfl rfl (by omega) (by omega) hh4 B4.drew (Nat.le_refl _)
  obtain ⟨w6, r6, hh6, B6⟩ := repN_copy w w5.drew w.heap.size w.heap.size 12 8 4 4 12 4 x rfl rfl rfl rfl (by omega) (by omega) hh5 B5.drew (Nat.le_refl _)
  have HH := Lib.hid hh6
  have HB := Lib.hid B6
  clear hown hgr hh1 hx1 hh2 hh3 hh4 hh5 hh6 B1 B2 B3 B4 B5 B6 HM HI HZ0 HZ1 HZ2 h
  go_wp2
  refine wp_loop_rounds 5 ?_
  rw [rounds_succ]
  go_wp2
  go_region
  all_goals go_wp2
  rw [rounds_succ]
  go_wp2
  go_region
  all_goals go_wp2
  rw [rounds_succ]
  go_wp2
  go_region
  all_goals go_wp2
  rw [rounds_succ]
  go_wp2
  go_region
  all_goals go_wp2
  rw [rounds_succ]
  go_wp2
  go_ret
  refine ⟨_, 12, rfl, ⟨rfl, .inr ⟨w.heap.size, 12, repN x 12 12, rfl, Nat.le_refl _, HH.out, Nat.le_refl _, by unfold maxLen; omega, rfl, rfl⟩⟩, HB.out⟩

theorem mul_1_n13 (w : World) : Calls Tryz.prog 41 #[.int .u64 1, .int .u64 13] w fun e w' => e = .returned (.tuple #[.int .u64 0, .int .u64 13]) ∧ w = w' := by
  go_enter Tryz.func41, Tryz.ntmps41
  go_wp2
  go_ret2
  exact ⟨rfl, rfl⟩

set_option maxRecDepth 100000 in
set_option maxHeartbeats 2000000 in
theorem repeat_n13 (g : Nat) (x : Int) (w : World) (h : w.cell? ⟨g, 0, none⟩ = some (.int .i64 x)) (hg : g < w.heap.size) :
    Calls Tryz.prog 21 #[.slice (some ⟨g, 0, none⟩) 1 1, .int .i64 13] w fun e w' => ∃ A c, e = .returned (.slice A 13 c) ∧ OwnK 3 .i64 w' w.heap.size A 13 c (List.replicate 13 x) ∧ Below w.heap.size w w' := by
  obtain ⟨i0, hi, hz0, hz1, hz2⟩ := info_parts info_int
  have HM := Lib.hid (mul_1_n13 w)
  have HI := Lib.hid hi
  have HZ0 := Lib.hid hz0
  have HZ1 := Lib.hid hz1
  have HZ2 := Lib.hid hz2
  clear hi hz0 hz1 hz2
  go_enter Tryz.func21, Tryz.ntmps21
  go_wp2_with fail
  refine HM.out.mono ?_
  rintro e w1 ⟨rfl, rfl⟩
  go_wp2_with (at_make; refine wpList_make_full _ rfl _ _ 29 rfl w.heap.size 3 i0 (.int .i64 0) 1 Tryz.underlying29 HI.out HZ0.out HZ1.out .i64 .i64 _ _ 13 rfl rfl rfl rfl (by rw [HZ2.out]; omega) (by unfold maxLen; omega) (Nat.le_refl _) ?_)
  intro w1 hown hgr
  have hh1 : w1.heap[w.heap.size]? = some (.cells (repN x 13 0) 3 (0, 0)) := by
    rcases hown.2 with ⟨hv, _⟩ | ⟨g', cap, cur, hv, _, hh, _, _, hs, ht⟩
    · simp at hv
    · injection hv with v1 v2 v3
      injection v1 with v1
      injection v1 with v1
      subst v1 v3
      rw [hh]
      have e : cur = repN x 13 0 := by
        rw [List.take_of_length_le (by rw [Array.length_toList, hs]; exact Nat.le_refl _)] at ht
        have h8 := toList_madeCells_one (.int .i64 0) 13
        have hr : (repN x 13 0).toList = List.replicate 13 (Value.int .i64 0) := rfl
        apply Array.toList_inj.1
        rw [hr]
        exact ht.trans h8
      rw [e]
  have B1 : Below w.heap.size w w1 := (Below.refl _ _).grown hgr (Nat.le_refl _) (by simp)
  have hx1 : w1.cell? ⟨g, 0, none⟩ = some (.int .i64 x) := (B1.cell (p := ⟨g, 0, none⟩) hg).trans h
  obtain ⟨w2, r2, hh2, B2⟩ := repN_first w w1 w.heap.size w.heap.size g 13 x (by omega) hh1 hx1 B1 (Nat.le_refl _)
  obtain ⟨w3, r3, hh3, B3⟩ := repN_copy w w2.drew w.heap.size w.heap.size 13 1 12 1 2 1 x rfl rfl rfl rfl (by omega) (by omega) hh2 B2.drew (Nat.le_refl _)
  obtain ⟨w4, r4, hh4, B4⟩ := repN_copy w w3.drew w.heap.size w.heap.size 13 2 11 2 4 2 x rfl rfl rfl rfl (by omega) (by omega) hh3 B3.drew (Nat.le_refl _)
  obtain ⟨w5, r5, hh5, B5⟩ := repN_copy w w4.drew w.heap.size w.heap.size 13 4 9 4 8 4 x rfl rfl rfl rfl (by omega) (by omega) hh4 B4.drew (Nat.le_refl _)
  obtain ⟨w6, r6, hh6, B6⟩ := repN_copy w w5.drew w.heap.size w.heap.size 13 8 5 5 13 5 x rfl rfl rfl rfl (by omega) (by omega) hh5 B5.drew (Nat.le_refl _)
  have HH := Lib.hid hh6
  have HB := Lib.hid B6
  clear hown hgr hh1 hx1 hh2 hh3 hh4 hh5 hh6 B1 B2 B3 B4 B5 B6 HM HI HZ0 HZ1 HZ2 h
  go_wp2
  refine wp_loop_rounds 5 ?_
  rw [rounds_succ]
  go_wp2
  go_region
  all_goals go_wp2
  rw [rounds_succ]
  go_wp2
  go_region
  all_goals go_wp2
  rw [rounds_succ]
  go_wp2
  go_region
  all_goals go_wp2
  rw [rounds_succ]
  go_wp2
  go_region
  all_goals go_wp2
  rw [rounds_succ]
  go_wp2
  go_ret
  refine ⟨_, 13, rfl, ⟨rfl, .inr ⟨w.heap.size, 13, repN x 13 13, rfl, Nat.le_refl _, HH.out, Nat.le_refl _, by unfold maxLen; omega, rfl, rfl⟩⟩, HB.out⟩

theorem mul_1_n14 (w : World) : Calls Tryz.prog 41 #[.int .u64 1, .int .u64 14] w fun e w' => e = .returned (.tuple #[.int .u64 0, .int .u64 14]) ∧ w = w' := by
  go_enter Tryz.func41, Tryz.ntmps41
  go_wp2
  go_ret2
  exact ⟨rfl, rfl⟩

set_option maxRecDepth 100000 in
set_option maxHeartbeats 2000000 in
theorem repeat_n14 (g : Nat) (x : Int) (w : World) (h : w.cell? ⟨g, 0, none⟩ = some (.int .i64 x)) (hg : g < w.heap.size) :
    Calls Tryz.prog 21 #[.slice (some ⟨g, 0, none⟩) 1 1, .int .i64 14] w fun e w' => ∃ A c, e = .returned (.slice A 14 c) ∧ OwnK 3 .i64 w' w.heap.size A 14 c (List.replicate 14 x) ∧ Below w.heap.size w w' := by
  obtain ⟨i0, hi, hz0, hz1, hz2⟩ := info_parts info_int
  have HM := Lib.hid (mul_1_n14 w)
  have HI := Lib.hid hi
  have HZ0 := Lib.hid hz0
  have HZ1 := Lib.hid hz1
  have HZ2 := Lib.hid hz2
  clear hi hz0 hz1 hz2
  go_enter Tryz.func21, Tryz.ntmps21
  go_wp2_with fail
  refine HM.out.mono ?_
  rintro e w1 ⟨rfl, rfl⟩
  go_wp2_with (at_make; refine wpList_make_full _ rfl _ _ 29 rfl w.heap.size 3 i0 (.int .i64 0) 1 Tryz.underlying29 HI.out HZ0.out HZ1.out .i64 .i64 _ _ 14 rfl rfl rfl rfl (by rw [HZ2.out]; omega) (by unfold maxLen; omega) (Nat.le_refl _) ?_)
  intro w1 hown hgr
  have hh1 : w1.heap[w.heap.size]? = some (.cells (repN x 14 0) 3 (0, 0)) := by
    rcases hown.2 with ⟨hv, _⟩ | ⟨g', cap, cur, hv, _, hh, _, _, hs, ht⟩
    · simp at hv
    · injection hv with v1 v2 v3
      injection v1 with v1
      injection v1 with v1
      subst v1 v3
      rw [hh]
      have e : cur = repN x 14 0 := by
        rw [List.take_of_length_le (by rw [Array.length_toList, hs]; exact Nat.le_refl _)] at ht
        have h8 := toList_madeCells_one (.int .i64 0) 14
        have hr : (repN x 14 0).toList = List.replicate 14 (Value.int .i64 0) := rfl
        apply Array.toList_inj.1
        rw [hr]
        exact ht.trans h8
      rw [e]
  have B1 : Below w.heap.size w w1 := (Below.refl _ _).grown hgr (Nat.le_refl _) (by simp)
  have hx1 : w1.cell? ⟨g, 0, none⟩ = some (.int .i64 x) := (B1.cell (p := ⟨g, 0, none⟩) hg).trans h
  obtain ⟨w2, r2, hh2, B2⟩ := repN_first w w1 w.heap.size w.heap.size g 14 x (by omega) hh1 hx1 B1 (Nat.le_refl _)
  obtain ⟨w3, r3, hh3, B3⟩ := repN_copy w w2.drew w.heap.size w.heap.size 14 1 13 1 2 1 x rfl rfl rfl rfl (by omega) (by omega) hh2 B2.drew (Nat.le_refl _)
  obtain ⟨w4, r4, hh4, B4⟩ := repN_copy w w3.drew w.heap.size w.heap.size 14 2 12 2 4 2 x rfl rfl rfl rfl (by omega) (by omega) hh3 B3.drew (Nat.le_refl _)
  obtain ⟨w5, r5, hh5, B5⟩ := repN_copy w w4.drew w.heap.size w.heap.size 14 4 10 4 8 4 x rfl rfl rfl rfl (by omega) (by omega) hh4 B4.drew (Nat.le_refl _)
  obtain ⟨w6, r6, hh6, B6⟩ := repN_copy w w5.drew w.heap.size w.heap.size 14 8 6 6 14 6 x rfl rfl rfl rfl (by omega) (by omega) hh5 B5.drew (Nat.le_refl _)
  have HH := Lib.hid hh6
  have HB := Lib.hid B6
  clear hown hgr hh1 hx1 hh2 hh3 hh4 hh5 hh6 B1 B2 B3 B4 B5 B6 HM HI HZ0 HZ1 HZ2 h
  go_wp2
  refine wp_loop_rounds 5 ?_
  rw [rounds_succ]
  go_wp2
  go_region
  all_goals go_wp2
  rw [rounds_succ]
  go_wp2
  go_region
  all_goals go_wp2
  rw [rounds_succ]
  go_wp2
  go_region
  all_goals go_wp2
  rw [rounds_succ]
  go_wp2
  go_region
  all_goals go_wp2
  rw [rounds_succ]
  go_wp2
  go_ret
  refine ⟨_, 14, rfl, ⟨rfl, .inr ⟨w.heap.size, 14, repN x 14 14, rfl, Nat.le_refl _, HH.out, Nat.le_refl _, by unfold maxLen; omega, rfl, rfl⟩⟩, HB.out⟩

theorem mul_1_n15 (w : World) : Calls Tryz.prog 41 #[.int .u64 1, .int .u64 15] w fun e w' => e = .returned (.tuple #[.int .u64 0, .int .u64 15]) ∧ w = w' := by
  go_enter Tryz.func41, Tryz.ntmps41
  go_wp2
  go_ret2
  exact ⟨rfl, rfl⟩

set_option maxRecDepth 100000 in
set_option maxHeartbeats 2000000 in
theorem repeat_n15 (g : Nat) (x : Int) (w : World) (h : w.cell? ⟨g, 0, none⟩ = some (.int .i64 x)) (hg : g < w.heap.size) :
    Calls Tryz.prog 21 #[.slice (some ⟨g, 0, none⟩) 1 1, .int .i64 15] w fun e w' => ∃ A c, e = .returned (.slice A 15 c) ∧ OwnK 3 .i64 w' w.heap.size A 15 c (List.replicate 15 x) ∧ Below w.heap.size w w' := by
  obtain ⟨i0, hi, hz0, hz1, hz2⟩ := info_parts info_int
  have HM := Lib.hid (mul_1_n15 w)
  have HI := Lib.hid hi
  have HZ0 := Lib.hid hz0
  have HZ1 := Lib.hid hz1
  have HZ2 := Lib.hid hz2
  clear hi hz0 hz1 hz2
  go_enter Tryz.func21, Tryz.ntmps21
  go_wp2_with fail
  refine HM.out.mono ?_
  rintro e w1 ⟨rfl, rfl⟩
  go_wp2_with (at_make; refine wpList_make_full _ rfl _ _ 29 rfl w.heap.size 3 i0 (.int .i64 0) 1 Tryz.underlying29 HI.out HZ0.out HZ1.out .i64 .i64 _ _ 15 rfl rfl rfl rfl (by rw [HZ2.out]; omega) (by unfold maxLen; omega) (Nat.le_refl _) ?_)
  intro w1 hown hgr
  have hh1 : w1.heap[w.heap.size]? = some (.cells (repN x 15 0) 3 (0, 0)) := by
    rcases hown.2 with ⟨hv, _⟩ | ⟨g', cap, cur, hv, _, hh, _, _, hs, ht⟩
    · simp at hv
    · injection hv with v1 v2 v3
      injection v1 with v1
      injection v1 with v1
      subst v1 v3
      rw [hh]
      have e : cur = repN x 15 0 := by
        rw [List.take_of_length_le (by rw [Array.length_toList, hs]; exact Nat.le_refl _)] at ht
        have h8 := toList_madeCells_one (.int .i64 0) 15
        have hr : (repN x 15 0).toList = List.replicate 15 (Value.int .i64 0) := rfl
        apply Array.toList_inj.1
        rw [hr]
        exact ht.trans h8
      rw [e]
  have B1 : Below w.heap.size w w1 := (Below.refl _ _).grown hgr (Nat.le_refl _) (by simp)
  have hx1 : w1.cell? ⟨g, 0, none⟩ = some (.int .i64 x) := (B1.cell (p := ⟨g, 0, none⟩) hg).trans h
  obtain ⟨w2, r2, hh2, B2⟩ := repN_first w w1 w.heap.size w.heap.size g 15 x (by omega) hh1 hx1 B1 (Nat.le_refl _)
  obtain ⟨w3, r3, hh3, B3⟩ := repN_copy w w2.drew w.heap.size w.heap.size 15 1 14 1 2 1 x rfl rfl rfl rfl (by omega) (by omega) hh2 B2.drew (Nat.le_refl _)
  obtain ⟨w4, r4, hh4, B4⟩ := repN_copy w w3.drew w.heap.size w.heap.size 15 2 13 2 4 2 x rfl rfl rfl rfl (by omega) (by omega) hh3 B3.drew (Nat.le_refl _)
  obtain ⟨w5, r5, hh5, B5⟩ := repN_copy w w4.drew w.heap.size w.heap.size 15 4 11 4 8 4 x rfl rfl rfl rfl (by omega) (by omega) hh4 B4.drew (Nat.le_refl _)
  obtain ⟨w6, r6, hh6, B6⟩ := repN_copy w w5.drew w.heap.size w.heap.size 15 8 7 7 15 7 x rfl rfl rfl rfl (by omega) (by omega) hh5 B5.drew (Nat.le_refl _)
  have HH := Lib.hid hh6
  have HB := Lib.hid B6
  clear hown hgr hh1 hx1 hh2 hh3 hh4 hh5 hh6 B1 B2 B3 B4 B5 B6 HM HI HZ0 HZ1 HZ2 h
  go_wp2
  refine wp_loop_rounds 5 ?_
  rw [rounds_succ]
  go_wp2
  go_region
  all_goals go_wp2
  rw [rounds_succ]
  go_wp2
  go_region
  all_goals go_wp2
  rw [rounds_succ]
  go_wp2
  go_region
  all_goals go_wp2
  rw [rounds_succ]
  go_wp2
  go_region
  all_goals go_wp2
  rw [rounds_succ]
  go_wp2
  go_ret
  refine ⟨_, 15, rfl, ⟨rfl, .inr ⟨w.heap.size, 15, repN x 15 15, rfl, Nat.le_refl _, HH.out, Nat.le_refl _, by unfold maxLen; omega, rfl, rfl⟩⟩, HB.out⟩

theorem mul_1_n16 (w : World) : Calls Tryz.prog 41 #[.int .u64 1, .int .u64 16] w fun e w' => e = .returned (.tuple #[.int .u64 0, .int .u64 16]) ∧ w = w' := by
  go_enter Tryz.func41, Tryz.ntmps41
  go_wp2
  go_ret2
  exact ⟨rfl, rfl⟩

set_option maxRecDepth 100000 in
set_option maxHeartbeats 2000000 in
theorem repeat_n16 (g : Nat) (x : Int) (w : World) (h : w.cell? ⟨g, 0, none⟩ = some (.int .i64 x)) (hg : g < w.heap.size) :
    Calls Tryz.prog 21 #[.slice (some ⟨g, 0, none⟩) 1 1, .int .i64 16] w fun e w' => ∃ A c, e = .returned (.slice A 16 c) ∧ OwnK 3 .i64 w' w.heap.size A 16 c (List.replicate 16 x) ∧ Below w.heap.size w w' := by
  obtain ⟨i0, hi, hz0, hz1, hz2⟩ := info_parts info_int
  have HM := Lib.hid (mul_1_n16 w)
  have HI := Lib.hid hi
  have HZ0 := Lib.hid hz0
  have HZ1 := Lib.hid hz1
  have HZ2 := Lib.hid hz2
  clear hi hz0 hz1 hz2
  go_enter Tryz.func21, Tryz.ntmps21
  go_wp2_with fail
  refine HM.out.mono ?_
  rintro e w1 ⟨rfl, rfl⟩
  go_wp2_with (at_make; refine wpList_make_full _ rfl _ _ 29 rfl w.heap.size 3 i0 (.int .i64 0) 1 Tryz.underlying29 HI.out HZ0.out HZ1.out .i64 .i64 _ _ 16 rfl rfl rfl rfl (by rw [HZ2.out]; omega) (by unfold maxLen; omega) (Nat.le_refl _) ?_)
  intro w1 hown hgr
  have hh1 : w1.heap[w.heap.size]? = some (.cells (repN x 16 0) 3 (0, 0)) := by
    rcases hown.2 with ⟨hv, _⟩ | ⟨g', cap, cur, hv, _, hh, _, _, hs, ht⟩
    · simp at hv
    · injection hv with v1 v2 v3
      injection v1 with v1
      injection v1 with v1
      subst v1 v3
      rw [hh]
      have e : cur = repN x 16 0 := by
        rw [List.take_of_length_le (by rw [Array.length_toList, hs]; exact Nat.le_refl _)] at ht
        have h8 := toList_madeCells_one (.int .i64 0) 16
        have hr : (repN x 16 0).toList = List.replicate 16 (Value.int .i64 0) := rfl
        apply Array.toList_inj.1
        rw [hr]
        exact ht.trans h8
      rw [e]
  have B1 : Below w.heap.size w w1 := (Below.refl _ _).grown hgr (Nat.le_refl _) (by simp)
  have hx1 : w1.cell? ⟨g, 0, none⟩ = some (.int .i64 x) := (B1.cell (p := ⟨g, 0, none⟩) hg).trans h
  obtain ⟨w2, r2, hh2, B2⟩ := repN_first w w1 w.heap.size w.heap.size g 16 x (by omega) hh1 hx1 B1 (Nat.le_refl _)
  obtain ⟨w3, r3, hh3, B3⟩ := repN_copy w w2.drew w.heap.size w.heap.size 16 1 15 1 2 1 x rfl rfl rfl rfl (by omega) (by omega) hh2 B2.drew (Nat.le_refl _)
  obtain ⟨w4, r4, hh4, B4⟩ := repN_copy w w3.drew w.heap.size w.heap.size 16 2 14 2 4 2 x rfl rfl rfl rfl (by omega) (by omega) hh3 B3.drew (Nat.le_refl _)
  obtain ⟨w5, r5, hh5, B5⟩ := repN_copy w w4.drew w.heap.size w.heap.size 16 4 12 4 8 4 x rfl rfl rfl rfl (by omega) (by omega) hh4 B4.drew (Nat.le_refl _)
  obtain ⟨w6, r6, hh6, B6⟩ := repN_copy w w5.drew w.heap.size w.heap.size 16 8 8 8 16 8 x rfl rfl rfl rfl (by omega) (by omega) hh5 B5.drew (Nat.le_refl _)
  have HH := Lib.hid hh6
  have HB := Lib.hid B6
  clear hown hgr hh1 hx1 hh2 hh3 hh4 hh5 hh6 B1 B2 B3 B4 B5 B6 HM HI HZ0 HZ1 HZ2 h
  go_wp2
  refine wp_loop_rounds 5 ?_
  rw [rounds_succ]
  go_wp2
  go_region
  all_goals go_wp2
  rw [rounds_succ]
  go_wp2
  go_region
  all_goals go_wp2
  rw [rounds_succ]
  go_wp2
  go_region
  all_goals go_wp2
  rw [rounds_succ]
  go_wp2
  go_region
  all_goals go_wp2
  rw [rounds_succ]
  go_wp2
  go_ret
  refine ⟨_, 16, rfl, ⟨rfl, .inr ⟨w.heap.size, 16, repN x 16 16, rfl, Nat.le_refl _, HH.out, Nat.le_refl _, by unfold maxLen; omega, rfl, rfl⟩⟩, HB.out⟩

theorem repeatN_any (N g : Nat) (x : Int) (w : World) (hN : N ≤ 16) (h : w.cell? ⟨g, 0, none⟩ = some (.int .i64 x)) (hg : g < w.heap.size) :
    Calls Tryz.prog 21 #[.slice (some ⟨g, 0, none⟩) 1 1, .int .i64 (N : Int)] w fun e w' => ∃ A c, e = .returned (.slice A N c) ∧ OwnK 3 .i64 w' w.heap.size A N c (List.replicate N x) ∧ Below w.heap.size w w' := by
  rcases (by omega : N = 0 ∨ N = 1 ∨ N = 2 ∨ N = 3 ∨ N = 4 ∨ N = 5 ∨ N = 6 ∨ N = 7 ∨ N = 8 ∨ N = 9 ∨ N = 10 ∨ N = 11 ∨ N = 12 ∨ N = 13 ∨ N = 14 ∨ N = 15 ∨ N = 16) with rfl | rfl | rfl | rfl | rfl | rfl | rfl | rfl | rfl | rfl | rfl | rfl | rfl | rfl | rfl | rfl | rfl
  · exact repeat_n0 g x w h hg
  · exact repeat_n1 g x w h hg
  · exact repeat_n2 g x w h hg
  · exact repeat_n3 g x w h hg
  · exact repeat_n4 g x w h hg
  · exact repeat_n5 g x w h hg
  · exact repeat_n6 g x w h hg
  · exact repeat_n7 g x w h hg
  · exact repeat_n8 g x w h hg
  · exact repeat_n9 g x w h hg
  · exact repeat_n10 g x w h hg
  · exact repeat_n11 g x w h hg
  · exact repeat_n12 g x w h hg
  · exact repeat_n13 g x w h hg
  · exact repeat_n14 g x w h hg
  · exact repeat_n15 g x w h hg
  · exact repeat_n16 g x w h hg

end Go.Proofs.YtefcaeldkdbjdaaGreat
