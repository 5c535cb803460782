/- The contracts of the program's Groups and GroupOf at every argument. -/
import Derived.Test.YtgaphgffchifcaaIGrpM
import Derived.Test.YtgaphgffchifcaaSGrpG
namespace Go.Proofs.Ytgaphgffchifcaa
open Go.RowKit Go.Shelf

attribute [local go_sem] Oper.semAt_some

set_option maxRecDepth 100000 in
set_option maxHeartbeats 1000000 in
theorem grp_zero (F : Fence) (n : Nat) (A : Option Addr) (c B : Nat) (v0 v1 v2 v3 v4 v5 v6 v7 : Int) (w : World) (h : RdK .i64 w B A 8 [v0, v1, v2, v3, v4, v5, v6, v7]) (hB : B ≤ w.heap.size) (h0 : F.fn 24) (hrw : F.fn 63) (hf : F.fn 53) (hm : F.fn 59) (hg : F.fn 72) (hl : F.fn 19) (ht : F.fn 16) (hr : F.fn 18) (hh : F.fn 57) (ho : F.fn 58) (h5 : F.fn 54) (h6 : F.fn 70) (hfi : F.fn 64) (hgr : F.fn 65) (hro : F.round = none) (hn : 12 ≤ n) :
    CallsIn F n Try.prog 24 #[.slice A 8 c, .int .u32 ((0 : Nat) : Int)] w fun e w' => e = .returned (.slice none 0 0) ∧ Below w.heap.size w w' := by
  have hX32 : 0 < 4294967296 := by omega
  have HM : Hid (∀ W, CallsIn F (n - 1) Try.prog 53 #[.int .u32 ((0 : Nat) : Int)] W fun e w' => e = .returned (.bool (decide (0 < 256))) ∧ W = w') := fun W => isMask_in F (n - 1) 0 W hX32 hf hm hg (by omega) hro
  rw [decide_eq_true (by decide)] at HM
  have HR := Lib.hid (rowOf_in F (n - 1) hrw hro A c B v0 v1 v2 v3 v4 v5 v6 v7 w h hB)
  have h1 : 1 ≤ n := by omega
  clear h
  refine callsIn_of_wp Try.func24 rfl h0 ?_ hro
  simp only [Try.ntmps24, List.size_toArray, List.length_cons, List.length_nil, Nat.reduceAdd, Nat.reduceSub, Array.replicate_succ, Array.replicate_zero, List.push_toArray, List.append_toArray, List.nil_append, List.cons_append]
  gi_wp2_with (first | (gi_at_call 63; refine HR.out.mono ?_; rintro e w' ⟨rfl, rfl⟩) | (gi_at_call 53; refine (HM.out _).mono ?_; rintro e w' ⟨rfl, rfl⟩))
  go_ret
  exact ⟨rfl, ((Below.refl _ w).alloc (Nat.le_refl _) _).alloc (by simp) _⟩

set_option maxRecDepth 100000 in
set_option maxHeartbeats 1000000 in
theorem grp_nomask (F : Fence) (n : Nat) (A : Option Addr) (c B X : Nat) (v0 v1 v2 v3 v4 v5 v6 v7 : Int) (w : World) (h : RdK .i64 w B A 8 [v0, v1, v2, v3, v4, v5, v6, v7]) (hB : B ≤ w.heap.size) (hX : ¬ X < 256) (hX32 : X < 4294967296) (h0 : F.fn 24) (hrw : F.fn 63) (hf : F.fn 53) (hm : F.fn 59) (hg : F.fn 72) (hl : F.fn 19) (ht : F.fn 16) (hr : F.fn 18) (hh : F.fn 57) (ho : F.fn 58) (h5 : F.fn 54) (h6 : F.fn 70) (hfi : F.fn 64) (hgr : F.fn 65) (hro : F.round = none) (hn : 12 ≤ n) :
    CallsIn F n Try.prog 24 #[.slice A 8 c, .int .u32 (X : Int)] w fun e w' => e = .returned (.slice none 0 0) ∧ Below w.heap.size w w' := by
  have HM : Hid (∀ W, CallsIn F (n - 1) Try.prog 53 #[.int .u32 (X : Int)] W fun e w' => e = .returned (.bool (decide (X < 256))) ∧ W = w') := fun W => isMask_in F (n - 1) X W hX32 hf hm hg (by omega) hro
  rw [decide_eq_false hX] at HM
  have HR := Lib.hid (rowOf_in F (n - 1) hrw hro A c B v0 v1 v2 v3 v4 v5 v6 v7 w h hB)
  have h1 : 1 ≤ n := by omega
  clear h hX hX32
  refine callsIn_of_wp Try.func24 rfl h0 ?_ hro
  simp only [Try.ntmps24, List.size_toArray, List.length_cons, List.length_nil, Nat.reduceAdd, Nat.reduceSub, Array.replicate_succ, Array.replicate_zero, List.push_toArray, List.append_toArray, List.nil_append, List.cons_append]
  gi_wp2_with (first | (gi_at_call 63; refine HR.out.mono ?_; rintro e w' ⟨rfl, rfl⟩) | (gi_at_call 53; refine (HM.out _).mono ?_; rintro e w' ⟨rfl, rfl⟩))
  go_ret
  exact ⟨rfl, ((Below.refl _ w).alloc (Nat.le_refl _) _).alloc (by simp) _⟩

set_option maxRecDepth 100000 in
set_option maxHeartbeats 1000000 in
theorem grp_norow (F : Fence) (n : Nat) (A : Option Addr) (m c X : Nat) (w : World) (hm8 : ¬ m = 8) (h0 : F.fn 24) (hrw : F.fn 63) (hf : F.fn 53) (hm : F.fn 59) (hg : F.fn 72) (hl : F.fn 19) (ht : F.fn 16) (hr : F.fn 18) (hh : F.fn 57) (ho : F.fn 58) (h5 : F.fn 54) (h6 : F.fn 70) (hfi : F.fn 64) (hgr : F.fn 65) (hro : F.round = none) (hn : 12 ≤ n) :
    CallsIn F n Try.prog 24 #[.slice A m c, .int .u32 (X : Int)] w fun e w' => e = .returned (.slice none 0 0) ∧ Below w.heap.size w w' := by
  have HR := Lib.hid (rowOf_no F (n - 1) hrw hro A m c w hm8)
  have h1 : 1 ≤ n := by omega
  clear hm8
  refine callsIn_of_wp Try.func24 rfl h0 ?_ hro
  simp only [Try.ntmps24, List.size_toArray, List.length_cons, List.length_nil, Nat.reduceAdd, Nat.reduceSub, Array.replicate_succ, Array.replicate_zero, List.push_toArray, List.append_toArray, List.nil_append, List.cons_append]
  gi_wp2_with (first | (gi_at_call 63; refine HR.out.mono ?_; rintro e w' ⟨rfl, rfl⟩))
  go_ret
  exact ⟨rfl, ((Below.refl _ w).alloc (Nat.le_refl _) _).alloc (by simp) _⟩

theorem iGroups_in (F : Fence) (n : Nat) (A : Option Addr) (m c B X : Nat) (zs : List Int) (w : World) (h : RdK .i64 w B A m zs) (hB : B ≤ w.heap.size) (hX : X < 4294967296) (hv : ∀ z ∈ zs, -9223372036854775808 ≤ z ∧ z < 9223372036854775808) (h0 : F.fn 24) (hrw : F.fn 63) (hf : F.fn 53) (hm : F.fn 59) (hg : F.fn 72) (hl : F.fn 19) (ht : F.fn 16) (hr : F.fn 18) (hh : F.fn 57) (ho : F.fn 58) (h5 : F.fn 54) (h6 : F.fn 70) (hfi : F.fn 64) (hgr : F.fn 65) (hro : F.round = none) (hn : 12 ≤ n) :
    CallsIn F n Try.prog 24 #[.slice A m c, .int .u32 (X : Int)] w fun e w' => ∃ A' c', e = .returned (.slice A' (groupsV m X zs).length c') ∧ OwnK 24 .u32 w' w.heap.size A' (groupsV m X zs).length c' (ints (groupsV m X zs)) ∧ Below w.heap.size w w' := by
  by_cases hm8 : m = 8
  · subst hm8
    obtain ⟨v0, v1, v2, v3, v4, v5, v6, v7, rfl⟩ := eight h.1
    by_cases hx : X < 256
    · have e : groupsV 8 X [v0, v1, v2, v3, v4, v5, v6, v7] = groupsL [v0, v1, v2, v3, v4, v5, v6, v7] (onesTo X 32) := if_pos ⟨rfl, hx⟩
      rw [e]
      by_cases h0X : X = 0
      · subst h0X
        have e2 : groupsL [v0, v1, v2, v3, v4, v5, v6, v7] (onesTo 0 32) = [] := by
          have : onesTo 0 32 = [] := by decide
          rw [this]; rfl
        rw [e2]
        exact (grp_zero F n A c B v0 v1 v2 v3 v4 v5 v6 v7 w h hB h0 hrw hf hm hg hl ht hr hh ho h5 h6 hfi hgr hro hn).mono fun _ _ ⟨h1, h2⟩ => ⟨none, 0, h1, World.ownsRow_nil _ _ _ _, h2⟩
      · obtain ⟨k0, hk0, hlead⟩ := lead_first hx h0X
        by_cases hc : fillL (at0 [v0, v1, v2, v3, v4, v5, v6, v7] k0) [v0, v1, v2, v3, v4, v5, v6, v7] (onesTo X 32) = [v0, v1, v2, v3, v4, v5, v6, v7]
        · exact grp_same_in F n A c B X v0 v1 v2 v3 v4 v5 v6 v7 w h hB hx h0X k0 hk0 hlead hc h0 hrw hf hm hg hl ht hr hh ho h5 h6 hfi hgr hro hn
        · exact grp_many_in F n A c B X v0 v1 v2 v3 v4 v5 v6 v7 w h hB hx h0X hv k0 hk0 hlead hc h0 hrw hf hm hg hl ht hr hh ho h5 h6 hfi hgr hro hn
    · have e : groupsV 8 X [v0, v1, v2, v3, v4, v5, v6, v7] = [] := if_neg fun e => hx e.2
      rw [e]
      exact (grp_nomask F n A c B X v0 v1 v2 v3 v4 v5 v6 v7 w h hB hx hX h0 hrw hf hm hg hl ht hr hh ho h5 h6 hfi hgr hro hn).mono fun _ _ ⟨h1, h2⟩ => ⟨none, 0, h1, World.ownsRow_nil _ _ _ _, h2⟩
  · have e : groupsV m X zs = [] := if_neg fun e => hm8 e.1
    rw [e]
    exact (grp_norow F n A m c X w hm8 h0 hrw hf hm hg hl ht hr hh ho h5 h6 hfi hgr hro hn).mono fun _ _ ⟨h1, h2⟩ => ⟨none, 0, h1, World.ownsRow_nil _ _ _ _, h2⟩

theorem iGroups_any (A : Option Addr) (m c B X : Nat) (zs : List Int) (w : World) (h : RdK .i64 w B A m zs) (hB : B ≤ w.heap.size) (hX : X < 4294967296) (hv : ∀ z ∈ zs, -9223372036854775808 ≤ z ∧ z < 9223372036854775808) :
    Calls Try.prog 24 #[.slice A m c, .int .u32 (X : Int)] w fun e w' => ∃ A' c', e = .returned (.slice A' (groupsV m X zs).length c') ∧ OwnK 24 .u32 w' w.heap.size A' (groupsV m X zs).length c' (ints (groupsV m X zs)) ∧ Below w.heap.size w w' :=
  (callsIn_wide (n := 12)).1 (iGroups_in Fence.wide 12 A m c B X zs w h hB hX hv trivial trivial trivial trivial trivial trivial trivial trivial trivial trivial trivial trivial trivial trivial rfl (Nat.le_refl _))

theorem groupsV_len (n X : Nat) (zs : List Int) : (groupsV n X zs).length ≤ 32 := by
  unfold groupsV
  split
  · exact Nat.le_trans (groupsL_len _ _) (onesTo_len X 32)
  · simp

set_option maxRecDepth 100000 in
set_option maxHeartbeats 1000000 in
theorem iGroupOf_any (A : Option Addr) (m c B X : Nat) (zs : List Int) (w : World) (h : RdK .i64 w B A m zs) (hB : B ≤ w.heap.size) (hX : X < 4294967296) (hv : ∀ z ∈ zs, -9223372036854775808 ≤ z ∧ z < 9223372036854775808) :
    Calls Try.prog 26 #[.slice A m c, .int .u32 (X : Int)] w fun e w' => e = .returned (.int .u32 (groupOfV m X zs : Int)) ∧ Below w.heap.size w w' := by
  have HI := Lib.hid (iGroups_any A m c B X zs w h hB hX hv)
  have hl := groupsV_len m X zs
  unfold groupOfV
  clear h hX hv
  generalize groupsV m X zs = r at *
  cases r with
  | nil =>
    clear hl
    go_enter Try.func26, Try.ntmps26
    go_wp2_with fail
    refine HI.out.mono ?_
    rintro e w1 ⟨A1, c1, rfl, ho, hb⟩
    have HB1 := Lib.hid hb
    clear ho hb
    go_wp2
    go_ret
    exact ⟨rfl, HB1.out⟩
  | cons g t =>
    obtain ⟨k, hk⟩ : ∃ k, (g :: t).length = k := ⟨_, rfl⟩
    have hk0 : 0 < k := by rw [← hk]; simp
    have hk0' : (0 : Int) < (k : Int) := by omega
    rw [hk] at HI hl
    clear hk
    go_enter Try.func26, Try.ntmps26
    go_wp2_with fail
    refine HI.out.mono ?_
    rintro e w1 ⟨A1, c1, rfl, ho, hb⟩
    obtain ⟨gg, rfl, _, _⟩ := ho.form hk0
    have c0 := ho.cell rfl hk0
    have e0 : (ints (g :: t))[0]?.getD 0 = (g : Int) := rfl
    rw [e0] at c0
    have HB1 := Lib.hid hb
    have hk1 : ((k : Int) == 0) = false := by simp; omega
    clear ho hb e0
    go_wp2
    go_ret
    exact ⟨rfl, HB1.out⟩

end Go.Proofs.Ytgaphgffchifcaa
