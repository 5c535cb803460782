/- FnLanes: NthLane and RankOf are inverse to each other, the leader has rank 0, and a ballot contains the lanes that voted true. Proved for every code. No condition. -/
import Derived.Test.YtgaphgffchifcaaDrawNth
import Derived.Test.YtgaphgffchifcaaSLane
import Derived.Test.YtgaphgffchifcaaILane
import Derived.Test.YtgaphgffchifcaaBallot
import Derived.Test.YtgaphgffchifcaaOpenY
namespace Go.Proofs.Ytgaphgffchifcaa
open Go.ChangeShapes Go.WideShapes Go.ChangeAt Go.RowKit
set_option linter.unusedVariables false

/-- The rank of the n-th lane is n. -/
theorem rank_nth {X : Nat} {N : Int} (h : 0 ≤ nthV X N) : rankV X (nthV X N) = N := by
  by_cases hc : X < 256 ∧ 0 ≤ N ∧ N < ((onesTo X 32).length : Int)
  · obtain ⟨hX, h0, h1⟩ := hc
    obtain ⟨i, rfl⟩ := Int.eq_ofNat_of_zero_le h0
    rw [nthV_in hX (by omega), rankV_at hX (by omega)]
  · have : nthV X N = -1 := if_neg hc
    omega
theorem trues_mem {bs : List Bool} {k j : Nat} : j ∈ truesTo bs k ↔ j < k ∧ bs[j]?.getD false = true := by simp [truesTo]
theorem ballot_lt (bs : List Bool) : orL (truesTo bs 8) < 256 := by
  show orL (truesTo bs 8) < 2 ^ 8
  refine Nat.lt_pow_two_of_testBit _ fun j hj => ?_
  rw [orL_bit]
  exact decide_eq_false fun e => by have := trues_lt e; omega
/-- A lane has a rank in a ballot exactly if it voted true. -/
theorem ballot_rank {bs : List Bool} {k : Nat} (hk : k < 8) : (bs[k]?.getD false = true → 0 ≤ rankV (orL (truesTo bs 8)) (k : Int)) ∧ (bs[k]?.getD false = false → rankV (orL (truesTo bs 8)) (k : Int) < 0) := by
  have hbit : (orL (truesTo bs 8)).testBit k = decide (k ∈ truesTo bs 8) := orL_bit _ _
  constructor
  · intro h
    rw [rankV_hit (ballot_lt bs) (by rw [hbit]; exact decide_eq_true (trues_mem.2 ⟨hk, h⟩))]
    omega
  · intro h
    rw [rankV_no]
    · omega
    · rintro ⟨_, _, h2⟩
      rw [Int.toNat_natCast, hbit] at h2
      have := (trues_mem.1 (of_decide_eq_true h2)).2
      rw [h] at this
      cases this

set_option maxRecDepth 100000 in
set_option maxHeartbeats 4000000 in
theorem fnLanes_walk (A : Option Addr) (n c : Nat) (bs : List Int) (w0 : World) (h : RdK .u8 w0 w0.heap.size A n bs) (hm0 : n ≤ maxLen) (hf : ∀ z ∈ bs, 0 ≤ z ∧ z < 256) :
    Calls Try.prog 3 #[.slice A n c] w0 fun e w' => e = .returned (.bool true) ∧ Below w0.heap.size w0 w' := by
  have H := Lib.hid h
  have HF := Lib.hid hf
  clear h hf
  by_cases hn' : n ≤ 1048576
  · have hn : ¬ (1048576 : Int) < (n : Int) := by omega
    go_enter Try.func3, Try.ntmps3
    go_wp2_with fail
    refine (big_any A n c w0).mono ?_
    rintro e w1 ⟨rfl, rfl⟩
    go_wp2_with fail
    refine (drawNthLane A n c bs w0 H.out HF.out hn').mono ?_
    rintro e w1 ⟨X, N, rfl, hX, _, hb1⟩
    have HB1 := Lib.hid hb1
    have z1 := hb1.size
    have HN : Hid (∀ (M : Int) W, Calls Try.prog 16 #[.int .u32 (X : Int), .int .i64 M] W fun e w' => e = .returned (.int .i64 (nthV X M)) ∧ Below W.heap.size W w') := fun M W => nthLane_any X M W hX
    have HS : Hid (∀ W, Calls Try.prog 17 #[.int .u32 (X : Int), .int .i64 N] W fun e w' => e = .returned (.int .i64 (nthV X N)) ∧ Below W.heap.size W w') := fun W => sNthLane_any X N W hX
    have HR : Hid (∀ W, Calls Try.prog 18 #[.int .u32 (X : Int), .int .i64 (nthV X N)] W fun e w' => e = .returned (.int .i64 (rankV X (nthV X N))) ∧ Below W.heap.size W w') := fun W => rankOf_any X _ W hX
    have HL : Hid (∀ W, Calls Try.prog 19 #[.int .u32 (X : Int)] W fun e w' => e = .returned (.int .i64 (nthV X 0)) ∧ Below W.heap.size W w') := fun W => leader_any X W hX
    have HRN : Hid (0 ≤ nthV X N → rankV X (nthV X N) = N) := rank_nth
    have HN0 := Lib.hid (HN.out 0)
    have HN1 := Lib.hid (HN.out N)
    clear hX hb1 HN
    generalize nthV X N = L at *
    generalize nthV X 0 = L0 at *
    generalize rankV X L = rk at *
    go_wp2_with fail
    refine (HN1.out _).mono ?_
    rintro e w2 ⟨rfl, hb2⟩
    have z2 := hb2.size
    have HB2 : Hid (Below w0.heap.size w0 w2) := HB1.out.trans (hb2.mono z1)
    clear hb2 HB1
    go_wp2_with fail
    refine (HS.out _).mono ?_
    rintro e w3 ⟨rfl, hb3⟩
    have z3 := hb3.size
    have HB3 : Hid (Below w0.heap.size w0 w3) := HB2.out.trans (hb3.mono (by omega))
    clear hb3 HB2
    by_cases hL : 0 ≤ L
    · have hrk := HRN.out hL
      subst hrk
      clear HRN
      go_wp2_with fail
      refine (HR.out _).mono ?_
      rintro e w4 ⟨rfl, hb4⟩
      have z4 := hb4.size
      have HB4 : Hid (Below w0.heap.size w0 w4) := HB3.out.trans (hb4.mono (by omega))
      clear hb4 HB3
      go_wp2_with fail
      refine (HN0.out _).mono ?_
      rintro e w5 ⟨rfl, hb5⟩
      have z5 := hb5.size
      have HB5 : Hid (Below w0.heap.size w0 w5) := HB4.out.trans (hb5.mono (by omega))
      clear hb5 HB4
      go_wp2_with fail
      refine (HL.out _).mono ?_
      rintro e w6 ⟨rfl, hb6⟩
      have HB6 : Hid (Below w0.heap.size w0 w6) := HB5.out.trans (hb6.mono (by omega))
      clear hb6 HB5 HR HN0 HL HN1 HS
      have zz := HB6.out.size
      go_wp2_with fail
      refine (drawBallot A n c bs _ (rdk_more (H.out.below HB6.out) zz) HF.out hn').mono ?_
      rintro e w7 ⟨A7, m, c7, us, rfl, hm, ho7, hb7⟩
      have O7 := Lib.hid ho7
      have z7 := hb7.size
      have HB7 : Hid (Below w0.heap.size w0 w7) := HB6.out.trans (hb7.mono zz)
      clear ho7 hb7 HB6 H HF
      by_cases hm8 : m = 8
      · subst hm8
        have HI := Lib.hid (ballot_any A7 8 c7 _ us w7 O7.out.rd)
        have HJ := Lib.hid (sBallot_any A7 8 c7 _ us w7 O7.out.rd (Nat.le_refl _))
        rw [show ballotA 8 us = orL (truesTo us 8) from rfl, show ballotB 8 = true from rfl] at HI HJ
        have hY : orL (truesTo us 8) < 4294967296 := trues_orL_lt us (by omega)
        have HRK : Hid (∀ (k : Int) W, Calls Try.prog 18 #[.int .u32 ((orL (truesTo us 8) : Nat) : Int), .int .i64 k] W fun e w' => e = .returned (.int .i64 (rankV (orL (truesTo us 8)) k)) ∧ Below W.heap.size W w') := fun k W => rankOf_any _ k W hY
        have HBR : Hid (∀ k : Nat, k < 8 → (us[k]?.getD false = true → 0 ≤ rankV (orL (truesTo us 8)) (k : Int)) ∧ (us[k]?.getD false = false → rankV (orL (truesTo us 8)) (k : Int) < 0)) := fun k hk => ballot_rank hk
        clear hY
        generalize orL (truesTo us 8) = Y at *
        obtain ⟨g, rfl, _, hg⟩ := O7.out.form (by omega)
        go_wp2_with fail
        refine HI.out.mono ?_
        rintro e w8 ⟨rfl, rfl⟩
        go_wp2_with fail
        refine HJ.out.mono ?_
        rintro e w8 ⟨rfl, hb8⟩
        have z8 := hb8.size
        have HB8 : Hid (Below w0.heap.size w0 w8) := HB7.out.trans (hb8.mono (by omega))
        have HC : Hid (∀ k, k < 8 → w8.cell? ⟨g, k, none⟩ = some (.bool (us[k]?.getD false))) := fun k hk => (hb8.cell (p := ⟨g, k, none⟩) hg).trans (O7.out.cell rfl hk)
        clear hb8 HB7 HI HJ O7
        go_wp2
        go_loopw [11] (fun i wr => ∃ k : Nat, k ≤ 8 ∧ i = .int .i64 k ∧ Hid (Below w8.heap.size w8 wr)) (fun i _ => 8 - (intOf i).toNat)
        case atStart => exact ⟨0, by omega, rfl, Below.refl _ _⟩
        case round =>
          obtain ⟨k, hk, rfl, HB⟩ := hrel
          have hsw : w8.heap.size ≤ wr.heap.size := HB.out.size
          by_cases hlt : k < 8
          · have hlt' : (k : Int) < 8 := by omega
            have cc : wr.cell? ⟨g, k, none⟩ = some (.bool (us[k]?.getD false)) := (HB.out.cell (p := ⟨g, k, none⟩) (by show g < _; omega)).trans (HC.out k hlt)
            have hbr := HBR.out k hlt
            have HRk := Lib.hid (HRK.out (k : Int))
            generalize rankV Y (k : Int) = y at *
            generalize us[k]?.getD false = u at *
            have x0 : wr.cell? ⟨g, k, none⟩ = some (.bool u) := cc
            have x0' : wr.drew.cell? ⟨g, k, none⟩ = some (.bool u) := cc
            have HX0 := Lib.hid cc
            have hgw : g < wr.heap.size := by omega
            clear cc
            have done : Hid (∀ w9, Below wr.heap.size wr w9 → Below w8.heap.size w8 w9) := fun w9 h9 => HB.out.trans (h9.mono hsw)
            have drw : Hid (Below wr.heap.size wr wr.drew) := (Below.refl _ _).drew
            have LR : Hid (Calls Try.prog 18 #[.int .u32 (Y : Int), .int .i64 (k : Int)] wr.drew fun e w' => e = .returned (.int .i64 y) ∧ Hid (Below wr.heap.size wr w') ∧ w'.cell? ⟨g, k, none⟩ = some (.bool u)) := (HRk.out wr.drew).mono fun _ w' ⟨he, hb⟩ => ⟨he, drw.out.trans hb, (hb.cell (p := ⟨g, k, none⟩) hgw).trans HX0.out⟩
            cases u with
            | true =>
              have hy : 0 ≤ y := hbr.1 rfl
              clear hbr
              go_wp2_with fail
              go_region_held3 (fun w' => w'.cell? ⟨g, k, none⟩ = some (.bool true)) (first | exact x0 | exact x0' | exact x5) (first | (go_at_call 18; refine LR.out.mono ?_; rintro e w9 ⟨rfl, b9, x5⟩))
              go_wp2
              go_roundw
              case rel => exact ⟨k + 1, by omega, by go_num, done.out _ b9.out⟩
              case measure => simp [intOf]; omega
            | false =>
              have hy : y < 0 := hbr.2 rfl
              have hy' : ¬ 0 ≤ y := by omega
              clear hbr
              go_wp2_with fail
              go_region_held3 (fun w' => w'.cell? ⟨g, k, none⟩ = some (.bool false)) (first | exact x0 | exact x0' | exact x5) (first | (go_at_call 18; refine LR.out.mono ?_; rintro e w9 ⟨rfl, b9, x5⟩))
              go_wp2
              go_roundw
              case rel => exact ⟨k + 1, by omega, by go_num, done.out _ b9.out⟩
              case measure => simp [intOf]; omega
          · obtain rfl : k = 8 := by omega
            go_wp2
            go_ret
            exact ⟨rfl, HB8.out.trans (HB.out.mono (by omega))⟩
      · have HI := Lib.hid (ballot_any A7 m c7 _ us w7 O7.out.rd)
        have HJ := Lib.hid (sBallot_any A7 m c7 _ us w7 O7.out.rd (Nat.le_refl _))
        rw [show ballotB m = false from decide_eq_false hm8] at HI HJ
        generalize ballotA m us = Y at *
        go_wp2_with fail
        refine HI.out.mono ?_
        rintro e w8 ⟨rfl, rfl⟩
        go_wp2_with fail
        refine HJ.out.mono ?_
        rintro e w8 ⟨rfl, hb8⟩
        have HB8 : Hid (Below w0.heap.size w0 w8) := HB7.out.trans (hb8.mono (by omega))
        clear hb8 HB7
        go_wp2
        go_ret
        exact ⟨rfl, HB8.out⟩
    · clear HR HN0 HL HN1 HS HRN
      have zz := HB3.out.size
      go_wp2_with fail
      refine (drawBallot A n c bs _ (rdk_more (H.out.below HB3.out) zz) HF.out hn').mono ?_
      rintro e w7 ⟨A7, m, c7, us, rfl, hm, ho7, hb7⟩
      have O7 := Lib.hid ho7
      have z7 := hb7.size
      have HB7 : Hid (Below w0.heap.size w0 w7) := HB3.out.trans (hb7.mono zz)
      clear ho7 hb7 HB3 H HF
      by_cases hm8 : m = 8
      · subst hm8
        have HI := Lib.hid (ballot_any A7 8 c7 _ us w7 O7.out.rd)
        have HJ := Lib.hid (sBallot_any A7 8 c7 _ us w7 O7.out.rd (Nat.le_refl _))
        rw [show ballotA 8 us = orL (truesTo us 8) from rfl, show ballotB 8 = true from rfl] at HI HJ
        have hY : orL (truesTo us 8) < 4294967296 := trues_orL_lt us (by omega)
        have HRK : Hid (∀ (k : Int) W, Calls Try.prog 18 #[.int .u32 ((orL (truesTo us 8) : Nat) : Int), .int .i64 k] W fun e w' => e = .returned (.int .i64 (rankV (orL (truesTo us 8)) k)) ∧ Below W.heap.size W w') := fun k W => rankOf_any _ k W hY
        have HBR : Hid (∀ k : Nat, k < 8 → (us[k]?.getD false = true → 0 ≤ rankV (orL (truesTo us 8)) (k : Int)) ∧ (us[k]?.getD false = false → rankV (orL (truesTo us 8)) (k : Int) < 0)) := fun k hk => ballot_rank hk
        clear hY
        generalize orL (truesTo us 8) = Y at *
        obtain ⟨g, rfl, _, hg⟩ := O7.out.form (by omega)
        go_wp2_with fail
        refine HI.out.mono ?_
        rintro e w8 ⟨rfl, rfl⟩
        go_wp2_with fail
        refine HJ.out.mono ?_
        rintro e w8 ⟨rfl, hb8⟩
        have z8 := hb8.size
        have HB8 : Hid (Below w0.heap.size w0 w8) := HB7.out.trans (hb8.mono (by omega))
        have HC : Hid (∀ k, k < 8 → w8.cell? ⟨g, k, none⟩ = some (.bool (us[k]?.getD false))) := fun k hk => (hb8.cell (p := ⟨g, k, none⟩) hg).trans (O7.out.cell rfl hk)
        clear hb8 HB7 HI HJ O7
        go_wp2
        go_loopw [11] (fun i wr => ∃ k : Nat, k ≤ 8 ∧ i = .int .i64 k ∧ Hid (Below w8.heap.size w8 wr)) (fun i _ => 8 - (intOf i).toNat)
        case atStart => exact ⟨0, by omega, rfl, Below.refl _ _⟩
        case round =>
          obtain ⟨k, hk, rfl, HB⟩ := hrel
          have hsw : w8.heap.size ≤ wr.heap.size := HB.out.size
          by_cases hlt : k < 8
          · have hlt' : (k : Int) < 8 := by omega
            have cc : wr.cell? ⟨g, k, none⟩ = some (.bool (us[k]?.getD false)) := (HB.out.cell (p := ⟨g, k, none⟩) (by show g < _; omega)).trans (HC.out k hlt)
            have hbr := HBR.out k hlt
            have HRk := Lib.hid (HRK.out (k : Int))
            generalize rankV Y (k : Int) = y at *
            generalize us[k]?.getD false = u at *
            have x0 : wr.cell? ⟨g, k, none⟩ = some (.bool u) := cc
            have x0' : wr.drew.cell? ⟨g, k, none⟩ = some (.bool u) := cc
            have HX0 := Lib.hid cc
            have hgw : g < wr.heap.size := by omega
            clear cc
            have done : Hid (∀ w9, Below wr.heap.size wr w9 → Below w8.heap.size w8 w9) := fun w9 h9 => HB.out.trans (h9.mono hsw)
            have drw : Hid (Below wr.heap.size wr wr.drew) := (Below.refl _ _).drew
            have LR : Hid (Calls Try.prog 18 #[.int .u32 (Y : Int), .int .i64 (k : Int)] wr.drew fun e w' => e = .returned (.int .i64 y) ∧ Hid (Below wr.heap.size wr w') ∧ w'.cell? ⟨g, k, none⟩ = some (.bool u)) := (HRk.out wr.drew).mono fun _ w' ⟨he, hb⟩ => ⟨he, drw.out.trans hb, (hb.cell (p := ⟨g, k, none⟩) hgw).trans HX0.out⟩
            cases u with
            | true =>
              have hy : 0 ≤ y := hbr.1 rfl
              clear hbr
              go_wp2_with fail
              go_region_held3 (fun w' => w'.cell? ⟨g, k, none⟩ = some (.bool true)) (first | exact x0 | exact x0' | exact x5) (first | (go_at_call 18; refine LR.out.mono ?_; rintro e w9 ⟨rfl, b9, x5⟩))
              go_wp2
              go_roundw
              case rel => exact ⟨k + 1, by omega, by go_num, done.out _ b9.out⟩
              case measure => simp [intOf]; omega
            | false =>
              have hy : y < 0 := hbr.2 rfl
              have hy' : ¬ 0 ≤ y := by omega
              clear hbr
              go_wp2_with fail
              go_region_held3 (fun w' => w'.cell? ⟨g, k, none⟩ = some (.bool false)) (first | exact x0 | exact x0' | exact x5) (first | (go_at_call 18; refine LR.out.mono ?_; rintro e w9 ⟨rfl, b9, x5⟩))
              go_wp2
              go_roundw
              case rel => exact ⟨k + 1, by omega, by go_num, done.out _ b9.out⟩
              case measure => simp [intOf]; omega
          · obtain rfl : k = 8 := by omega
            go_wp2
            go_ret
            exact ⟨rfl, HB8.out.trans (HB.out.mono (by omega))⟩
      · have HI := Lib.hid (ballot_any A7 m c7 _ us w7 O7.out.rd)
        have HJ := Lib.hid (sBallot_any A7 m c7 _ us w7 O7.out.rd (Nat.le_refl _))
        rw [show ballotB m = false from decide_eq_false hm8] at HI HJ
        generalize ballotA m us = Y at *
        go_wp2_with fail
        refine HI.out.mono ?_
        rintro e w8 ⟨rfl, rfl⟩
        go_wp2_with fail
        refine HJ.out.mono ?_
        rintro e w8 ⟨rfl, hb8⟩
        have HB8 : Hid (Below w0.heap.size w0 w8) := HB7.out.trans (hb8.mono (by omega))
        clear hb8 HB7
        go_wp2
        go_ret
        exact ⟨rfl, HB8.out⟩
  · have hn : (1048576 : Int) < (n : Int) := by omega
    clear H HF
    go_enter Try.func3, Try.ntmps3
    go_wp2_with fail
    refine (big_any A n c w0).mono ?_
    rintro e w1 ⟨rfl, rfl⟩
    go_wp2
    go_ret
    exact ⟨rfl, Below.refl _ _⟩

set_option maxRecDepth 100000 in
theorem fnLanes_lifted (os : Os) (started : os.Started) (H : Type) (enc : TypeId × Value → H) :
    ReturnsInHanded {} Try.checked os 3 .any (Rows.fnLanesSpec.pre6 enc Try.prog Try.f3 Rows.fnLanesRow.domain false) (Rows.fnLanesSpec.post enc Try.prog Try.f3 false true false false) := by
  refine returnsInHanded_of_change (C := Try.checked) own started (by kernel_rfl) Try.func3
    (ChangeSpec.witness6 (enc := enc) (C := Try.checked) false ⟨#[], #[.slice none 0 0], []⟩ 8 (by kernel_rfl) (by kernel_rfl) (by kernel_rfl) (by kernel_rfl)) ?_
  intro W base args ds gs before hval0 hW hcnd _
  have hval : ∀ (j : Nat) t v, Try.f3.params[j]? = some t → args[j]? = some v → Value.okWide Try.prog W .any base t v := hval0
  have hW' := hW
  obtain ⟨p, q, hA0, hV, rfl, hfz, hnd⟩ := hW
  have hA : DataW.TrodAll enc Try.prog W 0 (fun _ => true) true Try.f3.params.toList args.toList ds p := hA0
  rw [Try.params3] at hA hval
  obtain ⟨v0, vs0, d0, ds0, p0, q0, hargs, rfl, rfl, h0, r0⟩ := trodAll_cons hA
  obtain ⟨rfl, rfl, rfl⟩ := trodAll_nil r0
  obtain rfl : args = #[v0] := by cases args; simp_all
  obtain ⟨rfl, rfl⟩ := trodVars_none hV
  have k0 := h0
  have lt0 : ∀ x ∈ p0, x.block < W.heap.size := by obtain ⟨m, hm⟩ := k0; exact DataW.trod_lt m _ _ _ hm
  obtain ⟨A0, n0, c0, z0, rfl, m0, rd0, f0⟩ := open_bytes (hval 0 22 v0 rfl rfl) h0
  clear hA0 hval0
  refine (fnLanes_walk A0 n0 c0 z0 W rd0 m0 f0).mono fun e W' ⟨he, bel⟩ => ?_
  subst he
  exact ⟨_, rfl, _, _, _, [], _, [], hW', trodAll_mk1 (shut_bool Try.underlying4 _), (trodAll_cons_mk (Below.trod laidOut (by kernel_rfl) (of_decide_eq_true (by kernel_rfl)) k0 bel lt0) (trodAll_mk0)), rfl, bel.frame _, fun h => by cases h⟩

/-- The given statement: for every input the law returns true, and its arguments read as before. -/
theorem fnLanes_holds : Rows.FnLanesSaid :=
  OpenClaim.holds_of_wide 3 Try.f3 rfl rfl rfl rfl rfl rfl rfl ⟨rfl, rfl, rfl, rfl, rfl⟩ rfl rfl rfl rfl rfl (by kernel_rfl) Try.func3 (by kernel_rfl)
    (of_decide_eq_true (by kernel_rfl)) (by unfold Func.isWrapper; first | (rw [if_pos (by decide +kernel)]; kernel_rfl) | (rw [if_neg (by decide +kernel)]; exact ⟨rfl, rfl⟩))
    (fun os started H enc _ => fnLanes_lifted os started H enc)
#print axioms fnLanes_holds
end Go.Proofs.Ytgaphgffchifcaa
