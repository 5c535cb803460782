/- FnLive: a block that was added is found at each of its words and cut again, which restores the list; it is not added twice; what is free and what is live are all words. Proved for every code. No condition. -/
import Derived.Test.YtlaegdfaaoaiaaaLiveG
import Derived.Test.YtlaegdfaaoaiaaaSameP
import Derived.Test.YtlaegdfaaoaiaaaPick3
import Derived.Test.YtlaegdfaaoaiaaaDAdd
import Derived.Test.YtlaegdfaaoaiaaaILiveAdd
import Derived.Test.YtlaegdfaaoaiaaaSLiveAdd
import Derived.Test.YtlaegdfaaoaiaaaILiveCut
import Derived.Test.YtlaegdfaaoaiaaaILiveFind
import Derived.Test.YtlaegdfaaoaiaaaILiveFree
import Derived.Test.YtlaegdfaaoaiaaaILiveSum
import Derived.Test.YtlaegdfaaoaiaaaSLiveSum
import Derived.Test.YtlaegdfaaoaiaaaOpenY
import Derived.Deep.DeepCutAuto
import Derived.Deep.RegionHeld3
namespace Go.Proofs.Ytlaegdfaaoaiaaa
open Go.ChangeShapes Go.WideShapes Go.ChangeAt Go.RowKit
set_option linter.unusedVariables false

theorem own_cap {w : World} {b0 n c : Nat} {a : Addr} {ps : List (Int × Int)} (h : OwnP w b0 (some a) n c ps) : n ≤ c ∧ c ≤ maxLen := by
  rcases h.2 with ⟨hv, _⟩ | ⟨g, cap, cur, hv, _, _, h1, h2, _⟩
  · injection hv with h0; cases h0
  · injection hv with _ _ h3
    omega
theorem addOk_parts {ps : List (Int × Int)} {z : Int} {b : Int × Int} (h : addOk ps z b = true) : liveOkV ps z = true ∧ liveOkV (insV ps b) z = true ∧ addR ps z b = insV ps b := by
  have h' := h
  unfold addOk at h'
  rw [Bool.and_eq_true] at h'
  exact ⟨h'.1, h'.2, if_pos h⟩
theorem wfP_ok {ps : List (Int × Int)} {z : Int} (h : liveOkV ps z = true) : WfP ps := fun p hp => by
  have := live_mem h p hp
  have := (liveOkV_z h).1
  omega
/-- All that the law needs of the list with the block added. -/
theorem live_law {ps : List (Int × Int)} {z x y : Int} (h : addOk ps z (x, y) = true) : ∃ r : List (Int × Int), addR ps z (x, y) = r ∧ liveOkV r z = true ∧ r.length = ps.length + 1 ∧ r.length ≤ 300 ∧ WfP r ∧ (0 ≤ x ∧ 1 ≤ y ∧ x + y ≤ z ∧ z ≤ 256) ∧ (∀ a, x ≤ a → a < x + y → findV r z a = some (x, y)) ∧ (cutR r z x = ps ∧ cutS r z x = y ∧ (cutV r z x).isSome = true) ∧ addOk r z (x, y) = false ∧ liveSumV r z = liveSumV ps z + y ∧ 0 ≤ liveSumV ps z ∧ liveSumV ps z ≤ 256 := by
  obtain ⟨h1, h2, h3⟩ := addOk_parts h
  have hm := live_mem h2 (x, y) (insV_mem ps (x, y))
  have hz := (liveOkV_z h2).1
  refine ⟨insV ps (x, y), h3, h2, insV_len ps _, hz.2.2, wfP_ok h2, ⟨hm.1, hm.2.1, hm.2.2, hz.2.1⟩, fun a a1 a2 => found_ins h2 a1 a2, cutR_ins h2, ?_, sum_ins h1 h2, ?_⟩
  · unfold addOk
    rw [add_twice (insV_mem ps (x, y)), Bool.and_false]
  · have := live_sum h1 ps.length
    unfold liveSumV
    rw [if_pos h1]
    exact this

set_option maxRecDepth 100000 in
set_option maxHeartbeats 8000000 in
theorem fnLive_walk (A : Option Addr) (n c : Nat) (bs : List Int) (w0 : World) (h : RdK .u8 w0 w0.heap.size A n bs) (hm0 : n ≤ maxLen) (hf : ∀ z ∈ bs, 0 ≤ z ∧ z < 256) :
    Calls Try.prog 3 #[.slice A n c] w0 fun e w' => e = .returned (.bool true) ∧ Below w0.heap.size w0 w' := by
  have H := Lib.hid h
  have HF := Lib.hid hf
  clear h hf
  by_cases hn' : n ≤ 1048576
  · have hn : ¬ (1048576 : Int) < (n : Int) := by omega
    have HN := Lib.hid hn'
    go_enter Try.func3, Try.ntmps3
    go_wp2_with fail
    refine (big_any A n c w0).mono ?_
    rintro e w1 ⟨rfl, rfl⟩
    go_wp2_with fail
    refine (drawLiveAdd A n c bs w0 H.out HF.out hn').mono ?_
    rintro e w1 ⟨g, m, cm, ps, z, x, y, rfl, hm, ho, HW, HZ, HB2, hb1⟩
    have hg := (ho.range g rfl).2
    have z1 := hb1.size
    have HCM := Lib.hid (own_cap ho)
    have HLN := Lib.hid ho.len
    have BV := Lib.hid (BlkAt.new w1 x y)
    have B2 := Lib.hid (hb1.alloc z1 (.cells #[.int .i64 x, .int .i64 y] 26))
    have O2 := Lib.hid (ho.alloc (.cells #[.int .i64 x, .int .i64 y] 26))
    have hsz : w1.heap.size < (w1.alloc (.cells #[.int .i64 x, .int .i64 y] 26)).heap.size := by simp
    clear ho hb1 hn hn' hm0
    go_wp2_with fail
    obtain ⟨v0, hv⟩ : ∃ u, u = w1.alloc (.cells #[.int .i64 x, .int .i64 y] 26) := ⟨_, rfl⟩
    rw [← hv] at BV B2 O2 hsz ⊢
    clear hv
    obtain ⟨bb, hbb⟩ : ∃ u, u = w1.heap.size := ⟨_, rfl⟩
    rw [← hbb] at BV hsz hg z1 ⊢
    clear hbb
    have hgv : g < v0.heap.size := by omega
    have HSI : Hid (∀ r k q, r = addR ps z (x, y) → k = r.length → q = addOk ps z (x, y) → (∀ W, Below v0.heap.size v0 W → Calls Try.prog 12 #[.slice (some ⟨g, 0, none⟩) m cm, .int .i64 z, .agg #[.int .i64 x, .int .i64 y]] W fun e w' => ∃ A' c', e = .returned (.tuple #[.slice A' k c', .bool q]) ∧ OwnP w' W.heap.size A' k c' r ∧ Below W.heap.size W w') ∧ (∀ W, Below v0.heap.size v0 W → Calls Try.prog 13 #[.slice (some ⟨g, 0, none⟩) m cm, .int .i64 z, .agg #[.int .i64 x, .int .i64 y]] W fun e w' => ∃ A' c', e = .returned (.tuple #[.slice A' k c', .bool q]) ∧ OwnP w' W.heap.size A' k c' r ∧ Below W.heap.size W w')) := fun r k q hr hk hq => ⟨fun W hW => by subst hk hr hq; exact sLiveAdd_any g m cm _ ps z x y W (O2.out.below hW).rd (Nat.le_refl _) (by unfold maxLen; omega) HW.out HB2.out (by have := hW.size; omega) HCM.out.1 HCM.out.2, fun W hW => by subst hk hr hq; exact liveAdd_any _ m cm _ ps z x y W (O2.out.below hW).rd (Nat.le_refl _) (by unfold maxLen; omega) HW.out HB2.out⟩
    have HLEN := Lib.hid (addR_len ps z (x, y))
    cases hq : addOk ps z (x, y)
    · obtain ⟨r, hr⟩ : ∃ r, r = addR ps z (x, y) := ⟨_, rfl⟩
      obtain ⟨k, hk⟩ : ∃ k, k = r.length := ⟨_, rfl⟩
      have HS := Lib.hid (HSI.out r k false hr hk hq.symm).1
      have HI := Lib.hid (HSI.out r k false hr hk hq.symm).2
      have hk3 : k ≤ 300 := by rw [hk, hr]; exact HLEN.out
      clear HSI hr hk hq HLEN
      refine (HS.out v0 (Below.refl _ _)).mono ?_
      rintro e w2 ⟨A1, c1, rfl, ho1, hb2⟩
      have BV2 := Lib.hid (BV.out.below hb2)
      have b20 := BV2.out.cell0
      have b21 := BV2.out.cell1
      have B3 := Lib.hid hb2
      have O1 := Lib.hid ho1
      clear ho1 hb2
      go_wp2_with fail
      refine (HI.out w2 B3.out).mono ?_
      rintro e w3 ⟨A2, c2, rfl, ho2, hb3⟩
      have B4 := Lib.hid (B3.out.trans (hb3.mono B3.out.size))
      have BV3 := Lib.hid (BV2.out.below hb3)
      have O1b := Lib.hid (O1.out.below hb3)
      have O3 := Lib.hid ho2
      have z2 := B3.out.size
      have z3 := hb3.size
      clear ho2 hb3 b20 b21 BV2 O1 B3 HS HI
      have HE := Lib.hid (fun j => samP_any A2 A1 k k c2 c1 _ _ r r (w3.drewN j) (show RdP (w3.drewN j) _ _ _ _ from O3.out.rd) (show RdP (w3.drewN j) _ _ _ _ from O1b.out.rd) (by unfold maxLen; omega) (by unfold maxLen; omega))
      rw [decide_eq_true rfl] at HE
      go_wp2_with fail
      refine (HE.out 0).mono ?_
      rintro e w4 ⟨rfl, q4, rfl⟩
      go_wp2_with fail
      refine (HE.out _).mono ?_
      rintro e w5 ⟨rfl, q5, rfl⟩
      go_wp2
      go_ret
      have B5 := B2.out.trans (B4.out.mono (by have := B2.out.size; omega))
      exact ⟨rfl, ⟨B5.os, B5.tape, B5.output, B5.size, B5.block⟩⟩
    · obtain ⟨r, hr, hok, hrl, hr3, hrw, ⟨x0, y0, xy, z256⟩, hfind, ⟨hc1, hc2, hc3⟩, htw, hsum, s0, s1⟩ := live_law hq
      obtain ⟨k, hk⟩ : ∃ k, k = r.length := ⟨_, rfl⟩
      have HS := Lib.hid (HSI.out r k true hr.symm hk hq.symm).1
      have HI := Lib.hid (HSI.out r k true hr.symm hk hq.symm).2
      have hk3 : k ≤ 300 := by omega
      have hkp : 0 < k := by omega
      have HHR := Lib.hid (show liveOkV r z = true ∧ WfP r ∧ (∀ a, x ≤ a → a < x + y → findV r z a = some (x, y)) ∧ (cutR r z x = ps ∧ cutS r z x = y ∧ (cutV r z x).isSome = true) ∧ addOk r z (x, y) = false ∧ liveSumV r z = liveSumV ps z + y from ⟨hok, hrw, hfind, ⟨hc1, hc2, hc3⟩, htw, hsum⟩)
      clear HSI hr hk hq HLEN hok hrl hr3 hrw hfind hc1 hc2 hc3 htw hsum
      refine (HS.out v0 (Below.refl _ _)).mono ?_
      rintro e w2 ⟨A1, c1, rfl, ho1, hb2⟩
      have BV2 := Lib.hid (BV.out.below hb2)
      have b20 := BV2.out.cell0
      have b21 := BV2.out.cell1
      have B3 := Lib.hid hb2
      have O1 := Lib.hid ho1
      clear ho1 hb2
      go_wp2_with fail
      refine (HI.out w2 B3.out).mono ?_
      rintro e w3 ⟨A2, c2, rfl, ho2, hb3⟩
      have B4 := Lib.hid (B3.out.trans (hb3.mono B3.out.size))
      have BV3 := Lib.hid (BV2.out.below hb3)
      have O1b := Lib.hid (O1.out.below hb3)
      have O3 := Lib.hid ho2
      have z2 := B3.out.size
      have z3 := hb3.size
      clear ho2 hb3 b20 b21 BV2 O1 B3 HS HI
      have HE := Lib.hid (fun j => samP_any A2 A1 k k c2 c1 _ _ r r (w3.drewN j) (show RdP (w3.drewN j) _ _ _ _ from O3.out.rd) (show RdP (w3.drewN j) _ _ _ _ from O1b.out.rd) (by unfold maxLen; omega) (by unfold maxLen; omega))
      rw [decide_eq_true rfl] at HE
      go_wp2_with fail
      refine (HE.out 0).mono ?_
      rintro e w4 ⟨rfl, q4, hw4⟩
      have O4 : Hid (OwnP w4 w2.heap.size A2 k c2 r) := by rw [hw4]; exact O3.out
      have B5 : Hid (Below v0.heap.size v0 w4) := by rw [hw4]; exact ⟨B4.out.os, B4.out.tape, B4.out.output, B4.out.size, B4.out.block⟩
      have BV4 : Hid (BlkAt w4 bb x y) := by rw [hw4]; exact BV3.out
      have z4 : w3.heap.size ≤ w4.heap.size := by rw [hw4]; exact Nat.le_refl _
      clear HE O1b O3 B4 BV3 hw4
      obtain ⟨g2, rfl, hg2, hg2b⟩ := O4.out.form hkp
      obtain ⟨yn, rfl⟩ : ∃ yn : Nat, y = (yn : Int) := ⟨y.toNat, by omega⟩
      have B6 := Lib.hid (B2.out.trans (B5.out.mono B2.out.size))
      have O5 := Lib.hid (O2.out.below B5.out)
      have zz := B6.out.size
      clear O2 B5 BV
      -- the contracts from here on
      have CP : Hid (∀ W', Below w4.heap.size w4 W' → Calls Try.prog 16 #[.slice A n c, .int .i64 3, .int .i64 (yn : Int)] W' fun e w' => ∃ rr : Nat, e = .returned (.int .i64 (rr : Int)) ∧ rr < yn ∧ W' = w') := fun W' hb => pick3_any A n c w0.heap.size bs yn W' (H.out.below (B6.out.trans (hb.mono zz))) HF.out HN.out (by omega) (by omega)
      have CF : Hid (∀ a W', x ≤ a → a < x + (yn : Int) → Below w4.heap.size w4 W' → Calls Try.prog 15 #[.slice (some ⟨g2, 0, none⟩) k c2, .int .i64 z, .int .i64 a] W' fun e w' => e = .returned (.tuple #[.agg #[.int .i64 x, .int .i64 (yn : Int)], .bool true]) ∧ Below W'.heap.size W' w') := fun a W' h1 h2 hb => by
        have := liveFind_any _ k c2 _ r z a W' (O4.out.below hb).rd (Nat.le_refl _) (by unfold maxLen; omega) HHR.out.2.1
        rw [HHR.out.2.2.1 a h1 h2] at this
        exact this
      have CC : Hid (∀ W', Below w4.heap.size w4 W' → Calls Try.prog 17 #[.slice (some ⟨g2, 0, none⟩) k c2, .int .i64 z, .int .i64 x] W' fun e w' => ∃ A' c', e = .returned (.tuple #[.slice A' m c', .int .i64 (yn : Int), .bool true]) ∧ OwnP w' W'.heap.size A' m c' ps ∧ Below W'.heap.size W' w') := fun W' hb => by
        have := liveCut_any _ k c2 _ r z x W' (O4.out.below hb).rd (Nat.le_refl _) (by unfold maxLen; omega) HHR.out.2.1
        rw [HHR.out.2.2.2.1.1, HHR.out.2.2.2.1.2.1, HHR.out.2.2.2.1.2.2, HLN.out] at this
        exact this
      have CA : Hid (∀ W', Below w4.heap.size w4 W' → Calls Try.prog 13 #[.slice (some ⟨g2, 0, none⟩) k c2, .int .i64 z, .agg #[.int .i64 x, .int .i64 (yn : Int)]] W' fun e w' => ∃ A' k' c', e = .returned (.tuple #[.slice A' k' c', .bool false]) ∧ Below W'.heap.size W' w') := fun W' hb => by
        have := liveAdd_any _ k c2 _ r z x (yn : Int) W' (O4.out.below hb).rd (Nat.le_refl _) (by unfold maxLen; omega) HHR.out.2.1 HB2.out
        rw [HHR.out.2.2.2.2.1] at this
        exact this.mono fun e w' ⟨A', c', he, _, hb2⟩ => ⟨A', _, c', he, hb2⟩
      have CSI : Hid (∀ s W', s = liveSumV ps z → Below w4.heap.size w4 W' → Calls Try.prog 19 #[.slice (some ⟨g2, 0, none⟩) k c2, .int .i64 z] W' fun e w' => e = .returned (.int .i64 (s + (yn : Int))) ∧ Below W'.heap.size W' w') := fun s W' hs hb => by
        have := liveSum_any _ k c2 _ r z W' (O4.out.below hb).rd (Nat.le_refl _) (by unfold maxLen; omega) HHR.out.2.1
        rw [HHR.out.2.2.2.2.2, ← hs] at this
        exact this
      have CSS : Hid (∀ s W', s = liveSumV ps z → Below w4.heap.size w4 W' → Calls Try.prog 20 #[.slice (some ⟨g, 0, none⟩) m cm, .int .i64 z] W' fun e w' => e = .returned (.int .i64 s) ∧ Below W'.heap.size W' w') := fun s W' hs hb => by
        have := sLiveSum_any _ m cm _ ps z W' (O5.out.below hb).rd (Nat.le_refl _) (by unfold maxLen; omega) HW.out
        rw [← hs] at this
        exact this
      obtain ⟨F, hF⟩ : ∃ F, F = freeV r z := ⟨_, rfl⟩
      obtain ⟨f, hfl⟩ : ∃ f, f = F.length := ⟨_, rfl⟩
      obtain ⟨T, hT⟩ : ∃ T : Nat → Int, T = fun j => liveSumV ps z + (yn : Int) + sumTo F j := ⟨_, rfl⟩
      have CFr : Hid (∀ W', Below w4.heap.size w4 W' → Calls Try.prog 18 #[.slice (some ⟨g2, 0, none⟩) k c2, .int .i64 z] W' fun e w' => ∃ A' c', e = .returned (.slice A' f c') ∧ OwnP w' W'.heap.size A' f c' F ∧ Below W'.heap.size W' w') := fun W' hb => by
        have := liveFree_any g2 0 k c2 _ r z W' (O4.out.below hb).rd (Nat.le_refl _) (by unfold maxLen; omega) HHR.out.2.1
        rw [← hF, ← hfl] at this
        exact this
      have CN : Hid (∀ j, j < f → ∀ W', Below w4.heap.size w4 W' → Calls Try.prog 15 #[.slice (some ⟨g2, 0, none⟩) k c2, .int .i64 z, .int .i64 (pa F j)] W' fun e w' => e = .returned (.tuple #[.agg #[.int .i64 0, .int .i64 0], .bool false]) ∧ Below W'.heap.size W' w') := fun j hj W' hb => by
        have := liveFind_any _ k c2 _ r z (pa F j) W' (O4.out.below hb).rd (Nat.le_refl _) (by unfold maxLen; omega) HHR.out.2.1
        rw [hF, free_none HHR.out.1 (by rw [← hF, ← hfl]; exact hj)] at this
        rw [hF]
        exact this
      have hf3 : f ≤ 301 := by rw [hfl, hF]; exact freeV_len
      have HT0 := Lib.hid (show T 0 = liveSumV ps z + (yn : Int) by rw [hT]; simp [sumTo])
      have HTf := Lib.hid (show T f = z by
        have := free_sum HHR.out.1
        rw [hT]
        show liveSumV ps z + (yn : Int) + sumTo F f = z
        rw [hfl, ← HHR.out.2.2.2.2.2, hF]
        exact this)
      have HTn : Hid (∀ j, j < f → T (j + 1) = T j + pb F j ∧ (0 ≤ T j ∧ T j ≤ 100000) ∧ (1 ≤ pb F j ∧ pb F j ≤ 256)) := fun j hj => by
        have a1 : j < F.length := by omega
        have a2 := freeV_at (ps := r) (z := z) (i := j) (by rw [← hF]; exact a1)
        have a3 := free_part (ps := r) (z := z) j (by rw [← hF]; omega)
        rw [← hF] at a2 a3
        rw [hT]
        refine (⟨?_, ⟨?_, ?_⟩, ?_⟩ : _ ∧ (_ ∧ _) ∧ _)
        · show liveSumV ps z + (yn : Int) + sumTo F (j + 1) = liveSumV ps z + (yn : Int) + sumTo F j + pb F j
          rw [sumTo_next a1]; omega
        · show 0 ≤ liveSumV ps z + (yn : Int) + sumTo F j
          omega
        · show liveSumV ps z + (yn : Int) + sumTo F j ≤ 100000
          omega
        · omega
      clear hF hfl hT HHR
      obtain ⟨sp, hsp⟩ : ∃ sp, sp = liveSumV ps z := ⟨_, rfl⟩
      have CS1 := Lib.hid (fun W' hb => CSI.out sp W' hsp hb)
      have CS2 := Lib.hid (fun W' hb => CSS.out sp W' hsp hb)
      rw [← hsp] at HT0 s0 s1
      clear hsp CSI CSS HB2 HZ
      have b40 := BV4.out.cell0
      have b41 := BV4.out.cell1
      have hbw := BV4.out.lt
      go_wp2_with fail
      go_cut [10, 11] (fun sa sb wx => ∃ bg : Nat, sa = .pointer (some ⟨bg, 0, none⟩) ∧ sb = .bool true ∧ Hid (BlkAt wx bg x (yn : Int)) ∧ Hid (Below w4.heap.size w4 wx) ∧ w4.heap.size ≤ bg)
      case first =>
        have x0 : (w4.cell? ⟨bb, 0, none⟩ = some (.int .i64 x) ∧ w4.cell? ⟨bb, 1, none⟩ = some (.int .i64 (yn : Int))) := ⟨b40, b41⟩
        have x0' : (w4.drew.cell? ⟨bb, 0, none⟩ = some (.int .i64 x) ∧ w4.drew.cell? ⟨bb, 1, none⟩ = some (.int .i64 (yn : Int))) := x0
        have nb : ¬ w4.heap.size = bb := by omega
        have nb' : ¬ bb = w4.heap.size := by omega
        have BA0 : Hid (BlkAt ((w4.alloc (.cells #[.int .i64 0, .int .i64 0] 26)).drew) bb x (yn : Int)) := BV4.out.alloc _
        have x1 : ((w4.alloc (.cells #[.int .i64 0, .int .i64 0] 26)).drew.cell? ⟨bb, 0, none⟩ = some (.int .i64 x) ∧ (w4.alloc (.cells #[.int .i64 0, .int .i64 0] 26)).drew.cell? ⟨bb, 1, none⟩ = some (.int .i64 (yn : Int))) := ⟨BA0.out.cell0, BA0.out.cell1⟩
        have D0 : Hid (Below w4.heap.size w4 w4.drew) := (Below.refl _ _).drew
        have D1 : Hid (Below w4.heap.size w4 ((w4.alloc (.cells #[.int .i64 0, .int .i64 0] 26)).drew)) := ((Below.refl _ w4).alloc (Nat.le_refl _) _).drew
        have CFa : Hid (∀ rr : Nat, rr < yn → Calls Try.prog 15 #[.slice (some ⟨g2, 0, none⟩) k c2, .int .i64 z, .int .i64 (x + (rr : Int))] w4.drew fun e w' => e = .returned (.tuple #[.agg #[.int .i64 x, .int .i64 (yn : Int)], .bool true]) ∧ Hid (Below w4.heap.size w4 w') ∧ Hid (BlkAt w' bb x (yn : Int))) := fun rr hr => (CF.out _ _ (by omega) (by omega) D0.out).mono fun e w' ⟨he, hb⟩ => ⟨he, D0.out.trans hb, (show BlkAt w4.drew bb x (yn : Int) from BV4.out).below hb⟩
        have CFb : Hid (∀ rr : Nat, rr < yn → Calls Try.prog 15 #[.slice (some ⟨g2, 0, none⟩) k c2, .int .i64 z, .int .i64 (x + (rr : Int))] (w4.alloc (.cells #[.int .i64 0, .int .i64 0] 26)).drew fun e w' => e = .returned (.tuple #[.agg #[.int .i64 x, .int .i64 (yn : Int)], .bool true]) ∧ Hid (Below w4.heap.size w4 w') ∧ Hid (BlkAt w' bb x (yn : Int)) ∧ Hid (BlkAt w' w4.heap.size 0 0)) := fun rr hr => (CF.out _ _ (by omega) (by omega) D1.out).mono fun e w' ⟨he, hb⟩ => ⟨he, D1.out.trans (hb.mono D1.out.size), BA0.out.below hb, (show BlkAt ((w4.alloc (.cells #[.int .i64 0, .int .i64 0] 26)).drew) w4.heap.size 0 0 from BlkAt.new w4 0 0).below hb⟩
        go_region_held3 (fun w' => (w'.cell? ⟨bb, 0, none⟩ = some (.int .i64 x) ∧ w'.cell? ⟨bb, 1, none⟩ = some (.int .i64 (yn : Int))))
          (first | exact x0 | exact x0' | exact x1 | exact xd | exact xe | exact xf)
          (first | (go_at_call 16; (with_reducible refine (CP.out _ D0.out).mono ?_); rintro e wp ⟨rr, rfl, hrr, rfl⟩; have hr1 : (rr : Int) < (yn : Int) := (by omega); have hwr : IntKind.i64.wrap (x + (rr : Int)) = x + (rr : Int) := IntWalk.i64_in _ (by omega))
                 | (go_at_call 16; (with_reducible refine (CP.out _ D1.out).mono ?_); rintro e wp ⟨rr, rfl, hrr, rfl⟩; have hr1 : (rr : Int) < (yn : Int) := (by omega); have hwr : IntKind.i64.wrap (x + (rr : Int)) = x + (rr : Int) := IntWalk.i64_in _ (by omega))
                 | (go_at_call 15; (with_reducible refine (CFa.out rr hrr).mono ?_); rintro e wd ⟨rfl, BD, VD⟩
                    have xd : (wd.cell? ⟨bb, 0, none⟩ = some (.int .i64 x) ∧ wd.cell? ⟨bb, 1, none⟩ = some (.int .i64 (yn : Int))) := ⟨VD.out.cell0, VD.out.cell1⟩
                    have xe : ((wd.alloc (.cells #[.int .i64 0, .int .i64 0] 26)).cell? ⟨bb, 0, none⟩ = some (.int .i64 x) ∧ (wd.alloc (.cells #[.int .i64 0, .int .i64 0] 26)).cell? ⟨bb, 1, none⟩ = some (.int .i64 (yn : Int))) := ⟨(VD.out.alloc _).cell0, (VD.out.alloc _).cell1⟩
                    have xf : ((wd.alloc (.cells #[.int .i64 x, .int .i64 (yn : Int)] 26)).cell? ⟨bb, 0, none⟩ = some (.int .i64 x) ∧ (wd.alloc (.cells #[.int .i64 x, .int .i64 (yn : Int)] 26)).cell? ⟨bb, 1, none⟩ = some (.int .i64 (yn : Int))) := ⟨(VD.out.alloc _).cell0, (VD.out.alloc _).cell1⟩)
                 | (go_at_call 15; (with_reducible refine (CFb.out rr hrr).mono ?_); rintro e wd ⟨rfl, BD, VD, ND⟩
                    have xd : (wd.cell? ⟨bb, 0, none⟩ = some (.int .i64 x) ∧ wd.cell? ⟨bb, 1, none⟩ = some (.int .i64 (yn : Int))) := ⟨VD.out.cell0, VD.out.cell1⟩
                    have n0 := ND.out.cell0
                    have n1 := ND.out.cell1
                    have n2 := ND.out.free 0
                    have n3 := ND.out.free 1
                    have VE := Lib.hid ((VD.out.other (p := ⟨w4.heap.size, 0, none⟩) nb' (.int .i64 x)).other (p := ⟨w4.heap.size, 1, none⟩) nb' (.int .i64 (yn : Int)))
                    have xe : (((wd.setCell ⟨w4.heap.size, 0, none⟩ (.int .i64 x)).setCell ⟨w4.heap.size, 1, none⟩ (.int .i64 (yn : Int))).cell? ⟨bb, 0, none⟩ = some (.int .i64 x) ∧ ((wd.setCell ⟨w4.heap.size, 0, none⟩ (.int .i64 x)).setCell ⟨w4.heap.size, 1, none⟩ (.int .i64 (yn : Int))).cell? ⟨bb, 1, none⟩ = some (.int .i64 (yn : Int))) := ⟨VE.out.cell0, VE.out.cell1⟩
                    have xf := xe))
        all_goals (go_wp2_with fail; go_meet)
        all_goals first
          | exact ⟨w4.heap.size, rfl, rfl, ND.out.set _ _, (BD.out.setCell (Nat.le_refl _) _).setCell (Nat.le_refl _) _, Nat.le_refl _⟩
          | exact ⟨wd.heap.size, rfl, rfl, BlkAt.new wd _ _, BD.out.alloc BD.out.size _, BD.out.size⟩
      case rest =>
        obtain ⟨bg, rfl, rfl, BG4, HB7, hbg⟩ := hcut
        obtain ⟨w5, hw5⟩ : ∃ u, u = wc := ⟨_, rfl⟩
        rw [← hw5] at BG4 HB7 ⊢
        clear hw5
        have z5 := HB7.out.size
        have BV5 := Lib.hid (BV4.out.below HB7.out)
        clear b40 b41 BV4 CP CF H HF HN
        have b50 := BV5.out.cell0
        have b51 := BV5.out.cell1
        go_wp2_with fail
        refine (CC.out w5 HB7.out).mono ?_
        rintro e w6 ⟨A6, c6, rfl, ho6, hb⟩
        have HB8 := Lib.hid (HB7.out.trans (hb.mono z5))
        have O6 := Lib.hid ho6
        have BV6 := Lib.hid (BV5.out.below hb)
        have BG6 := Lib.hid (BG4.out.below hb)
        have z6 := HB8.out.size
        clear ho6 hb b50 b51 BV5 BG4 HB7 CC
        have b60 := BV6.out.cell0
        have b61 := BV6.out.cell1
        go_wp2_with fail
        refine (CA.out w6 HB8.out).mono ?_
        rintro e w7 ⟨A7, k7, c7, rfl, hb⟩
        have HB9 := Lib.hid (HB8.out.trans (hb.mono z6))
        have O7 := Lib.hid (O6.out.below hb)
        have BV7 := Lib.hid (BV6.out.below hb)
        have BG7 := Lib.hid (BG6.out.below hb)
        have z7 := HB9.out.size
        clear hb b60 b61 BV6 BG6 HB8 CA O6
        go_wp2_with fail
        refine (CFr.out w7 HB9.out).mono ?_
        rintro e w8 ⟨A8, c8, rfl, ho8, hb⟩
        have HB10 := Lib.hid (HB9.out.trans (hb.mono z7))
        have O8 := Lib.hid (O7.out.below hb)
        have OF8 := Lib.hid ho8
        have BV8 := Lib.hid (BV7.out.below hb)
        have BG8 := Lib.hid (BG7.out.below hb)
        have z8 := HB10.out.size
        clear hb ho8 BV7 BG7 HB9 CFr O7
        go_wp2_with fail
        refine (CS1.out w8 HB10.out).mono ?_
        rintro e w9 ⟨rfl, hb⟩
        have HB11 := Lib.hid (HB10.out.trans (hb.mono z8))
        have O9 := Lib.hid (O8.out.below hb)
        have OF9 := Lib.hid (OF8.out.below hb)
        have BV9 := Lib.hid (BV8.out.below hb)
        have BG9 := Lib.hid (BG8.out.below hb)
        have z9 := HB11.out.size
        clear hb BV8 BG8 HB10 O8 OF8
        rw [← HT0.out]
        clear HT0
        go_wp2
        go_loopw [18, 19] (fun sn si wr => ∃ j : Nat, j ≤ f ∧ sn = .int .i64 (T j) ∧ si = .int .i64 (j : Int) ∧ Hid (Below w9.heap.size w9 wr)) (fun _ si _ => f - (intOf si).toNat)
        case atStart => exact ⟨0, Nat.zero_le _, rfl, rfl, Below.refl _ _⟩
        case round =>
          obtain ⟨j, hj, rfl, rfl, HBj⟩ := hrel
          have zj := HBj.out.size
          by_cases hlt : j < f
          · obtain ⟨gf, rfl, hgf0, hgf⟩ := OF9.out.form (by omega)
            have OFj := Lib.hid (OF9.out.below HBj.out)
            have c1 := OFj.out.cell1 rfl hlt
            have c2 := OFj.out.cell2 rfl hlt
            obtain ⟨t1, ⟨t2, t3⟩, t4, t5⟩ := HTn.out j hlt
            have HTT := Lib.hid t1
            have CNj := Lib.hid (CN.out j hlt wr (HB11.out.trans (HBj.out.mono z9)))
            clear t1 CN
            generalize pa F j = aj at *
            generalize pb F j = sj at *
            have hgj : gf < wr.heap.size := by omega
            go_wp2_with fail
            refine CNj.out.mono ?_
            rintro e wx ⟨rfl, hbx⟩
            have d1 := (hbx.cell (p := ⟨gf, j * 2, none⟩) hgj).trans c1
            have d2 := (hbx.cell (p := ⟨gf, j * 2 + 1, none⟩) hgj).trans c2
            have zx := hbx.size
            have hgx : gf < wx.heap.size := by omega
            have ng : ¬ gf = wx.heap.size := by omega
            have HBx := Lib.hid (HBj.out.trans (hbx.mono zj))
            clear hbx c1 c2 CNj
            go_wp2
            go_roundw
            case rel => exact ⟨j + 1, by omega, by rw [HTT.out], by go_num, HBx.out.alloc HBx.out.size _⟩
            case measure => simp [intOf]; omega
          · obtain rfl : j = f := by omega
            rw [HTf.out]
            clear HTn CN HTf OF9
            have HBr := Lib.hid (HB11.out.trans (HBj.out.mono z9))
            have Or := Lib.hid (O9.out.below HBj.out)
            have Ol := Lib.hid (O5.out.below HBr.out)
            have BVr := Lib.hid (BV9.out.below HBj.out)
            have BGr := Lib.hid (BG9.out.below HBj.out)
            have zr := HBr.out.size
            have e0 : (wr.cell? ⟨bg, 0, none⟩ = some (.int .i64 x) ∧ wr.cell? ⟨bg, 1, none⟩ = some (.int .i64 (yn : Int)) ∧ wr.cell? ⟨bb, 0, none⟩ = some (.int .i64 x) ∧ wr.cell? ⟨bb, 1, none⟩ = some (.int .i64 (yn : Int))) := ⟨BGr.out.cell0, BGr.out.cell1, BVr.out.cell0, BVr.out.cell1⟩
            have e0' : (wr.drew.cell? ⟨bg, 0, none⟩ = some (.int .i64 x) ∧ wr.drew.cell? ⟨bg, 1, none⟩ = some (.int .i64 (yn : Int)) ∧ wr.drew.cell? ⟨bb, 0, none⟩ = some (.int .i64 x) ∧ wr.drew.cell? ⟨bb, 1, none⟩ = some (.int .i64 (yn : Int))) := e0
            have hlg := BGr.out.lt
            have hlb := BVr.out.lt
            have D0 : Hid (Below wr.heap.size wr wr.drew) := (Below.refl _ _).drew
            have xS : Hid (∀ w', Below wr.heap.size wr w' → (w'.cell? ⟨bg, 0, none⟩ = some (.int .i64 x) ∧ w'.cell? ⟨bg, 1, none⟩ = some (.int .i64 (yn : Int)) ∧ w'.cell? ⟨bb, 0, none⟩ = some (.int .i64 x) ∧ w'.cell? ⟨bb, 1, none⟩ = some (.int .i64 (yn : Int)))) := fun w' hb => ⟨(hb.cell (p := ⟨bg, 0, none⟩) hlg).trans e0.1, (hb.cell (p := ⟨bg, 1, none⟩) hlg).trans e0.2.1, (hb.cell (p := ⟨bb, 0, none⟩) hlb).trans e0.2.2.1, (hb.cell (p := ⟨bb, 1, none⟩) hlb).trans e0.2.2.2⟩
            have CE : Hid (Calls Try.prog 14 #[.slice A6 m c6, .slice (some ⟨g, 0, none⟩) m cm] wr.drew fun e w' => e = .returned (.bool true) ∧ Hid (Below wr.heap.size wr w') ∧ (w'.cell? ⟨bg, 0, none⟩ = some (.int .i64 x) ∧ w'.cell? ⟨bg, 1, none⟩ = some (.int .i64 (yn : Int)) ∧ w'.cell? ⟨bb, 0, none⟩ = some (.int .i64 x) ∧ w'.cell? ⟨bb, 1, none⟩ = some (.int .i64 (yn : Int)))) := by
              have := samP_any A6 (some ⟨g, 0, none⟩) m m c6 cm _ _ ps ps wr.drew (show RdP wr.drew _ _ _ _ from Or.out.rd) (show RdP wr.drew _ _ _ _ from Ol.out.rd) (by unfold maxLen; omega) (by unfold maxLen; omega)
              rw [decide_eq_true rfl] at this
              refine this.mono ?_
              rintro e w' ⟨he, q, rfl⟩
              have hb : Below wr.heap.size wr (wr.drew.drewN q) := ⟨D0.out.os, D0.out.tape, D0.out.output, D0.out.size, D0.out.block⟩
              exact ⟨he, hb, xS.out _ hb⟩
            have C1 : Hid (∀ W', Below wr.heap.size wr W' → Calls Try.prog 19 #[.slice (some ⟨g2, 0, none⟩) k c2, .int .i64 z] W' fun e w' => e = .returned (.int .i64 (sp + (yn : Int))) ∧ Hid (Below wr.heap.size wr w') ∧ (w'.cell? ⟨bg, 0, none⟩ = some (.int .i64 x) ∧ w'.cell? ⟨bg, 1, none⟩ = some (.int .i64 (yn : Int)) ∧ w'.cell? ⟨bb, 0, none⟩ = some (.int .i64 x) ∧ w'.cell? ⟨bb, 1, none⟩ = some (.int .i64 (yn : Int)))) := fun W' hb => (CS1.out W' (HBr.out.trans (hb.mono zr))).mono fun e w' ⟨he, hb2⟩ => ⟨he, hb.trans (hb2.mono hb.size), xS.out _ (hb.trans (hb2.mono hb.size))⟩
            have C2 : Hid (∀ W', Below wr.heap.size wr W' → Calls Try.prog 20 #[.slice (some ⟨g, 0, none⟩) m cm, .int .i64 z] W' fun e w' => e = .returned (.int .i64 sp) ∧ Hid (Below wr.heap.size wr w') ∧ (w'.cell? ⟨bg, 0, none⟩ = some (.int .i64 x) ∧ w'.cell? ⟨bg, 1, none⟩ = some (.int .i64 (yn : Int)) ∧ w'.cell? ⟨bb, 0, none⟩ = some (.int .i64 x) ∧ w'.cell? ⟨bb, 1, none⟩ = some (.int .i64 (yn : Int)))) := fun W' hb => (CS2.out W' (HBr.out.trans (hb.mono zr))).mono fun e w' ⟨he, hb2⟩ => ⟨he, hb.trans (hb2.mono hb.size), xS.out _ (hb.trans (hb2.mono hb.size))⟩
            have hql : ∀ w, (binOp .eql 26 (.agg #[.int .i64 x, .int .i64 (yn : Int)]) (.agg #[.int .i64 x, .int .i64 (yn : Int)])).run Try.prog w = .ok (.bool true) w := fun w => by
              have := eqlBlk x (yn : Int) x (yn : Int) w
              rwa [decide_eq_true rfl] at this
            have hws : IntKind.i64.wrap (sp + (yn : Int)) = sp + (yn : Int) := IntWalk.i64_in _ (by omega)
            have BF := Lib.hid (B6.out.trans (HBr.out.mono zz))
            have zf := BF.out.size
            clear CS1 CS2 xS O9 HB11 BV9 BG9 Or Ol
            go_wp2_with fail
            go_region_held3 (fun w' => (w'.cell? ⟨bg, 0, none⟩ = some (.int .i64 x) ∧ w'.cell? ⟨bg, 1, none⟩ = some (.int .i64 (yn : Int)) ∧ w'.cell? ⟨bb, 0, none⟩ = some (.int .i64 x) ∧ w'.cell? ⟨bb, 1, none⟩ = some (.int .i64 (yn : Int))))
              (first | exact e0 | exact e0' | exact xa | exact xb | exact xc)
              (first | (go_at_call 14; (with_reducible refine CE.out.mono ?_); rintro e wa ⟨rfl, BA, xa⟩)
                     | (go_at_call 19; (with_reducible refine (C1.out _ BA.out).mono ?_); rintro e wb ⟨rfl, BB, xb⟩)
                     | (go_at_call 19; (with_reducible refine (C1.out _ BC.out).mono ?_); rintro e wb ⟨rfl, BB, xb⟩)
                     | (go_at_call 20; (with_reducible refine (C2.out _ BB.out).mono ?_); rintro e wd ⟨rfl, BC, xc⟩)
                     | (go_at_call 20; (with_reducible refine (C2.out _ BA.out).mono ?_); rintro e wd ⟨rfl, BC, xc⟩))
            all_goals
              go_wp2
              go_ret
              first
                | exact ⟨rfl, BF.out.trans (BC.out.mono zf)⟩
                | exact ⟨rfl, BF.out.trans (BB.out.mono zf)⟩
  · have hn : (1048576 : Int) < (n : Int) := by omega
    clear H HF
    go_enter Try.func3, Try.ntmps3
    go_wp2_with fail
    refine (big_any A n c w0).mono ?_
    rintro e w1 ⟨rfl, rfl⟩
    go_wp2
    go_ret
    exact ⟨rfl, Below.refl _ _⟩

set_option maxRecDepth 100000 in
theorem fnLive_lifted (os : Os) (started : os.Started) (H : Type) (enc : TypeId × Value → H) :
    ReturnsInHanded {} Try.checked os 3 .any (Rows.fnLiveSpec.pre6 enc Try.prog Try.f3 Rows.fnLiveRow.domain false) (Rows.fnLiveSpec.post enc Try.prog Try.f3 false true false false) := by
  refine returnsInHanded_of_change (C := Try.checked) own started (by kernel_rfl) Try.func3
    (ChangeSpec.witness6 (enc := enc) (C := Try.checked) false ⟨#[], #[.slice none 0 0], []⟩ 8 (by kernel_rfl) (by kernel_rfl) (by kernel_rfl) (by kernel_rfl)) ?_
  intro W base args ds gs before hval0 hW hcnd _
  have hval : ∀ (j : Nat) t v, Try.f3.params[j]? = some t → args[j]? = some v → Value.okWide Try.prog W .any base t v := hval0
  have hW' := hW
  obtain ⟨p, q, hA0, hV, rfl, hfz, hnd⟩ := hW
  have hA : DataW.TrodAll enc Try.prog W 0 (fun _ => true) true Try.f3.params.toList args.toList ds p := hA0
  rw [Try.params3] at hA hval
  obtain ⟨v0, vs0, d0, ds0, p0, q0, hargs, rfl, rfl, h0, r0⟩ := trodAll_cons hA
  obtain ⟨rfl, rfl, rfl⟩ := trodAll_nil r0
  obtain rfl : args = #[v0] := by cases args; simp_all
  obtain ⟨rfl, rfl⟩ := trodVars_none hV
  have k0 := h0
  have lt0 : ∀ x ∈ p0, x.block < W.heap.size := by obtain ⟨m, hm⟩ := k0; exact DataW.trod_lt m _ _ _ hm
  obtain ⟨A0, n0, c0, z0, rfl, m0, rd0, f0⟩ := open_bytes (hval 0 22 v0 rfl rfl) h0
  clear hA0 hval0
  refine (fnLive_walk A0 n0 c0 z0 W rd0 m0 f0).mono fun e W' ⟨he, bel⟩ => ?_
  subst he
  exact ⟨_, rfl, _, _, _, [], _, [], hW', trodAll_mk1 (shut_bool Try.underlying4 _), (trodAll_cons_mk (Below.trod laidOut (by kernel_rfl) (of_decide_eq_true (by kernel_rfl)) k0 bel lt0) (trodAll_mk0)), rfl, bel.frame _, fun h => by cases h⟩

/-- The given statement: for every input the law returns true, and its arguments read as before. -/
theorem fnLive_holds : Rows.FnLiveSaid :=
  OpenClaim.holds_of_wide 3 Try.f3 rfl rfl rfl rfl rfl rfl rfl ⟨rfl, rfl, rfl, rfl, rfl⟩ rfl rfl rfl rfl rfl (by kernel_rfl) Try.func3 (by kernel_rfl)
    (of_decide_eq_true (by kernel_rfl)) (by unfold Func.isWrapper; first | (rw [if_pos (by decide +kernel)]; kernel_rfl) | (rw [if_neg (by decide +kernel)]; exact ⟨rfl, rfl⟩))
    (fun os started H enc _ => fnLive_lifted os started H enc)
#print axioms fnLive_holds
end Go.Proofs.Ytlaegdfaaoaiaaa
