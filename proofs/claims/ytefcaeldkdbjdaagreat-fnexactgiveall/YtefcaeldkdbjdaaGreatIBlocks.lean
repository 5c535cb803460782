/- The contract of the program's assign: chunks given to an owner. -/
/- The contract of the program's assignBlocks. -/
import Derived.Test.YtefcaeldkdbjdaaGreatMachE
import Derived.Test.YtefcaeldkdbjdaaGreatIRoom
import Derived.Test.YtefcaeldkdbjdaaGreatCopyI
import Derived.Test.YtefcaeldkdbjdaaGreatIWarp
namespace Go.Proofs.YtefcaeldkdbjdaaGreat
open Go.RowKit
set_option linter.unusedVariables false

theorem held_iff {X : Nat} (h : GoodX X) : (X : Int) = 3145728 ↔ readN X (stOf X) = 3 := by
  unfold readN
  rw [if_pos h]
  constructor
  · intro e
    obtain rfl : X = 3145728 := by omega
    decide
  · intro e
    unfold GoodX at h
    have := (good_free (S := ((stOf X : Nat) : Int)) (by omega)).1 h
    unfold stOf clOf mpOf rnOf at *
    omega

set_option maxRecDepth 100000 in
set_option maxHeartbeats 4000000 in
theorem assign_any (Aw : Option Addr) (n cw B : Nat) (ws : List Nat) (Ao : Option Addr) (co b0 : Nat) (O : List Int) (a k : Nat) (v : Int) (w : World) (h : Rd w B Aw n (ints ws)) (hB : B ≤ w.heap.size) (hX : ∀ X ∈ ws, X < 4294967296) (hg : ∀ X ∈ ws, GoodX X) (hn : n ≤ 16) (hO : OwnK 3 .i64 w b0 Ao n co O) (hb0 : B ≤ b0) (ha : a ≤ 100) (hk : k ≤ 100) :
    Calls Tryz.prog 73 #[.agg #[.slice Aw n cw, .slice Ao n co], .int .i64 (a : Int), .int .i64 (k : Int), .int .i64 v] w fun e w' => e = .returned (.bool (putsP (heldW ws) O (runC v a k)).isSome) ∧ (∀ O', putsP (heldW ws) O (runC v a k) = some O' → OwnK 3 .i64 w' b0 Ao n co O') ∧ Kp (fun q => some q = (Value.slice Ao n co).ownBlock) w w' := by
  have hl : ws.length = n := by rw [← intsW_len]; exact h.1
  have HW := Lib.hid (fun W => heldWord_any W)
  have H := Lib.hid h
  have HX := Lib.hid hX
  have HG := Lib.hid hg
  have HL := Lib.hid hl
  have hOlt : ∀ q, (Value.slice Ao n co).ownBlock = some q → b0 ≤ q ∧ q < w.heap.size := World.ownsRow.lt hO
  have HOL := Lib.hid hOlt
  have HO0 : Hid (OwnK 3 .i64 (w.alloc (.cells #[.slice Aw n cw, .slice Ao n co] 108)) b0 Ao n co O) := hO.alloc _
  clear h hX hg hl hO hOlt
  go_enter Tryz.func73, Tryz.ntmps73
  go_wp2
  go_loopw [9] (fun i wr => ∃ (p : Nat) (O' : List Int), a ≤ p ∧ p ≤ a + k ∧ i = .int .i64 (p : Int) ∧ Hid (putsP (heldW ws) O (runC v a (p - a)) = some O') ∧ Hid (OwnK 3 .i64 wr b0 Ao n co O') ∧ Hid (wr.heap[w.heap.size]? = some (.cells #[.slice Aw n cw, .slice Ao n co] 108 (0, 0))) ∧ Hid (Kp (fun q => some q = (Value.slice Ao n co).ownBlock) w wr)) (fun i _ => a + k - (intOf i).toNat)
  case atStart => exact ⟨a, O, Nat.le_refl _, by omega, rfl, by simp [runC, putsP, Hid], HO0, heap_alloc_new _ _, Kp.of_below (bel1 _ _)⟩
  case round =>
    obtain ⟨p, O', hp0, hp1, rfl, HP, HOr, HA, HK⟩ := hrel
    clear HO0
    have a0 := blkc HA.out 0 rfl
    have a1 := blkc HA.out 1 rfl
    have zA : w.heap.size < wr.heap.size := (Array.getElem?_eq_some_iff.1 HA.out).1
    have wak : IntKind.i64.wrap ((a : Int) + (k : Int)) = (a : Int) + (k : Int) := IntWalk.i64_in _ (by omega)
    have hol : O'.length = n := by have := HOr.out.1; simpa using this
    have hstep : p < a + k → runC v a (p + 1 - a) = runC v a (p - a) ++ [(p, v)] := fun h => by
      rw [show p + 1 - a = p - a + 1 by omega, runC_next, show a + (p - a) = p by omega]
    have hall : p < a + k → ∃ D, runC v a k = runC v a (p - a) ++ (p, v) :: D := fun h => by
      obtain ⟨D, hD⟩ := runC_pre v a (show p + 1 - a ≤ k by omega)
      exact ⟨D, by rw [hD, hstep h]; simp⟩
    by_cases hlt : p < a + k
    · have hlt2 : (p : Int) < (a : Int) + (k : Int) := by omega
      have hnone : ¬ (heldW ws p = true ∧ O'[p]? = some (-1)) → Hid (putsP (heldW ws) O (runC v a k) = none) := fun hb => by
        obtain ⟨D, hD⟩ := hall hlt
        show _ = _
        rw [hD, putsP_app, HP.out]
        simp [putsP, putP, hb]
      by_cases hc : p < n
      · obtain ⟨g, o, rfl, hgB, hcell⟩ := H.out.2 (by omega)
        obtain ⟨go, hgo, hgo1, hgo2⟩ := HOr.out.form (by omega)
        subst hgo
        have hX := word_lt HX.out p
        have hne : ¬ some g = (Value.slice (some ⟨go, 0, none⟩) n co).ownBlock := fun e => by have := HOL.out g e.symm; omega
        have hgs : g < w.heap.size := by omega
        have c1 : wr.cell? ⟨g, o + p, none⟩ = some (.int .u32 ((ws[p]?.getD 0 : Nat) : Int)) := by
          rw [← intsW_at, ← hcell p hc]
          have := HK.out.block g hgs hne
          simp [World.cell?, this]
        have c2 : wr.cell? ⟨go, p, none⟩ = some (.int .i64 (O'[p]?.getD 0)) := HOr.out.cell rfl hc
        have f2 := HOr.out.free rfl p
        have hGX : GoodX (ws[p]?.getD 0) := by rw [List.getElem?_eq_getElem (by rw [HL.out]; exact hc)]; exact HG.out _ (List.getElem_mem _)
        have hHe : ((ws[p]?.getD 0 : Nat) : Int) = 3145728 ↔ heldW ws p = true := (held_iff hGX).trans (by unfold heldW stW; exact decide_eq_true_iff.symm)
        have hO1 : O'[p]?.getD 0 = -1 ↔ O'[p]? = some (-1) := by rw [List.getElem?_eq_getElem (by omega)]; simp
        have hs1 : p < O'.length := by omega
        generalize O'[p]?.getD 0 = y at c2 hO1
        generalize ws[p]?.getD 0 = X at c1 hX hGX hHe
        have hnp : ¬ (n : Int) ≤ (p : Int) := by omega
        have hnp2 : ¬ n ≤ p := by omega
        have hnp3 : decide ((n : Int) ≤ (p : Int)) = false := decide_eq_false hnp
        have hnp4 : decide (n ≤ p) = false := decide_eq_false hnp2
        have x0 : wr.cell? ⟨w.heap.size, 0, none⟩ = some (.slice (some ⟨g, o, none⟩) n cw) ∧ wr.cell? ⟨w.heap.size, 1, none⟩ = some (.slice (some ⟨go, 0, none⟩) n co) ∧ wr.cell? ⟨g, o + p, none⟩ = some (.int .u32 (X : Int)) ∧ wr.cell? ⟨go, p, none⟩ = some (.int .i64 y) := ⟨a0, a1, c1, c2⟩
        have x0d : wr.drew.cell? ⟨w.heap.size, 0, none⟩ = some (.slice (some ⟨g, o, none⟩) n cw) ∧ wr.drew.cell? ⟨w.heap.size, 1, none⟩ = some (.slice (some ⟨go, 0, none⟩) n co) ∧ wr.drew.cell? ⟨g, o + p, none⟩ = some (.int .u32 (X : Int)) ∧ wr.drew.cell? ⟨go, p, none⟩ = some (.int .i64 y) := x0
        have D0 : Hid (Below wr.heap.size wr wr.drew) := (Below.refl _ _).drew
        have xS : Hid (∀ w', Below wr.heap.size wr w' → w'.cell? ⟨w.heap.size, 0, none⟩ = some (.slice (some ⟨g, o, none⟩) n cw) ∧ w'.cell? ⟨w.heap.size, 1, none⟩ = some (.slice (some ⟨go, 0, none⟩) n co) ∧ w'.cell? ⟨g, o + p, none⟩ = some (.int .u32 (X : Int)) ∧ w'.cell? ⟨go, p, none⟩ = some (.int .i64 y)) := fun w' hb => ⟨later_at0 hb a0, later_at0 hb a1, later_at0 hb c1, later_at0 hb c2⟩
        have CE : Hid (∀ W', Below wr.heap.size wr W' → Calls Tryz.prog 83 #[] W' fun e w' => e = .returned (.int .u32 3145728) ∧ Hid (Below wr.heap.size wr w') ∧ (w'.cell? ⟨w.heap.size, 0, none⟩ = some (.slice (some ⟨g, o, none⟩) n cw) ∧ w'.cell? ⟨w.heap.size, 1, none⟩ = some (.slice (some ⟨go, 0, none⟩) n co) ∧ w'.cell? ⟨g, o + p, none⟩ = some (.int .u32 (X : Int)) ∧ w'.cell? ⟨go, p, none⟩ = some (.int .i64 y))) := fun W' hb => (HW.out W').mono fun e w' ⟨he, hb2⟩ => ⟨he, hb.trans (hb2.mono hb.size), xS.out w' (hb.trans (hb2.mono hb.size))⟩
        clear hcell hall hGX
        by_cases hx : (X : Int) = 3145728
        · have hx1 : ((X : Int) != 3145728) = false := by simp [hx]
          by_cases hy : y = -1
          · have hy1 : (y != -1) = false := by simp [hy]
            have HN : Hid (putsP (heldW ws) O (runC v a (p + 1 - a)) = some (O'.set p v)) := by
              show _ = _
              rw [hstep hlt, putsP_app, HP.out]
              simp [putsP, putP, hHe.1 hx, hO1.1 hy]
            clear hHe hO1 hnone hstep hx hy
            go_wp2_with fail
            go_cut [39] from 11 to 44 (fun s0 wx => s0 = .bool false ∧ Hid (Below wr.heap.size wr wx))
            case first =>
              go_region_held3 (fun w' => w'.cell? ⟨w.heap.size, 0, none⟩ = some (.slice (some ⟨g, o, none⟩) n cw) ∧ w'.cell? ⟨w.heap.size, 1, none⟩ = some (.slice (some ⟨go, 0, none⟩) n co) ∧ w'.cell? ⟨g, o + p, none⟩ = some (.int .u32 (X : Int)) ∧ w'.cell? ⟨go, p, none⟩ = some (.int .i64 y))
                (first | (with_reducible exact x0) | (with_reducible exact x0d) | (with_reducible exact xe))
                (first | (go_at_call 83; (with_reducible refine (CE.out _ D0.out).mono ?_); rintro e we ⟨rfl, BE, xe⟩))
              all_goals (go_wp2_with fail; go_meet; exact ⟨rfl, BE⟩)
            case rest =>
              obtain ⟨rfl, hb0'⟩ := hcut
              have z2 := hb0'.out.size
              have HA2 := Lib.hid ((hb0'.out.block _ zA).trans HA.out)
              have O2 := Lib.hid (HOr.out.below hb0'.out)
              have K2 : Hid (Kp (fun q => some q = (Value.slice (some ⟨go, 0, none⟩) n co).ownBlock) w wc) := HK.out.trans (Kp.of_below hb0'.out)
              have b0' := blkc HA2.out 0 rfl
              have b1' := blkc HA2.out 1 rfl
              have b2' : wc.cell? ⟨go, p, none⟩ = some (.int .i64 y) := (hb0'.out.cell (p := ⟨go, p, none⟩) hgo2).trans c2
              have b3' := O2.out.free rfl p
              have hgw : ¬ w.heap.size = go := by have := HOL.out go rfl; omega
              have hgw2 : ¬ go = w.heap.size := by omega
              have O3 : Hid (OwnK 3 .i64 (wc.setCell ⟨go, p, none⟩ (.int .i64 v)) b0 (some ⟨go, 0, none⟩) n co (O'.set p v)) := O2.out.store
              have K3 : Hid (Kp (fun q => some q = (Value.slice (some ⟨go, 0, none⟩) n co).ownBlock) w (wc.setCell ⟨go, p, none⟩ (.int .i64 v))) := K2.out.trans ((Kp.setCell wc ⟨go, p, none⟩ _).mono (fun q hq => by rw [hq]; rfl))
              have HA3 := Lib.hid ((Below.heap_setCell wc ⟨go, p, none⟩ (.int .i64 v) w.heap.size hgw).trans HA2.out)
              clear hb0' HA2 O2 K2 HOr HK HA HP a0 a1 c1 c2 f2 x0 x0d D0 xS CE
              go_wp2
              go_roundw
              case rel => exact ⟨p + 1, _, by omega, by omega, by go_num, HN, O3, HA3, K3⟩
              case measure => simp [intOf]; omega
          · have hy1 : (y != -1) = true := by simpa using hy
            have HN := hnone (fun h => hy (hO1.2 h.2))
            clear hHe hO1 hnone hstep hx hy
            go_wp2_with fail
            go_cut [39] from 11 to 44 (fun s0 wx => s0 = .bool true ∧ Hid (Below wr.heap.size wr wx))
            case first =>
              go_region_held3 (fun w' => w'.cell? ⟨w.heap.size, 0, none⟩ = some (.slice (some ⟨g, o, none⟩) n cw) ∧ w'.cell? ⟨w.heap.size, 1, none⟩ = some (.slice (some ⟨go, 0, none⟩) n co) ∧ w'.cell? ⟨g, o + p, none⟩ = some (.int .u32 (X : Int)) ∧ w'.cell? ⟨go, p, none⟩ = some (.int .i64 y))
                (first | (with_reducible exact x0) | (with_reducible exact x0d) | (with_reducible exact xe))
                (first | (go_at_call 83; (with_reducible refine (CE.out _ D0.out).mono ?_); rintro e we ⟨rfl, BE, xe⟩))
              all_goals (go_wp2_with fail; go_meet; exact ⟨rfl, BE⟩)
            case rest =>
              obtain ⟨rfl, hb0'⟩ := hcut
              have K2 : Hid (Kp (fun q => some q = (Value.slice (some ⟨go, 0, none⟩) n co).ownBlock) w wc) := HK.out.trans (Kp.of_below hb0'.out)
              clear hb0' x0 x0d D0 xS CE a0 a1 c1 c2 f2
              go_wp2
              go_ret
              refine ⟨by rw [HN.out]; rfl, fun O2 h2 => ?_, K2.out⟩
              rw [HN.out] at h2; cases h2
        · have hx1 : ((X : Int) != 3145728) = true := by simpa using hx
          have HN := hnone (fun h => hx (hHe.2 h.1))
          clear hHe hO1 hnone hstep hx
          go_wp2_with fail
          go_cut [39] from 11 to 44 (fun s0 wx => s0 = .bool true ∧ Hid (Below wr.heap.size wr wx))
          case first =>
            first | (go_region_with (first | (go_at_call 83; (with_reducible refine (CE.out _ D0.out).mono ?_); rintro e we ⟨rfl, BE, xe⟩; obtain ⟨za, zb, zc, zd⟩ := xe))) | fail
            all_goals (go_wp2_with fail; go_meet; exact ⟨rfl, BE⟩)
          case rest =>
            obtain ⟨rfl, hb0'⟩ := hcut
            have K2 : Hid (Kp (fun q => some q = (Value.slice (some ⟨go, 0, none⟩) n co).ownBlock) w wc) := HK.out.trans (Kp.of_below hb0'.out)
            clear hb0' x0 x0d D0 xS CE a0 a1 c1 c2 f2
            go_wp2
            go_ret
            refine ⟨by rw [HN.out]; rfl, fun O2 h2 => ?_, K2.out⟩
            rw [HN.out] at h2; cases h2
      · have hpn : (n : Int) ≤ (p : Int) := by omega
        have hpn2 : n ≤ p := by omega
        have hpn3 : decide ((n : Int) ≤ (p : Int)) = true := decide_eq_true hpn
        have hpn4 : decide (n ≤ p) = true := decide_eq_true hpn2
        have HN := hnone (fun h => by have := (List.getElem?_eq_some_iff.1 h.2).1; omega)
        clear hnone hall hstep
        go_wp2_with fail
        go_quiet ((fail))
        go_wp2
        go_ret
        refine ⟨by rw [HN.out]; rfl, fun O2 h2 => ?_, HK.out.trans (Kp.of_below (bel_drewN (Below.refl _ _) _))⟩
        rw [HN.out] at h2; cases h2
    · obtain rfl : p = a + k := by omega
      have hlt2 : ¬ ((a + k : Nat) : Int) < (a : Int) + (k : Int) := by omega
      have HN : Hid (putsP (heldW ws) O (runC v a k) = some O') := by have := HP.out; rwa [Nat.add_sub_cancel_left] at this
      go_wp2
      go_ret
      refine ⟨by rw [HN.out]; rfl, fun O2 h2 => ?_, HK.out⟩
      rw [HN.out] at h2; injection h2 with h2; rw [← h2]; exact HOr.out

end Go.Proofs.YtefcaeldkdbjdaaGreat

namespace Go.Proofs.YtefcaeldkdbjdaaGreat
open Go.RowKit
set_option linter.unusedVariables false

theorem blocks_none {ws : List Nat} {O : List Int} {k n : Nat} (h : blocksF ws k O = none) (hk : k ≤ n) : blocksF ws n O = none := by
  induction n with
  | zero => obtain rfl : k = 0 := by omega
            exact h
  | succ n ih =>
    rcases Nat.lt_or_ge k (n + 1) with h1 | h1
    · simp only [blocksF, ih (by omega), Option.bind_none]
    · obtain rfl : k = n + 1 := by omega
      exact h

set_option maxRecDepth 100000 in
set_option maxHeartbeats 4000000 in
theorem assignBlocks_any (Aw : Option Addr) (n cw B : Nat) (ws : List Nat) (Ao : Option Addr) (co b0 : Nat) (O : List Int) (w : World) (h : Rd w B Aw n (ints ws)) (hB : B ≤ w.heap.size) (hX : ∀ X ∈ ws, X < 4294967296) (hg : ∀ X ∈ ws, GoodX X) (hn : n ≤ 16) (hO : OwnK 3 .i64 w b0 Ao n co O) (hb0 : B ≤ b0) :
    Calls Tryz.prog 74 #[.agg #[.slice Aw n cw, .slice Ao n co]] w fun e w' => e = .returned (.bool (blocksF ws n O).isSome) ∧ (∀ O', blocksF ws n O = some O' → OwnK 3 .i64 w' b0 Ao n co O') ∧ Kp (fun q => some q = (Value.slice Ao n co).ownBlock) w w' := by
  have hl : ws.length = n := by rw [← intsW_len]; exact h.1
  have H := Lib.hid h
  have HX := Lib.hid hX
  have HG := Lib.hid hg
  have HL := Lib.hid hl
  have HOL := Lib.hid (World.ownsRow.lt hO)
  have HO0 : Hid (OwnK 3 .i64 (w.alloc (.cells #[.slice Aw n cw, .slice Ao n co] 108)) b0 Ao n co O) := hO.alloc _
  clear h hX hg hl hO
  go_enter Tryz.func74, Tryz.ntmps74
  go_wp2
  go_step3
  go_wp2
  go_step3
  go_wp2
  go_loopw [3] (fun i wr => ∃ (k : Nat) (O' : List Int), k ≤ n ∧ i = .int .i64 (k : Int) ∧ Hid (blocksF ws k O = some O') ∧ Hid (OwnK 3 .i64 wr b0 Ao n co O') ∧ Hid (wr.heap[w.heap.size]? = some (.cells #[.slice Aw n cw, .slice Ao n co] 108 (0, 0))) ∧ Hid (Kp (fun q => some q = (Value.slice Ao n co).ownBlock) w wr)) (fun i _ => n - (intOf i).toNat)
  case atStart => exact ⟨0, O, Nat.zero_le _, rfl, rfl, HO0, heap_alloc_new _ _, Kp.of_below (bel1 _ _)⟩
  case round =>
    obtain ⟨k, O', hk, rfl, HP, HOr, HA, HK⟩ := hrel
    clear HO0
    have a0 := blkc HA.out 0 rfl
    have a1 := blkc HA.out 1 rfl
    have zA : w.heap.size < wr.heap.size := (Array.getElem?_eq_some_iff.1 HA.out).1
    by_cases hc : k < n
    · obtain ⟨g, o, rfl, hgB, hcell⟩ := H.out.2 (by omega)
      obtain ⟨go, hgo, hgo1, hgo2⟩ := HOr.out.form (by omega)
      subst hgo
      have hgs : g < w.heap.size := by omega
      have BB : Hid (Below B w wr) := Kp.bel HK.out (Below.refl B w) hB (fun q hq => by have := HOL.out q hq.symm; omega)
      have c1 : wr.cell? ⟨g, o + k, none⟩ = some (.int .u32 ((ws[k]?.getD 0 : Nat) : Int)) := by
        rw [← intsW_at]; exact (BB.out.cell (p := ⟨g, o + k, none⟩) hgB).trans (hcell k hc)
      have c2 : wr.cell? ⟨go, k, none⟩ = some (.int .i64 (O'[k]?.getD 0)) := HOr.out.cell rfl hc
      have hol : O'.length = n := by have := HOr.out.1; simpa using this
      have hO1 : O'[k]?.getD 0 = -1 ↔ O'[k]? = some (-1) := by rw [List.getElem?_eq_getElem (by omega)]; simp
      have HC := Lib.hid (fun W => ctlRead_any (ws[k]?.getD 0) W (word_lt HX.out k))
      have hcs := stW_cases ws k
      have hst : ((readN (ws[k]?.getD 0) (stOf (ws[k]?.getD 0)) : Nat) : Int) = ((stW ws k : Nat) : Int) := rfl
      have hrn : ((readN (ws[k]?.getD 0) (rnOf (ws[k]?.getD 0)) : Nat) : Int) = ((rnW ws k : Nat) : Int) := rfl
      unfold readV at HC
      rw [hst, hrn] at HC
      have hne : ((k : Int) == (n : Int)) = false := by simp; omega
      have hgw : ¬ w.heap.size = go := by have := HOL.out go rfl; omega
      have hgw2 : ¬ go = w.heap.size := by omega
      clear hcell hst hrn
      generalize O'[k]?.getD 0 = y at c2 hO1
      generalize ws[k]?.getD 0 = X at *
      generalize ((readN X (clOf X) : Nat) : Int) = cl at *
      generalize ((readN X (mpOf X) : Nat) : Int) = mp at *
      generalize decide (GoodX X) = gd at *
      have HS : Hid (blocksF ws (k + 1) O = (if stW ws k = 2 then putsP (heldW ws) (O'.set k (-2)) (runC (-2) (k + 1) (rnW ws k - 1)) else if stW ws k = 3 then (if O'[k]? = some (-1) then none else some O') else some O')) := by
        show _ = _
        simp only [blocksF, HP.out, Option.bind_some]
      by_cases h2 : stW ws k = 2
      · have hs2 : (((stW ws k : Nat) : Int) == 2) = true := by simp [h2]
        have hS2 := HS.out
        rw [if_pos h2] at hS2
        have HS2 := Lib.hid hS2
        obtain ⟨r, hr⟩ : ∃ r, r = rnW ws k - 1 := ⟨_, rfl⟩
        obtain ⟨p, hp⟩ : ∃ p, p = k + 1 := ⟨_, rfl⟩
        have hr1 : rnW ws k = r + 1 ∧ r ≤ 100 := by omega
        have hp1 : p ≤ 100 := by omega
        have w1 : IntKind.i64.wrap ((k : Int) + 1) = (p : Int) := by rw [IntWalk.i64_in _ (by omega)]; omega
        have w2 : IntKind.i64.wrap (((rnW ws k : Nat) : Int) - 1) = (r : Int) := by rw [IntWalk.i64_in _ (by omega)]; omega
        rw [← hr, ← hp] at HS2
        have HPE := Lib.hid hp
        clear hS2 hr hp hcs h2 HS hO1
        generalize ((stW ws k : Nat) : Int) = st at *
        have hr2 := hr1.2
        clear hr1
        generalize ((rnW ws k : Nat) : Int) = rn at *
        go_wp2_with fail
        refine (HC.out _).mono ?_
        rintro e w2' ⟨rfl, hb⟩
        have z2 := hb.size
        have HA2 := Lib.hid ((hb.block _ zA).trans HA.out)
        have O2 := Lib.hid (HOr.out.below hb)
        have K2 : Hid (Kp (fun q => some q = (Value.slice (some ⟨go, 0, none⟩) n co).ownBlock) w w2') := HK.out.trans (Kp.of_below hb)
        have B2 := Lib.hid (BB.out.trans (hb.mono (by have := BB.out.size; omega)))
        have b0' := blkc HA2.out 0 rfl
        have b1' := blkc HA2.out 1 rfl
        have b2' : w2'.cell? ⟨go, k, none⟩ = some (.int .i64 y) := (hb.cell (p := ⟨go, k, none⟩) hgo2).trans c2
        have b3' := O2.out.free rfl k
        have hgo3 : go < w2'.heap.size := by omega
        have zA2 : w.heap.size < w2'.heap.size := by omega
        clear hb HOr HK BB HA HC a0 a1 c1 c2
        have O3 : Hid (OwnK 3 .i64 ((w2'.setCell ⟨go, k, none⟩ (.int .i64 (-2))).alloc (.cells #[.int .i64 st, .int .i64 cl, .int .u32 mp, .int .i64 rn] 74)) b0 (some ⟨go, 0, none⟩) n co (O'.set k (-2))) := O2.out.store.alloc _
        have B3 : Hid (Below B w ((w2'.setCell ⟨go, k, none⟩ (.int .i64 (-2))).alloc (.cells #[.int .i64 st, .int .i64 cl, .int .u32 mp, .int .i64 rn] 74))) := (B2.out.setCell (p := ⟨go, k, none⟩) (by show B ≤ go; omega) _).alloc (by simp; omega) _
        have K3 : Hid (Kp (fun q => some q = (Value.slice (some ⟨go, 0, none⟩) n co).ownBlock) w ((w2'.setCell ⟨go, k, none⟩ (.int .i64 (-2))).alloc (.cells #[.int .i64 st, .int .i64 cl, .int .u32 mp, .int .i64 rn] 74))) := (K2.out.trans ((Kp.setCell _ ⟨go, k, none⟩ _).mono (fun q hq => by rw [hq]; rfl))).trans (Kp.of_below (bel1 _ _))
        have HA3 : Hid (((w2'.setCell ⟨go, k, none⟩ (.int .i64 (-2))).alloc (.cells #[.int .i64 st, .int .i64 cl, .int .u32 mp, .int .i64 rn] 74)).heap[w.heap.size]? = some (.cells #[.slice (some ⟨g, o, none⟩) n cw, .slice (some ⟨go, 0, none⟩) n co] 108 (0, 0))) := ((bel1 _ _).block _ (by simp; omega)).trans ((Below.heap_setCell _ ⟨go, k, none⟩ _ w.heap.size hgw).trans HA2.out)
        have HAS := Lib.hid (assign_any (some ⟨g, o, none⟩) n cw B ws (some ⟨go, 0, none⟩) co b0 (O'.set k (-2)) p r (-2) _ (H.out.below B3.out) (by have := B3.out.size; omega) HX.out HG.out hn O3.out hb0 hp1 hr2)
        clear O2 K2 B2
        go_wp2_with fail
        clear b0' b1' b2' b3'
        refine HAS.out.mono ?_
        clear HAS
        rintro e w4 ⟨rfl, ho, hk4⟩
        have K4 : Hid (Kp (fun q => some q = (Value.slice (some ⟨go, 0, none⟩) n co).ownBlock) w w4) := K3.out.trans hk4
        have HA4 := Lib.hid ((hk4.block w.heap.size (by simp; omega) (fun e => by have := HOL.out _ e.symm; omega)).trans HA3.out)
        have HO4 := Lib.hid ho
        clear ho hk4 O3 B3 K3 HA3
        have hpe := HPE.out
        have d0 := blkc HA4.out 0 rfl
        have d1 := blkc HA4.out 1 rfl
        cases hq : putsP (heldW ws) (O'.set k (-2)) (runC (-2) p r) with
        | none =>
          rw [hq] at HS2 HO4
          have HN : Hid (blocksF ws n O = none) := blocks_none HS2.out (by omega)
          clear HS2 HO4 hq hpe
          simp only [Option.isSome_none]
          go_wp2
          first | go_ret | (simp only [Exit.noGoto]; go_ret)
          refine ⟨by rw [HN.out]; rfl, fun O2 h2 => ?_, K4.out⟩
          rw [HN.out] at h2; cases h2
        | some O4 =>
          rw [hq] at HS2 HO4
          have O5 := Lib.hid (HO4.out O4 rfl)
          clear HO4 hq
          have HPE2 := Lib.hid hpe
          clear hpe
          simp only [Option.isSome_some]
          go_wp2
          go_roundw
          case rel => exact ⟨p, O4, by have := HPE2.out; omega, rfl, HS2, O5, HA4, K4⟩
          case measure => simp [intOf]; have := HPE2.out; omega
      · have hs2 : (((stW ws k : Nat) : Int) == 2) = false := by simp; omega
        by_cases h3 : stW ws k = 3
        · have hs3 : (((stW ws k : Nat) : Int) == 3) = true := by simp [h3]
          have hS2 := HS.out
          rw [if_neg h2, if_pos h3] at hS2
          by_cases hy : y = -1
          · have hy1 : (y == -1) = true := by simp [hy]
            rw [if_pos (hO1.1 hy)] at hS2
            have HN : Hid (blocksF ws n O = none) := blocks_none hS2 (by omega)
            clear hS2 HS hcs h2 h3 hO1 hy
            generalize ((stW ws k : Nat) : Int) = st at *
            generalize ((rnW ws k : Nat) : Int) = rn at *
            go_wp2_with fail
            refine (HC.out _).mono ?_
            rintro e w2' ⟨rfl, hb⟩
            have z2 := hb.size
            have HA2 := Lib.hid ((hb.block _ zA).trans HA.out)
            have K2 : Hid (Kp (fun q => some q = (Value.slice (some ⟨go, 0, none⟩) n co).ownBlock) w w2') := HK.out.trans (Kp.of_below hb)
            have b0' := blkc HA2.out 0 rfl
            have b1' := blkc HA2.out 1 rfl
            have b2' : w2'.cell? ⟨go, k, none⟩ = some (.int .i64 y) := (hb.cell (p := ⟨go, k, none⟩) hgo2).trans c2
            have hgo3 : go < w2'.heap.size := by omega
            have zA2 : w.heap.size < w2'.heap.size := by omega
            clear hb HOr HK BB HA HC a0 a1 c1 c2
            go_wp2
            first | go_ret | (simp only [Exit.noGoto]; go_ret)
            refine ⟨by rw [HN.out]; rfl, fun O2 h2 => ?_, K2.out.trans (Kp.of_below (bel1 _ _))⟩
            rw [HN.out] at h2; cases h2
          · have hy1 : (y == -1) = false := by simpa using hy
            rw [if_neg (fun h => hy (hO1.2 h))] at hS2
            have HS2 := Lib.hid hS2
            clear hS2 HS hcs h2 h3 hO1 hy
            generalize ((stW ws k : Nat) : Int) = st at *
            generalize ((rnW ws k : Nat) : Int) = rn at *
            go_wp2_with fail
            refine (HC.out _).mono ?_
            rintro e w2' ⟨rfl, hb⟩
            have z2 := hb.size
            have HA2 := Lib.hid ((hb.block _ zA).trans HA.out)
            have O2 := Lib.hid (HOr.out.below hb)
            have K2 : Hid (Kp (fun q => some q = (Value.slice (some ⟨go, 0, none⟩) n co).ownBlock) w w2') := HK.out.trans (Kp.of_below hb)
            have b0' := blkc HA2.out 0 rfl
            have b1' := blkc HA2.out 1 rfl
            have b2' : w2'.cell? ⟨go, k, none⟩ = some (.int .i64 y) := (hb.cell (p := ⟨go, k, none⟩) hgo2).trans c2
            have hgo3 : go < w2'.heap.size := by omega
            have zA2 : w.heap.size < w2'.heap.size := by omega
            clear hb HOr HK BB HA HC a0 a1 c1 c2
            go_wp2
            go_roundw
            case rel => exact ⟨k + 1, O', by omega, by go_num, HS2, O2.out.alloc _, ((bel1 _ _).block _ zA2).trans HA2.out, K2.out.trans (Kp.of_below (bel1 _ _))⟩
            case measure => simp [intOf]; omega
        · have hs3 : (((stW ws k : Nat) : Int) == 3) = false := by simp; omega
          have hS2 := HS.out
          rw [if_neg h2, if_neg h3] at hS2
          have HS2 := Lib.hid hS2
          clear hS2 HS hcs h2 h3 hO1
          generalize ((stW ws k : Nat) : Int) = st at *
          generalize ((rnW ws k : Nat) : Int) = rn at *
          go_wp2_with fail
          refine (HC.out _).mono ?_
          rintro e w2' ⟨rfl, hb⟩
          have z2 := hb.size
          have HA2 := Lib.hid ((hb.block _ zA).trans HA.out)
          have O2 := Lib.hid (HOr.out.below hb)
          have K2 : Hid (Kp (fun q => some q = (Value.slice (some ⟨go, 0, none⟩) n co).ownBlock) w w2') := HK.out.trans (Kp.of_below hb)
          have zA2 : w.heap.size < w2'.heap.size := by omega
          clear hb HOr HK BB HA HC a0 a1 c1 c2
          go_wp2
          go_roundw
          case rel => exact ⟨k + 1, O', by omega, by go_num, HS2, O2.out.alloc _, ((bel1 _ _).block _ zA2).trans HA2.out, K2.out.trans (Kp.of_below (bel1 _ _))⟩
          case measure => simp [intOf]; omega
    · obtain rfl : k = n := by omega
      have hne : ((k : Int) == (k : Int)) = true := by simp
      go_wp2
      first | go_ret | (simp only [Exit.noGoto]; go_ret)
      refine ⟨by rw [HP.out]; rfl, fun O2 h2 => ?_, HK.out⟩
      rw [HP.out] at h2; injection h2 with h2; rw [← h2]; exact HOr.out

end Go.Proofs.YtefcaeldkdbjdaaGreat
