/- The contracts of the model's MachOk, and of Quiet of both. -/
import Derived.Test.YtefcaeldkdbjdaaGreatSOwn
import Derived.Test.YtefcaeldkdbjdaaGreatSWarpOk
namespace Go.Proofs.YtefcaeldkdbjdaaGreat
open Go.RowKit
set_option linter.unusedVariables false

set_option maxRecDepth 100000 in
set_option maxHeartbeats 8000000 in
theorem sMachOk_any (A : Option Addr) (n c Q1 : Nat) (ws : List Nat) (B : Option Addr) (m d Q2 : Nat) (xs : List Wc) (V : Nat → WV) (w : World) (h1 : Rd w Q1 A n (ints ws)) (hQ1 : Q1 ≤ w.heap.size) (hX : ∀ X ∈ ws, X < 4294967296) (hn : n ≤ maxLen) (h2 : RdW w Q2 B m xs) (hQ2 : Q2 ≤ w.heap.size) (hm : m ≤ maxLen) (hV : ∀ i, i < m → (wat xs i).v = V i) (hf : ∀ i, i < m → (V i).Fit) :
    Calls Tryz.prog 15 #[.agg #[.slice A n c, .slice B m d]] w fun e w' => e = .returned (.bool (ownsM ws m V).isSome) ∧ Below w.heap.size w w' := by
  have hl : ws.length = n := by rw [← intsW_len]; exact h1.1
  have HH : Hid (∀ W, Below w.heap.size w W → Calls Tryz.prog 32 #[.agg #[.slice A n c]] W fun e w' => e = .returned (.bool (decide (HeapOk ws))) ∧ Below W.heap.size W w') := fun W hb => sMemOk_any A n c Q1 ws W (h1.below (hb.mono hQ1)) (Nat.le_trans hQ1 hb.size) hX hn
  have HB0 := Lib.hid (bel1 w (.cells #[.slice A n c, .slice B m d] 37))
  have H1 := Lib.hid h1
  have H2 := Lib.hid h2
  have HX := Lib.hid hX
  have HV := Lib.hid hV
  have HF := Lib.hid hf
  have HL := Lib.hid hl
  unfold maxLen at hm
  have hno : ¬ PartsOk ws m V → Hid ((ownsM ws m V).isSome = false) := fun h => by show _ = _; unfold ownsM; rw [if_neg h]; rfl
  clear h1 hX hn h2 hV hf hl
  by_cases e0 : HeapOk ws
  · have k0 : decide (HeapOk ws) = true := decide_eq_true e0
    by_cases e1 : 1 ≤ m
    · have k1 : ¬ (m : Int) < 1 := by omega
      by_cases e2 : m ≤ 4
      · have k2 : ¬ (4 : Int) < (m : Int) := by omega
        have H0 := Lib.hid e0
        clear e0
        go_enter Tryz.func15, Tryz.ntmps15
        go_wp2_with fail
        refine (HH.out _ HB0.out).mono ?_
        rintro e w1 ⟨rfl, hb⟩
        obtain ⟨hA, hB1, z1⟩ := nw1 hb
        have B1 := Lib.hid hB1
        have HA := Lib.hid hA
        have a0 := blkc hA 0 rfl
        have a1 := blkc hA 1 rfl
        clear hb hA hB1 HH HB0
        go_wp2
        clear a0 a1
        go_loopw [3] (fun i wr => ∃ k : Nat, k ≤ m ∧ i = .int .i64 (k : Int) ∧ Hid (∀ i, i < k → WGood (V i) (ws.length : Int)) ∧ Hid (wr.heap[w.heap.size]? = some (.cells #[.slice A n c, .slice B m d] 37 (0, 0))) ∧ Hid (Below w.heap.size w wr)) (fun i _ => m - (intOf i).toNat)
        case atStart => exact ⟨0, Nat.zero_le _, rfl, fun i hi => absurd hi (by omega), HA, B1⟩
        case round =>
          obtain ⟨k, hk, rfl, HG, HAr, HB⟩ := hrel
          clear HA B1
          have a0 := blkc HAr.out 0 rfl
          have a1 := blkc HAr.out 1 rfl
          have zA : w.heap.size < wr.heap.size := (Array.getElem?_eq_some_iff.1 HAr.out).1
          by_cases hlt : k < m
          · obtain ⟨g, o, rfl, hg, e8⟩ := H2.out.at8 hlt
            have hr := H2.out.rows hlt
            have hv := HV.out k hlt
            have hfk := HF.out k hlt
            have e9 := e8.below (HB.out.mono hQ2) hg
            unfold At8 at e9
            rw [hv] at e9 hr
            obtain ⟨c0, c1, c2, c3, c4, c5, c6, c7⟩ := e9
            have HR1 := Lib.hid (hr.1.below (HB.out.mono hQ2))
            have HR2 := Lib.hid (hr.2.below (HB.out.mono hQ2))
            obtain ⟨f1, f2, f3, f4, f5⟩ := hfk
            have hQ3 := Nat.le_trans hQ2 HB.out.size
            have HW : Hid (∀ W, Below wr.heap.size wr W → Calls Tryz.prog 33 #[.agg #[.int .i64 (V k).kd, .slice (wat xs k).A (V k).vs.length (wat xs k).c, .slice (wat xs k).B (V k).gs.length (wat xs k).d, .int .u32 ((V k).td : Int), .int .i64 (V k).ph, .int .i64 (V k).pr, .int .i64 (V k).hd, .int .u32 ((V k).sn : Int)], .int .i64 (n : Int)] W fun e w' => e = .returned (.bool (decide (WGood (V k) (n : Int)))) ∧ Below W.heap.size W w') := fun W hb => sWarpOk_any (V k).kd _ _ _ _ _ _ (V k).td (V k).ph (V k).pr (V k).hd (V k).sn (V k).vs (V k).gs Q2 Q2 (n : Int) W (HR1.out.below (hb.mono hQ3)) (Nat.le_trans hQ3 hb.size) f1 (HR2.out.below (hb.mono hQ3)) f2 f3 f4
            clear e8 hr hv f1 f2 f3 f4 f5 HR1 HR2
            generalize (V k).kd = v0 at *
            generalize (V k).td = v3 at *
            generalize (V k).ph = v4 at *
            generalize (V k).pr = v5 at *
            generalize (V k).hd = v6 at *
            generalize (V k).sn = v7 at *
            have x0 : wr.cell? ⟨w.heap.size, 0, none⟩ = some (.slice A n c) ∧ wr.cell? ⟨w.heap.size, 1, none⟩ = some (.slice (some ⟨g, o, none⟩) m d) ∧ wr.cell? ⟨g, o + k * 8, none⟩ = some (.int .i64 v0) ∧ wr.cell? ⟨g, o + k * 8 + 1, none⟩ = some (.slice (wat xs k).A (V k).vs.length (wat xs k).c) ∧ wr.cell? ⟨g, o + k * 8 + 2, none⟩ = some (.slice (wat xs k).B (V k).gs.length (wat xs k).d) ∧ wr.cell? ⟨g, o + k * 8 + 3, none⟩ = some (.int .u32 (v3 : Int)) ∧ wr.cell? ⟨g, o + k * 8 + 4, none⟩ = some (.int .i64 v4) ∧ wr.cell? ⟨g, o + k * 8 + 5, none⟩ = some (.int .i64 v5) ∧ wr.cell? ⟨g, o + k * 8 + 6, none⟩ = some (.int .i64 v6) ∧ wr.cell? ⟨g, o + k * 8 + 7, none⟩ = some (.int .u32 (v7 : Int)) := ⟨a0, a1, c0, c1, c2, c3, c4, c5, c6, c7⟩
            have x0d : wr.drew.cell? ⟨w.heap.size, 0, none⟩ = some (.slice A n c) ∧ wr.drew.cell? ⟨w.heap.size, 1, none⟩ = some (.slice (some ⟨g, o, none⟩) m d) ∧ wr.drew.cell? ⟨g, o + k * 8, none⟩ = some (.int .i64 v0) ∧ wr.drew.cell? ⟨g, o + k * 8 + 1, none⟩ = some (.slice (wat xs k).A (V k).vs.length (wat xs k).c) ∧ wr.drew.cell? ⟨g, o + k * 8 + 2, none⟩ = some (.slice (wat xs k).B (V k).gs.length (wat xs k).d) ∧ wr.drew.cell? ⟨g, o + k * 8 + 3, none⟩ = some (.int .u32 (v3 : Int)) ∧ wr.drew.cell? ⟨g, o + k * 8 + 4, none⟩ = some (.int .i64 v4) ∧ wr.drew.cell? ⟨g, o + k * 8 + 5, none⟩ = some (.int .i64 v5) ∧ wr.drew.cell? ⟨g, o + k * 8 + 6, none⟩ = some (.int .i64 v6) ∧ wr.drew.cell? ⟨g, o + k * 8 + 7, none⟩ = some (.int .u32 (v7 : Int)) := x0
            have D0 : Hid (Below wr.heap.size wr wr.drew) := (Below.refl _ _).drew
            have xS : Hid (∀ w', Below wr.heap.size wr w' → w'.cell? ⟨w.heap.size, 0, none⟩ = some (.slice A n c) ∧ w'.cell? ⟨w.heap.size, 1, none⟩ = some (.slice (some ⟨g, o, none⟩) m d) ∧ w'.cell? ⟨g, o + k * 8, none⟩ = some (.int .i64 v0) ∧ w'.cell? ⟨g, o + k * 8 + 1, none⟩ = some (.slice (wat xs k).A (V k).vs.length (wat xs k).c) ∧ w'.cell? ⟨g, o + k * 8 + 2, none⟩ = some (.slice (wat xs k).B (V k).gs.length (wat xs k).d) ∧ w'.cell? ⟨g, o + k * 8 + 3, none⟩ = some (.int .u32 (v3 : Int)) ∧ w'.cell? ⟨g, o + k * 8 + 4, none⟩ = some (.int .i64 v4) ∧ w'.cell? ⟨g, o + k * 8 + 5, none⟩ = some (.int .i64 v5) ∧ w'.cell? ⟨g, o + k * 8 + 6, none⟩ = some (.int .i64 v6) ∧ w'.cell? ⟨g, o + k * 8 + 7, none⟩ = some (.int .u32 (v7 : Int))) := fun w' hb => ⟨later_at0 hb x0.1, later_at0 hb x0.2.1, later_at0 hb x0.2.2.1, later_at0 hb x0.2.2.2.1, later_at0 hb x0.2.2.2.2.1, later_at0 hb x0.2.2.2.2.2.1, later_at0 hb x0.2.2.2.2.2.2.1, later_at0 hb x0.2.2.2.2.2.2.2.1, later_at0 hb x0.2.2.2.2.2.2.2.2.1, later_at0 hb x0.2.2.2.2.2.2.2.2.2⟩
            by_cases hg : WGood (V k) (n : Int)
            · rw [decide_eq_true hg] at HW
              have HN : Hid (∀ i, i < k + 1 → WGood (V i) (ws.length : Int)) := fun i hi => by
                by_cases e : i = k
                · subst e; rw [HL.out]; exact hg
                · exact HG.out i (by omega)
              clear hg HG
              have CE : Hid (∀ W', Below wr.heap.size wr W' → Calls Tryz.prog 33 #[.agg #[.int .i64 v0, .slice (wat xs k).A (V k).vs.length (wat xs k).c, .slice (wat xs k).B (V k).gs.length (wat xs k).d, .int .u32 (v3 : Int), .int .i64 v4, .int .i64 v5, .int .i64 v6, .int .u32 (v7 : Int)], .int .i64 (n : Int)] W' fun e w' => e = .returned (.bool true) ∧ Hid (Below wr.heap.size wr w') ∧ (w'.cell? ⟨w.heap.size, 0, none⟩ = some (.slice A n c) ∧ w'.cell? ⟨w.heap.size, 1, none⟩ = some (.slice (some ⟨g, o, none⟩) m d) ∧ w'.cell? ⟨g, o + k * 8, none⟩ = some (.int .i64 v0) ∧ w'.cell? ⟨g, o + k * 8 + 1, none⟩ = some (.slice (wat xs k).A (V k).vs.length (wat xs k).c) ∧ w'.cell? ⟨g, o + k * 8 + 2, none⟩ = some (.slice (wat xs k).B (V k).gs.length (wat xs k).d) ∧ w'.cell? ⟨g, o + k * 8 + 3, none⟩ = some (.int .u32 (v3 : Int)) ∧ w'.cell? ⟨g, o + k * 8 + 4, none⟩ = some (.int .i64 v4) ∧ w'.cell? ⟨g, o + k * 8 + 5, none⟩ = some (.int .i64 v5) ∧ w'.cell? ⟨g, o + k * 8 + 6, none⟩ = some (.int .i64 v6) ∧ w'.cell? ⟨g, o + k * 8 + 7, none⟩ = some (.int .u32 (v7 : Int)))) := fun W' hb => (HW.out W' hb).mono fun e w' ⟨he, hb2⟩ => ⟨he, hb.trans (hb2.mono hb.size), xS.out w' (hb.trans (hb2.mono hb.size))⟩
              go_wp2_with fail
              go_cut [39] from 22 to 39 (fun s0 wx => s0 = .bool false ∧ Hid (Below wr.heap.size wr wx))
              case first =>
                go_region_held3 (fun w' => w'.cell? ⟨w.heap.size, 0, none⟩ = some (.slice A n c) ∧ w'.cell? ⟨w.heap.size, 1, none⟩ = some (.slice (some ⟨g, o, none⟩) m d) ∧ w'.cell? ⟨g, o + k * 8, none⟩ = some (.int .i64 v0) ∧ w'.cell? ⟨g, o + k * 8 + 1, none⟩ = some (.slice (wat xs k).A (V k).vs.length (wat xs k).c) ∧ w'.cell? ⟨g, o + k * 8 + 2, none⟩ = some (.slice (wat xs k).B (V k).gs.length (wat xs k).d) ∧ w'.cell? ⟨g, o + k * 8 + 3, none⟩ = some (.int .u32 (v3 : Int)) ∧ w'.cell? ⟨g, o + k * 8 + 4, none⟩ = some (.int .i64 v4) ∧ w'.cell? ⟨g, o + k * 8 + 5, none⟩ = some (.int .i64 v5) ∧ w'.cell? ⟨g, o + k * 8 + 6, none⟩ = some (.int .i64 v6) ∧ w'.cell? ⟨g, o + k * 8 + 7, none⟩ = some (.int .u32 (v7 : Int)))
                  (first | (with_reducible exact x0) | (with_reducible exact x0d) | (with_reducible exact xe))
                  (first | (go_at_call 33; (with_reducible refine (CE.out _ D0.out).mono ?_); rintro e we ⟨rfl, BE, xe⟩))
                all_goals (go_wp2_with fail; go_meet; exact ⟨rfl, BE⟩)
              case rest =>
                obtain ⟨rfl, hb0'⟩ := hcut
                have HB2 := Lib.hid (HB.out.trans (hb0'.out.mono HB.out.size))
                have HA2 := Lib.hid ((hb0'.out.block _ zA).trans HAr.out)
                clear hb0' HB HAr CE HW x0 x0d D0 xS c0 c1 c2 c3 c4 c5 c6 c7 a0 a1
                go_wp2
                go_roundw
                case rel => exact ⟨k + 1, by omega, by go_num, HN, HA2, HB2⟩
                case measure => simp [intOf]; omega
            · rw [decide_eq_false hg] at HW
              have HN := hno (fun h => hg (by rw [← HL.out]; exact h.2.2.2 k hlt))
              clear hg HG hno
              have CE : Hid (∀ W', Below wr.heap.size wr W' → Calls Tryz.prog 33 #[.agg #[.int .i64 v0, .slice (wat xs k).A (V k).vs.length (wat xs k).c, .slice (wat xs k).B (V k).gs.length (wat xs k).d, .int .u32 (v3 : Int), .int .i64 v4, .int .i64 v5, .int .i64 v6, .int .u32 (v7 : Int)], .int .i64 (n : Int)] W' fun e w' => e = .returned (.bool false) ∧ Hid (Below wr.heap.size wr w') ∧ (w'.cell? ⟨w.heap.size, 0, none⟩ = some (.slice A n c) ∧ w'.cell? ⟨w.heap.size, 1, none⟩ = some (.slice (some ⟨g, o, none⟩) m d) ∧ w'.cell? ⟨g, o + k * 8, none⟩ = some (.int .i64 v0) ∧ w'.cell? ⟨g, o + k * 8 + 1, none⟩ = some (.slice (wat xs k).A (V k).vs.length (wat xs k).c) ∧ w'.cell? ⟨g, o + k * 8 + 2, none⟩ = some (.slice (wat xs k).B (V k).gs.length (wat xs k).d) ∧ w'.cell? ⟨g, o + k * 8 + 3, none⟩ = some (.int .u32 (v3 : Int)) ∧ w'.cell? ⟨g, o + k * 8 + 4, none⟩ = some (.int .i64 v4) ∧ w'.cell? ⟨g, o + k * 8 + 5, none⟩ = some (.int .i64 v5) ∧ w'.cell? ⟨g, o + k * 8 + 6, none⟩ = some (.int .i64 v6) ∧ w'.cell? ⟨g, o + k * 8 + 7, none⟩ = some (.int .u32 (v7 : Int)))) := fun W' hb => (HW.out W' hb).mono fun e w' ⟨he, hb2⟩ => ⟨he, hb.trans (hb2.mono hb.size), xS.out w' (hb.trans (hb2.mono hb.size))⟩
              go_wp2_with fail
              go_cut [39] from 22 to 39 (fun s0 wx => s0 = .bool true ∧ Hid (Below wr.heap.size wr wx))
              case first =>
                go_region_held3 (fun w' => w'.cell? ⟨w.heap.size, 0, none⟩ = some (.slice A n c) ∧ w'.cell? ⟨w.heap.size, 1, none⟩ = some (.slice (some ⟨g, o, none⟩) m d) ∧ w'.cell? ⟨g, o + k * 8, none⟩ = some (.int .i64 v0) ∧ w'.cell? ⟨g, o + k * 8 + 1, none⟩ = some (.slice (wat xs k).A (V k).vs.length (wat xs k).c) ∧ w'.cell? ⟨g, o + k * 8 + 2, none⟩ = some (.slice (wat xs k).B (V k).gs.length (wat xs k).d) ∧ w'.cell? ⟨g, o + k * 8 + 3, none⟩ = some (.int .u32 (v3 : Int)) ∧ w'.cell? ⟨g, o + k * 8 + 4, none⟩ = some (.int .i64 v4) ∧ w'.cell? ⟨g, o + k * 8 + 5, none⟩ = some (.int .i64 v5) ∧ w'.cell? ⟨g, o + k * 8 + 6, none⟩ = some (.int .i64 v6) ∧ w'.cell? ⟨g, o + k * 8 + 7, none⟩ = some (.int .u32 (v7 : Int)))
                  (first | (with_reducible exact x0) | (with_reducible exact x0d) | (with_reducible exact xe))
                  (first | (go_at_call 33; (with_reducible refine (CE.out _ D0.out).mono ?_); rintro e we ⟨rfl, BE, xe⟩))
                all_goals (go_wp2_with fail; go_meet; exact ⟨rfl, BE⟩)
              case rest =>
                obtain ⟨rfl, hb0'⟩ := hcut
                have HB2 := Lib.hid (HB.out.trans (hb0'.out.mono HB.out.size))
                have HA2 := Lib.hid ((hb0'.out.block _ zA).trans HAr.out)
                clear hb0' HB HAr CE HW x0 x0d D0 xS c0 c1 c2 c3 c4 c5 c6 c7 a0 a1
                go_wp2
                go_ret
                exact ⟨by rw [HN.out]; rfl, HB2.out⟩
          · have hp : PartsOk ws m V := ⟨H0.out, e1, e2, fun i hi => HG.out i (by omega)⟩
            have HE : Hid ((ownsM ws m V).isSome = (ownS ws (heldL V m)).isSome) := by show _ = _; unfold ownsM; rw [if_pos hp, own_same]
            have HO : Hid (∀ W, Below wr.heap.size wr W → Calls Tryz.prog 34 #[.agg #[.slice A n c, .slice B m d]] W fun e w' => ∃ Ao k co, e = .returned (.tuple #[.slice Ao k co, .bool (ownS ws (heldL V m)).isSome]) ∧ (∀ O, ownS ws (heldL V m) = some O → k = n ∧ OwnK 3 .i64 w' W.heap.size Ao k co O) ∧ Below W.heap.size W w') := fun W hb => l08Owners_any A n c Q1 ws B m d Q2 xs V W (H1.out.below ((HB.out.trans (hb.mono HB.out.size)).mono hQ1)) (Nat.le_trans hQ1 (Nat.le_trans HB.out.size hb.size)) HX.out (by rw [← HL.out]; exact H0.out.1) (H2.out.below ((HB.out.trans (hb.mono HB.out.size)).mono hQ2)) (Nat.le_trans hQ2 (Nat.le_trans HB.out.size hb.size)) e2 HV.out (fun i hi => good_held (hp.2.2.2 i hi))
            clear hp hno HG
            go_wp2_with fail
            refine (HO.out _ (Below.refl _ _)).mono ?_
            rintro e w2 ⟨Ao, k', co, rfl, _, hb⟩
            have HB2 := Lib.hid (HB.out.trans (hb.mono HB.out.size))
            clear hb HB HO HAr a0 a1
            go_wp2
            go_ret
            exact ⟨by rw [HE.out]; rfl, HB2.out⟩
      · have k2 : (4 : Int) < (m : Int) := by omega
        have HN := hno (fun h => e2 h.2.2.1)
        clear e0 hno
        go_enter Tryz.func15, Tryz.ntmps15
        go_wp2_with fail
        refine (HH.out _ HB0.out).mono ?_
        rintro e w1 ⟨rfl, hb⟩
        obtain ⟨hA, hB1, z1⟩ := nw1 hb
        have B1 := Lib.hid hB1
        have a1 := blkc hA 1 rfl
        clear hb hA hB1 HH HB0
        go_wp2
        go_ret
        exact ⟨by rw [HN.out]; rfl, B1.out⟩
    · have k1 : (m : Int) < 1 := by omega
      have HN := hno (fun h => e1 h.2.1)
      clear e0 hno
      go_enter Tryz.func15, Tryz.ntmps15
      go_wp2_with fail
      refine (HH.out _ HB0.out).mono ?_
      rintro e w1 ⟨rfl, hb⟩
      obtain ⟨hA, hB1, z1⟩ := nw1 hb
      have B1 := Lib.hid hB1
      have a1 := blkc hA 1 rfl
      clear hb hA hB1 HH HB0
      go_wp2
      go_ret
      exact ⟨by rw [HN.out]; rfl, B1.out⟩
  · have k0 : decide (HeapOk ws) = false := decide_eq_false e0
    have HN := hno (fun h => e0 h.1)
    clear e0 hno
    go_enter Tryz.func15, Tryz.ntmps15
    go_wp2_with fail
    refine (HH.out _ HB0.out).mono ?_
    rintro e w1 ⟨rfl, hb⟩
    obtain ⟨hA, hB1, z1⟩ := nw1 hb
    have B1 := Lib.hid hB1
    clear hb hA hB1 HH HB0
    go_wp2
    go_ret
    exact ⟨by rw [HN.out]; rfl, B1.out⟩

end Go.Proofs.YtefcaeldkdbjdaaGreat
