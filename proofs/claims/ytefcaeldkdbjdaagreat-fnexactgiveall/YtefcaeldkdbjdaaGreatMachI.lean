/- The contracts of the program's owners and MachOk. -/
import Derived.Test.YtefcaeldkdbjdaaGreatMachP
import Derived.Test.YtefcaeldkdbjdaaGreatIBlocks
import Derived.Test.YtefcaeldkdbjdaaGreatRepN
namespace Go.Proofs.YtefcaeldkdbjdaaGreat
open Go.RowKit
set_option linter.unusedVariables false

/-- Where the warps hold chunks, and how many. -/
def heldL (V : Nat → WV) (m : Nat) : List (Nat × Nat) := (List.range m).map fun i => ((V i).pr.toNat, (V i).hd.toNat)
theorem heldL_at {V : Nat → WV} {m i : Nat} (h : i < m) : (heldL V m)[i]?.getD (0, 0) = ((V i).pr.toNat, (V i).hd.toNat) := by simp [heldL, h]
theorem heldL_len (V : Nat → WV) (m : Nat) : (heldL V m).length = m := by simp [heldL]
/-- What a valid warp's numbers are bounded by. -/
theorem good_held {v : WV} {ch : Int} (h : WGood v ch) : 0 ≤ v.pr ∧ v.pr ≤ 16 ∧ 0 ≤ v.hd ∧ v.hd ≤ 16 := by
  obtain ⟨⟨c0, c1, _⟩, h2⟩ := h
  rcases h2 with h2 | ⟨_, h2⟩
  · omega
  · have hp := h2.2.2.2
    have hr := chunksV_range (wantV v.vs v.td)
    unfold PartOk at hp
    rcases hp with ⟨_, hp⟩ | ⟨_, _, hp⟩ | ⟨_, _, hp⟩
    · unfold GiveOk at hp; omega
    · unfold LargeOk at hp; omega
    · unfold SmallOk at hp; omega
/-- The owners of the chunks of a machine, if it is valid. -/
def ownsM (ws : List Nat) (m : Nat) (V : Nat → WV) : Option (List Int) := if PartsOk ws m V then ownI ws (heldL V m) else none

theorem emptyO_rep (n : Nat) : emptyO n = List.replicate n (-1) := rfl
theorem warps_none {H : Nat → Bool} {O : List Int} {vs : List (Nat × Nat)} {k : Nat} : ∀ {m : Nat}, putsP H O (warpC vs k) = none → k ≤ m → putsP H O (warpC vs m) = none
  | 0, h, hk => by obtain rfl : k = 0 := by omega
                   exact h
  | m + 1, h, hk => by
    rcases Nat.lt_or_ge k (m + 1) with h1 | h1
    · rw [warpC, putsP_app, warps_none h (by omega)]; rfl
    · obtain rfl : k = m + 1 := by omega
      exact h

set_option maxRecDepth 100000 in
set_option maxHeartbeats 8000000 in
theorem owners_any (A : Option Addr) (n c Q1 : Nat) (ws : List Nat) (B : Option Addr) (m d Q2 : Nat) (xs : List Wc) (V : Nat → WV) (w : World) (h1 : Rd w Q1 A n (ints ws)) (hQ1 : Q1 ≤ w.heap.size) (hX : ∀ X ∈ ws, X < 4294967296) (hn : n ≤ maxLen) (h2 : RdW w Q2 B m xs) (hQ2 : Q2 ≤ w.heap.size) (hm : m ≤ maxLen) (hV : ∀ i, i < m → (wat xs i).v = V i) (hf : ∀ i, i < m → (V i).Fit) :
    Calls Tryz.prog 62 #[.agg #[.slice A n c, .slice B m d]] w fun e w' => ∃ Ao k co, e = .returned (.tuple #[.slice Ao k co, .bool (ownsM ws m V).isSome]) ∧ (∀ O, ownsM ws m V = some O → k = n ∧ OwnK 3 .i64 w' w.heap.size Ao k co O) ∧ Below w.heap.size w w' := by
  have hl : ws.length = n := by rw [← intsW_len]; exact h1.1
  have HP : Hid (∀ W, Below w.heap.size w W → Calls Tryz.prog 72 #[.agg #[.slice A n c, .slice B m d]] W fun e w' => e = .returned (.bool (decide (PartsOk ws m V))) ∧ Below W.heap.size W w') := fun W hb => hasValidParts_any A n c Q1 ws B m d Q2 xs V W (h1.below (hb.mono hQ1)) (Nat.le_trans hQ1 hb.size) hX hn (h2.below (hb.mono hQ2)) (Nat.le_trans hQ2 hb.size) hm hV hf
  have HB0 := Lib.hid (bel1 w (.cells #[.slice A n c, .slice B m d] 37))
  by_cases e0 : PartsOk ws m V
  · have k0 : decide (PartsOk ws m V) = true := decide_eq_true e0
    have hn16 : n ≤ 16 := by rw [← hl]; exact e0.1.1
    have HGX : Hid (∀ X ∈ ws, GoodX X) := e0.1.2
    have hm4 : m ≤ 4 := e0.2.2.1
    have HHD : Hid (∀ i, i < m → 0 ≤ (V i).pr ∧ (V i).pr ≤ 16 ∧ 0 ≤ (V i).hd ∧ (V i).hd ≤ 16) := fun i hi => good_held (e0.2.2.2 i hi)
    have HE : Hid (ownsM ws m V = ownI ws (heldL V m)) := if_pos e0
    have H1 := Lib.hid h1
    have H2 := Lib.hid h2
    have HX := Lib.hid hX
    have HV := Lib.hid hV
    have HL := Lib.hid hl
    have HRP := Lib.hid (fun g W hh hg => repeatN_any n g (-1) W hn16 hh hg)
    clear e0 h1 h2 hX hV hl hf
    go_enter Tryz.func62, Tryz.ntmps62
    go_wp2_with fail
    refine (HP.out _ HB0.out).mono ?_
    rintro e w1 ⟨rfl, hb⟩
    obtain ⟨hA, hB1, z1⟩ := nw1 hb
    have B1 := Lib.hid hB1
    have HA := Lib.hid hA
    have a0 := blkc hA 0 rfl
    have a1 := blkc hA 1 rfl
    clear hb hA hB1 HP HB0
    go_wp2_with fail
    clear a0 a1
    refine (HRP.out w1.heap.size _ (by simp) (by simp)).mono ?_
    rintro e w2 ⟨Ao, co, rfl, ho, hb⟩
    obtain ⟨_, hB2, z2⟩ := nw1 hb
    have B2 := Lib.hid (B1.out.trans (hB2.mono B1.out.size))
    have HA2 := Lib.hid ((hB2.block _ z1).trans HA.out)
    rw [sz1] at ho
    have O2 : Hid (OwnK 3 .i64 w2 (w1.heap.size + 1) Ao n co (emptyO ws.length)) := by rw [HL.out]; exact ho
    have a0 := blkc HA2.out 0 rfl
    have a1 := blkc HA2.out 1 rfl
    clear ho hb hB2 HA B1 HRP
    have HA3 : Hid ((w2.alloc (.cells #[.slice A n c, .slice Ao n co] 108)).heap[w2.heap.size]? = some (.cells #[.slice A n c, .slice Ao n co] 108 (0, 0))) := heap_alloc_new _ _
    have O3 : Hid (OwnK 3 .i64 (w2.alloc (.cells #[.slice A n c, .slice Ao n co] 108)) (w1.heap.size + 1) Ao n co (emptyO ws.length)) := O2.out.alloc _
    have B3 : Hid (Below w.heap.size w (w2.alloc (.cells #[.slice A n c, .slice Ao n co] 108))) := B2.out.alloc B2.out.size _
    have hOB : ∀ q, (Value.slice Ao n co).ownBlock = some q → w1.heap.size + 1 ≤ q ∧ q < w2.heap.size := World.ownsRow.lt O2.out
    have HOB := Lib.hid hOB
    have z3 : w.heap.size < w1.heap.size := z1
    have z4 : w.heap.size < w2.heap.size := Nat.lt_trans z1 z2
    have z5 : ¬ w.heap.size = w2.heap.size := by omega
    have b1 : (w2.alloc (.cells #[.slice A n c, .slice Ao n co] 108)).cell? ⟨w.heap.size, 1, none⟩ = some (.slice B m d) := blkc (((bel1 _ _).block _ z4).trans HA2.out) 1 rfl
    go_wp2
    clear b1
    clear O2 B2 hOB a0 a1 HA2
    go_loopw [23] (fun i wr => ∃ (k : Nat) (O' : List Int), k ≤ m ∧ i = .int .i64 (k : Int) ∧ Hid (putsP (heldW ws) (emptyO ws.length) (warpC (heldL V m) k) = some O') ∧ Hid (OwnK 3 .i64 wr (w1.heap.size + 1) Ao n co O') ∧ Hid (wr.heap[w2.heap.size]? = some (.cells #[.slice A n c, .slice Ao n co] 108 (0, 0))) ∧ Hid (Below w.heap.size w wr)) (fun i _ => m - (intOf i).toNat)
    case atStart => exact ⟨0, _, Nat.zero_le _, rfl, rfl, O3, HA3, B3⟩
    case round =>
      obtain ⟨k, O', hk, rfl, HPk, HO, HAr, HB⟩ := hrel
      clear O3 HA3 B3
      have a0 := blkc HAr.out 0 rfl
      have a1 := blkc HAr.out 1 rfl
      have zA : w2.heap.size < wr.heap.size := (Array.getElem?_eq_some_iff.1 HAr.out).1
      have hQ3 := Nat.le_trans hQ1 HB.out.size
      by_cases hlt : k < m
      · obtain ⟨g, o, rfl, hg, e8⟩ := H2.out.at8 hlt
        have hv := HV.out k hlt
        have e9 := e8.below (HB.out.mono hQ2) hg
        unfold At8 at e9
        rw [hv] at e9
        have hhd := HHD.out k hlt
        obtain ⟨a, ha⟩ : ∃ a : Nat, a = (V k).pr.toNat := ⟨_, rfl⟩
        obtain ⟨q, hq⟩ : ∃ q : Nat, q = (V k).hd.toNat := ⟨_, rfl⟩
        have e5 : (V k).pr = (a : Int) := by omega
        have e6 : (V k).hd = (q : Int) := by omega
        have ha1 : a ≤ 100 := by omega
        have hq1 : q ≤ 100 := by omega
        rw [e5, e6] at e9
        obtain ⟨c0, c1, c2, c3, c4, c5, c6, c7⟩ := e9
        have hW : warpC (heldL V m) (k + 1) = warpC (heldL V m) k ++ runC (k : Int) a q := by rw [warpC, heldL_at hlt, ha, hq]
        have HS : Hid (putsP (heldW ws) (emptyO ws.length) (warpC (heldL V m) (k + 1)) = putsP (heldW ws) O' (runC (k : Int) a q)) := by
          show _ = _
          rw [hW, putsP_app, HPk.out]; rfl
        have HAS : Hid (∀ W, Below wr.heap.size wr W → Calls Tryz.prog 73 #[.agg #[.slice A n c, .slice Ao n co], .int .i64 (a : Int), .int .i64 (q : Int), .int .i64 (k : Int)] W fun e w' => e = .returned (.bool (putsP (heldW ws) O' (runC (k : Int) a q)).isSome) ∧ (∀ O2, putsP (heldW ws) O' (runC (k : Int) a q) = some O2 → OwnK 3 .i64 w' (w1.heap.size + 1) Ao n co O2) ∧ Kp (fun q => some q = (Value.slice Ao n co).ownBlock) W w') := fun W hb => assign_any A n c Q1 ws Ao co (w1.heap.size + 1) O' a q (k : Int) W (H1.out.below ((HB.out.trans (hb.mono HB.out.size)).mono hQ1)) (Nat.le_trans hQ3 hb.size) HX.out HGX.out hn16 (HO.out.below hb) (by omega) ha1 hq1
        clear e8 hv hhd ha hq e5 e6 ha1 hq1 hW
        generalize (V k).kd = v0 at *
        generalize (V k).td = v3 at *
        generalize (V k).ph = v4 at *
        generalize (V k).sn = v7 at *
        have hb1 := bel1 wr (.cells #[.int .i64 v0, .slice (wat xs k).A (V k).vs.length (wat xs k).c, .slice (wat xs k).B (V k).gs.length (wat xs k).d, .int .u32 (v3 : Int), .int .i64 v4, .int .i64 (a : Int), .int .i64 (q : Int), .int .u32 (v7 : Int)] 49)
        go_wp2_with fail
        refine (HAS.out _ hb1).mono ?_
        rintro e w4 ⟨rfl, ho, hk4⟩
        have K4 : Kp (fun q => some q = (Value.slice Ao n co).ownBlock) wr w4 := (Kp.of_below hb1).trans hk4
        have HB4 : Hid (Below w.heap.size w w4) := Kp.bel K4 HB.out HB.out.size (fun q hq => by have := HOB.out q hq.symm; omega)
        have HA4 := Lib.hid ((K4.block _ zA (fun e => by have := HOB.out _ e.symm; omega)).trans HAr.out)
        have HO4 := Lib.hid ho
        clear ho hk4 K4 HAS hb1 HB HO HAr a0 a1 c0 c1 c2 c3 c4 c5 c6 c7
        cases hp : putsP (heldW ws) O' (runC (k : Int) a q) with
        | none =>
          rw [hp] at HS
          have HN : Hid (ownsM ws m V = none) := by
            show _ = _
            rw [HE.out]
            unfold ownI
            rw [heldL_len, warps_none HS.out (by omega)]; rfl
          clear HS HO4 hp
          simp only [Option.isSome_none]
          go_wp2
          go_ret2
          refine ⟨none, 0, 0, by rw [HN.out]; rfl, fun O h => ?_, HB4.out⟩
          rw [HN.out] at h; cases h
        | some O4 =>
          rw [hp] at HS HO4
          have O5 := Lib.hid (HO4.out O4 rfl)
          clear HO4 hp
          simp only [Option.isSome_some]
          go_wp2
          go_roundw
          case rel => exact ⟨k + 1, O4, by omega, by go_num, HS, O5, HA4, HB4⟩
          case measure => simp [intOf]; omega
      · obtain rfl : k = m := by omega
        have HAB : Hid (∀ W, Below wr.heap.size wr W → Calls Tryz.prog 74 #[.agg #[.slice A n c, .slice Ao n co]] W fun e w' => e = .returned (.bool (blocksF ws n O').isSome) ∧ Hid (∀ O2, blocksF ws n O' = some O2 → OwnK 3 .i64 w' (w1.heap.size + 1) Ao n co O2) ∧ Hid (Kp (fun q => some q = (Value.slice Ao n co).ownBlock) wr w') ∧ (w'.cell? ⟨w2.heap.size, 0, none⟩ = some (.slice A n c) ∧ w'.cell? ⟨w2.heap.size, 1, none⟩ = some (.slice Ao n co))) := fun W hb => (assignBlocks_any A n c Q1 ws Ao co (w1.heap.size + 1) O' W (H1.out.below ((HB.out.trans (hb.mono HB.out.size)).mono hQ1)) (Nat.le_trans hQ3 hb.size) HX.out HGX.out hn16 (HO.out.below hb) (by omega)).mono fun e w' ⟨he, ho, hk⟩ => by
          have K4 : Kp (fun q => some q = (Value.slice Ao n co).ownBlock) wr w' := (Kp.of_below hb).trans hk
          have e2 := (K4.block _ zA (fun e => by have := HOB.out _ e.symm; omega)).trans HAr.out
          exact ⟨he, ho, K4, blkc e2 0 rfl, blkc e2 1 rfl⟩
        have HF : Hid (ownsM ws k V = blocksF ws n O') := by
          show _ = _
          rw [HE.out]
          unfold ownI
          rw [heldL_len, HPk.out, HL.out]; rfl
        have x0 : wr.cell? ⟨w2.heap.size, 0, none⟩ = some (.slice A n c) ∧ wr.cell? ⟨w2.heap.size, 1, none⟩ = some (.slice Ao n co) := ⟨a0, a1⟩
        have x0d : wr.drew.cell? ⟨w2.heap.size, 0, none⟩ = some (.slice A n c) ∧ wr.drew.cell? ⟨w2.heap.size, 1, none⟩ = some (.slice Ao n co) := x0
        have D0 : Hid (Below wr.heap.size wr wr.drew) := (Below.refl _ _).drew
        clear HPk HE
        generalize blocksF ws n O' = R at *
        go_wp2_with fail
        go_region_held3 (fun w' => w'.cell? ⟨w2.heap.size, 0, none⟩ = some (.slice A n c) ∧ w'.cell? ⟨w2.heap.size, 1, none⟩ = some (.slice Ao n co))
          (first | (with_reducible exact x0) | (with_reducible exact x0d) | (with_reducible exact xe))
          (first | (go_at_call 74; (with_reducible refine (HAB.out _ D0.out).mono ?_); rintro e we ⟨rfl, OE, KE, xe⟩))
        all_goals
          have HB4 : Hid (Below w.heap.size w we) := Kp.bel KE.out HB.out HB.out.size (fun q hq => by have := HOB.out q hq.symm; omega)
          clear KE HB HAB x0 x0d D0 xe HO HAr
          go_wp2
          go_ret2
          exact ⟨Ao, n, co, by rw [HF.out]; rfl, fun O h => ⟨rfl, (OE.out O (by rw [← HF.out]; exact h)).from_ (by omega)⟩, HB4.out⟩
  · have k0 : decide (PartsOk ws m V) = false := decide_eq_false e0
    have HE : Hid (ownsM ws m V = none) := if_neg e0
    clear e0
    go_enter Tryz.func62, Tryz.ntmps62
    go_wp2_with fail
    refine (HP.out _ HB0.out).mono ?_
    rintro e w1 ⟨rfl, hb⟩
    obtain ⟨hA, hB1, z1⟩ := nw1 hb
    have B1 := Lib.hid hB1
    clear hb hA hB1 HP HB0
    go_wp2
    go_ret2
    refine ⟨none, 0, 0, by rw [HE.out]; rfl, fun O h => ?_, B1.out⟩
    rw [HE.out] at h; cases h

set_option maxHeartbeats 1000000 in
theorem machOk_any (A : Option Addr) (n c Q1 : Nat) (ws : List Nat) (B : Option Addr) (m d Q2 : Nat) (xs : List Wc) (V : Nat → WV) (w : World) (h1 : Rd w Q1 A n (ints ws)) (hQ1 : Q1 ≤ w.heap.size) (hX : ∀ X ∈ ws, X < 4294967296) (hn : n ≤ maxLen) (h2 : RdW w Q2 B m xs) (hQ2 : Q2 ≤ w.heap.size) (hm : m ≤ maxLen) (hV : ∀ i, i < m → (wat xs i).v = V i) (hf : ∀ i, i < m → (V i).Fit) :
    Calls Tryz.prog 40 #[.agg #[.slice A n c, .slice B m d]] w fun e w' => e = .returned (.bool (ownsM ws m V).isSome) ∧ Below w.heap.size w w' := by
  have HO : Hid (∀ W, Below w.heap.size w W → Calls Tryz.prog 62 #[.agg #[.slice A n c, .slice B m d]] W fun e w' => ∃ Ao k co, e = .returned (.tuple #[.slice Ao k co, .bool (ownsM ws m V).isSome]) ∧ (∀ O, ownsM ws m V = some O → k = n ∧ OwnK 3 .i64 w' W.heap.size Ao k co O) ∧ Below W.heap.size W w') := fun W hb => owners_any A n c Q1 ws B m d Q2 xs V W (h1.below (hb.mono hQ1)) (Nat.le_trans hQ1 hb.size) hX hn (h2.below (hb.mono hQ2)) (Nat.le_trans hQ2 hb.size) hm hV hf
  have HB0 := Lib.hid (bel1 w (.cells #[.slice A n c, .slice B m d] 37))
  clear h1 h2 hV hf hX
  go_enter Tryz.func40, Tryz.ntmps40
  go_wp2_with fail
  refine (HO.out _ HB0.out).mono ?_
  rintro e w1 ⟨Ao, k, co, rfl, _, hb⟩
  have B1 := Lib.hid (HB0.out.trans (hb.mono HB0.out.size))
  clear hb HO HB0
  go_wp2
  go_ret
  exact ⟨rfl, B1.out⟩

end Go.Proofs.YtefcaeldkdbjdaaGreat
