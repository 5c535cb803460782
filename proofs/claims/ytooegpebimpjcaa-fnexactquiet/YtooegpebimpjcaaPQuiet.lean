/- The walk of FnExactQuiet, over the contracts of what it calls. -/
/- Quiet of the program and of the model, over the contract of MachOk. -/
/- Quiet of the program answers as the model at every argument, and leaves its argument as it was. No condition. -/
import Derived.Test.YtooegpebimpjcaaLawMach
import Derived.Test.YtooegpebimpjcaaIWarp
import Derived.Test.YtooegpebimpjcaaOwnM
import Derived.Test.YtooegpebimpjcaaCopyI
import Derived.LoopN
import Derived.Test.YtooegpebimpjcaaMachI
import Derived.Test.YtooegpebimpjcaaMachS
import Derived.Test.YtooegpebimpjcaaOpenM
namespace Go.Proofs.Ytooegpebimpjcaa
open Go.ChangeShapes Go.WideShapes Go.ChangeAt Go.RowKit
set_option linter.unusedVariables false

theorem lens_sameQuiet {n : Nat} {xs ys : List Wc} {k : Nat} (hl : xs.length = n) (hl2 : ys.length = n) (hv : vals8 ys = vals8 xs) (h : ∀ i, i < n → (wat xs i).v.vs.length ≤ k ∧ (wat xs i).v.gs.length ≤ k) : ∀ i, i < n → (wat ys i).v.vs.length ≤ k ∧ (wat ys i).v.gs.length ≤ k := fun i hi => by
  rw [wat_v (xs := ys) rfl (by rw [hl2]; exact hi), hv, ← wat_v (xs := xs) rfl (by rw [hl]; exact hi)]
  exact h i hi

set_option maxRecDepth 100000 in
set_option maxHeartbeats 8000000 in
theorem fnExactQuiet_all (A : Option Addr) (n c : Nat) (zs : List Int) (B : Option Addr) (m d : Nat) (xs : List Wc) (r : Bool) (w : World) (h1 : Rd w w.heap.size A n zs) (hm1 : n ≤ maxLen) (h2 : RdW w w.heap.size B m xs) (hm2 : m ≤ maxLen) (hf : ∀ i, i < m → (wat xs i).v.vs.length ≤ maxLen ∧ (wat xs i).v.gs.length ≤ maxLen)
    (hs : ∀ W g g2 ys, Rd W W.heap.size (some ⟨g, 0, none⟩) n zs → RdW W W.heap.size (some ⟨g2, 0, none⟩) m ys → vals8 ys = vals8 xs → Calls Try.prog 38 #[.agg #[.slice (some ⟨g, 0, none⟩) n n, .slice (some ⟨g2, 0, none⟩) m m]] W fun e w' => e = .returned (.bool r) ∧ Below W.heap.size W w')
    (hi : ∀ W g g2 ys, Rd W W.heap.size (some ⟨g, 0, none⟩) n zs → RdW W W.heap.size (some ⟨g2, 0, none⟩) m ys → vals8 ys = vals8 xs → Calls Try.prog 39 #[.agg #[.slice (some ⟨g, 0, none⟩) n n, .slice (some ⟨g2, 0, none⟩) m m]] W fun e w' => e = .returned (.bool r) ∧ Below W.heap.size W w') :
    Calls Try.prog 8 #[.agg #[.slice A n c, .slice B m d]] w fun e w' => e = .returned (.bool true) ∧ Below w.heap.size w w' := by
  have HS := Lib.hid hs
  have HI := Lib.hid hi
  have H1 := Lib.hid h1
  have H2 := Lib.hid h2
  have HF := Lib.hid hf
  have hbb : (r != r) = false := by simp
  have HB0 := Lib.hid (bel1 w (.cells #[.slice A n c, .slice B m d] 60))
  have HZ : Hid (∀ W, Below w.heap.size w W → Calls Try.prog 29 #[.agg #[.slice A n c, .slice B m d], .int .i64 1048576] W fun e w' => ∃ r : Int, e = .returned (.int .i64 r) ∧ (r = -1 ∨ (0 ≤ r ∧ r ≤ 1048576 ∧ n ≤ 1048576 ∧ m ≤ 1048576 ∧ ∀ i, i < m → (wat xs i).v.vs.length ≤ 1048576 ∧ (wat xs i).v.gs.length ≤ 1048576)) ∧ Below W.heap.size W w') := fun W hb => szMach_any A n c B m d w.heap.size xs W hm1 (h2.below hb) hb.size hm2 hf
  clear hs hi h1 h2 hf
  go_enter Try.func8, Try.ntmps8
  go_wp2_with fail
  refine (HZ.out _ HB0.out).mono ?_
  rintro e w1 ⟨r0, rfl, hr0, hb⟩
  obtain ⟨hA, hB1, z1⟩ := nw1 hb
  have V1 := Lib.hid hA
  have B1 := Lib.hid hB1
  clear hb hA hB1 HZ HB0
  rcases hr0 with rfl | ⟨p1, p2, p3, p4, p5⟩
  · have hq : (-1 : Int) < 0 := by omega
    go_wp2
    go_ret
    exact ⟨rfl, B1.out⟩
  · have hq : ¬ r0 < 0 := by omega
    have HT : Hid (∀ W, Below w.heap.size w W → Calls Try.prog 31 #[.agg #[.slice A n c, .slice B m d]] W fun e w' => ∃ g g2 ys, e = .returned (.agg #[.slice (some ⟨g, 0, none⟩) n n, .slice (some ⟨g2, 0, none⟩) m m]) ∧ Own w' W.heap.size (some ⟨g, 0, none⟩) n n zs ∧ OwnM w' (g + 1) (some ⟨g2, 0, none⟩) m m ys ∧ vals8 ys = vals8 xs ∧ Below W.heap.size W w') := fun W hb => toMach_any A n c w.heap.size zs B m d w.heap.size xs W (H1.out.below hb) hb.size p3 (H2.out.below hb) hb.size p4 p5
    clear p5
    have a0 := blkc V1.out 0 rfl
    have a1 := blkc V1.out 1 rfl
    go_wp2_with fail
    clear a0 a1
    refine (HT.out _ B1.out).mono ?_
    rintro e w2 ⟨gx, hx, yx, rfl, ho, hM, hv, hb⟩
    have z2 := hb.size
    have V2 := Lib.hid ((hb.block _ z1).trans V1.out)
    have B2 := Lib.hid (B1.out.trans (hb.mono B1.out.size))
    have O2 := Lib.hid ho.rd
    have M2 := Lib.hid hM.rd
    have X2 := Lib.hid hv
    clear hb ho hM hv V1 B1
    go_wp2_with fail
    refine (HS.out _ _ _ _ O2.out M2.out X2.out).mono ?_
    rintro e w3 ⟨rfl, hb⟩
    have z3 := hb.size
    have V3 := Lib.hid ((hb.block _ (by omega)).trans V2.out)
    have B3 := Lib.hid (B2.out.trans (hb.mono B2.out.size))
    have a0 := blkc V3.out 0 rfl
    have a1 := blkc V3.out 1 rfl
    clear hb O2 M2 X2 V2 B2 HS
    go_wp2_with fail
    clear a0 a1
    refine (HT.out _ B3.out).mono ?_
    rintro e w4 ⟨gy, hy, yy, rfl, ho, hM, hv, hb⟩
    have z4 := hb.size
    have hk := bel1 w4 (.cells #[.slice (some ⟨gy, 0, none⟩) n n, .slice (some ⟨hy, 0, none⟩) m m] 51)
    have V4 := Lib.hid ((hk.block _ (by omega)).trans ((hb.block _ (by omega)).trans V3.out))
    have B4 := Lib.hid ((B3.out.trans (hb.mono B3.out.size)).trans (hk.mono (B3.out.trans (hb.mono B3.out.size)).size))
    have O4 := Lib.hid (ho.alloc (.cells #[.slice (some ⟨gy, 0, none⟩) n n, .slice (some ⟨hy, 0, none⟩) m m] 51))
    have M4 := Lib.hid (hM.alloc (.cells #[.slice (some ⟨gy, 0, none⟩) n n, .slice (some ⟨hy, 0, none⟩) m m] 51))
    have Y4 : Hid ((w4.alloc (.cells #[.slice (some ⟨gy, 0, none⟩) n n, .slice (some ⟨hy, 0, none⟩) m m] 51)).heap[w4.heap.size]? = some (.cells #[.slice (some ⟨gy, 0, none⟩) n n, .slice (some ⟨hy, 0, none⟩) m m] 51 (0, 0))) := heap_alloc_new _ _
    have X4 := Lib.hid hv
    have LY := Lib.hid hM.len
    clear hb hk ho hM hv V3 B3
    go_wp2_with fail
    refine (HI.out _ _ _ _ O4.out.rd M4.out.rd X4.out).mono ?_
    rintro e w5 ⟨rfl, hb⟩
    have z5 := hb.size
    rw [sz1] at z5
    have V5 := Lib.hid ((hb.block _ (by rw [sz1]; omega)).trans V4.out)
    have Y5 := Lib.hid ((hb.block _ (by rw [sz1]; omega)).trans Y4.out)
    have B5 := Lib.hid (B4.out.trans (hb.mono B4.out.size))
    have O5 := Lib.hid (O4.out.below hb).rd
    have M5 := Lib.hid (M4.out.below hb).rd
    clear hb V4 Y4 B4 O4 M4 HI
    have x0 : w5.cell? ⟨w4.heap.size, 0, none⟩ = some (.slice (some ⟨gy, 0, none⟩) n n) ∧ w5.cell? ⟨w4.heap.size, 1, none⟩ = some (.slice (some ⟨hy, 0, none⟩) m m) ∧ w5.cell? ⟨w.heap.size, 0, none⟩ = some (.slice A n c) ∧ w5.cell? ⟨w.heap.size, 1, none⟩ = some (.slice B m d) := ⟨blkc Y5.out 0 rfl, blkc Y5.out 1 rfl, blkc V5.out 0 rfl, blkc V5.out 1 rfl⟩
    have x0d : w5.drew.cell? ⟨w4.heap.size, 0, none⟩ = some (.slice (some ⟨gy, 0, none⟩) n n) ∧ w5.drew.cell? ⟨w4.heap.size, 1, none⟩ = some (.slice (some ⟨hy, 0, none⟩) m m) ∧ w5.drew.cell? ⟨w.heap.size, 0, none⟩ = some (.slice A n c) ∧ w5.drew.cell? ⟨w.heap.size, 1, none⟩ = some (.slice B m d) := x0
    have D0 : Hid (Below w5.heap.size w5 w5.drew) := (Below.refl _ _).drew
    have xS : Hid (∀ w', Below w5.heap.size w5 w' → w'.cell? ⟨w4.heap.size, 0, none⟩ = some (.slice (some ⟨gy, 0, none⟩) n n) ∧ w'.cell? ⟨w4.heap.size, 1, none⟩ = some (.slice (some ⟨hy, 0, none⟩) m m) ∧ w'.cell? ⟨w.heap.size, 0, none⟩ = some (.slice A n c) ∧ w'.cell? ⟨w.heap.size, 1, none⟩ = some (.slice B m d)) := fun w' hb => ⟨later_at0 hb x0.1, later_at0 hb x0.2.1, later_at0 hb x0.2.2.1, later_at0 hb x0.2.2.2⟩
    have CT : Hid (∀ W', Below w5.heap.size w5 W' → Calls Try.prog 31 #[.agg #[.slice A n c, .slice B m d]] W' fun e w' => ∃ g g2 ys, e = .returned (.agg #[.slice (some ⟨g, 0, none⟩) n n, .slice (some ⟨g2, 0, none⟩) m m]) ∧ Hid (Rd w' w'.heap.size (some ⟨g, 0, none⟩) n zs) ∧ Hid (RdW w' w'.heap.size (some ⟨g2, 0, none⟩) m ys) ∧ Hid (vals8 ys = vals8 xs) ∧ Hid (Below w5.heap.size w5 w') ∧ (w'.cell? ⟨w4.heap.size, 0, none⟩ = some (.slice (some ⟨gy, 0, none⟩) n n) ∧ w'.cell? ⟨w4.heap.size, 1, none⟩ = some (.slice (some ⟨hy, 0, none⟩) m m) ∧ w'.cell? ⟨w.heap.size, 0, none⟩ = some (.slice A n c) ∧ w'.cell? ⟨w.heap.size, 1, none⟩ = some (.slice B m d))) := fun W' hb => (HT.out W' (B5.out.trans (hb.mono B5.out.size))).mono fun e w' ⟨g, g2, ys, he, ho, hM, hv, hb2⟩ => ⟨g, g2, ys, he, ho.rd, hM.rd, hv, hb.trans (hb2.mono hb.size), xS.out w' (hb.trans (hb2.mono hb.size))⟩
    have CE : Hid (∀ W' g g2 ys, Below w5.heap.size w5 W' → Rd W' W'.heap.size (some ⟨g, 0, none⟩) n zs → RdW W' W'.heap.size (some ⟨g2, 0, none⟩) m ys → vals8 ys = vals8 xs → Calls Try.prog 26 #[.agg #[.slice (some ⟨gy, 0, none⟩) n n, .slice (some ⟨hy, 0, none⟩) m m], .agg #[.slice (some ⟨g, 0, none⟩) n n, .slice (some ⟨g2, 0, none⟩) m m]] W' fun e w' => e = .returned (.bool true) ∧ Hid (Below w5.heap.size w5 w') ∧ (w'.cell? ⟨w4.heap.size, 0, none⟩ = some (.slice (some ⟨gy, 0, none⟩) n n) ∧ w'.cell? ⟨w4.heap.size, 1, none⟩ = some (.slice (some ⟨hy, 0, none⟩) m m) ∧ w'.cell? ⟨w.heap.size, 0, none⟩ = some (.slice A n c) ∧ w'.cell? ⟨w.heap.size, 1, none⟩ = some (.slice B m d))) := fun W' g g2 ys hb k1 k2 k3 => (eqMach_any _ _ n n n _ _ m m m w5.heap.size W'.heap.size w5.heap.size W'.heap.size zs yy ys W' (O5.out.below hb) k1 (M5.out.below hb) k2 (X4.out.trans k3.symm) hb.size (Nat.le_refl _) hb.size (Nat.le_refl _) p3 hm2 (lens_sameQuiet H2.out.1 LY.out X4.out HF.out)).mono fun e w' ⟨he, hb2⟩ => ⟨he, hb.trans (hb2.mono hb.size), xS.out w' (hb.trans (hb2.mono hb.size))⟩
    clear V5 Y5 O5 M5 HT
    go_wp2_with fail
    go_cut [26] (fun s0 wx => s0 = .bool false ∧ Hid (Below w5.heap.size w5 wx))
    case first =>
      go_region_held3 (fun w' => w'.cell? ⟨w4.heap.size, 0, none⟩ = some (.slice (some ⟨gy, 0, none⟩) n n) ∧ w'.cell? ⟨w4.heap.size, 1, none⟩ = some (.slice (some ⟨hy, 0, none⟩) m m) ∧ w'.cell? ⟨w.heap.size, 0, none⟩ = some (.slice A n c) ∧ w'.cell? ⟨w.heap.size, 1, none⟩ = some (.slice B m d))
        (first | (with_reducible exact x0) | (with_reducible exact x0d) | (with_reducible exact xt) | (with_reducible exact xe))
        (first | (go_at_call 31; (with_reducible refine (CT.out _ D0.out).mono ?_); rintro e wt ⟨gq, hq, yq, rfl, RT, RM, RV, BT, xt⟩)
               | (go_at_call 26; (with_reducible refine (CE.out _ _ _ _ BT.out RT.out RM.out RV.out).mono ?_); rintro e we ⟨rfl, BE, xe⟩))
      all_goals (go_wp2_with fail; go_meet; exact ⟨rfl, BE⟩)
    case rest =>
      obtain ⟨rfl, hb0⟩ := hcut
      have B6 := Lib.hid (B5.out.trans (hb0.out.mono B5.out.size))
      clear hb0 x0 x0d D0 xS CT CE B5
      go_wp2
      go_ret
      exact ⟨rfl, B6.out⟩

end Go.Proofs.Ytooegpebimpjcaa

namespace Go.Proofs.Ytooegpebimpjcaa
open Go.RowKit
set_option linter.unusedVariables false

/-- Every warp of the list is idle. -/
def IdleAll (m : Nat) (V : Nat → WV) : Prop := ∀ i, i < m → (V i).kd = 0
instance (m : Nat) (V : Nat → WV) : Decidable (IdleAll m V) := inferInstanceAs (Decidable (∀ i, i < m → _))

set_option maxRecDepth 100000 in
set_option maxHeartbeats 2000000 in
theorem quiet_of (A : Option Addr) (n c : Nat) (B : Option Addr) (m d Q2 : Nat) (xs : List Wc) (V : Nat → WV) (b : Bool) (w : World) (h2 : RdW w Q2 B m xs) (hQ2 : Q2 ≤ w.heap.size) (hm : m ≤ maxLen) (hV : ∀ i, i < m → (wat xs i).v = V i)
    (hM : ∀ W, Below w.heap.size w W → Calls Try.prog 32 #[.agg #[.slice A n c, .slice B m d]] W fun e w' => e = .returned (.bool b) ∧ Below W.heap.size W w') :
    Calls Try.prog 39 #[.agg #[.slice A n c, .slice B m d]] w fun e w' => e = .returned (.bool (b && decide (IdleAll m V))) ∧ Below w.heap.size w w' := by
  have HM := Lib.hid hM
  have H2 := Lib.hid h2
  have HV := Lib.hid hV
  have HB0 := Lib.hid (bel1 w (.cells #[.slice A n c, .slice B m d] 51))
  unfold maxLen at hm
  clear h2 hV hM
  cases b
  · go_enter Try.func39, Try.ntmps39
    go_wp2_with fail
    refine (HM.out _ HB0.out).mono ?_
    rintro e w1 ⟨rfl, hb⟩
    have B1 := Lib.hid (HB0.out.trans (hb.mono HB0.out.size))
    clear hb HM HB0
    go_wp2
    go_ret
    exact ⟨rfl, B1.out⟩
  · go_enter Try.func39, Try.ntmps39
    go_wp2_with fail
    refine (HM.out _ HB0.out).mono ?_
    rintro e w1 ⟨rfl, hb⟩
    obtain ⟨hA, hB1, z1⟩ := nw1 hb
    have B1 := Lib.hid hB1
    have a1 := blkc hA 1 rfl
    clear hb hA hB1 HM HB0
    go_wp2
    clear a1
    go_loopw [11] (fun i wr => ∃ k : Nat, k ≤ m ∧ i = .int .i64 (k : Int) ∧ Hid (∀ i, i < k → (V i).kd = 0) ∧ Hid (Below w.heap.size w wr)) (fun i _ => m - (intOf i).toNat)
    case atStart => exact ⟨0, Nat.zero_le _, rfl, fun i hi => absurd hi (by omega), B1⟩
    case round =>
      obtain ⟨k, hk, rfl, HK, HB⟩ := hrel
      clear B1
      by_cases hlt : k < m
      · obtain ⟨g, o, rfl, hg, e8⟩ := H2.out.at8 hlt
        have hv := HV.out k hlt
        have e9 := e8.below (HB.out.mono hQ2) hg
        unfold At8 at e9
        rw [hv] at e9
        obtain ⟨c0, c1, c2, c3, c4, c5, c6, c7⟩ := e9
        clear e8 hv
        by_cases hz : (V k).kd = 0
        · have hz1 : ((V k).kd != 0) = false := by simp [hz]
          have HN : Hid (∀ i, i < k + 1 → (V i).kd = 0) := fun i hi => by
            by_cases e : i = k
            · subst e; exact hz
            · exact HK.out i (by omega)
          clear hz HK
          generalize (V k).kd = v0 at *
          have HB2 := Lib.hid (HB.out.alloc HB.out.size (.cells #[.int .i64 v0, .slice (wat xs k).A (V k).vs.length (wat xs k).c, .slice (wat xs k).B (V k).gs.length (wat xs k).d, .int .u32 ((V k).td : Int), .int .i64 (V k).ph, .int .i64 (V k).pr, .int .i64 (V k).hd, .int .u32 ((V k).sn : Int)] 35))
          clear HB
          go_wp2
          go_roundw
          case rel => exact ⟨k + 1, by omega, by go_num, HN, HB2⟩
          case measure => simp [intOf]; omega
        · have hz1 : ((V k).kd != 0) = true := by simpa using hz
          have HN : Hid ((true && decide (IdleAll m V)) = false) := by show _ = _; rw [decide_eq_false (fun h => hz (h k hlt))]; rfl
          clear hz HK
          generalize (V k).kd = v0 at *
          have HB2 := Lib.hid (HB.out.alloc HB.out.size (.cells #[.int .i64 v0, .slice (wat xs k).A (V k).vs.length (wat xs k).c, .slice (wat xs k).B (V k).gs.length (wat xs k).d, .int .u32 ((V k).td : Int), .int .i64 (V k).ph, .int .i64 (V k).pr, .int .i64 (V k).hd, .int .u32 ((V k).sn : Int)] 35))
          clear HB
          go_wp2
          go_ret
          exact ⟨by rw [HN.out]; rfl, HB2.out⟩
      · have HN : Hid ((true && decide (IdleAll m V)) = true) := by show _ = _; rw [decide_eq_true (show IdleAll m V from fun i hi => HK.out i (by omega))]; rfl
        go_wp2
        go_ret
        exact ⟨by rw [HN.out]; rfl, HB.out⟩

set_option maxRecDepth 100000 in
set_option maxHeartbeats 2000000 in
theorem l08Quiet_any (A : Option Addr) (n c : Nat) (B : Option Addr) (m d Q2 : Nat) (xs : List Wc) (V : Nat → WV) (w : World) (h2 : RdW w Q2 B m xs) (hQ2 : Q2 ≤ w.heap.size) (hm : m ≤ maxLen) (hV : ∀ i, i < m → (wat xs i).v = V i) :
    Calls Try.prog 76 #[.agg #[.slice A n c, .slice B m d]] w fun e w' => e = .returned (.bool (decide (IdleAll m V))) ∧ Below w.heap.size w w' := by
  have H2 := Lib.hid h2
  have HV := Lib.hid hV
  unfold maxLen at hm
  clear h2 hV
  go_enter Try.func76, Try.ntmps76
  go_wp2
  go_loop [3] (fun i => ∃ k : Nat, k ≤ m ∧ i = .int .i64 (k : Int) ∧ Hid (∀ i, i < k → (V i).kd = 0)) (fun i => m - (intOf i).toNat)
  case atStart => exact ⟨0, Nat.zero_le _, rfl, fun i hi => absurd hi (by omega)⟩
  case round =>
    obtain ⟨k, hk, rfl, HK⟩ := hrel
    by_cases hlt : k < m
    · obtain ⟨g, o, rfl, hg, e8⟩ := H2.out.at8 hlt
      have hv := HV.out k hlt
      have e9 := e8.below ((bel1 w (.cells #[.slice A n c, .slice (some ⟨g, o, none⟩) m d] 51)).mono hQ2) hg
      unfold At8 at e8 e9
      rw [hv] at e8 e9
      have c0 := e8.1
      have c1 := e9.1
      have hgw : g < w.heap.size := by omega
      clear e8 e9 hv
      by_cases hz : (V k).kd = 0
      · have hz1 : ((V k).kd != 0) = false := by simp [hz]
        have HN : Hid (∀ i, i < k + 1 → (V i).kd = 0) := fun i hi => by
          by_cases e : i = k
          · subst e; exact hz
          · exact HK.out i (by omega)
        clear hz HK
        generalize (V k).kd = v0 at *
        go_wp2
        go_round
        case rel => exact ⟨k + 1, by omega, by go_num, HN⟩
        case measure => simp [intOf]; omega
      · have hz1 : ((V k).kd != 0) = true := by simpa using hz
        have HN : Hid (decide (IdleAll m V) = false) := decide_eq_false (fun h => hz (h k hlt))
        clear hz HK
        generalize (V k).kd = v0 at *
        go_wp2
        go_ret
        exact ⟨by rw [HN.out]; rfl, bel1 _ _⟩
    · have HN : Hid (decide (IdleAll m V) = true) := decide_eq_true (fun i hi => HK.out i (by omega))
      go_wp2
      go_ret
      exact ⟨by rw [HN.out]; rfl, bel1 _ _⟩

set_option maxHeartbeats 1000000 in
theorem sQuiet_of (A : Option Addr) (n c : Nat) (B : Option Addr) (m d Q2 : Nat) (xs : List Wc) (V : Nat → WV) (b : Bool) (w : World) (h2 : RdW w Q2 B m xs) (hQ2 : Q2 ≤ w.heap.size) (hm : m ≤ maxLen) (hV : ∀ i, i < m → (wat xs i).v = V i)
    (hM : ∀ W, Below w.heap.size w W → Calls Try.prog 30 #[.agg #[.slice A n c, .slice B m d]] W fun e w' => e = .returned (.bool b) ∧ Below W.heap.size W w') :
    Calls Try.prog 38 #[.agg #[.slice A n c, .slice B m d]] w fun e w' => e = .returned (.bool (b && decide (IdleAll m V))) ∧ Below w.heap.size w w' := by
  have HM := Lib.hid hM
  have HQ : Hid (∀ W, Below w.heap.size w W → Calls Try.prog 76 #[.agg #[.slice A n c, .slice B m d]] W fun e w' => e = .returned (.bool (decide (IdleAll m V))) ∧ Below W.heap.size W w') := fun W hb => l08Quiet_any A n c B m d Q2 xs V W (h2.below (hb.mono hQ2)) (Nat.le_trans hQ2 hb.size) hm hV
  have HB0 := Lib.hid (bel1 w (.cells #[.slice A n c, .slice B m d] 51))
  clear h2 hV hM
  cases b
  · go_enter Try.func38, Try.ntmps38
    go_wp2_with fail
    refine (HM.out _ HB0.out).mono ?_
    rintro e w1 ⟨rfl, hb⟩
    have B1 := Lib.hid (HB0.out.trans (hb.mono HB0.out.size))
    clear hb HM HB0
    go_wp2
    go_ret
    exact ⟨rfl, B1.out⟩
  · go_enter Try.func38, Try.ntmps38
    go_wp2_with fail
    refine (HM.out _ HB0.out).mono ?_
    rintro e w1 ⟨rfl, hb⟩
    obtain ⟨hA, hB1, z1⟩ := nw1 hb
    have B1 := Lib.hid hB1
    have a0 := blkc hA 0 rfl
    have a1 := blkc hA 1 rfl
    clear hb hA hB1 HM HB0
    go_wp2_with fail
    refine (HQ.out _ B1.out).mono ?_
    rintro e w2 ⟨rfl, hb⟩
    have B2 := Lib.hid (B1.out.trans (hb.mono B1.out.size))
    clear hb HQ B1 a0 a1
    go_wp2
    go_ret
    exact ⟨by first | rfl | simp, B2.out⟩

end Go.Proofs.Ytooegpebimpjcaa

namespace Go.Proofs.Ytooegpebimpjcaa
open Go.ChangeShapes Go.WideShapes Go.ChangeAt Go.RowKit
set_option linter.unusedVariables false

theorem fnExactQuiet_walk (A : Option Addr) (n c : Nat) (zs : List Int) (B : Option Addr) (m d : Nat) (xs : List Wc) (w : World) (hr : n ≤ maxLen ∧ RdK .u32 w w.heap.size A n zs ∧ ∀ z ∈ zs, 0 ≤ z ∧ z < 4294967296) (hx : m ≤ maxLen ∧ RdW w w.heap.size B m xs ∧ ∀ x ∈ xs, x.v.Fit) :
    Calls Try.prog 8 #[.agg #[.slice A n c, .slice B m d]] w fun e w' => e = .returned (.bool true) ∧ Below w.heap.size w w' := by
  obtain ⟨hm1, h1, hz⟩ := hr
  obtain ⟨hm2, h2, hfx⟩ := hx
  have hfit : ∀ i, i < m → (wat xs i).v.Fit := fun i hi => hfx _ (wat_mem (by rw [h2.1]; exact hi))
  obtain ⟨ws, rfl⟩ : ∃ ws : List Nat, zs = ints ws := ⟨zs.map Int.toNat, by
    unfold ints
    rw [List.map_map]
    conv => lhs; rw [← List.map_id zs]
    exact List.map_congr_left fun z hz2 => by have := (hz z hz2).1; simp; omega⟩
  have hX : ∀ X ∈ ws, X < 4294967296 := fun X hX => by
    have := (hz (X : Int) (List.mem_map.2 ⟨X, hX, rfl⟩)).2
    omega
  have hV : ∀ ys : List Wc, ys.length = m → vals8 ys = vals8 xs → ∀ i, i < m → (wat ys i).v = (wat xs i).v := fun ys hl hv i hi => by
    rw [wat_v (xs := ys) rfl (by rw [hl]; exact hi), hv, ← wat_v (xs := xs) rfl (by rw [h2.1]; exact hi)]
  exact fnExactQuiet_all A n c (ints ws) B m d xs ((ownsM ws m (fun i => (wat xs i).v)).isSome && decide (IdleAll m (fun i => (wat xs i).v))) w h1 hm1 h2 hm2 (fun i hi => ⟨(hfit i hi).1, (hfit i hi).2.1⟩)
    (fun W g g2 ys k1 k2 k3 => sQuiet_of _ n n _ m m _ ys (fun i => (wat xs i).v) (ownsM ws m (fun i => (wat xs i).v)).isSome W k2 (Nat.le_refl _) hm2 (hV ys k2.1 k3) (fun W2 hb => sMachOk_any _ n n _ ws _ m m _ ys (fun i => (wat xs i).v) W2 (k1.below hb) hb.size hX hm1 (k2.below hb) hb.size hm2 (hV ys k2.1 k3) hfit))
    (fun W g g2 ys k1 k2 k3 => quiet_of _ n n _ m m _ ys (fun i => (wat xs i).v) (ownsM ws m (fun i => (wat xs i).v)).isSome W k2 (Nat.le_refl _) hm2 (hV ys k2.1 k3) (fun W2 hb => machOk_any _ n n _ ws _ m m _ ys (fun i => (wat xs i).v) W2 (k1.below hb) hb.size hX hm1 (k2.below hb) hb.size hm2 (hV ys k2.1 k3) hfit))

set_option maxRecDepth 100000 in
theorem fnExactQuiet_lifted (os : Os) (started : os.Started) (H : Type) (enc : TypeId × Value → H) :
    ReturnsInHanded {} Try.checked os 8 .any (Rows.fnExactQuietSpec.pre6 enc Try.prog Try.f8 Rows.fnExactQuietRow.domain false) (Rows.fnExactQuietSpec.post enc Try.prog Try.f8 false true false false) := by
  refine returnsInHanded_of_change (C := Try.checked) own started (by kernel_rfl) Try.func8
    (ChangeSpec.witness6 (enc := enc) (C := Try.checked) false ⟨#[], #[.agg #[.slice none 0 0, .slice none 0 0]], []⟩ 8 (by kernel_rfl) (by kernel_rfl) (by kernel_rfl) (by kernel_rfl)) ?_
  intro W base args ds gs before hval0 hW hcnd _
  have hval : ∀ (j : Nat) t v, Try.f8.params[j]? = some t → args[j]? = some v → Value.okWide Try.prog W .any base t v := hval0
  have hW' := hW
  obtain ⟨p, q, hA0, hV, rfl, hfz, hnd⟩ := hW
  have hA : DataW.TrodAll enc Try.prog W 0 (fun _ => true) true Try.f8.params.toList args.toList ds p := hA0
  rw [Try.params8] at hA hval
  obtain ⟨v0, vs0, d0, ds0, p0, q0, hargs, rfl, rfl, h0, r0⟩ := trodAll_cons hA
  obtain ⟨rfl, rfl, rfl⟩ := trodAll_nil r0
  obtain rfl : args = #[v0] := by cases args; simp_all
  obtain ⟨rfl, rfl⟩ := trodVars_none hV
  have k0 := h0
  have lt0 : ∀ x ∈ p0, x.block < W.heap.size := by obtain ⟨m, hm⟩ := k0; exact DataW.trod_lt m _ _ _ hm
  obtain ⟨A0, n0, c0, z0, B0, m0, e0, xs0, rfl, rm0, rw0⟩ := open_mach (hval 0 60 v0 rfl rfl) h0
  clear hA0 hval0
  refine (fnExactQuiet_walk A0 n0 c0 z0 B0 m0 e0 xs0 W rm0 rw0).mono fun e W' ⟨he, bel⟩ => ?_
  subst he
  exact ⟨_, rfl, _, _, _, [], _, [], hW', trodAll_mk1 (shut_bool Try.underlying4 _), (trodAll_cons_mk (Below.trod laidOut (by kernel_rfl) (of_decide_eq_true (by kernel_rfl)) k0 bel lt0) (trodAll_mk0)), rfl, bel.frame _, fun h => by cases h⟩

/-- The given statement: for every input the law returns true, and its arguments read as before. -/
theorem fnExactQuiet_holds : Rows.FnExactQuietSaid :=
  OpenClaim.holds_of_wide 8 Try.f8 rfl rfl rfl rfl rfl rfl rfl ⟨rfl, rfl, rfl, rfl, rfl⟩ rfl rfl rfl rfl rfl (by kernel_rfl) Try.func8 (by kernel_rfl)
    (of_decide_eq_true (by kernel_rfl)) (by unfold Func.isWrapper; first | (rw [if_pos (by decide +kernel)]; kernel_rfl) | (rw [if_neg (by decide +kernel)]; exact ⟨rfl, rfl⟩))
    (fun os started H enc _ => fnExactQuiet_lifted os started H enc)
#print axioms fnExactQuiet_holds
end Go.Proofs.Ytooegpebimpjcaa
