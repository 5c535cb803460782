/- FnGroups: every lane of a mask is in one group, with the lanes that have the same value; the leaders of the groups increase. Proved for every code. No condition. -/
import Derived.Test.YtgaphgffchifcaaDrawG
import Derived.Test.YtgaphgffchifcaaIGrpA
import Derived.Test.YtgaphgffchifcaaGrpLaw
import Derived.Test.YtgaphgffchifcaaBList
import Derived.Test.YtgaphgffchifcaaOpenY
namespace Go.Proofs.Ytgaphgffchifcaa
open Go.ChangeShapes Go.WideShapes Go.ChangeAt Go.RowKit
set_option linter.unusedVariables false

theorem ints_nat0 (l : List Nat) (i : Nat) : (ints l)[i]?.getD 0 = (nat0 l i : Int) := by
  unfold ints nat0
  rw [List.getElem?_map]
  cases l[i]? <;> rfl
theorem and_apart {a b : Nat} (ha : a < 4294967296) (hb : b < 4294967296) (h : a &&& b = 0) : bits .and .u32 (a : Int) (b : Int) = 0 := by
  rw [u32_and_nat a b ha hb, h]; rfl
theorem or_words {a b : Nat} (ha : a < 4294967296) (hb : b < 4294967296) : bits .or .u32 (a : Int) (b : Int) = ((a ||| b : Nat) : Int) := u32_or_nat a b ha hb
theorem allW_lt {G : List Nat} (h : ∀ i, i < G.length → nat0 G i < 256) (k : Nat) : allW (G.take k) < 256 := by
  show allW (G.take k) < 2 ^ 8
  refine Nat.lt_pow_two_of_testBit _ fun b hb => ?_
  cases hh : (allW (G.take k)).testBit b with
  | false => rfl
  | true =>
    exfalso
    obtain ⟨g, hg, hgb⟩ := (allW_bit _ _).1 hh
    obtain ⟨j, hj, e⟩ := List.getElem_of_mem (List.mem_of_mem_take hg)
    have := h j hj
    rw [nat0_at hj, e] at this
    have := bit_lt_8 this hgb
    omega

set_option maxRecDepth 100000 in
set_option maxHeartbeats 8000000 in
theorem fnGroups_walk (A : Option Addr) (n c : Nat) (bs : List Int) (w0 : World) (h : RdK .u8 w0 w0.heap.size A n bs) (hm0 : n ≤ maxLen) (hf : ∀ z ∈ bs, 0 ≤ z ∧ z < 256) :
    Calls Try.prog 4 #[.slice A n c] w0 fun e w' => e = .returned (.bool true) ∧ Below w0.heap.size w0 w' := by
  have H := Lib.hid h
  have HF := Lib.hid hf
  clear h hf
  by_cases hn' : n ≤ 1048576
  · have hn : ¬ (1048576 : Int) < (n : Int) := by omega
    go_enter Try.func4, Try.ntmps4
    go_wp2_with fail
    refine (big_any A n c w0).mono ?_
    rintro e w1 ⟨rfl, rfl⟩
    go_wp2_with fail
    refine (drawGroups A n c bs w0 H.out HF.out hn').mono ?_
    rintro e w1 ⟨A1, m1, c1, zs, X, rfl, hm1, hfit, hX, r1, hb1⟩
    have R1 := Lib.hid r1
    have HB1 := Lib.hid hb1
    have HX := Lib.hid hX
    have z1 := hb1.size
    have HGI : Hid (∀ W, Below w1.heap.size w1 W → Calls Try.prog 24 #[.slice A1 m1 c1, .int .u32 (X : Int)] W fun e w' => ∃ A' c', e = .returned (.slice A' (groupsV m1 X zs).length c') ∧ OwnK 24 .u32 w' W.heap.size A' (groupsV m1 X zs).length c' (ints (groupsV m1 X zs)) ∧ Below W.heap.size W w') := fun W hW => iGroups_any A1 m1 c1 _ X zs W (r1.below hW).rd (Nat.le_refl _) hX hfit
    have HGS : Hid (∀ W, Below w1.heap.size w1 W → Calls Try.prog 25 #[.slice A1 m1 c1, .int .u32 (X : Int)] W fun e w' => ∃ A' c', e = .returned (.slice A' (groupsV m1 X zs).length c') ∧ OwnK 24 .u32 w' W.heap.size A' (groupsV m1 X zs).length c' (ints (groupsV m1 X zs)) ∧ Below W.heap.size W w') := fun W hW => sGroups_any A1 m1 c1 _ X zs W (r1.below hW).rd (Nat.le_refl _) hX
    have HOI : Hid (∀ W, Below w1.heap.size w1 W → Calls Try.prog 26 #[.slice A1 m1 c1, .int .u32 (X : Int)] W fun e w' => e = .returned (.int .u32 (groupOfV m1 X zs : Int)) ∧ Below W.heap.size W w') := fun W hW => iGroupOf_any A1 m1 c1 _ X zs W (r1.below hW).rd (Nat.le_refl _) hX hfit
    have HOS : Hid (∀ W, Below w1.heap.size w1 W → Calls Try.prog 27 #[.slice A1 m1 c1, .int .u32 (X : Int)] W fun e w' => e = .returned (.int .u32 (groupOfV m1 X zs : Int)) ∧ Below W.heap.size W w') := fun W hW => sGroupOf_any A1 m1 c1 _ X zs W (r1.below hW).rd (Nat.le_refl _) hX
    have HV : Hid (groupsV m1 X zs ≠ [] → m1 = 8) := fun e => Decidable.byContradiction fun h => e (if_neg fun h2 => h h2.1)
    have HGF : Hid (∃ K, GF zs X (groupsV m1 X zs) K) := by
      by_cases hc : m1 = 8 ∧ X < 256
      · have e : groupsV m1 X zs = groupsL zs (onesTo X 32) := if_pos hc
        rw [e]
        exact ⟨_, gf_of hc.2⟩
      · have e : groupsV m1 X zs = [] := if_neg hc
        rw [e]
        exact ⟨[], rfl, fun i h => by simp at h, fun i h => by simp at h, fun i h => by simp at h, fun i h => by simp at h, fun i j _ h => by simp at h, fun i j _ h => by simp at h, fun i h => by simp at h, fun h => absurd rfl h⟩
    have HG0 : Hid (groupOfV m1 X zs = nat0 (groupsV m1 X zs) 0) := by
      show _ = _
      unfold groupOfV nat0
      rw [List.head?_eq_getElem?]
    have hgl := groupsV_len m1 X zs
    generalize groupOfV m1 X zs = g0 at *
    generalize groupsV m1 X zs = G at *
    obtain ⟨K, hgf⟩ := HGF.out
    have GFh := Lib.hid hgf
    obtain ⟨gl, hgl2⟩ : ∃ gl, G.length = gl := ⟨_, rfl⟩
    rw [hgl2] at HGI HGS hgl
    have HGL := Lib.hid hgl2
    clear r1 hb1 hX hfit H HF hgf HGF hgl2
    go_wp2_with fail
    refine (HGI.out w1 (Below.refl _ _)).mono ?_
    rintro e w2 ⟨A2, c2, rfl, ho2, hb2⟩
    have O2 := Lib.hid ho2
    have B2 := Lib.hid hb2
    have z2 := hb2.size
    clear ho2 hb2
    go_wp2_with fail
    refine (HGS.out w2 B2.out).mono ?_
    rintro e w3 ⟨A3, c3, rfl, ho3, hb3⟩
    have O3 := Lib.hid ho3
    have O2b := Lib.hid (O2.out.below hb3)
    have B3 : Hid (Below w1.heap.size w1 w3) := B2.out.trans (hb3.mono z2)
    have z3 := hb3.size
    clear ho3 hb3 B2 O2 HGI HGS
    go_wp2_with fail
    refine (HOI.out w3 B3.out).mono ?_
    rintro e w4 ⟨rfl, hb4⟩
    have O3b := Lib.hid (O3.out.below hb4)
    have O2c := Lib.hid (O2b.out.below hb4)
    have B4 : Hid (Below w1.heap.size w1 w4) := B3.out.trans (hb4.mono (by omega))
    have z4 := hb4.size
    clear hb4 B3 O2b O3
    go_wp2_with fail
    refine (HOS.out w4 B4.out).mono ?_
    rintro e w5 ⟨rfl, hb5⟩
    have O3c := Lib.hid (O3b.out.below hb5)
    have O2d := Lib.hid (O2c.out.below hb5)
    have B5 : Hid (Below w1.heap.size w1 w5) := B4.out.trans (hb5.mono (by omega))
    have z5 := hb5.size
    clear hb5 B4 O2c O3b HOS
    go_wp2
    go_loopw [7, 8] (fun a i wr => ∃ k : Nat, k ≤ gl ∧ i = .int .i64 k ∧ a = .int .u32 ((allW (G.take k) : Nat) : Int) ∧ Hid (Below w5.heap.size w5 wr)) (fun _ i _ => gl - (intOf i).toNat)
    case atStart => exact ⟨0, by omega, rfl, rfl, Below.refl _ _⟩
    case round =>
      obtain ⟨k, hk, rfl, rfl, HB⟩ := hrel
      have hsw : w5.heap.size ≤ wr.heap.size := HB.out.size
      by_cases hlt : k < gl
      · have hlt' : (k : Int) < (gl : Int) := by omega
        have hkG : k < G.length := by rw [HGL.out]; exact hlt
        obtain rfl := HV.out (fun e => by rw [e] at hkG; simp at hkG)
        obtain ⟨ga, rfl, _, hga⟩ := O2d.out.form (by omega)
        obtain ⟨gb, rfl, _, hgb⟩ := O3c.out.form (by omega)
        obtain ⟨gv, ov, rfl, _, hgv, hcv⟩ := (R1.out.below B5.out).2 (by omega)
        have CA : Hid (∀ i, i < gl → ∀ W, Below w5.heap.size w5 W → W.cell? ⟨ga, i, none⟩ = some (.int .u32 (nat0 G i : Int))) := fun i hi W hW => (hW.cell (p := ⟨ga, i, none⟩) hga).trans ((O2d.out.cell rfl hi).trans (by rw [ints_nat0]))
        have CB : Hid (∀ i, i < gl → ∀ W, Below w5.heap.size w5 W → W.cell? ⟨gb, i, none⟩ = some (.int .u32 (nat0 G i : Int))) := fun i hi W hW => (hW.cell (p := ⟨gb, i, none⟩) hgb).trans ((O3c.out.cell rfl hi).trans (by rw [ints_nat0]))
        have CV : Hid (∀ i, i < 8 → ∀ W, Below w5.heap.size w5 W → W.cell? ⟨gv, ov + i, none⟩ = some (.int .i64 (at0 zs i))) := fun i hi W hW => (hW.cell (p := ⟨gv, ov + i, none⟩) hgv).trans (hcv i hi)
        have hgs := GFh.out.small k hkG
        have has := allW_lt GFh.out.small k
        have hand := and_apart (show nat0 G k < 4294967296 by omega) (show allW (G.take k) < 4294967296 by omega) (GFh.out.apart k hkG)
        have hor := or_words (show allW (G.take k) < 4294967296 by omega) (show nat0 G k < 4294967296 by omega)
        rw [← allW_take hkG] at hor
        have HBL : Hid (∀ W, Calls Try.prog 28 #[.int .u32 (nat0 G k : Int)] W fun e w' => ∃ A c, e = .returned (.slice A (onesTo (nat0 G k) 32).length c) ∧ OwnK 3 .i64 w' W.heap.size A (onesTo (nat0 G k) 32).length c (ints (onesTo (nat0 G k) 32)) ∧ Below W.heap.size W w') := fun W => bitList_any _ W (by omega)
        have HLd : Hid (∀ i, i < gl → ∀ W, Calls Try.prog 19 #[.int .u32 (nat0 G i : Int)] W fun e w' => e = .returned (.int .i64 (nat0 K i : Int)) ∧ Below W.heap.size W w') := fun i hi W => by
          have hi' : i < G.length := by rw [HGL.out]; exact hi
          have := leader_any (nat0 G i) W (by have := GFh.out.small i hi'; omega)
          rw [GFh.out.lead i hi'] at this
          exact this
        have ca := CA.out k hlt wr HB.out
        have cb := CB.out k hlt wr HB.out
        clear hcv
        by_cases hk0 : k = 0
        · have hkz : decide ((0 : Int) < (k : Int)) = false := decide_eq_false (by omega)
          have hkz2 : decide (0 < k) = false := decide_eq_false (by omega)
          have hkz3 : ¬ (0 : Int) < (k : Int) := by omega
          have hkz4 : ¬ 0 < k := by omega
          clear hk0
          go_wp2
          go_quiet (fail)
          have HB6 : Hid (Below w5.heap.size w5 (wr.drewN nq)) := ⟨HB.out.os, HB.out.tape, HB.out.output, HB.out.size, HB.out.block⟩
          generalize wr.drewN nq = w6 at *
          clear hkz hkz2 hkz3 hkz4
          have z6 : w5.heap.size ≤ w6.heap.size := HB6.out.size
          have ca6 := CA.out k hlt w6 HB6.out
          clear ca cb
          go_wp2_with fail
          refine (HBL.out _).mono ?_
          rintro e w7 ⟨A9, c9, rfl, ho9, hb7⟩
          have HB7 : Hid (Below w5.heap.size w5 w7) := HB6.out.trans (hb7.mono z6)
          have z7 : w5.heap.size ≤ w7.heap.size := HB7.out.size
          have O9 := Lib.hid ho9
          obtain ⟨⟨lt, hl0⟩, hall⟩ := GFh.out.ones k hkG
          have hk8 := GFh.out.lane8 k hkG
          have hl32 := onesTo_len (nat0 G k) 32
          have hn0 : nat0 (onesTo (nat0 G k) 32) 0 = nat0 K k := by rw [hl0]; rfl
          have hlp : 0 < (onesTo (nat0 G k) 32).length := by rw [hl0]; simp
          clear ho9 hb7 HBL hl0 HB6 ca6 HB
          generalize onesTo (nat0 G k) 32 = ll at *
          obtain ⟨gn, rfl, _, hgn⟩ := O9.out.form hlp
          have CN : Hid (∀ i, i < ll.length → ∀ W, Below w7.heap.size w7 W → W.cell? ⟨gn, i, none⟩ = some (.int .i64 (nat0 ll i : Int))) := fun i hi W hW => (hW.cell (p := ⟨gn, i, none⟩) hgn).trans ((O9.out.cell rfl hi).trans (by rw [ints_nat0]))
          have HAll : Hid (∀ i, i < ll.length → nat0 ll i < 8 ∧ at0 zs (nat0 ll i) = at0 zs (nat0 K k)) := fun i hi => hall _ (nat0_mem hi)
          obtain ⟨ln, hln⟩ : ∃ ln, ll.length = ln := ⟨_, rfl⟩
          rw [hln] at CN HAll hlp hl32
          have CN0 : Hid (∀ W, Below w7.heap.size w7 W → W.cell? ⟨gn, 0, none⟩ = some (.int .i64 (nat0 K k : Int))) := fun W hW => by rw [← hn0]; exact CN.out 0 hlp W hW
          have HD : Hid (∀ i, i < k → at0 zs (nat0 K i) ≠ at0 zs (nat0 K k) ∧ nat0 K i < 8) := fun i hi => ⟨GFh.out.diff i k hi hkG, GFh.out.lane8 i (by omega)⟩
          clear hall hn0 O9
          generalize hkk : nat0 K k = kk at *
          have hlp' : (0 : Int) < (ln : Int) := by omega
          have hk8' : (kk : Int) < 8 := by omega
          rw [hln]
          clear hln hkk
          go_wp2
          go_loopw [10] (fun i wr => ∃ j : Nat, j ≤ ln ∧ i = .int .i64 j ∧ ∃ q, wr = w7.drewN q) (fun i _ => ln - (intOf i).toNat)
          case atStart => exact ⟨0, by omega, rfl, 0, rfl⟩
          case round =>
            obtain ⟨j, hj, rfl, q, rfl⟩ := hrel
            by_cases hjl : j < ln
            · have hjl' : (j : Int) < (ln : Int) := by omega
              obtain ⟨hx8, hxv⟩ := HAll.out j hjl
              have e1 := CN.out j hjl w7 (Below.refl _ _)
              have e0 := CN0.out w7 (Below.refl _ _)
              have f1 := CV.out (nat0 ll j) hx8 w7 HB7.out
              have f0 := CV.out kk hk8 w7 HB7.out
              rw [hxv] at f1
              generalize nat0 ll j = x at *
              generalize at0 zs kk = z0 at *
              have hx8' : (x : Int) < 8 := by omega
              clear hxv
              go_wp2
              go_quiet (fail)
              go_wp2
              go_roundw
              case rel => exact ⟨j + 1, by omega, by go_num, _, rfl⟩
              case measure => simp [intOf]; omega
            · obtain rfl : j = ln := by omega
              have b7 : Hid (Below w7.heap.size w7 (w7.drewN q)) := ⟨rfl, rfl, rfl, Nat.le_refl _, fun _ _ => rfl⟩
              have z7q : w7.heap.size ≤ (w7.drewN q).heap.size := Nat.le_refl _
              generalize w7.drewN q = w8 at *
              go_wp2
              go_loopw [11] (fun i wr => ∃ j : Nat, j ≤ k ∧ i = .int .i64 j ∧ Hid (Below w7.heap.size w7 wr)) (fun i _ => k - (intOf i).toNat)
              case atStart => exact ⟨0, by omega, rfl, b7⟩
              case round =>
                obtain ⟨j, hj, rfl, HBj⟩ := hrel
                have zj : w7.heap.size ≤ wr.heap.size := HBj.out.size
                by_cases hjk : j < k
                · have hjk' : (j : Int) < (k : Int) := by omega
                  obtain ⟨hne, hx8⟩ := HD.out j hjk
                  have HLj := Lib.hid (HLd.out j (by omega))
                  have hjg : (j : Int) < (gl : Int) := by omega
                  have S0 : Hid (∀ W, Below w7.heap.size w7 W → W.cell? ⟨ga, j, none⟩ = some (.int .u32 (nat0 G j : Int)) ∧ W.cell? ⟨gv, ov + nat0 K j, none⟩ = some (.int .i64 (at0 zs (nat0 K j))) ∧ W.cell? ⟨gn, 0, none⟩ = some (.int .i64 (kk : Int)) ∧ W.cell? ⟨gv, ov + kk, none⟩ = some (.int .i64 (at0 zs kk))) := fun W hW => ⟨CA.out j (by omega) W (HB7.out.trans (hW.mono z7)), CV.out _ hx8 W (HB7.out.trans (hW.mono z7)), CN0.out W hW, CV.out _ hk8 W (HB7.out.trans (hW.mono z7))⟩
                  generalize nat0 G j = gj at *
                  generalize nat0 K j = kj at *
                  generalize at0 zs kj = z1 at *
                  generalize at0 zs kk = z0 at *
                  have hne' : (z1 == z0) = false := by simpa using hne
                  have hx8' : (kj : Int) < 8 := by omega
                  have x0 := S0.out wr HBj.out
                  have drw : Hid (Below w7.heap.size w7 wr.drew) := HBj.out.drew
                  have x0' := S0.out wr.drew drw.out
                  have LR : Hid (Calls Try.prog 19 #[.int .u32 (gj : Int)] wr.drew fun e w' => e = .returned (.int .i64 (kj : Int)) ∧ Hid (Below w7.heap.size w7 w') ∧ (w'.cell? ⟨ga, j, none⟩ = some (.int .u32 (gj : Int)) ∧ w'.cell? ⟨gv, ov + kj, none⟩ = some (.int .i64 z1) ∧ w'.cell? ⟨gn, 0, none⟩ = some (.int .i64 (kk : Int)) ∧ w'.cell? ⟨gv, ov + kk, none⟩ = some (.int .i64 z0))) := (HLj.out wr.drew).mono fun _ w' ⟨he, hb⟩ => ⟨he, drw.out.trans (hb.mono (show _ ≤ wr.heap.size from zj)), S0.out _ (drw.out.trans (hb.mono (show _ ≤ wr.heap.size from zj)))⟩
                  clear hne S0
                  go_wp2_with fail
                  go_region_held3 (fun w' => w'.cell? ⟨ga, j, none⟩ = some (.int .u32 (gj : Int)) ∧ w'.cell? ⟨gv, ov + kj, none⟩ = some (.int .i64 z1) ∧ w'.cell? ⟨gn, 0, none⟩ = some (.int .i64 (kk : Int)) ∧ w'.cell? ⟨gv, ov + kk, none⟩ = some (.int .i64 z0)) (first | exact x0 | exact x0' | exact x5) (first | (go_at_call 19; refine LR.out.mono ?_; rintro e w9 ⟨rfl, b9, x5⟩))
                  go_wp2
                  go_roundw
                  case rel => exact ⟨j + 1, by omega, by go_num, b9⟩
                  case measure => simp [intOf]; omega
                · obtain rfl : j = k := by omega
                  go_wp2
                  go_roundw
                  case rel => exact ⟨j + 1, by omega, by go_num, rfl, HB7.out.trans (HBj.out.mono z7)⟩
                  case measure => simp [intOf]; omega
        · obtain ⟨k', hk'⟩ : ∃ k', k' + 1 = k := ⟨k - 1, by omega⟩
          have hkz : decide ((0 : Int) < (k : Int)) = true := decide_eq_true (by omega)
          have hkz' : (0 : Int) < (k : Int) := by omega
          have hkz2 : decide (0 < k) = true := decide_eq_true (by omega)
          have hkz4 : 0 < k := by omega
          have hkp : (k : Int) - 1 = (k' : Int) := by omega
          have hkw : IntKind.i64.wrap (k' : Int) = (k' : Int) := IntWalk.i64_in _ (by omega)
          have hk'l : (k' : Int) < (gl : Int) := by omega
          have hinc := GFh.out.inc k' k (by omega) hkG
          have hinc' : ¬ ((nat0 K k : Int) ≤ (nat0 K k' : Int)) := by omega
          have hinc2 : ¬ nat0 K k ≤ nat0 K k' := by omega
          have hinc3 : decide ((nat0 K k : Int) ≤ (nat0 K k' : Int)) = false := decide_eq_false hinc'
          have hinc4 : decide (nat0 K k ≤ nat0 K k') = false := decide_eq_false hinc2
          have L1 := Lib.hid (HLd.out k' (by omega))
          have L2 := Lib.hid (HLd.out k hlt)
          have S0 : Hid (∀ W, Below w5.heap.size w5 W → W.cell? ⟨ga, k, none⟩ = some (.int .u32 (nat0 G k : Int)) ∧ W.cell? ⟨gb, k, none⟩ = some (.int .u32 (nat0 G k : Int)) ∧ W.cell? ⟨ga, k', none⟩ = some (.int .u32 (nat0 G k' : Int))) := fun W hW => ⟨CA.out k hlt W hW, CB.out k hlt W hW, CA.out k' (by omega) W hW⟩
          clear hk0 hk' hinc
          have x0 := S0.out wr HB.out
          have drw : Hid (Below w5.heap.size w5 wr.drew) := HB.out.drew
          have x0' := S0.out wr.drew drw.out
          have LA : Hid (∀ W, Below w5.heap.size w5 W → Calls Try.prog 19 #[.int .u32 (nat0 G k' : Int)] W fun e w' => e = .returned (.int .i64 (nat0 K k' : Int)) ∧ Hid (Below w5.heap.size w5 w') ∧ (w'.cell? ⟨ga, k, none⟩ = some (.int .u32 (nat0 G k : Int)) ∧ w'.cell? ⟨gb, k, none⟩ = some (.int .u32 (nat0 G k : Int)) ∧ w'.cell? ⟨ga, k', none⟩ = some (.int .u32 (nat0 G k' : Int)))) := fun W hW => (L1.out W).mono fun _ w' ⟨he, hb⟩ => ⟨he, hW.trans (hb.mono hW.size), S0.out _ (hW.trans (hb.mono hW.size))⟩
          have LB : Hid (∀ W, Below w5.heap.size w5 W → Calls Try.prog 19 #[.int .u32 (nat0 G k : Int)] W fun e w' => e = .returned (.int .i64 (nat0 K k : Int)) ∧ Hid (Below w5.heap.size w5 w') ∧ (w'.cell? ⟨ga, k, none⟩ = some (.int .u32 (nat0 G k : Int)) ∧ w'.cell? ⟨gb, k, none⟩ = some (.int .u32 (nat0 G k : Int)) ∧ w'.cell? ⟨ga, k', none⟩ = some (.int .u32 (nat0 G k' : Int)))) := fun W hW => (L2.out W).mono fun _ w' ⟨he, hb⟩ => ⟨he, hW.trans (hb.mono hW.size), S0.out _ (hW.trans (hb.mono hW.size))⟩
          clear L1 L2 S0 ca cb
          go_wp2_with fail
          go_region_held3 (fun w' => w'.cell? ⟨ga, k, none⟩ = some (.int .u32 (nat0 G k : Int)) ∧ w'.cell? ⟨gb, k, none⟩ = some (.int .u32 (nat0 G k : Int)) ∧ w'.cell? ⟨ga, k', none⟩ = some (.int .u32 (nat0 G k' : Int))) (first | exact x0 | exact x0' | exact x5 | exact x6) (first | (go_at_call 19; with_reducible refine (LA.out _ drw.out).mono ?_; rintro e w5a ⟨rfl, b5a, x5⟩) | (go_at_call 19; with_reducible refine (LB.out _ b5a.out).mono ?_; rintro e w6 ⟨rfl, HB6, x6⟩))
          clear x0 x0' x5 x6 drw b5a LA LB hkz hkz' hkz2 hkz4 hkp hkw hk'l hinc' hinc2 hinc3 hinc4
          have z6 : w5.heap.size ≤ w6.heap.size := HB6.out.size
          have ca6 := CA.out k hlt w6 HB6.out
          go_wp2_with fail
          refine (HBL.out _).mono ?_
          rintro e w7 ⟨A9, c9, rfl, ho9, hb7⟩
          have HB7 : Hid (Below w5.heap.size w5 w7) := HB6.out.trans (hb7.mono z6)
          have z7 : w5.heap.size ≤ w7.heap.size := HB7.out.size
          have O9 := Lib.hid ho9
          obtain ⟨⟨lt, hl0⟩, hall⟩ := GFh.out.ones k hkG
          have hk8 := GFh.out.lane8 k hkG
          have hl32 := onesTo_len (nat0 G k) 32
          have hn0 : nat0 (onesTo (nat0 G k) 32) 0 = nat0 K k := by rw [hl0]; rfl
          have hlp : 0 < (onesTo (nat0 G k) 32).length := by rw [hl0]; simp
          clear ho9 hb7 HBL hl0 HB6 ca6 HB
          generalize onesTo (nat0 G k) 32 = ll at *
          obtain ⟨gn, rfl, _, hgn⟩ := O9.out.form hlp
          have CN : Hid (∀ i, i < ll.length → ∀ W, Below w7.heap.size w7 W → W.cell? ⟨gn, i, none⟩ = some (.int .i64 (nat0 ll i : Int))) := fun i hi W hW => (hW.cell (p := ⟨gn, i, none⟩) hgn).trans ((O9.out.cell rfl hi).trans (by rw [ints_nat0]))
          have HAll : Hid (∀ i, i < ll.length → nat0 ll i < 8 ∧ at0 zs (nat0 ll i) = at0 zs (nat0 K k)) := fun i hi => hall _ (nat0_mem hi)
          obtain ⟨ln, hln⟩ : ∃ ln, ll.length = ln := ⟨_, rfl⟩
          rw [hln] at CN HAll hlp hl32
          have CN0 : Hid (∀ W, Below w7.heap.size w7 W → W.cell? ⟨gn, 0, none⟩ = some (.int .i64 (nat0 K k : Int))) := fun W hW => by rw [← hn0]; exact CN.out 0 hlp W hW
          have HD : Hid (∀ i, i < k → at0 zs (nat0 K i) ≠ at0 zs (nat0 K k) ∧ nat0 K i < 8) := fun i hi => ⟨GFh.out.diff i k hi hkG, GFh.out.lane8 i (by omega)⟩
          clear hall hn0 O9
          generalize hkk : nat0 K k = kk at *
          have hlp' : (0 : Int) < (ln : Int) := by omega
          have hk8' : (kk : Int) < 8 := by omega
          rw [hln]
          clear hln hkk
          go_wp2
          go_loopw [10] (fun i wr => ∃ j : Nat, j ≤ ln ∧ i = .int .i64 j ∧ ∃ q, wr = w7.drewN q) (fun i _ => ln - (intOf i).toNat)
          case atStart => exact ⟨0, by omega, rfl, 0, rfl⟩
          case round =>
            obtain ⟨j, hj, rfl, q, rfl⟩ := hrel
            by_cases hjl : j < ln
            · have hjl' : (j : Int) < (ln : Int) := by omega
              obtain ⟨hx8, hxv⟩ := HAll.out j hjl
              have e1 := CN.out j hjl w7 (Below.refl _ _)
              have e0 := CN0.out w7 (Below.refl _ _)
              have f1 := CV.out (nat0 ll j) hx8 w7 HB7.out
              have f0 := CV.out kk hk8 w7 HB7.out
              rw [hxv] at f1
              generalize nat0 ll j = x at *
              generalize at0 zs kk = z0 at *
              have hx8' : (x : Int) < 8 := by omega
              clear hxv
              go_wp2
              go_quiet (fail)
              go_wp2
              go_roundw
              case rel => exact ⟨j + 1, by omega, by go_num, _, rfl⟩
              case measure => simp [intOf]; omega
            · obtain rfl : j = ln := by omega
              have b7 : Hid (Below w7.heap.size w7 (w7.drewN q)) := ⟨rfl, rfl, rfl, Nat.le_refl _, fun _ _ => rfl⟩
              have z7q : w7.heap.size ≤ (w7.drewN q).heap.size := Nat.le_refl _
              generalize w7.drewN q = w8 at *
              go_wp2
              go_loopw [11] (fun i wr => ∃ j : Nat, j ≤ k ∧ i = .int .i64 j ∧ Hid (Below w7.heap.size w7 wr)) (fun i _ => k - (intOf i).toNat)
              case atStart => exact ⟨0, by omega, rfl, b7⟩
              case round =>
                obtain ⟨j, hj, rfl, HBj⟩ := hrel
                have zj : w7.heap.size ≤ wr.heap.size := HBj.out.size
                by_cases hjk : j < k
                · have hjk' : (j : Int) < (k : Int) := by omega
                  obtain ⟨hne, hx8⟩ := HD.out j hjk
                  have HLj := Lib.hid (HLd.out j (by omega))
                  have hjg : (j : Int) < (gl : Int) := by omega
                  have S0 : Hid (∀ W, Below w7.heap.size w7 W → W.cell? ⟨ga, j, none⟩ = some (.int .u32 (nat0 G j : Int)) ∧ W.cell? ⟨gv, ov + nat0 K j, none⟩ = some (.int .i64 (at0 zs (nat0 K j))) ∧ W.cell? ⟨gn, 0, none⟩ = some (.int .i64 (kk : Int)) ∧ W.cell? ⟨gv, ov + kk, none⟩ = some (.int .i64 (at0 zs kk))) := fun W hW => ⟨CA.out j (by omega) W (HB7.out.trans (hW.mono z7)), CV.out _ hx8 W (HB7.out.trans (hW.mono z7)), CN0.out W hW, CV.out _ hk8 W (HB7.out.trans (hW.mono z7))⟩
                  generalize nat0 G j = gj at *
                  generalize nat0 K j = kj at *
                  generalize at0 zs kj = z1 at *
                  generalize at0 zs kk = z0 at *
                  have hne' : (z1 == z0) = false := by simpa using hne
                  have hx8' : (kj : Int) < 8 := by omega
                  have x0 := S0.out wr HBj.out
                  have drw : Hid (Below w7.heap.size w7 wr.drew) := HBj.out.drew
                  have x0' := S0.out wr.drew drw.out
                  have LR : Hid (Calls Try.prog 19 #[.int .u32 (gj : Int)] wr.drew fun e w' => e = .returned (.int .i64 (kj : Int)) ∧ Hid (Below w7.heap.size w7 w') ∧ (w'.cell? ⟨ga, j, none⟩ = some (.int .u32 (gj : Int)) ∧ w'.cell? ⟨gv, ov + kj, none⟩ = some (.int .i64 z1) ∧ w'.cell? ⟨gn, 0, none⟩ = some (.int .i64 (kk : Int)) ∧ w'.cell? ⟨gv, ov + kk, none⟩ = some (.int .i64 z0))) := (HLj.out wr.drew).mono fun _ w' ⟨he, hb⟩ => ⟨he, drw.out.trans (hb.mono (show _ ≤ wr.heap.size from zj)), S0.out _ (drw.out.trans (hb.mono (show _ ≤ wr.heap.size from zj)))⟩
                  clear hne S0
                  go_wp2_with fail
                  go_region_held3 (fun w' => w'.cell? ⟨ga, j, none⟩ = some (.int .u32 (gj : Int)) ∧ w'.cell? ⟨gv, ov + kj, none⟩ = some (.int .i64 z1) ∧ w'.cell? ⟨gn, 0, none⟩ = some (.int .i64 (kk : Int)) ∧ w'.cell? ⟨gv, ov + kk, none⟩ = some (.int .i64 z0)) (first | exact x0 | exact x0' | exact x5) (first | (go_at_call 19; refine LR.out.mono ?_; rintro e w9 ⟨rfl, b9, x5⟩))
                  go_wp2
                  go_roundw
                  case rel => exact ⟨j + 1, by omega, by go_num, b9⟩
                  case measure => simp [intOf]; omega
                · obtain rfl : j = k := by omega
                  go_wp2
                  go_roundw
                  case rel => exact ⟨j + 1, by omega, by go_num, rfl, HB7.out.trans (HBj.out.mono z7)⟩
                  case measure => simp [intOf]; omega
      · obtain rfl : k = gl := by omega
        by_cases hg : k = 0
        · have hgz : ((k : Int) == 0) = true := by simp; omega
          have HBe : Hid (Below w0.heap.size w0 wr) := (HB1.out.trans (B5.out.mono z1)).trans (HB.out.mono (by omega))
          clear hg
          go_wp2
          go_quiet (fail)
          go_wp2
          go_ret
          exact ⟨rfl, ⟨HBe.out.os, HBe.out.tape, HBe.out.output, HBe.out.size, HBe.out.block⟩⟩
        · have hgz : ((k : Int) == 0) = false := by simp; omega
          have hgp : (0 : Int) < (k : Int) := by omega
          have hgp2 : 0 < k := by omega
          have hgp3 : (0 : Int) ≤ 0 := by omega
          have hGne : G ≠ [] := fun e => hg (by rw [← HGL.out, e]; rfl)
          have hal : allW (G.take k) = X := by rw [List.take_of_length_le (by rw [HGL.out]; omega)]; exact GFh.out.total hGne
          obtain rfl := HV.out hGne
          obtain ⟨ga, rfl, _, hga⟩ := O2d.out.form (by omega)
          have S0 : Hid (∀ W, Below w5.heap.size w5 W → W.cell? ⟨ga, 0, none⟩ = some (.int .u32 (g0 : Int))) := fun W hW => (hW.cell (p := ⟨ga, 0, none⟩) hga).trans ((O2d.out.cell rfl (by omega)).trans (by rw [ints_nat0, HG0.out]))
          have x0 := S0.out wr HB.out
          have drw : Hid (Below w5.heap.size w5 wr.drew) := HB.out.drew
          have x0' := S0.out wr.drew drw.out
          have LO : Hid (Calls Try.prog 26 #[.slice A1 8 c1, .int .u32 (X : Int)] wr.drew fun e w' => e = .returned (.int .u32 (g0 : Int)) ∧ Hid (Below w5.heap.size w5 w') ∧ w'.cell? ⟨ga, 0, none⟩ = some (.int .u32 (g0 : Int))) := (HOI.out wr.drew (B5.out.trans (drw.out.mono (by omega)))).mono fun _ w' ⟨he, hb⟩ => ⟨he, drw.out.trans (hb.mono (show _ ≤ wr.heap.size from hsw)), S0.out _ (drw.out.trans (hb.mono (show _ ≤ wr.heap.size from hsw)))⟩
          rw [hal]
          clear hg hGne hal S0
          go_wp2_with fail
          go_region_held3 (fun w' => w'.cell? ⟨ga, 0, none⟩ = some (.int .u32 (g0 : Int))) (first | exact x0 | exact x0' | exact x5) (first | (go_at_call 26; refine LO.out.mono ?_; rintro e w9 ⟨rfl, b9, x5⟩))
          go_wp2
          go_ret
          exact ⟨rfl, (HB1.out.trans (B5.out.mono z1)).trans (b9.out.mono (by omega))⟩
  · have hn : (1048576 : Int) < (n : Int) := by omega
    clear H HF
    go_enter Try.func4, Try.ntmps4
    go_wp2_with fail
    refine (big_any A n c w0).mono ?_
    rintro e w1 ⟨rfl, rfl⟩
    go_wp2
    go_ret
    exact ⟨rfl, Below.refl _ _⟩

set_option maxRecDepth 100000 in
theorem fnGroups_lifted (os : Os) (started : os.Started) (H : Type) (enc : TypeId × Value → H) :
    ReturnsInHanded {} Try.checked os 4 .any (Rows.fnGroupsSpec.pre6 enc Try.prog Try.f4 Rows.fnGroupsRow.domain false) (Rows.fnGroupsSpec.post enc Try.prog Try.f4 false true false false) := by
  refine returnsInHanded_of_change (C := Try.checked) own started (by kernel_rfl) Try.func4
    (ChangeSpec.witness6 (enc := enc) (C := Try.checked) false ⟨#[], #[.slice none 0 0], []⟩ 8 (by kernel_rfl) (by kernel_rfl) (by kernel_rfl) (by kernel_rfl)) ?_
  intro W base args ds gs before hval0 hW hcnd _
  have hval : ∀ (j : Nat) t v, Try.f4.params[j]? = some t → args[j]? = some v → Value.okWide Try.prog W .any base t v := hval0
  have hW' := hW
  obtain ⟨p, q, hA0, hV, rfl, hfz, hnd⟩ := hW
  have hA : DataW.TrodAll enc Try.prog W 0 (fun _ => true) true Try.f4.params.toList args.toList ds p := hA0
  rw [Try.params4] at hA hval
  obtain ⟨v0, vs0, d0, ds0, p0, q0, hargs, rfl, rfl, h0, r0⟩ := trodAll_cons hA
  obtain ⟨rfl, rfl, rfl⟩ := trodAll_nil r0
  obtain rfl : args = #[v0] := by cases args; simp_all
  obtain ⟨rfl, rfl⟩ := trodVars_none hV
  have k0 := h0
  have lt0 : ∀ x ∈ p0, x.block < W.heap.size := by obtain ⟨m, hm⟩ := k0; exact DataW.trod_lt m _ _ _ hm
  obtain ⟨A0, n0, c0, z0, rfl, m0, rd0, f0⟩ := open_bytes (hval 0 22 v0 rfl rfl) h0
  clear hA0 hval0
  refine (fnGroups_walk A0 n0 c0 z0 W rd0 m0 f0).mono fun e W' ⟨he, bel⟩ => ?_
  subst he
  exact ⟨_, rfl, _, _, _, [], _, [], hW', trodAll_mk1 (shut_bool Try.underlying4 _), (trodAll_cons_mk (Below.trod laidOut (by kernel_rfl) (of_decide_eq_true (by kernel_rfl)) k0 bel lt0) (trodAll_mk0)), rfl, bel.frame _, fun h => by cases h⟩

/-- The given statement: for every input the law returns true, and its arguments read as before. -/
theorem fnGroups_holds : Rows.FnGroupsSaid :=
  OpenClaim.holds_of_wide 4 Try.f4 rfl rfl rfl rfl rfl rfl rfl ⟨rfl, rfl, rfl, rfl, rfl⟩ rfl rfl rfl rfl rfl (by kernel_rfl) Try.func4 (by kernel_rfl)
    (of_decide_eq_true (by kernel_rfl)) (by unfold Func.isWrapper; first | (rw [if_pos (by decide +kernel)]; kernel_rfl) | (rw [if_neg (by decide +kernel)]; exact ⟨rfl, rfl⟩))
    (fun os started H enc _ => fnGroups_lifted os started H enc)
#print axioms fnGroups_holds
end Go.Proofs.Ytgaphgffchifcaa
