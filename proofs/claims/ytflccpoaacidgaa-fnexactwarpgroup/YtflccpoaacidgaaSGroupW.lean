/- The contract of the program's WarpGroup. -/
/- The contract of the model's WarpGroup. -/
import Derived.Test.YtflccpoaacidgaaIWarpOk
import Derived.Test.YtflccpoaacidgaaIGrpA
import Derived.Test.YtflccpoaacidgaaSWarpOk
namespace Go.Proofs.Ytflccpoaacidgaa
open Go.RowKit
set_option linter.unusedVariables false

/-- What WarpGroup answers. -/
def groupW (kd : Int) (vs gs : List Int) (td : Nat) (ph pr hd : Int) (sn : Nat) : Nat := if WarpGood kd vs gs td ph pr hd sn 16 ∧ td ≠ 0 then orL (groupL kd vs td) else 0
theorem groupW_no {kd : Int} {vs gs : List Int} {td : Nat} {ph pr hd : Int} {sn : Nat} (h : ¬ WarpGood kd vs gs td ph pr hd sn 16 ∨ td = 0) : groupW kd vs gs td ph pr hd sn = 0 := if_neg fun e => h.elim (fun h => h e.1) (fun h => e.2 h)
theorem groupW_one {kd : Int} {vs gs : List Int} {td : Nat} {ph pr hd : Int} {sn : Nat} (h : WarpGood kd vs gs td ph pr hd sn 16) (h0 : td ≠ 0) (h1 : kd = 2 ∨ 16 < wantV vs td) : groupW kd vs gs td ph pr hd sn = 2 ^ leadV td := by
  unfold groupW groupL
  rw [if_pos ⟨h, h0⟩, if_pos h1]
  simp [orL]
theorem at0_map {vs : List Int} (f : Int → Int) {k : Nat} (h : k < vs.length) : at0 (vs.map f) k = f (at0 vs k) := by
  unfold at0
  simp [h]
theorem groupW_row {kd : Int} {vs gs : List Int} {td : Nat} {ph pr hd : Int} {sn : Nat} (h : WarpGood kd vs gs td ph pr hd sn 16) (h0 : td ≠ 0) (h1 : ¬ (kd = 2 ∨ 16 < wantV vs td)) (hl : vs.length = 8) (ht : td < 256) : groupW kd vs gs td ph pr hd sn = groupOfV 8 td (vs.map classV) := by
  unfold groupW groupL
  rw [if_pos ⟨h, h0⟩, if_neg h1, groupOfV_ok rfl ht, alike_ofA (ones_nodup td 32) (fun j hj => ones_lt_8 ht hj)]
  unfold grp
  congr 1
  unfold alike first0
  have hld : leadV td < 8 := leadV_lt ht
  apply List.filter_congr
  intro j hj
  rw [at0_map classV (by have := ones_lt_8 ht hj; omega)]
  show _ = decide (_ = at0 (vs.map classV) (leadV td))
  rw [at0_map classV (by omega)]
  rfl

theorem classV_range (s : Int) : -1 ≤ classV s ∧ classV s ≤ 4 := by unfold classV; repeat (split <;> try omega)
/-- The classes of the first k sizes, then zeros. -/
def clsTo (vs : List Int) (k : Nat) : List Int := (vs.take k).map classV ++ List.replicate (8 - k) 0
theorem clsTo_len {vs : List Int} {k : Nat} (hl : vs.length = 8) (hk : k ≤ 8) : (clsTo vs k).length = 8 := by
  unfold clsTo
  simp [hl]
  omega
theorem clsTo_next {vs : List Int} {k : Nat} (hl : vs.length = 8) (hk : k < 8) : (clsTo vs k).set k (classV (vs[k]?.getD 0)) = clsTo vs (k + 1) := by
  have h1 : k < vs.length := by omega
  unfold clsTo
  rw [List.take_succ_eq_append_getElem h1, show 8 - k = (8 - (k + 1)) + 1 by omega, List.replicate_succ, List.set_append]
  simp [h1, Nat.min_eq_left (Nat.le_of_lt h1)]
  rw [List.take_succ_eq_append_getElem (show k < (vs.map classV).length by simpa using h1)]
  simp
theorem clsTo_all {vs : List Int} (hl : vs.length = 8) : clsTo vs 8 = vs.map classV := by
  unfold clsTo
  rw [List.take_of_length_le (by omega)]; simp
theorem RowBox.rdk {W : World} {B : Nat} {zs : List Int} (h : RowBox W B zs) (hl : zs.length = 8) : RdK .i64 W W.heap.size (some ⟨B, 0, none⟩) 8 zs := ⟨hl, fun _ => ⟨B, 0, rfl, h.lt, fun i hi => by rw [Nat.zero_add]; exact h.cell (by omega)⟩⟩

set_option maxRecDepth 100000 in
set_option maxHeartbeats 1000000 in
theorem warpGroup_any (kd : Int) (A : Option Addr) (n c : Nat) (B : Option Addr) (m d td : Nat) (ph pr hd : Int) (sn : Nat) (vs gs : List Int) (Bv Bg : Nat) (w : World) (hv : RdK .i64 w Bv A n vs) (hB : Bv ≤ w.heap.size) (hm : n ≤ maxLen) (hg : RdK .i64 w Bg B m gs) (hG : Bg ≤ w.heap.size) (hm2 : m ≤ maxLen) (ht : td < 4294967296) (hsn : sn < 4294967296) (hpr : (Lit.int .i64 pr).wf = true) :
    Calls Try.prog 32 #[.agg #[.int .i64 kd, .slice A n c, .slice B m d, .int .u32 (td : Int), .int .i64 ph, .int .i64 pr, .int .i64 hd, .int .u32 (sn : Int)]] w fun e w' => e = .returned (.int .u32 (groupW kd vs gs td ph pr hd sn : Int)) ∧ Below w.heap.size w w' := by
  have HO : Hid (∀ W, Below w.heap.size w W → Calls Try.prog 27 #[.agg #[.int .i64 kd, .slice A n c, .slice B m d, .int .u32 (td : Int), .int .i64 ph, .int .i64 pr, .int .i64 hd, .int .u32 (sn : Int)], .int .i64 16] W fun e w' => e = .returned (.bool (decide (WarpGood kd vs gs td ph pr hd sn 16))) ∧ Below W.heap.size W w') := fun W hb => warpOk_any kd A n c B m d td ph pr hd sn vs gs Bv Bg 16 W (hv.below (hb.mono hB)) (Nat.le_trans hB hb.size) hm (hg.below (hb.mono hG)) hm2 ht hsn hpr
  have BX := Lib.hid (bel1 w (.cells #[.int .i64 kd, .slice A n c, .slice B m d, .int .u32 (td : Int), .int .i64 ph, .int .i64 pr, .int .i64 hd, .int .u32 (sn : Int)] 38))
  by_cases hgood : WarpGood kd vs gs td ph pr hd sn 16
  case neg =>
    rw [decide_eq_false hgood] at HO
    have HR := Lib.hid (groupW_no (.inl hgood))
    clear hgood hv hB hm hg hG hm2 ht hsn hpr
    go_enter Try.func32, Try.ntmps32
    go_wp2_with fail
    refine (HO.out _ BX.out).mono ?_
    rintro e w1 ⟨rfl, hb⟩
    have B1 := Lib.hid (nw1 hb).2.1
    clear hb
    go_wp2
    go_ret
    exact ⟨by rw [HR.out]; rfl, B1.out⟩
  rw [decide_eq_true hgood] at HO
  by_cases h0 : td = 0
  · have HR := Lib.hid (groupW_no (kd := kd) (vs := vs) (gs := gs) (ph := ph) (pr := pr) (hd := hd) (sn := sn) (.inr h0))
    have h0b : ((td : Int) == 0) = true := by simp; omega
    clear hgood h0 hv hB hm hg hG hm2 ht hsn hpr
    go_enter Try.func32, Try.ntmps32
    go_wp2_with fail
    refine (HO.out _ BX.out).mono ?_
    rintro e w1 ⟨rfl, hb⟩
    obtain ⟨b0, b1, b2⟩ := nw1 hb
    have a3 := blkc b0 3 rfl
    have B1 := Lib.hid b1
    clear hb b0 b1 b2
    go_wp2
    go_ret
    exact ⟨by rw [HR.out]; rfl, B1.out⟩
  have h0b : ((td : Int) == 0) = false := by simp; omega
  obtain ⟨s1, s2, hn, hmm, ht8⟩ : ShapeOk n m td 16 := by have := hgood.1; rwa [hv.1, hg.1] at this
  have hl8 := leadV_lt ht8
  have CL : Hid (∀ W, Calls Try.prog 64 #[.agg #[.int .i64 kd, .slice A n c, .slice B m d, .int .u32 (td : Int), .int .i64 ph, .int .i64 pr, .int .i64 hd, .int .u32 (sn : Int)]] W fun e w' => e = .returned (.int .i64 (leadV td : Int)) ∧ Below W.heap.size W w') := fun W => lead_any kd A n c B m d td ph pr hd sn W ht8 h0
  have CG : Hid (∀ W, Below w.heap.size w W → Calls Try.prog 59 #[.agg #[.int .i64 kd, .slice A n c, .slice B m d, .int .u32 (td : Int), .int .i64 ph, .int .i64 pr, .int .i64 hd, .int .u32 (sn : Int)]] W fun e w' => e = .returned (.bool (decide (16 < wantV vs td))) ∧ Below W.heap.size W w') := fun W hb => isLarge_any kd A n c B m d td ph pr hd sn vs Bv W ht8 h0 (hv.below (hb.mono hB)) (Nat.le_trans hB hb.size) hn
  by_cases h1 : kd = 2 ∨ 16 < wantV vs td
  · have HR := Lib.hid (groupW_one hgood h0 h1)
    by_cases hk : kd = 2
    · have hkb : (kd == 2) = true := by simp [hk]
      clear hgood h0 hv hB hm hg hG hm2 ht hsn hpr hk h1 hn hmm s1 s2 ht8
      generalize leadV td = l at *
      go_enter Try.func32, Try.ntmps32
      go_wp2_with fail
      refine (HO.out _ BX.out).mono ?_
      rintro e w1 ⟨rfl, hb⟩
      obtain ⟨b0, b1, b2⟩ := nw1 hb
      have a0 := blkc b0 0 rfl
      have a1 := blkc b0 1 rfl
      have a2 := blkc b0 2 rfl
      have a3 := blkc b0 3 rfl
      have a4 := blkc b0 4 rfl
      have a5 := blkc b0 5 rfl
      have a6 := blkc b0 6 rfl
      have a7 := blkc b0 7 rfl
      have B1 := Lib.hid b1
      clear hb b0 b1 b2
      go_wp2_with fail
      refine (CL.out _).mono ?_
      rintro e w2 ⟨rfl, hb⟩
      have B2 := Lib.hid (B1.out.trans (hb.mono B1.out.size))
      clear hb a0 a1 a2 a3 a4 a5 a6 a7
      rcases (by omega : l = 0 ∨ l = 1 ∨ l = 2 ∨ l = 3 ∨ l = 4 ∨ l = 5 ∨ l = 6 ∨ l = 7) with rfl | rfl | rfl | rfl | rfl | rfl | rfl | rfl <;> (go_wp2; go_ret; exact ⟨by rw [HR.out]; rfl, B2.out⟩)
    · have hkb : (kd == 2) = false := by simpa using hk
      have h1' : 16 < wantV vs td := h1.resolve_left hk
      rw [decide_eq_true h1'] at CG
      clear hgood h0 hv hB hm hg hG hm2 ht hsn hpr hk h1 h1' hn hmm s1 s2 ht8
      generalize leadV td = l at *
      go_enter Try.func32, Try.ntmps32
      go_wp2_with fail
      refine (HO.out _ BX.out).mono ?_
      rintro e w1 ⟨rfl, hb⟩
      obtain ⟨b0, b1, b2⟩ := nw1 hb
      have a0 := blkc b0 0 rfl
      have a1 := blkc b0 1 rfl
      have a2 := blkc b0 2 rfl
      have a3 := blkc b0 3 rfl
      have a4 := blkc b0 4 rfl
      have a5 := blkc b0 5 rfl
      have a6 := blkc b0 6 rfl
      have a7 := blkc b0 7 rfl
      have B1 := Lib.hid b1
      have L0 := Lib.hid b0
      have Z0 := Lib.hid b2
      clear hb b0 b1 b2
      go_wp2_with fail
      refine (CG.out _ B1.out).mono ?_
      rintro e w2 ⟨rfl, hb⟩
      have B2 := Lib.hid (B1.out.trans (hb.mono B1.out.size))
      have b0 := (hb.block _ Z0.out).trans L0.out
      clear hb a0 a1 a2 a3 a4 a5 a6 a7
      have a0 := blkc b0 0 rfl
      have a1 := blkc b0 1 rfl
      have a2 := blkc b0 2 rfl
      have a3 := blkc b0 3 rfl
      have a4 := blkc b0 4 rfl
      have a5 := blkc b0 5 rfl
      have a6 := blkc b0 6 rfl
      have a7 := blkc b0 7 rfl
      clear b0
      go_wp2_with fail
      refine (CL.out _).mono ?_
      rintro e w3 ⟨rfl, hb⟩
      have B3 := Lib.hid (B2.out.trans (hb.mono B2.out.size))
      clear hb a0 a1 a2 a3 a4 a5 a6 a7
      rcases (by omega : l = 0 ∨ l = 1 ∨ l = 2 ∨ l = 3 ∨ l = 4 ∨ l = 5 ∨ l = 6 ∨ l = 7) with rfl | rfl | rfl | rfl | rfl | rfl | rfl | rfl <;> (go_wp2; go_ret; exact ⟨by rw [HR.out]; rfl, B3.out⟩)
  have hk : kd ≠ 2 := fun e => h1 (.inl e)
  have hkb : (kd == 2) = false := by simpa using hk
  have HR := Lib.hid (groupW_row hgood h0 h1 (by rw [hv.1]; exact hn) ht8)
  have HL := Lib.hid (hv.1.trans hn)
  rw [decide_eq_false (fun e => h1 (.inr e))] at CG
  subst hn
  obtain ⟨g, o, rfl, hgB, hc⟩ := hv.2 (by omega)
  have HC := Lib.hid hc
  have hgw : g < w.heap.size := by omega
  have HGO : Hid (∀ W b, RowBox W b (vs.map classV) → Calls Try.prog 66 #[.slice (some ⟨b, 0, none⟩) 8 8, .int .u32 (td : Int)] W fun e w' => e = .returned (.int .u32 (groupW kd vs gs td ph pr hd sn : Int)) ∧ Below W.heap.size W w') := fun W b hb => by
    rw [HR.out]
    exact iGroupOf_any _ 8 8 _ td _ W (hb.rdk (by simp [HL.out])) (Nat.le_refl _) ht (fun z hz => by
      obtain ⟨x, _, rfl⟩ := List.mem_map.1 hz
      have := classV_range x
      omega)
  generalize groupW kd vs gs td ph pr hd sn = r at *
  clear HR CL hgood h0 hv hB hm hg hG hm2 ht hsn hpr hk h1 hmm s1 s2 ht8 hl8 hc hgB
  go_enter Try.func32, Try.ntmps32
  go_wp2_with fail
  refine (HO.out _ BX.out).mono ?_
  rintro e w1 ⟨rfl, hb⟩
  obtain ⟨b0, b1, b2⟩ := nw1 hb
  have a0 := blkc b0 0 rfl
  have a1 := blkc b0 1 rfl
  have a2 := blkc b0 2 rfl
  have a3 := blkc b0 3 rfl
  have a4 := blkc b0 4 rfl
  have a5 := blkc b0 5 rfl
  have a6 := blkc b0 6 rfl
  have a7 := blkc b0 7 rfl
  have B1 := Lib.hid b1
  have L0 := Lib.hid b0
  have Z0 := Lib.hid b2
  clear hb b0 b1 b2
  go_wp2_with fail
  refine (CG.out _ B1.out).mono ?_
  rintro e w2 ⟨rfl, hb⟩
  have B2 := Lib.hid (B1.out.trans (hb.mono B1.out.size))
  have b0 := (hb.block _ Z0.out).trans L0.out
  have Z2 : Hid (w.heap.size < w2.heap.size) := Lib.hid (by have := Z0.out; have := hb.size; omega)
  clear hb a0 a1 a2 a3 a4 a5 a6 a7 Z0 L0 B1
  have a1 : (w2.alloc (.cells #[.int .i64 0, .int .i64 0, .int .i64 0, .int .i64 0, .int .i64 0, .int .i64 0, .int .i64 0, .int .i64 0] 78)).cell? ⟨w.heap.size, 1, none⟩ = some (.slice (some ⟨g, o, none⟩) 8 c) := ((bel1 w2 _).cell (p := ⟨w.heap.size, 1, none⟩) Z2.out).trans (blkc b0 1 rfl)
  have HA3 := Lib.hid (blkc b0 3 rfl)
  have HO1 : Hid (RowBox (w2.alloc (.cells #[.int .i64 0, .int .i64 0, .int .i64 0, .int .i64 0, .int .i64 0, .int .i64 0, .int .i64 0, .int .i64 0] 78)) w2.heap.size (clsTo vs 0)) := Lib.hid (RowBox.new w2 [0, 0, 0, 0, 0, 0, 0, 0])
  have HB1 := Lib.hid (bel1 w2 (.cells #[.int .i64 0, .int .i64 0, .int .i64 0, .int .i64 0, .int .i64 0, .int .i64 0, .int .i64 0, .int .i64 0] 78))
  clear b0
  go_wp2
  clear a1
  go_loopw [27] (fun i wr => ∃ k : Nat, k ≤ 8 ∧ i = .int .i64 k ∧ Hid (RowBox wr w2.heap.size (clsTo vs k)) ∧ Hid (Below w2.heap.size w2 wr)) (fun i _ => 8 - (intOf i).toNat)
  case atStart => exact ⟨0, Nat.zero_le _, rfl, HO1, HB1⟩
  case round =>
    obtain ⟨k, hk8, rfl, HOr, HBr⟩ := hrel
    clear HO1 HB1
    by_cases hlt : k < 8
    · have c1 : wr.cell? ⟨g, o + k, none⟩ = some (.int .i64 (vs[k]?.getD 0)) := (HBr.out.cell (p := ⟨g, o + k, none⟩) (by have := Z2.out; show g < _; omega)).trans ((B2.out.cell (p := ⟨g, o + k, none⟩) hgw).trans (HC.out k hlt))
      have c2 := HOr.out.cell (i := k) (by rw [clsTo_len HL.out hk8]; exact hlt)
      have f2 := HOr.out.frozen k
      have hkI : (k : Int) < 8 := by omega
      have HN : Hid (RowBox (wr.setCell ⟨w2.heap.size, k, none⟩ (.int .i64 (classV (vs[k]?.getD 0)))) w2.heap.size (clsTo vs (k + 1))) := by
        rw [← clsTo_next HL.out hlt]; exact HOr.out.store k _
      have HM : Hid (Below w2.heap.size w2 (wr.setCell ⟨w2.heap.size, k, none⟩ (.int .i64 (classV (vs[k]?.getD 0))))) := HBr.out.setCell (Nat.le_refl _) _
      have HCl := Lib.hid (fun W => classOf_any (vs[k]?.getD 0) W)
      generalize vs[k]?.getD 0 = x at *
      generalize classV x = y at *
      generalize (clsTo vs k)[k]?.getD 0 = z at *
      clear HOr HBr
      go_wp2_with fail
      refine (HCl.out _).mono ?_
      rintro e w5 ⟨rfl, rfl⟩
      go_wp2
      go_roundw
      case rel => exact ⟨k + 1, by omega, by go_num, HN, HM⟩
      case measure => simp [intOf]; omega
    · obtain rfl : k = 8 := by omega
      have HAl : Hid (RowBox wr w2.heap.size (vs.map classV)) := by
        have := HOr.out
        rwa [clsTo_all HL.out] at this
      have x0 : wr.cell? ⟨w.heap.size, 3, none⟩ = some (.int .u32 (td : Int)) := (HBr.out.cell (p := ⟨w.heap.size, 3, none⟩) Z2.out).trans HA3.out
      have x0' : wr.drew.cell? ⟨w.heap.size, 3, none⟩ = some (.int .u32 (td : Int)) := x0
      have D0 : Hid (Below wr.heap.size wr wr.drew) := (Below.refl _ _).drew
      have z3 : w.heap.size < wr.heap.size := Nat.lt_of_lt_of_le Z2.out HBr.out.size
      have CF : Hid (∀ W', Below wr.heap.size wr W' → Calls Try.prog 66 #[.slice (some ⟨w2.heap.size, 0, none⟩) 8 8, .int .u32 (td : Int)] W' fun e w' => e = .returned (.int .u32 (r : Int)) ∧ Hid (Below wr.heap.size wr w') ∧ w'.cell? ⟨w.heap.size, 3, none⟩ = some (.int .u32 (td : Int))) := fun W' hb => (HGO.out W' _ (HAl.out.below hb HAl.out.lt)).mono fun e w' ⟨h, hb'⟩ => ⟨h, Lib.hid (hb.trans (hb'.mono hb.size)), ((hb.trans (hb'.mono hb.size)).cell (p := ⟨w.heap.size, 3, none⟩) z3).trans x0⟩
      have HF : Hid (Below w.heap.size w wr) := B2.out.trans (HBr.out.mono (Nat.le_of_lt Z2.out))
      clear HGO HOr HBr z3
      go_upto_region 11 with (fail)
      go_cut [2] (fun s wx => s = .int .u32 (r : Int) ∧ Hid (Below wr.heap.size wr wx))
      case first =>
        go_region_held3 (fun w' => w'.cell? ⟨w.heap.size, 3, none⟩ = some (.int .u32 (td : Int)))
          (first | exact x0 | exact x0' | exact xa)
          (first | (go_at_call 66; (with_reducible refine (CF.out _ D0.out).mono ?_); rintro e wa ⟨rfl, BA, xa⟩))
        all_goals (go_wp2_with fail; go_meet; exact ⟨rfl, BA⟩)
      case rest =>
        obtain ⟨rfl, HB2⟩ := hcut
        go_wp2
        go_ret
        exact ⟨rfl, HF.out.trans (HB2.out.mono HF.out.size)⟩

end Go.Proofs.Ytflccpoaacidgaa

namespace Go.Proofs.Ytflccpoaacidgaa
open Go.RowKit
set_option linter.unusedVariables false

/-- The lanes of l whose size has the class z. -/
def sameL (vs : List Int) (l : List Nat) (z : Int) : List Nat := l.filter (fun j => decide (classV (at0 vs j) = z))
theorem sameL_take (vs : List Int) (l : List Nat) (z : Int) {k : Nat} (h : k < l.length) : sameL vs (l.take (k + 1)) z = sameL vs (l.take k) z ++ (if classV (at0 vs l[k]) = z then [l[k]] else []) := by
  unfold sameL
  rw [List.take_succ_eq_append_getElem h, List.filter_append]
  by_cases e : classV (at0 vs l[k]) = z <;> simp [e]
theorem sameL_len (vs : List Int) (l : List Nat) (z : Int) : (sameL vs l z).length ≤ l.length := List.length_filter_le _ _

theorem classOf_s (s : Int) (W : World) : Calls Try.prog 54 #[.int .i64 s] W fun e w' => e = .returned (.int .i64 (classV s)) ∧ ∃ q, w' = W.drewN q := (sClassOf_any s W).mono fun _ _ ⟨h1, h2⟩ => ⟨h1, 0, h2.symm⟩

set_option maxRecDepth 100000 in
set_option maxHeartbeats 1000000 in
theorem sGroup_any (kd : Int) (A : Option Addr) (n c : Nat) (B : Option Addr) (m d td : Nat) (ph pr hd : Int) (sn : Nat) (vs : List Int) (Bv : Nat) (w : World) (ht : td < 256) (h0 : td ≠ 0) (hv : RdK .i64 w Bv A n vs) (hB : Bv ≤ w.heap.size) (hn : n = 8) :
    Calls Try.prog 63 #[.agg #[.int .i64 kd, .slice A n c, .slice B m d, .int .u32 (td : Int), .int .i64 ph, .int .i64 pr, .int .i64 hd, .int .u32 (sn : Int)]] w fun e w' => ∃ A' c', e = .returned (.slice A' (groupL kd vs td).length c') ∧ RdK .i64 w' w'.heap.size A' (groupL kd vs td).length (ints (groupL kd vs td)) ∧ Below w.heap.size w w' := by
  subst hn
  obtain ⟨g, o, rfl, hgB, hc⟩ := hv.2 (by omega)
  have HC := Lib.hid hc
  have hgw : g < w.heap.size := by omega
  have HBL := Lib.hid (fun W => sBitList_any td W (by omega))
  have hl0 := ones_pos ht h0
  have hl32 := onesTo_len td 32
  have HL8 : Hid (∀ j ∈ onesTo td 32, j < 8) := Lib.hid (fun j hj => ones_lt_8 ht hj)
  have hld : leadV td = (onesTo td 32)[0] := by unfold leadV; rw [List.getElem?_eq_getElem hl0, Option.getD_some]
  have hG : Hid (groupL kd vs td = if kd = 2 ∨ 16 < at0 vs ((onesTo td 32)[0]) then [(onesTo td 32)[0]] else sameL vs (onesTo td 32) (classV (at0 vs ((onesTo td 32)[0])))) := by
    unfold groupL wantV
    rw [hld]; exact rfl
  generalize groupL kd vs td = G at *
  clear hld hv hB hc hgB ht h0
  generalize onesTo td 32 = l at *
  have BX := Lib.hid (bel1 w (.cells #[.int .i64 kd, .slice (some ⟨g, o, none⟩) 8 c, .slice B m d, .int .u32 (td : Int), .int .i64 ph, .int .i64 pr, .int .i64 hd, .int .u32 (sn : Int)] 38))
  have hlI : (0 : Int) < (l.length : Int) := by omega
  go_enter Try.func63, Try.ntmps63
  go_wp2_with fail
  refine (HBL.out _).mono ?_
  rintro e w1 ⟨A1, c1, rfl, ho, hb⟩
  obtain ⟨b0, b1, b2⟩ := nw1 hb
  obtain ⟨_, ⟨_, hz⟩ | ⟨gl, cap, cur, hv1, hgl, hblk, hcap, hcap2, _⟩⟩ := id ho
  · omega
  obtain ⟨rfl, rfl⟩ : A1 = some ⟨gl, 0, none⟩ ∧ c1 = cap := by injection hv1 with e1 e2 e3; exact ⟨e1, e3⟩
  have hglw : gl < w1.heap.size := (Array.getElem?_eq_some_iff.1 hblk).1
  have HCL : Hid (∀ k (h : k < l.length), w1.cell? ⟨gl, k, none⟩ = some (.int .i64 (l[k] : Int))) := Lib.hid (fun k h => by
    have := ho.cell rfl h
    rwa [ints_at l h] at this)
  have B1 := Lib.hid b1
  have a0 := blkc b0 0 rfl
  have a1 := blkc b0 1 rfl
  have ck0 := HCL.out 0 hl0
  have hj0 : l[0] < 8 := HL8.out _ (List.getElem_mem _)
  have cv0 : w1.cell? ⟨g, o + l[0], none⟩ = some (.int .i64 (at0 vs l[0])) := (b1.cell (p := ⟨g, o + l[0], none⟩) hgw).trans (HC.out _ hj0)
  have hcI : (1 : Int) ≤ (c1 : Int) := by omega
  have Hgl := Lib.hid hglw
  have HGL := Lib.hid hgl
  have Z1 := Lib.hid b2
  have A1' := Lib.hid a1
  have HRd := Lib.hid ho.rd
  clear hb b0 b1 b2 ho hv1 hblk hgl hglw
  have hrd1 : ∀ W : World, W.heap.size = w1.heap.size → (∀ p : Addr, W.cell? p = w1.cell? p) → RdK .i64 W W.heap.size (some ⟨gl, 0, none⟩) 1 (ints [l[0]]) := fun W hs hW => ⟨rfl, fun _ => ⟨gl, 0, rfl, by rw [hs]; exact Hgl.out, fun i hi => by
    obtain rfl : i = 0 := by omega
    rw [hW]; exact HCL.out 0 hl0⟩⟩
  have HR1 := Lib.hid hrd1
  clear hrd1
  by_cases hone : kd = 2 ∨ 16 < at0 vs l[0]
  · have hg1 := hG.out
    rw [if_pos hone] at hg1
    have HG1 := Lib.hid hg1
    clear hG hg1
    generalize at0 vs l[0] = x0 at *
    generalize hjj : l[0] = j0 at *
    clear hjj
    by_cases hk : kd = 2
    · have hkb : (kd == 2) = true := by simp [hk]
      clear hone hk
      go_wp2
      go_quiet (fail)
      go_wp2
      go_ret
      rw [HG1.out]
      exact ⟨_, _, rfl, HR1.out _ rfl (fun _ => rfl), ⟨B1.out.os, B1.out.tape, B1.out.output, B1.out.size, B1.out.block⟩⟩
    · have hkb : (kd == 2) = false := by simpa using hk
      have hx : 16 < x0 := hone.resolve_left hk
      have hj0' : (j0 : Int) < 8 := by omega
      clear hone hk
      go_wp2
      go_quiet (fail)
      go_wp2
      go_ret
      rw [HG1.out]
      exact ⟨_, _, rfl, HR1.out _ rfl (fun _ => rfl), ⟨B1.out.os, B1.out.tape, B1.out.output, B1.out.size, B1.out.block⟩⟩
  have hk : kd ≠ 2 := fun e => hone (.inl e)
  have hkb : (kd == 2) = false := by simpa using hk
  have hx : ¬ 16 < at0 vs l[0] := fun e => hone (.inr e)
  have hG1 := hG.out
  rw [if_neg hone] at hG1
  have HG1 := Lib.hid hG1
  have HQ0 := Lib.hid (fun W => (classOf_s (at0 vs l[0]) W))
  clear hG hG1 hone hk HR1
  have HF0 : Hid (at0 vs l[0] = at0 vs l[0]) := Lib.hid rfl
  generalize hx0 : at0 vs l[0] = x0 at *
  generalize hz0 : classV x0 = z0 at *
  have hj0' : (l[0] : Int) < 8 := by omega
  clear hx0 hz0 HF0
  generalize l[0] = j0 at *
  go_wp2
  go_quiet (fail)
  have OO : Hid (OwnK 3 .i64 ((w1.drewN nq).alloc (.cells #[] 3)) w1.heap.size (some ⟨w1.heap.size, 0, none⟩) 0 0 (ints (sameL vs (l.take 0) z0))) := World.ownsRow_made (w1.drewN nq) #[] 0 (Nat.le_refl _) (by unfold maxLen; omega) rfl
  have B0 : Hid (Below w1.heap.size w1 ((w1.drewN nq).alloc (.cells #[] 3))) := (show Below w1.heap.size w1 (w1.drewN nq) from ⟨rfl, rfl, rfl, Nat.le_refl _, fun _ _ => rfl⟩).alloc (Nat.le_refl _) _
  have HK0 := Lib.hid ck0
  have HV0 := Lib.hid cv0
  clear ck0 cv0 a0
  go_wp2
  clear a1
  go_loopw [4, 5] (fun v i wr => ∃ (k m' : Nat) (A' : Option Addr) (c' : Nat), k ≤ l.length ∧ m' ≤ k ∧ i = .int .i64 k ∧ v = .slice A' m' c' ∧ Hid ((sameL vs (l.take k) z0).length = m') ∧ Hid (OwnK 3 .i64 wr w1.heap.size A' m' c' (ints (sameL vs (l.take k) z0))) ∧ Hid (Below w1.heap.size w1 wr)) (fun _ i _ => l.length - (intOf i).toNat)
  case atStart => exact ⟨0, 0, _, _, by omega, by omega, rfl, rfl, rfl, OO, B0⟩
  case round =>
    obtain ⟨k, m', A', c', hk, hmk, rfl, rfl, HM, HO, HB⟩ := hrel
    clear OO B0
    have hs : w1.heap.size ≤ wr.heap.size := HB.out.size
    by_cases hlt : k < l.length
    · have q0 : wr.cell? ⟨gl, 0, none⟩ = some (.int .i64 (j0 : Int)) := (HB.out.cell (p := ⟨gl, 0, none⟩) Hgl.out).trans HK0.out
      have q1 : wr.cell? ⟨gl, k, none⟩ = some (.int .i64 (l[k] : Int)) := (HB.out.cell (p := ⟨gl, k, none⟩) Hgl.out).trans (HCL.out k hlt)
      have q2 : wr.cell? ⟨w.heap.size, 1, none⟩ = some (.slice (some ⟨g, o, none⟩) 8 c) := (HB.out.cell (p := ⟨w.heap.size, 1, none⟩) Z1.out).trans A1'.out
      have hj : l[k] < 8 := HL8.out _ (List.getElem_mem hlt)
      have hg1 : g < w1.heap.size := Nat.lt_of_lt_of_le hgw B1.out.size
      have q3 : wr.cell? ⟨g, o + j0, none⟩ = some (.int .i64 x0) := (HB.out.cell (p := ⟨g, o + j0, none⟩) hg1).trans HV0.out
      have q4 : wr.cell? ⟨g, o + l[k], none⟩ = some (.int .i64 (at0 vs l[k])) := (HB.out.cell (p := ⟨g, o + l[k], none⟩) hg1).trans ((B1.out.cell (p := ⟨g, o + l[k], none⟩) hgw).trans (HC.out _ hj))
      have HT := Lib.hid (sameL_take vs l z0 hlt)
      have HQ1 := Lib.hid (fun W => (classOf_s (at0 vs l[k]) W))
      have hkl : (k : Int) < (l.length : Int) := by omega
      generalize at0 vs l[k] = x at *
      generalize classV x = z at *
      generalize l[k] = j at *
      have hj' : (j : Int) < 8 := by omega
      clear hg1
      by_cases hz : z = z0
      · subst hz
        rw [if_pos rfl] at HT
        go_wp2
        go_quiet (first | (go_at_call 54; first | (with_reducible refine Calls.quiet_of (HQ0.out _)) | (with_reducible refine Calls.quiet_of (HQ1.out _))))
        go_wp2_with (at_builtin; refine wpList_push_int rfl (.tmp 49) (.tmp 54) rfl w1.heap.size m' c' A' _ _ rfl rfl HO.out (by omega) hs ?_)
        intro A3 c3' w4 O3 B3
        have HB4 : Hid (Below w1.heap.size w1 w4) := (show Below w1.heap.size w1 (wr.drewN nq) from ⟨HB.out.os, HB.out.tape, HB.out.output, HB.out.size, HB.out.block⟩).trans B3.out
        clear HB B3 HO
        go_wp2
        go_roundw
        case rel =>
          refine ⟨k + 1, m' + 1, A3, c3', by omega, by omega, by go_num, rfl, ?_, ?_, HB4⟩
          · show _ = _
            rw [HT.out, List.length_append, HM.out]; rfl
          · rw [HT.out, ints_snoc]; exact O3
        case measure => simp [intOf]; omega
      · rw [if_neg hz, List.append_nil] at HT
        have hz' : (z == z0) = false := by simpa using hz
        clear hz
        go_wp2
        go_quiet (first | (go_at_call 54; first | (with_reducible refine Calls.quiet_of (HQ0.out _)) | (with_reducible refine Calls.quiet_of (HQ1.out _))))
        go_wp2
        go_roundw
        case rel =>
          refine ⟨k + 1, m', A', c', by omega, by omega, by go_num, rfl, ?_, ?_, ⟨HB.out.os, HB.out.tape, HB.out.output, HB.out.size, HB.out.block⟩⟩
          · rw [HT.out]; exact HM
          · rw [HT.out]; exact HO.out
        case measure => simp [intOf]; omega
    · obtain rfl : k = l.length := by omega
      go_wp2
      go_ret
      have := HO.out
      have hm := HM.out
      rw [List.take_length] at this hm
      rw [HG1.out, hm]
      exact ⟨A', c', rfl, this.rd, B1.out.trans (HB.out.mono B1.out.size)⟩

theorem groupL_word {kd : Int} {vs : List Int} {td : Nat} (ht : td < 256) (h0 : td ≠ 0) : ofA (ints (groupL kd vs td)) = orL (groupL kd vs td) ∧ (groupL kd vs td).length ≤ 32 := by
  have hn : (groupL kd vs td).Nodup ∧ (∀ j ∈ groupL kd vs td, j < 8) ∧ (groupL kd vs td).length ≤ 32 := by
    unfold groupL
    split
    · exact ⟨by simp, fun j hj => by rw [List.mem_singleton.1 hj]; exact leadV_lt ht, by simp⟩
    · exact ⟨List.Sublist.nodup List.filter_sublist (ones_nodup td 32), fun j hj => ones_lt_8 ht (List.mem_filter.1 hj).1, Nat.le_trans (List.length_filter_le _ _) (onesTo_len td 32)⟩
  have h : bitsG 0 (ints (groupL kd vs td)) = some (orL (groupL kd vs td)) := bitsG_ok _ 0 (fun k hk => ⟨by have := hn.2.1 k hk; omega, Nat.zero_testBit k⟩) hn.1
  refine ⟨?_, hn.2.2⟩
  unfold ofA
  rw [h]
  rfl

set_option maxRecDepth 100000 in
set_option maxHeartbeats 1000000 in
theorem sWarpGroup_any (kd : Int) (A : Option Addr) (n c : Nat) (B : Option Addr) (m d td : Nat) (ph pr hd : Int) (sn : Nat) (vs gs : List Int) (Bv Bg : Nat) (w : World) (hv : RdK .i64 w Bv A n vs) (hB : Bv ≤ w.heap.size) (hm : n ≤ maxLen) (hg : RdK .i64 w Bg B m gs) (hG : Bg ≤ w.heap.size) (hm2 : m ≤ maxLen) (ht : td < 4294967296) (hsn : sn < 4294967296) :
    Calls Try.prog 31 #[.agg #[.int .i64 kd, .slice A n c, .slice B m d, .int .u32 (td : Int), .int .i64 ph, .int .i64 pr, .int .i64 hd, .int .u32 (sn : Int)]] w fun e w' => e = .returned (.int .u32 (groupW kd vs gs td ph pr hd sn : Int)) ∧ Below w.heap.size w w' := by
  have HO : Hid (∀ W, Below w.heap.size w W → Calls Try.prog 25 #[.agg #[.int .i64 kd, .slice A n c, .slice B m d, .int .u32 (td : Int), .int .i64 ph, .int .i64 pr, .int .i64 hd, .int .u32 (sn : Int)], .int .i64 16] W fun e w' => e = .returned (.bool (decide (WarpGood kd vs gs td ph pr hd sn 16))) ∧ Below W.heap.size W w') := fun W hb => sWarpOk_any kd A n c B m d td ph pr hd sn vs gs Bv Bg 16 W (hv.below (hb.mono hB)) (Nat.le_trans hB hb.size) hm (hg.below (hb.mono hG)) hm2 ht hsn
  have BX := Lib.hid (bel1 w (.cells #[.int .i64 kd, .slice A n c, .slice B m d, .int .u32 (td : Int), .int .i64 ph, .int .i64 pr, .int .i64 hd, .int .u32 (sn : Int)] 38))
  by_cases hgood : WarpGood kd vs gs td ph pr hd sn 16
  case neg =>
    rw [decide_eq_false hgood] at HO
    have HR := Lib.hid (groupW_no (.inl hgood))
    clear hgood hv hB hm hg hG hm2 ht hsn
    go_enter Try.func31, Try.ntmps31
    go_wp2_with fail
    refine (HO.out _ BX.out).mono ?_
    rintro e w1 ⟨rfl, hb⟩
    have B1 := Lib.hid (nw1 hb).2.1
    clear hb
    go_wp2
    go_ret
    exact ⟨by rw [HR.out]; rfl, B1.out⟩
  rw [decide_eq_true hgood] at HO
  by_cases h0 : td = 0
  · have HR := Lib.hid (groupW_no (kd := kd) (vs := vs) (gs := gs) (ph := ph) (pr := pr) (hd := hd) (sn := sn) (.inr h0))
    have h0b : ((td : Int) == 0) = true := by simp; omega
    clear hgood h0 hv hB hm hg hG hm2 ht hsn
    go_enter Try.func31, Try.ntmps31
    go_wp2_with fail
    refine (HO.out _ BX.out).mono ?_
    rintro e w1 ⟨rfl, hb⟩
    obtain ⟨b0, b1, b2⟩ := nw1 hb
    have a3 := blkc b0 3 rfl
    have B1 := Lib.hid b1
    clear hb b0 b1 b2
    go_wp2
    go_ret
    exact ⟨by rw [HR.out]; rfl, B1.out⟩
  have h0b : ((td : Int) == 0) = false := by simp; omega
  obtain ⟨s1, s2, hn, hmm, ht8⟩ : ShapeOk n m td 16 := by have := hgood.1; rwa [hv.1, hg.1] at this
  have CS : Hid (∀ W, Below w.heap.size w W → Calls Try.prog 63 #[.agg #[.int .i64 kd, .slice A n c, .slice B m d, .int .u32 (td : Int), .int .i64 ph, .int .i64 pr, .int .i64 hd, .int .u32 (sn : Int)]] W fun e w' => ∃ A' c', e = .returned (.slice A' (groupL kd vs td).length c') ∧ RdK .i64 w' w'.heap.size A' (groupL kd vs td).length (ints (groupL kd vs td)) ∧ Below W.heap.size W w') := fun W hb => sGroup_any kd A n c B m d td ph pr hd sn vs Bv W ht8 h0 (hv.below (hb.mono hB)) (Nat.le_trans hB hb.size) hn
  obtain ⟨hw1, hw2⟩ := groupL_word (kd := kd) (vs := vs) ht8 h0
  have HR : Hid (groupW kd vs gs td ph pr hd sn = ofA (ints (groupL kd vs td))) := by
    show _ = _
    rw [hw1]; exact if_pos ⟨hgood, h0⟩
  have HW := Lib.hid hw2
  clear hw1 hw2 hgood h0 hv hB hm hg hG hm2 ht hsn s1 s2 hn hmm ht8
  generalize groupL kd vs td = G at *
  go_enter Try.func31, Try.ntmps31
  go_wp2_with fail
  refine (HO.out _ BX.out).mono ?_
  rintro e w1 ⟨rfl, hb⟩
  obtain ⟨b0, b1, b2⟩ := nw1 hb
  have a0 := blkc b0 0 rfl
  have a1 := blkc b0 1 rfl
  have a2 := blkc b0 2 rfl
  have a3 := blkc b0 3 rfl
  have a4 := blkc b0 4 rfl
  have a5 := blkc b0 5 rfl
  have a6 := blkc b0 6 rfl
  have a7 := blkc b0 7 rfl
  have B1 := Lib.hid b1
  clear hb b0 b1 b2
  go_wp2_with fail
  refine (CS.out _ B1.out).mono ?_
  rintro e w2 ⟨A2, c2, rfl, hr, hb⟩
  have B2 := Lib.hid (B1.out.trans (hb.mono B1.out.size))
  have R2 := Lib.hid hr
  clear hb hr a0 a1 a2 a3 a4 a5 a6 a7
  go_wp2_with fail
  refine (sBitsOf_any A2 _ c2 _ _ _ R2.out (Nat.le_refl _) (by have := HW.out; omega)).mono ?_
  rintro e w3 ⟨rfl, hb⟩
  have B3 := Lib.hid (B2.out.trans (hb.mono B2.out.size))
  clear hb
  go_wp2
  go_ret
  exact ⟨by rw [HR.out]; rfl, B3.out⟩

end Go.Proofs.Ytflccpoaacidgaa
