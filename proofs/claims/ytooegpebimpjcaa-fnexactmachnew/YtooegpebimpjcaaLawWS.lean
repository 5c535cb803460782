/- The contracts of the laws' own functions over lists of warps: copies, comparisons, sizes. -/
import Derived.Test.YtooegpebimpjcaaOwnM
import Derived.Test.YtooegpebimpjcaaLawW
namespace Go.Proofs.Ytooegpebimpjcaa
open Go.RowKit
set_option linter.unusedVariables false

set_option maxRecDepth 100000 in
set_option maxHeartbeats 4000000 in
theorem toWarpS_any (A : Option Addr) (n c B : Nat) (xs : List Wc) (w : World) (h : RdW w B A n xs) (hB : B ≤ w.heap.size) (hn : n ≤ 1048576) (hf : ∀ i, i < n → (wat xs i).v.vs.length ≤ 1048576 ∧ (wat xs i).v.gs.length ≤ 1048576) :
    Calls Try.prog 73 #[.slice A n c] w fun e w' => ∃ g ys, e = .returned (.slice (some ⟨g, 0, none⟩) n n) ∧ OwnM w' w.heap.size (some ⟨g, 0, none⟩) n n ys ∧ vals8 ys = vals8 xs ∧ Below w.heap.size w w' := by
  obtain ⟨i0, hi, hz0, hz1, hz2⟩ := info_parts info_warpW
  have hb2 : i0.bytes * n ≤ 281474976710656 := by rw [hz2]; omega
  have hb3 : n ≤ maxLen := by unfold maxLen; omega
  have HL := Lib.hid h.1
  have H2 := Lib.hid h
  have HI := Lib.hid hi
  have HZ0 := Lib.hid hz0
  have HZ1 := Lib.hid hz1
  have HF := Lib.hid hf
  clear h hi hz0 hz1 hf
  go_enter Try.func73, Try.ntmps73
  go_wp2_with (at_make; refine wpList_make_full _ rfl _ _ 49 rfl w.heap.size 35 i0 (.agg #[.int .i64 0, .slice none 0 0, .slice none 0 0, .int .u32 0, .int .i64 0, .int .i64 0, .int .i64 0, .int .u32 0]) 8 Try.underlying49 HI.out HZ0.out HZ1.out .i64 .i64 _ _ n rfl rfl rfl rfl hb2 hb3 (Nat.le_refl _) ?_)
  intro w1 hown hgr
  have HO : Hid (OwnW w1 w.heap.size (some ⟨w.heap.size, 0, none⟩) n n (List.replicate n zeroW)) := by
    show w1.ownsRow _ _ _ _ _ (flatW _)
    rw [flatW_zeros]
    exact hown
  have HB : Hid (Below w.heap.size w w1) := (Below.refl _ _).grown hgr (Nat.le_refl _) (by simp)
  have h0 : w.heap.size < w1.heap.size := by
    rcases hown.2 with ⟨hv, _⟩ | ⟨g', cap, cur, hv, hb', hh, _⟩
    · simp at hv
    · obtain rfl : w.heap.size = g' := by injection hv with v1; injection v1 with v1; injection v1
      exact (Array.getElem?_eq_some_iff.1 hh).1
  clear hown hgr
  go_wp2
  go_loopw [4] (fun i wr => ∃ (k : Nat) (ys : List Wc), k ≤ n ∧ i = .int .i64 k ∧ Hid (ys.length = n) ∧ Hid (OwnW wr w.heap.size (some ⟨w.heap.size, 0, none⟩) n n ys) ∧ Hid (Inner wr w.heap.size k ys) ∧ Hid (Dis (some w.heap.size) k ys) ∧ Hid (∀ i, i < k → (wat ys i).v = (wat xs i).v) ∧ w.heap.size < wr.heap.size ∧ Hid (Below w.heap.size w wr)) (fun i _ => n - (intOf i).toNat)
  case atStart => exact ⟨0, _, Nat.zero_le _, rfl, by simp [Hid], HO, fun i hi => absurd hi (by omega), fun i hi => absurd hi (by omega), fun i hi => absurd hi (by omega), h0, HB⟩
  case round =>
    obtain ⟨k, ys, hk, rfl, HLy, HOr, HIr, HDr, HVr, hsz, HBr⟩ := hrel
    clear HO HB h0
    by_cases hlt : k < n
    · obtain ⟨g, o, rfl, hg, h8⟩ := H2.out.at8 hlt
      obtain ⟨c0, c1, c2, c3, c4, c5, c6, c7⟩ := h8.below (HBr.out.mono hB) hg
      have hrows := H2.out.rows hlt
      have HR1 := Lib.hid (hrows.1.below (HBr.out.mono hB))
      have HR2 := Lib.hid (hrows.2.below (HBr.out.mono hB))
      have hbs := Nat.le_trans hB HBr.out.size
      have hf1 := (HF.out k hlt).1
      have hf2 := (HF.out k hlt).2
      clear h8 hrows
      go_wp2_with (go_at_call 16; refine (toWarp_any _ _ _ _ _ _ _ _ _ _ _ _ _ _ _ _ _ HR1.out hbs hf1 HR2.out hbs hf2).mono ?_; rintro e w2 ⟨g1, g2, rfl, ho1, ho2, hb2⟩
                   have HO2 := Lib.hid (HOr.out.below hb2)
                   have HI2 := Lib.hid (HIr.out.below hb2)
                   have q1 := World.ownsRow.lt ho1 g1 rfl
                   have q2 := World.ownsRow.lt ho2 g2 rfl
                   have z2 := hb2.size
                   have HB2 := Lib.hid (HBr.out.trans (hb2.mono HBr.out.size))
                   have e8 := HO2.out.at8 rfl hlt
                   have e0 := e8.1
                   have e1 := e8.2.1
                   have e2 := e8.2.2.1
                   have e3 := e8.2.2.2.1
                   have e4 := e8.2.2.2.2.1
                   have e5 := e8.2.2.2.2.2.1
                   have e6 := e8.2.2.2.2.2.2.1
                   have e7 := e8.2.2.2.2.2.2.2
                   have f0 := HO2.out.free rfl
                   have hly : k < ys.length := by rw [HLy.out]; exact hlt
                   have K8 : Hid (Kp (fun q => q = w.heap.size) w2 ((((((((w2.setCell ⟨w.heap.size, k * 8, none⟩ (.int .i64 (wat xs k).v.kd)).setCell ⟨w.heap.size, k * 8 + 1, none⟩ (.slice (some ⟨g1, 0, none⟩) (wat xs k).v.vs.length (wat xs k).v.vs.length)).setCell ⟨w.heap.size, k * 8 + 2, none⟩ (.slice (some ⟨g2, 0, none⟩) (wat xs k).v.gs.length (wat xs k).v.gs.length)).setCell ⟨w.heap.size, k * 8 + 3, none⟩ (.int .u32 ((wat xs k).v.td : Int))).setCell ⟨w.heap.size, k * 8 + 4, none⟩ (.int .i64 (wat xs k).v.ph)).setCell ⟨w.heap.size, k * 8 + 5, none⟩ (.int .i64 (wat xs k).v.pr)).setCell ⟨w.heap.size, k * 8 + 6, none⟩ (.int .i64 (wat xs k).v.hd)).setCell ⟨w.heap.size, k * 8 + 7, none⟩ (.int .u32 ((wat xs k).v.sn : Int)))) := Kp.set8 _ _ _ _ _ _ _ _ _ _ _ _ _ _ _ _ _ _
                   have HN : Hid (OwnW ((((((((w2.setCell ⟨w.heap.size, k * 8, none⟩ (.int .i64 (wat xs k).v.kd)).setCell ⟨w.heap.size, k * 8 + 1, none⟩ (.slice (some ⟨g1, 0, none⟩) (wat xs k).v.vs.length (wat xs k).v.vs.length)).setCell ⟨w.heap.size, k * 8 + 2, none⟩ (.slice (some ⟨g2, 0, none⟩) (wat xs k).v.gs.length (wat xs k).v.gs.length)).setCell ⟨w.heap.size, k * 8 + 3, none⟩ (.int .u32 ((wat xs k).v.td : Int))).setCell ⟨w.heap.size, k * 8 + 4, none⟩ (.int .i64 (wat xs k).v.ph)).setCell ⟨w.heap.size, k * 8 + 5, none⟩ (.int .i64 (wat xs k).v.pr)).setCell ⟨w.heap.size, k * 8 + 6, none⟩ (.int .i64 (wat xs k).v.hd)).setCell ⟨w.heap.size, k * 8 + 7, none⟩ (.int .u32 ((wat xs k).v.sn : Int))) w.heap.size (some ⟨w.heap.size, 0, none⟩) n n (ys.set k ⟨(wat xs k).v, some ⟨g1, 0, none⟩, (wat xs k).v.vs.length, some ⟨g2, 0, none⟩, (wat xs k).v.gs.length⟩)) := HO2.out.store (y := ⟨(wat xs k).v, some ⟨g1, 0, none⟩, (wat xs k).v.vs.length, some ⟨g2, 0, none⟩, (wat xs k).v.gs.length⟩) hlt
                   have HIN : Hid (Inner ((((((((w2.setCell ⟨w.heap.size, k * 8, none⟩ (.int .i64 (wat xs k).v.kd)).setCell ⟨w.heap.size, k * 8 + 1, none⟩ (.slice (some ⟨g1, 0, none⟩) (wat xs k).v.vs.length (wat xs k).v.vs.length)).setCell ⟨w.heap.size, k * 8 + 2, none⟩ (.slice (some ⟨g2, 0, none⟩) (wat xs k).v.gs.length (wat xs k).v.gs.length)).setCell ⟨w.heap.size, k * 8 + 3, none⟩ (.int .u32 ((wat xs k).v.td : Int))).setCell ⟨w.heap.size, k * 8 + 4, none⟩ (.int .i64 (wat xs k).v.ph)).setCell ⟨w.heap.size, k * 8 + 5, none⟩ (.int .i64 (wat xs k).v.pr)).setCell ⟨w.heap.size, k * 8 + 6, none⟩ (.int .i64 (wat xs k).v.hd)).setCell ⟨w.heap.size, k * 8 + 7, none⟩ (.int .u32 ((wat xs k).v.sn : Int))) w.heap.size (k + 1) (ys.set k ⟨(wat xs k).v, some ⟨g1, 0, none⟩, (wat xs k).v.vs.length, some ⟨g2, 0, none⟩, (wat xs k).v.gs.length⟩)) :=
                     Inner.next (HI2.out.kp K8.out (fun i hi q hq e => by obtain ⟨d1, d2⟩ := HDr.out i hi q; rcases hq with hq | hq; (exact (d1 hq).1 (by rw [e])); (exact (d2 hq).1 (by rw [e])))) hly ((ho1.from_ (by omega)).kp K8.out (fun q hq => by have := World.ownsRow.lt ho1 q hq; omega)) ((ho2.from_ (by omega)).kp K8.out (fun q hq => by have := World.ownsRow.lt ho2 q hq; omega))
                   have HDN : Hid (Dis (some w.heap.size) (k + 1) (ys.set k ⟨(wat xs k).v, some ⟨g1, 0, none⟩, (wat xs k).v.vs.length, some ⟨g2, 0, none⟩, (wat xs k).v.gs.length⟩)) :=
                     HDr.out.next (lo := wr.heap.size) hly (fun i hi q hq => (HIr.out.lt hi hq).2) (fun q hq => by injection hq with hq; omega) (fun q hq => ⟨(World.ownsRow.lt ho1 q hq).1, fun h2 => by have := World.ownsRow.lt ho2 q h2; (have e3 : g1 = q := by simpa [Value.ownBlock] using hq); omega⟩) (fun q hq => by have := World.ownsRow.lt ho2 q hq; omega)
                   have HVN : Hid (∀ i, i < k + 1 → (wat (ys.set k ⟨(wat xs k).v, some ⟨g1, 0, none⟩, (wat xs k).v.vs.length, some ⟨g2, 0, none⟩, (wat xs k).v.gs.length⟩) i).v = (wat xs i).v) := fun i hi => by
                     rw [wat_set hly]
                     by_cases e : k = i
                     · subst e; simp
                     · rw [if_neg e]; exact HVr.out i (by omega)
                   have HM : Hid (Below w.heap.size w ((((((((w2.setCell ⟨w.heap.size, k * 8, none⟩ (.int .i64 (wat xs k).v.kd)).setCell ⟨w.heap.size, k * 8 + 1, none⟩ (.slice (some ⟨g1, 0, none⟩) (wat xs k).v.vs.length (wat xs k).v.vs.length)).setCell ⟨w.heap.size, k * 8 + 2, none⟩ (.slice (some ⟨g2, 0, none⟩) (wat xs k).v.gs.length (wat xs k).v.gs.length)).setCell ⟨w.heap.size, k * 8 + 3, none⟩ (.int .u32 ((wat xs k).v.td : Int))).setCell ⟨w.heap.size, k * 8 + 4, none⟩ (.int .i64 (wat xs k).v.ph)).setCell ⟨w.heap.size, k * 8 + 5, none⟩ (.int .i64 (wat xs k).v.pr)).setCell ⟨w.heap.size, k * 8 + 6, none⟩ (.int .i64 (wat xs k).v.hd)).setCell ⟨w.heap.size, k * 8 + 7, none⟩ (.int .u32 ((wat xs k).v.sn : Int)))) := Kp.bel K8.out HB2.out HB2.out.size (fun q hq => by omega)
                   have zN : w.heap.size < ((((((((w2.setCell ⟨w.heap.size, k * 8, none⟩ (.int .i64 (wat xs k).v.kd)).setCell ⟨w.heap.size, k * 8 + 1, none⟩ (.slice (some ⟨g1, 0, none⟩) (wat xs k).v.vs.length (wat xs k).v.vs.length)).setCell ⟨w.heap.size, k * 8 + 2, none⟩ (.slice (some ⟨g2, 0, none⟩) (wat xs k).v.gs.length (wat xs k).v.gs.length)).setCell ⟨w.heap.size, k * 8 + 3, none⟩ (.int .u32 ((wat xs k).v.td : Int))).setCell ⟨w.heap.size, k * 8 + 4, none⟩ (.int .i64 (wat xs k).v.ph)).setCell ⟨w.heap.size, k * 8 + 5, none⟩ (.int .i64 (wat xs k).v.pr)).setCell ⟨w.heap.size, k * 8 + 6, none⟩ (.int .i64 (wat xs k).v.hd)).setCell ⟨w.heap.size, k * 8 + 7, none⟩ (.int .u32 ((wat xs k).v.sn : Int))).heap.size := by simp; omega
                   have LN : Hid ((ys.set k ⟨(wat xs k).v, some ⟨g1, 0, none⟩, (wat xs k).v.vs.length, some ⟨g2, 0, none⟩, (wat xs k).v.gs.length⟩).length = n) := by simp [HLy.out, Hid]
                   clear hb2 ho1 ho2 HOr HIr HDr HVr HO2 HI2 HB2 HLy HBr K8 e8 c0 c1 c2 c3 c4 c5 c6 c7 HR1 HR2 hf1 hf2)
      go_roundw
      case rel => exact ⟨k + 1, _, by omega, by go_num, LN, HN, HIN, HDN, HVN, zN, HM⟩
      case measure => simp [intOf]; omega
    · obtain rfl : k = n := by omega
      go_wp2
      go_ret
      refine ⟨_, ys, rfl, ⟨HOr.out, HIr.out, HDr.out⟩, ?_, HBr.out⟩
      unfold vals8
      apply List.ext_getElem
      · simp [HLy.out, HL.out]
      · intro i h1 h2
        have h1' : i < ys.length := by simpa using h1
        have h2' : i < xs.length := by simpa using h2
        have := HVr.out i (by rw [← HLy.out]; exact h1')
        simpa [wat, h1', h2'] using this

set_option maxRecDepth 100000 in
set_option maxHeartbeats 4000000 in
theorem eqWarpS_any (A1 A2 : Option Addr) (n c1 c2 B1 B2 : Nat) (xs ys : List Wc) (w : World) (h1 : RdW w B1 A1 n xs) (h2 : RdW w B2 A2 n ys) (hv : vals8 xs = vals8 ys) (hB1 : B1 ≤ w.heap.size) (hB2 : B2 ≤ w.heap.size) (hm : n ≤ maxLen) (hf : ∀ i, i < n → (wat xs i).v.vs.length ≤ maxLen ∧ (wat xs i).v.gs.length ≤ maxLen) :
    Calls Try.prog 63 #[.slice A1 n c1, .slice A2 n c2] w fun e w' => e = .returned (.bool true) ∧ Below w.heap.size w w' := by
  have HV : Hid (∀ i, i < n → (wat ys i).v = (wat xs i).v) := fun i hi => by
    rw [wat_v (xs := ys) rfl (by rw [h2.1]; exact hi), ← hv, ← wat_v (xs := xs) rfl (by rw [h1.1]; exact hi)]
  have H1 := Lib.hid h1
  have H2 := Lib.hid h2
  have HF := Lib.hid hf
  have hbb : ((n : Int) != (n : Int)) = false := by simp
  unfold maxLen at hm
  clear h1 h2 hv hf
  go_enter Try.func63, Try.ntmps63
  go_wp2
  go_loopw [5] (fun i wr => ∃ k : Nat, k ≤ n ∧ i = .int .i64 k ∧ Hid (Below w.heap.size w wr)) (fun i _ => n - (intOf i).toNat)
  case atStart => exact ⟨0, Nat.zero_le _, rfl, Below.refl _ _⟩
  case round =>
    obtain ⟨k, hk, rfl, HB⟩ := hrel
    by_cases hlt : k < n
    · obtain ⟨g1, o1, rfl, hg1, q1⟩ := H1.out.at8 hlt
      obtain ⟨g2, o2, rfl, hg2, q2⟩ := H2.out.at8 hlt
      have r1 := H1.out.rows hlt
      have r2 := H2.out.rows hlt
      have hv := HV.out k hlt
      rw [hv] at r2
      have hfk := HF.out k hlt
      obtain ⟨a0, a1, a2, a3, a4, a5, a6, a7⟩ := q1.below (HB.out.mono hB1) hg1
      obtain ⟨b0, b1, b2, b3, b4, b5, b6, b7⟩ := q2.below (HB.out.mono hB2) hg2
      rw [hv] at b0 b1 b2 b3 b4 b5 b6 b7
      have hsz := HB.out.size
      have x0 : wr.cell? ⟨g1, o1 + k * 8, none⟩ = some (.int .i64 (wat xs k).v.kd) ∧ wr.cell? ⟨g1, o1 + k * 8 + 1, none⟩ = some (.slice (wat xs k).A (wat xs k).v.vs.length (wat xs k).c) ∧ wr.cell? ⟨g1, o1 + k * 8 + 2, none⟩ = some (.slice (wat xs k).B (wat xs k).v.gs.length (wat xs k).d) ∧ wr.cell? ⟨g1, o1 + k * 8 + 3, none⟩ = some (.int .u32 ((wat xs k).v.td : Int)) ∧ wr.cell? ⟨g1, o1 + k * 8 + 4, none⟩ = some (.int .i64 (wat xs k).v.ph) ∧ wr.cell? ⟨g1, o1 + k * 8 + 5, none⟩ = some (.int .i64 (wat xs k).v.pr) ∧ wr.cell? ⟨g1, o1 + k * 8 + 6, none⟩ = some (.int .i64 (wat xs k).v.hd) ∧ wr.cell? ⟨g1, o1 + k * 8 + 7, none⟩ = some (.int .u32 ((wat xs k).v.sn : Int)) ∧ wr.cell? ⟨g2, o2 + k * 8, none⟩ = some (.int .i64 (wat xs k).v.kd) ∧ wr.cell? ⟨g2, o2 + k * 8 + 1, none⟩ = some (.slice (wat ys k).A (wat xs k).v.vs.length (wat ys k).c) ∧ wr.cell? ⟨g2, o2 + k * 8 + 2, none⟩ = some (.slice (wat ys k).B (wat xs k).v.gs.length (wat ys k).d) ∧ wr.cell? ⟨g2, o2 + k * 8 + 3, none⟩ = some (.int .u32 ((wat xs k).v.td : Int)) ∧ wr.cell? ⟨g2, o2 + k * 8 + 4, none⟩ = some (.int .i64 (wat xs k).v.ph) ∧ wr.cell? ⟨g2, o2 + k * 8 + 5, none⟩ = some (.int .i64 (wat xs k).v.pr) ∧ wr.cell? ⟨g2, o2 + k * 8 + 6, none⟩ = some (.int .i64 (wat xs k).v.hd) ∧ wr.cell? ⟨g2, o2 + k * 8 + 7, none⟩ = some (.int .u32 ((wat xs k).v.sn : Int)) := ⟨a0, a1, a2, a3, a4, a5, a6, a7, b0, b1, b2, b3, b4, b5, b6, b7⟩
      have x0d : wr.drew.cell? ⟨g1, o1 + k * 8, none⟩ = some (.int .i64 (wat xs k).v.kd) ∧ wr.drew.cell? ⟨g1, o1 + k * 8 + 1, none⟩ = some (.slice (wat xs k).A (wat xs k).v.vs.length (wat xs k).c) ∧ wr.drew.cell? ⟨g1, o1 + k * 8 + 2, none⟩ = some (.slice (wat xs k).B (wat xs k).v.gs.length (wat xs k).d) ∧ wr.drew.cell? ⟨g1, o1 + k * 8 + 3, none⟩ = some (.int .u32 ((wat xs k).v.td : Int)) ∧ wr.drew.cell? ⟨g1, o1 + k * 8 + 4, none⟩ = some (.int .i64 (wat xs k).v.ph) ∧ wr.drew.cell? ⟨g1, o1 + k * 8 + 5, none⟩ = some (.int .i64 (wat xs k).v.pr) ∧ wr.drew.cell? ⟨g1, o1 + k * 8 + 6, none⟩ = some (.int .i64 (wat xs k).v.hd) ∧ wr.drew.cell? ⟨g1, o1 + k * 8 + 7, none⟩ = some (.int .u32 ((wat xs k).v.sn : Int)) ∧ wr.drew.cell? ⟨g2, o2 + k * 8, none⟩ = some (.int .i64 (wat xs k).v.kd) ∧ wr.drew.cell? ⟨g2, o2 + k * 8 + 1, none⟩ = some (.slice (wat ys k).A (wat xs k).v.vs.length (wat ys k).c) ∧ wr.drew.cell? ⟨g2, o2 + k * 8 + 2, none⟩ = some (.slice (wat ys k).B (wat xs k).v.gs.length (wat ys k).d) ∧ wr.drew.cell? ⟨g2, o2 + k * 8 + 3, none⟩ = some (.int .u32 ((wat xs k).v.td : Int)) ∧ wr.drew.cell? ⟨g2, o2 + k * 8 + 4, none⟩ = some (.int .i64 (wat xs k).v.ph) ∧ wr.drew.cell? ⟨g2, o2 + k * 8 + 5, none⟩ = some (.int .i64 (wat xs k).v.pr) ∧ wr.drew.cell? ⟨g2, o2 + k * 8 + 6, none⟩ = some (.int .i64 (wat xs k).v.hd) ∧ wr.drew.cell? ⟨g2, o2 + k * 8 + 7, none⟩ = some (.int .u32 ((wat xs k).v.sn : Int)) := x0
      have D0 : Hid (Below wr.heap.size wr wr.drew) := (Below.refl _ _).drew
      have xS : Hid (∀ w', Below wr.heap.size wr w' → w'.cell? ⟨g1, o1 + k * 8, none⟩ = some (.int .i64 (wat xs k).v.kd) ∧ w'.cell? ⟨g1, o1 + k * 8 + 1, none⟩ = some (.slice (wat xs k).A (wat xs k).v.vs.length (wat xs k).c) ∧ w'.cell? ⟨g1, o1 + k * 8 + 2, none⟩ = some (.slice (wat xs k).B (wat xs k).v.gs.length (wat xs k).d) ∧ w'.cell? ⟨g1, o1 + k * 8 + 3, none⟩ = some (.int .u32 ((wat xs k).v.td : Int)) ∧ w'.cell? ⟨g1, o1 + k * 8 + 4, none⟩ = some (.int .i64 (wat xs k).v.ph) ∧ w'.cell? ⟨g1, o1 + k * 8 + 5, none⟩ = some (.int .i64 (wat xs k).v.pr) ∧ w'.cell? ⟨g1, o1 + k * 8 + 6, none⟩ = some (.int .i64 (wat xs k).v.hd) ∧ w'.cell? ⟨g1, o1 + k * 8 + 7, none⟩ = some (.int .u32 ((wat xs k).v.sn : Int)) ∧ w'.cell? ⟨g2, o2 + k * 8, none⟩ = some (.int .i64 (wat xs k).v.kd) ∧ w'.cell? ⟨g2, o2 + k * 8 + 1, none⟩ = some (.slice (wat ys k).A (wat xs k).v.vs.length (wat ys k).c) ∧ w'.cell? ⟨g2, o2 + k * 8 + 2, none⟩ = some (.slice (wat ys k).B (wat xs k).v.gs.length (wat ys k).d) ∧ w'.cell? ⟨g2, o2 + k * 8 + 3, none⟩ = some (.int .u32 ((wat xs k).v.td : Int)) ∧ w'.cell? ⟨g2, o2 + k * 8 + 4, none⟩ = some (.int .i64 (wat xs k).v.ph) ∧ w'.cell? ⟨g2, o2 + k * 8 + 5, none⟩ = some (.int .i64 (wat xs k).v.pr) ∧ w'.cell? ⟨g2, o2 + k * 8 + 6, none⟩ = some (.int .i64 (wat xs k).v.hd) ∧ w'.cell? ⟨g2, o2 + k * 8 + 7, none⟩ = some (.int .u32 ((wat xs k).v.sn : Int))) := fun w' hb => ⟨later_at0 hb x0.1, later_at0 hb x0.2.1, later_at0 hb x0.2.2.1, later_at0 hb x0.2.2.2.1, later_at0 hb x0.2.2.2.2.1, later_at0 hb x0.2.2.2.2.2.1, later_at0 hb x0.2.2.2.2.2.2.1, later_at0 hb x0.2.2.2.2.2.2.2.1, later_at0 hb x0.2.2.2.2.2.2.2.2.1, later_at0 hb x0.2.2.2.2.2.2.2.2.2.1, later_at0 hb x0.2.2.2.2.2.2.2.2.2.2.1, later_at0 hb x0.2.2.2.2.2.2.2.2.2.2.2.1, later_at0 hb x0.2.2.2.2.2.2.2.2.2.2.2.2.1, later_at0 hb x0.2.2.2.2.2.2.2.2.2.2.2.2.2.1, later_at0 hb x0.2.2.2.2.2.2.2.2.2.2.2.2.2.2.1, later_at0 hb x0.2.2.2.2.2.2.2.2.2.2.2.2.2.2.2⟩
      have CE : Hid (∀ W', Below wr.heap.size wr W' → Calls Try.prog 19 #[.agg #[.int .i64 (wat xs k).v.kd, .slice (wat xs k).A (wat xs k).v.vs.length (wat xs k).c, .slice (wat xs k).B (wat xs k).v.gs.length (wat xs k).d, .int .u32 ((wat xs k).v.td : Int), .int .i64 (wat xs k).v.ph, .int .i64 (wat xs k).v.pr, .int .i64 (wat xs k).v.hd, .int .u32 ((wat xs k).v.sn : Int)], .agg #[.int .i64 (wat xs k).v.kd, .slice (wat ys k).A (wat xs k).v.vs.length (wat ys k).c, .slice (wat ys k).B (wat xs k).v.gs.length (wat ys k).d, .int .u32 ((wat xs k).v.td : Int), .int .i64 (wat xs k).v.ph, .int .i64 (wat xs k).v.pr, .int .i64 (wat xs k).v.hd, .int .u32 ((wat xs k).v.sn : Int)]] W' fun e w' => e = .returned (.bool true) ∧ Hid (Below wr.heap.size wr w') ∧ (w'.cell? ⟨g1, o1 + k * 8, none⟩ = some (.int .i64 (wat xs k).v.kd) ∧ w'.cell? ⟨g1, o1 + k * 8 + 1, none⟩ = some (.slice (wat xs k).A (wat xs k).v.vs.length (wat xs k).c) ∧ w'.cell? ⟨g1, o1 + k * 8 + 2, none⟩ = some (.slice (wat xs k).B (wat xs k).v.gs.length (wat xs k).d) ∧ w'.cell? ⟨g1, o1 + k * 8 + 3, none⟩ = some (.int .u32 ((wat xs k).v.td : Int)) ∧ w'.cell? ⟨g1, o1 + k * 8 + 4, none⟩ = some (.int .i64 (wat xs k).v.ph) ∧ w'.cell? ⟨g1, o1 + k * 8 + 5, none⟩ = some (.int .i64 (wat xs k).v.pr) ∧ w'.cell? ⟨g1, o1 + k * 8 + 6, none⟩ = some (.int .i64 (wat xs k).v.hd) ∧ w'.cell? ⟨g1, o1 + k * 8 + 7, none⟩ = some (.int .u32 ((wat xs k).v.sn : Int)) ∧ w'.cell? ⟨g2, o2 + k * 8, none⟩ = some (.int .i64 (wat xs k).v.kd) ∧ w'.cell? ⟨g2, o2 + k * 8 + 1, none⟩ = some (.slice (wat ys k).A (wat xs k).v.vs.length (wat ys k).c) ∧ w'.cell? ⟨g2, o2 + k * 8 + 2, none⟩ = some (.slice (wat ys k).B (wat xs k).v.gs.length (wat ys k).d) ∧ w'.cell? ⟨g2, o2 + k * 8 + 3, none⟩ = some (.int .u32 ((wat xs k).v.td : Int)) ∧ w'.cell? ⟨g2, o2 + k * 8 + 4, none⟩ = some (.int .i64 (wat xs k).v.ph) ∧ w'.cell? ⟨g2, o2 + k * 8 + 5, none⟩ = some (.int .i64 (wat xs k).v.pr) ∧ w'.cell? ⟨g2, o2 + k * 8 + 6, none⟩ = some (.int .i64 (wat xs k).v.hd) ∧ w'.cell? ⟨g2, o2 + k * 8 + 7, none⟩ = some (.int .u32 ((wat xs k).v.sn : Int)))) := fun W' hb => (eqWarp_any _ _ _ _ _ _ _ _ _ _ _ _ _ _ _ _ B1 B2 B1 B2 _ _ W' (r1.1.below ((HB.out.trans (hb.mono hsz)).mono hB1)) (r2.1.below ((HB.out.trans (hb.mono hsz)).mono hB2)) (r1.2.below ((HB.out.trans (hb.mono hsz)).mono hB1)) (r2.2.below ((HB.out.trans (hb.mono hsz)).mono hB2)) (Nat.le_trans hB1 (Nat.le_trans hsz hb.size)) (Nat.le_trans hB2 (Nat.le_trans hsz hb.size)) (Nat.le_trans hB1 (Nat.le_trans hsz hb.size)) (Nat.le_trans hB2 (Nat.le_trans hsz hb.size)) hfk.1 hfk.2).mono fun e w' ⟨he, hb2⟩ => ⟨he, hb.trans (hb2.mono hb.size), xS.out w' (hb.trans (hb2.mono hb.size))⟩
      clear r1 r2 hv q1 q2 hfk
      go_wp2_with fail
      go_cut [26] from 11 to 26 (fun s0 wx => s0 = .bool false ∧ Hid (Below wr.heap.size wr wx))
      case first =>
        go_region_held3 (fun w' => w'.cell? ⟨g1, o1 + k * 8, none⟩ = some (.int .i64 (wat xs k).v.kd) ∧ w'.cell? ⟨g1, o1 + k * 8 + 1, none⟩ = some (.slice (wat xs k).A (wat xs k).v.vs.length (wat xs k).c) ∧ w'.cell? ⟨g1, o1 + k * 8 + 2, none⟩ = some (.slice (wat xs k).B (wat xs k).v.gs.length (wat xs k).d) ∧ w'.cell? ⟨g1, o1 + k * 8 + 3, none⟩ = some (.int .u32 ((wat xs k).v.td : Int)) ∧ w'.cell? ⟨g1, o1 + k * 8 + 4, none⟩ = some (.int .i64 (wat xs k).v.ph) ∧ w'.cell? ⟨g1, o1 + k * 8 + 5, none⟩ = some (.int .i64 (wat xs k).v.pr) ∧ w'.cell? ⟨g1, o1 + k * 8 + 6, none⟩ = some (.int .i64 (wat xs k).v.hd) ∧ w'.cell? ⟨g1, o1 + k * 8 + 7, none⟩ = some (.int .u32 ((wat xs k).v.sn : Int)) ∧ w'.cell? ⟨g2, o2 + k * 8, none⟩ = some (.int .i64 (wat xs k).v.kd) ∧ w'.cell? ⟨g2, o2 + k * 8 + 1, none⟩ = some (.slice (wat ys k).A (wat xs k).v.vs.length (wat ys k).c) ∧ w'.cell? ⟨g2, o2 + k * 8 + 2, none⟩ = some (.slice (wat ys k).B (wat xs k).v.gs.length (wat ys k).d) ∧ w'.cell? ⟨g2, o2 + k * 8 + 3, none⟩ = some (.int .u32 ((wat xs k).v.td : Int)) ∧ w'.cell? ⟨g2, o2 + k * 8 + 4, none⟩ = some (.int .i64 (wat xs k).v.ph) ∧ w'.cell? ⟨g2, o2 + k * 8 + 5, none⟩ = some (.int .i64 (wat xs k).v.pr) ∧ w'.cell? ⟨g2, o2 + k * 8 + 6, none⟩ = some (.int .i64 (wat xs k).v.hd) ∧ w'.cell? ⟨g2, o2 + k * 8 + 7, none⟩ = some (.int .u32 ((wat xs k).v.sn : Int)))
          (first | (with_reducible exact x0) | (with_reducible exact x0d) | (with_reducible exact xe))
          (first | (go_at_call 19; (with_reducible refine (CE.out _ D0.out).mono ?_); rintro e we ⟨rfl, BE, xe⟩))
        all_goals (go_wp2_with fail; go_meet; exact ⟨rfl, BE⟩)
      case rest =>
        obtain ⟨rfl, hb0⟩ := hcut
        have HB2 := Lib.hid (HB.out.trans (hb0.out.mono hsz))
        clear hb0 HB x0 x0d D0 xS CE a0 a1 a2 a3 a4 a5 a6 a7 b0 b1 b2 b3 b4 b5 b6 b7
        go_wp2
        go_roundw
        case rel => exact ⟨k + 1, by omega, by go_num, HB2⟩
        case measure => simp [intOf]; omega
    · go_wp2
      go_ret
      exact ⟨rfl, HB.out⟩

set_option maxRecDepth 100000 in
set_option maxHeartbeats 1000000 in
theorem szWarpS_any (A : Option Addr) (n c B : Nat) (xs : List Wc) (l : Int) (w : World) (h : RdW w B A n xs) (hB : B ≤ w.heap.size) (hm : n ≤ maxLen) (hf : ∀ i, i < n → (wat xs i).v.vs.length ≤ maxLen ∧ (wat xs i).v.gs.length ≤ maxLen) (hl : l ≤ 1048576) (h0 : 0 ≤ l) :
    Calls Try.prog 69 #[.slice A n c, .int .i64 l] w fun e w' => ∃ r : Int, e = .returned (.int .i64 r) ∧ r ≤ l ∧ (r = -1 ∨ (0 ≤ r ∧ (n : Int) ≤ l ∧ ∀ i, i < n → ((wat xs i).v.vs.length : Int) + (wat xs i).v.gs.length ≤ l)) ∧ Below w.heap.size w w' := by
  have H1 := Lib.hid h
  have HF := Lib.hid hf
  clear h hf
  unfold maxLen at hm
  by_cases hn : (n : Int) ≤ l
  · have hnn : ¬ l - (n : Int) < 0 := by omega
    go_enter Try.func69, Try.ntmps69
    go_wp2
    go_loopw [1, 5] (fun s i wr => ∃ (k : Nat) (r : Int), k ≤ n ∧ i = .int .i64 k ∧ s = .int .i64 r ∧ 0 ≤ r ∧ r ≤ l ∧ Hid (∀ i, i < k → ((wat xs i).v.vs.length : Int) + (wat xs i).v.gs.length ≤ l) ∧ Hid (Below w.heap.size w wr)) (fun _ i _ => n - (intOf i).toNat)
    case atStart => exact ⟨0, _, Nat.zero_le _, rfl, rfl, by omega, by omega, fun i hi => absurd hi (by omega), Below.refl _ _⟩
    case round =>
      obtain ⟨k, r, hk, rfl, rfl, hr0, hrl, HK, HB⟩ := hrel
      by_cases hlt : k < n
      · obtain ⟨g1, o1, rfl, hg1, q1⟩ := H1.out.at8 hlt
        obtain ⟨a0, a1, a2, a3, a4, a5, a6, a7⟩ := q1.below (HB.out.mono hB) hg1
        have hfk := HF.out k hlt
        have hf1 := hfk.1
        have hf2 := hfk.2
        clear q1 hfk
        by_cases hy : ((wat xs k).v.vs.length : Int) + (wat xs k).v.gs.length ≤ r
        · have HS := Lib.hid (fun W => szWarp_yes (wat xs k).v.kd (wat xs k).A (wat xs k).v.vs.length (wat xs k).c (wat xs k).B (wat xs k).v.gs.length (wat xs k).d (wat xs k).v.td (wat xs k).v.ph (wat xs k).v.pr (wat xs k).v.hd (wat xs k).v.sn r W (by omega) hy)
          have hn2 : ¬ r - ((wat xs k).v.vs.length : Int) - ((wat xs k).v.gs.length : Int) < 0 := by omega
          have HKN : Hid (∀ i, i < k + 1 → ((wat xs i).v.vs.length : Int) + (wat xs i).v.gs.length ≤ l) := fun i hi => by
            by_cases e : i = k
            · subst e; omega
            · exact HK.out i (by omega)
          have r1 : 0 ≤ r - ((wat xs k).v.vs.length : Int) - ((wat xs k).v.gs.length : Int) := by omega
          have r2 : r - ((wat xs k).v.vs.length : Int) - ((wat xs k).v.gs.length : Int) ≤ l := by omega
          clear hf1 hf2 HK
          go_wp2_with fail
          refine (HS.out _).mono ?_
          rintro e w2 ⟨rfl, hb⟩
          have HB2 := Lib.hid (HB.out.trans (hb.mono HB.out.size))
          clear hb HB HS a0 a1 a2 a3 a4 a5 a6 a7
          go_wp2
          go_roundw
          case rel => exact ⟨k + 1, _, by omega, by go_num, rfl, r1, r2, HKN, HB2⟩
          case measure => simp [intOf]; omega
        · have HS := Lib.hid (fun W => szWarp_no (wat xs k).v.kd (wat xs k).A (wat xs k).v.vs.length (wat xs k).c (wat xs k).B (wat xs k).v.gs.length (wat xs k).d (wat xs k).v.td (wat xs k).v.ph (wat xs k).v.pr (wat xs k).v.hd (wat xs k).v.sn r W (by omega) (by omega) hf1 hf2 (by omega))
          clear hf1 hf2 hy
          go_wp2_with fail
          refine (HS.out _).mono ?_
          rintro e w2 ⟨rfl, hb⟩
          have HB2 := Lib.hid (HB.out.trans (hb.mono HB.out.size))
          clear hb HB HS a0 a1 a2 a3 a4 a5 a6 a7
          go_wp2
          go_ret
          exact ⟨-1, rfl, by omega, .inl rfl, HB2.out⟩
      · obtain rfl : k = n := by omega
        go_wp2
        go_ret
        exact ⟨r, rfl, hrl, .inr ⟨hr0, hn, HK.out⟩, HB.out⟩
  · have hnn : l - (n : Int) < 0 := by omega
    go_enter Try.func69, Try.ntmps69
    go_wp2
    go_ret
    exact ⟨-1, rfl, by omega, .inl rfl, Below.refl _ _⟩

end Go.Proofs.Ytooegpebimpjcaa
