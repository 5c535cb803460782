/- The law of a copy of a whole list of ints into a slice that the call has made. -/
/- What a submission gives, in plain numbers. -/
/- The contract of the program's WarpSubmit. -/
import Derived.Test.YtooegpebimpjcaaRepI
import Derived.Test.YtooegpebimpjcaaKp
import Derived.Laws.CopyOwn
import Derived.Test.YtooegpebimpjcaaWarpM
import Derived.Test.YtooegpebimpjcaaSOf
import Derived.Test.YtooegpebimpjcaaIWarpOk
import Derived.Test.YtooegpebimpjcaaINew
namespace Go.Proofs.Ytooegpebimpjcaa
open Go.RowKit
set_option linter.unusedVariables false

theorem Kp.setCell (w : World) (p : Addr) (u : Value) : Kp (fun k => k = p.block) w (w.setCell p u) := ⟨rfl, rfl, rfl, by simp, fun k _ hn => Below.heap_setCell w p u k hn⟩
/-- An owned slice is kept by a store into another block. -/
theorem OwnK.apart {e : TypeId} {kd : IntKind} {w : World} {b0 n c : Nat} {A : Option Addr} {zs : List Int} {p : Addr} (h : OwnK e kd w b0 A n c zs) (hp : ∀ g, (Value.slice A n c).ownBlock = some g → g ≠ p.block) (u : Value) : OwnK e kd (w.setCell p u) b0 A n c zs := h.kp (Kp.setCell w p u) hp

theorem wpList_copy_int {w : World} {ops : Array Oper} {rest : List Oper} {o : Oper} {a : Act} {Q : Exit → Act → World → Prop} (hgd : o.guard = none) (d s : Operand)
    (ho : o.op = .call { callee := .builtin .copy, args := #[d, s], argTypes := #[27, 27] })
    (g n c c2 B b0 : Nat) (A : Option Addr) (ys zs : List Int) (hd : a.eval d = .slice (some ⟨g, 0, none⟩) n c) (hs : a.eval s = .slice A n c2) (h0 : 0 < n)
    (hO : OwnK 3 .i64 w b0 (some ⟨g, 0, none⟩) n c ys) (hR : RdK .i64 w B A n zs)
    (h : ∀ w', Hid (OwnK 3 .i64 w' b0 (some ⟨g, 0, none⟩) n c zs) → Hid (Kp (fun k => k = g) w w') → wpList Try.prog ops Q rest (a.put o.dst (goInt n)) w') : wpList Try.prog ops Q (o :: rest) a w := by
  have hz := hR.1
  rcases hO.2 with ⟨hv, _⟩ | ⟨g', cap, cur, hv, hb, hh, hcn, hcm, hsz, ht⟩
  · simp at hv
  · obtain ⟨rfl, rfl⟩ : g = g' ∧ c = cap := by injection hv with h1 h2 h3; injection h1 with h1; injection h1 with h1; exact ⟨h1, h3⟩
    obtain ⟨g1, o1, rfl, _, hc⟩ := hR.2 h0
    have hlen : (zs.map (Value.int .i64)).length = n := by simp [hz]
    have hsrc : ∀ j v, (zs.map (Value.int .i64))[j]? = some v → w.cell? ((⟨g1, o1, none⟩ : Addr).add j) = some v := by
      intro j v hj
      have hlt : j < n := by
        have := (List.getElem?_eq_some_iff.1 hj).1
        simpa [hz] using this
      have e : v = .int .i64 (zs[j]?.getD 0) := by
        have hj' : j < zs.length := by omega
        simp [hj'] at hj ⊢
        exact hj.symm
      rw [e, ← hc j hlt]
      congr 1
      unfold Addr.add; split <;> simp_all
    have hfit : 0 + (zs.map (Value.int .i64)).length ≤ cur.size := by rw [hlen, hsz]; omega
    have e1 : ∀ v ∈ zs.map (Value.int .i64), v.oneCell' = true := by
      intro v hv
      obtain ⟨z, _, rfl⟩ := List.mem_map.1 hv
      rfl
    refine wpList_copy_own hgd d s 27 27 ho 3 Try.underlying27 size_int1 g 0 n c ⟨g1, o1, none⟩ n c2 hd hs cur _ hh (zs.map (Value.int .i64)) (by rw [hlen]; simp) hsrc hfit e1 ?_
    have hw := setRow_heap w g cur (cur.toList.take 0 ++ (zs.map (Value.int .i64) ++ cur.toList.drop (0 + (zs.map (Value.int .i64)).length))).toArray _ (0, 0) hh
    rw [hlen] at hw ⊢
    refine h _ ⟨by simp [hz], .inr ⟨g, c, _, rfl, hb, hw, hcn, hcm, ?_, ?_⟩⟩ ⟨rfl, rfl, rfl, by simp [World.setRow], fun k hk hn => setRow_other w g k _ hn⟩
    · simp [hz, hsz]; omega
    · simp [hz]

end Go.Proofs.Ytooegpebimpjcaa

namespace Go.Proofs.Ytooegpebimpjcaa
open Go.RowKit

/-- A warp that may take a request, and a valid request. -/
def SubOk (kd : Int) (vs gs : List Int) (td : Nat) (ph pr hd : Int) (sn : Nat) (rk : Int) (us : List Int) : Prop := (WarpGood kd vs gs td ph pr hd sn 16 ∧ kd = 0) ∧ ReqGood rk us
instance (kd : Int) (vs gs : List Int) (td : Nat) (ph pr hd : Int) (sn : Nat) (rk : Int) (us : List Int) : Decidable (SubOk kd vs gs td ph pr hd sn rk us) := inferInstanceAs (Decidable (_ ∧ _))
def subK (r : Bool) (rk : Int) (us : List Int) : Int := if r = true ∧ orL (askL rk us) ≠ 0 then rk else 0
def subN (r : Bool) : Nat := if r = true then 8 else 0
def subV (r : Bool) (us : List Int) : List Int := if r = true then us else []
def subG (r : Bool) : List Int := if r = true then List.replicate 8 (-1) else []
def subT (r : Bool) (rk : Int) (us : List Int) : Nat := if r = true then orL (askL rk us) else 0

theorem askL_lt8 {kd : Int} {vs : List Int} {j : Nat} (h : j ∈ askL kd vs) : j < 8 := by
  unfold askL at h
  have := (List.mem_filter.1 h).1
  simpa using this

theorem ask_ofA (kd : Int) (vs : List Int) : ofA (ints (askL kd vs)) = orL (askL kd vs) := by
  have h : bitsG 0 (ints (askL kd vs)) = some (orL (askL kd vs)) := bitsG_ok _ 0 (fun k hk => ⟨by have := askL_lt8 hk; omega, Nat.zero_testBit k⟩) (by unfold askL; exact List.Sublist.nodup List.filter_sublist List.nodup_range)
  unfold ofA
  rw [h]
  rfl

end Go.Proofs.Ytooegpebimpjcaa

namespace Go.Proofs.Ytooegpebimpjcaa
open Go.RowKit
set_option linter.unusedVariables false

set_option maxRecDepth 100000 in
set_option maxHeartbeats 4000000 in
theorem warpSubmit_any (kd : Int) (A : Option Addr) (n c : Nat) (B : Option Addr) (m d td : Nat) (ph pr hd : Int) (sn : Nat) (vs gs : List Int) (Bv Bg : Nat) (rk : Int) (D : Option Addr) (o f Bu : Nat) (us : List Int) (w : World) (hv : RdK .i64 w Bv A n vs) (hB : Bv ≤ w.heap.size) (hm : n ≤ maxLen) (hg : RdK .i64 w Bg B m gs) (hBg : Bg ≤ w.heap.size) (hm2 : m ≤ maxLen) (ht : td < 4294967296) (hsn : sn < 4294967296) (hpr : (Lit.int .i64 pr).wf = true)
    (hu : RdK .i64 w Bu D o us) (hBu : Bu ≤ w.heap.size) (hm3 : o ≤ maxLen) :
    Calls Try.prog 18 #[.agg #[.int .i64 kd, .slice A n c, .slice B m d, .int .u32 (td : Int), .int .i64 ph, .int .i64 pr, .int .i64 hd, .int .u32 (sn : Int)], .agg #[.int .i64 rk, .slice D o f]] w fun e w' => ∃ A' c' B' d', e = .returned (.tuple #[.agg #[.int .i64 (subK (decide (SubOk kd vs gs td ph pr hd sn rk us)) rk us), .slice A' (subN (decide (SubOk kd vs gs td ph pr hd sn rk us))) c', .slice B' (subN (decide (SubOk kd vs gs td ph pr hd sn rk us))) d', .int .u32 ((subT (decide (SubOk kd vs gs td ph pr hd sn rk us)) rk us : Nat) : Int), .int .i64 0, .int .i64 0, .int .i64 0, .int .u32 0], .bool (decide (SubOk kd vs gs td ph pr hd sn rk us))]) ∧ OwnK 3 .i64 w' w.heap.size A' (subN (decide (SubOk kd vs gs td ph pr hd sn rk us))) c' (subV (decide (SubOk kd vs gs td ph pr hd sn rk us)) us) ∧ OwnK 3 .i64 w' w.heap.size B' (subN (decide (SubOk kd vs gs td ph pr hd sn rk us))) d' (subG (decide (SubOk kd vs gs td ph pr hd sn rk us))) ∧ (∀ g, (Value.slice A' (subN (decide (SubOk kd vs gs td ph pr hd sn rk us))) c').ownBlock = some g → (Value.slice B' (subN (decide (SubOk kd vs gs td ph pr hd sn rk us))) d').ownBlock ≠ some g) ∧ Below w.heap.size w w' := by
  have HW : Hid (∀ W, Below w.heap.size w W → Calls Try.prog 53 #[.agg #[.int .i64 kd, .slice A n c, .slice B m d, .int .u32 (td : Int), .int .i64 ph, .int .i64 pr, .int .i64 hd, .int .u32 (sn : Int)], .int .i64 16] W fun e w' => e = .returned (.bool (decide (WarpGood kd vs gs td ph pr hd sn 16))) ∧ Below W.heap.size W w') := fun W hb => warpOk_any kd A n c B m d td ph pr hd sn vs gs Bv Bg 16 W (hv.below (hb.mono hB)) (Nat.le_trans hB hb.size) hm (hg.below (hb.mono hBg)) hm2 ht hsn hpr
  have HQ : Hid (∀ W, Below w.heap.size w W → Calls Try.prog 54 #[.agg #[.int .i64 rk, .slice D o f]] W fun e w' => e = .returned (.bool (decide (ReqGood rk us))) ∧ Below W.heap.size W w') := fun W hb => reqOk_any rk D o f Bu us W (hu.below (hb.mono hBu)) (Nat.le_trans hBu hb.size) hm3
  have HU := Lib.hid hu
  have HB0 := Lib.hid (bel3 w (.cells #[.int .i64 kd, .slice A n c, .slice B m d, .int .u32 (td : Int), .int .i64 ph, .int .i64 pr, .int .i64 hd, .int .u32 (sn : Int)] 35) (.cells #[.int .i64 rk, .slice D o f] 39) (.cells #[.int .i64 0, .slice none 0 0, .slice none 0 0, .int .u32 0, .int .i64 0, .int .i64 0, .int .i64 0, .int .u32 0] 35))
  clear hv hg hu hpr hsn ht hm hm2 hm3 hB hBg
  by_cases c0 : WarpGood kd vs gs td ph pr hd sn 16
  · have k0 : decide (WarpGood kd vs gs td ph pr hd sn 16) = true := decide_eq_true c0
    by_cases c1 : kd = 0
    · have k1 : (kd != 0) = false := by simp [c1]
      by_cases c2 : ReqGood rk us
      · have k2 : decide (ReqGood rk us) = true := decide_eq_true c2
        have HR : Hid (decide (SubOk kd vs gs td ph pr hd sn rk us) = true) := decide_eq_true ⟨⟨c0, c1⟩, c2⟩
        have ho : o = 8 := by rw [← HU.out.1]; exact c2.1
        have HN := Lib.hid (fun W => warpNew_any W)
        obtain ⟨T, hT⟩ : ∃ T, T = orL (askL rk us) := ⟨_, rfl⟩
        have HT := Lib.hid hT
        have HL : Hid (∀ W, Below w.heap.size w W → Calls Try.prog 56 #[.agg #[.int .i64 rk, .slice D o f]] W fun e w' => e = .returned (.int .u32 (T : Int)) ∧ Below W.heap.size W w') := fun W hb => hT ▸ lanes_any rk D o f Bu us W (HU.out.below (hb.mono hBu)) (Nat.le_trans hBu hb.size) c2
        have HK : Hid (subK true rk us = if T ≠ 0 then rk else 0) := by rw [hT]; simp [subK, Hid]
        clear c0 c1 c2
        clear hT
        have H8 := Lib.hid ho
        clear ho
        go_enter Try.func18, Try.ntmps18
        go_wp2_with fail
        refine (HW.out _ HB0.out).mono ?_
        rintro e w1 ⟨rfl, hb⟩
        obtain ⟨h2, h3, h4, hB1, z1⟩ := nw3 hb
        have B1 := Lib.hid hB1
        have L3 := Lib.hid h3
        have L4 := Lib.hid h4
        have a0 := blkc h2 0 rfl
        have q0 := blkc h3 0 rfl
        have q1 := blkc h3 1 rfl
        clear hb h2 h3 h4 hB1 HW HB0
        go_wp2_with fail
        clear a0 q0 q1
        refine (HQ.out _ B1.out).mono ?_
        rintro e w2 ⟨rfl, hb⟩
        have z2 := hb.size
        have L3b := Lib.hid ((hb.block _ (by omega)).trans L3.out)
        have L4b := Lib.hid ((hb.block _ (by omega)).trans L4.out)
        have B2 := Lib.hid (B1.out.trans (hb.mono B1.out.size))
        clear hb L3 L4 B1 HQ
        go_wp2_with fail
        refine (HN.out _).mono ?_
        rintro e w3 ⟨g, c', g2, d', rfl, hv, hg, hb⟩
        have z3 := hb.size
        have hv1 := (World.ownsRow.lt hv g rfl)
        have hg1 := (World.ownsRow.lt hg g2 rfl)
        have L3 := Lib.hid ((hb.block _ (by omega)).trans L3b.out)
        have L4 := Lib.hid ((hb.block _ (by omega)).trans L4b.out)
        have B3 := Lib.hid (B2.out.trans (hb.mono B2.out.size))
        have V3 := Lib.hid hv
        have G3 := Lib.hid hg
        clear hb L3b L4b B2 HN hv hg
        have n1 : ¬ w3.heap.size = g := by omega
        have n2 : ¬ w3.heap.size = g2 := by omega
        have n3 : w.heap.size + 1 < w3.heap.size := by omega
        have n4 : ¬ w.heap.size + 1 = w3.heap.size := by omega
        have q0 : w3.cell? ⟨w.heap.size + 1, 0, none⟩ = some (.int .i64 rk) := blkc L3.out 0 rfl
        have q1 : w3.cell? ⟨w.heap.size + 1, 1, none⟩ = some (.slice D o f) := blkc L3.out 1 rfl
        have q8 := H8.out
        subst q8
        have q3 : (w3.alloc (.cells #[.int .i64 0, .slice (some ⟨g, 0, none⟩) 8 c', .slice (some ⟨g2, 0, none⟩) 8 d', .int .u32 0, .int .i64 0, .int .i64 0, .int .i64 0, .int .u32 0] 35)).cell? ⟨w.heap.size + 1, 1, none⟩ = some (.slice D 8 f) := blkc (((bel1 w3 (.cells #[.int .i64 0, .slice (some ⟨g, 0, none⟩) 8 c', .slice (some ⟨g2, 0, none⟩) 8 d', .int .u32 0, .int .i64 0, .int .i64 0, .int .i64 0, .int .u32 0] 35)).block _ (by omega)).trans L3.out) 1 rfl
        go_wp2_with (with_reducible refine wpList_copy_int rfl (.tmp 23) (.tmp 25) rfl g 8 c' f Bu w2.heap.size D (List.replicate 8 (-1)) us rfl rfl (by omega) (V3.out.alloc _) (HU.out.below ((B3.out.alloc B3.out.size (.cells #[.int .i64 0, .slice (some ⟨g, 0, none⟩) 8 c', .slice (some ⟨g2, 0, none⟩) 8 d', .int .u32 0, .int .i64 0, .int .i64 0, .int .i64 0, .int .u32 0] 35)).mono hBu)) ?_)
        intro w4 V4 K4
        have hk := K4.out
        have z4 := hk.size
        rw [sz1] at z4
        have B4 : Hid (Below w.heap.size w w4) := Kp.bel hk (B3.out.alloc B3.out.size _) (by rw [sz1]; omega) (fun k h => by omega)
        have L3b : Hid (w4.heap[w.heap.size + 1]? = _) := (hk.block _ (by rw [sz1]; omega) (by omega)).trans (((bel1 w3 _).block _ (by omega)).trans L3.out)
        have L4b : Hid (w4.heap[w.heap.size + 2]? = _) := (hk.block _ (by rw [sz1]; omega) (by omega)).trans (((bel1 w3 _).block _ (by omega)).trans L4.out)
        have N4 : Hid (w4.heap[w3.heap.size]? = some (.cells #[.int .i64 0, .slice (some ⟨g, 0, none⟩) 8 c', .slice (some ⟨g2, 0, none⟩) 8 d', .int .u32 0, .int .i64 0, .int .i64 0, .int .i64 0, .int .u32 0] 35 (0, 0))) := (hk.block _ (by rw [sz1]; omega) (by omega)).trans (heap_alloc_new _ _)
        have G4 : Hid (OwnK 3 .i64 w4 (g + 1) (some ⟨g2, 0, none⟩) 8 d' (List.replicate 8 (-1))) := (G3.out.alloc _).kp hk (fun q hq h => by have := World.ownsRow.lt G3.out q hq; omega)
        clear hk K4 L3 L4 V3 G3 B3 q0 q1 q3
        have q0 := blkc L3b.out 0 rfl
        have q1 := blkc L3b.out 1 rfl
        go_wp2_with fail
        clear q0 q1
        refine (HL.out _ B4.out).mono ?_
        rintro e w5 ⟨rfl, hb⟩
        have z5 := hb.size
        have L3 := Lib.hid ((hb.block _ (by omega)).trans L3b.out)
        have L4 := Lib.hid ((hb.block _ (by omega)).trans L4b.out)
        have N5 := Lib.hid ((hb.block _ (by omega)).trans N4.out)
        have V5 := Lib.hid (V4.out.below hb)
        have G5 := Lib.hid (G4.out.below hb)
        have B5 := Lib.hid (B4.out.trans (hb.mono B4.out.size))
        clear hb L3b L4b N4 V4 G4 B4 HL
        have q0 := blkc L3.out 0 rfl
        have n_0 := blkc N5.out 0 rfl
        have r_0 := blkc L4.out 0 rfl
        have n_1 := blkc N5.out 1 rfl
        have r_1 := blkc L4.out 1 rfl
        have n_2 := blkc N5.out 2 rfl
        have r_2 := blkc L4.out 2 rfl
        have n_3 := blkc N5.out 3 rfl
        have r_3 := blkc L4.out 3 rfl
        have n_4 := blkc N5.out 4 rfl
        have r_4 := blkc L4.out 4 rfl
        have n_5 := blkc N5.out 5 rfl
        have r_5 := blkc L4.out 5 rfl
        have n_6 := blkc N5.out 6 rfl
        have r_6 := blkc L4.out 6 rfl
        have n_7 := blkc N5.out 7 rfl
        have r_7 := blkc L4.out 7 rfl
        have fn := blkf N5.out
        have fr := blkf L4.out
        have m1 : ¬ w.heap.size + 2 = w3.heap.size := by omega
        have m2 : ¬ w3.heap.size = w.heap.size + 2 := by omega
        have m3 : ¬ w3.heap.size = w.heap.size + 1 := by omega
        have m4 : w3.heap.size < w5.heap.size := by omega
        have m5 : w.heap.size + 2 < w5.heap.size := by omega
        clear L3 L4 N5
        by_cases hT : T = 0
        · have t1 : ((T : Int) != 0) = false := by simp [hT]
          have HV : Hid (subK true rk us = 0) := by rw [HK.out]; simp [hT, Hid]
          go_wp2
          refine bodyPost_ret (v := .tuple #[.agg #[.int .i64 0, .slice (some ⟨g, 0, none⟩) 8 c', .slice (some ⟨g2, 0, none⟩) 8 d', .int .u32 (T : Int), .int .i64 0, .int .i64 0, .int .i64 0, .int .u32 0], .bool true]) (by simp [results, Try.results18, go_sem, r_0, r_1, r_2, r_3, r_4, r_5, r_6, r_7, hT]) rfl ⟨some ⟨g, 0, none⟩, c', some ⟨g2, 0, none⟩, d', by rw [HR.out, HV.out]; simp [subN, subT, HT.out], ?_, ?_, ?_, ?_⟩
          · rw [HR.out]; show OwnK 3 .i64 _ _ (some ⟨g, 0, none⟩) 8 c' us; exact OwnK.from_ (b0 := w2.heap.size) (by repeat' (first | (with_reducible exact V5.out) | (with_reducible refine OwnK.apart ?_ ?_ _) | (intro q hq; have hq1 := World.ownsRow.lt V5.out q hq; (try (have hq2 : g = q := by simpa [Value.ownBlock] using hq)); (try (have hq3 : g2 = q := by simpa [Value.ownBlock] using hq)); simp; omega))) (by omega)
          · rw [HR.out]; show OwnK 3 .i64 _ _ (some ⟨g2, 0, none⟩) 8 d' (List.replicate 8 (-1)); exact OwnK.from_ (b0 := g + 1) (by repeat' (first | (with_reducible exact G5.out) | (with_reducible refine OwnK.apart ?_ ?_ _) | (intro q hq; have hq1 := World.ownsRow.lt G5.out q hq; (try (have hq2 : g = q := by simpa [Value.ownBlock] using hq)); (try (have hq3 : g2 = q := by simpa [Value.ownBlock] using hq)); simp; omega))) (by omega)
          · intro q hq hq2
            rw [HR.out] at hq hq2
            have e1 := World.ownsRow.lt V5.out q hq
            have e2 := World.ownsRow.lt G5.out q hq2
            have e3 : g = q := by simpa [Value.ownBlock, subN] using hq
            omega
          · exact (by repeat' (first | (with_reducible exact B5.out) | (with_reducible refine Below.setCell ?_ ?_ _) | (with_reducible refine Below.alloc ?_ ?_ _) | omega | (simp; done) | (simp; omega)))
        · have t1 : ((T : Int) != 0) = true := by simp [hT]
          have HV : Hid (subK true rk us = rk) := by rw [HK.out]; simp [hT, Hid]
          go_wp2
          refine bodyPost_ret (v := .tuple #[.agg #[.int .i64 rk, .slice (some ⟨g, 0, none⟩) 8 c', .slice (some ⟨g2, 0, none⟩) 8 d', .int .u32 (T : Int), .int .i64 0, .int .i64 0, .int .i64 0, .int .u32 0], .bool true]) (by simp [results, Try.results18, go_sem, r_0, r_1, r_2, r_3, r_4, r_5, r_6, r_7]) rfl ⟨some ⟨g, 0, none⟩, c', some ⟨g2, 0, none⟩, d', by rw [HR.out, HV.out]; simp [subN, subT, HT.out], ?_, ?_, ?_, ?_⟩
          · rw [HR.out]; show OwnK 3 .i64 _ _ (some ⟨g, 0, none⟩) 8 c' us; exact OwnK.from_ (b0 := w2.heap.size) (by repeat' (first | (with_reducible exact V5.out) | (with_reducible refine OwnK.apart ?_ ?_ _) | (intro q hq; have hq1 := World.ownsRow.lt V5.out q hq; (try (have hq2 : g = q := by simpa [Value.ownBlock] using hq)); (try (have hq3 : g2 = q := by simpa [Value.ownBlock] using hq)); simp; omega))) (by omega)
          · rw [HR.out]; show OwnK 3 .i64 _ _ (some ⟨g2, 0, none⟩) 8 d' (List.replicate 8 (-1)); exact OwnK.from_ (b0 := g + 1) (by repeat' (first | (with_reducible exact G5.out) | (with_reducible refine OwnK.apart ?_ ?_ _) | (intro q hq; have hq1 := World.ownsRow.lt G5.out q hq; (try (have hq2 : g = q := by simpa [Value.ownBlock] using hq)); (try (have hq3 : g2 = q := by simpa [Value.ownBlock] using hq)); simp; omega))) (by omega)
          · intro q hq hq2
            rw [HR.out] at hq hq2
            have e1 := World.ownsRow.lt V5.out q hq
            have e2 := World.ownsRow.lt G5.out q hq2
            have e3 : g = q := by simpa [Value.ownBlock, subN] using hq
            omega
          · exact (by repeat' (first | (with_reducible exact B5.out) | (with_reducible refine Below.setCell ?_ ?_ _) | (with_reducible refine Below.alloc ?_ ?_ _) | omega | (simp; done) | (simp; omega)))
      · have k2 : decide (ReqGood rk us) = false := decide_eq_false c2
        have HR : Hid (decide (SubOk kd vs gs td ph pr hd sn rk us) = false) := decide_eq_false (fun h => c2 h.2)
        clear c0 c1 c2
        go_enter Try.func18, Try.ntmps18
        go_wp2_with fail
        refine (HW.out _ HB0.out).mono ?_
        rintro e w1 ⟨rfl, hb⟩
        obtain ⟨h2, h3, h4, hB1, z1⟩ := nw3 hb
        have B0 := Lib.hid hB1
        have L4b := Lib.hid h4
        have a0 := blkc h2 0 rfl
        have q0 := blkc h3 0 rfl
        have q1 := blkc h3 1 rfl
        clear hb h2 h3 h4 hB1 HW HB0
        go_wp2_with fail
        clear a0 q0 q1
        refine (HQ.out _ B0.out).mono ?_
        rintro e w2 ⟨rfl, hb⟩
        have z2 := hb.size
        have L4 := Lib.hid ((hb.block _ (by omega)).trans L4b.out)
        have B1 := Lib.hid (B0.out.trans (hb.mono B0.out.size))
        clear hb B0 L4b HQ
        have z0 := blkc L4.out 0 rfl
        have z1 := blkc L4.out 1 rfl
        have z2 := blkc L4.out 2 rfl
        have z3 := blkc L4.out 3 rfl
        have z4 := blkc L4.out 4 rfl
        have z5 := blkc L4.out 5 rfl
        have z6 := blkc L4.out 6 rfl
        have z7 := blkc L4.out 7 rfl
        have fz := blkf L4.out
        go_wp2
        refine bodyPost_ret (v := .tuple #[.agg #[.int .i64 0, .slice none 0 0, .slice none 0 0, .int .u32 0, .int .i64 0, .int .i64 0, .int .i64 0, .int .u32 0], .bool false]) (by simp [results, Try.results18, go_sem, z0, z1, z2, z3, z4, z5, z6, z7]) rfl ⟨none, 0, none, 0, by simp [HR.out, subK, subN, subT], ?_, ?_, ?_, ?_⟩
        · rw [HR.out]; exact World.ownsRow_nil _ _ _ _
        · rw [HR.out]; exact World.ownsRow_nil _ _ _ _
        · intro g hg; simp [HR.out, subN, Value.ownBlock] at hg
        · exact (by repeat' (first | (with_reducible exact B1.out) | (with_reducible refine Below.setCell ?_ ?_ _) | (with_reducible refine Below.alloc ?_ ?_ _) | omega | (simp; done) | (simp; omega)))
    · have k1 : (kd != 0) = true := by simpa using c1
      have HR : Hid (decide (SubOk kd vs gs td ph pr hd sn rk us) = false) := decide_eq_false (fun h => c1 h.1.2)
      clear c0 c1
      go_enter Try.func18, Try.ntmps18
      go_wp2_with fail
      refine (HW.out _ HB0.out).mono ?_
      rintro e w1 ⟨rfl, hb⟩
      obtain ⟨h2, h3, h4, hB1, z1⟩ := nw3 hb
      have B1 := Lib.hid hB1
      have L4 := Lib.hid h4
      have a0 := blkc h2 0 rfl
      clear hb h2 h3 h4 hB1 HW HB0
      have z0 := blkc L4.out 0 rfl
      have z1 := blkc L4.out 1 rfl
      have z2 := blkc L4.out 2 rfl
      have z3 := blkc L4.out 3 rfl
      have z4 := blkc L4.out 4 rfl
      have z5 := blkc L4.out 5 rfl
      have z6 := blkc L4.out 6 rfl
      have z7 := blkc L4.out 7 rfl
      have fz := blkf L4.out
      go_wp2
      refine bodyPost_ret (v := .tuple #[.agg #[.int .i64 0, .slice none 0 0, .slice none 0 0, .int .u32 0, .int .i64 0, .int .i64 0, .int .i64 0, .int .u32 0], .bool false]) (by simp [results, Try.results18, go_sem, z0, z1, z2, z3, z4, z5, z6, z7]) rfl ⟨none, 0, none, 0, by simp [HR.out, subK, subN, subT], ?_, ?_, ?_, ?_⟩
      · rw [HR.out]; exact World.ownsRow_nil _ _ _ _
      · rw [HR.out]; exact World.ownsRow_nil _ _ _ _
      · intro g hg; simp [HR.out, subN, Value.ownBlock] at hg
      · exact (by repeat' (first | (with_reducible exact B1.out) | (with_reducible refine Below.setCell ?_ ?_ _) | (with_reducible refine Below.alloc ?_ ?_ _) | omega | (simp; done) | (simp; omega)))
  · have k0 : decide (WarpGood kd vs gs td ph pr hd sn 16) = false := decide_eq_false c0
    have HR : Hid (decide (SubOk kd vs gs td ph pr hd sn rk us) = false) := decide_eq_false (fun h => c0 h.1.1)
    clear c0
    go_enter Try.func18, Try.ntmps18
    go_wp2_with fail
    refine (HW.out _ HB0.out).mono ?_
    rintro e w1 ⟨rfl, hb⟩
    obtain ⟨h2, h3, h4, hB1, z1⟩ := nw3 hb
    have B1 := Lib.hid hB1
    have L4 := Lib.hid h4
    clear hb h2 h3 h4 hB1 HW HB0
    have z0 := blkc L4.out 0 rfl
    have z1 := blkc L4.out 1 rfl
    have z2 := blkc L4.out 2 rfl
    have z3 := blkc L4.out 3 rfl
    have z4 := blkc L4.out 4 rfl
    have z5 := blkc L4.out 5 rfl
    have z6 := blkc L4.out 6 rfl
    have z7 := blkc L4.out 7 rfl
    have fz := blkf L4.out
    go_wp2
    refine bodyPost_ret (v := .tuple #[.agg #[.int .i64 0, .slice none 0 0, .slice none 0 0, .int .u32 0, .int .i64 0, .int .i64 0, .int .i64 0, .int .u32 0], .bool false]) (by simp [results, Try.results18, go_sem, z0, z1, z2, z3, z4, z5, z6, z7]) rfl ⟨none, 0, none, 0, by simp [HR.out, subK, subN, subT], ?_, ?_, ?_, ?_⟩
    · rw [HR.out]; exact World.ownsRow_nil _ _ _ _
    · rw [HR.out]; exact World.ownsRow_nil _ _ _ _
    · intro g hg; simp [HR.out, subN, Value.ownBlock] at hg
    · exact (by repeat' (first | (with_reducible exact B1.out) | (with_reducible refine Below.setCell ?_ ?_ _) | (with_reducible refine Below.alloc ?_ ?_ _) | omega | (simp; done) | (simp; omega)))

end Go.Proofs.Ytooegpebimpjcaa
