/- The law, for ints, of 'append([]int{}, s...)': a new slice that holds the ints of s, s nil or not. -/
/- The contract of the model's WarpSubmit. -/
import Derived.Test.YtooegpebimpjcaaOwnK
import Derived.Maps.AppendAt
import Derived.Test.YtooegpebimpjcaaSWarpOk
import Derived.Test.YtooegpebimpjcaaSNew
import Derived.Test.YtooegpebimpjcaaSOf
import Derived.Test.YtooegpebimpjcaaISubmit
import Derived.Lib.SmallJoins
namespace Go.Proofs.Ytooegpebimpjcaa
open Go.RowKit

theorem run_append_noneI (w : World) (ty : TypeId) (b0 : Nat) (v : Value) (n c : Nat) (xs : List Value) (h : w.ownsRow b0 3 1 v n xs) :
    (Builtin.append_ #[27, 27] ty #[v, .slice none 0 c]).run Try.prog w = .ok v w := by
  obtain ⟨i0, hi, hz0, hz1, hz2⟩ := info_parts info_int
  rcases h.2 with ⟨rfl, rfl⟩ | ⟨g, cap, cur, rfl, _, _, hnc, _⟩
  · simp [Builtin.append_, run_underlying Try.underlying27, sizeOf, typeInfo, hi, Builtin.lenOf, Builtin.firstCells]
  · simp [Builtin.append_, run_underlying Try.underlying27, sizeOf, typeInfo, hi, Builtin.lenOf, Builtin.firstCells, hnc, storeCells]

theorem own_shapeI {w : World} {b0 n : Nat} {v : Value} {zs : List Int} (h : w.ownsRow b0 3 1 v n (zs.map (Value.int .i64))) : ∃ A c, v = .slice A n c ∧ OwnK 3 .i64 w b0 A n c zs := by
  rcases h.2 with ⟨rfl, rfl⟩ | ⟨g, cap, cur, rfl, r⟩
  · exact ⟨_, _, rfl, h⟩
  · exact ⟨_, _, rfl, h⟩

set_option maxRecDepth 100000 in
theorem run_append_rdI (w : World) (ty : TypeId) (b0 B n m c : Nat) (v : Value) (A : Option Addr) (ys zs : List Int) (hO : w.ownsRow b0 3 1 v n (ys.map (Value.int .i64))) (hR : RdK .i64 w B A m zs) (hnm : n + m ≤ 10000000) (hb : b0 ≤ w.heap.size) :
    ∃ A' c' w', (Builtin.append_ #[27, 27] ty #[v, .slice A m c]).run Try.prog w = .ok (.slice A' (n + m) c') w' ∧ OwnK 3 .i64 w' b0 A' (n + m) c' (ys ++ zs) ∧ Below b0 w w' ∧ w.grownBy w' v.ownBlock := by
  obtain ⟨i0, hi, hz0, hz1, hz2⟩ := info_parts info_int
  rcases A with _ | ad
  · have hm : m = 0 := by
      rcases Nat.eq_zero_or_pos m with h0 | h0
      · exact h0
      · obtain ⟨g, o, e, _⟩ := hR.2 h0
        cases e
    subst hm
    have hz : zs = [] := List.eq_nil_of_length_eq_zero hR.1
    subst hz
    obtain ⟨A', c', rfl, hO'⟩ := own_shapeI hO
    exact ⟨A', c', w, run_append_noneI w ty b0 _ n c _ hO, by simpa using hO', Below.refl _ _, ⟨rfl, rfl, rfl, Nat.le_refl _, fun _ _ _ => rfl⟩⟩
  · have hcells : ∀ j u, (zs.map (Value.int .i64))[j]? = some u → w.cell? (ad.add j) = some u := by
      intro j u hj
      have hlt : j < zs.length := by
        have := (List.getElem?_eq_some_iff.1 hj).1
        simpa using this
      obtain ⟨g, o, e, _, hc⟩ := hR.2 (by have := hR.1; omega)
      injection e with e
      subst e
      have e2 : u = .int .i64 (zs[j]?.getD 0) := by
        simp [hlt] at hj ⊢
        exact hj.symm
      rw [e2, ← hc j (by have := hR.1; omega)]
      congr 1
      unfold Addr.add; split <;> simp_all
    obtain ⟨v', w', hrun, h2, h3, _, h5⟩ := run_append_own_at (P := Try.prog) w b0 27 ty 3 i0 (.int .i64 0) 1 8 Try.underlying27 hi hz0 hz1 hz2 rfl (by omega) v n _ hO ad m c (zs.map (Value.int .i64)) (by simp [hR.1]) hcells (ints_oneCell _ _) (by unfold maxLen; omega) (by omega) hb
    rw [← List.map_append] at h2
    obtain ⟨A', c', rfl, hO'⟩ := own_shapeI h2
    exact ⟨A', c', w', hrun, hO', (Below.refl _ _).grown h3 hb (fun k hk => (World.ownsRow.lt hO k hk).1), h3⟩

theorem wpList_append_freshI {w : World} {ops : Array Oper} {rest : List Oper} {o : Oper} {a : Act} {Q : Exit → Act → World → Prop} (hgd : o.guard = none) (s x : Operand)
    (ho : o.op = .call { callee := .builtin .append, args := #[s, x], argTypes := #[27, 27] })
    (b0 B m c c0 : Nat) (A0 A : Option Addr) (zs : List Int) (hs : a.eval s = .slice A0 0 c0) (hx : a.eval x = .slice A m c) (hO : OwnK 3 .i64 w b0 A0 0 c0 []) (hR : RdK .i64 w B A m zs) (hm : m ≤ 10000000) (hb : b0 ≤ w.heap.size)
    (h : ∀ A' c' w', Hid (OwnK 3 .i64 w' b0 A' m c' zs) → Hid (Below b0 w w') → wpList Try.prog ops Q rest (a.put o.dst (.slice A' m c')) w') : wpList Try.prog ops Q (o :: rest) a w := by
  refine wpList_plain hgd fun K hK => ?_
  obtain ⟨A', c', w', hr, h2, h3, _⟩ := run_append_rdI w o.type b0 B 0 m c (.slice A0 0 c0) A [] zs hO hR (by omega) hb
  rw [Nat.zero_add, List.nil_append] at *
  unfold Oper.wp execOp
  simp only [ho, resolve, invoke, builtin, Sem.run_bind, Sem.run_pure, Result.andThen_ok, List.map_toArray, List.map_cons, List.map_nil, hs, hx, hr]
  exact hK _ _ (h A' c' w' h2 h3)

end Go.Proofs.Ytooegpebimpjcaa

namespace Go.Proofs.Ytooegpebimpjcaa
open Go.RowKit
set_option linter.unusedVariables false

set_option maxRecDepth 100000 in
set_option maxHeartbeats 4000000 in
theorem sWarpSubmit_any (kd : Int) (A : Option Addr) (n c : Nat) (B : Option Addr) (m d td : Nat) (ph pr hd : Int) (sn : Nat) (vs gs : List Int) (Bv Bg : Nat) (rk : Int) (D : Option Addr) (o f Bu : Nat) (us : List Int) (w : World) (hv : RdK .i64 w Bv A n vs) (hB : Bv ≤ w.heap.size) (hm : n ≤ maxLen) (hg : RdK .i64 w Bg B m gs) (hBg : Bg ≤ w.heap.size) (hm2 : m ≤ maxLen) (ht : td < 4294967296) (hsn : sn < 4294967296) (hpr : (Lit.int .i64 pr).wf = true)
    (hu : RdK .i64 w Bu D o us) (hBu : Bu ≤ w.heap.size) (hm3 : o ≤ maxLen) :
    Calls Try.prog 15 #[.agg #[.int .i64 kd, .slice A n c, .slice B m d, .int .u32 (td : Int), .int .i64 ph, .int .i64 pr, .int .i64 hd, .int .u32 (sn : Int)], .agg #[.int .i64 rk, .slice D o f]] w fun e w' => ∃ A' c' B' d', e = .returned (.tuple #[.agg #[.int .i64 (subK (decide (SubOk kd vs gs td ph pr hd sn rk us)) rk us), .slice A' (subN (decide (SubOk kd vs gs td ph pr hd sn rk us))) c', .slice B' (subN (decide (SubOk kd vs gs td ph pr hd sn rk us))) d', .int .u32 ((subT (decide (SubOk kd vs gs td ph pr hd sn rk us)) rk us : Nat) : Int), .int .i64 0, .int .i64 0, .int .i64 0, .int .u32 0], .bool (decide (SubOk kd vs gs td ph pr hd sn rk us))]) ∧ OwnK 3 .i64 w' w.heap.size A' (subN (decide (SubOk kd vs gs td ph pr hd sn rk us))) c' (subV (decide (SubOk kd vs gs td ph pr hd sn rk us)) us) ∧ OwnK 3 .i64 w' w.heap.size B' (subN (decide (SubOk kd vs gs td ph pr hd sn rk us))) d' (subG (decide (SubOk kd vs gs td ph pr hd sn rk us))) ∧ (∀ g, (Value.slice A' (subN (decide (SubOk kd vs gs td ph pr hd sn rk us))) c').ownBlock = some g → (Value.slice B' (subN (decide (SubOk kd vs gs td ph pr hd sn rk us))) d').ownBlock ≠ some g) ∧ Below w.heap.size w w' := by
  have HW : Hid (∀ W, Below w.heap.size w W → Calls Try.prog 47 #[.agg #[.int .i64 kd, .slice A n c, .slice B m d, .int .u32 (td : Int), .int .i64 ph, .int .i64 pr, .int .i64 hd, .int .u32 (sn : Int)], .int .i64 16] W fun e w' => e = .returned (.bool (decide (WarpGood kd vs gs td ph pr hd sn 16))) ∧ Below W.heap.size W w') := fun W hb => sWarpOk_any kd A n c B m d td ph pr hd sn vs gs Bv Bg 16 W (hv.below (hb.mono hB)) (Nat.le_trans hB hb.size) hm (hg.below (hb.mono hBg)) hm2 ht hsn
  have HQ : Hid (∀ W, Below w.heap.size w W → Calls Try.prog 48 #[.agg #[.int .i64 rk, .slice D o f]] W fun e w' => e = .returned (.bool (decide (ReqGood rk us))) ∧ Below W.heap.size W w') := fun W hb => sReqOk_any rk D o f Bu us W (hu.below (hb.mono hBu)) (Nat.le_trans hBu hb.size) hm3
  have HU := Lib.hid hu
  have HB0 := Lib.hid (bel3 w (.cells #[.int .i64 kd, .slice A n c, .slice B m d, .int .u32 (td : Int), .int .i64 ph, .int .i64 pr, .int .i64 hd, .int .u32 (sn : Int)] 35) (.cells #[.int .i64 rk, .slice D o f] 39) (.cells #[.int .i64 0, .slice none 0 0, .slice none 0 0, .int .u32 0, .int .i64 0, .int .i64 0, .int .i64 0, .int .u32 0] 35))
  clear hv hg hu hpr hsn ht hm hm2 hm3 hB hBg
  by_cases c0 : WarpGood kd vs gs td ph pr hd sn 16
  · have k0 : decide (WarpGood kd vs gs td ph pr hd sn 16) = true := decide_eq_true c0
    by_cases c1 : kd = 0
    · have k1 : (kd != 0) = false := by simp [c1]
      by_cases c2 : ReqGood rk us
      · have k2 : decide (ReqGood rk us) = true := decide_eq_true c2
        have HR : Hid (decide (SubOk kd vs gs td ph pr hd sn rk us) = true) := decide_eq_true ⟨⟨c0, c1⟩, c2⟩
        have ho : o = 8 := by rw [← HU.out.1]; exact c2.1
        have HN := Lib.hid (fun W => sWarpNew_any W)
        obtain ⟨T, hT⟩ : ∃ T, T = orL (askL rk us) := ⟨_, rfl⟩
        have HT := Lib.hid hT
        have HA : Hid (∀ W, Below w.heap.size w W → Calls Try.prog 51 #[.int .i64 rk, .slice D o f] W fun e w' => ∃ A' k c', k ≤ 8 ∧ e = .returned (.slice A' k c') ∧ OwnK 3 .i64 w' W.heap.size A' k c' (ints (askL rk us)) ∧ Below W.heap.size W w') := fun W hb => (sAsks_any rk D o f Bu us W (HU.out.below (hb.mono hBu)) (Nat.le_trans hBu hb.size) (by omega)).mono fun e w' ⟨A', c', he, h1, h2⟩ => by
          subst ho
          exact ⟨A', _, c', askTo_len rk us 8, he, h1, h2⟩
        have HO : Hid (∀ W A' k c', RdK .i64 W W.heap.size A' k (ints (askL rk us)) → k ≤ 8 → ∃ t, Calls Try.prog 50 #[.slice A' k c'] W fun e w' => e = .returned (.tuple #[.int .u32 (T : Int), .bool t]) ∧ Below W.heap.size W w') := fun W A' k c' h hk => ⟨_, by
          have := sBitsOf_any A' k c' W.heap.size (ints (askL rk us)) W h (Nat.le_refl _) (by omega)
          rw [ask_ofA, ← hT] at this
          exact this⟩
        have HK : Hid (subK true rk us = if T ≠ 0 then rk else 0) := by rw [hT]; simp [subK, Hid]
        clear c0 c1 c2
        clear hT
        have H8 := Lib.hid ho
        clear ho
        go_enter Try.func15, Try.ntmps15
        go_wp2_with fail
        refine (HW.out _ HB0.out).mono ?_
        rintro e w1 ⟨rfl, hb⟩
        obtain ⟨h2, h3, h4, hB1, z1⟩ := nw3 hb
        have B1 := Lib.hid hB1
        have L3 := Lib.hid h3
        have L4 := Lib.hid h4
        have a0 := blkc h2 0 rfl
        have q0 := blkc h3 0 rfl
        have q1 := blkc h3 1 rfl
        clear hb h2 h3 h4 hB1 HW HB0
        go_wp2_with fail
        clear a0 q0 q1
        refine (HQ.out _ B1.out).mono ?_
        rintro e w2 ⟨rfl, hb⟩
        have z2 := hb.size
        have L3b := Lib.hid ((hb.block _ (by omega)).trans L3.out)
        have L4b := Lib.hid ((hb.block _ (by omega)).trans L4.out)
        have B2 := Lib.hid (B1.out.trans (hb.mono B1.out.size))
        clear hb L3 L4 B1 HQ
        go_wp2_with fail
        refine (HN.out _).mono ?_
        rintro e w3 ⟨g, c', g2, d', rfl, hv, hg, hb⟩
        have z3 := hb.size
        have hv1 := (World.ownsRow.lt hv g rfl)
        have hg1 := (World.ownsRow.lt hg g2 rfl)
        have L3 := Lib.hid ((hb.block _ (by omega)).trans L3b.out)
        have L4 := Lib.hid ((hb.block _ (by omega)).trans L4b.out)
        have B3 := Lib.hid (B2.out.trans (hb.mono B2.out.size))
        have V3 := Lib.hid hv
        have G3 := Lib.hid hg
        clear hb L3b L4b B2 HN hv hg
        have n1 : ¬ w3.heap.size = g := by omega
        have n2 : ¬ w3.heap.size = g2 := by omega
        have n3 : w.heap.size + 1 < w3.heap.size := by omega
        have n4 : ¬ w.heap.size + 1 = w3.heap.size := by omega
        have q0 : w3.cell? ⟨w.heap.size + 1, 0, none⟩ = some (.int .i64 rk) := blkc L3.out 0 rfl
        have q1 : w3.cell? ⟨w.heap.size + 1, 1, none⟩ = some (.slice D o f) := blkc L3.out 1 rfl
        have q8 := H8.out
        subst q8
        have q3 : ((w3.alloc (.cells #[.int .i64 0, .slice (some ⟨g, 0, none⟩) 8 c', .slice (some ⟨g2, 0, none⟩) 8 d', .int .u32 0, .int .i64 0, .int .i64 0, .int .i64 0, .int .u32 0] 35)).alloc (.cells #[] 3)).cell? ⟨w.heap.size + 1, 1, none⟩ = some (.slice D 8 f) := blkc (((bel2 w3 (.cells #[.int .i64 0, .slice (some ⟨g, 0, none⟩) 8 c', .slice (some ⟨g2, 0, none⟩) 8 d', .int .u32 0, .int .i64 0, .int .i64 0, .int .i64 0, .int .u32 0] 35) (.cells #[] 3)).block _ (by omega)).trans L3.out) 1 rfl
        have HO0 : Hid (OwnK 3 .i64 ((w3.alloc (.cells #[.int .i64 0, .slice (some ⟨g, 0, none⟩) 8 c', .slice (some ⟨g2, 0, none⟩) 8 d', .int .u32 0, .int .i64 0, .int .i64 0, .int .i64 0, .int .u32 0] 35)).alloc (.cells #[] 3)) (w3.alloc (.cells #[.int .i64 0, .slice (some ⟨g, 0, none⟩) 8 c', .slice (some ⟨g2, 0, none⟩) 8 d', .int .u32 0, .int .i64 0, .int .i64 0, .int .i64 0, .int .u32 0] 35)).heap.size (some ⟨(w3.alloc (.cells #[.int .i64 0, .slice (some ⟨g, 0, none⟩) 8 c', .slice (some ⟨g2, 0, none⟩) 8 d', .int .u32 0, .int .i64 0, .int .i64 0, .int .i64 0, .int .u32 0] 35)).heap.size, 0, none⟩) 0 0 []) := World.ownsRow_made _ #[] 0 (Nat.le_refl _) (Nat.zero_le _) (by simp)
        rw [sz1] at HO0
        go_wp2_with (at_builtin; refine wpList_append_freshI rfl (.tmp 22) (.tmp 24) rfl (w3.heap.size + 1) Bu 8 f 0 (some ⟨w3.heap.size + 1, 0, none⟩) D us rfl rfl HO0.out (HU.out.below ((B3.out.trans ((bel2 w3 (.cells #[.int .i64 0, .slice (some ⟨g, 0, none⟩) 8 c', .slice (some ⟨g2, 0, none⟩) 8 d', .int .u32 0, .int .i64 0, .int .i64 0, .int .i64 0, .int .u32 0] 35) (.cells #[] 3)).mono B3.out.size)).mono hBu)) (by omega) (by rw [sz2]; omega) ?_)
        intro A2 c2 w4 V4 K4
        have hk := K4.out
        have z4 := hk.size
        rw [sz2] at z4
        have B4 : Hid (Below w.heap.size w w4) := (B3.out.trans ((bel2 w3 (.cells #[.int .i64 0, .slice (some ⟨g, 0, none⟩) 8 c', .slice (some ⟨g2, 0, none⟩) 8 d', .int .u32 0, .int .i64 0, .int .i64 0, .int .i64 0, .int .u32 0] 35) (.cells #[] 3)).mono B3.out.size)).trans (hk.mono (by omega))
        have L3b : Hid (w4.heap[w.heap.size + 1]? = _) := (hk.block _ (by omega)).trans (((bel2 w3 _ _).block _ (by omega)).trans L3.out)
        have L4b : Hid (w4.heap[w.heap.size + 2]? = _) := (hk.block _ (by omega)).trans (((bel2 w3 _ _).block _ (by omega)).trans L4.out)
        have N4 : Hid (w4.heap[w3.heap.size]? = some (.cells #[.int .i64 0, .slice (some ⟨g, 0, none⟩) 8 c', .slice (some ⟨g2, 0, none⟩) 8 d', .int .u32 0, .int .i64 0, .int .i64 0, .int .i64 0, .int .u32 0] 35 (0, 0))) := (hk.block _ (by omega)).trans (((bel1 _ _).block _ (by rw [sz1]; omega)).trans (heap_alloc_new _ _))
        have G4 : Hid (OwnK 3 .i64 w4 (g + 1) (some ⟨g2, 0, none⟩) 8 d' (List.replicate 8 (-1))) := ((G3.out.alloc _).alloc _).kp (r := fun k => w3.heap.size + 1 ≤ k) ⟨hk.os, hk.tape, hk.output, hk.size, fun k _ hn => hk.block k (by omega)⟩ (fun q hq h => by have := World.ownsRow.lt G3.out q hq; omega)
        have R4 := Lib.hid (World.ownsRow.lt V4.out)
        have m0 : w.heap.size ≤ w3.heap.size := by omega
        clear hk K4 L3 L4 V3 G3 B3 q0 q1 q3 HO0
        obtain ⟨W4, hW4⟩ : ∃ W4, W4 = w4.setCell ⟨w3.heap.size, 1, none⟩ (.slice A2 8 c2) := ⟨_, rfl⟩
        have s4 : W4.heap.size = w4.heap.size := by rw [hW4]; simp
        have B5 : Hid (Below w.heap.size w W4) := by rw [hW4]; exact B4.out.setCell (by simp; omega) _
        have L3c := Lib.hid (Eq.trans (show W4.heap[w.heap.size + 1]? = w4.heap[w.heap.size + 1]? from by rw [hW4]; exact Below.heap_setCell _ _ _ _ (by simp; omega)) L3b.out)
        have L4c := Lib.hid (Eq.trans (show W4.heap[w.heap.size + 2]? = w4.heap[w.heap.size + 2]? from by rw [hW4]; exact Below.heap_setCell _ _ _ _ (by simp; omega)) L4b.out)
        have N4c : Hid (W4.heap[w3.heap.size]? = some (.cells #[.int .i64 0, .slice A2 8 c2, .slice (some ⟨g2, 0, none⟩) 8 d', .int .u32 0, .int .i64 0, .int .i64 0, .int .i64 0, .int .u32 0] 35 (0, 0))) := by rw [hW4]; exact Joins.block_setCell N4.out _
        have G4c : Hid (OwnK 3 .i64 W4 (g + 1) (some ⟨g2, 0, none⟩) 8 d' (List.replicate 8 (-1))) := by
          rw [hW4]; exact G4.out.apart (fun q hq => by have := World.ownsRow.lt G4.out q hq; (have e : g2 = q := by simpa [Value.ownBlock] using hq); simp; omega) _
        have V4c : Hid (OwnK 3 .i64 W4 (w3.heap.size + 1) A2 8 c2 us) := by
          rw [hW4]; exact V4.out.apart (fun q hq => by have := World.ownsRow.lt V4.out q hq; simp; omega) _
        have fn4 := blkf N4.out
        have n_1 := blkc N4.out 1 rfl
        have q0 := blkc L3b.out 0 rfl
        have q1 := blkc L3b.out 1 rfl
        clear L3b L4b N4 G4 V4 B4 R4
        have m1 : ¬ w.heap.size + 1 = w3.heap.size := by omega
        have hW5 := Lib.hid hW4
        clear hW4
        go_wp2_with fail
        clear q0 q1 fn4 n_1
        rw [← hW5.out]
        clear hW5
        refine (HA.out _ B5.out).mono ?_
        rintro e w5 ⟨A3, k3, c3, hk3, rfl, ho3, hb⟩
        have z5 := hb.size
        have L3 := Lib.hid ((hb.block _ (by omega)).trans L3c.out)
        have L4 := Lib.hid ((hb.block _ (by omega)).trans L4c.out)
        have N5 := Lib.hid ((hb.block _ (by omega)).trans N4c.out)
        have V5 := Lib.hid (V4c.out.below hb)
        have G5 := Lib.hid (G4c.out.below hb)
        have B6 := Lib.hid (B5.out.trans (hb.mono B5.out.size))
        have O5 := Lib.hid ho3
        clear hb L3c L4c N4c V4c G4c B5 HA ho3
        go_wp2_with fail
        obtain ⟨tt, HO6⟩ := HO.out w5 A3 k3 c3 O5.out.rd hk3
        clear HO O5
        refine HO6.mono ?_
        clear HO6
        rintro e w6 ⟨rfl, hb⟩
        have z6 := hb.size
        have L3b := Lib.hid ((hb.block _ (by omega)).trans L3.out)
        have L4b := Lib.hid ((hb.block _ (by omega)).trans L4.out)
        have N6 := Lib.hid ((hb.block _ (by omega)).trans N5.out)
        have V6 := Lib.hid (V5.out.below hb)
        have G6 := Lib.hid (G5.out.below hb)
        have B7 := Lib.hid (B6.out.trans (hb.mono B6.out.size))
        clear hb L3 L4 N5 V5 G5 B6
        have N5 := N6
        have L3 := L3b
        have L4 := L4b
        have V5 := V6
        have G5 := G6
        have B5 := B7
        clear N6 L3b L4b V6 G6 B7 m1
        have q0 := blkc L3.out 0 rfl
        have n_0 := blkc N5.out 0 rfl
        have r_0 := blkc L4.out 0 rfl
        have n_1 := blkc N5.out 1 rfl
        have r_1 := blkc L4.out 1 rfl
        have n_2 := blkc N5.out 2 rfl
        have r_2 := blkc L4.out 2 rfl
        have n_3 := blkc N5.out 3 rfl
        have r_3 := blkc L4.out 3 rfl
        have n_4 := blkc N5.out 4 rfl
        have r_4 := blkc L4.out 4 rfl
        have n_5 := blkc N5.out 5 rfl
        have r_5 := blkc L4.out 5 rfl
        have n_6 := blkc N5.out 6 rfl
        have r_6 := blkc L4.out 6 rfl
        have n_7 := blkc N5.out 7 rfl
        have r_7 := blkc L4.out 7 rfl
        have fn := blkf N5.out
        have fr := blkf L4.out
        have m1 : ¬ w.heap.size + 2 = w3.heap.size := by omega
        have m2 : ¬ w3.heap.size = w.heap.size + 2 := by omega
        have m3 : ¬ w3.heap.size = w.heap.size + 1 := by omega
        have m4 : w3.heap.size < w6.heap.size := by omega
        have m5 : w.heap.size + 2 < w6.heap.size := by omega
        clear L3 L4 N5
        by_cases hT : T = 0
        · have t1 : ((T : Int) != 0) = false := by simp [hT]
          have HV : Hid (subK true rk us = 0) := by rw [HK.out]; simp [hT, Hid]
          go_wp2
          refine bodyPost_ret (v := .tuple #[.agg #[.int .i64 0, .slice A2 8 c2, .slice (some ⟨g2, 0, none⟩) 8 d', .int .u32 (T : Int), .int .i64 0, .int .i64 0, .int .i64 0, .int .u32 0], .bool true]) (by simp [results, Try.results15, go_sem, r_0, r_1, r_2, r_3, r_4, r_5, r_6, r_7, hT]) rfl ⟨A2, c2, some ⟨g2, 0, none⟩, d', by rw [HR.out, HV.out]; simp [subN, subT, HT.out], ?_, ?_, ?_, ?_⟩
          · rw [HR.out]; show OwnK 3 .i64 _ _ A2 8 c2 us; exact OwnK.from_ (b0 := w3.heap.size + 1) (by repeat' (first | (with_reducible exact V5.out) | (with_reducible refine OwnK.apart ?_ ?_ _) | (intro q hq; have hq1 := World.ownsRow.lt V5.out q hq; simp; omega))) (by omega)
          · rw [HR.out]; show OwnK 3 .i64 _ _ (some ⟨g2, 0, none⟩) 8 d' (List.replicate 8 (-1)); exact OwnK.from_ (b0 := g + 1) (by repeat' (first | (with_reducible exact G5.out) | (with_reducible refine OwnK.apart ?_ ?_ _) | (intro q hq; have hq1 := World.ownsRow.lt G5.out q hq; (try (have hq2 : g = q := by simpa [Value.ownBlock] using hq)); (try (have hq3 : g2 = q := by simpa [Value.ownBlock] using hq)); simp; omega))) (by omega)
          · intro q hq hq2
            rw [HR.out] at hq hq2
            have e1 := World.ownsRow.lt V5.out q hq
            have e3 : g2 = q := by simpa [Value.ownBlock, subN] using hq2
            omega
          · exact (by repeat' (first | (with_reducible exact B5.out) | (with_reducible refine Below.setCell ?_ ?_ _) | (with_reducible refine Below.alloc ?_ ?_ _) | omega | (simp; done) | (simp; omega)))
        · have t1 : ((T : Int) != 0) = true := by simp [hT]
          have HV : Hid (subK true rk us = rk) := by rw [HK.out]; simp [hT, Hid]
          go_wp2
          refine bodyPost_ret (v := .tuple #[.agg #[.int .i64 rk, .slice A2 8 c2, .slice (some ⟨g2, 0, none⟩) 8 d', .int .u32 (T : Int), .int .i64 0, .int .i64 0, .int .i64 0, .int .u32 0], .bool true]) (by simp [results, Try.results15, go_sem, r_0, r_1, r_2, r_3, r_4, r_5, r_6, r_7]) rfl ⟨A2, c2, some ⟨g2, 0, none⟩, d', by rw [HR.out, HV.out]; simp [subN, subT, HT.out], ?_, ?_, ?_, ?_⟩
          · rw [HR.out]; show OwnK 3 .i64 _ _ A2 8 c2 us; exact OwnK.from_ (b0 := w3.heap.size + 1) (by repeat' (first | (with_reducible exact V5.out) | (with_reducible refine OwnK.apart ?_ ?_ _) | (intro q hq; have hq1 := World.ownsRow.lt V5.out q hq; simp; omega))) (by omega)
          · rw [HR.out]; show OwnK 3 .i64 _ _ (some ⟨g2, 0, none⟩) 8 d' (List.replicate 8 (-1)); exact OwnK.from_ (b0 := g + 1) (by repeat' (first | (with_reducible exact G5.out) | (with_reducible refine OwnK.apart ?_ ?_ _) | (intro q hq; have hq1 := World.ownsRow.lt G5.out q hq; (try (have hq2 : g = q := by simpa [Value.ownBlock] using hq)); (try (have hq3 : g2 = q := by simpa [Value.ownBlock] using hq)); simp; omega))) (by omega)
          · intro q hq hq2
            rw [HR.out] at hq hq2
            have e1 := World.ownsRow.lt V5.out q hq
            have e3 : g2 = q := by simpa [Value.ownBlock, subN] using hq2
            omega
          · exact (by repeat' (first | (with_reducible exact B5.out) | (with_reducible refine Below.setCell ?_ ?_ _) | (with_reducible refine Below.alloc ?_ ?_ _) | omega | (simp; done) | (simp; omega)))
      · have k2 : decide (ReqGood rk us) = false := decide_eq_false c2
        have HR : Hid (decide (SubOk kd vs gs td ph pr hd sn rk us) = false) := decide_eq_false (fun h => c2 h.2)
        clear c0 c1 c2
        go_enter Try.func15, Try.ntmps15
        go_wp2_with fail
        refine (HW.out _ HB0.out).mono ?_
        rintro e w1 ⟨rfl, hb⟩
        obtain ⟨h2, h3, h4, hB1, z1⟩ := nw3 hb
        have B0 := Lib.hid hB1
        have L4b := Lib.hid h4
        have a0 := blkc h2 0 rfl
        have q0 := blkc h3 0 rfl
        have q1 := blkc h3 1 rfl
        clear hb h2 h3 h4 hB1 HW HB0
        go_wp2_with fail
        clear a0 q0 q1
        refine (HQ.out _ B0.out).mono ?_
        rintro e w2 ⟨rfl, hb⟩
        have z2 := hb.size
        have L4 := Lib.hid ((hb.block _ (by omega)).trans L4b.out)
        have B1 := Lib.hid (B0.out.trans (hb.mono B0.out.size))
        clear hb B0 L4b HQ
        have z0 := blkc L4.out 0 rfl
        have z1 := blkc L4.out 1 rfl
        have z2 := blkc L4.out 2 rfl
        have z3 := blkc L4.out 3 rfl
        have z4 := blkc L4.out 4 rfl
        have z5 := blkc L4.out 5 rfl
        have z6 := blkc L4.out 6 rfl
        have z7 := blkc L4.out 7 rfl
        have fz := blkf L4.out
        go_wp2
        refine bodyPost_ret (v := .tuple #[.agg #[.int .i64 0, .slice none 0 0, .slice none 0 0, .int .u32 0, .int .i64 0, .int .i64 0, .int .i64 0, .int .u32 0], .bool false]) (by simp [results, Try.results15, go_sem, z0, z1, z2, z3, z4, z5, z6, z7]) rfl ⟨none, 0, none, 0, by simp [HR.out, subK, subN, subT], ?_, ?_, ?_, ?_⟩
        · rw [HR.out]; exact World.ownsRow_nil _ _ _ _
        · rw [HR.out]; exact World.ownsRow_nil _ _ _ _
        · intro g hg; simp [HR.out, subN, Value.ownBlock] at hg
        · exact (by repeat' (first | (with_reducible exact B1.out) | (with_reducible refine Below.setCell ?_ ?_ _) | (with_reducible refine Below.alloc ?_ ?_ _) | omega | (simp; done) | (simp; omega)))
    · have k1 : (kd != 0) = true := by simpa using c1
      have HR : Hid (decide (SubOk kd vs gs td ph pr hd sn rk us) = false) := decide_eq_false (fun h => c1 h.1.2)
      clear c0 c1
      go_enter Try.func15, Try.ntmps15
      go_wp2_with fail
      refine (HW.out _ HB0.out).mono ?_
      rintro e w1 ⟨rfl, hb⟩
      obtain ⟨h2, h3, h4, hB1, z1⟩ := nw3 hb
      have B1 := Lib.hid hB1
      have L4 := Lib.hid h4
      have a0 := blkc h2 0 rfl
      clear hb h2 h3 h4 hB1 HW HB0
      have z0 := blkc L4.out 0 rfl
      have z1 := blkc L4.out 1 rfl
      have z2 := blkc L4.out 2 rfl
      have z3 := blkc L4.out 3 rfl
      have z4 := blkc L4.out 4 rfl
      have z5 := blkc L4.out 5 rfl
      have z6 := blkc L4.out 6 rfl
      have z7 := blkc L4.out 7 rfl
      have fz := blkf L4.out
      go_wp2
      refine bodyPost_ret (v := .tuple #[.agg #[.int .i64 0, .slice none 0 0, .slice none 0 0, .int .u32 0, .int .i64 0, .int .i64 0, .int .i64 0, .int .u32 0], .bool false]) (by simp [results, Try.results15, go_sem, z0, z1, z2, z3, z4, z5, z6, z7]) rfl ⟨none, 0, none, 0, by simp [HR.out, subK, subN, subT], ?_, ?_, ?_, ?_⟩
      · rw [HR.out]; exact World.ownsRow_nil _ _ _ _
      · rw [HR.out]; exact World.ownsRow_nil _ _ _ _
      · intro g hg; simp [HR.out, subN, Value.ownBlock] at hg
      · exact (by repeat' (first | (with_reducible exact B1.out) | (with_reducible refine Below.setCell ?_ ?_ _) | (with_reducible refine Below.alloc ?_ ?_ _) | omega | (simp; done) | (simp; omega)))
  · have k0 : decide (WarpGood kd vs gs td ph pr hd sn 16) = false := decide_eq_false c0
    have HR : Hid (decide (SubOk kd vs gs td ph pr hd sn rk us) = false) := decide_eq_false (fun h => c0 h.1.1)
    clear c0
    go_enter Try.func15, Try.ntmps15
    go_wp2_with fail
    refine (HW.out _ HB0.out).mono ?_
    rintro e w1 ⟨rfl, hb⟩
    obtain ⟨h2, h3, h4, hB1, z1⟩ := nw3 hb
    have B1 := Lib.hid hB1
    have L4 := Lib.hid h4
    clear hb h2 h3 h4 hB1 HW HB0
    have z0 := blkc L4.out 0 rfl
    have z1 := blkc L4.out 1 rfl
    have z2 := blkc L4.out 2 rfl
    have z3 := blkc L4.out 3 rfl
    have z4 := blkc L4.out 4 rfl
    have z5 := blkc L4.out 5 rfl
    have z6 := blkc L4.out 6 rfl
    have z7 := blkc L4.out 7 rfl
    have fz := blkf L4.out
    go_wp2
    refine bodyPost_ret (v := .tuple #[.agg #[.int .i64 0, .slice none 0 0, .slice none 0 0, .int .u32 0, .int .i64 0, .int .i64 0, .int .i64 0, .int .u32 0], .bool false]) (by simp [results, Try.results15, go_sem, z0, z1, z2, z3, z4, z5, z6, z7]) rfl ⟨none, 0, none, 0, by simp [HR.out, subK, subN, subT], ?_, ?_, ?_, ?_⟩
    · rw [HR.out]; exact World.ownsRow_nil _ _ _ _
    · rw [HR.out]; exact World.ownsRow_nil _ _ _ _
    · intro g hg; simp [HR.out, subN, Value.ownBlock] at hg
    · exact (by repeat' (first | (with_reducible exact B1.out) | (with_reducible refine Below.setCell ?_ ?_ _) | (with_reducible refine Below.alloc ?_ ?_ _) | omega | (simp; done) | (simp; omega)))

end Go.Proofs.Ytooegpebimpjcaa
