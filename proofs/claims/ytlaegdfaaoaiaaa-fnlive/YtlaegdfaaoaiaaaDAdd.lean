/- What the model's draw of a list of blocks and a block leaves. -/
import Derived.Test.YtlaegdfaaoaiaaaDLive
import Derived.Test.YtlaegdfaaoaiaaaSLiveFree
import Derived.Test.YtlaegdfaaoaiaaaSetP
import Derived.Deep.RegionLaw
namespace Go.Proofs.Ytlaegdfaaoaiaaa
open Go.RowKit

set_option maxRecDepth 100000 in
set_option maxHeartbeats 4000000 in
theorem drawLiveAdd (A : Option Addr) (n c : Nat) (bs : List Int) (w : World) (h : RdK .u8 w w.heap.size A n bs) (hf : ∀ z ∈ bs, 0 ≤ z ∧ z < 256) (hn : n ≤ 1048576) :
    Calls Try.prog 11 #[.slice A n c] w fun e w' => ∃ (g m cm : Nat) (ps : List (Int × Int)) (z x y : Int), e = .returned (.tuple #[.slice (some ⟨g, 0, none⟩) m cm, .int .i64 z, .agg #[.int .i64 x, .int .i64 y]]) ∧ m ≤ 20 ∧ OwnP w' w.heap.size (some ⟨g, 0, none⟩) m cm ps ∧ Hid (WfP ps) ∧ Hid ((Lit.int .i64 z).wf = true) ∧ Hid (Wf2 (x, y)) ∧ Below w.heap.size w w' := by
  have Bv0 := Lib.hid ((Below.refl _ w).alloc (Nat.le_refl _) (.cells #[.int .i64 0, .int .i64 0] 26))
  have hv0 : w.heap.size < (w.alloc (.cells #[.int .i64 0, .int .i64 0] 26)).heap.size := by simp
  have hres := Lib.hid (BlkAt.new w 0 0)
  have HO := Lib.hid (open_cur A n c bs (w.alloc (.cells #[.int .i64 0, .int .i64 0] 26)) (rdk_more (h.alloc (Nat.le_refl _) _) (by omega)) hf hn)
  clear h hf
  go_enter Try.func11, Try.ntmps11
  go_wp2_with fail
  generalize w.alloc (.cells #[.int .i64 0, .int .i64 0] 26) = v0 at *
  refine HO.out.mono ?_
  rintro e v1 ⟨rfl, C0, B0⟩
  have CI1 : Hid (CI v0 A n c bs 0 v1) := ⟨C0.out, B0.out⟩
  have hv01 := CI1.out.lt
  clear HO C0 B0
  go_wp2_with fail
  refine (live_any v0 v1 A n c bs CI1.out).mono ?_
  rintro e w2 ⟨g, m, cm, ps, z, rfl, hm, O2, HF, WZ, C2⟩
  clear CI1
  have hz2 : v1.heap.size ≤ w2.heap.size := by have := O2.out.range g rfl; omega
  go_wp2_with fail
  refine (ci_pick C2.out 70 (by omega) (by omega)).mono ?_
  rintro e w3 ⟨r3, rfl, p3, q3, C3, G3⟩
  have O3 := Lib.hid (own_cur O2.out hv01 G3.out)
  have hz3 : v1.heap.size ≤ w3.heap.size := Nat.le_trans hz2 G3.out.size
  have hq3 : r3 < 70 := by omega
  clear C2 O2 G3 q3
  go_wp2_with fail
  refine (ci_pick C3.out 4 (by omega) (by omega)).mono ?_
  rintro e w4 ⟨r4, rfl, p4, q4, C4, G4⟩
  have O4 := Lib.hid (own_cur O3.out hv01 G4.out)
  have hz4 : v1.heap.size ≤ w4.heap.size := Nat.le_trans hz3 G4.out.size
  have hq4 : r4 < 4 := by omega
  clear C3 O3 G4 q4
  have V5 : Hid (BlkAt (w4.alloc (.cells #[.int .i64 r3, .int .i64 (1 + r4)] 26)) w4.heap.size r3 (1 + r4)) := BlkAt.new w4 r3 (1 + r4)
  have O5 := Lib.hid (O4.out.alloc (.cells #[.int .i64 r3, .int .i64 (1 + r4)] 26))
  have C5 := Lib.hid (C4.out.alloc (.cells #[.int .i64 r3, .int .i64 (1 + r4)] 26))
  have hgb : ∀ g', (Value.slice (some ⟨g, 0, none⟩) m cm).ownBlock = some g' → g' < w4.heap.size := fun g' hg' => (O4.out.range g' hg').2
  have W0 : Hid (Wf2 (r3, 1 + r4)) := ⟨wf_in (by omega), wf_in (by omega)⟩
  have HFr := Lib.hid (sLiveFree_any (some ⟨g, 0, none⟩) m cm _ ps z _ O5.out.rd (Nat.le_refl _) (by unfold maxLen; omega) HF.out)
  clear O4 C4
  go_wp2_with fail
  generalize w4.alloc (.cells #[.int .i64 r3, .int .i64 (1 + r4)] 26) = w5 at *
  have hv1b := hz4
  clear hz4
  generalize w4.heap.size = bb at *
  refine HFr.out.mono ?_
  rintro e w6 ⟨A6, c6, rfl, hof, hb6⟩
  have OF := Lib.hid hof
  have V6 := Lib.hid (V5.out.below hb6)
  have O6 := Lib.hid (O5.out.below hb6)
  have C6 := Lib.hid (C5.out.below hb6)
  have hfl := freeV_len (ps := ps) (z := z)
  have hbb5 := V5.out.lt
  have HWF : Hid (∀ i, i < (freeV ps z).length → 0 ≤ pa (freeV ps z) i ∧ 1 ≤ pb (freeV ps z) i ∧ pa (freeV ps z) i + pb (freeV ps z) i ≤ 256) := fun i hi => freeV_at hi
  clear hof hb6 HFr V5 O5 C5
  generalize freeV ps z = fr at *
  generalize hfn : fr.length = fl at *
  by_cases hpos : 0 < fl
  · have hposI : (0 : Int) < (fl : Int) := by omega
    have hposd : decide ((0 : Int) < (fl : Int)) = true := decide_eq_true hposI
    go_wp2_with fail
    refine (ci_once C6.out 3 (by omega) (by omega) (by omega)).mono ?_
    rintro e w7 ⟨r7, rfl, C7, G7⟩
    have V7 := Lib.hid (blk_cur V6.out (by omega) G7.out)
    have O7 := Lib.hid (own_cur O6.out hv01 G7.out)
    have OF7 := Lib.hid (own_cur OF.out (by omega) G7.out)
    clear C6 V6 O6 OF G7
    cases r7 with
    | true =>
      go_wp2_with fail
      refine (ci_once C7.out 14 (by omega) (by omega) (by omega)).mono ?_
      rintro e wo1 ⟨ro, rfl, CO, GO⟩
      have VO := Lib.hid (blk_cur V7.out (by omega) GO.out)
      have OO := Lib.hid (own_cur O7.out hv01 GO.out)
      clear C7 V7 O7 GO
      cases ro with
      | false =>
        have x0 : wo1.cell? ⟨bb, 0, none⟩ = some (.int .i64 (r3)) ∧ wo1.cell? ⟨bb, 1, none⟩ = some (.int .i64 (1 + r4)) := ⟨VO.out.cell0, VO.out.cell1⟩
        have x0' : wo1.drew.cell? ⟨bb, 0, none⟩ = some (.int .i64 (r3)) ∧ wo1.drew.cell? ⟨bb, 1, none⟩ = some (.int .i64 (1 + r4)) := x0
        have hrs : wo1.heap[w.heap.size]? = some (.cells #[.int .i64 0, .int .i64 0] 26 (0, 0)) := (CO.out.2.block w.heap.size (by omega)).trans hres.out
        have HRs : Hid (BlkAt wo1 w.heap.size 0 0) := hrs
        have r0 := HRs.out.cell0
        have r1 := HRs.out.cell1
        have g0 := HRs.out.free 0
        have g1 := HRs.out.free 1
        have hlt := HRs.out.lt
        have ne1 : ¬ bb = w.heap.size := by omega
        have ne2 : ¬ w.heap.size = bb := by omega
        have VE := Lib.hid (((show BlkAt wo1.drew bb (r3) (1 + r4) from VO.out).other (p := ⟨w.heap.size, 0, none⟩) ne1 (.int .i64 (r3))).other (p := ⟨w.heap.size, 1, none⟩) ne1 (.int .i64 (1 + r4)))
        have xe : _ ∧ _ := ⟨VE.out.cell0, VE.out.cell1⟩
        clear hrs
        go_wp2_with fail
        go_region_held3 (fun w' => w'.cell? ⟨bb, 0, none⟩ = some (.int .i64 (r3)) ∧ w'.cell? ⟨bb, 1, none⟩ = some (.int .i64 (1 + r4))) (first | exact x0 | exact x0' | exact xe) (first | fail)
        all_goals
          go_wp2
          have RS := ((show BlkAt wo1.drew w.heap.size 0 0 from HRs.out).set (r3) (1 + r4))
          have s0 := RS.cell0
          have s1 := RS.cell1
          refine bodyPost_ret (v := .tuple #[.slice (some ⟨g, 0, none⟩) m cm, .int .i64 z, .agg #[.int .i64 (r3), .int .i64 (1 + r4)]]) (by first | (simp [results, Try.results11, go_sem, s0, s1]; done) | (simp [results, Try.results11, go_sem, *]; done)) rfl ?_
          have OR : Hid (OwnP ((wo1.drew.setCell ⟨w.heap.size, 0, none⟩ (.int .i64 (r3))).setCell ⟨w.heap.size, 1, none⟩ (.int .i64 (1 + r4))) v1.heap.size (some ⟨g, 0, none⟩) m cm ps) := ((show OwnP wo1.drew _ _ _ _ _ from OO.out).low (p := ⟨w.heap.size, 0, none⟩) (by show w.heap.size < _; omega) _).low (p := ⟨w.heap.size, 1, none⟩) (by show w.heap.size < _; omega) _
          have BR : Hid (Below w.heap.size w wo1.drew) := (Bv0.out.trans (CO.out.2.mono (by omega))).drew
          exact ⟨g, m, cm, ps, z, r3, 1 + r4, rfl, hm, OR.out.from_ (by omega), HF, WZ, W0, (BR.out.setCell (Nat.le_refl _) _).setCell (Nat.le_refl _) _⟩
      | true =>
        go_wp2_with fail
        refine (ci_raw CO.out (by omega)).mono ?_
        rintro e wq1 ⟨rq, rfl, WQ, CQ, GQ⟩
        have VQ := Lib.hid (blk_cur VO.out (by omega) GQ.out)
        have OQ := Lib.hid (own_cur OO.out hv01 GQ.out)
        have q0 := VQ.out.cell0
        have q1 := VQ.out.cell1
        have qf := VQ.out.free 0
        have VS := Lib.hid (VQ.out.set0 rq)
        have OS : Hid (OwnP (wq1.setCell ⟨bb, 0, none⟩ (.int .i64 rq)) v1.heap.size (some ⟨g, 0, none⟩) m cm ps) := OQ.out.far (gset bb 0 _ wq1) (fun g' h1 h2 => by have := hgb g' h1; injection h2 with h2; omega)
        have CS : Hid (CI v0 A n c bs ((200 + 1 + 1 + 1) + 1 + 2) (wq1.setCell ⟨bb, 0, none⟩ (.int .i64 rq))) := CQ.out.far (gset bb 0 _ wq1) (fun g' h2 => by injection h2 with h2; omega)
        have WS : Hid (Wf2 (rq, 1 + r4)) := ⟨WQ.out, W0.out.2⟩
        clear CO VO OO GQ VQ OQ CQ
        go_wp2_with fail
        obtain ⟨ws1, hws⟩ : ∃ u, u = wq1.setCell ⟨bb, 0, none⟩ (.int .i64 rq) := ⟨_, rfl⟩
        rw [← hws] at VS OS CS ⊢
        clear hws q0 q1 qf
        have x0 : ws1.cell? ⟨bb, 0, none⟩ = some (.int .i64 (rq)) ∧ ws1.cell? ⟨bb, 1, none⟩ = some (.int .i64 (1 + r4)) := ⟨VS.out.cell0, VS.out.cell1⟩
        have x0' : ws1.drew.cell? ⟨bb, 0, none⟩ = some (.int .i64 (rq)) ∧ ws1.drew.cell? ⟨bb, 1, none⟩ = some (.int .i64 (1 + r4)) := x0
        have hrs : ws1.heap[w.heap.size]? = some (.cells #[.int .i64 0, .int .i64 0] 26 (0, 0)) := (CS.out.2.block w.heap.size (by omega)).trans hres.out
        have HRs : Hid (BlkAt ws1 w.heap.size 0 0) := hrs
        have r0 := HRs.out.cell0
        have r1 := HRs.out.cell1
        have g0 := HRs.out.free 0
        have g1 := HRs.out.free 1
        have hlt := HRs.out.lt
        have ne1 : ¬ bb = w.heap.size := by omega
        have ne2 : ¬ w.heap.size = bb := by omega
        have VE := Lib.hid (((show BlkAt ws1.drew bb (rq) (1 + r4) from VS.out).other (p := ⟨w.heap.size, 0, none⟩) ne1 (.int .i64 (rq))).other (p := ⟨w.heap.size, 1, none⟩) ne1 (.int .i64 (1 + r4)))
        have xe : _ ∧ _ := ⟨VE.out.cell0, VE.out.cell1⟩
        clear hrs
        go_wp2_with fail
        go_region_held3 (fun w' => w'.cell? ⟨bb, 0, none⟩ = some (.int .i64 (rq)) ∧ w'.cell? ⟨bb, 1, none⟩ = some (.int .i64 (1 + r4))) (first | exact x0 | exact x0' | exact xe) (first | fail)
        all_goals
          go_wp2
          have RS := ((show BlkAt ws1.drew w.heap.size 0 0 from HRs.out).set (rq) (1 + r4))
          have s0 := RS.cell0
          have s1 := RS.cell1
          refine bodyPost_ret (v := .tuple #[.slice (some ⟨g, 0, none⟩) m cm, .int .i64 z, .agg #[.int .i64 (rq), .int .i64 (1 + r4)]]) (by first | (simp [results, Try.results11, go_sem, s0, s1]; done) | (simp [results, Try.results11, go_sem, *]; done)) rfl ?_
          have OR : Hid (OwnP ((ws1.drew.setCell ⟨w.heap.size, 0, none⟩ (.int .i64 (rq))).setCell ⟨w.heap.size, 1, none⟩ (.int .i64 (1 + r4))) v1.heap.size (some ⟨g, 0, none⟩) m cm ps) := ((show OwnP ws1.drew _ _ _ _ _ from OS.out).low (p := ⟨w.heap.size, 0, none⟩) (by show w.heap.size < _; omega) _).low (p := ⟨w.heap.size, 1, none⟩) (by show w.heap.size < _; omega) _
          have BR : Hid (Below w.heap.size w ws1.drew) := (Bv0.out.trans (CS.out.2.mono (by omega))).drew
          exact ⟨g, m, cm, ps, z, rq, 1 + r4, rfl, hm, OR.out.from_ (by omega), HF, WZ, WS, (BR.out.setCell (Nat.le_refl _) _).setCell (Nat.le_refl _) _⟩
    | false =>
      go_wp2_with fail
      refine (ci_pick C7.out fl (by omega) (by omega)).mono ?_
      rintro e w8 ⟨r8, rfl, p8, q8, C8, G8⟩
      have V8 := Lib.hid (blk_cur V7.out (by omega) G8.out)
      have O8 := Lib.hid (own_cur O7.out hv01 G8.out)
      have OF8 := Lib.hid (own_cur OF7.out (by omega) G8.out)
      obtain ⟨i, rfl⟩ := Int.eq_ofNat_of_zero_le p8
      have hi : i < fl := by omega
      have hiI : (i : Int) < (fl : Int) := by omega
      clear C7 V7 O7 OF7 G8 q8
      obtain ⟨ge, rfl, hge, hge2⟩ := OF8.out.form hpos
      have f0 := OF8.out.cell1 rfl hi
      have f1 := OF8.out.cell2 rfl hi
      have b0 := V8.out.cell0
      have b1 := V8.out.cell1
      have bf0 := V8.out.free 0
      have bf1 := V8.out.free 1
      have hwf := HWF.out i hi
      generalize pa fr i = fx at *
      generalize pb fr i = fy at *
      have WFx : Hid (Wf2 (fx, fy)) := ⟨wf_in (by omega), wf_in (by omega)⟩
      have VS := Lib.hid (V8.out.set fx fy)
      have OS : Hid (OwnP ((w8.setCell ⟨bb, 0, none⟩ (.int .i64 fx)).setCell ⟨bb, 1, none⟩ (.int .i64 fy)) v1.heap.size (some ⟨g, 0, none⟩) m cm ps) := (O8.out.far (gset bb 0 _ w8) (fun g' h1 h2 => by have := hgb g' h1; injection h2 with h2; omega)).far (gset bb 1 _ _) (fun g' h1 h2 => by have := hgb g' h1; injection h2 with h2; omega)
      have CS : Hid (CI v0 A n c bs (200 + 1 + 1 + 1 + 1) ((w8.setCell ⟨bb, 0, none⟩ (.int .i64 fx)).setCell ⟨bb, 1, none⟩ (.int .i64 fy))) := (C8.out.far (gset bb 0 _ w8) (fun g' h2 => by injection h2 with h2; omega)).far (gset bb 1 _ _) (fun g' h2 => by injection h2 with h2; omega)
      have neg : ¬ ge = bb := by omega
      have neg2 : ¬ bb = ge := by omega
      clear C8 V8 O8 OF8
      go_wp2_with fail
      obtain ⟨w9, hw9⟩ : ∃ u, u = (w8.setCell ⟨bb, 0, none⟩ (.int .i64 fx)).setCell ⟨bb, 1, none⟩ (.int .i64 fy) := ⟨_, rfl⟩
      rw [← hw9] at VS OS CS ⊢
      clear hw9 b0 b1 bf0 bf1 f0 f1
      go_wp2_with fail
      refine wp_region_noPanic ?_
      refine wp_region_held_drew (S := fun _ => True) (by kernel_rfl) trivial (fun hHeld => ?_)
      change wpAnyH _ _ _ _ _ _ _ _ (World.drew _)
      have VD : Hid (BlkAt w9.drew bb (fx) (fy)) := VS.out
      have OD : Hid (OwnP w9.drew v1.heap.size (some ⟨g, 0, none⟩) m cm ps) := OS.out
      have CD : Hid (CI v0 A n c bs (200 + 1 + 1 + 1 + 1) w9.drew) := CS.out.drew
      clear VS OS CS
      generalize w9.drew = wd2 at *
      refine wpAnyH_take (i := 0) (v := ?v1) rfl (by kernel_rfl) (by kernel_rfl) (by kernel_rfl) (fun _ _ _ h => h) (Or.inl ⟨by rfl, ?hy1⟩) (by assumption) ?rest1
      case hy1 =>
        intro wz hSw
        clear hSw
        go_simp <;> with_reducible rfl
      try simp only [List.getElem_toArray, List.getElem_cons_zero, List.getElem_cons_succ, Act.put, List.setIfInBounds_toArray, List.set_cons_zero, List.set_cons_succ]
      refine wpAnyH_take (i := 2) (v := ?v2) rfl (by kernel_rfl) (by kernel_rfl) (by kernel_rfl) (fun _ _ _ h => h) (Or.inl ⟨by rfl, ?hy2⟩) (by assumption) ?rest2
      case hy2 =>
        intro wz hSw
        clear hSw
        go_simp <;> with_reducible rfl
      try simp only [List.getElem_toArray, List.getElem_cons_zero, List.getElem_cons_succ, Act.put, List.setIfInBounds_toArray, List.set_cons_zero, List.set_cons_succ]
      refine wpAnyH_ready (rs := [1, 3]) (by kernel_rfl) (by simp) (AllReadyH.cons rfl (fun K hK => ?_) (AllReadyH.cons rfl (fun K hK => ?_) AllReadyH.nil))
      · have ld := VD.out.cell1
        go_simp
        clear hHeld
        refine hK.out _ _ (trivial) (fun hHeld => ?_)
        clear hK K
        try simp only [List.getElem_toArray, List.getElem_cons_zero, List.getElem_cons_succ, Act.put, List.setIfInBounds_toArray, List.set_cons_zero, List.set_cons_succ]
        refine wpAnyH_ready (rs := [3]) (by kernel_rfl) (by simp) (AllReadyH.cons rfl (fun K hK => ?_) AllReadyH.nil)
        go_simp
        refine (ci_pick CD.out 3 (by omega) (by omega)).mono ?_
        rintro e wp2 ⟨rp, rfl, pp, qp, CP, GP⟩
        have VP := Lib.hid (blk_cur VD.out (by omega) GP.out)
        have OP := Lib.hid (own_cur OD.out hv01 GP.out)
        have hrp : rp < 3 := by omega
        clear VD OD CD GP qp
        go_wp2_with fail
        clear hHeld
        refine hK.out _ _ (trivial) (fun hHeld => ?_)
        clear hK K
        try simp only [List.getElem_toArray, List.getElem_cons_zero, List.getElem_cons_succ, Act.put, List.setIfInBounds_toArray, List.set_cons_zero, List.set_cons_succ]
        have hw1 : IntKind.i64.wrap (fy - rp) = fy - rp := IntWalk.i64_in _ (by omega)
        by_cases dm : 1 < fy - rp
        · refine wpAnyH_take (i := 4) (v := ?v3) rfl (by kernel_rfl) (by kernel_rfl) (by kernel_rfl) (fun _ _ _ h => h) (Or.inl ⟨by rfl, ?hy3⟩) (by assumption) ?rest3
          case hy3 =>
            intro wz hSw
            clear hSw
            go_simp <;> with_reducible rfl
          try simp only [List.getElem_toArray, List.getElem_cons_zero, List.getElem_cons_succ, Act.put, List.setIfInBounds_toArray, List.set_cons_zero, List.set_cons_succ]
          refine wpAnyH_take (i := 5) (v := ?v4) rfl (by kernel_rfl) (by kernel_rfl) (by kernel_rfl) (fun _ _ _ h => h) (Or.inl ⟨by rfl, ?hy4⟩) (by assumption) ?rest4
          case hy4 =>
            intro wz hSw
            clear hSw
            go_simp <;> with_reducible rfl
          try simp only [List.getElem_toArray, List.getElem_cons_zero, List.getElem_cons_succ, Act.put, List.setIfInBounds_toArray, List.set_cons_zero, List.set_cons_succ]
          refine wpAnyH_take (i := 6) (v := ?v5) rfl (by kernel_rfl) (by kernel_rfl) (by kernel_rfl) (fun _ _ _ h => h) (Or.inl ⟨by rfl, ?hy5⟩) (by assumption) ?rest5
          case hy5 =>
            intro wz hSw
            clear hSw
            go_simp <;> with_reducible rfl
          try simp only [List.getElem_toArray, List.getElem_cons_zero, List.getElem_cons_succ, Act.put, List.setIfInBounds_toArray, List.set_cons_zero, List.set_cons_succ]
          have sc := VP.out.cell1
          have sf := VP.out.free 1
          have VZ := Lib.hid (VP.out.set1 (fy - rp))
          have OZ : Hid (OwnP (wp2.setCell ⟨bb, 1, none⟩ (.int .i64 (fy - rp))) v1.heap.size (some ⟨g, 0, none⟩) m cm ps) := OP.out.far (gset bb 1 _ wp2) (fun g' h1 h2 => by have := hgb g' h1; injection h2 with h2; omega)
          have CZ : Hid (CI v0 A n c bs (200 + 1 + 1 + 1 + 1 + 1) (wp2.setCell ⟨bb, 1, none⟩ (.int .i64 (fy - rp)))) := CP.out.far (gset bb 1 _ wp2) (fun g' h2 => by injection h2 with h2; omega)
          have WZ2 : Hid (Wf2 (fx, fy - rp)) := ⟨WFx.out.1, wf_in (by omega)⟩
          clear VP OP CP
          refine wpAnyH_ready (rs := [7]) (by kernel_rfl) (by simp) (AllReadyH.cons rfl (fun K hK => ?_) AllReadyH.nil)
          go_simp
          clear hHeld
          refine hK.out _ _ (trivial) (fun hHeld => ?_)
          clear hK K
          try simp only [List.getElem_toArray, List.getElem_cons_zero, List.getElem_cons_succ, Act.put, List.setIfInBounds_toArray, List.set_cons_zero, List.set_cons_succ]
          obtain ⟨wz3, hwz⟩ : ∃ u, u = wp2.setCell ⟨bb, 1, none⟩ (.int .i64 (fy - rp)) := ⟨_, rfl⟩
          rw [← hwz] at VZ OZ CZ ⊢
          clear hwz sc sf
          refine wpAnyH_done (by kernel_rfl) ?_ _
          refine NoPanic.normal ?_
          go_wp2_with fail
          refine (ci_once CZ.out 14 (by omega) (by omega) (by omega)).mono ?_
          rintro e wo4 ⟨ro, rfl, CO, GO⟩
          have VO := Lib.hid (blk_cur VZ.out (by omega) GO.out)
          have OO := Lib.hid (own_cur OZ.out hv01 GO.out)
          clear CZ VZ OZ GO
          cases ro with
          | false =>
            have x0 : wo4.cell? ⟨bb, 0, none⟩ = some (.int .i64 (fx)) ∧ wo4.cell? ⟨bb, 1, none⟩ = some (.int .i64 (fy - rp)) := ⟨VO.out.cell0, VO.out.cell1⟩
            have x0' : wo4.drew.cell? ⟨bb, 0, none⟩ = some (.int .i64 (fx)) ∧ wo4.drew.cell? ⟨bb, 1, none⟩ = some (.int .i64 (fy - rp)) := x0
            have hrs : wo4.heap[w.heap.size]? = some (.cells #[.int .i64 0, .int .i64 0] 26 (0, 0)) := (CO.out.2.block w.heap.size (by omega)).trans hres.out
            have HRs : Hid (BlkAt wo4 w.heap.size 0 0) := hrs
            have r0 := HRs.out.cell0
            have r1 := HRs.out.cell1
            have g0 := HRs.out.free 0
            have g1 := HRs.out.free 1
            have hlt := HRs.out.lt
            have ne1 : ¬ bb = w.heap.size := by omega
            have ne2 : ¬ w.heap.size = bb := by omega
            have VE := Lib.hid (((show BlkAt wo4.drew bb (fx) (fy - rp) from VO.out).other (p := ⟨w.heap.size, 0, none⟩) ne1 (.int .i64 (fx))).other (p := ⟨w.heap.size, 1, none⟩) ne1 (.int .i64 (fy - rp)))
            have xe : _ ∧ _ := ⟨VE.out.cell0, VE.out.cell1⟩
            clear hrs
            go_wp2_with fail
            go_region_held3 (fun w' => w'.cell? ⟨bb, 0, none⟩ = some (.int .i64 (fx)) ∧ w'.cell? ⟨bb, 1, none⟩ = some (.int .i64 (fy - rp))) (first | exact x0 | exact x0' | exact xe) (first | fail)
            all_goals
              go_wp2
              have RS := ((show BlkAt wo4.drew w.heap.size 0 0 from HRs.out).set (fx) (fy - rp))
              have s0 := RS.cell0
              have s1 := RS.cell1
              refine bodyPost_ret (v := .tuple #[.slice (some ⟨g, 0, none⟩) m cm, .int .i64 z, .agg #[.int .i64 (fx), .int .i64 (fy - rp)]]) (by first | (simp [results, Try.results11, go_sem, s0, s1]; done) | (simp [results, Try.results11, go_sem, *]; done)) rfl ?_
              have OR : Hid (OwnP ((wo4.drew.setCell ⟨w.heap.size, 0, none⟩ (.int .i64 (fx))).setCell ⟨w.heap.size, 1, none⟩ (.int .i64 (fy - rp))) v1.heap.size (some ⟨g, 0, none⟩) m cm ps) := ((show OwnP wo4.drew _ _ _ _ _ from OO.out).low (p := ⟨w.heap.size, 0, none⟩) (by show w.heap.size < _; omega) _).low (p := ⟨w.heap.size, 1, none⟩) (by show w.heap.size < _; omega) _
              have BR : Hid (Below w.heap.size w wo4.drew) := (Bv0.out.trans (CO.out.2.mono (by omega))).drew
              exact ⟨g, m, cm, ps, z, fx, fy - rp, rfl, hm, OR.out.from_ (by omega), HF, WZ, WZ2, (BR.out.setCell (Nat.le_refl _) _).setCell (Nat.le_refl _) _⟩
          | true =>
            go_wp2_with fail
            refine (ci_raw CO.out (by omega)).mono ?_
            rintro e wq4 ⟨rq, rfl, WQ, CQ, GQ⟩
            have VQ := Lib.hid (blk_cur VO.out (by omega) GQ.out)
            have OQ := Lib.hid (own_cur OO.out hv01 GQ.out)
            have q0 := VQ.out.cell0
            have q1 := VQ.out.cell1
            have qf := VQ.out.free 0
            have VS := Lib.hid (VQ.out.set0 rq)
            have OS : Hid (OwnP (wq4.setCell ⟨bb, 0, none⟩ (.int .i64 rq)) v1.heap.size (some ⟨g, 0, none⟩) m cm ps) := OQ.out.far (gset bb 0 _ wq4) (fun g' h1 h2 => by have := hgb g' h1; injection h2 with h2; omega)
            have CS : Hid (CI v0 A n c bs ((200 + 1 + 1 + 1 + 1 + 1) + 1 + 2) (wq4.setCell ⟨bb, 0, none⟩ (.int .i64 rq))) := CQ.out.far (gset bb 0 _ wq4) (fun g' h2 => by injection h2 with h2; omega)
            have WS : Hid (Wf2 (rq, fy - rp)) := ⟨WQ.out, WZ2.out.2⟩
            clear CO VO OO GQ VQ OQ CQ
            go_wp2_with fail
            obtain ⟨ws4, hws⟩ : ∃ u, u = wq4.setCell ⟨bb, 0, none⟩ (.int .i64 rq) := ⟨_, rfl⟩
            rw [← hws] at VS OS CS ⊢
            clear hws q0 q1 qf
            have x0 : ws4.cell? ⟨bb, 0, none⟩ = some (.int .i64 (rq)) ∧ ws4.cell? ⟨bb, 1, none⟩ = some (.int .i64 (fy - rp)) := ⟨VS.out.cell0, VS.out.cell1⟩
            have x0' : ws4.drew.cell? ⟨bb, 0, none⟩ = some (.int .i64 (rq)) ∧ ws4.drew.cell? ⟨bb, 1, none⟩ = some (.int .i64 (fy - rp)) := x0
            have hrs : ws4.heap[w.heap.size]? = some (.cells #[.int .i64 0, .int .i64 0] 26 (0, 0)) := (CS.out.2.block w.heap.size (by omega)).trans hres.out
            have HRs : Hid (BlkAt ws4 w.heap.size 0 0) := hrs
            have r0 := HRs.out.cell0
            have r1 := HRs.out.cell1
            have g0 := HRs.out.free 0
            have g1 := HRs.out.free 1
            have hlt := HRs.out.lt
            have ne1 : ¬ bb = w.heap.size := by omega
            have ne2 : ¬ w.heap.size = bb := by omega
            have VE := Lib.hid (((show BlkAt ws4.drew bb (rq) (fy - rp) from VS.out).other (p := ⟨w.heap.size, 0, none⟩) ne1 (.int .i64 (rq))).other (p := ⟨w.heap.size, 1, none⟩) ne1 (.int .i64 (fy - rp)))
            have xe : _ ∧ _ := ⟨VE.out.cell0, VE.out.cell1⟩
            clear hrs
            go_wp2_with fail
            go_region_held3 (fun w' => w'.cell? ⟨bb, 0, none⟩ = some (.int .i64 (rq)) ∧ w'.cell? ⟨bb, 1, none⟩ = some (.int .i64 (fy - rp))) (first | exact x0 | exact x0' | exact xe) (first | fail)
            all_goals
              go_wp2
              have RS := ((show BlkAt ws4.drew w.heap.size 0 0 from HRs.out).set (rq) (fy - rp))
              have s0 := RS.cell0
              have s1 := RS.cell1
              refine bodyPost_ret (v := .tuple #[.slice (some ⟨g, 0, none⟩) m cm, .int .i64 z, .agg #[.int .i64 (rq), .int .i64 (fy - rp)]]) (by first | (simp [results, Try.results11, go_sem, s0, s1]; done) | (simp [results, Try.results11, go_sem, *]; done)) rfl ?_
              have OR : Hid (OwnP ((ws4.drew.setCell ⟨w.heap.size, 0, none⟩ (.int .i64 (rq))).setCell ⟨w.heap.size, 1, none⟩ (.int .i64 (fy - rp))) v1.heap.size (some ⟨g, 0, none⟩) m cm ps) := ((show OwnP ws4.drew _ _ _ _ _ from OS.out).low (p := ⟨w.heap.size, 0, none⟩) (by show w.heap.size < _; omega) _).low (p := ⟨w.heap.size, 1, none⟩) (by show w.heap.size < _; omega) _
              have BR : Hid (Below w.heap.size w ws4.drew) := (Bv0.out.trans (CS.out.2.mono (by omega))).drew
              exact ⟨g, m, cm, ps, z, rq, fy - rp, rfl, hm, OR.out.from_ (by omega), HF, WZ, WS, (BR.out.setCell (Nat.le_refl _) _).setCell (Nat.le_refl _) _⟩
        · have dm1 : fy - rp ≤ 1 := by omega
          refine wpAnyH_take (i := 4) (v := ?v6) rfl (by kernel_rfl) (by kernel_rfl) (by kernel_rfl) (fun _ _ _ h => h) (Or.inl ⟨by rfl, ?hy6⟩) (by assumption) ?rest6
          case hy6 =>
            intro wz hSw
            clear hSw
            go_simp <;> with_reducible rfl
          try simp only [List.getElem_toArray, List.getElem_cons_zero, List.getElem_cons_succ, Act.put, List.setIfInBounds_toArray, List.set_cons_zero, List.set_cons_succ]
          refine wpAnyH_take (i := 5) (v := ?v7) rfl (by kernel_rfl) (by kernel_rfl) (by kernel_rfl) (fun _ _ _ h => h) (Or.inl ⟨by rfl, ?hy7⟩) (by assumption) ?rest7
          case hy7 =>
            intro wz hSw
            clear hSw
            go_simp <;> with_reducible rfl
          try simp only [List.getElem_toArray, List.getElem_cons_zero, List.getElem_cons_succ, Act.put, List.setIfInBounds_toArray, List.set_cons_zero, List.set_cons_succ]
          refine wpAnyH_take (i := 6) (v := ?v8) rfl (by kernel_rfl) (by kernel_rfl) (by kernel_rfl) (fun _ _ _ h => h) (Or.inl ⟨by rfl, ?hy8⟩) (by assumption) ?rest8
          case hy8 =>
            intro wz hSw
            clear hSw
            go_simp <;> with_reducible rfl
          try simp only [List.getElem_toArray, List.getElem_cons_zero, List.getElem_cons_succ, Act.put, List.setIfInBounds_toArray, List.set_cons_zero, List.set_cons_succ]
          have sc := VP.out.cell1
          have sf := VP.out.free 1
          have VZ := Lib.hid (VP.out.set1 (1))
          have OZ : Hid (OwnP (wp2.setCell ⟨bb, 1, none⟩ (.int .i64 (1))) v1.heap.size (some ⟨g, 0, none⟩) m cm ps) := OP.out.far (gset bb 1 _ wp2) (fun g' h1 h2 => by have := hgb g' h1; injection h2 with h2; omega)
          have CZ : Hid (CI v0 A n c bs (200 + 1 + 1 + 1 + 1 + 1) (wp2.setCell ⟨bb, 1, none⟩ (.int .i64 (1)))) := CP.out.far (gset bb 1 _ wp2) (fun g' h2 => by injection h2 with h2; omega)
          have WZ2 : Hid (Wf2 (fx, 1)) := ⟨WFx.out.1, wf_in (by omega)⟩
          clear VP OP CP
          refine wpAnyH_ready (rs := [7]) (by kernel_rfl) (by simp) (AllReadyH.cons rfl (fun K hK => ?_) AllReadyH.nil)
          go_simp
          clear hHeld
          refine hK.out _ _ (trivial) (fun hHeld => ?_)
          clear hK K
          try simp only [List.getElem_toArray, List.getElem_cons_zero, List.getElem_cons_succ, Act.put, List.setIfInBounds_toArray, List.set_cons_zero, List.set_cons_succ]
          obtain ⟨wz5, hwz⟩ : ∃ u, u = wp2.setCell ⟨bb, 1, none⟩ (.int .i64 (1)) := ⟨_, rfl⟩
          rw [← hwz] at VZ OZ CZ ⊢
          clear hwz sc sf
          refine wpAnyH_done (by kernel_rfl) ?_ _
          refine NoPanic.normal ?_
          go_wp2_with fail
          refine (ci_once CZ.out 14 (by omega) (by omega) (by omega)).mono ?_
          rintro e wo6 ⟨ro, rfl, CO, GO⟩
          have VO := Lib.hid (blk_cur VZ.out (by omega) GO.out)
          have OO := Lib.hid (own_cur OZ.out hv01 GO.out)
          clear CZ VZ OZ GO
          cases ro with
          | false =>
            have x0 : wo6.cell? ⟨bb, 0, none⟩ = some (.int .i64 (fx)) ∧ wo6.cell? ⟨bb, 1, none⟩ = some (.int .i64 (1)) := ⟨VO.out.cell0, VO.out.cell1⟩
            have x0' : wo6.drew.cell? ⟨bb, 0, none⟩ = some (.int .i64 (fx)) ∧ wo6.drew.cell? ⟨bb, 1, none⟩ = some (.int .i64 (1)) := x0
            have hrs : wo6.heap[w.heap.size]? = some (.cells #[.int .i64 0, .int .i64 0] 26 (0, 0)) := (CO.out.2.block w.heap.size (by omega)).trans hres.out
            have HRs : Hid (BlkAt wo6 w.heap.size 0 0) := hrs
            have r0 := HRs.out.cell0
            have r1 := HRs.out.cell1
            have g0 := HRs.out.free 0
            have g1 := HRs.out.free 1
            have hlt := HRs.out.lt
            have ne1 : ¬ bb = w.heap.size := by omega
            have ne2 : ¬ w.heap.size = bb := by omega
            have VE := Lib.hid (((show BlkAt wo6.drew bb (fx) (1) from VO.out).other (p := ⟨w.heap.size, 0, none⟩) ne1 (.int .i64 (fx))).other (p := ⟨w.heap.size, 1, none⟩) ne1 (.int .i64 (1)))
            have xe : _ ∧ _ := ⟨VE.out.cell0, VE.out.cell1⟩
            clear hrs
            go_wp2_with fail
            go_region_held3 (fun w' => w'.cell? ⟨bb, 0, none⟩ = some (.int .i64 (fx)) ∧ w'.cell? ⟨bb, 1, none⟩ = some (.int .i64 (1))) (first | exact x0 | exact x0' | exact xe) (first | fail)
            all_goals
              go_wp2
              have RS := ((show BlkAt wo6.drew w.heap.size 0 0 from HRs.out).set (fx) (1))
              have s0 := RS.cell0
              have s1 := RS.cell1
              refine bodyPost_ret (v := .tuple #[.slice (some ⟨g, 0, none⟩) m cm, .int .i64 z, .agg #[.int .i64 (fx), .int .i64 (1)]]) (by first | (simp [results, Try.results11, go_sem, s0, s1]; done) | (simp [results, Try.results11, go_sem, *]; done)) rfl ?_
              have OR : Hid (OwnP ((wo6.drew.setCell ⟨w.heap.size, 0, none⟩ (.int .i64 (fx))).setCell ⟨w.heap.size, 1, none⟩ (.int .i64 (1))) v1.heap.size (some ⟨g, 0, none⟩) m cm ps) := ((show OwnP wo6.drew _ _ _ _ _ from OO.out).low (p := ⟨w.heap.size, 0, none⟩) (by show w.heap.size < _; omega) _).low (p := ⟨w.heap.size, 1, none⟩) (by show w.heap.size < _; omega) _
              have BR : Hid (Below w.heap.size w wo6.drew) := (Bv0.out.trans (CO.out.2.mono (by omega))).drew
              exact ⟨g, m, cm, ps, z, fx, 1, rfl, hm, OR.out.from_ (by omega), HF, WZ, WZ2, (BR.out.setCell (Nat.le_refl _) _).setCell (Nat.le_refl _) _⟩
          | true =>
            go_wp2_with fail
            refine (ci_raw CO.out (by omega)).mono ?_
            rintro e wq6 ⟨rq, rfl, WQ, CQ, GQ⟩
            have VQ := Lib.hid (blk_cur VO.out (by omega) GQ.out)
            have OQ := Lib.hid (own_cur OO.out hv01 GQ.out)
            have q0 := VQ.out.cell0
            have q1 := VQ.out.cell1
            have qf := VQ.out.free 0
            have VS := Lib.hid (VQ.out.set0 rq)
            have OS : Hid (OwnP (wq6.setCell ⟨bb, 0, none⟩ (.int .i64 rq)) v1.heap.size (some ⟨g, 0, none⟩) m cm ps) := OQ.out.far (gset bb 0 _ wq6) (fun g' h1 h2 => by have := hgb g' h1; injection h2 with h2; omega)
            have CS : Hid (CI v0 A n c bs ((200 + 1 + 1 + 1 + 1 + 1) + 1 + 2) (wq6.setCell ⟨bb, 0, none⟩ (.int .i64 rq))) := CQ.out.far (gset bb 0 _ wq6) (fun g' h2 => by injection h2 with h2; omega)
            have WS : Hid (Wf2 (rq, 1)) := ⟨WQ.out, WZ2.out.2⟩
            clear CO VO OO GQ VQ OQ CQ
            go_wp2_with fail
            obtain ⟨ws6, hws⟩ : ∃ u, u = wq6.setCell ⟨bb, 0, none⟩ (.int .i64 rq) := ⟨_, rfl⟩
            rw [← hws] at VS OS CS ⊢
            clear hws q0 q1 qf
            have x0 : ws6.cell? ⟨bb, 0, none⟩ = some (.int .i64 (rq)) ∧ ws6.cell? ⟨bb, 1, none⟩ = some (.int .i64 (1)) := ⟨VS.out.cell0, VS.out.cell1⟩
            have x0' : ws6.drew.cell? ⟨bb, 0, none⟩ = some (.int .i64 (rq)) ∧ ws6.drew.cell? ⟨bb, 1, none⟩ = some (.int .i64 (1)) := x0
            have hrs : ws6.heap[w.heap.size]? = some (.cells #[.int .i64 0, .int .i64 0] 26 (0, 0)) := (CS.out.2.block w.heap.size (by omega)).trans hres.out
            have HRs : Hid (BlkAt ws6 w.heap.size 0 0) := hrs
            have r0 := HRs.out.cell0
            have r1 := HRs.out.cell1
            have g0 := HRs.out.free 0
            have g1 := HRs.out.free 1
            have hlt := HRs.out.lt
            have ne1 : ¬ bb = w.heap.size := by omega
            have ne2 : ¬ w.heap.size = bb := by omega
            have VE := Lib.hid (((show BlkAt ws6.drew bb (rq) (1) from VS.out).other (p := ⟨w.heap.size, 0, none⟩) ne1 (.int .i64 (rq))).other (p := ⟨w.heap.size, 1, none⟩) ne1 (.int .i64 (1)))
            have xe : _ ∧ _ := ⟨VE.out.cell0, VE.out.cell1⟩
            clear hrs
            go_wp2_with fail
            go_region_held3 (fun w' => w'.cell? ⟨bb, 0, none⟩ = some (.int .i64 (rq)) ∧ w'.cell? ⟨bb, 1, none⟩ = some (.int .i64 (1))) (first | exact x0 | exact x0' | exact xe) (first | fail)
            all_goals
              go_wp2
              have RS := ((show BlkAt ws6.drew w.heap.size 0 0 from HRs.out).set (rq) (1))
              have s0 := RS.cell0
              have s1 := RS.cell1
              refine bodyPost_ret (v := .tuple #[.slice (some ⟨g, 0, none⟩) m cm, .int .i64 z, .agg #[.int .i64 (rq), .int .i64 (1)]]) (by first | (simp [results, Try.results11, go_sem, s0, s1]; done) | (simp [results, Try.results11, go_sem, *]; done)) rfl ?_
              have OR : Hid (OwnP ((ws6.drew.setCell ⟨w.heap.size, 0, none⟩ (.int .i64 (rq))).setCell ⟨w.heap.size, 1, none⟩ (.int .i64 (1))) v1.heap.size (some ⟨g, 0, none⟩) m cm ps) := ((show OwnP ws6.drew _ _ _ _ _ from OS.out).low (p := ⟨w.heap.size, 0, none⟩) (by show w.heap.size < _; omega) _).low (p := ⟨w.heap.size, 1, none⟩) (by show w.heap.size < _; omega) _
              have BR : Hid (Below w.heap.size w ws6.drew) := (Bv0.out.trans (CS.out.2.mono (by omega))).drew
              exact ⟨g, m, cm, ps, z, rq, 1, rfl, hm, OR.out.from_ (by omega), HF, WZ, WS, (BR.out.setCell (Nat.le_refl _) _).setCell (Nat.le_refl _) _⟩
      · go_simp
        refine (ci_pick CD.out 3 (by omega) (by omega)).mono ?_
        rintro e wp2 ⟨rp, rfl, pp, qp, CP, GP⟩
        have VP := Lib.hid (blk_cur VD.out (by omega) GP.out)
        have OP := Lib.hid (own_cur OD.out hv01 GP.out)
        have hrp : rp < 3 := by omega
        clear VD OD CD GP qp
        go_wp2_with fail
        clear hHeld
        refine hK.out _ _ (trivial) (fun hHeld => ?_)
        clear hK K
        try simp only [List.getElem_toArray, List.getElem_cons_zero, List.getElem_cons_succ, Act.put, List.setIfInBounds_toArray, List.set_cons_zero, List.set_cons_succ]
        refine wpAnyH_ready (rs := [1]) (by kernel_rfl) (by simp) (AllReadyH.cons rfl (fun K hK => ?_) AllReadyH.nil)
        have ld := VP.out.cell1
        go_simp
        clear hHeld
        refine hK.out _ _ (trivial) (fun hHeld => ?_)
        clear hK K
        try simp only [List.getElem_toArray, List.getElem_cons_zero, List.getElem_cons_succ, Act.put, List.setIfInBounds_toArray, List.set_cons_zero, List.set_cons_succ]
        have hw1 : IntKind.i64.wrap (fy - rp) = fy - rp := IntWalk.i64_in _ (by omega)
        by_cases dm : 1 < fy - rp
        · refine wpAnyH_take (i := 4) (v := ?v9) rfl (by kernel_rfl) (by kernel_rfl) (by kernel_rfl) (fun _ _ _ h => h) (Or.inl ⟨by rfl, ?hy9⟩) (by assumption) ?rest9
          case hy9 =>
            intro wz hSw
            clear hSw
            go_simp <;> with_reducible rfl
          try simp only [List.getElem_toArray, List.getElem_cons_zero, List.getElem_cons_succ, Act.put, List.setIfInBounds_toArray, List.set_cons_zero, List.set_cons_succ]
          refine wpAnyH_take (i := 5) (v := ?v10) rfl (by kernel_rfl) (by kernel_rfl) (by kernel_rfl) (fun _ _ _ h => h) (Or.inl ⟨by rfl, ?hy10⟩) (by assumption) ?rest10
          case hy10 =>
            intro wz hSw
            clear hSw
            go_simp <;> with_reducible rfl
          try simp only [List.getElem_toArray, List.getElem_cons_zero, List.getElem_cons_succ, Act.put, List.setIfInBounds_toArray, List.set_cons_zero, List.set_cons_succ]
          refine wpAnyH_take (i := 6) (v := ?v11) rfl (by kernel_rfl) (by kernel_rfl) (by kernel_rfl) (fun _ _ _ h => h) (Or.inl ⟨by rfl, ?hy11⟩) (by assumption) ?rest11
          case hy11 =>
            intro wz hSw
            clear hSw
            go_simp <;> with_reducible rfl
          try simp only [List.getElem_toArray, List.getElem_cons_zero, List.getElem_cons_succ, Act.put, List.setIfInBounds_toArray, List.set_cons_zero, List.set_cons_succ]
          have sc := VP.out.cell1
          have sf := VP.out.free 1
          have VZ := Lib.hid (VP.out.set1 (fy - rp))
          have OZ : Hid (OwnP (wp2.setCell ⟨bb, 1, none⟩ (.int .i64 (fy - rp))) v1.heap.size (some ⟨g, 0, none⟩) m cm ps) := OP.out.far (gset bb 1 _ wp2) (fun g' h1 h2 => by have := hgb g' h1; injection h2 with h2; omega)
          have CZ : Hid (CI v0 A n c bs (200 + 1 + 1 + 1 + 1 + 1) (wp2.setCell ⟨bb, 1, none⟩ (.int .i64 (fy - rp)))) := CP.out.far (gset bb 1 _ wp2) (fun g' h2 => by injection h2 with h2; omega)
          have WZ2 : Hid (Wf2 (fx, fy - rp)) := ⟨WFx.out.1, wf_in (by omega)⟩
          clear VP OP CP
          refine wpAnyH_ready (rs := [7]) (by kernel_rfl) (by simp) (AllReadyH.cons rfl (fun K hK => ?_) AllReadyH.nil)
          go_simp
          clear hHeld
          refine hK.out _ _ (trivial) (fun hHeld => ?_)
          clear hK K
          try simp only [List.getElem_toArray, List.getElem_cons_zero, List.getElem_cons_succ, Act.put, List.setIfInBounds_toArray, List.set_cons_zero, List.set_cons_succ]
          obtain ⟨wz7, hwz⟩ : ∃ u, u = wp2.setCell ⟨bb, 1, none⟩ (.int .i64 (fy - rp)) := ⟨_, rfl⟩
          rw [← hwz] at VZ OZ CZ ⊢
          clear hwz sc sf
          refine wpAnyH_done (by kernel_rfl) ?_ _
          refine NoPanic.normal ?_
          go_wp2_with fail
          refine (ci_once CZ.out 14 (by omega) (by omega) (by omega)).mono ?_
          rintro e wo8 ⟨ro, rfl, CO, GO⟩
          have VO := Lib.hid (blk_cur VZ.out (by omega) GO.out)
          have OO := Lib.hid (own_cur OZ.out hv01 GO.out)
          clear CZ VZ OZ GO
          cases ro with
          | false =>
            have x0 : wo8.cell? ⟨bb, 0, none⟩ = some (.int .i64 (fx)) ∧ wo8.cell? ⟨bb, 1, none⟩ = some (.int .i64 (fy - rp)) := ⟨VO.out.cell0, VO.out.cell1⟩
            have x0' : wo8.drew.cell? ⟨bb, 0, none⟩ = some (.int .i64 (fx)) ∧ wo8.drew.cell? ⟨bb, 1, none⟩ = some (.int .i64 (fy - rp)) := x0
            have hrs : wo8.heap[w.heap.size]? = some (.cells #[.int .i64 0, .int .i64 0] 26 (0, 0)) := (CO.out.2.block w.heap.size (by omega)).trans hres.out
            have HRs : Hid (BlkAt wo8 w.heap.size 0 0) := hrs
            have r0 := HRs.out.cell0
            have r1 := HRs.out.cell1
            have g0 := HRs.out.free 0
            have g1 := HRs.out.free 1
            have hlt := HRs.out.lt
            have ne1 : ¬ bb = w.heap.size := by omega
            have ne2 : ¬ w.heap.size = bb := by omega
            have VE := Lib.hid (((show BlkAt wo8.drew bb (fx) (fy - rp) from VO.out).other (p := ⟨w.heap.size, 0, none⟩) ne1 (.int .i64 (fx))).other (p := ⟨w.heap.size, 1, none⟩) ne1 (.int .i64 (fy - rp)))
            have xe : _ ∧ _ := ⟨VE.out.cell0, VE.out.cell1⟩
            clear hrs
            go_wp2_with fail
            go_region_held3 (fun w' => w'.cell? ⟨bb, 0, none⟩ = some (.int .i64 (fx)) ∧ w'.cell? ⟨bb, 1, none⟩ = some (.int .i64 (fy - rp))) (first | exact x0 | exact x0' | exact xe) (first | fail)
            all_goals
              go_wp2
              have RS := ((show BlkAt wo8.drew w.heap.size 0 0 from HRs.out).set (fx) (fy - rp))
              have s0 := RS.cell0
              have s1 := RS.cell1
              refine bodyPost_ret (v := .tuple #[.slice (some ⟨g, 0, none⟩) m cm, .int .i64 z, .agg #[.int .i64 (fx), .int .i64 (fy - rp)]]) (by first | (simp [results, Try.results11, go_sem, s0, s1]; done) | (simp [results, Try.results11, go_sem, *]; done)) rfl ?_
              have OR : Hid (OwnP ((wo8.drew.setCell ⟨w.heap.size, 0, none⟩ (.int .i64 (fx))).setCell ⟨w.heap.size, 1, none⟩ (.int .i64 (fy - rp))) v1.heap.size (some ⟨g, 0, none⟩) m cm ps) := ((show OwnP wo8.drew _ _ _ _ _ from OO.out).low (p := ⟨w.heap.size, 0, none⟩) (by show w.heap.size < _; omega) _).low (p := ⟨w.heap.size, 1, none⟩) (by show w.heap.size < _; omega) _
              have BR : Hid (Below w.heap.size w wo8.drew) := (Bv0.out.trans (CO.out.2.mono (by omega))).drew
              exact ⟨g, m, cm, ps, z, fx, fy - rp, rfl, hm, OR.out.from_ (by omega), HF, WZ, WZ2, (BR.out.setCell (Nat.le_refl _) _).setCell (Nat.le_refl _) _⟩
          | true =>
            go_wp2_with fail
            refine (ci_raw CO.out (by omega)).mono ?_
            rintro e wq8 ⟨rq, rfl, WQ, CQ, GQ⟩
            have VQ := Lib.hid (blk_cur VO.out (by omega) GQ.out)
            have OQ := Lib.hid (own_cur OO.out hv01 GQ.out)
            have q0 := VQ.out.cell0
            have q1 := VQ.out.cell1
            have qf := VQ.out.free 0
            have VS := Lib.hid (VQ.out.set0 rq)
            have OS : Hid (OwnP (wq8.setCell ⟨bb, 0, none⟩ (.int .i64 rq)) v1.heap.size (some ⟨g, 0, none⟩) m cm ps) := OQ.out.far (gset bb 0 _ wq8) (fun g' h1 h2 => by have := hgb g' h1; injection h2 with h2; omega)
            have CS : Hid (CI v0 A n c bs ((200 + 1 + 1 + 1 + 1 + 1) + 1 + 2) (wq8.setCell ⟨bb, 0, none⟩ (.int .i64 rq))) := CQ.out.far (gset bb 0 _ wq8) (fun g' h2 => by injection h2 with h2; omega)
            have WS : Hid (Wf2 (rq, fy - rp)) := ⟨WQ.out, WZ2.out.2⟩
            clear CO VO OO GQ VQ OQ CQ
            go_wp2_with fail
            obtain ⟨ws8, hws⟩ : ∃ u, u = wq8.setCell ⟨bb, 0, none⟩ (.int .i64 rq) := ⟨_, rfl⟩
            rw [← hws] at VS OS CS ⊢
            clear hws q0 q1 qf
            have x0 : ws8.cell? ⟨bb, 0, none⟩ = some (.int .i64 (rq)) ∧ ws8.cell? ⟨bb, 1, none⟩ = some (.int .i64 (fy - rp)) := ⟨VS.out.cell0, VS.out.cell1⟩
            have x0' : ws8.drew.cell? ⟨bb, 0, none⟩ = some (.int .i64 (rq)) ∧ ws8.drew.cell? ⟨bb, 1, none⟩ = some (.int .i64 (fy - rp)) := x0
            have hrs : ws8.heap[w.heap.size]? = some (.cells #[.int .i64 0, .int .i64 0] 26 (0, 0)) := (CS.out.2.block w.heap.size (by omega)).trans hres.out
            have HRs : Hid (BlkAt ws8 w.heap.size 0 0) := hrs
            have r0 := HRs.out.cell0
            have r1 := HRs.out.cell1
            have g0 := HRs.out.free 0
            have g1 := HRs.out.free 1
            have hlt := HRs.out.lt
            have ne1 : ¬ bb = w.heap.size := by omega
            have ne2 : ¬ w.heap.size = bb := by omega
            have VE := Lib.hid (((show BlkAt ws8.drew bb (rq) (fy - rp) from VS.out).other (p := ⟨w.heap.size, 0, none⟩) ne1 (.int .i64 (rq))).other (p := ⟨w.heap.size, 1, none⟩) ne1 (.int .i64 (fy - rp)))
            have xe : _ ∧ _ := ⟨VE.out.cell0, VE.out.cell1⟩
            clear hrs
            go_wp2_with fail
            go_region_held3 (fun w' => w'.cell? ⟨bb, 0, none⟩ = some (.int .i64 (rq)) ∧ w'.cell? ⟨bb, 1, none⟩ = some (.int .i64 (fy - rp))) (first | exact x0 | exact x0' | exact xe) (first | fail)
            all_goals
              go_wp2
              have RS := ((show BlkAt ws8.drew w.heap.size 0 0 from HRs.out).set (rq) (fy - rp))
              have s0 := RS.cell0
              have s1 := RS.cell1
              refine bodyPost_ret (v := .tuple #[.slice (some ⟨g, 0, none⟩) m cm, .int .i64 z, .agg #[.int .i64 (rq), .int .i64 (fy - rp)]]) (by first | (simp [results, Try.results11, go_sem, s0, s1]; done) | (simp [results, Try.results11, go_sem, *]; done)) rfl ?_
              have OR : Hid (OwnP ((ws8.drew.setCell ⟨w.heap.size, 0, none⟩ (.int .i64 (rq))).setCell ⟨w.heap.size, 1, none⟩ (.int .i64 (fy - rp))) v1.heap.size (some ⟨g, 0, none⟩) m cm ps) := ((show OwnP ws8.drew _ _ _ _ _ from OS.out).low (p := ⟨w.heap.size, 0, none⟩) (by show w.heap.size < _; omega) _).low (p := ⟨w.heap.size, 1, none⟩) (by show w.heap.size < _; omega) _
              have BR : Hid (Below w.heap.size w ws8.drew) := (Bv0.out.trans (CS.out.2.mono (by omega))).drew
              exact ⟨g, m, cm, ps, z, rq, fy - rp, rfl, hm, OR.out.from_ (by omega), HF, WZ, WS, (BR.out.setCell (Nat.le_refl _) _).setCell (Nat.le_refl _) _⟩
        · have dm1 : fy - rp ≤ 1 := by omega
          refine wpAnyH_take (i := 4) (v := ?v12) rfl (by kernel_rfl) (by kernel_rfl) (by kernel_rfl) (fun _ _ _ h => h) (Or.inl ⟨by rfl, ?hy12⟩) (by assumption) ?rest12
          case hy12 =>
            intro wz hSw
            clear hSw
            go_simp <;> with_reducible rfl
          try simp only [List.getElem_toArray, List.getElem_cons_zero, List.getElem_cons_succ, Act.put, List.setIfInBounds_toArray, List.set_cons_zero, List.set_cons_succ]
          refine wpAnyH_take (i := 5) (v := ?v13) rfl (by kernel_rfl) (by kernel_rfl) (by kernel_rfl) (fun _ _ _ h => h) (Or.inl ⟨by rfl, ?hy13⟩) (by assumption) ?rest13
          case hy13 =>
            intro wz hSw
            clear hSw
            go_simp <;> with_reducible rfl
          try simp only [List.getElem_toArray, List.getElem_cons_zero, List.getElem_cons_succ, Act.put, List.setIfInBounds_toArray, List.set_cons_zero, List.set_cons_succ]
          refine wpAnyH_take (i := 6) (v := ?v14) rfl (by kernel_rfl) (by kernel_rfl) (by kernel_rfl) (fun _ _ _ h => h) (Or.inl ⟨by rfl, ?hy14⟩) (by assumption) ?rest14
          case hy14 =>
            intro wz hSw
            clear hSw
            go_simp <;> with_reducible rfl
          try simp only [List.getElem_toArray, List.getElem_cons_zero, List.getElem_cons_succ, Act.put, List.setIfInBounds_toArray, List.set_cons_zero, List.set_cons_succ]
          have sc := VP.out.cell1
          have sf := VP.out.free 1
          have VZ := Lib.hid (VP.out.set1 (1))
          have OZ : Hid (OwnP (wp2.setCell ⟨bb, 1, none⟩ (.int .i64 (1))) v1.heap.size (some ⟨g, 0, none⟩) m cm ps) := OP.out.far (gset bb 1 _ wp2) (fun g' h1 h2 => by have := hgb g' h1; injection h2 with h2; omega)
          have CZ : Hid (CI v0 A n c bs (200 + 1 + 1 + 1 + 1 + 1) (wp2.setCell ⟨bb, 1, none⟩ (.int .i64 (1)))) := CP.out.far (gset bb 1 _ wp2) (fun g' h2 => by injection h2 with h2; omega)
          have WZ2 : Hid (Wf2 (fx, 1)) := ⟨WFx.out.1, wf_in (by omega)⟩
          clear VP OP CP
          refine wpAnyH_ready (rs := [7]) (by kernel_rfl) (by simp) (AllReadyH.cons rfl (fun K hK => ?_) AllReadyH.nil)
          go_simp
          clear hHeld
          refine hK.out _ _ (trivial) (fun hHeld => ?_)
          clear hK K
          try simp only [List.getElem_toArray, List.getElem_cons_zero, List.getElem_cons_succ, Act.put, List.setIfInBounds_toArray, List.set_cons_zero, List.set_cons_succ]
          obtain ⟨wz9, hwz⟩ : ∃ u, u = wp2.setCell ⟨bb, 1, none⟩ (.int .i64 (1)) := ⟨_, rfl⟩
          rw [← hwz] at VZ OZ CZ ⊢
          clear hwz sc sf
          refine wpAnyH_done (by kernel_rfl) ?_ _
          refine NoPanic.normal ?_
          go_wp2_with fail
          refine (ci_once CZ.out 14 (by omega) (by omega) (by omega)).mono ?_
          rintro e wo10 ⟨ro, rfl, CO, GO⟩
          have VO := Lib.hid (blk_cur VZ.out (by omega) GO.out)
          have OO := Lib.hid (own_cur OZ.out hv01 GO.out)
          clear CZ VZ OZ GO
          cases ro with
          | false =>
            have x0 : wo10.cell? ⟨bb, 0, none⟩ = some (.int .i64 (fx)) ∧ wo10.cell? ⟨bb, 1, none⟩ = some (.int .i64 (1)) := ⟨VO.out.cell0, VO.out.cell1⟩
            have x0' : wo10.drew.cell? ⟨bb, 0, none⟩ = some (.int .i64 (fx)) ∧ wo10.drew.cell? ⟨bb, 1, none⟩ = some (.int .i64 (1)) := x0
            have hrs : wo10.heap[w.heap.size]? = some (.cells #[.int .i64 0, .int .i64 0] 26 (0, 0)) := (CO.out.2.block w.heap.size (by omega)).trans hres.out
            have HRs : Hid (BlkAt wo10 w.heap.size 0 0) := hrs
            have r0 := HRs.out.cell0
            have r1 := HRs.out.cell1
            have g0 := HRs.out.free 0
            have g1 := HRs.out.free 1
            have hlt := HRs.out.lt
            have ne1 : ¬ bb = w.heap.size := by omega
            have ne2 : ¬ w.heap.size = bb := by omega
            have VE := Lib.hid (((show BlkAt wo10.drew bb (fx) (1) from VO.out).other (p := ⟨w.heap.size, 0, none⟩) ne1 (.int .i64 (fx))).other (p := ⟨w.heap.size, 1, none⟩) ne1 (.int .i64 (1)))
            have xe : _ ∧ _ := ⟨VE.out.cell0, VE.out.cell1⟩
            clear hrs
            go_wp2_with fail
            go_region_held3 (fun w' => w'.cell? ⟨bb, 0, none⟩ = some (.int .i64 (fx)) ∧ w'.cell? ⟨bb, 1, none⟩ = some (.int .i64 (1))) (first | exact x0 | exact x0' | exact xe) (first | fail)
            all_goals
              go_wp2
              have RS := ((show BlkAt wo10.drew w.heap.size 0 0 from HRs.out).set (fx) (1))
              have s0 := RS.cell0
              have s1 := RS.cell1
              refine bodyPost_ret (v := .tuple #[.slice (some ⟨g, 0, none⟩) m cm, .int .i64 z, .agg #[.int .i64 (fx), .int .i64 (1)]]) (by first | (simp [results, Try.results11, go_sem, s0, s1]; done) | (simp [results, Try.results11, go_sem, *]; done)) rfl ?_
              have OR : Hid (OwnP ((wo10.drew.setCell ⟨w.heap.size, 0, none⟩ (.int .i64 (fx))).setCell ⟨w.heap.size, 1, none⟩ (.int .i64 (1))) v1.heap.size (some ⟨g, 0, none⟩) m cm ps) := ((show OwnP wo10.drew _ _ _ _ _ from OO.out).low (p := ⟨w.heap.size, 0, none⟩) (by show w.heap.size < _; omega) _).low (p := ⟨w.heap.size, 1, none⟩) (by show w.heap.size < _; omega) _
              have BR : Hid (Below w.heap.size w wo10.drew) := (Bv0.out.trans (CO.out.2.mono (by omega))).drew
              exact ⟨g, m, cm, ps, z, fx, 1, rfl, hm, OR.out.from_ (by omega), HF, WZ, WZ2, (BR.out.setCell (Nat.le_refl _) _).setCell (Nat.le_refl _) _⟩
          | true =>
            go_wp2_with fail
            refine (ci_raw CO.out (by omega)).mono ?_
            rintro e wq10 ⟨rq, rfl, WQ, CQ, GQ⟩
            have VQ := Lib.hid (blk_cur VO.out (by omega) GQ.out)
            have OQ := Lib.hid (own_cur OO.out hv01 GQ.out)
            have q0 := VQ.out.cell0
            have q1 := VQ.out.cell1
            have qf := VQ.out.free 0
            have VS := Lib.hid (VQ.out.set0 rq)
            have OS : Hid (OwnP (wq10.setCell ⟨bb, 0, none⟩ (.int .i64 rq)) v1.heap.size (some ⟨g, 0, none⟩) m cm ps) := OQ.out.far (gset bb 0 _ wq10) (fun g' h1 h2 => by have := hgb g' h1; injection h2 with h2; omega)
            have CS : Hid (CI v0 A n c bs ((200 + 1 + 1 + 1 + 1 + 1) + 1 + 2) (wq10.setCell ⟨bb, 0, none⟩ (.int .i64 rq))) := CQ.out.far (gset bb 0 _ wq10) (fun g' h2 => by injection h2 with h2; omega)
            have WS : Hid (Wf2 (rq, 1)) := ⟨WQ.out, WZ2.out.2⟩
            clear CO VO OO GQ VQ OQ CQ
            go_wp2_with fail
            obtain ⟨ws10, hws⟩ : ∃ u, u = wq10.setCell ⟨bb, 0, none⟩ (.int .i64 rq) := ⟨_, rfl⟩
            rw [← hws] at VS OS CS ⊢
            clear hws q0 q1 qf
            have x0 : ws10.cell? ⟨bb, 0, none⟩ = some (.int .i64 (rq)) ∧ ws10.cell? ⟨bb, 1, none⟩ = some (.int .i64 (1)) := ⟨VS.out.cell0, VS.out.cell1⟩
            have x0' : ws10.drew.cell? ⟨bb, 0, none⟩ = some (.int .i64 (rq)) ∧ ws10.drew.cell? ⟨bb, 1, none⟩ = some (.int .i64 (1)) := x0
            have hrs : ws10.heap[w.heap.size]? = some (.cells #[.int .i64 0, .int .i64 0] 26 (0, 0)) := (CS.out.2.block w.heap.size (by omega)).trans hres.out
            have HRs : Hid (BlkAt ws10 w.heap.size 0 0) := hrs
            have r0 := HRs.out.cell0
            have r1 := HRs.out.cell1
            have g0 := HRs.out.free 0
            have g1 := HRs.out.free 1
            have hlt := HRs.out.lt
            have ne1 : ¬ bb = w.heap.size := by omega
            have ne2 : ¬ w.heap.size = bb := by omega
            have VE := Lib.hid (((show BlkAt ws10.drew bb (rq) (1) from VS.out).other (p := ⟨w.heap.size, 0, none⟩) ne1 (.int .i64 (rq))).other (p := ⟨w.heap.size, 1, none⟩) ne1 (.int .i64 (1)))
            have xe : _ ∧ _ := ⟨VE.out.cell0, VE.out.cell1⟩
            clear hrs
            go_wp2_with fail
            go_region_held3 (fun w' => w'.cell? ⟨bb, 0, none⟩ = some (.int .i64 (rq)) ∧ w'.cell? ⟨bb, 1, none⟩ = some (.int .i64 (1))) (first | exact x0 | exact x0' | exact xe) (first | fail)
            all_goals
              go_wp2
              have RS := ((show BlkAt ws10.drew w.heap.size 0 0 from HRs.out).set (rq) (1))
              have s0 := RS.cell0
              have s1 := RS.cell1
              refine bodyPost_ret (v := .tuple #[.slice (some ⟨g, 0, none⟩) m cm, .int .i64 z, .agg #[.int .i64 (rq), .int .i64 (1)]]) (by first | (simp [results, Try.results11, go_sem, s0, s1]; done) | (simp [results, Try.results11, go_sem, *]; done)) rfl ?_
              have OR : Hid (OwnP ((ws10.drew.setCell ⟨w.heap.size, 0, none⟩ (.int .i64 (rq))).setCell ⟨w.heap.size, 1, none⟩ (.int .i64 (1))) v1.heap.size (some ⟨g, 0, none⟩) m cm ps) := ((show OwnP ws10.drew _ _ _ _ _ from OS.out).low (p := ⟨w.heap.size, 0, none⟩) (by show w.heap.size < _; omega) _).low (p := ⟨w.heap.size, 1, none⟩) (by show w.heap.size < _; omega) _
              have BR : Hid (Below w.heap.size w ws10.drew) := (Bv0.out.trans (CS.out.2.mono (by omega))).drew
              exact ⟨g, m, cm, ps, z, rq, 1, rfl, hm, OR.out.from_ (by omega), HF, WZ, WS, (BR.out.setCell (Nat.le_refl _) _).setCell (Nat.le_refl _) _⟩
  · have hposI : ¬ (0 : Int) < (fl : Int) := by omega
    have hposd : decide ((0 : Int) < (fl : Int)) = false := decide_eq_false hposI
    go_wp2_with fail
    refine (ci_once C6.out 14 (by omega) (by omega) (by omega)).mono ?_
    rintro e wo11 ⟨ro, rfl, CO, GO⟩
    have VO := Lib.hid (blk_cur V6.out (by omega) GO.out)
    have OO := Lib.hid (own_cur O6.out hv01 GO.out)
    clear C6 V6 O6 GO
    cases ro with
    | false =>
      have x0 : wo11.cell? ⟨bb, 0, none⟩ = some (.int .i64 (r3)) ∧ wo11.cell? ⟨bb, 1, none⟩ = some (.int .i64 (1 + r4)) := ⟨VO.out.cell0, VO.out.cell1⟩
      have x0' : wo11.drew.cell? ⟨bb, 0, none⟩ = some (.int .i64 (r3)) ∧ wo11.drew.cell? ⟨bb, 1, none⟩ = some (.int .i64 (1 + r4)) := x0
      have hrs : wo11.heap[w.heap.size]? = some (.cells #[.int .i64 0, .int .i64 0] 26 (0, 0)) := (CO.out.2.block w.heap.size (by omega)).trans hres.out
      have HRs : Hid (BlkAt wo11 w.heap.size 0 0) := hrs
      have r0 := HRs.out.cell0
      have r1 := HRs.out.cell1
      have g0 := HRs.out.free 0
      have g1 := HRs.out.free 1
      have hlt := HRs.out.lt
      have ne1 : ¬ bb = w.heap.size := by omega
      have ne2 : ¬ w.heap.size = bb := by omega
      have VE := Lib.hid (((show BlkAt wo11.drew bb (r3) (1 + r4) from VO.out).other (p := ⟨w.heap.size, 0, none⟩) ne1 (.int .i64 (r3))).other (p := ⟨w.heap.size, 1, none⟩) ne1 (.int .i64 (1 + r4)))
      have xe : _ ∧ _ := ⟨VE.out.cell0, VE.out.cell1⟩
      clear hrs
      go_wp2_with fail
      go_region_held3 (fun w' => w'.cell? ⟨bb, 0, none⟩ = some (.int .i64 (r3)) ∧ w'.cell? ⟨bb, 1, none⟩ = some (.int .i64 (1 + r4))) (first | exact x0 | exact x0' | exact xe) (first | fail)
      all_goals
        go_wp2
        have RS := ((show BlkAt wo11.drew w.heap.size 0 0 from HRs.out).set (r3) (1 + r4))
        have s0 := RS.cell0
        have s1 := RS.cell1
        refine bodyPost_ret (v := .tuple #[.slice (some ⟨g, 0, none⟩) m cm, .int .i64 z, .agg #[.int .i64 (r3), .int .i64 (1 + r4)]]) (by first | (simp [results, Try.results11, go_sem, s0, s1]; done) | (simp [results, Try.results11, go_sem, *]; done)) rfl ?_
        have OR : Hid (OwnP ((wo11.drew.setCell ⟨w.heap.size, 0, none⟩ (.int .i64 (r3))).setCell ⟨w.heap.size, 1, none⟩ (.int .i64 (1 + r4))) v1.heap.size (some ⟨g, 0, none⟩) m cm ps) := ((show OwnP wo11.drew _ _ _ _ _ from OO.out).low (p := ⟨w.heap.size, 0, none⟩) (by show w.heap.size < _; omega) _).low (p := ⟨w.heap.size, 1, none⟩) (by show w.heap.size < _; omega) _
        have BR : Hid (Below w.heap.size w wo11.drew) := (Bv0.out.trans (CO.out.2.mono (by omega))).drew
        exact ⟨g, m, cm, ps, z, r3, 1 + r4, rfl, hm, OR.out.from_ (by omega), HF, WZ, W0, (BR.out.setCell (Nat.le_refl _) _).setCell (Nat.le_refl _) _⟩
    | true =>
      go_wp2_with fail
      refine (ci_raw CO.out (by omega)).mono ?_
      rintro e wq11 ⟨rq, rfl, WQ, CQ, GQ⟩
      have VQ := Lib.hid (blk_cur VO.out (by omega) GQ.out)
      have OQ := Lib.hid (own_cur OO.out hv01 GQ.out)
      have q0 := VQ.out.cell0
      have q1 := VQ.out.cell1
      have qf := VQ.out.free 0
      have VS := Lib.hid (VQ.out.set0 rq)
      have OS : Hid (OwnP (wq11.setCell ⟨bb, 0, none⟩ (.int .i64 rq)) v1.heap.size (some ⟨g, 0, none⟩) m cm ps) := OQ.out.far (gset bb 0 _ wq11) (fun g' h1 h2 => by have := hgb g' h1; injection h2 with h2; omega)
      have CS : Hid (CI v0 A n c bs ((200 + 1 + 1) + 1 + 2) (wq11.setCell ⟨bb, 0, none⟩ (.int .i64 rq))) := CQ.out.far (gset bb 0 _ wq11) (fun g' h2 => by injection h2 with h2; omega)
      have WS : Hid (Wf2 (rq, 1 + r4)) := ⟨WQ.out, W0.out.2⟩
      clear CO VO OO GQ VQ OQ CQ
      go_wp2_with fail
      obtain ⟨ws11, hws⟩ : ∃ u, u = wq11.setCell ⟨bb, 0, none⟩ (.int .i64 rq) := ⟨_, rfl⟩
      rw [← hws] at VS OS CS ⊢
      clear hws q0 q1 qf
      have x0 : ws11.cell? ⟨bb, 0, none⟩ = some (.int .i64 (rq)) ∧ ws11.cell? ⟨bb, 1, none⟩ = some (.int .i64 (1 + r4)) := ⟨VS.out.cell0, VS.out.cell1⟩
      have x0' : ws11.drew.cell? ⟨bb, 0, none⟩ = some (.int .i64 (rq)) ∧ ws11.drew.cell? ⟨bb, 1, none⟩ = some (.int .i64 (1 + r4)) := x0
      have hrs : ws11.heap[w.heap.size]? = some (.cells #[.int .i64 0, .int .i64 0] 26 (0, 0)) := (CS.out.2.block w.heap.size (by omega)).trans hres.out
      have HRs : Hid (BlkAt ws11 w.heap.size 0 0) := hrs
      have r0 := HRs.out.cell0
      have r1 := HRs.out.cell1
      have g0 := HRs.out.free 0
      have g1 := HRs.out.free 1
      have hlt := HRs.out.lt
      have ne1 : ¬ bb = w.heap.size := by omega
      have ne2 : ¬ w.heap.size = bb := by omega
      have VE := Lib.hid (((show BlkAt ws11.drew bb (rq) (1 + r4) from VS.out).other (p := ⟨w.heap.size, 0, none⟩) ne1 (.int .i64 (rq))).other (p := ⟨w.heap.size, 1, none⟩) ne1 (.int .i64 (1 + r4)))
      have xe : _ ∧ _ := ⟨VE.out.cell0, VE.out.cell1⟩
      clear hrs
      go_wp2_with fail
      go_region_held3 (fun w' => w'.cell? ⟨bb, 0, none⟩ = some (.int .i64 (rq)) ∧ w'.cell? ⟨bb, 1, none⟩ = some (.int .i64 (1 + r4))) (first | exact x0 | exact x0' | exact xe) (first | fail)
      all_goals
        go_wp2
        have RS := ((show BlkAt ws11.drew w.heap.size 0 0 from HRs.out).set (rq) (1 + r4))
        have s0 := RS.cell0
        have s1 := RS.cell1
        refine bodyPost_ret (v := .tuple #[.slice (some ⟨g, 0, none⟩) m cm, .int .i64 z, .agg #[.int .i64 (rq), .int .i64 (1 + r4)]]) (by first | (simp [results, Try.results11, go_sem, s0, s1]; done) | (simp [results, Try.results11, go_sem, *]; done)) rfl ?_
        have OR : Hid (OwnP ((ws11.drew.setCell ⟨w.heap.size, 0, none⟩ (.int .i64 (rq))).setCell ⟨w.heap.size, 1, none⟩ (.int .i64 (1 + r4))) v1.heap.size (some ⟨g, 0, none⟩) m cm ps) := ((show OwnP ws11.drew _ _ _ _ _ from OS.out).low (p := ⟨w.heap.size, 0, none⟩) (by show w.heap.size < _; omega) _).low (p := ⟨w.heap.size, 1, none⟩) (by show w.heap.size < _; omega) _
        have BR : Hid (Below w.heap.size w ws11.drew) := (Bv0.out.trans (CS.out.2.mono (by omega))).drew
        exact ⟨g, m, cm, ps, z, rq, 1 + r4, rfl, hm, OR.out.from_ (by omega), HF, WZ, WS, (BR.out.setCell (Nat.le_refl _) _).setCell (Nat.le_refl _) _⟩

end Go.Proofs.Ytlaegdfaaoaiaaa
