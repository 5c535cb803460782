/- What the model's draw of a list of blocks leaves: a list of the call's own, a number of words. -/
import Derived.Test.YtlaegdfaaoaiaaaCurP
import Derived.Test.YtlaegdfaaoaiaaaAppP
import Derived.Test.YtlaegdfaaoaiaaaOpenB
import Derived.Deep.RegionHeld3
namespace Go.Proofs.Ytlaegdfaaoaiaaa
open Go.RowKit

/-- What the draw hands back. -/
def Drawn (w : World) (A : Option Addr) (n c : Nat) (bs : List Int) (b0 : Nat) (e : Ending) (w' : World) : Prop :=
  ∃ (g m cm : Nat) (ps : List (Int × Int)) (z : Int), e = .returned (.tuple #[.slice (some ⟨g, 0, none⟩) m cm, .int .i64 z]) ∧ m ≤ 20 ∧ Hid (OwnP w' b0 (some ⟨g, 0, none⟩) m cm ps) ∧ Hid (WfP ps) ∧ Hid ((Lit.int .i64 z).wf = true) ∧ Hid (CI w A n c bs 200 w')

set_option maxRecDepth 100000 in
set_option maxHeartbeats 8000000 in
theorem live_any (w v : World) (A : Option Addr) (n c : Nat) (bs : List Int) (h : CI w A n c bs 0 v) :
    Calls Try.prog 34 #[.pointer (some ⟨w.heap.size, 0, none⟩)] v (Drawn w A n c bs v.heap.size) := by
  have hwv := h.lt
  have H := Lib.hid h
  clear h
  go_enter Try.func34, Try.ntmps34
  go_wp2_with fail
  refine (ci_pick H.out 5 (by omega) (by omega)).mono ?_
  rintro e w1 ⟨r1, rfl, p1, q1, C1, G1⟩
  have hz1 : v.heap.size ≤ w1.heap.size := G1.out.size
  have hq1 : r1 < 5 := by omega
  clear q1 H G1
  have O0 : Hid (OwnP (w1.alloc (.cells #[] 26)) v.heap.size (some ⟨w1.heap.size, 0, none⟩) 0 0 []) := World.ownsRow_made w1 #[] 0 hz1 (Nat.zero_le _) (by simp)
  have C2 := Lib.hid (C1.out.alloc (.cells #[] 26))
  have hz2 : v.heap.size ≤ (w1.alloc (.cells #[] 26)).heap.size := by simp; omega
  clear C1
  go_wp2_with fail
  refine (ci_pick C2.out 4 (by omega) (by omega)).mono ?_
  rintro e w3 ⟨r3, rfl, p3, q3, C3, G3⟩
  have hz3 : v.heap.size ≤ w3.heap.size := Nat.le_trans hz2 G3.out.size
  have O3 := Lib.hid (own_cur O0.out hwv G3.out)
  have hq3 : r3 < 4 := by omega
  clear q3 C2 G3 O0
  go_wp2_with fail
  refine (ci_size C3.out 10 (by omega) (by omega) (by omega)).mono ?_
  rintro e w4 ⟨r4, rfl, p4, q4, C4, G4⟩
  have hz4 : v.heap.size ≤ w4.heap.size := Nat.le_trans hz3 G4.out.size
  have O4 := Lib.hid (own_cur O3.out hwv G4.out)
  clear C3 G4 O3
  obtain ⟨j0, rfl⟩ := Int.eq_ofNat_of_zero_le p4
  go_wp2
  go_loopw [5, 6, 7] (fun s a k wr => ∃ (j m ca g KK : Nat) (t : Int) (acc : List (Int × Int)), k = .int .i64 j ∧ j ≤ 10 ∧ m + j ≤ 10 ∧ KK + 2 * j ≤ 23 ∧ a = .int .i64 t ∧ 0 ≤ t ∧ t + 10 * j ≤ 103 ∧ s = .slice (some ⟨g, 0, none⟩) m ca ∧ v.heap.size ≤ wr.heap.size ∧ Hid (OwnP wr v.heap.size (some ⟨g, 0, none⟩) m ca acc) ∧ Hid (WfP acc) ∧ Hid (CI w A n c bs KK wr)) (fun _ _ k _ => (intOf k).toNat)
  case atStart => exact ⟨j0, 0, 0, _, 3, r3, [], rfl, by omega, by omega, by omega, rfl, by omega, by omega, rfl, hz4, O4, fun p hp => by simp at hp, C4⟩
  case round =>
    obtain ⟨j, m, ca, g, KK, t, acc, rfl, hj, hmj, hKK, rfl, ht0, ht1, rfl, hzr, HO, HF, HC⟩ := hrel
    clear O4 C4
    by_cases hpos : 0 < j
    · have hjp : (0 : Int) < (j : Int) := by omega
      go_wp2_with fail
      refine (ci_pick HC.out 6 (by omega) (by omega)).mono ?_
      rintro e w5 ⟨r5, rfl, p5, q5, C5, G5⟩
      have hz5 : v.heap.size ≤ w5.heap.size := Nat.le_trans hzr G5.out.size
      have O5 := Lib.hid (own_cur HO.out hwv G5.out)
      have hq5 : r5 < 6 := by omega
      clear q5 HC G5 HO
      have V5 := Lib.hid (BlkAt.new w5 t (1 + r5))
      have O6 := Lib.hid (O5.out.alloc (.cells #[.int .i64 t, .int .i64 (1 + r5)] 26))
      have C6 := Lib.hid (C5.out.alloc (.cells #[.int .i64 t, .int .i64 (1 + r5)] 26))
      have hz6 : (w5.alloc (.cells #[.int .i64 t, .int .i64 (1 + r5)] 26)).heap.size = w5.heap.size + 1 := World.size_alloc _ _
      have HF2 := Lib.hid (wfP_snoc (x := t) (y := 1 + r5) HF.out (by omega) (by omega))
      by_cases d : t + (1 + r5) ≤ 16 * r1
      · go_wp2_with (first
          | (at_builtin; refine wpList_push_p rfl _ _ rfl v.heap.size m ca _ acc t (1 + r5) _ rfl rfl (by simp) O6.out (by omega) (by omega) ?_
             intro A7 c7 w7 O7 B7 G7
             have V7 := Lib.hid ((V5.out.alloc _).far G7.out (fun e => by have := O5.out.range _ e.symm; omega))
             have C7 := Lib.hid ((C6.out.alloc _).far G7.out (fun g' e => by have := O5.out.range _ e; omega))
             have hz7 : w5.heap.size + 1 ≤ w7.heap.size := by have := G7.out.size; simp at this; omega
             obtain ⟨g7, rfl, _, _⟩ := O7.out.form (by omega)
             clear B7 G7 O6 C6 V5 O5 C5)
          | fail)
        -- TAIL
        have x0 := V7.out.cell1
        have x0' : w7.drew.cell? ⟨w5.heap.size, 1, none⟩ = some (.int .i64 (1 + r5)) := x0
        have CP := Lib.hid ((ci_pick (C7.out.drew) 4 (by omega) (by omega)).mono (R' := fun e w' => ∃ r : Int, e = .returned (.int .i64 r) ∧ 0 ≤ r ∧ r < 4 ∧ v.heap.size ≤ w'.heap.size ∧ Hid (OwnP w' v.heap.size (some ⟨g7, 0, none⟩) (m + 1) c7 (acc ++ [(t, 1 + r5)])) ∧ Hid (CI w A n c bs ((KK + 1) + 1) w') ∧ w'.cell? ⟨w5.heap.size, 1, none⟩ = some (.int .i64 (1 + r5))) (fun e w' ⟨r, he, h0, h1, hc, hg⟩ => ⟨r, he, h0, by omega, Nat.le_trans (show v.heap.size ≤ w7.drew.heap.size by show v.heap.size ≤ w7.heap.size; omega) hg.out.size, own_cur (wr := w7.drew) O7.out hwv hg.out, hc, (blk_cur (wr := w7.drew) V7.out (by omega) hg.out).cell1⟩))
        clear V7 O7 C7
        have e1 : IntKind.i64.wrap (t + (1 + r5)) = t + (1 + r5) := IntWalk.i64_in _ (by omega)
        go_wp2
        go_region_held3 (fun w' => w'.cell? ⟨w5.heap.size, 1, none⟩ = some (.int .i64 (1 + r5))) (first | exact x0 | exact x0' | exact x5) (first | (go_at_call 35; refine CP.out.mono ?_; rintro e w8 ⟨r8, rfl, p8, q8, hz8, O8, C8, x5⟩))
        all_goals
          have e2 : IntKind.i64.wrap (t + (1 + r5) + r8) = t + (1 + r5) + r8 := IntWalk.i64_in _ (by omega)
          go_wp2
          go_roundw
          case rel => exact ⟨j - 1, m + 1, c7, g7, (KK + 1) + 1, t + (1 + r5) + r8, _, (by first | go_num | (congr 1; omega)), by omega, by omega, by omega, by first | rfl | (rw [e1, e2]) | (rw [e2]) | go_num, by omega, by omega, rfl, hz8, O8, HF2, C8⟩
          case measure => simp [intOf]; omega
      · have x0 := V5.out.cell1
        have x0' : (w5.alloc (.cells #[.int .i64 t, .int .i64 (1 + r5)] 26)).drew.cell? ⟨w5.heap.size, 1, none⟩ = some (.int .i64 (1 + r5)) := x0
        have CP := Lib.hid ((ci_pick (C6.out.drew) 4 (by omega) (by omega)).mono (R' := fun e w' => ∃ r : Int, e = .returned (.int .i64 r) ∧ 0 ≤ r ∧ r < 4 ∧ v.heap.size ≤ w'.heap.size ∧ Hid (OwnP w' v.heap.size (some ⟨g, 0, none⟩) (m) ca (acc)) ∧ Hid (CI w A n c bs ((KK + 1) + 1) w') ∧ w'.cell? ⟨w5.heap.size, 1, none⟩ = some (.int .i64 (1 + r5))) (fun e w' ⟨r, he, h0, h1, hc, hg⟩ => ⟨r, he, h0, by omega, Nat.le_trans (show v.heap.size ≤ (w5.alloc (.cells #[.int .i64 t, .int .i64 (1 + r5)] 26)).drew.heap.size by show v.heap.size ≤ (w5.alloc (.cells #[.int .i64 t, .int .i64 (1 + r5)] 26)).heap.size; omega) hg.out.size, own_cur (wr := (w5.alloc (.cells #[.int .i64 t, .int .i64 (1 + r5)] 26)).drew) O6.out hwv hg.out, hc, (blk_cur (wr := (w5.alloc (.cells #[.int .i64 t, .int .i64 (1 + r5)] 26)).drew) V5.out (by omega) hg.out).cell1⟩))
        clear V5 O6 C6
        have e1 : IntKind.i64.wrap (t + (1 + r5)) = t + (1 + r5) := IntWalk.i64_in _ (by omega)
        go_wp2
        go_region_held3 (fun w' => w'.cell? ⟨w5.heap.size, 1, none⟩ = some (.int .i64 (1 + r5))) (first | exact x0 | exact x0' | exact x5) (first | (go_at_call 35; refine CP.out.mono ?_; rintro e w8 ⟨r8, rfl, p8, q8, hz8, O8, C8, x5⟩))
        all_goals
          have e2 : IntKind.i64.wrap (t + (1 + r5) + r8) = t + (1 + r5) + r8 := IntWalk.i64_in _ (by omega)
          go_wp2
          go_roundw
          case rel => exact ⟨j - 1, m, ca, g, (KK + 1) + 1, t + (1 + r5) + r8, _, (by first | go_num | (congr 1; omega)), by omega, by omega, by omega, by first | rfl | (rw [e1, e2]) | (rw [e2]) | go_num, by omega, by omega, rfl, hz8, O8, HF, C8⟩
          case measure => simp [intOf]; omega
    · have hj0 : ¬ (0 : Int) < (j : Int) := by omega
      go_wp2_with fail
      refine (ci_pick HC.out 14 (by omega) (by omega)).mono ?_
      rintro e w6 ⟨r6, rfl, p6, q6, C6, G6⟩
      have hz6 : v.heap.size ≤ w6.heap.size := Nat.le_trans hzr G6.out.size
      have O6 := Lib.hid (own_cur HO.out hwv G6.out)
      clear HC G6 HO q6
      by_cases e0 : r6 = 0
      · subst e0
        go_wp2_with fail
        refine (ci_raw C6.out (by omega)).mono ?_
        rintro e w7 ⟨r7, rfl, W7, C7, G7⟩
        have hz7 : v.heap.size ≤ w7.heap.size := Nat.le_trans hz6 G7.out.size
        have O7 := Lib.hid (own_cur O6.out hwv G7.out)
        have O7a := Lib.hid (O7.out.alloc (.cells #[.int .i64 r7, .int .i64 256, .int .i64 257] 3))
        clear C6 G7 O6
        go_wp2_with fail
        refine (ci_pick (C7.out.alloc _) 3 (by omega) (by omega)).mono ?_
        rintro e w8 ⟨r8, rfl, p8, q8, C8, G8⟩
        obtain ⟨vv, hv, hc⟩ := lit3 (lit_call (heap_alloc_new w7 _) G8.out (by omega)) W7.out (by decide) (by decide) p8 q8
        have O8 := Lib.hid (own_cur O7a.out hwv G8.out)
        have q8' : r8 < 3 := by omega
        clear q8 C7 O7 O7a G8
        go_wp2
        go_ret2
        exact ⟨g, m, ca, acc, vv, rfl, by omega, O8, HF, hv, C8.out.mono (by omega)⟩
      · have hb0 : (r6 == 0) = false := by simp [e0]
        have WZ := Lib.hid (show (Lit.int .i64 (16 * r1)).wf = true from wf_i64 (by omega) (by omega))
        by_cases e1 : r6 = 1
        · subst e1
          clear hb0 e0
          go_wp2_with fail
          refine (ci_raw C6.out (by omega)).mono ?_
          rintro e w7 ⟨r7, rfl, W7, C7, G7⟩
          have hz7 : v.heap.size ≤ w7.heap.size := Nat.le_trans hz6 G7.out.size
          have O7 := Lib.hid (own_cur O6.out hwv G7.out)
          clear C6 G7 O6
          go_wp2_with fail
          refine (ci_pick C7.out 5 (by omega) (by omega)).mono ?_
          rintro e w8 ⟨r8, rfl, p8, q8, C8, G8⟩
          have hz8 : v.heap.size ≤ w8.heap.size := Nat.le_trans hz7 G8.out.size
          have O8 := Lib.hid (own_cur O7.out hwv G8.out)
          have HF2 := Lib.hid (wfP_snoc (x := r7) (y := r8) HF.out (int_of_wf W7.out) (by omega))
          clear C7 G8 O7 q8
          go_wp2_with (first
            | (at_builtin; refine wpList_push_p rfl _ _ rfl v.heap.size m ca _ acc r7 r8 _ rfl rfl rfl O8.out (by omega) hz8 ?_
               intro A9 c9 w9 O9 B9 G9
               have C9 := Lib.hid ((C8.out.alloc _).far G9.out (fun g' e => by have := O8.out.range _ e; omega))
               obtain ⟨g9, rfl, _, _⟩ := O9.out.form (by omega)
               clear B9 G9 O8 C8)
            | fail)
          go_ret2
          exact ⟨g9, m + 1, c9, _, 16 * r1, rfl, by omega, O9, HF2, WZ, C9.out.mono (by omega)⟩
        · have hb1 : (r6 == 1) = false := by simp [e1]
          by_cases e2 : r6 = 2
          · subst e2
            clear hb0 hb1 e0 e1
            by_cases hm0 : 0 < m
            · have hmI : (0 : Int) < (m : Int) := by omega
              go_wp2_with fail
              refine (ci_pick C6.out m (by omega) (by omega)).mono ?_
              rintro e w7 ⟨r7, rfl, p7, q7, C7, G7⟩
              have hz7 : v.heap.size ≤ w7.heap.size := Nat.le_trans hz6 G7.out.size
              have O7 := Lib.hid (own_cur O6.out hwv G7.out)
              obtain ⟨i, rfl⟩ := Int.eq_ofNat_of_zero_le p7
              have hi : i < m := by omega
              have hiI : (i : Int) < (m : Int) := by omega
              clear C6 G7 O6 q7
              go_wp2_with fail
              refine (ci_raw C7.out (by omega)).mono ?_
              rintro e w8 ⟨r8, rfl, W8, C8, G8⟩
              have O8 := Lib.hid (own_cur O7.out hwv G8.out)
              have c8 := O8.out.cell2 rfl hi
              have f8 := O8.out.free rfl (i * 2 + 1)
              have O9 := Lib.hid (O8.out.store2 (x := r8) hi)
              have HF2 := Lib.hid (wfP_set (i := i) HF.out (HF.out.at i).1 (int_of_wf W8.out))
              have C9 : Hid (CI w A n c bs (KK + 1 + 1 + 2) (w8.setCell ⟨g, i * 2 + 1, none⟩ (.int .i64 r8))) := C8.out.far (gset g (i * 2 + 1) _ w8) (fun g' e => by injection e with e; have := O8.out.range g rfl; omega)
              clear C7 G8 O7 O8 C8
              go_wp2
              go_ret2
              exact ⟨g, m, ca, _, 16 * r1, rfl, by omega, O9, HF2, WZ, C9.out.mono (by omega)⟩
            · have hmI : ¬ (0 : Int) < (m : Int) := by omega
              go_wp2
              go_ret2
              exact ⟨g, m, ca, acc, 16 * r1, rfl, by omega, O6, HF, WZ, C6.out.mono (by omega)⟩
          · have hb2 : (r6 == 2) = false := by simp [e2]
            go_wp2
            go_ret2
            exact ⟨g, m, ca, acc, 16 * r1, rfl, by omega, O6, HF, WZ, C6.out.mono (by omega)⟩

end Go.Proofs.Ytlaegdfaaoaiaaa
