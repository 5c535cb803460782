/- Fits of the program answers as the model at every argument, leaves its argument as it was. No condition. -/
import Derived.Test.YtefcaeldkdbjdaaIFits
import Derived.Test.YtefcaeldkdbjdaaSFits
import Derived.Test.YtefcaeldkdbjdaaMemL
import Derived.Test.YtefcaeldkdbjdaaKp
import Derived.Test.YtefcaeldkdbjdaaKpU
import Derived.Test.YtefcaeldkdbjdaaOpen
import Derived.Test.YtefcaeldkdbjdaaNewB
import Derived.Deep.RegionHeld3
import Derived.Deep.DeepCutAuto
namespace Go.Proofs.Ytefcaeldkdbjdaa
open Go.ChangeShapes Go.WideShapes Go.ChangeAt Go.RowKit
set_option linter.unusedVariables false

set_option maxRecDepth 100000 in
set_option maxHeartbeats 4000000 in
theorem fnExactFits_walk (A : Option Addr) (n c : Nat) (zs : List Int) (s : Int) (w : World) (h : Rd w w.heap.size A n zs) (hm : n ≤ maxLen) (hf : ∀ z ∈ zs, 0 ≤ z ∧ z < 4294967296) (hs : (Lit.int .i64 s).wf = true) :
    Calls Try.prog 4 #[.agg #[.slice A n c], .int .i64 s] w fun e w' => e = .returned (.bool true) ∧ Below w.heap.size w w' := by
  by_cases hn : n ≤ 1048576
  · obtain ⟨ws, hws⟩ : ∃ ws : List Nat, zs = ints ws := ⟨zs.map Int.toNat, by
      unfold ints
      rw [List.map_map]
      conv => lhs; rw [← List.map_id zs]
      exact List.map_congr_left fun z hz2 => by have := (hf z hz2).1; simp; omega⟩
    have hX : ∀ X ∈ ws, X < 4294967296 := fun X hX => by
      have := (hf (X : Int) (by rw [hws]; exact List.mem_map.2 ⟨X, hX, rfl⟩)).2
      omega
    obtain ⟨r, e0⟩ : ∃ r : Bool, (r = true ↔ FitV ws s) := by
      by_cases h : FitV ws s
      · exact ⟨true, by simp [h]⟩
      · exact ⟨false, by simp [h]⟩
    have HSI : Hid ((∀ W g, Rd W W.heap.size (some ⟨g, 0, none⟩) n zs → Calls Try.prog 8 #[.agg #[.slice (some ⟨g, 0, none⟩) n n], .int .i64 s] W fun e w' => e = .returned (.bool r) ∧ Below W.heap.size W w') ∧ (∀ W g, Rd W W.heap.size (some ⟨g, 0, none⟩) n zs → Calls Try.prog 10 #[.agg #[.slice (some ⟨g, 0, none⟩) n n], .int .i64 s] W fun e w' => e = .returned (.bool r) ∧ Below W.heap.size W w')) := ⟨fun W g h1 => by rw [hws] at h1; exact (sFits_any _ n n _ ws s W h1 (Nat.le_refl _) hX hm).mono fun e w' ⟨r', he, hr, hb⟩ => ⟨by rw [he, show r' = r from Bool.eq_iff_iff.2 (hr.trans e0.symm)], hb⟩, fun W g h1 => by rw [hws] at h1; exact (fits_any _ n n _ ws s W h1 (Nat.le_refl _) hX hm).mono fun e w' ⟨r', he, hr, hb⟩ => ⟨by rw [he, show r' = r from Bool.eq_iff_iff.2 (hr.trans e0.symm)], hb⟩⟩
    have HS := Lib.hid HSI.out.1
    have HI := Lib.hid HSI.out.2
    have i0 : (r != r) = false := by simp
    clear HSI
    have HT : Hid (∀ W, Below w.heap.size w W → Calls Try.prog 9 #[.agg #[.slice A n c]] W fun e w' => ∃ g, e = .returned (.agg #[.slice (some ⟨g, 0, none⟩) n n]) ∧ Own w' W.heap.size (some ⟨g, 0, none⟩) n n zs ∧ Below W.heap.size W w') := fun W hb => U.toMem_any A n c w.heap.size zs W (h.below hb) hb.size hn
    have HZ := Lib.hid (fun W => U.szMem_any A n c 1048576 W hm (by omega) (by omega))
    have hq : ¬ (1048576 : Int) - (n : Int) < 0 := by omega
    simp only [if_neg hq] at HZ
    clear h hf hws hX e0
    go_enter Try.func4, Try.ntmps4
    have hk := bel1 w (.cells #[.slice A n c] 26)
    have V_arg_w1 : Hid ((w.alloc (.cells #[.slice A n c] 26)).heap[w.heap.size]? = some (.cells #[.slice A n c] 26 (0, 0))) := heap_alloc_new _ _
    have Bw1 : Hid (Below w.heap.size w (w.alloc (.cells #[.slice A n c] 26))) := hk
    have zw1 : w.heap.size + 1 ≤ (w.alloc (.cells #[.slice A n c] 26)).heap.size := Nat.le_of_eq (sz1 _ _).symm
    have yw1 : (w.alloc (.cells #[.slice A n c] 26)).heap.size ≤ w.heap.size + 1 := Nat.le_of_eq (sz1 _ _)
    clear hk
    go_wp2_with fail
    generalize w.alloc (.cells #[.slice A n c] 26) = w1 at *
    refine (HZ.out _).mono ?_
    rintro e w2 ⟨rfl, hb⟩
    have zw2 := hb.size
    have hk : Kp (fun _ => False) w1 w2 := Kp.of_below hb
    have V_arg_w2 : Hid (w2.heap[w.heap.size]? = some (.cells #[.slice A n c] 26 (0, 0))) := (hk.block _ (by omega) (fun h => h)).trans V_arg_w1.out
    have Bw2 : Hid (Below w.heap.size w w2) := Bw1.out.trans (hb.mono Bw1.out.size)
    clear V_arg_w1 Bw1
    clear hb hk
    have c_arg0 := blkc V_arg_w2.out 0 rfl
    go_wp2_with fail
    clear c_arg0
    refine (HT.out _ Bw2.out).mono ?_
    rintro e w3 ⟨qX, rfl, ho, hb⟩
    have zw3 := hb.size
    have hk : Kp (fun _ => False) w2 w3 := Kp.of_below hb
    have V_arg_w3 : Hid (w3.heap[w.heap.size]? = some (.cells #[.slice A n c] 26 (0, 0))) := (hk.block _ (by omega) (fun h => h)).trans V_arg_w2.out
    have Bw3 : Hid (Below w.heap.size w w3) := Bw2.out.trans (hb.mono Bw2.out.size)
    clear V_arg_w2 Bw2
    have O_QX_w3 : Hid (Own w3 w2.heap.size (some ⟨qX, 0, none⟩) n n zs) := ho
    have R_QX : Hid (∀ g, (Value.slice (some ⟨qX, 0, none⟩) n n).ownBlock = some g → w2.heap.size ≤ g ∧ g < w3.heap.size) := World.ownsRow.lt ho
    clear hb hk ho
    go_wp2_with fail
    refine (HS.out _ qX O_QX_w3.out.rd).mono ?_
    rintro e w4 ⟨rfl, hb⟩
    have zw4 := hb.size
    have hk : Kp (fun _ => False) w3 w4 := Kp.of_below hb
    have V_arg_w4 : Hid (w4.heap[w.heap.size]? = some (.cells #[.slice A n c] 26 (0, 0))) := (hk.block _ (by omega) (fun h => h)).trans V_arg_w3.out
    have O_QX_w4 : Hid (Own w4 w2.heap.size (some ⟨qX, 0, none⟩) n n zs) := O_QX_w3.out.kp hk (fun g hg h => h)
    have Bw4 : Hid (Below w.heap.size w w4) := Bw3.out.trans (hb.mono Bw3.out.size)
    clear V_arg_w3 O_QX_w3 Bw3
    clear hb hk
    clear O_QX_w4
    have c_arg0 := blkc V_arg_w4.out 0 rfl
    go_wp2_with fail
    clear c_arg0
    refine (HT.out _ Bw4.out).mono ?_
    rintro e w5 ⟨qY, rfl, ho, hb⟩
    have zw5 := hb.size
    have hk : Kp (fun _ => False) w4 w5 := Kp.of_below hb
    have V_arg_w5 : Hid (w5.heap[w.heap.size]? = some (.cells #[.slice A n c] 26 (0, 0))) := (hk.block _ (by omega) (fun h => h)).trans V_arg_w4.out
    have Bw5 : Hid (Below w.heap.size w w5) := Bw4.out.trans (hb.mono Bw4.out.size)
    clear V_arg_w4 Bw4
    have O_QY_w5 : Hid (Own w5 w4.heap.size (some ⟨qY, 0, none⟩) n n zs) := ho
    have R_QY : Hid (∀ g, (Value.slice (some ⟨qY, 0, none⟩) n n).ownBlock = some g → w4.heap.size ≤ g ∧ g < w5.heap.size) := World.ownsRow.lt ho
    clear hb hk ho
    have hk := bel1 w5 (.cells #[.slice (some ⟨qY, 0, none⟩) n n] 29)
    have V_arg_w6 : Hid ((w5.alloc (.cells #[.slice (some ⟨qY, 0, none⟩) n n] 29)).heap[w.heap.size]? = some (.cells #[.slice A n c] 26 (0, 0))) := (hk.block _ (by omega)).trans V_arg_w5.out
    have O_QY_w6 : Hid (Own (w5.alloc (.cells #[.slice (some ⟨qY, 0, none⟩) n n] 29)) w4.heap.size (some ⟨qY, 0, none⟩) n n zs) := O_QY_w5.out.below hk
    have V_vY_w6 : Hid ((w5.alloc (.cells #[.slice (some ⟨qY, 0, none⟩) n n] 29)).heap[w5.heap.size]? = some (.cells #[.slice (some ⟨qY, 0, none⟩) n n] 29 (0, 0))) := heap_alloc_new _ _
    have Bw6 : Hid (Below w.heap.size w (w5.alloc (.cells #[.slice (some ⟨qY, 0, none⟩) n n] 29))) := Bw5.out.alloc Bw5.out.size _
    have zw6 : w5.heap.size + 1 ≤ (w5.alloc (.cells #[.slice (some ⟨qY, 0, none⟩) n n] 29)).heap.size := Nat.le_of_eq (sz1 _ _).symm
    have yw6 : (w5.alloc (.cells #[.slice (some ⟨qY, 0, none⟩) n n] 29)).heap.size ≤ w5.heap.size + 1 := Nat.le_of_eq (sz1 _ _)
    clear V_arg_w5 O_QY_w5 Bw5 hk
    go_wp2_with fail
    generalize w5.alloc (.cells #[.slice (some ⟨qY, 0, none⟩) n n] 29) = w6 at *
    refine (HI.out _ qY O_QY_w6.out.rd).mono ?_
    rintro e w7 ⟨rfl, hb⟩
    have zw7 := hb.size
    have hk : Kp (fun _ => False) w6 w7 := Kp.of_below hb
    have V_arg_w7 : Hid (w7.heap[w.heap.size]? = some (.cells #[.slice A n c] 26 (0, 0))) := (hk.block _ (by omega) (fun h => h)).trans V_arg_w6.out
    have V_vY_w7 : Hid (w7.heap[w5.heap.size]? = some (.cells #[.slice (some ⟨qY, 0, none⟩) n n] 29 (0, 0))) := (hk.block _ (by omega) (fun h => h)).trans V_vY_w6.out
    have O_QY_w7 : Hid (Own w7 w4.heap.size (some ⟨qY, 0, none⟩) n n zs) := O_QY_w6.out.kp hk (fun g hg h => h)
    have Bw7 : Hid (Below w.heap.size w w7) := Bw6.out.trans (hb.mono Bw6.out.size)
    clear V_arg_w6 V_vY_w6 O_QY_w6 Bw6
    clear hb hk
    go_wp2_with fail
    have x0r8 : w7.cell? ⟨w5.heap.size, 0, none⟩ = some (.slice (some ⟨qY, 0, none⟩) n n) ∧ w7.cell? ⟨w.heap.size, 0, none⟩ = some (.slice A n c) := ⟨blkc V_vY_w7.out 0 rfl, blkc V_arg_w7.out 0 rfl⟩
    have x0dr8 : w7.drew.cell? ⟨w5.heap.size, 0, none⟩ = some (.slice (some ⟨qY, 0, none⟩) n n) ∧ w7.drew.cell? ⟨w.heap.size, 0, none⟩ = some (.slice A n c) := x0r8
    have D0r8 : Hid (Below w7.heap.size w7 w7.drew) := (Below.refl _ _).drew
    have xSr8 : Hid (∀ w', Below w7.heap.size w7 w' → w'.cell? ⟨w5.heap.size, 0, none⟩ = some (.slice (some ⟨qY, 0, none⟩) n n) ∧ w'.cell? ⟨w.heap.size, 0, none⟩ = some (.slice A n c)) := fun w' hb => ⟨later_at0 hb x0r8.1, later_at0 hb x0r8.2⟩
    go_cut [30] (fun s0 wx => s0 = .bool false ∧ Hid (Below w7.heap.size w7 wx))
    case first =>
      have CT : Hid (∀ W', Below w7.heap.size w7 W' → Calls Try.prog 9 #[.agg #[.slice A n c]] W' fun e w' => ∃ g, e = .returned (.agg #[.slice (some ⟨g, 0, none⟩) n n]) ∧ Hid (Rd w' w'.heap.size (some ⟨g, 0, none⟩) n zs) ∧ Hid (Below w7.heap.size w7 w') ∧ (w'.cell? ⟨w5.heap.size, 0, none⟩ = some (.slice (some ⟨qY, 0, none⟩) n n) ∧ w'.cell? ⟨w.heap.size, 0, none⟩ = some (.slice A n c))) := fun W' hb => (HT.out W' (Bw7.out.trans (hb.mono Bw7.out.size))).mono fun e w' ⟨g, he, ho, hb2⟩ => ⟨g, he, ho.rd, hb.trans (hb2.mono hb.size), xSr8.out w' (hb.trans (hb2.mono hb.size))⟩
      have CE : Hid (∀ W' g, Below w7.heap.size w7 W' → Rd W' W'.heap.size (some ⟨g, 0, none⟩) n zs → Calls Try.prog 11 #[.agg #[.slice (some ⟨qY, 0, none⟩) n n], .agg #[.slice (some ⟨g, 0, none⟩) n n]] W' fun e w' => e = .returned (.bool true) ∧ Hid (Below w7.heap.size w7 w') ∧ (w'.cell? ⟨w5.heap.size, 0, none⟩ = some (.slice (some ⟨qY, 0, none⟩) n n) ∧ w'.cell? ⟨w.heap.size, 0, none⟩ = some (.slice A n c))) := fun W' g hb hr => (U.eqMem_any _ _ n n n n _ _ zs zs W' (O_QY_w7.out.rd.below hb) hr hb.size (Nat.le_refl _) hn hn).mono fun e w' ⟨he, hb2⟩ => ⟨by rw [he]; simp, hb.trans (hb2.mono hb.size), xSr8.out w' (hb.trans (hb2.mono hb.size))⟩
      go_region_held3 (fun w' => w'.cell? ⟨w5.heap.size, 0, none⟩ = some (.slice (some ⟨qY, 0, none⟩) n n) ∧ w'.cell? ⟨w.heap.size, 0, none⟩ = some (.slice A n c))
        (first | exact x0r8 | exact x0dr8 | exact xt | exact xe)
        (first | (go_at_call 9; (with_reducible refine (CT.out _ D0r8.out).mono ?_); rintro e wt ⟨gq, rfl, RT, BT, xt⟩)
               | (go_at_call 11; (with_reducible refine (CE.out _ _ BT.out RT.out).mono ?_); rintro e we ⟨rfl, BE, xe⟩))
      all_goals (go_wp2_with fail; go_meet; exact ⟨rfl, BE⟩)
    case rest =>
      obtain ⟨rfl, hb0⟩ := hcut
      generalize wc = w9 at *
      have hb := hb0.out
      clear hb0 x0r8 x0dr8 D0r8 xSr8
      have zw9 := hb.size
      have hk : Kp (fun _ => False) w7 w9 := Kp.of_below hb
      have V_arg_w9 : Hid (w9.heap[w.heap.size]? = some (.cells #[.slice A n c] 26 (0, 0))) := (hk.block _ (by omega) (fun h => h)).trans V_arg_w7.out
      have V_vY_w9 : Hid (w9.heap[w5.heap.size]? = some (.cells #[.slice (some ⟨qY, 0, none⟩) n n] 29 (0, 0))) := (hk.block _ (by omega) (fun h => h)).trans V_vY_w7.out
      have O_QY_w9 : Hid (Own w9 w4.heap.size (some ⟨qY, 0, none⟩) n n zs) := O_QY_w7.out.kp hk (fun g hg h => h)
      have Bw9 : Hid (Below w.heap.size w w9) := Bw7.out.trans (hb.mono Bw7.out.size)
      clear V_arg_w7 V_vY_w7 O_QY_w7 Bw7
      clear hb hk
      go_wp2
      go_ret
      exact ⟨rfl, Bw9.out⟩
  · have HZ := Lib.hid (fun W => U.szMem_any A n c 1048576 W hm (by omega) (by omega))
    have hq : (1048576 : Int) - (n : Int) < 0 := by omega
    simp only [if_pos hq] at HZ
    have HB0 := Lib.hid (bel1 w (.cells #[.slice A n c] 26))
    clear h hf
    go_enter Try.func4, Try.ntmps4
    go_wp2_with fail
    refine (HZ.out _).mono ?_
    rintro e w1 ⟨rfl, hb⟩
    have B1 := Lib.hid (HB0.out.trans (hb.mono HB0.out.size))
    clear hb
    go_wp2
    go_ret
    exact ⟨rfl, B1.out⟩

set_option maxRecDepth 100000 in
theorem fnExactFits_lifted (os : Os) (started : os.Started) (H : Type) (enc : TypeId × Value → H) :
    ReturnsInHanded {} Try.checked os 4 .any (Rows.fnExactFitsSpec.pre6 enc Try.prog Try.f4 Rows.fnExactFitsRow.domain false) (Rows.fnExactFitsSpec.post enc Try.prog Try.f4 false true false false) := by
  refine returnsInHanded_of_change (C := Try.checked) own started (by kernel_rfl) Try.func4
    (ChangeSpec.witness6 (enc := enc) (C := Try.checked) false ⟨#[], #[.agg #[.slice none 0 0], .int .i64 0], []⟩ 8 (by kernel_rfl) (by kernel_rfl) (by kernel_rfl) (by kernel_rfl)) ?_
  intro W base args ds gs before hval0 hW hcnd _
  have hval : ∀ (j : Nat) t v, Try.f4.params[j]? = some t → args[j]? = some v → Value.okWide Try.prog W .any base t v := hval0
  have hW' := hW
  obtain ⟨p, q, hA0, hV, rfl, hfz, hnd⟩ := hW
  have hA : DataW.TrodAll enc Try.prog W 0 (fun _ => true) true Try.f4.params.toList args.toList ds p := hA0
  rw [Try.params4] at hA hval
  obtain ⟨v0, vs0, d0, ds0, p0, q0, hargs, rfl, rfl, h0, r0⟩ := trodAll_cons hA
  obtain ⟨v1, vs1, d1, ds1, p1, q1, rfl, rfl, rfl, h1, r1⟩ := trodAll_cons r0
  obtain ⟨rfl, rfl, rfl⟩ := trodAll_nil r1
  obtain rfl : args = #[v0, v1] := by cases args; simp_all
  obtain ⟨rfl, rfl⟩ := trodVars_none hV
  have k0 := h0
  have lt0 : ∀ x ∈ p0, x.block < W.heap.size := by obtain ⟨m, hm⟩ := k0; exact DataW.trod_lt m _ _ _ hm
  obtain ⟨A0, n0, c0, z0, rfl, m0, rd0, f0⟩ := open_mem (hval 0 26 v0 rfl rfl) h0
  obtain ⟨a1, rfl, rfl, rfl, w1⟩ := open_int Try.underlying3 (hval 1 3 v1 rfl rfl) h1
  clear hA0 hval0
  refine (fnExactFits_walk A0 n0 c0 z0 a1 W rd0 m0 f0 w1).mono fun e W' ⟨he, bel⟩ => ?_
  subst he
  exact ⟨_, rfl, _, _, _, [], _, [], hW', trodAll_mk1 (shut_bool Try.underlying4 _), (trodAll_cons_mk (Below.trod laidOut (by kernel_rfl) (of_decide_eq_true (by kernel_rfl)) k0 bel lt0) (trodAll_cons_mk (shut_int Try.underlying3 w1) (trodAll_mk0))), rfl, bel.frame _, fun h => by cases h⟩

/-- The given statement: for every input the law returns true, and its arguments read as before. -/
theorem fnExactFits_holds : Rows.FnExactFitsSaid :=
  OpenClaim.holds_of_wide 4 Try.f4 rfl rfl rfl rfl rfl rfl rfl ⟨rfl, rfl, rfl, rfl, rfl⟩ rfl rfl rfl rfl rfl (by kernel_rfl) Try.func4 (by kernel_rfl)
    (of_decide_eq_true (by kernel_rfl)) (by unfold Func.isWrapper; first | (rw [if_pos (by decide +kernel)]; kernel_rfl) | (rw [if_neg (by decide +kernel)]; exact ⟨rfl, rfl⟩))
    (fun os started H enc _ => fnExactFits_lifted os started H enc)
#print axioms fnExactFits_holds
end Go.Proofs.Ytefcaeldkdbjdaa
