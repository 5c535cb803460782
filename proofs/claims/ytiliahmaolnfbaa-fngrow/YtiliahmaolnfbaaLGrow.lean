/- FnGrow: growing appends zero words and keeps the others. No condition. -/
import Derived.Test.YtiliahmaolnfbaaSame
import Derived.Test.YtiliahmaolnfbaaDrawGrow
import Derived.Test.YtiliahmaolnfbaaGrow
namespace Go.Proofs.Ytiliahmaolnfbaa
open Go.ChangeShapes Go.WideShapes Go.ChangeAt Go.RowKit
set_option linter.unusedVariables false

theorem sGrowN (A : Option Addr) (n c B m N : Nat) (zs out : List Int) (w : World) (h : Rd w B A n zs) (hB : B ≤ w.heap.size) (hn : N ≤ 64) (hN : n + m = N) (ho : zs ++ List.replicate m 0 = out) :
    Calls Try.prog 29 #[.agg #[.slice A n c], .int .i64 m] w fun e w' => ∃ A' c', e = .returned (.tuple #[.agg #[.slice A' N c'], .bool true]) ∧ Own w' w.heap.size A' N c' out ∧ Below w.heap.size w w' := by
  subst hN ho
  exact sGrow A n c B m zs w h hB hn
theorem iGrowN (A : Option Addr) (n c B m N : Nat) (zs out : List Int) (w : World) (h : Rd w B A n zs) (hB : B ≤ w.heap.size) (hn : N ≤ 64) (hN : n + m = N) (ho : zs ++ List.replicate m 0 = out) :
    Calls Try.prog 30 #[.agg #[.slice A n c], .int .i64 m] w fun e w' => ∃ A' c', e = .returned (.tuple #[.agg #[.slice A' N c'], .bool true]) ∧ Own w' w.heap.size A' N c' out ∧ Below w.heap.size w w' := by
  subst hN ho
  exact iGrow A n c B m zs w h hB hn
theorem grown_old {zs out : List Int} {m j : Nat} (ho : zs ++ List.replicate m 0 = out) (hj : j < zs.length) : out[j]?.getD 0 = zs[j]?.getD 0 := by
  subst ho; rw [List.getElem?_append_left hj]
theorem grown_new {zs out : List Int} {m j : Nat} (ho : zs ++ List.replicate m 0 = out) (hj : ¬ j < zs.length) : out[j]?.getD 0 = 0 := by
  subst ho
  rw [List.getElem?_append_right (by omega), List.getElem?_replicate]
  split <;> rfl

set_option maxRecDepth 100000 in
set_option maxHeartbeats 8000000 in
theorem fnGrow_small (A : Option Addr) (n c : Nat) (bs : List Int) (w : World) (h : RdK .u8 w w.heap.size A n bs) (hf : ∀ z ∈ bs, 0 ≤ z ∧ z < 256) (hn : n ≤ 1048576) :
    Calls Try.prog 5 #[.slice A n c] w fun e w' => e = .returned (.bool true) ∧ Below w.heap.size w w' := by
  have H := Lib.hid h
  have HF := Lib.hid hf
  clear h hf
  have nb : decide (1048576 < (n : Int)) = false := by simp; omega
  go_enter Try.func5, Try.ntmps5
  go_wp2_with fail
  refine (big_any A n c w).mono ?_
  rintro e w' ⟨rfl, rfl⟩
  go_wp2_with fail
  refine (drawGrow A n c bs _ H.out HF.out hn).mono ?_
  rintro e w1 ⟨Am, m, cm, ws, kk, rfl, hm, hws, hkw, ho, hb1⟩
  have z1 : w.heap.size ≤ w1.heap.size := hb1.size
  have BB1 := Lib.hid (Below.trans (Below.refl w.heap.size w) (hb1.mono (by first | omega | (simp; done) | (simp; omega))))
  clear hb1 
  have Oa1 := Lib.hid ho
  clear ho
  clear hws hkw
  by_cases hw : CanG m kk
  · obtain ⟨h1, h2, h3⟩ := hw
    obtain ⟨k, rfl⟩ := Int.eq_ofNat_of_zero_le h2
    obtain ⟨N, hN⟩ : ∃ N, m + k = N := ⟨_, rfl⟩
    obtain ⟨out, hout⟩ : ∃ out, ws ++ List.replicate k 0 = out := ⟨_, rfl⟩
    have HO := Lib.hid hout
    have n64 : N ≤ 64 := by omega
    have k64 : k ≤ 64 := by omega
    have bN : ((N : Int) == (m : Int) + (k : Int)) = true := by simp; omega
    have HN := Lib.hid hN
    have hmN : m ≤ N := by omega
    clear h2 h3 hout hN
    go_wp2_with fail
    refine (sGrowN Am m cm _ k N ws out _ (Oa1.out.alloc (.cells #[.slice Am m cm] 26)).rd (Nat.le_refl _) n64 HN.out HO.out).mono ?_
    rintro e w2 ⟨As, cs, rfl, hos, hb2⟩
    have a2 : w2.cell? ⟨w1.heap.size, 0, none⟩ = some (.slice Am m cm) := later hb2 (by simp)
    have z2 : w1.heap.size + 1 ≤ w2.heap.size := by have := hb2.size; simp at this; omega
    have la2 : w1.heap.size < w2.heap.size := by have := World.block_lt_of_cell? _ _ a2; simpa using this
    have BB2 := Lib.hid (Below.trans ((Below.alloc (BB1.out) (by first | omega | (simp; omega)) _)) (hb2.mono (by first | omega | (simp; done) | (simp; omega))))
    have Oa2 := Lib.hid (Own.below (Oa1.out.alloc _) hb2)
    clear hb2 BB1 Oa1
    have Os2 := Lib.hid hos
    clear hos
    go_wp2_with fail
    refine (iGrowN Am m cm _ k N ws out _ (Oa2.out.alloc (.cells #[.slice As N cs] 26)).rd (Nat.le_refl _) n64 HN.out HO.out).mono ?_
    rintro e w3 ⟨Ag, cg, rfl, hog, hb3⟩
    have a3 := later hb3 (older a2 _)
    have s3 : w3.cell? ⟨w2.heap.size, 0, none⟩ = some (.slice As N cs) := later hb3 (by simp)
    have z3 : w2.heap.size + 1 ≤ w3.heap.size := by have := hb3.size; simp at this; omega
    have la3 : w1.heap.size < w3.heap.size := by have := World.block_lt_of_cell? _ _ a3; simpa using this
    have ls3 : w2.heap.size < w3.heap.size := by have := World.block_lt_of_cell? _ _ s3; simpa using this
    have BB3 := Lib.hid (Below.trans ((Below.alloc (BB2.out) (by first | omega | (simp; omega)) _)) (hb3.mono (by first | omega | (simp; done) | (simp; omega))))
    have Oa3 := Lib.hid (Own.below (Oa2.out.alloc _) hb3)
    have Os3 := Lib.hid (Own.below (Os2.out.alloc _) hb3)
    clear hb3 a2 la2 BB2 Oa2 Os2
    have Og3 := Lib.hid hog
    clear hog
    go_wp2
    obtain ⟨w4, hW⟩ : ∃ W, W = w3.alloc (.cells #[.slice Ag N cg] 26) := ⟨_, rfl⟩
    rw [← hW]
    have hb4 : Below (w3.alloc (.cells #[.slice Ag N cg] 26)).heap.size (w3.alloc (.cells #[.slice Ag N cg] 26)) w4 := by rw [hW]; exact Below.refl _ _
    clear hW
    have a4 := later hb4 (older a3 _)
    have s4 := later hb4 (older s3 _)
    have g4 : w4.cell? ⟨w3.heap.size, 0, none⟩ = some (.slice Ag N cg) := later hb4 (by simp)
    have z4 : w3.heap.size + 1 ≤ w4.heap.size := by have := hb4.size; simp at this; omega
    have la4 : w1.heap.size < w4.heap.size := by have := World.block_lt_of_cell? _ _ a4; simpa using this
    have ls4 : w2.heap.size < w4.heap.size := by have := World.block_lt_of_cell? _ _ s4; simpa using this
    have lg4 : w3.heap.size < w4.heap.size := by have := World.block_lt_of_cell? _ _ g4; simpa using this
    have BB4 := Lib.hid (Below.trans ((Below.alloc (BB3.out) (by first | omega | (simp; omega)) _)) (hb4.mono (by first | omega | (simp; done) | (simp; omega))))
    have Oa4 := Lib.hid (Own.below (Oa3.out.alloc _) hb4)
    have Os4 := Lib.hid (Own.below (Os3.out.alloc _) hb4)
    have Og4 := Lib.hid (Own.below (Og3.out.alloc _) hb4)
    clear hb4 a3 la3 s3 ls3 BB3 Oa3 Os3 Og3
    go_loopw [9] (fun i wr => ∃ j : Nat, j ≤ N ∧ i = .int .i64 j ∧ (∃ q, wr = w4.drewN q)) (fun i _ => N - (intOf i).toNat)
    case atStart => exact ⟨0, Nat.zero_le _, rfl, ⟨0, rfl⟩⟩
    case round =>
      obtain ⟨j, hj, rfl, ⟨dq, rfl⟩⟩ := hrel
      by_cases hlt : j < N
      · obtain ⟨gg, hAg, _, _⟩ := Og4.out.form (by omega)
        have cg_ := Og4.out.cell hAg hlt
        have fg_ : gg < w4.heap.size := (World.ownsRow.lt Og4.out gg (by rw [hAg]; rfl)).2
        subst hAg
        by_cases e : j < m
        · have b1 : decide ((j : Int) < (m : Int)) = true := by simp; omega
          have b3 : decide ((m : Int) ≤ (j : Int)) = false := by simp; omega
          have b4 : ¬ m ≤ j := by omega
          have b5 : ¬ (m : Int) ≤ (j : Int) := by omega
          have b6 : decide (m ≤ j) = false := by simp; omega
          have b7 : (j : Int) < (m : Int) := by omega
          obtain ⟨ga, hAa, _, _⟩ := Oa4.out.form (by omega)
          have ca_ := Oa4.out.cell hAa e
          have fa_ : ga < w4.heap.size := (World.ownsRow.lt Oa4.out ga (by rw [hAa]; rfl)).2
          rw [grown_old HO.out (by rw [Oa4.out.len]; exact e)] at cg_
          subst hAa
          generalize ws[j]?.getD 0 = u at ca_ cg_
          have b2 : (u != u) = false := by simp
          go_wp2
          go_quiet (fail)
          go_wp2
          go_roundw
          case rel => exact ⟨j + 1, by omega, by go_num, ⟨_, rfl⟩⟩
          case measure => simp [intOf]; omega
        · have b1 : decide ((j : Int) < (m : Int)) = false := by simp; omega
          have b3 : decide ((m : Int) ≤ (j : Int)) = true := by simp; omega
          have b4 : m ≤ j := by omega
          have b5 : (m : Int) ≤ (j : Int) := by omega
          have b6 : decide (m ≤ j) = true := by simp; omega
          have b7 : ¬ (j : Int) < (m : Int) := by omega
          rw [grown_new HO.out (by rw [Oa4.out.len]; exact e)] at cg_
          go_wp2
          go_quiet (fail)
          go_wp2
          go_roundw
          case rel => exact ⟨j + 1, by omega, by go_num, ⟨_, rfl⟩⟩
          case measure => simp [intOf]; omega
      · obtain ⟨w5, hW⟩ : ∃ W, W = w4.drewN dq := ⟨_, rfl⟩
        rw [← hW]
        have hb5 : Below w4.heap.size w4 w5 := by rw [hW]; exact below_drewN (Below.refl _ _) _
        clear hW
        have a5 := later hb5 a4
        have s5 := later hb5 s4
        have g5 := later hb5 g4
        have z5 : w4.heap.size ≤ w5.heap.size := hb5.size
        have la5 : w1.heap.size < w5.heap.size := by have := World.block_lt_of_cell? _ _ a5; simpa using this
        have ls5 : w2.heap.size < w5.heap.size := by have := World.block_lt_of_cell? _ _ s5; simpa using this
        have lg5 : w3.heap.size < w5.heap.size := by have := World.block_lt_of_cell? _ _ g5; simpa using this
        have BB5 := Lib.hid (Below.trans (BB4.out) (hb5.mono (by first | omega | (simp; done) | (simp; omega))))
        have Oa5 := Lib.hid (Own.below Oa4.out hb5)
        have Os5 := Lib.hid (Own.below Os4.out hb5)
        have Og5 := Lib.hid (Own.below Og4.out hb5)
        clear hb5 a4 la4 s4 ls4 g4 lg4 BB4 Oa4 Os4 Og4
        go_wp2_with fail
        have qq := memOkI_any Ag N cg w5
        rw [decide_eq_true n64] at qq
        have QQ := Lib.hid qq
        clear qq
        refine (QQ.out).mono ?_
        rintro e w6 ⟨rfl, hb6⟩
        have a6 := later hb6 a5
        have s6 := later hb6 s5
        have g6 := later hb6 g5
        have z6 : w5.heap.size ≤ w6.heap.size := hb6.size
        have la6 : w1.heap.size < w6.heap.size := by have := World.block_lt_of_cell? _ _ a6; simpa using this
        have ls6 : w2.heap.size < w6.heap.size := by have := World.block_lt_of_cell? _ _ s6; simpa using this
        have lg6 : w3.heap.size < w6.heap.size := by have := World.block_lt_of_cell? _ _ g6; simpa using this
        have BB6 := Lib.hid (Below.trans (BB5.out) (hb6.mono (by first | omega | (simp; done) | (simp; omega))))
        have Oa6 := Lib.hid (Own.below Oa5.out hb6)
        have Os6 := Lib.hid (Own.below Os5.out hb6)
        have Og6 := Lib.hid (Own.below Og5.out hb6)
        clear hb6 a5 la5 s5 ls5 g5 lg5 BB5 Oa5 Os5 Og5
        go_wp2
        go_ret
        exact ⟨rfl, BB6.out⟩
  · skip
    go_wp2_with fail
    refine (sGrow_no Am m cm kk _ hw (by omega)).mono ?_
    rintro e w2 ⟨rfl, hb2⟩
    have a2 : w2.cell? ⟨w1.heap.size, 0, none⟩ = some (.slice Am m cm) := later hb2 (by simp)
    have z2 : w1.heap.size + 1 ≤ w2.heap.size := by have := hb2.size; simp at this; omega
    have la2 : w1.heap.size < w2.heap.size := by have := World.block_lt_of_cell? _ _ a2; simpa using this
    have BB2 := Lib.hid (Below.trans ((Below.alloc (BB1.out) (by first | omega | (simp; omega)) _)) (hb2.mono (by first | omega | (simp; done) | (simp; omega))))
    have Oa2 := Lib.hid (Own.below (Oa1.out.alloc _) hb2)
    clear hb2 BB1 Oa1
    go_wp2_with fail
    refine (iGrow_no Am m cm kk _ hw (by omega)).mono ?_
    rintro e w3 ⟨rfl, hb3⟩
    have a3 := later hb3 (older a2 _)
    have s3 : w3.cell? ⟨w2.heap.size, 0, none⟩ = some (.slice none 0 0) := later hb3 (by simp)
    have z3 : w2.heap.size + 1 ≤ w3.heap.size := by have := hb3.size; simp at this; omega
    have la3 : w1.heap.size < w3.heap.size := by have := World.block_lt_of_cell? _ _ a3; simpa using this
    have ls3 : w2.heap.size < w3.heap.size := by have := World.block_lt_of_cell? _ _ s3; simpa using this
    have BB3 := Lib.hid (Below.trans ((Below.alloc (BB2.out) (by first | omega | (simp; omega)) _)) (hb3.mono (by first | omega | (simp; done) | (simp; omega))))
    have Oa3 := Lib.hid (Own.below (Oa2.out.alloc _) hb3)
    clear hb3 a2 la2 BB2 Oa2
    go_wp2
    go_ret
    exact ⟨rfl, Below.alloc BB3.out (by omega) _⟩

set_option maxRecDepth 100000 in
set_option maxHeartbeats 400000 in
theorem fnGrow_walk (A : Option Addr) (n c : Nat) (bs : List Int) (w : World) (h : RdK .u8 w w.heap.size A n bs) (hm : n ≤ maxLen) (hf : ∀ z ∈ bs, 0 ≤ z ∧ z < 256) :
    Calls Try.prog 5 #[.slice A n c] w fun e w' => e = .returned (.bool true) ∧ Below w.heap.size w w' := by
  by_cases hn : n ≤ 1048576
  · exact fnGrow_small A n c bs w h hf hn
  · have nb : decide (1048576 < (n : Int)) = true := by simp; omega
    clear h hf
    go_enter Try.func5, Try.ntmps5
    go_wp2_with fail
    refine (big_any A n c w).mono ?_
    rintro e w' ⟨rfl, rfl⟩
    go_wp2
    go_ret
    exact ⟨rfl, Below.refl _ _⟩

set_option maxRecDepth 100000 in
theorem fnGrow_lifted (os : Os) (started : os.Started) (H : Type) (enc : TypeId × Value → H) :
    ReturnsInHanded {} Try.checked os 5 .any (Rows.fnGrowSpec.pre6 enc Try.prog Try.f5 Rows.fnGrowRow.domain false) (Rows.fnGrowSpec.post enc Try.prog Try.f5 false true false false) := by
  refine returnsInHanded_of_change (C := Try.checked) own started (by kernel_rfl) Try.func5
    (ChangeSpec.witness6 (enc := enc) (C := Try.checked) false ⟨#[], #[.slice none 0 0], []⟩ 8 (by kernel_rfl) (by kernel_rfl) (by kernel_rfl) (by kernel_rfl)) ?_
  intro W base args ds gs before hval0 hW hcnd _
  have hval : ∀ (j : Nat) t v, Try.f5.params[j]? = some t → args[j]? = some v → Value.okWide Try.prog W .any base t v := hval0
  have hW' := hW
  obtain ⟨p, q, hA0, hV, rfl, hfz, hnd⟩ := hW
  have hA : DataW.TrodAll enc Try.prog W 0 (fun _ => true) true Try.f5.params.toList args.toList ds p := hA0
  rw [Try.params5] at hA hval
  obtain ⟨v0, vs0, d0, ds0, p0, q0, hargs, rfl, rfl, h0, r0⟩ := trodAll_cons hA
  obtain ⟨rfl, rfl, rfl⟩ := trodAll_nil r0
  obtain rfl : args = #[v0] := by cases args; simp_all
  obtain ⟨rfl, rfl⟩ := trodVars_none hV
  have k0 := h0
  have lt0 : ∀ x ∈ p0, x.block < W.heap.size := by obtain ⟨m, hm⟩ := k0; exact DataW.trod_lt m _ _ _ hm
  obtain ⟨A0, n0, c0, z0, rfl, m0, rd0, f0⟩ := open_bytes (hval 0 22 v0 rfl rfl) h0
  clear hA0 hval0
  refine (fnGrow_walk A0 n0 c0 z0 W rd0 m0 f0).mono fun e W' ⟨he, bel⟩ => ?_
  subst he
  exact ⟨_, rfl, _, _, _, [], _, [], hW', trodAll_mk1 (shut_bool Try.underlying4 _), (trodAll_cons_mk (Below.trod laidOut (by kernel_rfl) (of_decide_eq_true (by kernel_rfl)) k0 bel lt0) (trodAll_mk0)), rfl, bel.frame _, fun h => by cases h⟩

/-- The given statement: for every input the law returns true, and its arguments read as before. -/
theorem fnGrow_holds : Rows.FnGrowSaid :=
  OpenClaim.holds_of_wide 5 Try.f5 rfl rfl rfl rfl rfl rfl rfl ⟨rfl, rfl, rfl, rfl, rfl⟩ rfl rfl rfl rfl rfl (by kernel_rfl) Try.func5 (by kernel_rfl)
    (of_decide_eq_true (by kernel_rfl)) (by unfold Func.isWrapper; first | (rw [if_pos (by decide +kernel)]; kernel_rfl) | (rw [if_neg (by decide +kernel)]; exact ⟨rfl, rfl⟩))
    (fun os started H enc _ => fnGrow_lifted os started H enc)
#print axioms fnGrow_holds
end Go.Proofs.Ytiliahmaolnfbaa
