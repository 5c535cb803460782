/- FnStore: a stored word is loaded, all other words are unchanged. No condition. -/
import Derived.Test.YtiliahmaolnfbaaSame
import Derived.Test.YtiliahmaolnfbaaSpec
namespace Go.Proofs.Ytiliahmaolnfbaa
open Go.ChangeShapes Go.WideShapes Go.ChangeAt Go.RowKit
set_option linter.unusedVariables false

theorem set_at {ws : List Int} {k : Nat} {x : Int} (h : k < ws.length) : (ws.set k x)[k]?.getD 0 = x := by simp [h]
theorem set_off {ws : List Int} {k j : Nat} {x : Int} (h : ¬ j = k) : (ws.set k x)[j]?.getD 0 = ws[j]?.getD 0 := by
  rw [List.getElem?_set_ne (fun e => h e.symm)]

/-- What the loop knows of its world: the two memories, and that nothing old has turned. -/
def StoreInv (w : World) (ba bg : Nat) (Va Vg : Value) (A1 A5 : Option Addr) (m c1 c5 b1 b5 : Nat) (ws out : List Int) (wr : World) : Prop :=
  wr.cell? ⟨ba, 0, none⟩ = some Va ∧ wr.cell? ⟨bg, 0, none⟩ = some Vg ∧ Own wr b1 A1 m c1 ws ∧ Own wr b5 A5 m c5 out ∧ Below w.heap.size w wr
theorem StoreInv.below {w wr w' : World} {ba bg : Nat} {Va Vg : Value} {A1 A5 : Option Addr} {m c1 c5 b1 b5 : Nat} {ws out : List Int} (h : StoreInv w ba bg Va Vg A1 A5 m c1 c5 b1 b5 ws out wr) (hb : Below wr.heap.size wr w') : StoreInv w ba bg Va Vg A1 A5 m c1 c5 b1 b5 ws out w' :=
  ⟨later hb h.1, later hb h.2.1, h.2.2.1.below hb, h.2.2.2.1.below hb, h.2.2.2.2.trans (hb.mono h.2.2.2.2.size)⟩

set_option maxRecDepth 100000 in
set_option maxHeartbeats 8000000 in
theorem fnStore_small (A : Option Addr) (n c : Nat) (bs : List Int) (w : World) (h : RdK .u8 w w.heap.size A n bs) (hf : ∀ z ∈ bs, 0 ≤ z ∧ z < 256) (hn : n ≤ 1048576) :
    Calls Try.prog 6 #[.slice A n c] w fun e w' => e = .returned (.bool true) ∧ Below w.heap.size w w' := by
  have H := Lib.hid h
  have HF := Lib.hid hf
  clear h hf
  have nb : decide (1048576 < (n : Int)) = false := by simp; omega
  go_enter Try.func6, Try.ntmps6
  go_wp2_with fail
  refine (big_any A n c w).mono ?_
  rintro e w' ⟨rfl, rfl⟩
  go_wp2_with fail
  refine (drawStore A n c bs _ H.out HF.out hn).mono ?_
  rintro e w1 ⟨Am, m, cm, ws, at_, x, rfl, hm, hws, hat, hx0, hx1, ho, hb1⟩
  have z1 : w.heap.size ≤ w1.heap.size := hb1.size
  have BB1 := Lib.hid (Below.trans (Below.refl w.heap.size w) (hb1.mono (by first | omega | (simp; done) | (simp; omega))))
  clear hb1 
  have Oa1 := Lib.hid ho
  clear ho
  have HAT := Lib.hid hat
  have HWS := Lib.hid hws
  clear hat hws
  by_cases hw : HasW m at_
  · obtain ⟨h1, h2, h3⟩ := hw
    obtain ⟨k, rfl⟩ := Int.eq_ofNat_of_zero_le h2
    have hk : k < m := by omega
    clear h2 h3
    go_wp2_with fail
    refine (sStore Am m cm _ k x ws _ (Oa1.out.alloc (.cells #[.slice Am m cm] 26)).rd (Nat.le_refl _) h1 hk).mono ?_
    rintro e w2 ⟨As, cs, rfl, hos, hb2⟩
    have a2 : w2.cell? ⟨w1.heap.size, 0, none⟩ = some (.slice Am m cm) := later hb2 (by simp)
    have z2 : w1.heap.size + 1 ≤ w2.heap.size := by have := hb2.size; simp at this; omega
    have la2 : w1.heap.size < w2.heap.size := by have := World.block_lt_of_cell? _ _ a2; simpa using this
    have BB2 := Lib.hid (Below.trans ((Below.alloc (BB1.out) (by first | omega | (simp; omega)) _)) (hb2.mono (by first | omega | (simp; done) | (simp; omega))))
    have Oa2 := Lib.hid (Own.below (Oa1.out.alloc _) hb2)
    clear hb2 BB1 Oa1
    have Os2 := Lib.hid hos
    clear hos
    go_wp2_with fail
    refine (iStore Am m cm _ k x ws _ (Oa2.out.alloc (.cells #[.slice As m cs] 26)).rd (Nat.le_refl _) h1 hk).mono ?_
    rintro e w3 ⟨Ag, cg, rfl, hog, hb3⟩
    have a3 := later hb3 (older a2 _)
    have s3 : w3.cell? ⟨w2.heap.size, 0, none⟩ = some (.slice As m cs) := later hb3 (by simp)
    have z3 : w2.heap.size + 1 ≤ w3.heap.size := by have := hb3.size; simp at this; omega
    have la3 : w1.heap.size < w3.heap.size := by have := World.block_lt_of_cell? _ _ a3; simpa using this
    have ls3 : w2.heap.size < w3.heap.size := by have := World.block_lt_of_cell? _ _ s3; simpa using this
    have BB3 := Lib.hid (Below.trans ((Below.alloc (BB2.out) (by first | omega | (simp; omega)) _)) (hb3.mono (by first | omega | (simp; done) | (simp; omega))))
    have Oa3 := Lib.hid (Own.below (Oa2.out.alloc _) hb3)
    have Os3 := Lib.hid (Own.below (Os2.out.alloc _) hb3)
    clear hb3 a2 la2 BB2 Oa2 Os2
    have Og3 := Lib.hid hog
    clear hog
    go_wp2_with fail
    have qq := sameMem_any Ag As m m cg cs _ _ (ws.set k x) (ws.set k x) _ (Og3.out.alloc (.cells #[.slice Ag m cg] 26)).rd (Os3.out.alloc (.cells #[.slice Ag m cg] 26)).rd (Nat.le_refl _) (Nat.le_refl _) (by omega) (by omega)
    rw [decide_eq_true rfl] at qq
    have QQ := Lib.hid qq
    clear qq
    refine (QQ.out).mono ?_
    rintro e w4 ⟨rfl, hb4⟩
    have a4 := later hb4 (older a3 _)
    have s4 := later hb4 (older s3 _)
    have g4 : w4.cell? ⟨w3.heap.size, 0, none⟩ = some (.slice Ag m cg) := later hb4 (by simp)
    have z4 : w3.heap.size + 1 ≤ w4.heap.size := by have := hb4.size; simp at this; omega
    have la4 : w1.heap.size < w4.heap.size := by have := World.block_lt_of_cell? _ _ a4; simpa using this
    have ls4 : w2.heap.size < w4.heap.size := by have := World.block_lt_of_cell? _ _ s4; simpa using this
    have lg4 : w3.heap.size < w4.heap.size := by have := World.block_lt_of_cell? _ _ g4; simpa using this
    have BB4 := Lib.hid (Below.trans ((Below.alloc (BB3.out) (by first | omega | (simp; omega)) _)) (hb4.mono (by first | omega | (simp; done) | (simp; omega))))
    have Oa4 := Lib.hid (Own.below (Oa3.out.alloc _) hb4)
    have Os4 := Lib.hid (Own.below (Os3.out.alloc _) hb4)
    have Og4 := Lib.hid (Own.below (Og3.out.alloc _) hb4)
    clear hb4 a3 la3 s3 ls3 BB3 Oa3 Os3 Og3
    clear QQ
    have hlen : Hid (ws.length = m) := Oa4.out.len
    have INV : Hid (StoreInv w w1.heap.size w3.heap.size (.slice Am m cm) (.slice Ag m cg) Am Ag m cm cg _ _ ws (ws.set k x) w4) := ⟨a4, g4, Oa4.out, Og4.out, BB4.out⟩
    clear Oa4 Os4 Og4 BB4
    go_wp2
    go_loopw [10] (fun i wr => ∃ j : Nat, j ≤ m ∧ i = .int .i64 j ∧ Hid (StoreInv w w1.heap.size w3.heap.size (.slice Am m cm) (.slice Ag m cg) Am Ag m cm cg _ _ ws (ws.set k x) wr)) (fun i _ => m - (intOf i).toNat)
    case atStart => exact ⟨0, Nat.zero_le _, rfl, INV⟩
    case round =>
      obtain ⟨j, hj, rfl, R⟩ := hrel
      obtain ⟨ca, cg_, oa, og, bb⟩ := R.out
      have OA := Lib.hid oa
      have OG := Lib.hid og
      have sa := World.block_lt_of_cell? _ _ ca
      have sg := World.block_lt_of_cell? _ _ cg_
      simp at sa sg
      clear oa og bb INV
      by_cases hlt : j < m
      · go_wp2_with fail
        refine (iLoad Ag m cg _ j (ws.set k x) _ OG.out.rd (Nat.le_refl _) h1 hlt).mono ?_
        rintro e w9 ⟨rfl, hb9⟩
        have N := Lib.hid (R.out.below hb9)
        have ca9 := later hb9 ca
        obtain ⟨gA, hA, _, _⟩ := OA.out.form (by omega)
        have cj := (OA.out.below hb9).cell hA hlt
        subst hA
        clear hb9 ca cg_
        by_cases e : j = k
        · subst e
          have sx := set_at (x := x) (show j < ws.length by rw [hlen.out]; exact hlt)
          rw [sx]
          have b1 : ((j : Int) == (j : Int)) = true := by simp
          have b2 : (x != x) = false := by simp
          have b3 : ((j : Int) != (j : Int)) = false := by simp
          clear sx
          go_wp2
          go_roundw
          case rel => exact ⟨j + 1, by omega, by go_num, N⟩
          case measure => simp [intOf]; omega
        · have sx := set_off (ws := ws) (x := x) e
          rw [sx]
          have b1 : ((j : Int) == (k : Int)) = false := by simp; omega
          have b2 : (ws[j]?.getD 0 != ws[j]?.getD 0) = false := by simp
          have b3 : ((j : Int) != (k : Int)) = true := by simp; omega
          generalize ws[j]?.getD 0 = y at *
          clear sx e
          go_wp2
          go_roundw
          case rel => exact ⟨j + 1, by omega, by go_num, N⟩
          case measure => simp [intOf]; omega
      · go_wp2_with fail
        refine (iLoad_no Ag m cg m _ (fun q => by have := q.2.2; omega) (by omega)).mono ?_
        rintro e w9 ⟨rfl, hb9⟩
        have N := Lib.hid (R.out.below hb9)
        have ca9 := later hb9 ca
        have cg9 := later hb9 cg_
        clear hb9
        go_wp2
        go_ret
        exact ⟨rfl, N.out.2.2.2.2⟩
  · skip
    go_wp2_with fail
    refine (sStore_no Am m cm at_ x _ hw (by omega)).mono ?_
    rintro e w2 ⟨rfl, hb2⟩
    have a2 : w2.cell? ⟨w1.heap.size, 0, none⟩ = some (.slice Am m cm) := later hb2 (by simp)
    have z2 : w1.heap.size + 1 ≤ w2.heap.size := by have := hb2.size; simp at this; omega
    have la2 : w1.heap.size < w2.heap.size := by have := World.block_lt_of_cell? _ _ a2; simpa using this
    have BB2 := Lib.hid (Below.trans ((Below.alloc (BB1.out) (by first | omega | (simp; omega)) _)) (hb2.mono (by first | omega | (simp; done) | (simp; omega))))
    have Oa2 := Lib.hid (Own.below (Oa1.out.alloc _) hb2)
    clear hb2 BB1 Oa1
    have hos := Own.zero (w := w2) (b0 := 0)
    have Os2 := Lib.hid hos
    clear hos
    go_wp2_with fail
    refine (iStore_no Am m cm at_ x _ hw (by omega)).mono ?_
    rintro e w3 ⟨rfl, hb3⟩
    have a3 := later hb3 (older a2 _)
    have s3 : w3.cell? ⟨w2.heap.size, 0, none⟩ = some (.slice none 0 0) := later hb3 (by simp)
    have z3 : w2.heap.size + 1 ≤ w3.heap.size := by have := hb3.size; simp at this; omega
    have la3 : w1.heap.size < w3.heap.size := by have := World.block_lt_of_cell? _ _ a3; simpa using this
    have ls3 : w2.heap.size < w3.heap.size := by have := World.block_lt_of_cell? _ _ s3; simpa using this
    have BB3 := Lib.hid (Below.trans ((Below.alloc (BB2.out) (by first | omega | (simp; omega)) _)) (hb3.mono (by first | omega | (simp; done) | (simp; omega))))
    have Oa3 := Lib.hid (Own.below (Oa2.out.alloc _) hb3)
    have Os3 := Lib.hid (Own.below (Os2.out.alloc _) hb3)
    clear hb3 a2 la2 BB2 Oa2 Os2
    have hog := Own.zero (w := w3) (b0 := 0)
    have Og3 := Lib.hid hog
    clear hog
    go_wp2_with fail
    have qq := sameMem_any none none 0 0 0 0 _ _ [] [] _ (Og3.out.alloc (.cells #[.slice none 0 0] 26)).rd (Os3.out.alloc (.cells #[.slice none 0 0] 26)).rd (Nat.le_refl _) (Nat.le_refl _) (by omega) (by omega)
    rw [decide_eq_true rfl] at qq
    have QQ := Lib.hid qq
    clear qq
    refine (QQ.out).mono ?_
    rintro e w4 ⟨rfl, hb4⟩
    have a4 := later hb4 (older a3 _)
    have s4 := later hb4 (older s3 _)
    have g4 : w4.cell? ⟨w3.heap.size, 0, none⟩ = some (.slice none 0 0) := later hb4 (by simp)
    have z4 : w3.heap.size + 1 ≤ w4.heap.size := by have := hb4.size; simp at this; omega
    have la4 : w1.heap.size < w4.heap.size := by have := World.block_lt_of_cell? _ _ a4; simpa using this
    have ls4 : w2.heap.size < w4.heap.size := by have := World.block_lt_of_cell? _ _ s4; simpa using this
    have lg4 : w3.heap.size < w4.heap.size := by have := World.block_lt_of_cell? _ _ g4; simpa using this
    have BB4 := Lib.hid (Below.trans ((Below.alloc (BB3.out) (by first | omega | (simp; omega)) _)) (hb4.mono (by first | omega | (simp; done) | (simp; omega))))
    have Oa4 := Lib.hid (Own.below (Oa3.out.alloc _) hb4)
    have Os4 := Lib.hid (Own.below (Os3.out.alloc _) hb4)
    have Og4 := Lib.hid (Own.below (Og3.out.alloc _) hb4)
    clear hb4 a3 la3 s3 ls3 BB3 Oa3 Os3 Og3
    clear QQ
    go_wp2_with fail
    have qq := sameMem_any none none 0 0 0 0 _ _ [] [] _ Og4.out.rd Os4.out.rd (Nat.le_refl _) (Nat.le_refl _) (by omega) (by omega)
    rw [decide_eq_true rfl] at qq
    have QQ := Lib.hid qq
    clear qq
    refine (QQ.out).mono ?_
    rintro e w5 ⟨rfl, hb5⟩
    have a5 := later hb5 a4
    have s5 := later hb5 s4
    have g5 := later hb5 g4
    have z5 : w4.heap.size ≤ w5.heap.size := hb5.size
    have la5 : w1.heap.size < w5.heap.size := by have := World.block_lt_of_cell? _ _ a5; simpa using this
    have ls5 : w2.heap.size < w5.heap.size := by have := World.block_lt_of_cell? _ _ s5; simpa using this
    have lg5 : w3.heap.size < w5.heap.size := by have := World.block_lt_of_cell? _ _ g5; simpa using this
    have BB5 := Lib.hid (Below.trans (BB4.out) (hb5.mono (by first | omega | (simp; done) | (simp; omega))))
    have Oa5 := Lib.hid (Own.below Oa4.out hb5)
    have Os5 := Lib.hid (Own.below Os4.out hb5)
    have Og5 := Lib.hid (Own.below Og4.out hb5)
    clear hb5 a4 la4 s4 ls4 g4 lg4 BB4 Oa4 Os4 Og4
    clear QQ
    go_wp2
    go_ret
    exact ⟨rfl, BB5.out⟩

set_option maxHeartbeats 400000 in
theorem fnStore_walk (A : Option Addr) (n c : Nat) (bs : List Int) (w : World) (h : RdK .u8 w w.heap.size A n bs) (hm : n ≤ maxLen) (hf : ∀ z ∈ bs, 0 ≤ z ∧ z < 256) :
    Calls Try.prog 6 #[.slice A n c] w fun e w' => e = .returned (.bool true) ∧ Below w.heap.size w w' := by
  by_cases hn : n ≤ 1048576
  · exact fnStore_small A n c bs w h hf hn
  · have nb : decide (1048576 < (n : Int)) = true := by simp; omega
    clear h hf
    go_enter Try.func6, Try.ntmps6
    go_wp2_with fail
    refine (big_any A n c w).mono ?_
    rintro e w' ⟨rfl, rfl⟩
    go_wp2
    go_ret
    exact ⟨rfl, Below.refl _ _⟩

set_option maxRecDepth 100000 in
theorem fnStore_lifted (os : Os) (started : os.Started) (H : Type) (enc : TypeId × Value → H) :
    ReturnsInHanded {} Try.checked os 6 .any (Rows.fnStoreSpec.pre6 enc Try.prog Try.f6 Rows.fnStoreRow.domain false) (Rows.fnStoreSpec.post enc Try.prog Try.f6 false true false false) := by
  refine returnsInHanded_of_change (C := Try.checked) own started (by kernel_rfl) Try.func6
    (ChangeSpec.witness6 (enc := enc) (C := Try.checked) false ⟨#[], #[.slice none 0 0], []⟩ 8 (by kernel_rfl) (by kernel_rfl) (by kernel_rfl) (by kernel_rfl)) ?_
  intro W base args ds gs before hval0 hW hcnd _
  have hval : ∀ (j : Nat) t v, Try.f6.params[j]? = some t → args[j]? = some v → Value.okWide Try.prog W .any base t v := hval0
  have hW' := hW
  obtain ⟨p, q, hA0, hV, rfl, hfz, hnd⟩ := hW
  have hA : DataW.TrodAll enc Try.prog W 0 (fun _ => true) true Try.f6.params.toList args.toList ds p := hA0
  rw [Try.params6] at hA hval
  obtain ⟨v0, vs0, d0, ds0, p0, q0, hargs, rfl, rfl, h0, r0⟩ := trodAll_cons hA
  obtain ⟨rfl, rfl, rfl⟩ := trodAll_nil r0
  obtain rfl : args = #[v0] := by cases args; simp_all
  obtain ⟨rfl, rfl⟩ := trodVars_none hV
  have k0 := h0
  have lt0 : ∀ x ∈ p0, x.block < W.heap.size := by obtain ⟨m, hm⟩ := k0; exact DataW.trod_lt m _ _ _ hm
  obtain ⟨A0, n0, c0, z0, rfl, m0, rd0, f0⟩ := open_bytes (hval 0 22 v0 rfl rfl) h0
  clear hA0 hval0
  refine (fnStore_walk A0 n0 c0 z0 W rd0 m0 f0).mono fun e W' ⟨he, bel⟩ => ?_
  subst he
  exact ⟨_, rfl, _, _, _, [], _, [], hW', trodAll_mk1 (shut_bool Try.underlying4 _), (trodAll_cons_mk (Below.trod laidOut (by kernel_rfl) (of_decide_eq_true (by kernel_rfl)) k0 bel lt0) (trodAll_mk0)), rfl, bel.frame _, fun h => by cases h⟩

/-- The given statement: for every input the law returns true, and its arguments read as before. -/
theorem fnStore_holds : Rows.FnStoreSaid :=
  OpenClaim.holds_of_wide 6 Try.f6 rfl rfl rfl rfl rfl rfl rfl ⟨rfl, rfl, rfl, rfl, rfl⟩ rfl rfl rfl rfl rfl (by kernel_rfl) Try.func6 (by kernel_rfl)
    (of_decide_eq_true (by kernel_rfl)) (by unfold Func.isWrapper; first | (rw [if_pos (by decide +kernel)]; kernel_rfl) | (rw [if_neg (by decide +kernel)]; exact ⟨rfl, rfl⟩))
    (fun os started H enc _ => fnStore_lifted os started H enc)
#print axioms fnStore_holds
end Go.Proofs.Ytiliahmaolnfbaa
