/- FnCas: a compare-and-swap changes the word if it has the expected value, and nothing otherwise. No condition. -/
import Derived.Test.YtiliahmaolnfbaaSame
import Derived.Test.YtiliahmaolnfbaaDrawCas
namespace Go.Proofs.Ytiliahmaolnfbaa
open Go.ChangeShapes Go.WideShapes Go.ChangeAt Go.RowKit
set_option linter.unusedVariables false

theorem set_at' {ws : List Int} {k : Nat} {x : Int} (h : k < ws.length) : (ws.set k x)[k]?.getD 0 = x := by simp [h]

set_option maxRecDepth 100000 in
set_option maxHeartbeats 8000000 in
theorem fnCas_small (A : Option Addr) (n c : Nat) (bs : List Int) (w : World) (h : RdK .u8 w w.heap.size A n bs) (hf : ∀ z ∈ bs, 0 ≤ z ∧ z < 256) (hn : n ≤ 1048576) :
    Calls Try.prog 4 #[.slice A n c] w fun e w' => e = .returned (.bool true) ∧ Below w.heap.size w w' := by
  have H := Lib.hid h
  have HF := Lib.hid hf
  clear h hf
  have nb : decide (1048576 < (n : Int)) = false := by simp; omega
  go_enter Try.func4, Try.ntmps4
  go_wp2_with fail
  refine (big_any A n c w).mono ?_
  rintro e w' ⟨rfl, rfl⟩
  go_wp2_with fail
  refine (drawCas A n c bs _ H.out HF.out hn).mono ?_
  rintro e w1 ⟨Am, m, cm, ws, at_, was, x, rfl, hm, hws, hat, hv0, hv1, hx0, hx1, ho, hb1⟩
  have z1 : w.heap.size ≤ w1.heap.size := hb1.size
  have BB1 := Lib.hid (Below.trans (Below.refl w.heap.size w) (hb1.mono (by first | omega | (simp; done) | (simp; omega))))
  clear hb1 
  have Oa1 := Lib.hid ho
  clear ho
  clear hat hws
  by_cases hw : HasW m at_
  · obtain ⟨h1, h2, h3⟩ := hw
    obtain ⟨k, rfl⟩ := Int.eq_ofNat_of_zero_le h2
    have hk : k < m := by omega
    have hlen := Lib.hid Oa1.out.len
    clear h2 h3
    cases he : (ws[k]?.getD 0 != was)
    · have HE := Lib.hid he
      have hz : ws[k]?.getD 0 = was := by simpa using he
      clear he
      go_wp2_with fail
      refine (sCas_yes Am m cm _ k was x ws _ (Oa1.out.alloc (.cells #[.slice Am m cm] 26)).rd (Nat.le_refl _) h1 hk HE.out).mono ?_
      rintro e w2 ⟨As, cs, rfl, hos, hb2⟩
      have a2 : w2.cell? ⟨w1.heap.size, 0, none⟩ = some (.slice Am m cm) := later hb2 (by simp)
      have z2 : w1.heap.size + 1 ≤ w2.heap.size := by have := hb2.size; simp at this; omega
      have la2 : w1.heap.size < w2.heap.size := by have := World.block_lt_of_cell? _ _ a2; simpa using this
      have BB2 := Lib.hid (Below.trans ((Below.alloc (BB1.out) (by first | omega | (simp; omega)) _)) (hb2.mono (by first | omega | (simp; done) | (simp; omega))))
      have Oa2 := Lib.hid (Own.below (Oa1.out.alloc _) hb2)
      clear hb2 BB1 Oa1
      have Os2 := Lib.hid hos
      clear hos
      go_wp2_with fail
      refine (iCas_yes Am m cm _ k was x ws _ (Oa2.out.alloc (.cells #[.slice As m cs] 26)).rd (Nat.le_refl _) h1 hk HE.out).mono ?_
      rintro e w3 ⟨Ag, cg, rfl, hog, hb3⟩
      have a3 := later hb3 (older a2 _)
      have s3 : w3.cell? ⟨w2.heap.size, 0, none⟩ = some (.slice As m cs) := later hb3 (by simp)
      have z3 : w2.heap.size + 1 ≤ w3.heap.size := by have := hb3.size; simp at this; omega
      have la3 : w1.heap.size < w3.heap.size := by have := World.block_lt_of_cell? _ _ a3; simpa using this
      have ls3 : w2.heap.size < w3.heap.size := by have := World.block_lt_of_cell? _ _ s3; simpa using this
      have BB3 := Lib.hid (Below.trans ((Below.alloc (BB2.out) (by first | omega | (simp; omega)) _)) (hb3.mono (by first | omega | (simp; done) | (simp; omega))))
      have Oa3 := Lib.hid (Own.below (Oa2.out.alloc _) hb3)
      have Os3 := Lib.hid (Own.below (Os2.out.alloc _) hb3)
      clear hb3 a2 la2 BB2 Oa2 Os2
      have Og3 := Lib.hid hog
      clear hog
      go_wp2_with fail
      have qq := sameMem_any Ag As m m cg cs _ _ (ws.set k x) (ws.set k x) _ (Og3.out.alloc (.cells #[.slice Ag m cg] 26)).rd (Os3.out.alloc (.cells #[.slice Ag m cg] 26)).rd (Nat.le_refl _) (Nat.le_refl _) (by omega) (by omega)
      rw [decide_eq_true rfl] at qq
      have QQ := Lib.hid qq
      clear qq
      refine (QQ.out).mono ?_
      rintro e w4 ⟨rfl, hb4⟩
      have a4 := later hb4 (older a3 _)
      have s4 := later hb4 (older s3 _)
      have g4 : w4.cell? ⟨w3.heap.size, 0, none⟩ = some (.slice Ag m cg) := later hb4 (by simp)
      have z4 : w3.heap.size + 1 ≤ w4.heap.size := by have := hb4.size; simp at this; omega
      have la4 : w1.heap.size < w4.heap.size := by have := World.block_lt_of_cell? _ _ a4; simpa using this
      have ls4 : w2.heap.size < w4.heap.size := by have := World.block_lt_of_cell? _ _ s4; simpa using this
      have lg4 : w3.heap.size < w4.heap.size := by have := World.block_lt_of_cell? _ _ g4; simpa using this
      have BB4 := Lib.hid (Below.trans ((Below.alloc (BB3.out) (by first | omega | (simp; omega)) _)) (hb4.mono (by first | omega | (simp; done) | (simp; omega))))
      have Oa4 := Lib.hid (Own.below (Oa3.out.alloc _) hb4)
      have Os4 := Lib.hid (Own.below (Os3.out.alloc _) hb4)
      have Og4 := Lib.hid (Own.below (Og3.out.alloc _) hb4)
      clear hb4 a3 la3 s3 ls3 BB3 Oa3 Os3 Og3
      clear QQ
      go_wp2_with fail
      have ql := iLoad Ag m cg _ k (ws.set k x) _ Og4.out.rd (Nat.le_refl _) h1 hk
      rw [set_at' (by rw [hlen.out]; exact hk)] at ql
      have QL := Lib.hid ql
      clear ql
      refine (QL.out).mono ?_
      rintro e w5 ⟨rfl, hb5⟩
      have a5 := later hb5 a4
      have s5 := later hb5 s4
      have g5 := later hb5 g4
      have z5 : w4.heap.size ≤ w5.heap.size := hb5.size
      have la5 : w1.heap.size < w5.heap.size := by have := World.block_lt_of_cell? _ _ a5; simpa using this
      have ls5 : w2.heap.size < w5.heap.size := by have := World.block_lt_of_cell? _ _ s5; simpa using this
      have lg5 : w3.heap.size < w5.heap.size := by have := World.block_lt_of_cell? _ _ g5; simpa using this
      have BB5 := Lib.hid (Below.trans (BB4.out) (hb5.mono (by first | omega | (simp; done) | (simp; omega))))
      have Oa5 := Lib.hid (Own.below Oa4.out hb5)
      have Os5 := Lib.hid (Own.below Os4.out hb5)
      have Og5 := Lib.hid (Own.below Og4.out hb5)
      clear hb5 a4 la4 s4 ls4 g4 lg4 BB4 Oa4 Os4 Og4
      clear QL
      obtain ⟨gA, hA, _, _⟩ := Oa5.out.form (by omega)
      subst hA
      have HZ := Lib.hid hz
      clear hz
      cases hx : (x != was)
      · have HX : Hid (((ws.set k x)[k]?.getD 0 != was) = false) := by rw [set_at' (by rw [hlen.out]; exact hk)]; exact hx
        have exw : (x == was) = true := by simpa using hx
        go_wp2_with fail
        refine (iCas_yes Ag m cg _ k was x (ws.set k x) _ Og5.out.rd (Nat.le_refl _) h1 hk HX.out).mono ?_
        rintro e w6 ⟨Ah, ch, rfl, hoh, hb6⟩
        have a6 := later hb6 a5
        have s6 := later hb6 s5
        have g6 := later hb6 g5
        have z6 : w5.heap.size ≤ w6.heap.size := hb6.size
        have la6 : w1.heap.size < w6.heap.size := by have := World.block_lt_of_cell? _ _ a6; simpa using this
        have ls6 : w2.heap.size < w6.heap.size := by have := World.block_lt_of_cell? _ _ s6; simpa using this
        have lg6 : w3.heap.size < w6.heap.size := by have := World.block_lt_of_cell? _ _ g6; simpa using this
        have BB6 := Lib.hid (Below.trans (BB5.out) (hb6.mono (by first | omega | (simp; done) | (simp; omega))))
        have Oa6 := Lib.hid (Own.below Oa5.out hb6)
        have Os6 := Lib.hid (Own.below Os5.out hb6)
        have Og6 := Lib.hid (Own.below Og5.out hb6)
        clear hb6 a5 la5 s5 ls5 g5 lg5 BB5 Oa5 Os5 Og5
        have Oh6 := Lib.hid hoh
        clear hoh
        have cj := Oa6.out.cell rfl hk
        have gl : gA < w6.heap.size := (World.ownsRow.lt Oa6.out gA rfl).2
        rw [HZ.out] at cj
        have bw : (was == was) = true := by simp
        have bx : (x == x) = true := by simp
        have la : w1.heap.size < w6.heap.size := la6
        go_wp2
        go_ret
        exact ⟨rfl, Below.alloc BB6.out (by omega) _⟩
      · have HX : Hid (((ws.set k x)[k]?.getD 0 != was) = true) := by rw [set_at' (by rw [hlen.out]; exact hk)]; exact hx
        have exw : (x == was) = false := by simpa using hx
        go_wp2_with fail
        refine (iCas_no Ag m cg _ k was x (ws.set k x) _ Og5.out.rd (Nat.le_refl _) h1 hk HX.out).mono ?_
        rintro e w6 ⟨Ah, ch, rfl, hoh, hb6⟩
        have a6 := later hb6 a5
        have s6 := later hb6 s5
        have g6 := later hb6 g5
        have z6 : w5.heap.size ≤ w6.heap.size := hb6.size
        have la6 : w1.heap.size < w6.heap.size := by have := World.block_lt_of_cell? _ _ a6; simpa using this
        have ls6 : w2.heap.size < w6.heap.size := by have := World.block_lt_of_cell? _ _ s6; simpa using this
        have lg6 : w3.heap.size < w6.heap.size := by have := World.block_lt_of_cell? _ _ g6; simpa using this
        have BB6 := Lib.hid (Below.trans (BB5.out) (hb6.mono (by first | omega | (simp; done) | (simp; omega))))
        have Oa6 := Lib.hid (Own.below Oa5.out hb6)
        have Os6 := Lib.hid (Own.below Os5.out hb6)
        have Og6 := Lib.hid (Own.below Og5.out hb6)
        clear hb6 a5 la5 s5 ls5 g5 lg5 BB5 Oa5 Os5 Og5
        have Oh6 := Lib.hid hoh
        clear hoh
        have cj := Oa6.out.cell rfl hk
        have gl : gA < w6.heap.size := (World.ownsRow.lt Oa6.out gA rfl).2
        rw [HZ.out] at cj
        have bw : (was == was) = true := by simp
        have bx : (x == x) = true := by simp
        have la : w1.heap.size < w6.heap.size := la6
        go_wp2
        go_ret
        exact ⟨rfl, Below.alloc BB6.out (by omega) _⟩
    · have HE := Lib.hid he
      have hz : (ws[k]?.getD 0 == was) = false := by simpa using he
      clear he
      go_wp2_with fail
      refine (sCas_no Am m cm _ k was x ws _ (Oa1.out.alloc (.cells #[.slice Am m cm] 26)).rd (Nat.le_refl _) h1 hk HE.out).mono ?_
      rintro e w2 ⟨As, cs, rfl, hos, hb2⟩
      have a2 : w2.cell? ⟨w1.heap.size, 0, none⟩ = some (.slice Am m cm) := later hb2 (by simp)
      have z2 : w1.heap.size + 1 ≤ w2.heap.size := by have := hb2.size; simp at this; omega
      have la2 : w1.heap.size < w2.heap.size := by have := World.block_lt_of_cell? _ _ a2; simpa using this
      have BB2 := Lib.hid (Below.trans ((Below.alloc (BB1.out) (by first | omega | (simp; omega)) _)) (hb2.mono (by first | omega | (simp; done) | (simp; omega))))
      have Oa2 := Lib.hid (Own.below (Oa1.out.alloc _) hb2)
      clear hb2 BB1 Oa1
      have Os2 := Lib.hid hos
      clear hos
      go_wp2_with fail
      refine (iCas_no Am m cm _ k was x ws _ (Oa2.out.alloc (.cells #[.slice As m cs] 26)).rd (Nat.le_refl _) h1 hk HE.out).mono ?_
      rintro e w3 ⟨Ag, cg, rfl, hog, hb3⟩
      have a3 := later hb3 (older a2 _)
      have s3 : w3.cell? ⟨w2.heap.size, 0, none⟩ = some (.slice As m cs) := later hb3 (by simp)
      have z3 : w2.heap.size + 1 ≤ w3.heap.size := by have := hb3.size; simp at this; omega
      have la3 : w1.heap.size < w3.heap.size := by have := World.block_lt_of_cell? _ _ a3; simpa using this
      have ls3 : w2.heap.size < w3.heap.size := by have := World.block_lt_of_cell? _ _ s3; simpa using this
      have BB3 := Lib.hid (Below.trans ((Below.alloc (BB2.out) (by first | omega | (simp; omega)) _)) (hb3.mono (by first | omega | (simp; done) | (simp; omega))))
      have Oa3 := Lib.hid (Own.below (Oa2.out.alloc _) hb3)
      have Os3 := Lib.hid (Own.below (Os2.out.alloc _) hb3)
      clear hb3 a2 la2 BB2 Oa2 Os2
      have Og3 := Lib.hid hog
      clear hog
      go_wp2_with fail
      have qq := sameMem_any Ag As m m cg cs _ _ ws ws _ (Og3.out.alloc (.cells #[.slice Ag m cg] 26)).rd (Os3.out.alloc (.cells #[.slice Ag m cg] 26)).rd (Nat.le_refl _) (Nat.le_refl _) (by omega) (by omega)
      rw [decide_eq_true rfl] at qq
      have QQ := Lib.hid qq
      clear qq
      refine (QQ.out).mono ?_
      rintro e w4 ⟨rfl, hb4⟩
      have a4 := later hb4 (older a3 _)
      have s4 := later hb4 (older s3 _)
      have g4 : w4.cell? ⟨w3.heap.size, 0, none⟩ = some (.slice Ag m cg) := later hb4 (by simp)
      have z4 : w3.heap.size + 1 ≤ w4.heap.size := by have := hb4.size; simp at this; omega
      have la4 : w1.heap.size < w4.heap.size := by have := World.block_lt_of_cell? _ _ a4; simpa using this
      have ls4 : w2.heap.size < w4.heap.size := by have := World.block_lt_of_cell? _ _ s4; simpa using this
      have lg4 : w3.heap.size < w4.heap.size := by have := World.block_lt_of_cell? _ _ g4; simpa using this
      have BB4 := Lib.hid (Below.trans ((Below.alloc (BB3.out) (by first | omega | (simp; omega)) _)) (hb4.mono (by first | omega | (simp; done) | (simp; omega))))
      have Oa4 := Lib.hid (Own.below (Oa3.out.alloc _) hb4)
      have Os4 := Lib.hid (Own.below (Os3.out.alloc _) hb4)
      have Og4 := Lib.hid (Own.below (Og3.out.alloc _) hb4)
      clear hb4 a3 la3 s3 ls3 BB3 Oa3 Os3 Og3
      clear QQ
      go_wp2_with fail
      have ql := iLoad Ag m cg _ k ws _ Og4.out.rd (Nat.le_refl _) h1 hk
      have QL := Lib.hid ql
      clear ql
      obtain ⟨y, hy⟩ : ∃ y, y = ws[k]?.getD 0 := ⟨_, rfl⟩
      rw [← hy] at QL hz
      have HY := Lib.hid hy
      clear hy
      refine (QL.out).mono ?_
      rintro e w5 ⟨rfl, hb5⟩
      have a5 := later hb5 a4
      have s5 := later hb5 s4
      have g5 := later hb5 g4
      have z5 : w4.heap.size ≤ w5.heap.size := hb5.size
      have la5 : w1.heap.size < w5.heap.size := by have := World.block_lt_of_cell? _ _ a5; simpa using this
      have ls5 : w2.heap.size < w5.heap.size := by have := World.block_lt_of_cell? _ _ s5; simpa using this
      have lg5 : w3.heap.size < w5.heap.size := by have := World.block_lt_of_cell? _ _ g5; simpa using this
      have BB5 := Lib.hid (Below.trans (BB4.out) (hb5.mono (by first | omega | (simp; done) | (simp; omega))))
      have Oa5 := Lib.hid (Own.below Oa4.out hb5)
      have Os5 := Lib.hid (Own.below Os4.out hb5)
      have Og5 := Lib.hid (Own.below Og4.out hb5)
      clear hb5 a4 la4 s4 ls4 g4 lg4 BB4 Oa4 Os4 Og4
      clear QL
      obtain ⟨gA, hA, _, _⟩ := Oa5.out.form (by omega)
      subst hA
      go_wp2_with fail
      refine (iCas_no Ag m cg _ k was x ws _ Og5.out.rd (Nat.le_refl _) h1 hk HE.out).mono ?_
      rintro e w6 ⟨Ah, ch, rfl, hoh, hb6⟩
      have a6 := later hb6 a5
      have s6 := later hb6 s5
      have g6 := later hb6 g5
      have z6 : w5.heap.size ≤ w6.heap.size := hb6.size
      have la6 : w1.heap.size < w6.heap.size := by have := World.block_lt_of_cell? _ _ a6; simpa using this
      have ls6 : w2.heap.size < w6.heap.size := by have := World.block_lt_of_cell? _ _ s6; simpa using this
      have lg6 : w3.heap.size < w6.heap.size := by have := World.block_lt_of_cell? _ _ g6; simpa using this
      have BB6 := Lib.hid (Below.trans (BB5.out) (hb6.mono (by first | omega | (simp; done) | (simp; omega))))
      have Oa6 := Lib.hid (Own.below Oa5.out hb6)
      have Os6 := Lib.hid (Own.below Os5.out hb6)
      have Og6 := Lib.hid (Own.below Og5.out hb6)
      clear hb6 a5 la5 s5 ls5 g5 lg5 BB5 Oa5 Os5 Og5
      have Oh6 := Lib.hid hoh
      clear hoh
      have cj := Oa6.out.cell rfl hk
      have gl : gA < w6.heap.size := (World.ownsRow.lt Oa6.out gA rfl).2
      rw [← HY.out] at cj
      go_wp2_with fail
      clear cj
      have qq := sameMem_any Ag (some ⟨gA, 0, none⟩) m m cg cm _ _ ws ws _ (Og6.out.alloc (.cells #[.slice Ah m ch] 26)).rd (Oa6.out.alloc (.cells #[.slice Ah m ch] 26)).rd (Nat.le_refl _) (Nat.le_refl _) (by omega) (by omega)
      rw [decide_eq_true rfl] at qq
      have QQ := Lib.hid qq
      clear qq
      refine (QQ.out).mono ?_
      rintro e w7 ⟨rfl, hb7⟩
      have a7 := later hb7 (older a6 _)
      have s7 := later hb7 (older s6 _)
      have g7 := later hb7 (older g6 _)
      have h7 : w7.cell? ⟨w6.heap.size, 0, none⟩ = some (.slice Ah m ch) := later hb7 (by simp)
      have z7 : w6.heap.size + 1 ≤ w7.heap.size := by have := hb7.size; simp at this; omega
      have la7 : w1.heap.size < w7.heap.size := by have := World.block_lt_of_cell? _ _ a7; simpa using this
      have ls7 : w2.heap.size < w7.heap.size := by have := World.block_lt_of_cell? _ _ s7; simpa using this
      have lg7 : w3.heap.size < w7.heap.size := by have := World.block_lt_of_cell? _ _ g7; simpa using this
      have lh7 : w6.heap.size < w7.heap.size := by have := World.block_lt_of_cell? _ _ h7; simpa using this
      have BB7 := Lib.hid (Below.trans ((Below.alloc (BB6.out) (by first | omega | (simp; omega)) _)) (hb7.mono (by first | omega | (simp; done) | (simp; omega))))
      have Oa7 := Lib.hid (Own.below (Oa6.out.alloc _) hb7)
      have Os7 := Lib.hid (Own.below (Os6.out.alloc _) hb7)
      have Og7 := Lib.hid (Own.below (Og6.out.alloc _) hb7)
      have Oh7 := Lib.hid (Own.below (Oh6.out.alloc _) hb7)
      clear hb7 a6 la6 s6 ls6 g6 lg6 BB6 Oa6 Os6 Og6 Oh6
      clear QQ
      go_wp2
      go_ret
      exact ⟨rfl, BB7.out⟩
  · skip
    go_wp2_with fail
    refine (sCas_none Am m cm at_ was x _ hw (by omega)).mono ?_
    rintro e w2 ⟨rfl, hb2⟩
    have a2 : w2.cell? ⟨w1.heap.size, 0, none⟩ = some (.slice Am m cm) := later hb2 (by simp)
    have z2 : w1.heap.size + 1 ≤ w2.heap.size := by have := hb2.size; simp at this; omega
    have la2 : w1.heap.size < w2.heap.size := by have := World.block_lt_of_cell? _ _ a2; simpa using this
    have BB2 := Lib.hid (Below.trans ((Below.alloc (BB1.out) (by first | omega | (simp; omega)) _)) (hb2.mono (by first | omega | (simp; done) | (simp; omega))))
    have Oa2 := Lib.hid (Own.below (Oa1.out.alloc _) hb2)
    clear hb2 BB1 Oa1
    have hos := Own.zero (w := w2) (b0 := 0)
    have Os2 := Lib.hid hos
    clear hos
    go_wp2_with fail
    refine (iCas_none Am m cm at_ was x _ hw (by omega)).mono ?_
    rintro e w3 ⟨rfl, hb3⟩
    have a3 := later hb3 (older a2 _)
    have s3 : w3.cell? ⟨w2.heap.size, 0, none⟩ = some (.slice none 0 0) := later hb3 (by simp)
    have z3 : w2.heap.size + 1 ≤ w3.heap.size := by have := hb3.size; simp at this; omega
    have la3 : w1.heap.size < w3.heap.size := by have := World.block_lt_of_cell? _ _ a3; simpa using this
    have ls3 : w2.heap.size < w3.heap.size := by have := World.block_lt_of_cell? _ _ s3; simpa using this
    have BB3 := Lib.hid (Below.trans ((Below.alloc (BB2.out) (by first | omega | (simp; omega)) _)) (hb3.mono (by first | omega | (simp; done) | (simp; omega))))
    have Oa3 := Lib.hid (Own.below (Oa2.out.alloc _) hb3)
    have Os3 := Lib.hid (Own.below (Os2.out.alloc _) hb3)
    clear hb3 a2 la2 BB2 Oa2 Os2
    have hog := Own.zero (w := w3) (b0 := 0)
    have Og3 := Lib.hid hog
    clear hog
    go_wp2_with fail
    have qq := sameMem_any none none 0 0 0 0 _ _ [] [] _ (Og3.out.alloc (.cells #[.slice none 0 0] 26)).rd (Os3.out.alloc (.cells #[.slice none 0 0] 26)).rd (Nat.le_refl _) (Nat.le_refl _) (by omega) (by omega)
    rw [decide_eq_true rfl] at qq
    have QQ := Lib.hid qq
    clear qq
    refine (QQ.out).mono ?_
    rintro e w4 ⟨rfl, hb4⟩
    have a4 := later hb4 (older a3 _)
    have s4 := later hb4 (older s3 _)
    have g4 : w4.cell? ⟨w3.heap.size, 0, none⟩ = some (.slice none 0 0) := later hb4 (by simp)
    have z4 : w3.heap.size + 1 ≤ w4.heap.size := by have := hb4.size; simp at this; omega
    have la4 : w1.heap.size < w4.heap.size := by have := World.block_lt_of_cell? _ _ a4; simpa using this
    have ls4 : w2.heap.size < w4.heap.size := by have := World.block_lt_of_cell? _ _ s4; simpa using this
    have lg4 : w3.heap.size < w4.heap.size := by have := World.block_lt_of_cell? _ _ g4; simpa using this
    have BB4 := Lib.hid (Below.trans ((Below.alloc (BB3.out) (by first | omega | (simp; omega)) _)) (hb4.mono (by first | omega | (simp; done) | (simp; omega))))
    have Oa4 := Lib.hid (Own.below (Oa3.out.alloc _) hb4)
    have Os4 := Lib.hid (Own.below (Os3.out.alloc _) hb4)
    have Og4 := Lib.hid (Own.below (Og3.out.alloc _) hb4)
    clear hb4 a3 la3 s3 ls3 BB3 Oa3 Os3 Og3
    clear QQ
    go_wp2
    go_ret
    exact ⟨rfl, BB4.out⟩

set_option maxHeartbeats 400000 in
theorem fnCas_walk (A : Option Addr) (n c : Nat) (bs : List Int) (w : World) (h : RdK .u8 w w.heap.size A n bs) (hm : n ≤ maxLen) (hf : ∀ z ∈ bs, 0 ≤ z ∧ z < 256) :
    Calls Try.prog 4 #[.slice A n c] w fun e w' => e = .returned (.bool true) ∧ Below w.heap.size w w' := by
  by_cases hn : n ≤ 1048576
  · exact fnCas_small A n c bs w h hf hn
  · have nb : decide (1048576 < (n : Int)) = true := by simp; omega
    clear h hf
    go_enter Try.func4, Try.ntmps4
    go_wp2_with fail
    refine (big_any A n c w).mono ?_
    rintro e w' ⟨rfl, rfl⟩
    go_wp2
    go_ret
    exact ⟨rfl, Below.refl _ _⟩

set_option maxRecDepth 100000 in
theorem fnCas_lifted (os : Os) (started : os.Started) (H : Type) (enc : TypeId × Value → H) :
    ReturnsInHanded {} Try.checked os 4 .any (Rows.fnCasSpec.pre6 enc Try.prog Try.f4 Rows.fnCasRow.domain false) (Rows.fnCasSpec.post enc Try.prog Try.f4 false true false false) := by
  refine returnsInHanded_of_change (C := Try.checked) own started (by kernel_rfl) Try.func4
    (ChangeSpec.witness6 (enc := enc) (C := Try.checked) false ⟨#[], #[.slice none 0 0], []⟩ 8 (by kernel_rfl) (by kernel_rfl) (by kernel_rfl) (by kernel_rfl)) ?_
  intro W base args ds gs before hval0 hW hcnd _
  have hval : ∀ (j : Nat) t v, Try.f4.params[j]? = some t → args[j]? = some v → Value.okWide Try.prog W .any base t v := hval0
  have hW' := hW
  obtain ⟨p, q, hA0, hV, rfl, hfz, hnd⟩ := hW
  have hA : DataW.TrodAll enc Try.prog W 0 (fun _ => true) true Try.f4.params.toList args.toList ds p := hA0
  rw [Try.params4] at hA hval
  obtain ⟨v0, vs0, d0, ds0, p0, q0, hargs, rfl, rfl, h0, r0⟩ := trodAll_cons hA
  obtain ⟨rfl, rfl, rfl⟩ := trodAll_nil r0
  obtain rfl : args = #[v0] := by cases args; simp_all
  obtain ⟨rfl, rfl⟩ := trodVars_none hV
  have k0 := h0
  have lt0 : ∀ x ∈ p0, x.block < W.heap.size := by obtain ⟨m, hm⟩ := k0; exact DataW.trod_lt m _ _ _ hm
  obtain ⟨A0, n0, c0, z0, rfl, m0, rd0, f0⟩ := open_bytes (hval 0 22 v0 rfl rfl) h0
  clear hA0 hval0
  refine (fnCas_walk A0 n0 c0 z0 W rd0 m0 f0).mono fun e W' ⟨he, bel⟩ => ?_
  subst he
  exact ⟨_, rfl, _, _, _, [], _, [], hW', trodAll_mk1 (shut_bool Try.underlying4 _), (trodAll_cons_mk (Below.trod laidOut (by kernel_rfl) (of_decide_eq_true (by kernel_rfl)) k0 bel lt0) (trodAll_mk0)), rfl, bel.frame _, fun h => by cases h⟩

/-- The given statement: for every input the law returns true, and its arguments read as before. -/
theorem fnCas_holds : Rows.FnCasSaid :=
  OpenClaim.holds_of_wide 4 Try.f4 rfl rfl rfl rfl rfl rfl rfl ⟨rfl, rfl, rfl, rfl, rfl⟩ rfl rfl rfl rfl rfl (by kernel_rfl) Try.func4 (by kernel_rfl)
    (of_decide_eq_true (by kernel_rfl)) (by unfold Func.isWrapper; first | (rw [if_pos (by decide +kernel)]; kernel_rfl) | (rw [if_neg (by decide +kernel)]; exact ⟨rfl, rfl⟩))
    (fun os started H enc _ => fnCas_lifted os started H enc)
#print axioms fnCas_holds
end Go.Proofs.Ytiliahmaolnfbaa
