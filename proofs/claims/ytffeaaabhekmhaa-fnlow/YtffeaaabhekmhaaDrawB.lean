/- The model's cursor draws a word by its bits; DrawBitList hands out a word; nothing old has turned. -/
import Derived.Test.YtffeaaabhekmhaaCurOpen
import Derived.Test.YtffeaaabhekmhaaSOf
namespace Go.Proofs.Ytffeaaabhekmhaa
open Go.RowKit

theorem ofA_lt (l : List Int) : ofA l < 4294967296 := by
  unfold ofA
  cases h : bitsG 0 l with
  | none => simp
  | some y => exact bitsG_lt l 0 y (by omega) h

/-- A slice of three ints that was just laid reads so. -/
theorem rd_three (w : World) (a b c : Int) : RdK .i64 (w.alloc (.cells #[.int .i64 a, .int .i64 b, .int .i64 c] 3)) (w.heap.size + 1) (some ⟨w.heap.size, 0, none⟩) 3 [a, b, c] :=
  ⟨rfl, fun _ => ⟨w.heap.size, 0, rfl, by omega, fun i hi => by
    rw [cell_of_row _ w.heap.size (0 + i) _ _ (0, 0) (heap_alloc_new w _)]
    rcases (show i = 0 ∨ i = 1 ∨ i = 2 by omega) with rfl | rfl | rfl <;> rfl⟩⟩

set_option maxRecDepth 100000 in
set_option maxHeartbeats 4000000 in
theorem cbits_any (b : Nat) (A : Option Addr) (n c : Nat) (bs : List Int) (K : Nat) (w : World) (h : Cur w b A n c bs K) (hK : K ≤ 800000) :
    Calls Try.prog 43 #[.pointer (some ⟨b, 0, none⟩)] w (Picked (fun r => 0 ≤ r ∧ r < 4294967296) .u32 b A n c bs (K + 9) w) := by
  have H := Lib.hid h
  clear h
  go_enter Try.func43, Try.ntmps43
  go_wp2_with fail
  refine (cword_any b A n c bs K _ H.out (by omega)).mono ?_
  rintro e w1 ⟨x, rfl, hx, C1, G1⟩
  have HX := Lib.hid hx
  clear hx
  go_wp2_with fail
  refine (once_any b A n c bs (K + 5) 2 _ C1.out (by omega) (by omega) (by omega)).mono ?_
  rintro e w2 ⟨r, rfl, C2, G2⟩
  cases r with
  | false =>
    go_wp2
    go_ret
    exact ⟨x, rfl, HX.out, C2.out.mono (by omega), gtrans G1.out G2.out⟩
  | true =>
    go_wp2_with fail
    refine (pick_any b A n c bs (K + 6) 8 _ C2.out (by omega) (by omega)).mono ?_
    rintro e w3 ⟨r3, rfl, ⟨p0, p1⟩, C3, G3⟩
    have p2 : r3 < 8 := by omega
    clear p1
    go_wp2_with fail
    refine (pick_any b A n c bs (K + 7) 8 _ C3.out (by omega) (by omega)).mono ?_
    rintro e w4 ⟨r4, rfl, ⟨q0, q1⟩, C4, G4⟩
    have q2 : r4 < 8 := by omega
    clear q1
    go_wp2_with fail
    refine (pick_any b A n c bs (K + 8) 16 _ C4.out (by omega) (by omega)).mono ?_
    rintro e w5 ⟨r5, rfl, ⟨s0, s1⟩, C5, G5⟩
    have s2 : r5 < 16 := by omega
    clear s1
    go_wp2_with fail
    refine (sBitsOf_any _ 3 3 _ _ _ (rd_three w5 r3 (8 + r4) (16 + r5)) (by simp) (by omega)).mono ?_
    rintro e w6 ⟨rfl, hb⟩
    have HB := Lib.hid hb
    clear hb
    go_wp2
    go_ret
    have hlt := ofA_lt [r3, 8 + r4, 16 + r5]
    refine ⟨_, rfl, ⟨by omega, by omega⟩, (C5.out.alloc _).below HB.out, ?_⟩
    exact gtrans (gtrans (gtrans (gtrans (gtrans G1.out G2.out) G3.out) G4.out) G5.out) (gtrans (World.grownBy_alloc _ _ _) (gbelow HB.out))

/-- A word is drawn. -/
def Drawn1 (w : World) (e : Ending) (w' : World) : Prop := ∃ X : Nat, e = .returned (.int .u32 (X : Int)) ∧ X < 4294967296 ∧ Below w.heap.size w w'

set_option maxRecDepth 100000 in
set_option maxHeartbeats 1000000 in
theorem drawBitList (A : Option Addr) (n c : Nat) (bs : List Int) (w : World) (h : RdK .u8 w w.heap.size A n bs) (hf : ∀ z ∈ bs, 0 ≤ z ∧ z < 256) (hn : n ≤ 1048576) :
    Calls Try.prog 16 #[.slice A n c] w (Drawn1 w) := by
  have H := Lib.hid h
  have HF := Lib.hid hf
  clear h hf
  go_enter Try.func16, Try.ntmps16
  go_wp2_with fail
  refine (open_cur A n c bs _ H.out HF.out hn).mono ?_
  rintro e w1 ⟨rfl, C1, B1⟩
  go_wp2_with fail
  refine (cbits_any w.heap.size A n c bs 0 _ C1.out (by omega)).mono ?_
  rintro e w2 ⟨x, rfl, ⟨x0, x1⟩, C2, G2⟩
  obtain ⟨X, rfl⟩ := Int.eq_ofNat_of_zero_le x0
  have z1 := B1.out.size
  go_wp2
  go_ret
  exact ⟨X, rfl, by omega, below_of_grown B1.out G2.out (Nat.le_refl _) z1⟩

end Go.Proofs.Ytffeaaabhekmhaa
