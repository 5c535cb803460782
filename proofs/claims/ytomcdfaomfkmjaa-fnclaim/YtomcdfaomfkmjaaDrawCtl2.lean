/- The model's draws of control states and control words, valid or not: badCtl, ctlWord, DrawCtlPack, DrawCtlRead; nothing old has turned. -/
import Derived.Test.YtomcdfaomfkmjaaDrawCtl
namespace Go.Proofs.Ytomcdfaomfkmjaa
open Go.RowKit

theorem lit3u {wr : World} {g : Nat} {a1 a2 a3 r : Int} (L : wr.heap[g]? = some (.cells #[.int .u32 a1, .int .u32 a2, .int .u32 a3] 24 (0, 0))) (h1 : 0 ≤ a1 ∧ a1 < 4294967296) (h2 : 0 ≤ a2 ∧ a2 < 4294967296) (h3 : 0 ≤ a3 ∧ a3 < 4294967296) (s0 : 0 ≤ r) (s1 : r < 3 ∨ r = 0) :
    ∃ v : Nat, Hid (v < 4294967296) ∧ wr.cell? ⟨g, r.toNat, none⟩ = some (.int .u32 (v : Int)) := by
  have hcell := fun k => cell_of_row wr g k _ _ (0, 0) L
  obtain ⟨b1, rfl⟩ := Int.eq_ofNat_of_zero_le h1.1
  obtain ⟨b2, rfl⟩ := Int.eq_ofNat_of_zero_le h2.1
  obtain ⟨b3, rfl⟩ := Int.eq_ofNat_of_zero_le h3.1
  rcases (show r = 0 ∨ r = 1 ∨ r = 2 by omega) with rfl | rfl | rfl
  · exact ⟨b1, (by omega : b1 < 4294967296), hcell 0⟩
  · exact ⟨b2, (by omega : b2 < 4294967296), hcell 1⟩
  · exact ⟨b3, (by omega : b3 < 4294967296), hcell 2⟩
theorem packA_lt (S K : Int) (M : Nat) (R : Int) : packA S K M R < 4294967296 := by
  unfold packA
  split
  · rename_i h
    have := good_bounds h
    unfold packV
    omega
  · omega

set_option maxRecDepth 100000 in
set_option maxHeartbeats 2000000 in
theorem ctlWord_any (b : Nat) (A : Option Addr) (n c : Nat) (bs : List Int) (K : Nat) (w : World) (h : Cur w b A n c bs K) (hK : K ≤ 800) :
    Calls Try.prog 40 #[.pointer (some ⟨b, 0, none⟩)] w fun e w' => ∃ X : Nat, e = .returned (.int .u32 (X : Int)) ∧ Hid (X < 4294967296) ∧ Hid (Cur w' b A n c bs (K + 13)) ∧ Hid (w.grownBy w' (some b)) := by
  have H := Lib.hid h
  clear h
  go_enter Try.func40, Try.ntmps40
  go_wp2_with fail
  refine (ctl_any b A n c bs K _ H.out (by omega)).mono ?_
  rintro e w1 ⟨S, C, R, M, rfl, HM, C1, G1⟩
  go_wp2_with fail
  refine (sCtlPack_any S C M R _ HM.out).mono ?_
  rintro e w2 ⟨rfl, hb⟩
  have C2 := Lib.hid (C1.out.below hb)
  have G2 := Lib.hid (gtrans G1.out (gbelow hb))
  have HX := Lib.hid (packA_lt S C M R)
  clear hb C1 G1 H
  generalize packA S C M R = X at *
  generalize decide (CtlGood S C M R) = q at *
  go_wp2_with fail
  refine (once_any b A n c bs (K + 7) 12 _ C2.out (by omega) (by omega) (by omega)).mono ?_
  rintro e w3 ⟨r, rfl, C3, G3⟩
  cases r with
  | false =>
    go_wp2
    go_ret
    exact ⟨X, rfl, HX, C3.out.mono (by omega), gtrans G2.out G3.out⟩
  | true =>
    go_wp2_with fail
    refine (cword_any b A n c bs (K + 8) _ C3.out (by omega)).mono ?_
    rintro e w4 ⟨x, rfl, ⟨x0, x1⟩, C4, G4⟩
    obtain ⟨Y, rfl⟩ := Int.eq_ofNat_of_zero_le x0
    have hY : Hid (Y < 4294967296) := (by omega : Y < 4294967296)
    clear x0 x1
    go_wp2
    go_ret
    exact ⟨Y, rfl, hY, C4.out, gtrans (gtrans G2.out G3.out) G4.out⟩

/-- A control state is drawn. -/
def DrawnCtl (w : World) (e : Ending) (w' : World) : Prop := ∃ S C R : Int, ∃ M : Nat, e = .returned (.agg #[.int .i64 S, .int .i64 C, .int .u32 (M : Int), .int .i64 R]) ∧ Hid (M < 4294967296) ∧ Hid (Below w.heap.size w w')

theorem lit_ne {wr w' : World} {g b : Nat} {o : Obj} (L : wr.heap[g]? = some o) (hg : wr.grownBy w' (some b)) (hne : g ≠ b) : w'.heap[g]? = some o := (hg.block g (Array.getElem?_eq_some_iff.1 L).1 (by simp; omega)).trans L

theorem rd_four (w : World) (a b c d : Int) : RdK .i64 (w.alloc (.cells #[.int .i64 a, .int .i64 b, .int .i64 c, .int .i64 d] 3)) (w.heap.size + 1) (some ⟨w.heap.size, 0, none⟩) 4 [a, b, c, d] :=
  ⟨rfl, fun _ => ⟨w.heap.size, 0, rfl, by omega, fun i hi => by
    rw [cell_of_row _ w.heap.size (0 + i) _ _ (0, 0) (heap_alloc_new w _)]
    rcases (show i = 0 ∨ i = 1 ∨ i = 2 ∨ i = 3 by omega) with rfl | rfl | rfl | rfl <;> rfl⟩⟩

end Go.Proofs.Ytomcdfaomfkmjaa
