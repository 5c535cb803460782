/- The model's cursor draws a class for a word: a number; only the cursor has turned. -/
import Derived.Test.YtomcdfaomfkmjaaDrawCtl2
import Derived.Test.YtomcdfaomfkmjaaITaken
namespace Go.Proofs.Ytomcdfaomfkmjaa
open Go.RowKit

set_option maxRecDepth 100000 in
set_option maxHeartbeats 4000000 in
theorem classFor_any (b : Nat) (A : Option Addr) (n c : Nat) (bs : List Int) (K X : Nat) (w : World) (h : Cur w b A n c bs K) (hK : K ≤ 800) (hX : X < 4294967296) :
    Calls Try.prog 41 #[.pointer (some ⟨b, 0, none⟩), .int .u32 (X : Int)] w fun e w' => ∃ N : Int, e = .returned (.int .i64 N) ∧ Hid ((Lit.int .i64 N).wf = true) ∧ Hid (Cur w' b A n c bs (K + 6)) ∧ Hid (w.grownBy w' (some b)) := by
  have H := Lib.hid h
  have hlt := h.lt
  have HR := Lib.hid (fun W => sCtlRead_any X W hX)
  have HW : Hid ((Lit.int .i64 (readN X (clOf X) : Int)).wf = true) := by
    have : clOf X < 16 := Nat.mod_lt _ (by omega)
    refine wf_i64 ?_ ?_ <;> unfold readN <;> split <;> omega
  unfold readV at HR
  generalize decide (GoodX X) = q at *
  generalize ((readN X (stOf X) : Nat) : Int) = s at *
  generalize ((readN X (clOf X) : Nat) : Int) = k at *
  generalize ((readN X (mpOf X) : Nat) : Int) = m at *
  generalize ((readN X (rnOf X) : Nat) : Int) = r at *
  clear h hX
  cases q with
  | false =>
    go_enter Try.func41, Try.ntmps41
    go_wp2_with fail
    refine (HR.out _).mono ?_
    rintro e w1 ⟨rfl, hb1⟩
    have C1 := Lib.hid ((H.out.below hb1).alloc (.cells #[.int .i64 s, .int .i64 k, .int .u32 m, .int .i64 r] 42))
    have G1 : Hid (w.grownBy (w1.alloc (.cells #[.int .i64 s, .int .i64 k, .int .u32 m, .int .i64 r] 42)) (some b)) := galloc (gbelow hb1) _
    clear hb1 H HR
    go_wp2_with fail
    refine (pick_any b A n c bs K 5 _ C1.out (by omega) (by omega)).mono ?_
    rintro e w3 ⟨r3, rfl, ⟨p3, q3⟩, C3, G3⟩
    have G3' := Lib.hid (gtrans G1.out G3.out)
    clear C1 G1 G3
    go_wp2_with fail
    refine (pick_any b A n c bs (K + 1) 5 _ C3.out (by omega) (by omega)).mono ?_
    rintro e w4 ⟨r4, rfl, ⟨p4, q4⟩, C4, G4⟩
    have G4' := Lib.hid (gtrans G3'.out G4.out)
    clear C3 G3' G4
    go_wp2_with fail
    refine (raw_any b A n c bs (K + 2) _ C4.out (by omega)).mono ?_
    rintro e w5 ⟨r5, rfl, W5, C5, G5⟩
    have W5' := Lib.hid W5
    have G5' := Lib.hid (gtrans G4'.out G5.out)
    have hl5 := C5.out.lt
    clear C4 G4' G5 W5
    go_wp2_with fail
    refine (pick_any b A n c bs (K + 4) 4 _ (C5.out.alloc _) (by omega) (by omega)).mono ?_
    rintro e w6 ⟨r6, rfl, ⟨p6, q6⟩, C6, G6⟩
    obtain ⟨v, hv, hc⟩ := lit4 (lit_call (heap_alloc_new w5 _) G6.out hl5) (wf_i64 (r := r3) (by omega) (by omega)) (wf_i64 (r := r4) (by omega) (by omega)) (wf_i64 (r := 5) (by omega) (by omega)) W5'.out p6 q6
    have G6' := Lib.hid (gtrans (galloc G5'.out _) G6.out)
    have t6 : r6 < 4 := by omega
    clear q6 q3 q4 C5 G5' G6
    go_wp2
    go_ret
    exact ⟨v, rfl, hv, C6.out.mono (by omega), G6'⟩
  | true =>
    go_enter Try.func41, Try.ntmps41
    go_wp2_with fail
    refine (HR.out _).mono ?_
    rintro e w1 ⟨rfl, hb1⟩
    have C1 := Lib.hid ((H.out.below hb1).alloc (.cells #[.int .i64 s, .int .i64 k, .int .u32 m, .int .i64 r] 42))
    have G1 : Hid (w.grownBy (w1.alloc (.cells #[.int .i64 s, .int .i64 k, .int .u32 m, .int .i64 r] 42)) (some b)) := galloc (gbelow hb1) _
    have L1 : Hid ((w1.alloc (.cells #[.int .i64 s, .int .i64 k, .int .u32 m, .int .i64 r] 42)).heap[w1.heap.size]? = some (.cells #[.int .i64 s, .int .i64 k, .int .u32 m, .int .i64 r] 42 (0, 0))) := heap_alloc_new w1 _
    have hl1 : b < w1.heap.size := by have := hb1.size; omega
    clear hb1 H HR
    go_wp2_with fail
    refine (once_any b A n c bs K 2 _ C1.out (by omega) (by omega) (by omega)).mono ?_
    rintro e w2 ⟨qo, rfl, C2, G2⟩
    have G2' := Lib.hid (gtrans G1.out G2.out)
    obtain ⟨⟨c0, c1, c2, c3⟩, _⟩ := blk4 (lit_call L1.out G2.out hl1)
    clear C1 G1 G2 L1
    cases qo with
    | true =>
      go_wp2
      go_ret
      exact ⟨k, rfl, HW, C2.out.mono (by omega), G2'⟩
    | false =>
      clear c0 c1 c2 c3
      go_wp2_with fail
      refine (pick_any b A n c bs (K + 1) 5 _ C2.out (by omega) (by omega)).mono ?_
      rintro e w3 ⟨r3, rfl, ⟨p3, q3⟩, C3, G3⟩
      have G3' := Lib.hid (gtrans G2'.out G3.out)
      clear C2 G2' G3
      go_wp2_with fail
      refine (pick_any b A n c bs (K + 2) 5 _ C3.out (by omega) (by omega)).mono ?_
      rintro e w4 ⟨r4, rfl, ⟨p4, q4⟩, C4, G4⟩
      have G4' := Lib.hid (gtrans G3'.out G4.out)
      clear C3 G3' G4
      go_wp2_with fail
      refine (raw_any b A n c bs (K + 3) _ C4.out (by omega)).mono ?_
      rintro e w5 ⟨r5, rfl, W5, C5, G5⟩
      have W5' := Lib.hid W5
      have G5' := Lib.hid (gtrans G4'.out G5.out)
      have hl5 := C5.out.lt
      clear C4 G4' G5 W5
      go_wp2_with fail
      refine (pick_any b A n c bs (K + 5) 4 _ (C5.out.alloc _) (by omega) (by omega)).mono ?_
      rintro e w6 ⟨r6, rfl, ⟨p6, q6⟩, C6, G6⟩
      obtain ⟨v, hv, hc⟩ := lit4 (lit_call (heap_alloc_new w5 _) G6.out hl5) (wf_i64 (r := r3) (by omega) (by omega)) (wf_i64 (r := r4) (by omega) (by omega)) (wf_i64 (r := 5) (by omega) (by omega)) W5'.out p6 q6
      have G6' := Lib.hid (gtrans (galloc G5'.out _) G6.out)
      have t6 : r6 < 4 := by omega
      clear q6 q3 q4 C5 G5' G6
      go_wp2
      go_ret
      exact ⟨v, rfl, hv, C6.out, G6'⟩

theorem ci_class {w wr : World} {A : Option Addr} {n c K X : Nat} {bs : List Int} (h : CI w A n c bs K wr) (hK : K ≤ 800) (hX : X < 4294967296) :
    Calls Try.prog 41 #[.pointer (some ⟨w.heap.size, 0, none⟩), .int .u32 (X : Int)] wr fun e w' => ∃ r : Int, e = .returned (.int .i64 r) ∧ Hid ((Lit.int .i64 r).wf = true) ∧ Hid (CI w A n c bs (K + 6) w') ∧ Hid (wr.grownBy w' (some w.heap.size)) :=
  (classFor_any w.heap.size A n c bs K X wr h.1 hK hX).mono fun _ _ ⟨x, he, hx, hc, hg⟩ => ⟨x, he, hx, ⟨hc.out, below_of_grown h.2 hg.out (Nat.le_refl _) h.2.size⟩, hg⟩

end Go.Proofs.Ytomcdfaomfkmjaa
