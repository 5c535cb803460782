/- The model's draws of control states and control words, valid or not: badCtl, ctlWord, DrawCtlPack, DrawCtlRead; nothing old has turned. -/
import Derived.Test.YtaidlmhenmlknaaDrawCtl
namespace Go.Proofs.Ytaidlmhenmlknaa
open Go.RowKit

theorem lit3u {wr : World} {g : Nat} {a1 a2 a3 r : Int} (L : wr.heap[g]? = some (.cells #[.int .u32 a1, .int .u32 a2, .int .u32 a3] 26 (0, 0))) (h1 : 0 ≤ a1 ∧ a1 < 4294967296) (h2 : 0 ≤ a2 ∧ a2 < 4294967296) (h3 : 0 ≤ a3 ∧ a3 < 4294967296) (s0 : 0 ≤ r) (s1 : r < 3 ∨ r = 0) :
    ∃ v : Nat, Hid (v < 4294967296) ∧ wr.cell? ⟨g, r.toNat, none⟩ = some (.int .u32 (v : Int)) := by
  have hcell := fun k => cell_of_row wr g k _ _ (0, 0) L
  obtain ⟨b1, rfl⟩ := Int.eq_ofNat_of_zero_le h1.1
  obtain ⟨b2, rfl⟩ := Int.eq_ofNat_of_zero_le h2.1
  obtain ⟨b3, rfl⟩ := Int.eq_ofNat_of_zero_le h3.1
  rcases (show r = 0 ∨ r = 1 ∨ r = 2 by omega) with rfl | rfl | rfl
  · exact ⟨b1, (by omega : b1 < 4294967296), hcell 0⟩
  · exact ⟨b2, (by omega : b2 < 4294967296), hcell 1⟩
  · exact ⟨b3, (by omega : b3 < 4294967296), hcell 2⟩
theorem packA_lt (S K : Int) (M : Nat) (R : Int) : packA S K M R < 4294967296 := by
  unfold packA
  split
  · rename_i h
    have := good_bounds h
    unfold packV
    omega
  · omega

set_option maxRecDepth 100000 in
set_option maxHeartbeats 2000000 in
theorem badCtl_any (b : Nat) (A : Option Addr) (n c : Nat) (bs : List Int) (K : Nat) (w : World) (h : Cur w b A n c bs K) (hK : K ≤ 800) :
    Calls Try.prog 37 #[.pointer (some ⟨b, 0, none⟩)] w fun e w' => ∃ S C R : Int, ∃ M : Nat, e = .returned (.agg #[.int .i64 S, .int .i64 C, .int .u32 (M : Int), .int .i64 R]) ∧ Hid (M < 4294967296) ∧ Hid (Cur w' b A n c bs (K + 14)) ∧ Hid (w.grownBy w' (some b)) := by
  have H := Lib.hid h
  have hlt := h.lt
  clear h
  go_enter Try.func37, Try.ntmps37
  go_wp2_with fail
  refine (ctl_any b A n c bs K _ (H.out.alloc _) (by omega)).mono ?_
  rintro e w1 ⟨S, C, R, M, rfl, HM, C1, G1⟩
  have D2 : Hid (DC w b A n c bs (K + 7) w1.heap.size S C M R (w1.alloc (.cells #[.int .i64 S, .int .i64 C, .int .u32 (M : Int), .int .i64 R] 28))) :=
    ⟨C1.out.alloc _, galloc (gtrans (World.grownBy_alloc _ _ _) G1.out) _, lit_alloc (lit_call (heap_alloc_new w _) G1.out hlt) _, heap_alloc_new w1 _, hlt, by have := G1.out.size; simp at this; omega⟩
  have hk1 : w.heap.size < w1.heap.size := D2.out.2.2.2.2.2
  have hkne : w.heap.size ≠ w1.heap.size := by omega
  have hkne' : ¬ w1.heap.size = w.heap.size := by omega
  clear C1 G1 H
  go_wp2_with fail
  refine (D2.out.pick 12 (by omega) (by omega)).mono ?_
  rintro e w3 ⟨r3, rfl, s0, s1, D3, _⟩
  clear D2
  by_cases e0 : r3 = 0
  · subst e0
    clear s0 s1
    go_wp2_with fail
    refine (D3.out.raw (by omega)).mono ?_
    rintro e w4 ⟨r4, rfl, W4, D4⟩
    clear D3
    go_wp2_with fail
    have hl4 : b < w4.heap.size := by have := D4.out.1.lt; omega
    refine ((D4.out.alloc _).pick 2 (by omega) (by omega)).mono ?_
    rintro e w5 ⟨r5, rfl, t0, t1, D5, G5⟩
    obtain ⟨v, hv, hc⟩ := lit2 (lit_call (heap_alloc_new w4 _) G5.out hl4) W4.out (wf_i64 (r := 4) (by omega) (by omega)) t0 t1
    have t2 : r5 < 2 := by omega
    obtain ⟨⟨⟨c0, c1, c2, c3⟩, f0, f1, f2, f3⟩, ⟨⟨q0, q1, q2, q3⟩, g0, g1, g2, g3⟩, _⟩ := D5.out.facts
    have D6 := Lib.hid (D5.out.set0 v)
    clear t1 G5 D4 D5
    go_wp2
    refine bodyPost_ret (v := .agg #[.int .i64 v, .int .i64 C, .int .u32 (M : Int), .int .i64 R]) ?_ rfl ⟨v, C, R, M, rfl, HM, ?_, ?_⟩
    · simp [results, Try.results37, go_sem, *]
    · with_reducible exact Lib.hid (fin4 (K' := K + 14) D6.out.cur D6.out.grown hlt (by omega) _ _ _ _).1
    · with_reducible exact Lib.hid (fin4 (K' := K + 14) D6.out.cur D6.out.grown hlt (by omega) _ _ _ _).2
  · have n0 : (r3 == 0) = false := by simp [e0]
    by_cases e1 : r3 = 1
    · subst e1
      clear s0 s1
      go_wp2_with fail
      refine (D3.out.raw (by omega)).mono ?_
      rintro e w4 ⟨r4, rfl, W4, D4⟩
      clear D3
      go_wp2_with fail
      have hl4 : b < w4.heap.size := by have := D4.out.1.lt; omega
      refine ((D4.out.alloc _).pick 3 (by omega) (by omega)).mono ?_
      rintro e w5 ⟨r5, rfl, t0, t1, D5, G5⟩
      obtain ⟨v, hv, hc⟩ := lit3 (lit_call (heap_alloc_new w4 _) G5.out hl4) W4.out (wf_i64 (r := 4) (by omega) (by omega)) (wf_i64 (r := 5) (by omega) (by omega)) t0 t1
      have t2 : r5 < 3 := by omega
      obtain ⟨⟨⟨c0, c1, c2, c3⟩, f0, f1, f2, f3⟩, ⟨⟨q0, q1, q2, q3⟩, g0, g1, g2, g3⟩, _⟩ := D5.out.facts
      have D6 := Lib.hid (D5.out.set1 v)
      clear t1 G5 D4 D5
      go_wp2
      refine bodyPost_ret (v := .agg #[.int .i64 S, .int .i64 v, .int .u32 (M : Int), .int .i64 R]) ?_ rfl ⟨S, v, R, M, rfl, HM, ?_, ?_⟩
      · simp [results, Try.results37, go_sem, *]
      · with_reducible exact Lib.hid (fin4 (K' := K + 14) D6.out.cur D6.out.grown hlt (by omega) _ _ _ _).1
      · with_reducible exact Lib.hid (fin4 (K' := K + 14) D6.out.cur D6.out.grown hlt (by omega) _ _ _ _).2
    · have n1 : (r3 == 1) = false := by simp [e1]
      by_cases e2 : r3 = 2
      · subst e2
        clear s0 s1
        go_wp2_with fail
        refine (D3.out.word (by omega)).mono ?_
        rintro e w4 ⟨r4, rfl, W4, D4⟩
        clear D3
        go_wp2_with fail
        have hl4 : b < w4.heap.size := by have := D4.out.1.lt; omega
        refine ((D4.out.alloc _).pick 3 (by omega) (by omega)).mono ?_
        rintro e w5 ⟨r5, rfl, t0, t1, D5, G5⟩
        obtain ⟨v, hv, hc⟩ := lit3u (lit_call (heap_alloc_new w4 _) G5.out hl4) W4 (by omega) (by omega) t0 t1
        have t2 : r5 < 3 := by omega
        obtain ⟨⟨⟨c0, c1, c2, c3⟩, f0, f1, f2, f3⟩, ⟨⟨q0, q1, q2, q3⟩, g0, g1, g2, g3⟩, _⟩ := D5.out.facts
        have D6 := Lib.hid (D5.out.set2 v)
        clear t1 G5 D4 D5
        go_wp2
        refine bodyPost_ret (v := .agg #[.int .i64 S, .int .i64 C, .int .u32 (v : Int), .int .i64 R]) ?_ rfl ⟨S, C, R, v, rfl, hv, ?_, ?_⟩
        · simp [results, Try.results37, go_sem, *]
        · with_reducible exact Lib.hid (fin4 (K' := K + 14) D6.out.cur D6.out.grown hlt (by omega) _ _ _ _).1
        · with_reducible exact Lib.hid (fin4 (K' := K + 14) D6.out.cur D6.out.grown hlt (by omega) _ _ _ _).2
      · have n2 : (r3 == 2) = false := by simp [e2]
        by_cases e3 : r3 = 3
        · subst e3
          clear s0 s1
          go_wp2_with fail
          refine (D3.out.raw (by omega)).mono ?_
          rintro e w4 ⟨r4, rfl, W4, D4⟩
          clear D3
          go_wp2_with fail
          have hl4 : b < w4.heap.size := by have := D4.out.1.lt; omega
          refine ((D4.out.alloc _).pick 4 (by omega) (by omega)).mono ?_
          rintro e w5 ⟨r5, rfl, t0, t1, D5, G5⟩
          obtain ⟨v, hv, hc⟩ := lit4 (lit_call (heap_alloc_new w4 _) G5.out hl4) W4.out (wf_i64 (r := 16) (by omega) (by omega)) (wf_i64 (r := 17) (by omega) (by omega)) (wf_i64 (r := 1) (by omega) (by omega)) t0 t1
          have t2 : r5 < 4 := by omega
          obtain ⟨⟨⟨c0, c1, c2, c3⟩, f0, f1, f2, f3⟩, ⟨⟨q0, q1, q2, q3⟩, g0, g1, g2, g3⟩, _⟩ := D5.out.facts
          have D6 := Lib.hid (D5.out.set3 v)
          clear t1 G5 D4 D5
          go_wp2
          refine bodyPost_ret (v := .agg #[.int .i64 S, .int .i64 C, .int .u32 (M : Int), .int .i64 v]) ?_ rfl ⟨S, C, v, M, rfl, HM, ?_, ?_⟩
          · simp [results, Try.results37, go_sem, *]
          · with_reducible exact Lib.hid (fin4 (K' := K + 14) D6.out.cur D6.out.grown hlt (by omega) _ _ _ _).1
          · with_reducible exact Lib.hid (fin4 (K' := K + 14) D6.out.cur D6.out.grown hlt (by omega) _ _ _ _).2
        · have n3 : (r3 == 3) = false := by simp [e3]
          obtain ⟨⟨⟨c0, c1, c2, c3⟩, f0, f1, f2, f3⟩, ⟨⟨q0, q1, q2, q3⟩, g0, g1, g2, g3⟩, _⟩ := D3.out.facts
          clear e0 e1 e2 e3 s0 s1
          go_wp2
          refine bodyPost_ret (v := .agg #[.int .i64 S, .int .i64 C, .int .u32 (M : Int), .int .i64 R]) ?_ rfl ⟨S, C, R, M, rfl, HM, ?_, ?_⟩
          · simp [results, Try.results37, go_sem, *]
          · with_reducible exact Lib.hid (fin4 (K' := K + 14) D3.out.cur D3.out.grown hlt (by omega) _ _ _ _).1
          · with_reducible exact Lib.hid (fin4 (K' := K + 14) D3.out.cur D3.out.grown hlt (by omega) _ _ _ _).2

set_option maxRecDepth 100000 in
set_option maxHeartbeats 2000000 in
theorem ctlWord_any (b : Nat) (A : Option Addr) (n c : Nat) (bs : List Int) (K : Nat) (w : World) (h : Cur w b A n c bs K) (hK : K ≤ 800) :
    Calls Try.prog 41 #[.pointer (some ⟨b, 0, none⟩)] w fun e w' => ∃ X : Nat, e = .returned (.int .u32 (X : Int)) ∧ Hid (X < 4294967296) ∧ Hid (Cur w' b A n c bs (K + 13)) ∧ Hid (w.grownBy w' (some b)) := by
  have H := Lib.hid h
  clear h
  go_enter Try.func41, Try.ntmps41
  go_wp2_with fail
  refine (ctl_any b A n c bs K _ H.out (by omega)).mono ?_
  rintro e w1 ⟨S, C, R, M, rfl, HM, C1, G1⟩
  go_wp2_with fail
  refine (sCtlPack_any S C M R _ HM.out).mono ?_
  rintro e w2 ⟨rfl, hb⟩
  have C2 := Lib.hid (C1.out.below hb)
  have G2 := Lib.hid (gtrans G1.out (gbelow hb))
  have HX := Lib.hid (packA_lt S C M R)
  clear hb C1 G1 H
  generalize packA S C M R = X at *
  generalize decide (CtlGood S C M R) = q at *
  go_wp2_with fail
  refine (once_any b A n c bs (K + 7) 12 _ C2.out (by omega) (by omega) (by omega)).mono ?_
  rintro e w3 ⟨r, rfl, C3, G3⟩
  cases r with
  | false =>
    go_wp2
    go_ret
    exact ⟨X, rfl, HX, C3.out.mono (by omega), gtrans G2.out G3.out⟩
  | true =>
    go_wp2_with fail
    refine (cword_any b A n c bs (K + 8) _ C3.out (by omega)).mono ?_
    rintro e w4 ⟨x, rfl, ⟨x0, x1⟩, C4, G4⟩
    obtain ⟨Y, rfl⟩ := Int.eq_ofNat_of_zero_le x0
    have hY : Hid (Y < 4294967296) := (by omega : Y < 4294967296)
    clear x0 x1
    go_wp2
    go_ret
    exact ⟨Y, rfl, hY, C4.out, gtrans (gtrans G2.out G3.out) G4.out⟩

/-- A control state is drawn. -/
def DrawnCtl (w : World) (e : Ending) (w' : World) : Prop := ∃ S C R : Int, ∃ M : Nat, e = .returned (.agg #[.int .i64 S, .int .i64 C, .int .u32 (M : Int), .int .i64 R]) ∧ Hid (M < 4294967296) ∧ Hid (Below w.heap.size w w')

theorem lit_ne {wr w' : World} {g b : Nat} {o : Obj} (L : wr.heap[g]? = some o) (hg : wr.grownBy w' (some b)) (hne : g ≠ b) : w'.heap[g]? = some o := (hg.block g (Array.getElem?_eq_some_iff.1 L).1 (by simp; omega)).trans L

set_option maxRecDepth 100000 in
set_option maxHeartbeats 2000000 in
theorem drawCtlPack (A : Option Addr) (n c : Nat) (bs : List Int) (w : World) (h : RdK .u8 w w.heap.size A n bs) (hf : ∀ z ∈ bs, 0 ≤ z ∧ z < 256) (hn : n ≤ 1048576) :
    Calls Try.prog 20 #[.slice A n c] w (DrawnCtl w) := by
  have H : Hid (∀ o, RdK .u8 (w.alloc o) (w.alloc o).heap.size A n bs) := fun o => rdk_more (h.keep fun p hp => World.cell?_alloc_lt w o p hp) (by simp)
  have HF := Lib.hid hf
  clear h hf
  go_enter Try.func20, Try.ntmps20
  go_wp2_with fail
  refine (open_cur A n c bs _ (H.out _) HF.out hn).mono ?_
  rintro e w1 ⟨rfl, C1, B1⟩
  have z1 := B1.out.size
  obtain ⟨u1, hb1⟩ := one_new B1.out
  have U1 := Lib.hid u1
  have HB1 := Lib.hid hb1
  simp only [World.size_alloc] at C1 z1
  have hz : w.heap.size < w1.heap.size := by omega
  clear H HF B1 u1 hb1
  go_wp2_with fail
  refine (badCtl_any (w.heap.size + 1) A n c bs 0 _ C1.out (by omega)).mono ?_
  rintro e w2 ⟨S, C, R, M, rfl, HM, _, G2⟩
  obtain ⟨⟨q0, q1, q2, q3⟩, g0, g1, g2, g3⟩ := blk4 (lit_ne U1.out G2.out (by omega))
  have HB2 := Lib.hid (below_of_grown HB1.out G2.out (by omega) (by omega))
  clear U1 HB1 G2 C1
  go_wp2
  refine bodyPost_ret (v := .agg #[.int .i64 S, .int .i64 C, .int .u32 (M : Int), .int .i64 R]) ?_ rfl ⟨S, C, R, M, rfl, HM, ?_⟩
  · simp [results, Try.results20, go_sem, *]
  · exact Lib.hid (by repeat (first | exact Below.refl _ _ | refine Below.drew ?_ | refine Below.setCell ?_ (by first | omega | (simp; done) | (simp; omega) | (simp [*]; done)) _ | refine Below.alloc ?_ (by first | omega | (simp; done) | (simp; omega) | (simp [*]; done)) _ | refine Below.trans ?_ (Below.mono (HB2.out) (by first | omega | (simp; done) | (simp; omega) | (simp [*]; done)))))

theorem rd_four (w : World) (a b c d : Int) : RdK .i64 (w.alloc (.cells #[.int .i64 a, .int .i64 b, .int .i64 c, .int .i64 d] 3)) (w.heap.size + 1) (some ⟨w.heap.size, 0, none⟩) 4 [a, b, c, d] :=
  ⟨rfl, fun _ => ⟨w.heap.size, 0, rfl, by omega, fun i hi => by
    rw [cell_of_row _ w.heap.size (0 + i) _ _ (0, 0) (heap_alloc_new w _)]
    rcases (show i = 0 ∨ i = 1 ∨ i = 2 ∨ i = 3 by omega) with rfl | rfl | rfl | rfl <;> rfl⟩⟩

set_option maxRecDepth 100000 in
set_option maxHeartbeats 2000000 in
theorem drawCtlRead (A : Option Addr) (n c : Nat) (bs : List Int) (w : World) (h : RdK .u8 w w.heap.size A n bs) (hf : ∀ z ∈ bs, 0 ≤ z ∧ z < 256) (hn : n ≤ 1048576) :
    Calls Try.prog 24 #[.slice A n c] w fun e w' => ∃ X : Nat, e = .returned (.int .u32 (X : Int)) ∧ Hid (X < 4294967296) ∧ Hid (Below w.heap.size w w') := by
  have H := Lib.hid h
  have HF := Lib.hid hf
  clear h hf
  go_enter Try.func24, Try.ntmps24
  go_wp2_with fail
  refine (open_cur A n c bs _ H.out HF.out hn).mono ?_
  rintro e w1 ⟨rfl, C1, B1⟩
  clear H HF
  go_wp2_with fail
  refine (ctlWord_any w.heap.size A n c bs 0 _ C1.out (by omega)).mono ?_
  rintro e w2 ⟨X, rfl, HX, C2, G2⟩
  have I2 : Hid (CI w A n c bs 13 w2) := ⟨C2.out, below_of_grown B1.out G2.out (Nat.le_refl _) B1.out.size⟩
  clear C1 B1 C2 G2
  go_wp2_with fail
  refine (once_any w.heap.size A n c bs 13 3 _ I2.out.1 (by omega) (by omega) (by omega)).mono ?_
  rintro e w3 ⟨r, rfl, C3, G3⟩
  have I3 : Hid (CI w A n c bs 14 w3) := ⟨C3.out, below_of_grown I2.out.2 G3.out (Nat.le_refl _) I2.out.2.size⟩
  clear C3 G3 I2
  cases r with
  | false =>
    go_wp2
    go_ret
    exact ⟨X, rfl, HX, I3.out.2⟩
  | true =>
    go_wp2_with fail
    refine (ci_pick I3.out 8 (by omega) (by omega)).mono ?_
    rintro e w4 ⟨r4, rfl, p4, p4', I4, _⟩
    have b4 : r4 < 8 := by omega
    clear p4' I3
    go_wp2_with fail
    refine (ci_pick I4.out 4 (by omega) (by omega)).mono ?_
    rintro e w5 ⟨r5, rfl, p5, p5', I5, _⟩
    have b5 : r5 < 4 := by omega
    clear p5' I4
    go_wp2_with fail
    refine (ci_pick I5.out 4 (by omega) (by omega)).mono ?_
    rintro e w6 ⟨r6, rfl, p6, p6', I6, _⟩
    have b6 : r6 < 4 := by omega
    clear p6' I5
    go_wp2_with fail
    refine (ci_pick I6.out 8 (by omega) (by omega)).mono ?_
    rintro e w7 ⟨r7, rfl, p7, p7', I7, _⟩
    have b7 : r7 < 8 := by omega
    clear p7' I6
    go_wp2_with fail
    refine (sBitsOf_any _ 4 4 _ _ _ (rd_four w7 r4 (16 + r5) (20 + r6) (24 + r7)) (by simp) (by omega)).mono ?_
    rintro e w8 ⟨rfl, hb⟩
    have z7 := I7.out.2.size
    have HB : Hid (Below w.heap.size w w8) := (I7.out.2.alloc z7 _).trans (hb.mono (by simp; omega))
    have HO := Lib.hid (ofA_lt [r4, 16 + r5, 20 + r6, 24 + r7])
    generalize ofA [r4, 16 + r5, 20 + r6, 24 + r7] = Y at *
    generalize ofB [r4, 16 + r5, 20 + r6, 24 + r7] = q at *
    clear hb I7
    go_wp2
    go_ret
    exact ⟨Y, rfl, HO, HB⟩

end Go.Proofs.Ytaidlmhenmlknaa
