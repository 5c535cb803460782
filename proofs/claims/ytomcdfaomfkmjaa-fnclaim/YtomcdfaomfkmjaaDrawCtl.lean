/- The model's draws of control states: ctl, badCtl, ctlWord, DrawCtlPack, DrawCtlRead; nothing old has turned. -/
import Derived.Test.YtomcdfaomfkmjaaSCtlP
import Derived.Test.YtomcdfaomfkmjaaDrawT
namespace Go.Proofs.Ytomcdfaomfkmjaa
open Go.RowKit

/-- A block that holds a control state. -/
def ctlB (S C M R : Int) : Obj := .cells #[.int .i64 S, .int .i64 C, .int .u32 M, .int .i64 R] 42 (0, 0)
/-- While a control state is drawn: the cursor, the cell of the result, the block of the state so far; nothing else has turned. -/
def DC (w0 : World) (b : Nat) (A : Option Addr) (n c : Nat) (bs : List Int) (K kb : Nat) (S C M R : Int) (wr : World) : Prop :=
  Cur wr b A n c bs K ∧ w0.grownBy wr (some b) ∧ wr.heap[w0.heap.size]? = some (ctlB 0 0 0 0) ∧ wr.heap[kb]? = some (ctlB S C M R) ∧ b < w0.heap.size ∧ w0.heap.size < kb

section
variable {w0 wr w' : World} {b n c K kb : Nat} {A : Option Addr} {bs : List Int} {S C M R : Int}
theorem DC.moved {K' : Nat} (h : DC w0 b A n c bs K kb S C M R wr) (hc : Cur w' b A n c bs K') (hg : wr.grownBy w' (some b)) : DC w0 b A n c bs K' kb S C M R w' := by
  obtain ⟨_, h2, h3, h4, h5, h6⟩ := h
  exact ⟨hc, gtrans h2 hg, lit_call h3 hg h5, lit_call h4 hg (by omega), h5, h6⟩
theorem DC.drew (h : DC w0 b A n c bs K kb S C M R wr) : DC w0 b A n c bs K kb S C M R wr.drew := h.moved h.1.drew (gdrew (World.grownBy.refl _ _))
theorem DC.alloc (h : DC w0 b A n c bs K kb S C M R wr) (o : Obj) : DC w0 b A n c bs K kb S C M R (wr.alloc o) := h.moved (h.1.alloc o) (World.grownBy_alloc _ _ _)
theorem DC.pick (h : DC w0 b A n c bs K kb S C M R wr) (N : Int) (hK : K ≤ 1000) (hN : N ≤ 100000) :
    Calls Try.prog 42 #[.pointer (some ⟨b, 0, none⟩), .int .i64 N] wr fun e w' => ∃ r : Int, e = .returned (.int .i64 r) ∧ 0 ≤ r ∧ (r < N ∨ r = 0) ∧ Hid (DC w0 b A n c bs (K + 1) kb S C M R w') ∧ Hid (wr.grownBy w' (some b)) :=
  (pick_any b A n c bs K N wr h.1 (by omega) (by omega)).mono fun _ _ ⟨x, he, hx, hc, hg⟩ => ⟨x, he, hx.1, hx.2, h.moved hc.out hg.out, hg⟩
theorem DC.once (h : DC w0 b A n c bs K kb S C M R wr) (N : Int) (hK : K ≤ 1000) (h0 : 0 ≤ N) (hN : N ≤ 1000) :
    Calls Try.prog 59 #[.pointer (some ⟨b, 0, none⟩), .int .i64 N] wr fun e w' => ∃ r : Bool, e = .returned (.bool r) ∧ Hid (DC w0 b A n c bs (K + 1) kb S C M R w') :=
  (once_any b A n c bs K N wr h.1 (by omega) h0 (by omega)).mono fun _ _ ⟨x, he, hc, hg⟩ => ⟨x, he, h.moved hc.out hg.out⟩
theorem DC.wide (h : DC w0 b A n c bs K kb S C M R wr) (N : Int) (hK : K ≤ 1000) (h0 : 0 < N) (hN : N ≤ 100000) :
    Calls Try.prog 74 #[.pointer (some ⟨b, 0, none⟩), .int .i64 N] wr fun e w' => ∃ r : Int, e = .returned (.int .i64 r) ∧ 0 ≤ r ∧ r < N ∧ Hid (DC w0 b A n c bs (K + 3) kb S C M R w') ∧ Hid (wr.grownBy w' (some b)) :=
  (wide_any b A n c bs K N wr h.1 (by omega) h0 (by omega)).mono fun _ _ ⟨x, he, hx, hc, hg⟩ => ⟨x, he, hx.1, hx.2, h.moved hc.out hg.out, hg⟩
theorem DC.raw (h : DC w0 b A n c bs K kb S C M R wr) (hK : K ≤ 1000) :
    Calls Try.prog 43 #[.pointer (some ⟨b, 0, none⟩)] wr fun e w' => ∃ r : Int, e = .returned (.int .i64 r) ∧ Hid ((Lit.int .i64 r).wf = true) ∧ Hid (DC w0 b A n c bs (K + 2) kb S C M R w') :=
  (raw_any b A n c bs K wr h.1 (by omega)).mono fun _ _ ⟨x, he, hx, hc, hg⟩ => ⟨x, he, hx, h.moved hc.out hg.out⟩
theorem DC.word (h : DC w0 b A n c bs K kb S C M R wr) (hK : K ≤ 1000) :
    Calls Try.prog 65 #[.pointer (some ⟨b, 0, none⟩)] wr fun e w' => ∃ r : Int, e = .returned (.int .u32 r) ∧ (0 ≤ r ∧ r < 4294967296) ∧ Hid (DC w0 b A n c bs (K + 5) kb S C M R w') :=
  (cword_any b A n c bs K wr h.1 (by omega)).mono fun _ _ ⟨x, he, hx, hc, hg⟩ => ⟨x, he, hx, h.moved hc.out hg.out⟩
/-- A store into the state. -/
theorem DC.stored (h : DC w0 b A n c bs K kb S C M R wr) {i : Nat} {v : Value} {S' C' M' R' : Int} (he : (wr.setCell ⟨kb, i, none⟩ v).heap[kb]? = some (ctlB S' C' M' R')) : DC w0 b A n c bs K kb S' C' M' R' (wr.setCell ⟨kb, i, none⟩ v) := by
  obtain ⟨h1, h2, h3, h4, h5, h6⟩ := h
  have hk : ∀ k, k ≠ kb → (wr.setCell ⟨kb, i, none⟩ v).heap[k]? = wr.heap[k]? := fun k hk => Below.heap_setCell wr ⟨kb, i, none⟩ v k hk
  exact ⟨h1.keep fun k hk2 => hk k (by omega), gnew h2 (by omega) v, (hk _ (by omega)).trans h3, he, h5, h6⟩
theorem DC.set0 (h : DC w0 b A n c bs K kb S C M R wr) (x : Int) : DC w0 b A n c bs K kb x C M R (wr.setCell ⟨kb, 0, none⟩ (.int .i64 x)) := h.stored (by simp [World.setCell, Array.getElem?_modify, h.2.2.2.1, ctlB])
theorem DC.set1 (h : DC w0 b A n c bs K kb S C M R wr) (x : Int) : DC w0 b A n c bs K kb S x M R (wr.setCell ⟨kb, 1, none⟩ (.int .i64 x)) := h.stored (by simp [World.setCell, Array.getElem?_modify, h.2.2.2.1, ctlB])
theorem DC.set2 (h : DC w0 b A n c bs K kb S C M R wr) (x : Int) : DC w0 b A n c bs K kb S C x R (wr.setCell ⟨kb, 2, none⟩ (.int .u32 x)) := h.stored (by simp [World.setCell, Array.getElem?_modify, h.2.2.2.1, ctlB])
theorem DC.set3 (h : DC w0 b A n c bs K kb S C M R wr) (x : Int) : DC w0 b A n c bs K kb S C M x (wr.setCell ⟨kb, 3, none⟩ (.int .i64 x)) := h.stored (by simp [World.setCell, Array.getElem?_modify, h.2.2.2.1, ctlB])
end

/-- What the walks below read off a state that is drawn. -/
theorem DC.facts {w0 wr : World} {b n c K kb : Nat} {A : Option Addr} {bs : List Int} {S C M R : Int} (h : DC w0 b A n c bs K kb S C M R wr) :
    ((wr.cell? ⟨kb, 0, none⟩ = some (.int .i64 S) ∧ wr.cell? ⟨kb, 1, none⟩ = some (.int .i64 C) ∧ wr.cell? ⟨kb, 2, none⟩ = some (.int .u32 M) ∧ wr.cell? ⟨kb, 3, none⟩ = some (.int .i64 R)) ∧
      (wr.frozen? ⟨kb, 0, none⟩ = false ∧ wr.frozen? ⟨kb, 1, none⟩ = false ∧ wr.frozen? ⟨kb, 2, none⟩ = false ∧ wr.frozen? ⟨kb, 3, none⟩ = false)) ∧
    ((wr.cell? ⟨w0.heap.size, 0, none⟩ = some (.int .i64 0) ∧ wr.cell? ⟨w0.heap.size, 1, none⟩ = some (.int .i64 0) ∧ wr.cell? ⟨w0.heap.size, 2, none⟩ = some (.int .u32 0) ∧ wr.cell? ⟨w0.heap.size, 3, none⟩ = some (.int .i64 0)) ∧
      (wr.frozen? ⟨w0.heap.size, 0, none⟩ = false ∧ wr.frozen? ⟨w0.heap.size, 1, none⟩ = false ∧ wr.frozen? ⟨w0.heap.size, 2, none⟩ = false ∧ wr.frozen? ⟨w0.heap.size, 3, none⟩ = false)) ∧
    w0.heap.size ≠ kb :=
  ⟨blk4 h.2.2.2.1, blk4 h.2.2.1, Nat.ne_of_lt h.2.2.2.2.2⟩
/-- The end: the state is handed out through the cell of the result. -/
theorem fin4 {w0 wr : World} {b n c K K' : Nat} {A : Option Addr} {bs : List Int} (h1 : Cur wr b A n c bs K) (h2 : w0.grownBy wr (some b)) (h5 : b < w0.heap.size) (hK : K ≤ K') (v0 v1 v2 v3 : Value) :
    Cur ((((wr.setCell ⟨w0.heap.size, 0, none⟩ v0).setCell ⟨w0.heap.size, 1, none⟩ v1).setCell ⟨w0.heap.size, 2, none⟩ v2).setCell ⟨w0.heap.size, 3, none⟩ v3) b A n c bs K' ∧
      w0.grownBy ((((wr.setCell ⟨w0.heap.size, 0, none⟩ v0).setCell ⟨w0.heap.size, 1, none⟩ v1).setCell ⟨w0.heap.size, 2, none⟩ v2).setCell ⟨w0.heap.size, 3, none⟩ v3) (some b) := by
  refine ⟨(h1.mono hK).keep fun k hk => ?_, gnew (gnew (gnew (gnew h2 (Nat.le_refl _) _) (Nat.le_refl _) _) (Nat.le_refl _) _) (Nat.le_refl _) _⟩
  rw [Below.heap_setCell _ _ _ _ (by show k ≠ w0.heap.size; omega), Below.heap_setCell _ _ _ _ (by show k ≠ w0.heap.size; omega), Below.heap_setCell _ _ _ _ (by show k ≠ w0.heap.size; omega), Below.heap_setCell _ _ _ _ (by show k ≠ w0.heap.size; omega)]
theorem DC.cur {w0 wr : World} {b n c K kb : Nat} {A : Option Addr} {bs : List Int} {S C M R : Int} (h : DC w0 b A n c bs K kb S C M R wr) : Cur wr b A n c bs K := h.1
theorem DC.grown {w0 wr : World} {b n c K kb : Nat} {A : Option Addr} {bs : List Int} {S C M R : Int} (h : DC w0 b A n c bs K kb S C M R wr) : w0.grownBy wr (some b) := h.2.1
theorem rem_facts {r y : Int} (h0 : 0 ≤ r) (h1 : 1 < y) (h2 : y ≤ 65536) : (0 ≤ r % (y - 1) ∧ r % (y - 1) < 65536) ∧ r.tmod (y - 1) = r % (y - 1) ∧ IntKind.i64.wrap (r % (y - 1)) = r % (y - 1) ∧ IntKind.i64.wrap (1 + r % (y - 1)) = 1 + r % (y - 1) ∧ IntKind.u32.wrap (1 + r % (y - 1)) = 1 + r % (y - 1) := by
  have a0 := Int.emod_nonneg r (show y - 1 ≠ 0 by omega)
  have a1 := Int.emod_lt_of_pos r (show 0 < y - 1 by omega)
  exact ⟨⟨a0, by omega⟩, Int.tmod_eq_emod_of_nonneg h0, IntWalk.i64_in _ (by omega), IntWalk.i64_in _ (by omega), by generalize r % (y - 1) = z at *; simp only [IntKind.wrap, IntKind.bits, IntKind.signed]; simp; omega⟩
theorem page_map {r y : Int} (h0 : 0 ≤ r) (h1 : 1 < y) (h2 : y ≤ 65536) : ∃ m : Nat, 1 + r % (y - 1) = (m : Int) ∧ m < 4294967296 ∧ m ≤ 65536 := by
  have a0 := Int.emod_nonneg r (show y - 1 ≠ 0 by omega)
  have a1 := Int.emod_lt_of_pos r (show 0 < y - 1 by omega)
  exact ⟨(1 + r % (y - 1)).toNat, by omega, by omega, by omega⟩

set_option maxRecDepth 100000 in
set_option maxHeartbeats 2000000 in
theorem ctl_any (b : Nat) (A : Option Addr) (n c : Nat) (bs : List Int) (K : Nat) (w : World) (h : Cur w b A n c bs K) (hK : K ≤ 900) :
    Calls Try.prog 64 #[.pointer (some ⟨b, 0, none⟩)] w fun e w' => ∃ S C R : Int, ∃ M : Nat, e = .returned (.agg #[.int .i64 S, .int .i64 C, .int .u32 (M : Int), .int .i64 R]) ∧ Hid (M < 4294967296) ∧ Hid (Cur w' b A n c bs (K + 7)) ∧ Hid (w.grownBy w' (some b)) := by
  have H := Lib.hid h
  have hlt := h.lt
  clear h
  go_enter Try.func64, Try.ntmps64
  go_wp2_with fail
  refine (pick_any b A n c bs K 4 _ (H.out.alloc _) (by omega) (by omega)).mono ?_
  rintro e w1 ⟨r, rfl, ⟨p0, p1⟩, C1, G1⟩
  have D2 : Hid (DC w b A n c bs (K + 1) w1.heap.size r 0 0 0 (w1.alloc (.cells #[.int .i64 r, .int .i64 0, .int .u32 0, .int .i64 0] 42))) :=
    ⟨C1.out.alloc _, galloc (gtrans (World.grownBy_alloc _ _ _) G1.out) _, lit_alloc (lit_call (heap_alloc_new w _) G1.out hlt) _, heap_alloc_new w1 _, hlt, by have := G1.out.size; simp at this; omega⟩
  obtain ⟨⟨q0, q1, q2, q3⟩, g0, g1, g2, g3⟩ := blk4 (lit_call (heap_alloc_new w _) G1.out hlt)
  have hk1 : w.heap.size < w1.heap.size := D2.out.2.2.2.2.2
  have hkne : w.heap.size ≠ w1.heap.size := by omega
  have hkne' : ¬ w1.heap.size = w.heap.size := by omega
  have G1' := Lib.hid (gtrans (World.grownBy_alloc _ _ _) G1.out)
  clear G1 H
  rcases four p0 p1 with rfl | rfl | rfl | rfl
  · clear p0 p1
    go_wp2
    refine bodyPost_ret (v := .agg #[.int .i64 0, .int .i64 0, .int .u32 ((0 : Nat) : Int), .int .i64 0]) ?_ rfl ⟨0, 0, 0, 0, rfl, (by omega : 0 < 4294967296), ?_, ?_⟩
    · simp [results, Try.results64, go_sem, *]
    · with_reducible exact Lib.hid (((fin4 (K' := K + 7) C1.out G1'.out hlt (by omega) _ _ _ _).1.alloc _))
    · with_reducible exact Lib.hid (galloc (fin4 (K' := K + 7) C1.out G1'.out hlt (by omega) _ _ _ _).2 _)
  · clear p0 p1
    clear q0 q1 q2 q3 g0 g1 g2 g3
    go_wp2_with fail
    refine (D2.out.pick 5 (by omega) (by omega)).mono ?_
    rintro e w3 ⟨r3, rfl, s0, s1, D3, _⟩
    have hcl : IsClass r3 := ⟨s0, by omega⟩
    obtain ⟨⟨⟨c0, c1, c2, c3⟩, f0, f1, f2, f3⟩, _, _⟩ := D3.out.facts
    have D4 := Lib.hid (D3.out.set1 r3)
    have D4' := Lib.hid D4.out.drew
    have x0 := D4.out.facts.1.1.2.1
    have x0' := D4'.out.facts.1.1.2.1
    obtain ⟨pp, y, hp, hy1, hy2, hpow⟩ : ∃ pp y : Nat, perV r3 = (pp : Int) ∧ (1 : Int) < (y : Int) ∧ (y : Int) ≤ 65536 ∧ (pp ≤ 30 ∧ 2 ^ pp = y) := by
      have e1 := perV_nat hcl
      have e2 := lim_le hcl
      have e3 : 2 ^ 1 ≤ 2 ^ (perV r3).toNat := Nat.pow_le_pow_right (by omega) (by omega)
      exact ⟨(perV r3).toNat, 2 ^ (perV r3).toNat, e1.1.symm, by omega, by omega, by omega, rfl⟩
    have HPP : Hid (∀ W, Calls Try.prog 46 #[.int .i64 r3] W fun e w' => e = .returned (.int .i64 (pp : Int)) ∧ W = w') := fun W => by have := sPerPage_any r3 W; rwa [hp] at this
    have HPW : Hid (∀ W, Calls Try.prog 67 #[.int .i64 (pp : Int)] W fun e w' => e = .returned (.int .i64 (y : Int)) ∧ W = w') := fun W => by have := pow_any pp W hpow.1; rwa [hpow.2] at this
    have hy3 : ¬ (y : Int) - 1 = 0 := by omega
    have hy4 : IntKind.i64.wrap ((y : Int) - 1) = (y : Int) - 1 := IntWalk.i64_in _ (by omega)
    clear s1 D2 D3 hp hpow hcl
    go_wp2_with fail
    go_region_held3 (fun W => W.cell? ⟨w1.heap.size, 1, none⟩ = some (.int .i64 r3))
      (first | exact x0 | exact x0' | exact x5 | exact (D5.out.set2 _).facts.1.1.2.1)
      (first | (go_at_call 42; refine (D4'.out.pick 65535 (by omega) (by omega)).mono ?_; rintro e w5 ⟨r5, rfl, t0, t1, D5, _⟩; have x5 := D5.out.facts.1.1.2.1; have y5 := D5.out.facts.1.1.2.2.1; have z5 := D5.out.facts.1.2.2.2.1; obtain ⟨⟨u1, u2⟩, u3, u4, u5, u6⟩ := rem_facts t0 hy1 hy2)
             | (go_at_call 46; refine (HPP.out _).mono ?_; rintro e w6 ⟨rfl, rfl⟩)
             | (go_at_call 67; refine (HPW.out _).mono ?_; rintro e w7 ⟨rfl, rfl⟩))
    clear u1 u2 u3 u4 u5 u6 x5 y5 z5 x0 x0' D4 D4' c0 c1 c2 c3 f0 f1 f2 f3
    obtain ⟨m, hm, hm1, _⟩ := page_map t0 hy1 hy2
    have D6 := Lib.hid (D5.out.set2 (m : Int))
    rw [hm]
    clear hm D5 t1
    go_wp2_with fail
    refine (D6.out.once 2 (by omega) (by omega) (by omega)).mono ?_
    rintro e w7 ⟨q, rfl, D7⟩
    clear D6
    cases q with
    | false =>
      obtain ⟨⟨⟨c0, c1, c2, c3⟩, f0, f1, f2, f3⟩, ⟨⟨q0, q1, q2, q3⟩, g0, g1, g2, g3⟩, _⟩ := D7.out.facts
      clear HPP HPW hy1 hy2 hy3 hy4
      go_wp2
      refine bodyPost_ret (v := .agg #[.int .i64 1, .int .i64 r3, .int .u32 ((m : Nat) : Int), .int .i64 0]) ?_ rfl ⟨1, r3, 0, m, rfl, hm1, ?_, ?_⟩
      · simp [results, Try.results64, go_sem, *]
      · with_reducible exact Lib.hid ((fin4 (K' := K + 7) D7.out.cur D7.out.grown hlt (by omega) _ _ _ _).1)
      · with_reducible exact Lib.hid ((fin4 (K' := K + 7) D7.out.cur D7.out.grown hlt (by omega) _ _ _ _).2)
    | true =>
      have D7' := Lib.hid D7.out.drew
      have x0 := D7.out.facts.1.1.2.1
      have x0' := D7'.out.facts.1.1.2.1
      go_wp2_with fail
      go_region_held3 (fun W => W.cell? ⟨w1.heap.size, 1, none⟩ = some (.int .i64 r3))
        (first | exact x0 | exact x0' | exact x5 | exact (D8.out.set2 _).facts.1.1.2.1)
        (first | (go_at_call 74; refine (D7'.out.wide 65535 (by omega) (by omega) (by omega)).mono ?_; rintro e w8 ⟨r8, rfl, t8, t9, D8, _⟩; have x5 := D8.out.facts.1.1.2.1; have y5 := D8.out.facts.1.1.2.2.1; have z5 := D8.out.facts.1.2.2.2.1; obtain ⟨⟨u1, u2⟩, u3, u4, u5, u6⟩ := rem_facts t8 hy1 hy2)
               | (go_at_call 46; refine (HPP.out _).mono ?_; rintro e w6 ⟨rfl, rfl⟩)
               | (go_at_call 67; refine (HPW.out _).mono ?_; rintro e w7 ⟨rfl, rfl⟩))
      clear u1 u2 u3 u4 u5 u6 x5 y5 z5 x0 x0' D7 D7'
      obtain ⟨m9, hm9, hm8, _⟩ := page_map t8 hy1 hy2
      have D9 := Lib.hid (D8.out.set2 (m9 : Int))
      obtain ⟨⟨⟨c0, c1, c2, c3⟩, f0, f1, f2, f3⟩, ⟨⟨q0, q1, q2, q3⟩, g0, g1, g2, g3⟩, _⟩ := D8.out.facts
      rw [hm9]
      clear hm9 D8 t9 HPP HPW hy1 hy2 hy3 hy4
      go_wp2
      refine bodyPost_ret (v := .agg #[.int .i64 1, .int .i64 r3, .int .u32 ((m9 : Nat) : Int), .int .i64 0]) ?_ rfl ⟨1, r3, 0, m9, rfl, hm8, ?_, ?_⟩
      · simp [results, Try.results64, go_sem, *]
      · with_reducible exact Lib.hid ((fin4 (K' := K + 7) D9.out.cur D9.out.grown hlt (by omega) _ _ _ _).1)
      · with_reducible exact Lib.hid ((fin4 (K' := K + 7) D9.out.cur D9.out.grown hlt (by omega) _ _ _ _).2)
  · clear p0 p1
    clear q0 q1 q2 q3 g0 g1 g2 g3
    go_wp2_with fail
    refine (D2.out.pick 4 (by omega) (by omega)).mono ?_
    rintro e w3 ⟨r3, rfl, s0, s1, D3, _⟩
    have s2 : r3 < 4 := by omega
    obtain ⟨⟨⟨c0, c1, c2, c3⟩, f0, f1, f2, f3⟩, ⟨⟨q0, q1, q2, q3⟩, g0, g1, g2, g3⟩, _⟩ := D3.out.facts
    clear s1 D2
    have D4 := Lib.hid (D3.out.set3 (2 + r3))
    go_wp2
    refine bodyPost_ret (v := .agg #[.int .i64 2, .int .i64 0, .int .u32 ((0 : Nat) : Int), .int .i64 (2 + r3)]) ?_ rfl ⟨2, 0, (2 + r3), 0, rfl, (by omega : 0 < 4294967296), ?_, ?_⟩
    · simp [results, Try.results64, go_sem, *]
    · with_reducible exact Lib.hid ((fin4 (K' := K + 7) D4.out.cur D4.out.grown hlt (by omega) _ _ _ _).1)
    · with_reducible exact Lib.hid ((fin4 (K' := K + 7) D4.out.cur D4.out.grown hlt (by omega) _ _ _ _).2)
  · clear p0 p1
    go_wp2
    refine bodyPost_ret (v := .agg #[.int .i64 3, .int .i64 0, .int .u32 ((0 : Nat) : Int), .int .i64 0]) ?_ rfl ⟨3, 0, 0, 0, rfl, (by omega : 0 < 4294967296), ?_, ?_⟩
    · simp [results, Try.results64, go_sem, *]
    · with_reducible exact Lib.hid (((fin4 (K' := K + 7) C1.out G1'.out hlt (by omega) _ _ _ _).1.alloc _))
    · with_reducible exact Lib.hid (galloc (fin4 (K' := K + 7) C1.out G1'.out hlt (by omega) _ _ _ _).2 _)

end Go.Proofs.Ytomcdfaomfkmjaa
