/- FnSemaPost: arrived units increase the count and keep everything covered. Proved for every code. No condition. -/
import Derived.Test.YthmmkleddembbaaDrawSema
import Derived.Test.YthmmkleddembbaaISemaW
import Derived.Test.YthmmkleddembbaaOpenY
import Derived.Deep.RegionHeld3
namespace Go.Proofs.Ythmmkleddembbaa
open Go.ChangeShapes Go.WideShapes Go.ChangeAt Go.RowKit
set_option linter.unusedVariables false
set_option linter.unusedSimpArgs false

theorem serve_iff {C E R n : Int} (h : PostOk C E R n) : (n ≤ R → ServeOk (C + n) (E - n) R n) ∧ (¬ n ≤ R → ¬ ServeOk (C + n) (E - n) R n) := by
  obtain ⟨⟨h1, h2⟩, ⟨⟨a0, a1⟩, ⟨a2, a3⟩, ⟨a4, a5⟩, a6⟩, ⟨b0, b1⟩, ⟨b2, b3⟩, _, b6⟩ := h
  refine ⟨fun hr => ⟨⟨h1, h2⟩, ⟨⟨b0, b1⟩, ⟨b2, b3⟩, ⟨a4, a5⟩, b6⟩, ⟨by omega, by omega⟩, ⟨b2, b3⟩, ⟨by omega, by omega⟩, by omega⟩, fun hr k => ?_⟩
  have := k.2.2.2.2.1.1
  omega

set_option maxRecDepth 100000 in
set_option maxHeartbeats 8000000 in
theorem fnSemaPost_walk (A : Option Addr) (n c : Nat) (bs : List Int) (w0 : World) (h : RdK .u8 w0 w0.heap.size A n bs) (hm0 : n ≤ maxLen) (hf : ∀ z ∈ bs, 0 ≤ z ∧ z < 256) :
    Calls Try.prog 4 #[.slice A n c] w0 fun e w' => e = .returned (.bool true) ∧ Below w0.heap.size w0 w' := by
  have H := Lib.hid h
  have HF := Lib.hid hf
  clear h hf
  by_cases hn' : n ≤ 1048576
  · have hn : ¬ (1048576 : Int) < (n : Int) := by omega
    go_enter Try.func4, Try.ntmps4
    go_wp2_with fail
    refine (big_any A n c w0).mono ?_
    rintro e w1 ⟨rfl, rfl⟩
    go_wp2_with fail
    refine (drawSemaPost A n c bs w0 H.out HF.out hn').mono ?_
    rintro e w1 ⟨C, E, R, N, rfl, _, B1⟩
    have HS := Lib.hid (fun W => sSemaPost_any C E R N W)
    have HP := Lib.hid (fun W => semaPost_any C E R N W)
    obtain ⟨C1, E1, R1, q, hv, hq, hok⟩ : ∃ (C1 E1 R1 : Int) (q : Bool), semaIf (decide (PostOk C E R N)) (C + N) (E - N) R = #[.int .i64 C1, .int .i64 E1, .int .i64 R1] ∧ decide (PostOk C E R N) = q ∧ Hid (q = true → C1 = C + N ∧ E1 = E - N ∧ R1 = R ∧ PostOk C E R N) := by
      by_cases h : PostOk C E R N
      · exact ⟨C + N, E - N, R, true, by simp [semaIf, h], decide_eq_true h, fun _ => ⟨rfl, rfl, rfl, h⟩⟩
      · exact ⟨0, 0, 0, false, by simp [semaIf, h], decide_eq_false h, fun k => by cases k⟩
    rw [hv, hq] at HS HP
    clear hv hq H HF hn hn'
    go_wp2_with fail
    refine (HS.out _).mono ?_
    rintro e w2 ⟨rfl, h2⟩
    obtain ⟨u2, h2'⟩ := oneS_new h2
    obtain ⟨⟨c0, c1, c2⟩, _⟩ := blkS u2
    have U2 := Lib.hid u2
    have B2 := Lib.hid (B1.out.trans (h2'.mono B1.out.size))
    have l2 : w1.heap.size < w2.heap.size := (Array.getElem?_eq_some_iff.1 U2.out).1
    have n2 : ¬ w1.heap.size = w2.heap.size := by omega
    clear h2 h2' B1 u2 HS
    go_wp2_with fail
    refine (HP.out _).mono ?_
    rintro e w3 ⟨rfl, h3⟩
    have z2 := B2.out.size
    have z3 := h3.size
    simp only [World.size_alloc] at z3
    have U3 := Lib.hid ((h3.block w1.heap.size (by rw [World.size_alloc]; omega)).trans (litS_alloc U2.out _))
    have V3 := Lib.hid ((h3.block w2.heap.size (by rw [World.size_alloc]; omega)).trans (heap_alloc_new w2 _))
    have B3 : Hid (Below w0.heap.size w0 w3) := (by repeat (first | exact Below.refl _ _ | refine Below.drew ?_ | refine Below.setCell ?_ (by first | omega | (simp; done) | (simp; omega) | (simp [*]; done)) _ | refine Below.alloc ?_ (by first | omega | (simp; done) | (simp; omega) | (simp [*]; done)) _ | refine Below.trans ?_ (Below.mono (B2.out) (by first | omega | (simp; done) | (simp; omega) | (simp [*]; done))) | refine Below.trans ?_ (Below.mono (h3) (by first | omega | (simp; done) | (simp; omega) | (simp [*]; done)))))
    obtain ⟨⟨d0, d1, d2⟩, _⟩ := blkS V3.out
    have l3 : w2.heap.size < w3.heap.size := by omega
    have l3' : w1.heap.size < w3.heap.size := by omega
    have n3 : ¬ w2.heap.size = w3.heap.size := by omega
    have m3 : ¬ w1.heap.size = w3.heap.size := by omega
    clear h3 U2 B2 HP c0 c1 c2
    cases q with
    | false =>
      clear hok U3 V3
      go_wp2
      go_ret
      exact ⟨rfl, (by repeat (first | exact Below.refl _ _ | refine Below.drew ?_ | refine Below.setCell ?_ (by first | omega | (simp; done) | (simp; omega) | (simp [*]; done)) _ | refine Below.alloc ?_ (by first | omega | (simp; done) | (simp; omega) | (simp [*]; done)) _ | refine Below.trans ?_ (Below.mono (B3.out) (by first | omega | (simp; done) | (simp; omega) | (simp [*]; done)))))⟩
    | true =>
      obtain ⟨k1, k2, k3, hp⟩ := hok.out rfl
      subst k3
      have z3' := B3.out.size
      have hg1 : leftV C E R1 = C + E - R1 := if_pos hp.2.1
      have hg2 : leftV C1 E1 R1 = C + E - R1 := by rw [k1, k2]; exact (if_pos hp.2.2).trans (by omega)
      obtain ⟨si1, si2⟩ := serve_iff hp
      rw [← k1, ← k2] at si1 si2
      obtain ⟨lf, hlf⟩ : ∃ lf : Int, C + E - R1 = lf := ⟨_, rfl⟩
      rw [hlf] at hg1 hg2
      have HLs := Lib.hid (fun W => semaLeft_any C E R1 W)
      have HLt := Lib.hid (fun W => semaLeft_any C1 E1 R1 W)
      rw [hg1] at HLs
      rw [hg2] at HLt
      have HV := Lib.hid (fun W => semaServe_any C1 E1 R1 N W)
      have hcn : C + N = C1 := k1.symm
      have hcb : (0 ≤ C ∧ C ≤ 1000) ∧ (1 ≤ N ∧ N ≤ 1000) := ⟨hp.2.1.1, hp.1⟩
      obtain ⟨⟨hc0, hc1⟩, hN0, hN1⟩ := hcb
      have ew : IntKind.i64.wrap C1 = C1 := IntWalk.i64_in _ (by omega)
      have HU : Hid (N ≤ R1 → leftV (C1 - N) E1 (R1 - N) = lf) := fun hr => (if_pos (si1 hr).2.2).trans (by omega)
      clear k1 k2 hg1 hg2 hok hp
      by_cases hr : N ≤ R1
      · have hr' : N ≤ R1 := hr
        rw [decide_eq_true (si1 hr)] at HV
        simp only [semaIf, if_true] at HV
        have HLu := Lib.hid (fun W => semaLeft_any (C1 - N) E1 (R1 - N) W)
        rw [HU.out hr] at HLu
        obtain ⟨C2, hC2⟩ : ∃ u : Int, C1 - N = u := ⟨_, rfl⟩
        obtain ⟨R2, hR2⟩ : ∃ u : Int, R1 - N = u := ⟨_, rfl⟩
        rw [hC2, hR2] at HV HLu
        clear si1 si2 HU hlf
        go_wp2_with fail
        refine (HV.out _).mono ?_
        rintro e w4 ⟨rfl, h4⟩
        have z4 := h4.size
        simp only [World.size_alloc] at z4
        have U4 := Lib.hid ((h4.block w1.heap.size (by rw [World.size_alloc]; omega)).trans (litS_alloc U3.out _))
        have V4 := Lib.hid ((h4.block w3.heap.size (by rw [World.size_alloc]; omega)).trans (heap_alloc_new w3 _))
        have B4 : Hid (Below w0.heap.size w0 w4) := (by repeat (first | exact Below.refl _ _ | refine Below.drew ?_ | refine Below.setCell ?_ (by first | omega | (simp; done) | (simp; omega) | (simp [*]; done)) _ | refine Below.alloc ?_ (by first | omega | (simp; done) | (simp; omega) | (simp [*]; done)) _ | refine Below.trans ?_ (Below.mono (B3.out) (by first | omega | (simp; done) | (simp; omega) | (simp [*]; done))) | refine Below.trans ?_ (Below.mono (h4) (by first | omega | (simp; done) | (simp; omega) | (simp [*]; done)))))
        clear h4 HV U3 V3 B3 d0 d1 d2
        have z4' := B4.out.size
        have XB : Hid (∀ W, Below (w4.alloc (.cells #[.int .i64 C2, .int .i64 E1, .int .i64 R2] 26)).heap.size (w4.alloc (.cells #[.int .i64 C2, .int .i64 E1, .int .i64 R2] 26)) W → (W.cell? ⟨w1.heap.size, 0, none⟩ = some (.int .i64 C) ∧ W.cell? ⟨w1.heap.size, 1, none⟩ = some (.int .i64 E) ∧ W.cell? ⟨w1.heap.size, 2, none⟩ = some (.int .i64 R1) ∧ W.cell? ⟨w3.heap.size, 0, none⟩ = some (.int .i64 C1) ∧ W.cell? ⟨w3.heap.size, 1, none⟩ = some (.int .i64 E1) ∧ W.cell? ⟨w3.heap.size, 2, none⟩ = some (.int .i64 R1) ∧ W.cell? ⟨w4.heap.size, 0, none⟩ = some (.int .i64 C2) ∧ W.cell? ⟨w4.heap.size, 1, none⟩ = some (.int .i64 E1) ∧ W.cell? ⟨w4.heap.size, 2, none⟩ = some (.int .i64 R2))) := fun W hb => by
          have s1 := World.size_alloc w4 (.cells #[.int .i64 C2, .int .i64 E1, .int .i64 R2] 26)
          obtain ⟨⟨a0, a1, a2⟩, _⟩ := blkS ((hb.block w1.heap.size (by omega)).trans (litS_alloc U4.out _))
          obtain ⟨⟨a3, a4, a5⟩, _⟩ := blkS ((hb.block w3.heap.size (by omega)).trans (litS_alloc V4.out _))
          obtain ⟨⟨a6, a7, a8⟩, _⟩ := blkS ((hb.block w4.heap.size (by omega)).trans (heap_alloc_new w4 _))
          exact ⟨a0, a1, a2, a3, a4, a5, a6, a7, a8⟩
        have b0 : Hid (Below (w4.alloc (.cells #[.int .i64 C2, .int .i64 E1, .int .i64 R2] 26)).heap.size (w4.alloc (.cells #[.int .i64 C2, .int .i64 E1, .int .i64 R2] 26)) (w4.alloc (.cells #[.int .i64 C2, .int .i64 E1, .int .i64 R2] 26)).drew) := (Below.refl _ _).drew
        have LS : Hid (∀ W, Below (w4.alloc (.cells #[.int .i64 C2, .int .i64 E1, .int .i64 R2] 26)).heap.size (w4.alloc (.cells #[.int .i64 C2, .int .i64 E1, .int .i64 R2] 26)) W → Calls Try.prog 14 #[.agg #[.int .i64 C, .int .i64 E, .int .i64 R1]] W fun e w' => e = .returned (.int .i64 lf) ∧ Hid (Below (w4.alloc (.cells #[.int .i64 C2, .int .i64 E1, .int .i64 R2] 26)).heap.size (w4.alloc (.cells #[.int .i64 C2, .int .i64 E1, .int .i64 R2] 26)) w') ∧ (w'.cell? ⟨w1.heap.size, 0, none⟩ = some (.int .i64 C) ∧ w'.cell? ⟨w1.heap.size, 1, none⟩ = some (.int .i64 E) ∧ w'.cell? ⟨w1.heap.size, 2, none⟩ = some (.int .i64 R1) ∧ w'.cell? ⟨w3.heap.size, 0, none⟩ = some (.int .i64 C1) ∧ w'.cell? ⟨w3.heap.size, 1, none⟩ = some (.int .i64 E1) ∧ w'.cell? ⟨w3.heap.size, 2, none⟩ = some (.int .i64 R1) ∧ w'.cell? ⟨w4.heap.size, 0, none⟩ = some (.int .i64 C2) ∧ w'.cell? ⟨w4.heap.size, 1, none⟩ = some (.int .i64 E1) ∧ w'.cell? ⟨w4.heap.size, 2, none⟩ = some (.int .i64 R2))) := fun W hb => (HLs.out W).mono fun e w' ⟨he, hb2⟩ => ⟨he, hb.trans (hb2.mono hb.size), XB.out w' (hb.trans (hb2.mono hb.size))⟩
        have LT : Hid (∀ W, Below (w4.alloc (.cells #[.int .i64 C2, .int .i64 E1, .int .i64 R2] 26)).heap.size (w4.alloc (.cells #[.int .i64 C2, .int .i64 E1, .int .i64 R2] 26)) W → Calls Try.prog 14 #[.agg #[.int .i64 C1, .int .i64 E1, .int .i64 R1]] W fun e w' => e = .returned (.int .i64 lf) ∧ Hid (Below (w4.alloc (.cells #[.int .i64 C2, .int .i64 E1, .int .i64 R2] 26)).heap.size (w4.alloc (.cells #[.int .i64 C2, .int .i64 E1, .int .i64 R2] 26)) w') ∧ (w'.cell? ⟨w1.heap.size, 0, none⟩ = some (.int .i64 C) ∧ w'.cell? ⟨w1.heap.size, 1, none⟩ = some (.int .i64 E) ∧ w'.cell? ⟨w1.heap.size, 2, none⟩ = some (.int .i64 R1) ∧ w'.cell? ⟨w3.heap.size, 0, none⟩ = some (.int .i64 C1) ∧ w'.cell? ⟨w3.heap.size, 1, none⟩ = some (.int .i64 E1) ∧ w'.cell? ⟨w3.heap.size, 2, none⟩ = some (.int .i64 R1) ∧ w'.cell? ⟨w4.heap.size, 0, none⟩ = some (.int .i64 C2) ∧ w'.cell? ⟨w4.heap.size, 1, none⟩ = some (.int .i64 E1) ∧ w'.cell? ⟨w4.heap.size, 2, none⟩ = some (.int .i64 R2))) := fun W hb => (HLt.out W).mono fun e w' ⟨he, hb2⟩ => ⟨he, hb.trans (hb2.mono hb.size), XB.out w' (hb.trans (hb2.mono hb.size))⟩
        have LU : Hid (∀ W, Below (w4.alloc (.cells #[.int .i64 C2, .int .i64 E1, .int .i64 R2] 26)).heap.size (w4.alloc (.cells #[.int .i64 C2, .int .i64 E1, .int .i64 R2] 26)) W → Calls Try.prog 14 #[.agg #[.int .i64 C2, .int .i64 E1, .int .i64 R2]] W fun e w' => e = .returned (.int .i64 lf) ∧ Hid (Below (w4.alloc (.cells #[.int .i64 C2, .int .i64 E1, .int .i64 R2] 26)).heap.size (w4.alloc (.cells #[.int .i64 C2, .int .i64 E1, .int .i64 R2] 26)) w') ∧ (w'.cell? ⟨w1.heap.size, 0, none⟩ = some (.int .i64 C) ∧ w'.cell? ⟨w1.heap.size, 1, none⟩ = some (.int .i64 E) ∧ w'.cell? ⟨w1.heap.size, 2, none⟩ = some (.int .i64 R1) ∧ w'.cell? ⟨w3.heap.size, 0, none⟩ = some (.int .i64 C1) ∧ w'.cell? ⟨w3.heap.size, 1, none⟩ = some (.int .i64 E1) ∧ w'.cell? ⟨w3.heap.size, 2, none⟩ = some (.int .i64 R1) ∧ w'.cell? ⟨w4.heap.size, 0, none⟩ = some (.int .i64 C2) ∧ w'.cell? ⟨w4.heap.size, 1, none⟩ = some (.int .i64 E1) ∧ w'.cell? ⟨w4.heap.size, 2, none⟩ = some (.int .i64 R2))) := fun W hb => (HLu.out W).mono fun e w' ⟨he, hb2⟩ => ⟨he, hb.trans (hb2.mono hb.size), XB.out w' (hb.trans (hb2.mono hb.size))⟩
        have x0 := XB.out _ (Below.refl _ _)
        have x0' := XB.out _ b0.out
        clear XB U4 V4 HLs HLt HLu hC2 hR2 z3 z3' z4 z2 l2 l3 l3' n2 n3 m3
        go_wp2_with fail
        go_region_held3 (fun w' => (w'.cell? ⟨w1.heap.size, 0, none⟩ = some (.int .i64 C) ∧ w'.cell? ⟨w1.heap.size, 1, none⟩ = some (.int .i64 E) ∧ w'.cell? ⟨w1.heap.size, 2, none⟩ = some (.int .i64 R1) ∧ w'.cell? ⟨w3.heap.size, 0, none⟩ = some (.int .i64 C1) ∧ w'.cell? ⟨w3.heap.size, 1, none⟩ = some (.int .i64 E1) ∧ w'.cell? ⟨w3.heap.size, 2, none⟩ = some (.int .i64 R1) ∧ w'.cell? ⟨w4.heap.size, 0, none⟩ = some (.int .i64 C2) ∧ w'.cell? ⟨w4.heap.size, 1, none⟩ = some (.int .i64 E1) ∧ w'.cell? ⟨w4.heap.size, 2, none⟩ = some (.int .i64 R2)))
          (first | exact x0 | exact x0' | exact x6 | exact x7 | exact x8 | exact x9)
          (first | (go_at_call 14; with_reducible refine (LT.out _ b0.out).mono ?_; rintro e w6 ⟨rfl, b6, x6⟩)
                 | (go_at_call 14; with_reducible refine (LS.out _ b6.out).mono ?_; rintro e w7 ⟨rfl, b7, x7⟩)
                 | (go_at_call 14; with_reducible refine (LU.out _ b7.out).mono ?_; rintro e w8 ⟨rfl, b8, x8⟩)
                 | (go_at_call 14; with_reducible refine (LS.out _ b8.out).mono ?_; rintro e w9 ⟨rfl, b9, x9⟩))
        go_wp2
        go_ret
        exact ⟨rfl, (B4.out.alloc B4.out.size _).trans (b9.out.mono (by rw [World.size_alloc]; omega))⟩
      · have hr1 : R1 < N := by omega
        have hrd : decide (N ≤ R1) = false := decide_eq_false hr
        rw [decide_eq_false (si2 hr)] at HV
        simp only [semaIf, Bool.false_eq_true, if_false] at HV
        clear si1 si2 HU hlf
        go_wp2_with fail
        refine (HV.out _).mono ?_
        rintro e w4 ⟨rfl, h4⟩
        have z4 := h4.size
        simp only [World.size_alloc] at z4
        have U4 := Lib.hid ((h4.block w1.heap.size (by rw [World.size_alloc]; omega)).trans (litS_alloc U3.out _))
        have V4 := Lib.hid ((h4.block w3.heap.size (by rw [World.size_alloc]; omega)).trans (heap_alloc_new w3 _))
        have B4 : Hid (Below w0.heap.size w0 w4) := (by repeat (first | exact Below.refl _ _ | refine Below.drew ?_ | refine Below.setCell ?_ (by first | omega | (simp; done) | (simp; omega) | (simp [*]; done)) _ | refine Below.alloc ?_ (by first | omega | (simp; done) | (simp; omega) | (simp [*]; done)) _ | refine Below.trans ?_ (Below.mono (B3.out) (by first | omega | (simp; done) | (simp; omega) | (simp [*]; done))) | refine Below.trans ?_ (Below.mono (h4) (by first | omega | (simp; done) | (simp; omega) | (simp [*]; done)))))
        clear h4 HV U3 V3 B3 d0 d1 d2
        have z4' := B4.out.size
        have XB : Hid (∀ W, Below (w4.alloc (.cells #[.int .i64 0, .int .i64 0, .int .i64 0] 26)).heap.size (w4.alloc (.cells #[.int .i64 0, .int .i64 0, .int .i64 0] 26)) W → (W.cell? ⟨w1.heap.size, 0, none⟩ = some (.int .i64 C) ∧ W.cell? ⟨w1.heap.size, 1, none⟩ = some (.int .i64 E) ∧ W.cell? ⟨w1.heap.size, 2, none⟩ = some (.int .i64 R1) ∧ W.cell? ⟨w3.heap.size, 0, none⟩ = some (.int .i64 C1) ∧ W.cell? ⟨w3.heap.size, 1, none⟩ = some (.int .i64 E1) ∧ W.cell? ⟨w3.heap.size, 2, none⟩ = some (.int .i64 R1))) := fun W hb => by
          have s1 := World.size_alloc w4 (.cells #[.int .i64 0, .int .i64 0, .int .i64 0] 26)
          obtain ⟨⟨a0, a1, a2⟩, _⟩ := blkS ((hb.block w1.heap.size (by omega)).trans (litS_alloc U4.out _))
          obtain ⟨⟨a3, a4, a5⟩, _⟩ := blkS ((hb.block w3.heap.size (by omega)).trans (litS_alloc V4.out _))
          obtain ⟨⟨a6, a7, a8⟩, _⟩ := blkS ((hb.block w4.heap.size (by omega)).trans (heap_alloc_new w4 _))
          exact ⟨a0, a1, a2, a3, a4, a5⟩
        have b0 : Hid (Below (w4.alloc (.cells #[.int .i64 0, .int .i64 0, .int .i64 0] 26)).heap.size (w4.alloc (.cells #[.int .i64 0, .int .i64 0, .int .i64 0] 26)) (w4.alloc (.cells #[.int .i64 0, .int .i64 0, .int .i64 0] 26)).drew) := (Below.refl _ _).drew
        have LS : Hid (∀ W, Below (w4.alloc (.cells #[.int .i64 0, .int .i64 0, .int .i64 0] 26)).heap.size (w4.alloc (.cells #[.int .i64 0, .int .i64 0, .int .i64 0] 26)) W → Calls Try.prog 14 #[.agg #[.int .i64 C, .int .i64 E, .int .i64 R1]] W fun e w' => e = .returned (.int .i64 lf) ∧ Hid (Below (w4.alloc (.cells #[.int .i64 0, .int .i64 0, .int .i64 0] 26)).heap.size (w4.alloc (.cells #[.int .i64 0, .int .i64 0, .int .i64 0] 26)) w') ∧ (w'.cell? ⟨w1.heap.size, 0, none⟩ = some (.int .i64 C) ∧ w'.cell? ⟨w1.heap.size, 1, none⟩ = some (.int .i64 E) ∧ w'.cell? ⟨w1.heap.size, 2, none⟩ = some (.int .i64 R1) ∧ w'.cell? ⟨w3.heap.size, 0, none⟩ = some (.int .i64 C1) ∧ w'.cell? ⟨w3.heap.size, 1, none⟩ = some (.int .i64 E1) ∧ w'.cell? ⟨w3.heap.size, 2, none⟩ = some (.int .i64 R1))) := fun W hb => (HLs.out W).mono fun e w' ⟨he, hb2⟩ => ⟨he, hb.trans (hb2.mono hb.size), XB.out w' (hb.trans (hb2.mono hb.size))⟩
        have LT : Hid (∀ W, Below (w4.alloc (.cells #[.int .i64 0, .int .i64 0, .int .i64 0] 26)).heap.size (w4.alloc (.cells #[.int .i64 0, .int .i64 0, .int .i64 0] 26)) W → Calls Try.prog 14 #[.agg #[.int .i64 C1, .int .i64 E1, .int .i64 R1]] W fun e w' => e = .returned (.int .i64 lf) ∧ Hid (Below (w4.alloc (.cells #[.int .i64 0, .int .i64 0, .int .i64 0] 26)).heap.size (w4.alloc (.cells #[.int .i64 0, .int .i64 0, .int .i64 0] 26)) w') ∧ (w'.cell? ⟨w1.heap.size, 0, none⟩ = some (.int .i64 C) ∧ w'.cell? ⟨w1.heap.size, 1, none⟩ = some (.int .i64 E) ∧ w'.cell? ⟨w1.heap.size, 2, none⟩ = some (.int .i64 R1) ∧ w'.cell? ⟨w3.heap.size, 0, none⟩ = some (.int .i64 C1) ∧ w'.cell? ⟨w3.heap.size, 1, none⟩ = some (.int .i64 E1) ∧ w'.cell? ⟨w3.heap.size, 2, none⟩ = some (.int .i64 R1))) := fun W hb => (HLt.out W).mono fun e w' ⟨he, hb2⟩ => ⟨he, hb.trans (hb2.mono hb.size), XB.out w' (hb.trans (hb2.mono hb.size))⟩
        have x0 := XB.out _ (Below.refl _ _)
        have x0' := XB.out _ b0.out
        clear XB U4 V4 HLs HLt z3 z3' z4 z2 l2 l3 l3' n2 n3 m3
        go_wp2_with fail
        refine wp_region_noPanic ?_
        refine wp_region_held_drew (S := (fun w' => (w'.cell? ⟨w1.heap.size, 0, none⟩ = some (.int .i64 C) ∧ w'.cell? ⟨w1.heap.size, 1, none⟩ = some (.int .i64 E) ∧ w'.cell? ⟨w1.heap.size, 2, none⟩ = some (.int .i64 R1) ∧ w'.cell? ⟨w3.heap.size, 0, none⟩ = some (.int .i64 C1) ∧ w'.cell? ⟨w3.heap.size, 1, none⟩ = some (.int .i64 E1) ∧ w'.cell? ⟨w3.heap.size, 2, none⟩ = some (.int .i64 R1)))) (by kernel_rfl) x0' (fun hHeld => ?_)
        refine wpAnyH_take (i := 0) (v := ?v101) rfl (by kernel_rfl) (by kernel_rfl) (by kernel_rfl) (fun _ _ _ h => h) (Or.inl ⟨by rfl, ?hy101⟩) (by assumption) ?rest101
        case hy101 =>
          intro wz hSw
          (try dsimp only at hSw)
          go_simp <;> with_reducible rfl
        try simp only [List.getElem_toArray, List.getElem_cons_zero, List.getElem_cons_succ, Act.put, List.setIfInBounds_toArray, List.set_cons_zero, List.set_cons_succ]
        refine wpAnyH_take (i := 2) (v := ?v102) rfl (by kernel_rfl) (by kernel_rfl) (by kernel_rfl) (fun _ _ _ h => h) (Or.inl ⟨by rfl, ?hy102⟩) (by assumption) ?rest102
        case hy102 =>
          intro wz hSw
          (try dsimp only at hSw)
          go_simp <;> with_reducible rfl
        try simp only [List.getElem_toArray, List.getElem_cons_zero, List.getElem_cons_succ, Act.put, List.setIfInBounds_toArray, List.set_cons_zero, List.set_cons_succ]
        refine wpAnyH_ready (rs := [1]) (by kernel_rfl) (by simp) (AllReadyH.cons rfl (fun K hK => ?_) AllReadyH.nil)
        go_simp
        refine (LT.out _ b0.out).mono ?_
        rintro e w6 ⟨rfl, b6, x6⟩
        go_wp2_with fail
        clear hHeld
        refine hK.out _ _ (x6) (fun hHeld => ?_)
        clear hK K
        try simp only [List.getElem_toArray, List.getElem_cons_zero, List.getElem_cons_succ, Act.put, List.setIfInBounds_toArray, List.set_cons_zero, List.set_cons_succ]
        refine wpAnyH_ready (rs := [3]) (by kernel_rfl) (by simp) (AllReadyH.cons rfl (fun K hK => ?_) AllReadyH.nil)
        go_simp
        refine (LS.out _ b6.out).mono ?_
        rintro e w7 ⟨rfl, b7, x7⟩
        go_wp2_with fail
        clear hHeld
        refine hK.out _ _ (x7) (fun hHeld => ?_)
        clear hK K
        try simp only [List.getElem_toArray, List.getElem_cons_zero, List.getElem_cons_succ, Act.put, List.setIfInBounds_toArray, List.set_cons_zero, List.set_cons_succ]
        refine wpAnyH_take (i := 4) (v := ?v103) rfl (by kernel_rfl) (by kernel_rfl) (by kernel_rfl) (fun _ _ _ h => h) (Or.inl ⟨by rfl, ?hy103⟩) (by assumption) ?rest103
        case hy103 =>
          intro wz hSw
          (try dsimp only at hSw)
          go_simp <;> with_reducible rfl
        try simp only [List.getElem_toArray, List.getElem_cons_zero, List.getElem_cons_succ, Act.put, List.setIfInBounds_toArray, List.set_cons_zero, List.set_cons_succ]
        refine wpAnyH_take (i := 5) (v := ?v104) rfl (by kernel_rfl) (by kernel_rfl) (by kernel_rfl) (fun _ _ _ h => h) (Or.inl ⟨by rfl, ?hy104⟩) (by assumption) ?rest104
        case hy104 =>
          intro wz hSw
          (try dsimp only at hSw)
          go_simp <;> with_reducible rfl
        try simp only [List.getElem_toArray, List.getElem_cons_zero, List.getElem_cons_succ, Act.put, List.setIfInBounds_toArray, List.set_cons_zero, List.set_cons_succ]
        refine wpAnyH_take (i := 6) (v := ?v105) rfl (by kernel_rfl) (by kernel_rfl) (by kernel_rfl) (fun _ _ _ h => h) (Or.inl ⟨by rfl, ?hy105⟩) (by assumption) ?rest105
        case hy105 =>
          intro wz hSw
          (try dsimp only at hSw)
          go_simp <;> with_reducible rfl
        try simp only [List.getElem_toArray, List.getElem_cons_zero, List.getElem_cons_succ, Act.put, List.setIfInBounds_toArray, List.set_cons_zero, List.set_cons_succ]
        refine wpAnyH_take (i := 7) (v := ?v106) rfl (by kernel_rfl) (by kernel_rfl) (by kernel_rfl) (fun _ _ _ h => h) (Or.inl ⟨by rfl, ?hy106⟩) (by assumption) ?rest106
        case hy106 =>
          intro wz hSw
          (try dsimp only at hSw)
          go_simp <;> with_reducible rfl
        try simp only [List.getElem_toArray, List.getElem_cons_zero, List.getElem_cons_succ, Act.put, List.setIfInBounds_toArray, List.set_cons_zero, List.set_cons_succ]
        refine wpAnyH_take (i := 8) (v := ?v107) rfl (by kernel_rfl) (by kernel_rfl) (by kernel_rfl) (fun _ _ _ h => h) (Or.inl ⟨by rfl, ?hy107⟩) (by assumption) ?rest107
        case hy107 =>
          intro wz hSw
          (try dsimp only at hSw)
          go_simp <;> with_reducible rfl
        try simp only [List.getElem_toArray, List.getElem_cons_zero, List.getElem_cons_succ, Act.put, List.setIfInBounds_toArray, List.set_cons_zero, List.set_cons_succ]
        refine wpAnyH_take (i := 9) (v := ?v108) rfl (by kernel_rfl) (by kernel_rfl) (by kernel_rfl) (fun _ _ _ h => h) (Or.inl ⟨by rfl, ?hy108⟩) (by assumption) ?rest108
        case hy108 =>
          intro wz hSw
          (try dsimp only at hSw)
          go_simp <;> with_reducible rfl
        try simp only [List.getElem_toArray, List.getElem_cons_zero, List.getElem_cons_succ, Act.put, List.setIfInBounds_toArray, List.set_cons_zero, List.set_cons_succ]
        refine wpAnyH_take (i := 10) (v := ?v109) rfl (by kernel_rfl) (by kernel_rfl) (by kernel_rfl) (fun _ _ _ h => h) (Or.inl ⟨by rfl, ?hy109⟩) (by assumption) ?rest109
        case hy109 =>
          intro wz hSw
          (try dsimp only at hSw)
          go_simp <;> with_reducible rfl
        try simp only [List.getElem_toArray, List.getElem_cons_zero, List.getElem_cons_succ, Act.put, List.setIfInBounds_toArray, List.set_cons_zero, List.set_cons_succ]
        refine wpAnyH_take (i := 11) (v := ?v110) rfl (by kernel_rfl) (by kernel_rfl) (by kernel_rfl) (fun _ _ _ h => h) (Or.inl ⟨by rfl, ?hy110⟩) (by assumption) ?rest110
        case hy110 =>
          intro wz hSw
          (try dsimp only at hSw)
          go_simp <;> with_reducible rfl
        try simp only [List.getElem_toArray, List.getElem_cons_zero, List.getElem_cons_succ, Act.put, List.setIfInBounds_toArray, List.set_cons_zero, List.set_cons_succ]
        refine wpAnyH_take (i := 12) (v := ?v111) rfl (by kernel_rfl) (by kernel_rfl) (by kernel_rfl) (fun _ _ _ h => h) (Or.inl ⟨by rfl, ?hy111⟩) (by assumption) ?rest111
        case hy111 =>
          intro wz hSw
          (try dsimp only at hSw)
          go_simp <;> with_reducible rfl
        try simp only [List.getElem_toArray, List.getElem_cons_zero, List.getElem_cons_succ, Act.put, List.setIfInBounds_toArray, List.set_cons_zero, List.set_cons_succ]
        refine wpAnyH_take (i := 13) (v := ?v112) rfl (by kernel_rfl) (by kernel_rfl) (by kernel_rfl) (fun _ _ _ h => h) (Or.inl ⟨by rfl, ?hy112⟩) (by assumption) ?rest112
        case hy112 =>
          intro wz hSw
          (try dsimp only at hSw)
          go_simp <;> with_reducible rfl
        try simp only [List.getElem_toArray, List.getElem_cons_zero, List.getElem_cons_succ, Act.put, List.setIfInBounds_toArray, List.set_cons_zero, List.set_cons_succ]
        refine wpAnyH_take (i := 14) (v := ?v113) rfl (by kernel_rfl) (by kernel_rfl) (by kernel_rfl) (fun _ _ _ h => h) (Or.inl ⟨by rfl, ?hy113⟩) (by assumption) ?rest113
        case hy113 =>
          intro wz hSw
          (try dsimp only at hSw)
          go_simp <;> with_reducible rfl
        try simp only [List.getElem_toArray, List.getElem_cons_zero, List.getElem_cons_succ, Act.put, List.setIfInBounds_toArray, List.set_cons_zero, List.set_cons_succ]
        refine wpAnyH_take (i := 15) (v := ?v114) rfl (by kernel_rfl) (by kernel_rfl) (by kernel_rfl) (fun _ _ _ h => h) (Or.inl ⟨by rfl, ?hy114⟩) (by assumption) ?rest114
        case hy114 =>
          intro wz hSw
          (try dsimp only at hSw)
          go_simp <;> with_reducible rfl
        try simp only [List.getElem_toArray, List.getElem_cons_zero, List.getElem_cons_succ, Act.put, List.setIfInBounds_toArray, List.set_cons_zero, List.set_cons_succ]
        refine wpAnyH_take (i := 16) (v := ?v115) rfl (by kernel_rfl) (by kernel_rfl) (by kernel_rfl) (fun _ _ _ h => h) (Or.inl ⟨by rfl, ?hy115⟩) (by assumption) ?rest115
        case hy115 =>
          intro wz hSw
          (try dsimp only at hSw)
          go_simp <;> with_reducible rfl
        try simp only [List.getElem_toArray, List.getElem_cons_zero, List.getElem_cons_succ, Act.put, List.setIfInBounds_toArray, List.set_cons_zero, List.set_cons_succ]
        refine wpAnyH_take (i := 17) (v := ?v116) rfl (by kernel_rfl) (by kernel_rfl) (by kernel_rfl) (fun _ _ _ h => h) (Or.inl ⟨by rfl, ?hy116⟩) (by assumption) ?rest116
        case hy116 =>
          intro wz hSw
          (try dsimp only at hSw)
          go_simp <;> with_reducible rfl
        try simp only [List.getElem_toArray, List.getElem_cons_zero, List.getElem_cons_succ, Act.put, List.setIfInBounds_toArray, List.set_cons_zero, List.set_cons_succ]
        refine wpAnyH_take (i := 18) (v := ?v117) rfl (by kernel_rfl) (by kernel_rfl) (by kernel_rfl) (fun _ _ _ h => h) (Or.inl ⟨by rfl, ?hy117⟩) (by assumption) ?rest117
        case hy117 =>
          intro wz hSw
          (try dsimp only at hSw)
          go_simp <;> with_reducible rfl
        try simp only [List.getElem_toArray, List.getElem_cons_zero, List.getElem_cons_succ, Act.put, List.setIfInBounds_toArray, List.set_cons_zero, List.set_cons_succ]
        refine wpAnyH_take (i := 19) (v := ?v118) rfl (by kernel_rfl) (by kernel_rfl) (by kernel_rfl) (fun _ _ _ h => h) (Or.inl ⟨by rfl, ?hy118⟩) (by assumption) ?rest118
        case hy118 =>
          intro wz hSw
          (try dsimp only at hSw)
          go_simp <;> with_reducible rfl
        try simp only [List.getElem_toArray, List.getElem_cons_zero, List.getElem_cons_succ, Act.put, List.setIfInBounds_toArray, List.set_cons_zero, List.set_cons_succ]
        refine wpAnyH_take (i := 20) (v := ?v119) rfl (by kernel_rfl) (by kernel_rfl) (by kernel_rfl) (fun _ _ _ h => h) (Or.inl ⟨by rfl, ?hy119⟩) (by assumption) ?rest119
        case hy119 =>
          intro wz hSw
          (try dsimp only at hSw)
          go_simp <;> with_reducible rfl
        try simp only [List.getElem_toArray, List.getElem_cons_zero, List.getElem_cons_succ, Act.put, List.setIfInBounds_toArray, List.set_cons_zero, List.set_cons_succ]
        refine wpAnyH_take (i := 21) (v := ?v120) rfl (by kernel_rfl) (by kernel_rfl) (by kernel_rfl) (fun _ _ _ h => h) (Or.inl ⟨by rfl, ?hy120⟩) (by assumption) ?rest120
        case hy120 =>
          intro wz hSw
          (try dsimp only at hSw)
          go_simp <;> with_reducible rfl
        try simp only [List.getElem_toArray, List.getElem_cons_zero, List.getElem_cons_succ, Act.put, List.setIfInBounds_toArray, List.set_cons_zero, List.set_cons_succ]
        refine wpAnyH_take (i := 22) (v := ?v121) rfl (by kernel_rfl) (by kernel_rfl) (by kernel_rfl) (fun _ _ _ h => h) (Or.inl ⟨by rfl, ?hy121⟩) (by assumption) ?rest121
        case hy121 =>
          intro wz hSw
          (try dsimp only at hSw)
          go_simp <;> with_reducible rfl
        try simp only [List.getElem_toArray, List.getElem_cons_zero, List.getElem_cons_succ, Act.put, List.setIfInBounds_toArray, List.set_cons_zero, List.set_cons_succ]
        refine wpAnyH_take (i := 23) (v := ?v122) rfl (by kernel_rfl) (by kernel_rfl) (by kernel_rfl) (fun _ _ _ h => h) (Or.inl ⟨by rfl, ?hy122⟩) (by assumption) ?rest122
        case hy122 =>
          intro wz hSw
          (try dsimp only at hSw)
          go_simp <;> with_reducible rfl
        try simp only [List.getElem_toArray, List.getElem_cons_zero, List.getElem_cons_succ, Act.put, List.setIfInBounds_toArray, List.set_cons_zero, List.set_cons_succ]
        refine wpAnyH_take (i := 24) (v := ?v123) rfl (by kernel_rfl) (by kernel_rfl) (by kernel_rfl) (fun _ _ _ h => h) (Or.inl ⟨by rfl, ?hy123⟩) (by assumption) ?rest123
        case hy123 =>
          intro wz hSw
          (try dsimp only at hSw)
          go_simp <;> with_reducible rfl
        try simp only [List.getElem_toArray, List.getElem_cons_zero, List.getElem_cons_succ, Act.put, List.setIfInBounds_toArray, List.set_cons_zero, List.set_cons_succ]
        refine wpAnyH_take (i := 25) (v := ?v124) rfl (by kernel_rfl) (by kernel_rfl) (by kernel_rfl) (fun _ _ _ h => h) (Or.inl ⟨by rfl, ?hy124⟩) (by assumption) ?rest124
        case hy124 =>
          intro wz hSw
          (try dsimp only at hSw)
          go_simp <;> with_reducible rfl
        try simp only [List.getElem_toArray, List.getElem_cons_zero, List.getElem_cons_succ, Act.put, List.setIfInBounds_toArray, List.set_cons_zero, List.set_cons_succ]
        refine wpAnyH_take (i := 26) (v := undef) rfl (by kernel_rfl) (by kernel_rfl) (by kernel_rfl) (fun _ _ _ h => h) (Or.inr ⟨by rfl, rfl⟩) (by assumption) ?rest125
        try simp only [List.getElem_toArray, List.getElem_cons_zero, List.getElem_cons_succ, Act.put, List.setIfInBounds_toArray, List.set_cons_zero, List.set_cons_succ]
        refine wpAnyH_take (i := 27) (v := undef) rfl (by kernel_rfl) (by kernel_rfl) (by kernel_rfl) (fun _ _ _ h => h) (Or.inr ⟨by rfl, rfl⟩) (by assumption) ?rest126
        try simp only [List.getElem_toArray, List.getElem_cons_zero, List.getElem_cons_succ, Act.put, List.setIfInBounds_toArray, List.set_cons_zero, List.set_cons_succ]
        refine wpAnyH_take (i := 28) (v := undef) rfl (by kernel_rfl) (by kernel_rfl) (by kernel_rfl) (fun _ _ _ h => h) (Or.inr ⟨by rfl, rfl⟩) (by assumption) ?rest127
        try simp only [List.getElem_toArray, List.getElem_cons_zero, List.getElem_cons_succ, Act.put, List.setIfInBounds_toArray, List.set_cons_zero, List.set_cons_succ]
        refine wpAnyH_take (i := 29) (v := undef) rfl (by kernel_rfl) (by kernel_rfl) (by kernel_rfl) (fun _ _ _ h => h) (Or.inr ⟨by rfl, rfl⟩) (by assumption) ?rest128
        try simp only [List.getElem_toArray, List.getElem_cons_zero, List.getElem_cons_succ, Act.put, List.setIfInBounds_toArray, List.set_cons_zero, List.set_cons_succ]
        refine wpAnyH_take (i := 30) (v := undef) rfl (by kernel_rfl) (by kernel_rfl) (by kernel_rfl) (fun _ _ _ h => h) (Or.inr ⟨by rfl, rfl⟩) (by assumption) ?rest129
        try simp only [List.getElem_toArray, List.getElem_cons_zero, List.getElem_cons_succ, Act.put, List.setIfInBounds_toArray, List.set_cons_zero, List.set_cons_succ]
        refine wpAnyH_take (i := 31) (v := ?v130) rfl (by kernel_rfl) (by kernel_rfl) (by kernel_rfl) (fun _ _ _ h => h) (Or.inl ⟨by rfl, ?hy130⟩) (by assumption) ?rest130
        case hy130 =>
          intro wz hSw
          (try dsimp only at hSw)
          go_simp <;> with_reducible rfl
        try simp only [List.getElem_toArray, List.getElem_cons_zero, List.getElem_cons_succ, Act.put, List.setIfInBounds_toArray, List.set_cons_zero, List.set_cons_succ]
        refine wpAnyH_take (i := 32) (v := ?v131) rfl (by kernel_rfl) (by kernel_rfl) (by kernel_rfl) (fun _ _ _ h => h) (Or.inl ⟨by rfl, ?hy131⟩) (by assumption) ?rest131
        case hy131 =>
          intro wz hSw
          (try dsimp only at hSw)
          go_simp <;> with_reducible rfl
        try simp only [List.getElem_toArray, List.getElem_cons_zero, List.getElem_cons_succ, Act.put, List.setIfInBounds_toArray, List.set_cons_zero, List.set_cons_succ]
        refine wpAnyH_take (i := 33) (v := ?v132) rfl (by kernel_rfl) (by kernel_rfl) (by kernel_rfl) (fun _ _ _ h => h) (Or.inl ⟨by rfl, ?hy132⟩) (by assumption) ?rest132
        case hy132 =>
          intro wz hSw
          (try dsimp only at hSw)
          go_simp <;> with_reducible rfl
        try simp only [List.getElem_toArray, List.getElem_cons_zero, List.getElem_cons_succ, Act.put, List.setIfInBounds_toArray, List.set_cons_zero, List.set_cons_succ]
        refine wpAnyH_done (by kernel_rfl) ?_ _
        refine NoPanic.normal ?_
        go_wp2
        go_ret
        exact ⟨rfl, (B4.out.alloc B4.out.size _).trans (b7.out.mono (by rw [World.size_alloc]; omega))⟩
  · have hn : (1048576 : Int) < (n : Int) := by omega
    clear H HF
    go_enter Try.func4, Try.ntmps4
    go_wp2_with fail
    refine (big_any A n c w0).mono ?_
    rintro e w1 ⟨rfl, rfl⟩
    go_wp2
    go_ret
    exact ⟨rfl, Below.refl _ _⟩

set_option maxRecDepth 100000 in
theorem fnSemaPost_lifted (os : Os) (started : os.Started) (H : Type) (enc : TypeId × Value → H) :
    ReturnsInHanded {} Try.checked os 4 .any (Rows.fnSemaPostSpec.pre6 enc Try.prog Try.f4 Rows.fnSemaPostRow.domain false) (Rows.fnSemaPostSpec.post enc Try.prog Try.f4 false true false false) := by
  refine returnsInHanded_of_change (C := Try.checked) own started (by kernel_rfl) Try.func4
    (ChangeSpec.witness6 (enc := enc) (C := Try.checked) false ⟨#[], #[.slice none 0 0], []⟩ 8 (by kernel_rfl) (by kernel_rfl) (by kernel_rfl) (by kernel_rfl)) ?_
  intro W base args ds gs before hval0 hW hcnd _
  have hval : ∀ (j : Nat) t v, Try.f4.params[j]? = some t → args[j]? = some v → Value.okWide Try.prog W .any base t v := hval0
  have hW' := hW
  obtain ⟨p, q, hA0, hV, rfl, hfz, hnd⟩ := hW
  have hA : DataW.TrodAll enc Try.prog W 0 (fun _ => true) true Try.f4.params.toList args.toList ds p := hA0
  rw [Try.params4] at hA hval
  obtain ⟨v0, vs0, d0, ds0, p0, q0, hargs, rfl, rfl, h0, r0⟩ := trodAll_cons hA
  obtain ⟨rfl, rfl, rfl⟩ := trodAll_nil r0
  obtain rfl : args = #[v0] := by cases args; simp_all
  obtain ⟨rfl, rfl⟩ := trodVars_none hV
  have k0 := h0
  have lt0 : ∀ x ∈ p0, x.block < W.heap.size := by obtain ⟨m, hm⟩ := k0; exact DataW.trod_lt m _ _ _ hm
  obtain ⟨A0, n0, c0, z0, rfl, m0, rd0, f0⟩ := open_bytes (hval 0 22 v0 rfl rfl) h0
  clear hA0 hval0
  refine (fnSemaPost_walk A0 n0 c0 z0 W rd0 m0 f0).mono fun e W' ⟨he, bel⟩ => ?_
  subst he
  exact ⟨_, rfl, _, _, _, [], _, [], hW', trodAll_mk1 (shut_bool Try.underlying4 _), (trodAll_cons_mk (Below.trod laidOut (by kernel_rfl) (of_decide_eq_true (by kernel_rfl)) k0 bel lt0) (trodAll_mk0)), rfl, bel.frame _, fun h => by cases h⟩

/-- The given statement: for every input the law returns true, and its arguments read as before. -/
theorem fnSemaPost_holds : Rows.FnSemaPostSaid :=
  OpenClaim.holds_of_wide 4 Try.f4 rfl rfl rfl rfl rfl rfl rfl ⟨rfl, rfl, rfl, rfl, rfl⟩ rfl rfl rfl rfl rfl (by kernel_rfl) Try.func4 (by kernel_rfl)
    (of_decide_eq_true (by kernel_rfl)) (by unfold Func.isWrapper; first | (rw [if_pos (by decide +kernel)]; kernel_rfl) | (rw [if_neg (by decide +kernel)]; exact ⟨rfl, rfl⟩))
    (fun os started H enc _ => fnSemaPost_lifted os started H enc)
#print axioms fnSemaPost_holds
end Go.Proofs.Ythmmkleddembbaa
