/- FnSemaBack: a semaphore is recovered from its word, and a word from its semaphore. Proved for every code. No condition. -/
import Derived.Test.YtflkakfflfocmaaDrawSema
import Derived.Test.YtflkakfflfocmaaISema
import Derived.Test.YtflkakfflfocmaaOpenY
namespace Go.Proofs.Ytflkakfflfocmaa
open Go.ChangeShapes Go.WideShapes Go.ChangeAt Go.RowKit
set_option linter.unusedVariables false

theorem sunpack {C E R : Int} (h : SemaGood C E R) : ∃ X : Nat, packS C E R = (X : Int) ∧ X < 4294967296 ∧ SGoodX X ∧ ((cOf X : Nat) : Int) = C ∧ ((eOf X : Nat) : Int) = E ∧ ((rOf X : Nat) : Int) = R := by
  obtain ⟨⟨a0, a1⟩, ⟨a2, a3⟩, ⟨a4, a5⟩, a6⟩ := id h
  have e0 : packS C E R = (((C + 1024 * E + 1048576 * R).toNat : Nat) : Int) := by rw [packS_good h]; unfold packSV; omega
  have e1 : ((cOf (C + 1024 * E + 1048576 * R).toNat : Nat) : Int) = C := by unfold cOf; omega
  have e2 : ((eOf (C + 1024 * E + 1048576 * R).toNat : Nat) : Int) = E := by unfold eOf; omega
  have e3 : ((rOf (C + 1024 * E + 1048576 * R).toNat : Nat) : Int) = R := by unfold rOf; omega
  refine ⟨_, e0, by omega, ?_, e1, e2, e3⟩
  unfold SGoodX
  rw [e1, e2, e3]
  exact h
theorem srepack {Y : Nat} (h : SGoodX Y) : packS (cOf Y) (eOf Y) (rOf Y) = (Y : Int) := by
  rw [packS_good h]
  unfold packSV cOf eOf rOf
  omega

set_option maxRecDepth 100000 in
set_option maxHeartbeats 4000000 in
theorem fnSemaBack_walk (A : Option Addr) (n c : Nat) (bs : List Int) (w0 : World) (h : RdK .u8 w0 w0.heap.size A n bs) (hm0 : n ≤ maxLen) (hf : ∀ z ∈ bs, 0 ≤ z ∧ z < 256) :
    Calls Try.prog 3 #[.slice A n c] w0 fun e w' => e = .returned (.bool true) ∧ Below w0.heap.size w0 w' := by
  have H := Lib.hid h
  have HF := Lib.hid hf
  clear h hf
  by_cases hn' : n ≤ 1048576
  · have hn : ¬ (1048576 : Int) < (n : Int) := by omega
    go_enter Try.func3, Try.ntmps3
    go_wp2_with fail
    refine (big_any A n c w0).mono ?_
    rintro e w1 ⟨rfl, rfl⟩
    go_wp2_with fail
    refine (drawSemaPack A n c bs w0 H.out HF.out hn').mono ?_
    rintro e w1 ⟨C, E, R, rfl, _, B1⟩
    have HP := Lib.hid (fun W => semaPack_any C E R W)
    have HO := Lib.hid (fun W => sSemaOk_any C E R W)
    go_wp2_with fail
    refine (HP.out _).mono ?_
    rintro e w2 ⟨rfl, h2⟩
    obtain ⟨u2, h2'⟩ := oneS_new h2
    obtain ⟨⟨c0, c1, c2⟩, _⟩ := blkS u2
    have U2 := Lib.hid u2
    have B2 := Lib.hid (B1.out.trans (h2'.mono B1.out.size))
    clear h2 h2' B1 u2
    go_wp2_with fail
    refine (HO.out _).mono ?_
    rintro e w3 ⟨rfl, h3⟩
    have l3 : w1.heap.size < w2.heap.size := (Array.getElem?_eq_some_iff.1 U2.out).1
    have U3 := Lib.hid ((h3.block _ l3).trans U2.out)
    have B3 := Lib.hid (B2.out.trans (h3.mono B2.out.size))
    have l3' : w1.heap.size < w3.heap.size := (Array.getElem?_eq_some_iff.1 U3.out).1
    clear h3 U2 B2 c0 c1 c2 HO HP l3
    by_cases hg : SemaGood C E R
    · obtain ⟨X, hX, hX2, hXg, e1, e2, e3⟩ := sunpack hg
      have HX2 := Lib.hid hX2
      have HR := Lib.hid (fun W => semaRead_any X W HX2.out)
      rw [decide_eq_true hXg, e1, e2, e3] at HR
      simp only [semaIf, if_true] at HR
      have HL := Lib.hid (fun W => semaLeft_any C E R W)
      obtain ⟨lf, hlf, hl0⟩ : ∃ lf : Int, leftV C E R = lf ∧ ¬ lf < 0 := ⟨C + E - R, if_pos hg, by have := hg.2.2.2; omega⟩
      rw [hlf] at HL
      rw [decide_eq_true hg, hX]
      clear hX hX2 hXg e1 e2 e3 hg hlf
      go_wp2_with fail
      refine (HR.out _).mono ?_
      rintro e w4 ⟨rfl, h4⟩
      have U4 := Lib.hid ((h4.block _ l3').trans U3.out)
      have B4 := Lib.hid (B3.out.trans (h4.mono B3.out.size))
      have l4 : w1.heap.size < w4.heap.size := (Array.getElem?_eq_some_iff.1 U4.out).1
      have n4 : w1.heap.size ≠ w4.heap.size := by omega
      obtain ⟨⟨c0, c1, c2⟩, _⟩ := blkS U4.out
      clear h4 B3 U3 U4 l3' HR HX2
      go_wp2_with fail
      refine (HL.out _).mono ?_
      rintro e w5 ⟨rfl, h5⟩
      have z4 := B4.out.size
      have B5 : Hid (Below w0.heap.size w0 w5) := (by repeat (first | exact Below.refl _ _ | refine Below.drew ?_ | refine Below.setCell ?_ (by first | omega | (simp; done) | (simp; omega) | (simp [*]; done)) _ | refine Below.alloc ?_ (by first | omega | (simp; done) | (simp; omega) | (simp [*]; done)) _ | refine Below.trans ?_ (Below.mono (B4.out) (by first | omega | (simp; done) | (simp; omega) | (simp [*]; done))) | refine Below.trans ?_ (Below.mono (h5) (by first | omega | (simp; done) | (simp; omega) | (simp [*]; done)))))
      clear c0 c1 c2 h5 B4 HL n4 l4

      go_wp2_with fail
      refine (drawSemaRead A n c bs _ (rdk_more (H.out.keep (fun p hp => B5.out.cell hp)) B5.out.size) HF.out hn').mono ?_
      rintro e w6 ⟨Y, rfl, HY, h6⟩
      have B6 := Lib.hid (B5.out.trans (h6.out.mono B5.out.size))
      have HI := Lib.hid (fun W => semaRead_any Y W HY.out)
      have HS := Lib.hid (fun W => sSemaRead_any Y W HY.out)
      clear h6 B5 H HF hn hn'
      by_cases hy : SGoodX Y
      · have HC := Lib.hid (fun W => semaPack_any (cOf Y) (eOf Y) (rOf Y) W)
        rw [srepack hy, decide_eq_true (show SemaGood (cOf Y) (eOf Y) (rOf Y) from hy)] at HC
        rw [decide_eq_true hy] at HI HS
        simp only [semaIf, if_true] at HI HS
        clear hy
        generalize ((cOf Y : Nat) : Int) = p at *
        generalize ((eOf Y : Nat) : Int) = q at *
        generalize ((rOf Y : Nat) : Int) = r at *
        go_wp2_with fail
        refine (HI.out _).mono ?_
        rintro e w7 ⟨rfl, h7⟩
        have B7 := Lib.hid (B6.out.trans (h7.mono B6.out.size))
        clear h7 B6
        go_wp2_with fail
        refine (HS.out _).mono ?_
        rintro e w8 ⟨rfl, h8⟩
        obtain ⟨u8, h8'⟩ := oneS_new h8
        have B8 := Lib.hid (B7.out.trans (h8'.mono B7.out.size))
        have l8 : w7.heap.size < w8.heap.size := (Array.getElem?_eq_some_iff.1 u8).1
        have n8 : w7.heap.size ≠ w8.heap.size := by omega
        obtain ⟨⟨c0, c1, c2⟩, _⟩ := blkS u8
        clear h8 h8' u8 B7
        go_wp2_with fail
        refine (HC.out _).mono ?_
        rintro e w9 ⟨rfl, h9⟩
        have z8 := B8.out.size
        have B9 : Hid (Below w0.heap.size w0 w9) := (by repeat (first | exact Below.refl _ _ | refine Below.drew ?_ | refine Below.setCell ?_ (by first | omega | (simp; done) | (simp; omega) | (simp [*]; done)) _ | refine Below.alloc ?_ (by first | omega | (simp; done) | (simp; omega) | (simp [*]; done)) _ | refine Below.trans ?_ (Below.mono (B8.out) (by first | omega | (simp; done) | (simp; omega) | (simp [*]; done))) | refine Below.trans ?_ (Below.mono (h9) (by first | omega | (simp; done) | (simp; omega) | (simp [*]; done)))))
        clear h9 c0 c1 c2
        go_wp2
        go_ret
        exact ⟨rfl, B9.out⟩
      · rw [decide_eq_false hy] at HI HS
        simp only [semaIf] at HI HS
        clear hy
        go_wp2_with fail
        refine (HI.out _).mono ?_
        rintro e w7 ⟨rfl, h7⟩
        have B7 := Lib.hid (B6.out.trans (h7.mono B6.out.size))
        clear h7 B6
        go_wp2_with fail
        refine (HS.out _).mono ?_
        rintro e w8 ⟨rfl, h8⟩
        obtain ⟨u8, h8'⟩ := oneS_new h8
        have B8 := Lib.hid (B7.out.trans (h8'.mono B7.out.size))
        have l8 : w7.heap.size < w8.heap.size := (Array.getElem?_eq_some_iff.1 u8).1
        have n8 : w7.heap.size ≠ w8.heap.size := by omega
        have z8 := B8.out.size
        obtain ⟨⟨c0, c1, c2⟩, _⟩ := blkS u8
        clear h8 h8' u8 B7
        go_wp2
        go_ret
        exact ⟨rfl, (by repeat (first | exact Below.refl _ _ | refine Below.drew ?_ | refine Below.setCell ?_ (by first | omega | (simp; done) | (simp; omega) | (simp [*]; done)) _ | refine Below.alloc ?_ (by first | omega | (simp; done) | (simp; omega) | (simp [*]; done)) _ | refine Below.trans ?_ (Below.mono (B8.out) (by first | omega | (simp; done) | (simp; omega) | (simp [*]; done)))))⟩
    · rw [decide_eq_false hg, packS_bad hg]
      clear hg U3 l3'
      go_wp2_with fail
      refine (drawSemaRead A n c bs _ (rdk_more (H.out.keep (fun p hp => B3.out.cell hp)) B3.out.size) HF.out hn').mono ?_
      rintro e w6 ⟨Y, rfl, HY, h6⟩
      have B6 := Lib.hid (B3.out.trans (h6.out.mono B3.out.size))
      have HI := Lib.hid (fun W => semaRead_any Y W HY.out)
      have HS := Lib.hid (fun W => sSemaRead_any Y W HY.out)
      clear h6 B3 H HF hn hn'
      by_cases hy : SGoodX Y
      · have HC := Lib.hid (fun W => semaPack_any (cOf Y) (eOf Y) (rOf Y) W)
        rw [srepack hy, decide_eq_true (show SemaGood (cOf Y) (eOf Y) (rOf Y) from hy)] at HC
        rw [decide_eq_true hy] at HI HS
        simp only [semaIf, if_true] at HI HS
        clear hy
        generalize ((cOf Y : Nat) : Int) = p at *
        generalize ((eOf Y : Nat) : Int) = q at *
        generalize ((rOf Y : Nat) : Int) = r at *
        go_wp2_with fail
        refine (HI.out _).mono ?_
        rintro e w7 ⟨rfl, h7⟩
        have B7 := Lib.hid (B6.out.trans (h7.mono B6.out.size))
        clear h7 B6
        go_wp2_with fail
        refine (HS.out _).mono ?_
        rintro e w8 ⟨rfl, h8⟩
        obtain ⟨u8, h8'⟩ := oneS_new h8
        have B8 := Lib.hid (B7.out.trans (h8'.mono B7.out.size))
        have l8 : w7.heap.size < w8.heap.size := (Array.getElem?_eq_some_iff.1 u8).1
        have n8 : w7.heap.size ≠ w8.heap.size := by omega
        obtain ⟨⟨c0, c1, c2⟩, _⟩ := blkS u8
        clear h8 h8' u8 B7
        go_wp2_with fail
        refine (HC.out _).mono ?_
        rintro e w9 ⟨rfl, h9⟩
        have z8 := B8.out.size
        have B9 : Hid (Below w0.heap.size w0 w9) := (by repeat (first | exact Below.refl _ _ | refine Below.drew ?_ | refine Below.setCell ?_ (by first | omega | (simp; done) | (simp; omega) | (simp [*]; done)) _ | refine Below.alloc ?_ (by first | omega | (simp; done) | (simp; omega) | (simp [*]; done)) _ | refine Below.trans ?_ (Below.mono (B8.out) (by first | omega | (simp; done) | (simp; omega) | (simp [*]; done))) | refine Below.trans ?_ (Below.mono (h9) (by first | omega | (simp; done) | (simp; omega) | (simp [*]; done)))))
        clear h9 c0 c1 c2
        go_wp2
        go_ret
        exact ⟨rfl, B9.out⟩
      · rw [decide_eq_false hy] at HI HS
        simp only [semaIf] at HI HS
        clear hy
        go_wp2_with fail
        refine (HI.out _).mono ?_
        rintro e w7 ⟨rfl, h7⟩
        have B7 := Lib.hid (B6.out.trans (h7.mono B6.out.size))
        clear h7 B6
        go_wp2_with fail
        refine (HS.out _).mono ?_
        rintro e w8 ⟨rfl, h8⟩
        obtain ⟨u8, h8'⟩ := oneS_new h8
        have B8 := Lib.hid (B7.out.trans (h8'.mono B7.out.size))
        have l8 : w7.heap.size < w8.heap.size := (Array.getElem?_eq_some_iff.1 u8).1
        have n8 : w7.heap.size ≠ w8.heap.size := by omega
        have z8 := B8.out.size
        obtain ⟨⟨c0, c1, c2⟩, _⟩ := blkS u8
        clear h8 h8' u8 B7
        go_wp2
        go_ret
        exact ⟨rfl, (by repeat (first | exact Below.refl _ _ | refine Below.drew ?_ | refine Below.setCell ?_ (by first | omega | (simp; done) | (simp; omega) | (simp [*]; done)) _ | refine Below.alloc ?_ (by first | omega | (simp; done) | (simp; omega) | (simp [*]; done)) _ | refine Below.trans ?_ (Below.mono (B8.out) (by first | omega | (simp; done) | (simp; omega) | (simp [*]; done)))))⟩
  · have hn : (1048576 : Int) < (n : Int) := by omega
    clear H HF
    go_enter Try.func3, Try.ntmps3
    go_wp2_with fail
    refine (big_any A n c w0).mono ?_
    rintro e w1 ⟨rfl, rfl⟩
    go_wp2
    go_ret
    exact ⟨rfl, Below.refl _ _⟩

set_option maxRecDepth 100000 in
theorem fnSemaBack_lifted (os : Os) (started : os.Started) (H : Type) (enc : TypeId × Value → H) :
    ReturnsInHanded {} Try.checked os 3 .any (Rows.fnSemaBackSpec.pre6 enc Try.prog Try.f3 Rows.fnSemaBackRow.domain false) (Rows.fnSemaBackSpec.post enc Try.prog Try.f3 false true false false) := by
  refine returnsInHanded_of_change (C := Try.checked) own started (by kernel_rfl) Try.func3
    (ChangeSpec.witness6 (enc := enc) (C := Try.checked) false ⟨#[], #[.slice none 0 0], []⟩ 8 (by kernel_rfl) (by kernel_rfl) (by kernel_rfl) (by kernel_rfl)) ?_
  intro W base args ds gs before hval0 hW hcnd _
  have hval : ∀ (j : Nat) t v, Try.f3.params[j]? = some t → args[j]? = some v → Value.okWide Try.prog W .any base t v := hval0
  have hW' := hW
  obtain ⟨p, q, hA0, hV, rfl, hfz, hnd⟩ := hW
  have hA : DataW.TrodAll enc Try.prog W 0 (fun _ => true) true Try.f3.params.toList args.toList ds p := hA0
  rw [Try.params3] at hA hval
  obtain ⟨v0, vs0, d0, ds0, p0, q0, hargs, rfl, rfl, h0, r0⟩ := trodAll_cons hA
  obtain ⟨rfl, rfl, rfl⟩ := trodAll_nil r0
  obtain rfl : args = #[v0] := by cases args; simp_all
  obtain ⟨rfl, rfl⟩ := trodVars_none hV
  have k0 := h0
  have lt0 : ∀ x ∈ p0, x.block < W.heap.size := by obtain ⟨m, hm⟩ := k0; exact DataW.trod_lt m _ _ _ hm
  obtain ⟨A0, n0, c0, z0, rfl, m0, rd0, f0⟩ := open_bytes (hval 0 22 v0 rfl rfl) h0
  clear hA0 hval0
  refine (fnSemaBack_walk A0 n0 c0 z0 W rd0 m0 f0).mono fun e W' ⟨he, bel⟩ => ?_
  subst he
  exact ⟨_, rfl, _, _, _, [], _, [], hW', trodAll_mk1 (shut_bool Try.underlying4 _), (trodAll_cons_mk (Below.trod laidOut (by kernel_rfl) (of_decide_eq_true (by kernel_rfl)) k0 bel lt0) (trodAll_mk0)), rfl, bel.frame _, fun h => by cases h⟩

/-- The given statement: for every input the law returns true, and its arguments read as before. -/
theorem fnSemaBack_holds : Rows.FnSemaBackSaid :=
  OpenClaim.holds_of_wide 3 Try.f3 rfl rfl rfl rfl rfl rfl rfl ⟨rfl, rfl, rfl, rfl, rfl⟩ rfl rfl rfl rfl rfl (by kernel_rfl) Try.func3 (by kernel_rfl)
    (of_decide_eq_true (by kernel_rfl)) (by unfold Func.isWrapper; first | (rw [if_pos (by decide +kernel)]; kernel_rfl) | (rw [if_neg (by decide +kernel)]; exact ⟨rfl, rfl⟩))
    (fun os started H enc _ => fnSemaBack_lifted os started H enc)
#print axioms fnSemaBack_holds
end Go.Proofs.Ytflkakfflfocmaa
