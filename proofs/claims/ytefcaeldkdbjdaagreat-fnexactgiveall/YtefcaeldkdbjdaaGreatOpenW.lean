/- How an argument of these statements is opened: numbers. -/
/- How an argument of these statements is opened: a request, a warp. -/
import Derived.Test.YtefcaeldkdbjdaaGreatBase
import Derived.ProofKit
import Derived.OpenShut
import Derived.ShutString
import Derived.ChangeOld
import Derived.Test.YtefcaeldkdbjdaaGreatOwnK
import Derived.Lib.SmallJoins
namespace Go.Proofs.YtefcaeldkdbjdaaGreat
open Go.ChangeShapes Go.WideShapes Go.ChangeAt Go.RowKit

theorem own : ownKnob Tryz.prog.godebug = none := by kernel_rfl
theorem laidOut : laidOutB Tryz.prog = true := by kernel_rfl

theorem nat_of_wf {z : Int} (h : (Lit.int .u32 z).wf = true) : ∃ X : Nat, z = (X : Int) ∧ X < 4294967296 := by
  have := bounds_u32 h
  exact ⟨z.toNat, by omega, by omega⟩
theorem int_of_wf {z : Int} (h : (Lit.int .i64 z).wf = true) : -9223372036854775808 ≤ z ∧ z < 9223372036854775808 := by
  have := bounds_i64 h
  omega

end Go.Proofs.YtefcaeldkdbjdaaGreat

namespace Go.Proofs.YtefcaeldkdbjdaaGreat
open Go.ChangeShapes Go.WideShapes Go.ChangeAt Go.RowKit Go.Deep Go.Joins

theorem cells_int1 : Tryz.prog.cellsOf 3 = 1 := by kernel_rfl
theorem cells_ints1 : Tryz.prog.cellsOf 29 = 1 := by kernel_rfl

theorem cells_warpL : Tryz.prog.cellsOf 68 = 8 := by kernel_rfl

theorem int_cellW {H : Type} {enc : TypeId × Value → H} {W : World} {t : TypeId} {k : IntKind} {n : Nat} {c : Value} {y : DataW H × List MemPlace} (ht : Tryz.prog.underlying t = some (.int k)) (h : DataW.trod enc Tryz.prog W 0 (fun _ => true) true n t [c] = some y) : ∃ z, c = .int k z ∧ (Lit.int k z).wf = true := by
  obtain ⟨z, hc, _, hw⟩ := DataW.trod_int ht h
  simp at hc
  exact ⟨z, hc, hw⟩
theorem nat_cellW {H : Type} {enc : TypeId × Value → H} {W : World} {t : TypeId} {n : Nat} {c : Value} {y : DataW H × List MemPlace} (ht : Tryz.prog.underlying t = some (.int .u32)) (h : DataW.trod enc Tryz.prog W 0 (fun _ => true) true n t [c] = some y) : ∃ X : Nat, c = .int .u32 (X : Int) ∧ X < 4294967296 := by
  obtain ⟨z, rfl, hw⟩ := int_cellW ht h
  obtain ⟨X, rfl, hX⟩ := nat_of_wf hw
  exact ⟨X, rfl, hX⟩

/-- Every number of the list is an int. -/
def Fits (zs : List Int) : Prop := ∀ z ∈ zs, -9223372036854775808 ≤ z ∧ z < 9223372036854775808

set_option maxRecDepth 100000 in
theorem ints_cellW {H : Type} {enc : TypeId × Value → H} {W : World} {n : Nat} {v : Value} {y : DataW H × List MemPlace} (h : DataW.trod enc Tryz.prog W 0 (fun _ => true) true n 29 [v] = some y) :
    ∃ A n c zs, v = .slice A n c ∧ n ≤ maxLen ∧ RdK .i64 W W.heap.size A n zs ∧ Fits zs := by
  rcases open_ints Tryz.underlying29 Tryz.underlying3 cells_int1 h with ⟨hcs, _⟩ | ⟨x, l, c, zs, hcs, _, hl, hm, hz, _, hcell, hwz⟩
  · simp at hcs
    subst hcs
    exact ⟨_, _, _, [], rfl, by unfold maxLen; omega, RdK.zero, by intro z hz; simp at hz⟩
  · simp at hcs
    subst hcs
    have hz' : zs.length = c := by simpa using hz
    refine ⟨_, _, _, zs.take l, rfl, by omega, ⟨by simp; omega, fun hn => ?_⟩, fun z hzz => by have := bounds_i64 (hwz z (List.mem_of_mem_take hzz)); omega⟩
    obtain ⟨b, off, spot⟩ := x
    have h0 := hcell 0 (by omega)
    have hspot : spot = none := by simpa [Addr.add] using World.cell?_spot h0
    subst hspot
    have hblk := World.block_lt_of_cell? W _ h0
    refine ⟨b, off, rfl, by simpa [Addr.add] using hblk, fun i hi => ?_⟩
    have := hcell i (by omega)
    have e : (zs.take l)[i]?.getD 0 = zs.getD i 0 := by simp [hi]
    rw [e, ← this]
    congr 1
    unfold Addr.add; split <;> simp_all

/-- A struct of eight one-cell fields by value: each cell and its reading. -/
theorem agg8 {H : Type} {enc : TypeId × Value → H} {P : Program} {W : World} {r : Reach} {b0 base : Nat} {spare : Nat → Bool} {held : Bool} {t : TypeId} {f0 f1 f2 f3 f4 f5 f6 f7 : Field} {v : Value} {d : DataW H} {p : List MemPlace}
    (hs : P.underlying t = some (.struct #[f0, f1, f2, f3, f4, f5, f6, f7])) (hone : oneCellFields P #[f0, f1, f2, f3, f4, f5, f6, f7] = true) (hC : P.cellsOf t = 8) (hv : Value.okWide P W r b0 t v) (h : DataW.Trod enc P W base spare held t v d p) :
    ∃ (c0 c1 c2 c3 c4 c5 c6 c7 : Value) (k : Nat), v = .agg #[c0, c1, c2, c3, c4, c5, c6, c7] ∧
      (∃ y, DataW.trod enc P W base spare held k f0.type [c0] = some y) ∧ (∃ y, DataW.trod enc P W base spare held k f1.type [c1] = some y) ∧ (∃ y, DataW.trod enc P W base spare held k f2.type [c2] = some y) ∧ (∃ y, DataW.trod enc P W base spare held k f3.type [c3] = some y) ∧
      (∃ y, DataW.trod enc P W base spare held k f4.type [c4] = some y) ∧ (∃ y, DataW.trod enc P W base spare held k f5.type [c5] = some y) ∧ (∃ y, DataW.trod enc P W base spare held k f6.type [c6] = some y) ∧ (∃ y, DataW.trod enc P W base spare held k f7.type [c7] = some y) := by
  obtain ⟨cs, rfl, hsz⟩ := okWide_struct hs hv
  rw [hC] at hsz
  obtain ⟨l⟩ := cs
  match l, hsz with
  | [c0, c1, c2, c3, c4, c5, c6, c7], _ =>
    obtain ⟨fuel, hf⟩ := h
    obtain ⟨ys, k, _, _, _, hlen, hg⟩ := DataW.trod_struct hs hf
    have g : ∀ j (hj : j < 8) (f : Field) (c : Value), (#[f0, f1, f2, f3, f4, f5, f6, f7] : Array Field)[j]? = some f → [c0, c1, c2, c3, c4, c5, c6, c7][j]? = some c → ∃ y, DataW.trod enc P W base spare held k f.type [c] = some y := by
      intro j hj f c h1 h2
      obtain ⟨o, q⟩ := hone_of hone j f h1
      have hx := hg j f h1
      have hl : j < ys.length := by rw [hlen]; exact hj
      rw [o, q, List.getElem?_eq_getElem hl] at hx
      have hd : (([c0, c1, c2, c3, c4, c5, c6, c7] : List Value).drop j).take 1 = [c] := by
        obtain ⟨hl, rfl⟩ := List.getElem?_eq_some_iff.1 h2
        rw [List.drop_eq_getElem_cons hl]
        rfl
      simp only [Value.cells] at hx
      rw [hd] at hx
      exact ⟨_, hx⟩
    exact ⟨c0, c1, c2, c3, c4, c5, c6, c7, k, rfl, g 0 (by omega) _ _ rfl rfl, g 1 (by omega) _ _ rfl rfl, g 2 (by omega) _ _ rfl rfl, g 3 (by omega) _ _ rfl rfl, g 4 (by omega) _ _ rfl rfl, g 5 (by omega) _ _ rfl rfl, g 6 (by omega) _ _ rfl rfl, g 7 (by omega) _ _ rfl rfl⟩

set_option maxRecDepth 100000 in
theorem open_warp {H : Type} {enc : TypeId × Value → H} {W : World} {base : Nat} {v : Value} {d : DataW H} {p : List MemPlace} (hv : Value.okWide Tryz.prog W .any base 68 v)
    (h : DataW.Trod enc Tryz.prog W 0 (fun _ => true) true 68 v d p) :
    ∃ (kd : Int) (A : Option Addr) (n c : Nat) (vs : List Int) (B : Option Addr) (m e : Nat) (gs : List Int) (td : Nat) (ph pr hd : Int) (sn : Nat), v = .agg #[.int .i64 kd, .slice A n c, .slice B m e, .int .u32 (td : Int), .int .i64 ph, .int .i64 pr, .int .i64 hd, .int .u32 (sn : Int)] ∧
      ((Lit.int .i64 kd).wf = true ∧ td < 4294967296 ∧ (Lit.int .i64 ph).wf = true ∧ (Lit.int .i64 pr).wf = true ∧ (Lit.int .i64 hd).wf = true ∧ sn < 4294967296) ∧
      (n ≤ maxLen ∧ RdK .i64 W W.heap.size A n vs ∧ Fits vs) ∧ (m ≤ maxLen ∧ RdK .i64 W W.heap.size B m gs ∧ Fits gs) := by
  obtain ⟨c0, c1, c2, c3, c4, c5, c6, c7, k, rfl, ⟨y0, g0⟩, ⟨y1, g1⟩, ⟨y2, g2⟩, ⟨y3, g3⟩, ⟨y4, g4⟩, ⟨y5, g5⟩, ⟨y6, g6⟩, ⟨y7, g7⟩⟩ := agg8 Tryz.underlying68 (by kernel_rfl) cells_warpL hv h
  obtain ⟨kd, rfl, wk⟩ := int_cellW Tryz.underlying3 g0
  obtain ⟨A, n, c, vs, rfl, hm, hr, hfv⟩ := ints_cellW g1
  obtain ⟨B, m, e, gs, rfl, hm2, hr2, hfg⟩ := ints_cellW g2
  obtain ⟨td, rfl, wt⟩ := nat_cellW Tryz.underlying47 g3
  obtain ⟨ph, rfl, wp⟩ := int_cellW Tryz.underlying3 g4
  obtain ⟨pr, rfl, wr⟩ := int_cellW Tryz.underlying3 g5
  obtain ⟨hd, rfl, wh⟩ := int_cellW Tryz.underlying3 g6
  obtain ⟨sn, rfl, ws⟩ := nat_cellW Tryz.underlying47 g7
  exact ⟨kd, A, n, c, vs, B, m, e, gs, td, ph, pr, hd, sn, rfl, ⟨wk, wt, wp, wr, wh, ws⟩, ⟨hm, hr, hfv⟩, ⟨hm2, hr2, hfg⟩⟩

end Go.Proofs.YtefcaeldkdbjdaaGreat
