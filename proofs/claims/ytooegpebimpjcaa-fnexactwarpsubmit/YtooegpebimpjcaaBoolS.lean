/- Slices of bools: what they hold, and how that is carried on; the laws' toBoolS and eqBoolS; how such an argument is opened. -/
import Derived.Test.YtooegpebimpjcaaOwnK
import Derived.Test.YtooegpebimpjcaaOpenB
import Derived.Deep.Grids
namespace Go.Proofs.Ytooegpebimpjcaa
open Go.RowKit

/-- The slice at A, of n bools and capacity c, is the call's own and holds zs. -/
def OwnB (w : World) (b0 : Nat) (A : Option Addr) (n c : Nat) (zs : List Bool) : Prop := w.ownsRow b0 4 1 (.slice A n c) n (zs.map Value.bool)
/-- The slice at A, of n bools, reads as zs and lies below block B. -/
def RdB (w : World) (B : Nat) (A : Option Addr) (n : Nat) (zs : List Bool) : Prop :=
  zs.length = n ∧ (0 < n → ∃ g o, A = some ⟨g, o, none⟩ ∧ g < B ∧ ∀ i, i < n → w.cell? ⟨g, o + i, none⟩ = some (.bool (zs[i]?.getD false)))

section
variable {w w' : World} {b0 B n c : Nat} {A : Option Addr} {zs : List Bool}
theorem RdB.zero : RdB w B A 0 [] := ⟨rfl, fun h => absurd h (by omega)⟩
theorem RdB.keep (h : RdB w B A n zs) (hk : ∀ p : Addr, p.block < B → w'.cell? p = w.cell? p) : RdB w' B A n zs :=
  ⟨h.1, fun hn => by
    obtain ⟨g, o, e, hg, hc⟩ := h.2 hn
    exact ⟨g, o, e, hg, fun i hi => (hk ⟨g, o + i, none⟩ hg).trans (hc i hi)⟩⟩
theorem RdB.below (h : RdB w B A n zs) (hb : Below B w w') : RdB w' B A n zs := h.keep fun _ hp => hb.cell hp
theorem RdB.alloc (h : RdB w B A n zs) (hB : B ≤ w.heap.size) (o : Obj) : RdB (w.alloc o) B A n zs := h.keep fun p hp => World.cell?_alloc_lt w o p (by omega)
theorem OwnB.len (h : OwnB w b0 A n c zs) : zs.length = n := by simpa using h.1
theorem OwnB.form (h : OwnB w b0 A n c zs) (hn : 0 < n) : ∃ g, A = some ⟨g, 0, none⟩ ∧ b0 ≤ g ∧ g < w.heap.size := by
  rcases h.2 with ⟨hv, h0⟩ | ⟨g, cap, cur, hv, hb, hh, _⟩
  · omega
  · exact ⟨g, by injection hv, hb, (Array.getElem?_eq_some_iff.1 hh).1⟩
theorem OwnB.cell (h : OwnB w b0 A n c zs) {g i : Nat} (hA : A = some ⟨g, 0, none⟩) (hi : i < n) : w.cell? ⟨g, i, none⟩ = some (.bool (zs[i]?.getD false)) := by
  subst hA
  rw [World.ownsRow.cellAt h i (by omega)]
  have hl : i < zs.length := by rw [h.len]; exact hi
  simp [hl]
theorem OwnB.free (h : OwnB w b0 A n c zs) {g : Nat} (hA : A = some ⟨g, 0, none⟩) (i : Nat) : w.frozen? ⟨g, i, none⟩ = false := by
  subst hA
  exact World.ownsRow.frozenAt h i
theorem OwnB.rd (h : OwnB w b0 A n c zs) : RdB w w.heap.size A n zs :=
  ⟨h.len, fun hn => by
    obtain ⟨g, hA, _, hlt⟩ := h.form hn
    exact ⟨g, 0, hA, hlt, fun i hi => by rw [Nat.zero_add]; exact h.cell hA hi⟩⟩
theorem OwnB.below (h : OwnB w b0 A n c zs) (hb : Below w.heap.size w w') : OwnB w' b0 A n c zs :=
  World.ownsRow.kept h (row := none) ⟨hb.os, hb.tape, hb.output, hb.size, fun k hk _ => hb.block k hk⟩ (by cases hv : (Value.slice A n c).ownBlock <;> simp)
theorem OwnB.from_ {b1 : Nat} (h : OwnB w b0 A n c zs) (hb : b1 ≤ b0) : OwnB w b1 A n c zs := by
  refine ⟨h.1, ?_⟩
  rcases h.2 with h2 | ⟨g, cap, cur, hv, hg, r⟩
  · exact .inl h2
  · exact .inr ⟨g, cap, cur, hv, by omega, r⟩
theorem OwnB.store {g i : Nat} {x : Bool} (h : OwnB w b0 (some ⟨g, 0, none⟩) n c zs) : OwnB (w.setCell ⟨g, i, none⟩ (.bool x)) b0 (some ⟨g, 0, none⟩) n c (zs.set i x) := by
  have h1 := World.ownsRow.stored h i (.bool x)
  rw [← List.map_set] at h1
  exact h1.1
theorem OwnB.low {p : Addr} (h : OwnB w b0 A n c zs) (hp : p.block < b0) (u : Value) : OwnB (w.setCell p u) b0 A n c zs := ownsRow_setCell_below h hp u
theorem OwnB.alloc (h : OwnB w b0 A n c zs) (o : Obj) : OwnB (w.alloc o) b0 A n c zs := World.ownsRow.alloc h o
theorem OwnB.far (h : OwnB w b0 A n c zs) {row : Option Nat} (hg : w.grownBy w' row) (hne : ∀ g, (Value.slice A n c).ownBlock = some g → row ≠ some g) : OwnB w' b0 A n c zs := by
  refine World.ownsRow.kept h hg ?_
  cases hv : (Value.slice A n c).ownBlock with
  | none => exact .inl rfl
  | some g => exact .inr (fun e => hne g hv e.symm)
theorem OwnB.range (h : OwnB w b0 A n c zs) : ∀ g, (Value.slice A n c).ownBlock = some g → b0 ≤ g ∧ g < w.heap.size := World.ownsRow.lt h
theorem OwnB.shape {v : Value} (h : w.ownsRow b0 4 1 v n (zs.map (Value.bool))) : ∃ A c, v = .slice A n c ∧ OwnB w b0 A n c zs := by
  rcases h.2 with ⟨rfl, rfl⟩ | ⟨g, cap, cur, rfl, r⟩
  · exact ⟨_, _, rfl, h⟩
  · exact ⟨_, _, rfl, h⟩
end

theorem info_bool : (Try.prog.info? 4).map (fun i => (i.zero, i.size, i.bytes)) = some (some (.bool false), 1, 1) := by kernel_rfl

theorem takeB_next {z1 z2 : List Bool} {k : Nat} (h : z1.take k = z2.take k) (h1 : k < z1.length) (h2 : k < z2.length) (e : z1[k]?.getD false = z2[k]?.getD false) : z1.take (k + 1) = z2.take (k + 1) := by
  simp only [List.getElem?_eq_getElem h1, List.getElem?_eq_getElem h2, Option.getD_some] at e
  rw [List.take_succ_eq_append_getElem h1, List.take_succ_eq_append_getElem h2, h, e]
theorem neB_at {z1 z2 : List Bool} {k : Nat} (e : ¬ z1[k]?.getD false = z2[k]?.getD false) : ¬ z1 = z2 := by
  rintro rfl; exact e rfl
theorem eqB_all {z1 z2 : List Bool} {k : Nat} (h : z1.take k = z2.take k) (h1 : z1.length ≤ k) (h2 : z2.length ≤ k) : z1 = z2 := by
  rwa [List.take_of_length_le h1, List.take_of_length_le h2] at h

/-- The first k of zs, then false. -/
def fillB (zs : List Bool) (n k : Nat) : List Bool := zs.take k ++ List.replicate (n - k) false
theorem fillB_len {zs : List Bool} {n k : Nat} (hl : zs.length = n) (hk : k ≤ n) : (fillB zs n k).length = n := by simp [fillB]; omega
theorem fillB_next {zs : List Bool} {n k : Nat} (hl : zs.length = n) (hk : k < n) : (fillB zs n k).set k (zs[k]?.getD false) = fillB zs n (k + 1) := by
  have h1 : k < zs.length := by omega
  unfold fillB
  rw [List.take_succ_eq_append_getElem h1, show n - k = (n - (k + 1)) + 1 from by omega, List.replicate_succ, List.set_append]
  simp only [List.getElem?_eq_getElem h1, Option.getD_some, List.length_take, Nat.min_eq_left (Nat.le_of_lt h1), Nat.lt_irrefl, if_false, Nat.sub_self, List.set_cons_zero, List.append_assoc, List.cons_append, List.nil_append]
theorem fillB_all {zs : List Bool} {n k : Nat} (hl : zs.length = n) (hk : n ≤ k) : fillB zs n k = zs := by
  unfold fillB
  rw [List.take_of_length_le (by omega), show n - k = 0 from by omega]; simp

theorem cells_bool : Try.prog.cellsOf 4 = 1 := by kernel_rfl

section
open Go.ChangeShapes Go.WideShapes Go.ChangeAt
set_option maxRecDepth 100000 in
theorem open_boolS {H : Type} {enc : TypeId × Value → H} {W : World} {base : Nat} {v : Value} {d : DataW H} {p : List MemPlace} (hv : Value.okWide Try.prog W .any base 116 v)
    (h : DataW.Trod enc Try.prog W 0 (fun _ => true) true 116 v d p) :
    ∃ A n c bs, v = .slice A n c ∧ n ≤ maxLen ∧ RdB W W.heap.size A n bs ∧ True := by
  obtain ⟨a0, l0, c0, rfl⟩ := okWide_slice Try.underlying116 hv
  obtain ⟨fuel, hf⟩ := h
  rcases Deep.open_bools Try.underlying116 Try.underlying4 cells_bool hf with ⟨hcs, _⟩ | ⟨x, l, c, zs, hcs, _, hl, hm, _, hcell⟩
  · simp [Value.cells] at hcs
    obtain ⟨rfl, rfl, rfl⟩ := hcs
    exact ⟨_, _, _, [], rfl, by unfold maxLen; omega, RdB.zero, trivial⟩
  · simp [Value.cells] at hcs
    obtain ⟨rfl, rfl, rfl⟩ := hcs
    refine ⟨_, _, _, (List.range l0).map zs, rfl, by omega, ⟨by simp, fun hn => ?_⟩, trivial⟩
    obtain ⟨b, off, spot⟩ := x
    have h0 := hcell 0 (by omega)
    have hspot : spot = none := by simpa [Addr.add] using World.cell?_spot h0
    subst hspot
    have hblk := World.block_lt_of_cell? W _ h0
    refine ⟨b, off, rfl, by simpa [Addr.add] using hblk, fun i hi => ?_⟩
    have := hcell i (by omega)
    have e : ((List.range l0).map zs)[i]?.getD false = zs i := by simp [hi]
    rw [e, ← this]
    congr 1
    unfold Addr.add; split <;> simp_all
end

end Go.Proofs.Ytooegpebimpjcaa
