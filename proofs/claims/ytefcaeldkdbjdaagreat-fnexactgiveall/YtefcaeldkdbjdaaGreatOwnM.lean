/- Lists of warps: how they lie, and what is read of them. -/
/- Lists of warps that a call owns: the row of their cells. -/
/- Lists of warps that a call owns, rows and all. -/
import Derived.Test.YtefcaeldkdbjdaaGreatOwnK
import Derived.Test.YtefcaeldkdbjdaaGreatWarpM
import Derived.Test.YtefcaeldkdbjdaaGreatCopyI
namespace Go.Proofs.YtefcaeldkdbjdaaGreat
open Go.RowKit
set_option linter.unusedVariables false

/-- What a warp says, whatever memory its rows lie in. -/
structure WV where
  kd : Int
  vs : List Int
  gs : List Int
  td : Nat
  ph : Int
  pr : Int
  hd : Int
  sn : Nat
/-- A warp as it lies: where its rows are, and how much room they have. -/
structure Wc where
  v : WV
  A : Option Addr
  c : Nat
  B : Option Addr
  d : Nat
instance : Inhabited WV := ⟨⟨0, [], [], 0, 0, 0, 0, 0⟩⟩
instance : Inhabited Wc := ⟨⟨default, none, 0, none, 0⟩⟩
/-- Its eight cells. -/
def Wc.cells (x : Wc) : List Value := [.int .i64 x.v.kd, .slice x.A x.v.vs.length x.c, .slice x.B x.v.gs.length x.d, .int .u32 (x.v.td : Int), .int .i64 x.v.ph, .int .i64 x.v.pr, .int .i64 x.v.hd, .int .u32 (x.v.sn : Int)]
/-- The numbers fit their kinds, the rows their bounds. -/
def WV.Fit (x : WV) : Prop := x.vs.length ≤ maxLen ∧ x.gs.length ≤ maxLen ∧ x.td < 4294967296 ∧ x.sn < 4294967296 ∧ (Lit.int .i64 x.pr).wf = true
/-- Its rows are read. -/
def Wc.Rows (w : World) (B : Nat) (x : Wc) : Prop := RdK .i64 w B x.A x.v.vs.length x.v.vs ∧ RdK .i64 w B x.B x.v.gs.length x.v.gs
def wat (xs : List Wc) (i : Nat) : Wc := xs[i]?.getD default
theorem wat_mem {xs : List Wc} {i : Nat} (h : i < xs.length) : wat xs i ∈ xs := by
  unfold wat
  rw [List.getElem?_eq_getElem h]
  exact List.getElem_mem h
/-- n warps are read at A. -/
def RdW (w : World) (B : Nat) (A : Option Addr) (n : Nat) (xs : List Wc) : Prop :=
  xs.length = n ∧ (∀ i, i < n → (wat xs i).Rows w B) ∧ (0 < n → ∃ g o, A = some ⟨g, o, none⟩ ∧ g < B ∧ ∀ i, i < n → ∀ k v, (wat xs i).cells[k]? = some v → w.cell? ⟨g, o + i * 8 + k, none⟩ = some v)
/-- The eight cells of one of them. -/
def At8 (w : World) (g p : Nat) (x : Wc) : Prop :=
  w.cell? ⟨g, p, none⟩ = some (.int .i64 x.v.kd) ∧ w.cell? ⟨g, p + 1, none⟩ = some (.slice x.A x.v.vs.length x.c) ∧ w.cell? ⟨g, p + 2, none⟩ = some (.slice x.B x.v.gs.length x.d) ∧ w.cell? ⟨g, p + 3, none⟩ = some (.int .u32 (x.v.td : Int)) ∧
  w.cell? ⟨g, p + 4, none⟩ = some (.int .i64 x.v.ph) ∧ w.cell? ⟨g, p + 5, none⟩ = some (.int .i64 x.v.pr) ∧ w.cell? ⟨g, p + 6, none⟩ = some (.int .i64 x.v.hd) ∧ w.cell? ⟨g, p + 7, none⟩ = some (.int .u32 (x.v.sn : Int))
theorem At8.of {w : World} {g p : Nat} {x : Wc} (h : ∀ k v, x.cells[k]? = some v → w.cell? ⟨g, p + k, none⟩ = some v) : At8 w g p x :=
  ⟨h 0 _ rfl, h 1 _ rfl, h 2 _ rfl, h 3 _ rfl, h 4 _ rfl, h 5 _ rfl, h 6 _ rfl, h 7 _ rfl⟩
theorem At8.below {B : Nat} {w w' : World} {g p : Nat} {x : Wc} (h : At8 w g p x) (hb : Below B w w') (hg : g < B) : At8 w' g p x := by
  obtain ⟨a, b, c, d, e, f, i, j⟩ := h
  exact ⟨(hb.cell (p := ⟨g, p, none⟩) hg).trans a, (hb.cell (p := ⟨g, p + 1, none⟩) hg).trans b, (hb.cell (p := ⟨g, p + 2, none⟩) hg).trans c, (hb.cell (p := ⟨g, p + 3, none⟩) hg).trans d, (hb.cell (p := ⟨g, p + 4, none⟩) hg).trans e, (hb.cell (p := ⟨g, p + 5, none⟩) hg).trans f, (hb.cell (p := ⟨g, p + 6, none⟩) hg).trans i, (hb.cell (p := ⟨g, p + 7, none⟩) hg).trans j⟩

section
variable {w w' : World} {B B' n : Nat} {A : Option Addr} {xs : List Wc}
theorem RdW.at8 (h : RdW w B A n xs) {i : Nat} (hi : i < n) : ∃ g o, A = some ⟨g, o, none⟩ ∧ g < B ∧ At8 w g (o + i * 8) (wat xs i) := by
  obtain ⟨g, o, e, hg, hc⟩ := h.2.2 (by omega)
  exact ⟨g, o, e, hg, At8.of (hc i hi)⟩
theorem RdW.rows (h : RdW w B A n xs) {i : Nat} (hi : i < n) : RdK .i64 w B (wat xs i).A (wat xs i).v.vs.length (wat xs i).v.vs ∧ RdK .i64 w B (wat xs i).B (wat xs i).v.gs.length (wat xs i).v.gs := h.2.1 i hi
theorem RdW.zero : RdW w B A 0 [] := ⟨rfl, fun i hi => absurd hi (by omega), fun h => absurd h (by omega)⟩
theorem RdW.below (h : RdW w B A n xs) (hb : Below B w w') : RdW w' B A n xs :=
  ⟨h.1, fun i hi => ⟨(h.2.1 i hi).1.below hb, (h.2.1 i hi).2.below hb⟩, fun hn => by
    obtain ⟨g, o, e, hg, hc⟩ := h.2.2 hn
    exact ⟨g, o, e, hg, fun i hi k v hv => (hb.cell (p := ⟨g, o + i * 8 + k, none⟩) hg).trans (hc i hi k v hv)⟩⟩
theorem RdW.up (h : RdW w B A n xs) (hb : B ≤ B') : RdW w B' A n xs :=
  ⟨h.1, fun i hi => ⟨⟨(h.2.1 i hi).1.1, fun hn => by obtain ⟨g, o, e, hg, hc⟩ := (h.2.1 i hi).1.2 hn; exact ⟨g, o, e, by omega, hc⟩⟩, ⟨(h.2.1 i hi).2.1, fun hn => by obtain ⟨g, o, e, hg, hc⟩ := (h.2.1 i hi).2.2 hn; exact ⟨g, o, e, by omega, hc⟩⟩⟩, fun hn => by
    obtain ⟨g, o, e, hg, hc⟩ := h.2.2 hn
    exact ⟨g, o, e, by omega, hc⟩⟩
end
/-- What the warps of a list say. -/
def vals8 (xs : List Wc) : List WV := xs.map (·.v)
theorem wat_v {xs : List Wc} {vs : List WV} (h : vals8 xs = vs) {i : Nat} (hi : i < xs.length) : (wat xs i).v = vs[i]?.getD default := by
  subst h
  simp [wat, vals8, hi]
theorem vals8_len {xs : List Wc} {vs : List WV} (h : vals8 xs = vs) : vs.length = xs.length := by subst h; simp [vals8]

end Go.Proofs.YtefcaeldkdbjdaaGreat

namespace Go.Proofs.YtefcaeldkdbjdaaGreat
open Go.RowKit
set_option linter.unusedVariables false

def flatW (xs : List Wc) : List Value := xs.flatMap Wc.cells
theorem flatW_cons (x : Wc) (xs : List Wc) : flatW (x :: xs) = .int .i64 x.v.kd :: .slice x.A x.v.vs.length x.c :: .slice x.B x.v.gs.length x.d :: .int .u32 (x.v.td : Int) :: .int .i64 x.v.ph :: .int .i64 x.v.pr :: .int .i64 x.v.hd :: .int .u32 (x.v.sn : Int) :: flatW xs := rfl
theorem flatW_app (xs ys : List Wc) : flatW (xs ++ ys) = flatW xs ++ flatW ys := by simp [flatW]
theorem flatW_len : ∀ xs : List Wc, (flatW xs).length = xs.length * 8
  | [] => rfl
  | x :: xs => by rw [flatW_cons]; simp [flatW_len xs]; omega
theorem wat_zero (x : Wc) (xs : List Wc) : wat (x :: xs) 0 = x := rfl
theorem wat_succ (x : Wc) (xs : List Wc) (i : Nat) : wat (x :: xs) (i + 1) = wat xs i := rfl
theorem flatW_at : ∀ (xs : List Wc) (i k : Nat), i < xs.length → k < 8 → (flatW xs)[i * 8 + k]? = (wat xs i).cells[k]?
  | [], i, k, h, _ => by simp at h
  | x :: xs, 0, k, _, hk => by
    rw [wat_zero]
    show (x.cells ++ flatW xs)[0 * 8 + k]? = _
    rw [List.getElem?_append_left (by simp [Wc.cells]; omega)]
    simp
  | x :: xs, i + 1, k, h, hk => by
    have := flatW_at xs i k (by simpa using h) hk
    rw [wat_succ, ← this]
    show (x.cells ++ flatW xs)[(i + 1) * 8 + k]? = _
    rw [List.getElem?_append_right (by simp [Wc.cells]; omega)]
    congr 1
    simp [Wc.cells]
    omega
theorem flatW_set : ∀ (xs : List Wc) (i : Nat) (y : Wc), i < xs.length → (((((((((flatW xs).set (i * 8) (.int .i64 y.v.kd)).set (i * 8 + 1) (.slice y.A y.v.vs.length y.c)).set (i * 8 + 2) (.slice y.B y.v.gs.length y.d)).set (i * 8 + 3) (.int .u32 (y.v.td : Int))).set (i * 8 + 4) (.int .i64 y.v.ph)).set (i * 8 + 5) (.int .i64 y.v.pr)).set (i * 8 + 6) (.int .i64 y.v.hd)).set (i * 8 + 7) (.int .u32 (y.v.sn : Int))) = flatW (xs.set i y)
  | [], i, _, h => by simp at h
  | x :: xs, 0, y, _ => by simp [flatW_cons]
  | x :: xs, i + 1, y, h => by
    have := flatW_set xs i y (by simpa using h)
    rw [flatW_cons, show (i + 1) * 8 = i * 8 + 1 + 1 + 1 + 1 + 1 + 1 + 1 + 1 by omega]
    simp only [show ∀ k q : Nat, k + 1 + 1 + 1 + 1 + 1 + 1 + 1 + 1 + q = k + q + 1 + 1 + 1 + 1 + 1 + 1 + 1 + 1 from fun k q => by omega, List.set_cons_succ]
    rw [this]
    rfl
theorem wat_set {xs : List Wc} {i j : Nat} {y : Wc} (h : i < xs.length) : wat (xs.set i y) j = if i = j then y else wat xs j := by
  unfold wat
  rw [List.getElem?_set]
  by_cases e : i = j
  · subst e; simp [h]
  · simp [e]

/-- The slice at A, of n warps and capacity c, is the call's own: its cells. -/
def OwnW (w : World) (b0 : Nat) (A : Option Addr) (n c : Nat) (xs : List Wc) : Prop := w.ownsRow b0 49 8 (.slice A n c) n (flatW xs)

section
variable {w w' : World} {b0 n c : Nat} {A : Option Addr} {xs : List Wc}
theorem OwnW.len (h : OwnW w b0 A n c xs) : xs.length = n := by
  have := h.1
  rw [flatW_len] at this
  omega
theorem OwnW.zero : OwnW w b0 none 0 0 [] := World.ownsRow_nil _ _ _ _
theorem OwnW.form (h : OwnW w b0 A n c xs) (hn : 0 < n) : ∃ g, A = some ⟨g, 0, none⟩ ∧ b0 ≤ g ∧ g < w.heap.size := by
  rcases h.2 with ⟨hv, h0⟩ | ⟨g, cap, cur, hv, hb, hh, _⟩
  · omega
  · exact ⟨g, by injection hv, hb, (Array.getElem?_eq_some_iff.1 hh).1⟩
theorem OwnW.cells (h : OwnW w b0 A n c xs) {g i : Nat} (hA : A = some ⟨g, 0, none⟩) (hi : i < n) : ∀ k v, (wat xs i).cells[k]? = some v → w.cell? ⟨g, i * 8 + k, none⟩ = some v := by
  subst hA
  intro k v hv
  have hk : k < 8 := by
    have := (List.getElem?_eq_some_iff.1 hv).1
    simpa [Wc.cells] using this
  rw [World.ownsRow.cellAt h (i * 8 + k) (by omega), flatW_at xs i k (by rw [h.len]; exact hi) hk, hv]
theorem OwnW.at8 (h : OwnW w b0 A n c xs) {g i : Nat} (hA : A = some ⟨g, 0, none⟩) (hi : i < n) : At8 w g (i * 8) (wat xs i) := At8.of (h.cells hA hi)
theorem OwnW.free (h : OwnW w b0 A n c xs) {g : Nat} (hA : A = some ⟨g, 0, none⟩) (i : Nat) : w.frozen? ⟨g, i, none⟩ = false := by
  subst hA
  exact World.ownsRow.frozenAt h i
theorem OwnW.rd (h : OwnW w b0 A n c xs) {B : Nat} (hB : w.heap.size ≤ B) (hr : ∀ i, i < n → (wat xs i).Rows w B) : RdW w B A n xs :=
  ⟨h.len, hr, fun hn => by
    obtain ⟨g, hA, _, hlt⟩ := h.form hn
    exact ⟨g, 0, hA, by omega, fun i hi k v hv => by rw [Nat.zero_add]; exact h.cells hA hi k v hv⟩⟩
theorem OwnW.below (h : OwnW w b0 A n c xs) (hb : Below w.heap.size w w') : OwnW w' b0 A n c xs :=
  World.ownsRow.kept h (row := none) ⟨hb.os, hb.tape, hb.output, hb.size, fun k hk _ => hb.block k hk⟩ (by cases hv : (Value.slice A n c).ownBlock <;> simp)
theorem OwnW.from_ {b1 : Nat} (h : OwnW w b0 A n c xs) (hb : b1 ≤ b0) : OwnW w b1 A n c xs := by
  refine ⟨h.1, ?_⟩
  rcases h.2 with h2 | ⟨g, cap, cur, hv, hg, r⟩
  · exact .inl h2
  · exact .inr ⟨g, cap, cur, hv, by omega, r⟩
/-- A whole warp stored at i. -/
theorem OwnW.store {g i : Nat} {y : Wc} (h : OwnW w b0 (some ⟨g, 0, none⟩) n c xs) (hi : i < n) : OwnW ((((((((w.setCell ⟨g, i * 8, none⟩ (.int .i64 y.v.kd)).setCell ⟨g, i * 8 + 1, none⟩ (.slice y.A y.v.vs.length y.c)).setCell ⟨g, i * 8 + 2, none⟩ (.slice y.B y.v.gs.length y.d)).setCell ⟨g, i * 8 + 3, none⟩ (.int .u32 (y.v.td : Int))).setCell ⟨g, i * 8 + 4, none⟩ (.int .i64 y.v.ph)).setCell ⟨g, i * 8 + 5, none⟩ (.int .i64 y.v.pr)).setCell ⟨g, i * 8 + 6, none⟩ (.int .i64 y.v.hd)).setCell ⟨g, i * 8 + 7, none⟩ (.int .u32 (y.v.sn : Int))) b0 (some ⟨g, 0, none⟩) n c (xs.set i y) := by
  have h0 := (World.ownsRow.stored h (i * 8) (.int .i64 y.v.kd)).1
  have h1 := (World.ownsRow.stored h0 (i * 8 + 1) (.slice y.A y.v.vs.length y.c)).1
  have h2 := (World.ownsRow.stored h1 (i * 8 + 2) (.slice y.B y.v.gs.length y.d)).1
  have h3 := (World.ownsRow.stored h2 (i * 8 + 3) (.int .u32 (y.v.td : Int))).1
  have h4 := (World.ownsRow.stored h3 (i * 8 + 4) (.int .i64 y.v.ph)).1
  have h5 := (World.ownsRow.stored h4 (i * 8 + 5) (.int .i64 y.v.pr)).1
  have h6 := (World.ownsRow.stored h5 (i * 8 + 6) (.int .i64 y.v.hd)).1
  have h7 := (World.ownsRow.stored h6 (i * 8 + 7) (.int .u32 (y.v.sn : Int))).1
  rw [flatW_set xs i y (by rw [h.len]; exact hi)] at h7
  exact h7
theorem OwnW.low {p : Addr} (h : OwnW w b0 A n c xs) (hp : p.block < b0) (u : Value) : OwnW (w.setCell p u) b0 A n c xs := ownsRow_setCell_below h hp u
theorem OwnW.alloc (h : OwnW w b0 A n c xs) (o : Obj) : OwnW (w.alloc o) b0 A n c xs := World.ownsRow.alloc h o
theorem OwnW.range (h : OwnW w b0 A n c xs) : ∀ g, (Value.slice A n c).ownBlock = some g → b0 ≤ g ∧ g < w.heap.size := World.ownsRow.lt h
end

theorem info_warpW : (Tryz.prog.info? 49).map (fun i => (i.zero, i.size, i.bytes)) = some (some (.agg #[.int .i64 0, .slice none 0 0, .slice none 0 0, .int .u32 0, .int .i64 0, .int .i64 0, .int .i64 0, .int .u32 0]), 8, 96) := by kernel_rfl

/-- The idle nothing: a warp that is all zero. -/
def zeroW : Wc := ⟨⟨0, [], [], 0, 0, 0, 0, 0⟩, none, 0, none, 0⟩
theorem wat_replicate (n i : Nat) (h : i < n) : wat (List.replicate n zeroW) i = zeroW := by simp [wat, h]
theorem flatW_zeros (n : Nat) : flatW (List.replicate n zeroW) = (madeCells #[.int .i64 0, .slice none 0 0, .slice none 0 0, .int .u32 0, .int .i64 0, .int .i64 0, .int .i64 0, .int .u32 0] (n * 8)).toList := by
  have hl : (flatW (List.replicate n zeroW)).length = n * 8 := by rw [flatW_len]; simp
  apply List.ext_getElem?
  intro j
  by_cases hj : j < n * 8
  · have e : j / 8 * 8 + j % 8 = j := by omega
    have h1 := flatW_at (List.replicate n zeroW) (j / 8) (j % 8) (by simp; omega) (by omega)
    rw [e, wat_replicate n (j / 8) (by omega)] at h1
    rw [h1]
    rcases (by omega : j % 8 = 0 ∨ j % 8 = 1 ∨ j % 8 = 2 ∨ j % 8 = 3 ∨ j % 8 = 4 ∨ j % 8 = 5 ∨ j % 8 = 6 ∨ j % 8 = 7) with h | h | h | h | h | h | h | h <;> simp [madeCells, hj, h, zeroW, Wc.cells]
  · rw [List.getElem?_eq_none (by omega), List.getElem?_eq_none (by simp [madeCells]; omega)]

end Go.Proofs.YtefcaeldkdbjdaaGreat

namespace Go.Proofs.YtefcaeldkdbjdaaGreat
open Go.RowKit
set_option linter.unusedVariables false

def rowA (xs : List Wc) (i : Nat) : Option Nat := (Value.slice (wat xs i).A (wat xs i).v.vs.length (wat xs i).c).ownBlock
def rowB (xs : List Wc) (i : Nat) : Option Nat := (Value.slice (wat xs i).B (wat xs i).v.gs.length (wat xs i).d).ownBlock
/-- The rows of the first n warps are the call's own. -/
def Inner (w : World) (b0 n : Nat) (xs : List Wc) : Prop :=
  ∀ i, i < n → OwnK 3 .i64 w b0 (wat xs i).A (wat xs i).v.vs.length (wat xs i).c (wat xs i).v.vs ∧ OwnK 3 .i64 w b0 (wat xs i).B (wat xs i).v.gs.length (wat xs i).d (wat xs i).v.gs
/-- The rows of the first n warps lie apart, and apart from the block of the list. -/
def Dis (g : Option Nat) (n : Nat) (xs : List Wc) : Prop :=
  ∀ i, i < n → ∀ q, (rowA xs i = some q → g ≠ some q ∧ (∀ j, j < n → rowB xs j ≠ some q) ∧ (∀ j, j < n → j ≠ i → rowA xs j ≠ some q)) ∧ (rowB xs i = some q → g ≠ some q ∧ (∀ j, j < n → j ≠ i → rowB xs j ≠ some q))
/-- The slice at A, of n warps and capacity c, is the call's own, rows and all. -/
def OwnM (w : World) (b0 : Nat) (A : Option Addr) (n c : Nat) (xs : List Wc) : Prop := OwnW w b0 A n c xs ∧ Inner w b0 n xs ∧ Dis (Value.slice A n c).ownBlock n xs

section
variable {w w' : World} {b0 n c : Nat} {A : Option Addr} {xs : List Wc}
theorem Inner.kp {r : Nat → Prop} (h : Inner w b0 n xs) (k : Kp r w w') (hr : ∀ i, i < n → ∀ q, rowA xs i = some q ∨ rowB xs i = some q → ¬ r q) : Inner w' b0 n xs :=
  fun i hi => ⟨(h i hi).1.kp k (fun q hq => hr i hi q (.inl hq)), (h i hi).2.kp k (fun q hq => hr i hi q (.inr hq))⟩
theorem Inner.below (h : Inner w b0 n xs) (hb : Below w.heap.size w w') : Inner w' b0 n xs := h.kp (r := fun _ => False) (Kp.of_below hb) (fun _ _ _ _ h => h)
theorem Inner.lt (h : Inner w b0 n xs) {i q : Nat} (hi : i < n) (hq : rowA xs i = some q ∨ rowB xs i = some q) : b0 ≤ q ∧ q < w.heap.size := by
  rcases hq with hq | hq
  · exact World.ownsRow.lt (h i hi).1 q hq
  · exact World.ownsRow.lt (h i hi).2 q hq
theorem OwnM.len (h : OwnM w b0 A n c xs) : xs.length = n := h.1.len
theorem OwnM.rd (h : OwnM w b0 A n c xs) : RdW w w.heap.size A n xs := h.1.rd (Nat.le_refl _) (fun i hi => ⟨(h.2.1 i hi).1.rd, (h.2.1 i hi).2.rd⟩)
theorem OwnM.kp {r : Nat → Prop} (h : OwnM w b0 A n c xs) (k : Kp r w w') (ho : ∀ q, (Value.slice A n c).ownBlock = some q → ¬ r q) (hr : ∀ i, i < n → ∀ q, rowA xs i = some q ∨ rowB xs i = some q → ¬ r q) : OwnM w' b0 A n c xs :=
  ⟨row_kp h.1 k ho, h.2.1.kp k hr, h.2.2⟩
theorem OwnM.below (h : OwnM w b0 A n c xs) (hb : Below w.heap.size w w') : OwnM w' b0 A n c xs := ⟨h.1.below hb, h.2.1.below hb, h.2.2⟩
end
/-- The blocks of a list, rows and all. -/
def InM (A : Option Addr) (n c : Nat) (xs : List Wc) (q : Nat) : Prop := (Value.slice A n c).ownBlock = some q ∨ ∃ i, i < n ∧ (rowA xs i = some q ∨ rowB xs i = some q)
theorem OwnM.lt {w : World} {b0 n c : Nat} {A : Option Addr} {xs : List Wc} (h : OwnM w b0 A n c xs) {q : Nat} (hq : InM A n c xs q) : b0 ≤ q ∧ q < w.heap.size := by
  rcases hq with hq | ⟨i, hi, hq⟩
  · exact h.1.range q hq
  · exact h.2.1.lt hi hq

/-- Eight stores into one block. -/
theorem Kp.set8 (w : World) (g p0 p1 p2 p3 p4 p5 p6 p7 : Nat) (c0 c1 c2 c3 c4 c5 c6 c7 : Value) :
    Kp (fun k => k = g) w ((((((((w.setCell ⟨g, p0, none⟩ c0).setCell ⟨g, p1, none⟩ c1).setCell ⟨g, p2, none⟩ c2).setCell ⟨g, p3, none⟩ c3).setCell ⟨g, p4, none⟩ c4).setCell ⟨g, p5, none⟩ c5).setCell ⟨g, p6, none⟩ c6).setCell ⟨g, p7, none⟩ c7) :=
  (((((((Kp.setCell w ⟨g, p0, none⟩ c0).trans (Kp.setCell _ ⟨g, p1, none⟩ c1)).trans (Kp.setCell _ ⟨g, p2, none⟩ c2)).trans (Kp.setCell _ ⟨g, p3, none⟩ c3)).trans (Kp.setCell _ ⟨g, p4, none⟩ c4)).trans (Kp.setCell _ ⟨g, p5, none⟩ c5)).trans (Kp.setCell _ ⟨g, p6, none⟩ c6)).trans (Kp.setCell _ ⟨g, p7, none⟩ c7)

/-- One more warp, laid behind all the others. -/
theorem Inner.next {w : World} {b0 n : Nat} {xs : List Wc} {y : Wc} (h : Inner w b0 n xs) (hn : n < xs.length) (h1 : OwnK 3 .i64 w b0 y.A y.v.vs.length y.c y.v.vs) (h2 : OwnK 3 .i64 w b0 y.B y.v.gs.length y.d y.v.gs) : Inner w b0 (n + 1) (xs.set n y) := by
  intro i hi
  rw [wat_set hn]
  by_cases e : n = i
  · rw [if_pos e]; exact ⟨h1, h2⟩
  · rw [if_neg e]; exact h i (by omega)
theorem rowA_set {xs : List Wc} {n i : Nat} {y : Wc} (hn : n < xs.length) : rowA (xs.set n y) i = if n = i then (Value.slice y.A y.v.vs.length y.c).ownBlock else rowA xs i := by
  unfold rowA
  rw [wat_set hn]
  by_cases e : n = i
  · simp [e]
  · simp [e]
theorem rowB_set {xs : List Wc} {n i : Nat} {y : Wc} (hn : n < xs.length) : rowB (xs.set n y) i = if n = i then (Value.slice y.B y.v.gs.length y.d).ownBlock else rowB xs i := by
  unfold rowB
  rw [wat_set hn]
  by_cases e : n = i
  · simp [e]
  · simp [e]
theorem Dis.next {g : Option Nat} {n lo : Nat} {xs : List Wc} {y : Wc} (h : Dis g n xs) (hn : n < xs.length) (hlo : ∀ i, i < n → ∀ q, rowA xs i = some q ∨ rowB xs i = some q → q < lo) (hg : ∀ q, g = some q → q < lo)
    (h1 : ∀ q, (Value.slice y.A y.v.vs.length y.c).ownBlock = some q → lo ≤ q ∧ (Value.slice y.B y.v.gs.length y.d).ownBlock ≠ some q) (h2 : ∀ q, (Value.slice y.B y.v.gs.length y.d).ownBlock = some q → lo ≤ q) : Dis g (n + 1) (xs.set n y) := by
  intro i hi q
  rw [rowA_set hn, rowB_set hn]
  constructor
  · intro hq
    by_cases e : n = i
    · rw [if_pos e] at hq
      obtain ⟨l1, l2⟩ := h1 q hq
      refine ⟨fun hh => by have := hg q hh; omega, fun j hj hh => ?_, fun j hj hne hh => ?_⟩
      · rw [rowB_set hn] at hh
        by_cases e2 : n = j
        · rw [if_pos e2] at hh; exact l2 hh
        · rw [if_neg e2] at hh; have := hlo j (by omega) q (.inr hh); omega
      · rw [rowA_set hn, if_neg (by omega)] at hh
        have := hlo j (by omega) q (.inl hh); omega
    · rw [if_neg e] at hq
      have hq2 := hlo i (by omega) q (.inl hq)
      obtain ⟨k1, k2, k3⟩ := (h i (by omega) q).1 hq
      refine ⟨k1, fun j hj hh => ?_, fun j hj hne hh => ?_⟩
      · rw [rowB_set hn] at hh
        by_cases e2 : n = j
        · rw [if_pos e2] at hh; have := h2 q hh; omega
        · rw [if_neg e2] at hh; exact k2 j (by omega) hh
      · rw [rowA_set hn] at hh
        by_cases e2 : n = j
        · rw [if_pos e2] at hh; have := h1 q hh; omega
        · rw [if_neg e2] at hh; exact k3 j (by omega) hne hh
  · intro hq
    by_cases e : n = i
    · rw [if_pos e] at hq
      have l1 := h2 q hq
      refine ⟨fun hh => by have := hg q hh; omega, fun j hj hne hh => ?_⟩
      rw [rowB_set hn, if_neg (by omega)] at hh
      have := hlo j (by omega) q (.inr hh); omega
    · rw [if_neg e] at hq
      have hq2 := hlo i (by omega) q (.inr hq)
      obtain ⟨k1, k2⟩ := (h i (by omega) q).2 hq
      refine ⟨k1, fun j hj hne hh => ?_⟩
      rw [rowB_set hn] at hh
      by_cases e2 : n = j
      · rw [if_pos e2] at hh; have := h2 q hh; omega
      · rw [if_neg e2] at hh; exact k2 j (by omega) hne hh

end Go.Proofs.YtefcaeldkdbjdaaGreat
