/- Lists of warps that a call owns: the row of their cells. -/
import Derived.Test.YtooegpebimpjcaaWarpL
namespace Go.Proofs.Ytooegpebimpjcaa
open Go.RowKit
set_option linter.unusedVariables false

def flatW (xs : List Wc) : List Value := xs.flatMap Wc.cells
theorem flatW_cons (x : Wc) (xs : List Wc) : flatW (x :: xs) = .int .i64 x.v.kd :: .slice x.A x.v.vs.length x.c :: .slice x.B x.v.gs.length x.d :: .int .u32 (x.v.td : Int) :: .int .i64 x.v.ph :: .int .i64 x.v.pr :: .int .i64 x.v.hd :: .int .u32 (x.v.sn : Int) :: flatW xs := rfl
theorem flatW_app (xs ys : List Wc) : flatW (xs ++ ys) = flatW xs ++ flatW ys := by simp [flatW]
theorem flatW_len : ∀ xs : List Wc, (flatW xs).length = xs.length * 8
  | [] => rfl
  | x :: xs => by rw [flatW_cons]; simp [flatW_len xs]; omega
theorem wat_zero (x : Wc) (xs : List Wc) : wat (x :: xs) 0 = x := rfl
theorem wat_succ (x : Wc) (xs : List Wc) (i : Nat) : wat (x :: xs) (i + 1) = wat xs i := rfl
theorem flatW_at : ∀ (xs : List Wc) (i k : Nat), i < xs.length → k < 8 → (flatW xs)[i * 8 + k]? = (wat xs i).cells[k]?
  | [], i, k, h, _ => by simp at h
  | x :: xs, 0, k, _, hk => by
    rw [wat_zero]
    show (x.cells ++ flatW xs)[0 * 8 + k]? = _
    rw [List.getElem?_append_left (by simp [Wc.cells]; omega)]
    simp
  | x :: xs, i + 1, k, h, hk => by
    have := flatW_at xs i k (by simpa using h) hk
    rw [wat_succ, ← this]
    show (x.cells ++ flatW xs)[(i + 1) * 8 + k]? = _
    rw [List.getElem?_append_right (by simp [Wc.cells]; omega)]
    congr 1
    simp [Wc.cells]
    omega
theorem flatW_set : ∀ (xs : List Wc) (i : Nat) (y : Wc), i < xs.length → (((((((((flatW xs).set (i * 8) (.int .i64 y.v.kd)).set (i * 8 + 1) (.slice y.A y.v.vs.length y.c)).set (i * 8 + 2) (.slice y.B y.v.gs.length y.d)).set (i * 8 + 3) (.int .u32 (y.v.td : Int))).set (i * 8 + 4) (.int .i64 y.v.ph)).set (i * 8 + 5) (.int .i64 y.v.pr)).set (i * 8 + 6) (.int .i64 y.v.hd)).set (i * 8 + 7) (.int .u32 (y.v.sn : Int))) = flatW (xs.set i y)
  | [], i, _, h => by simp at h
  | x :: xs, 0, y, _ => by simp [flatW_cons]
  | x :: xs, i + 1, y, h => by
    have := flatW_set xs i y (by simpa using h)
    rw [flatW_cons, show (i + 1) * 8 = i * 8 + 1 + 1 + 1 + 1 + 1 + 1 + 1 + 1 by omega]
    simp only [show ∀ k q : Nat, k + 1 + 1 + 1 + 1 + 1 + 1 + 1 + 1 + q = k + q + 1 + 1 + 1 + 1 + 1 + 1 + 1 + 1 from fun k q => by omega, List.set_cons_succ]
    rw [this]
    rfl
theorem wat_set {xs : List Wc} {i j : Nat} {y : Wc} (h : i < xs.length) : wat (xs.set i y) j = if i = j then y else wat xs j := by
  unfold wat
  rw [List.getElem?_set]
  by_cases e : i = j
  · subst e; simp [h]
  · simp [e]

/-- The slice at A, of n warps and capacity c, is the call's own: its cells. -/
def OwnW (w : World) (b0 : Nat) (A : Option Addr) (n c : Nat) (xs : List Wc) : Prop := w.ownsRow b0 35 8 (.slice A n c) n (flatW xs)

section
variable {w w' : World} {b0 n c : Nat} {A : Option Addr} {xs : List Wc}
theorem OwnW.len (h : OwnW w b0 A n c xs) : xs.length = n := by
  have := h.1
  rw [flatW_len] at this
  omega
theorem OwnW.zero : OwnW w b0 none 0 0 [] := World.ownsRow_nil _ _ _ _
theorem OwnW.form (h : OwnW w b0 A n c xs) (hn : 0 < n) : ∃ g, A = some ⟨g, 0, none⟩ ∧ b0 ≤ g ∧ g < w.heap.size := by
  rcases h.2 with ⟨hv, h0⟩ | ⟨g, cap, cur, hv, hb, hh, _⟩
  · omega
  · exact ⟨g, by injection hv, hb, (Array.getElem?_eq_some_iff.1 hh).1⟩
theorem OwnW.cells (h : OwnW w b0 A n c xs) {g i : Nat} (hA : A = some ⟨g, 0, none⟩) (hi : i < n) : ∀ k v, (wat xs i).cells[k]? = some v → w.cell? ⟨g, i * 8 + k, none⟩ = some v := by
  subst hA
  intro k v hv
  have hk : k < 8 := by
    have := (List.getElem?_eq_some_iff.1 hv).1
    simpa [Wc.cells] using this
  rw [World.ownsRow.cellAt h (i * 8 + k) (by omega), flatW_at xs i k (by rw [h.len]; exact hi) hk, hv]
theorem OwnW.at8 (h : OwnW w b0 A n c xs) {g i : Nat} (hA : A = some ⟨g, 0, none⟩) (hi : i < n) : At8 w g (i * 8) (wat xs i) := At8.of (h.cells hA hi)
theorem OwnW.free (h : OwnW w b0 A n c xs) {g : Nat} (hA : A = some ⟨g, 0, none⟩) (i : Nat) : w.frozen? ⟨g, i, none⟩ = false := by
  subst hA
  exact World.ownsRow.frozenAt h i
theorem OwnW.rd (h : OwnW w b0 A n c xs) {B : Nat} (hB : w.heap.size ≤ B) (hr : ∀ i, i < n → (wat xs i).Rows w B) : RdW w B A n xs :=
  ⟨h.len, hr, fun hn => by
    obtain ⟨g, hA, _, hlt⟩ := h.form hn
    exact ⟨g, 0, hA, by omega, fun i hi k v hv => by rw [Nat.zero_add]; exact h.cells hA hi k v hv⟩⟩
theorem OwnW.below (h : OwnW w b0 A n c xs) (hb : Below w.heap.size w w') : OwnW w' b0 A n c xs :=
  World.ownsRow.kept h (row := none) ⟨hb.os, hb.tape, hb.output, hb.size, fun k hk _ => hb.block k hk⟩ (by cases hv : (Value.slice A n c).ownBlock <;> simp)
theorem OwnW.from_ {b1 : Nat} (h : OwnW w b0 A n c xs) (hb : b1 ≤ b0) : OwnW w b1 A n c xs := by
  refine ⟨h.1, ?_⟩
  rcases h.2 with h2 | ⟨g, cap, cur, hv, hg, r⟩
  · exact .inl h2
  · exact .inr ⟨g, cap, cur, hv, by omega, r⟩
/-- A whole warp stored at i. -/
theorem OwnW.store {g i : Nat} {y : Wc} (h : OwnW w b0 (some ⟨g, 0, none⟩) n c xs) (hi : i < n) : OwnW ((((((((w.setCell ⟨g, i * 8, none⟩ (.int .i64 y.v.kd)).setCell ⟨g, i * 8 + 1, none⟩ (.slice y.A y.v.vs.length y.c)).setCell ⟨g, i * 8 + 2, none⟩ (.slice y.B y.v.gs.length y.d)).setCell ⟨g, i * 8 + 3, none⟩ (.int .u32 (y.v.td : Int))).setCell ⟨g, i * 8 + 4, none⟩ (.int .i64 y.v.ph)).setCell ⟨g, i * 8 + 5, none⟩ (.int .i64 y.v.pr)).setCell ⟨g, i * 8 + 6, none⟩ (.int .i64 y.v.hd)).setCell ⟨g, i * 8 + 7, none⟩ (.int .u32 (y.v.sn : Int))) b0 (some ⟨g, 0, none⟩) n c (xs.set i y) := by
  have h0 := (World.ownsRow.stored h (i * 8) (.int .i64 y.v.kd)).1
  have h1 := (World.ownsRow.stored h0 (i * 8 + 1) (.slice y.A y.v.vs.length y.c)).1
  have h2 := (World.ownsRow.stored h1 (i * 8 + 2) (.slice y.B y.v.gs.length y.d)).1
  have h3 := (World.ownsRow.stored h2 (i * 8 + 3) (.int .u32 (y.v.td : Int))).1
  have h4 := (World.ownsRow.stored h3 (i * 8 + 4) (.int .i64 y.v.ph)).1
  have h5 := (World.ownsRow.stored h4 (i * 8 + 5) (.int .i64 y.v.pr)).1
  have h6 := (World.ownsRow.stored h5 (i * 8 + 6) (.int .i64 y.v.hd)).1
  have h7 := (World.ownsRow.stored h6 (i * 8 + 7) (.int .u32 (y.v.sn : Int))).1
  rw [flatW_set xs i y (by rw [h.len]; exact hi)] at h7
  exact h7
theorem OwnW.low {p : Addr} (h : OwnW w b0 A n c xs) (hp : p.block < b0) (u : Value) : OwnW (w.setCell p u) b0 A n c xs := ownsRow_setCell_below h hp u
theorem OwnW.alloc (h : OwnW w b0 A n c xs) (o : Obj) : OwnW (w.alloc o) b0 A n c xs := World.ownsRow.alloc h o
theorem OwnW.range (h : OwnW w b0 A n c xs) : ∀ g, (Value.slice A n c).ownBlock = some g → b0 ≤ g ∧ g < w.heap.size := World.ownsRow.lt h
end

theorem info_warpW : (Try.prog.info? 35).map (fun i => (i.zero, i.size, i.bytes)) = some (some (.agg #[.int .i64 0, .slice none 0 0, .slice none 0 0, .int .u32 0, .int .i64 0, .int .i64 0, .int .i64 0, .int .u32 0]), 8, 96) := by kernel_rfl

/-- The idle nothing: a warp that is all zero. -/
def zeroW : Wc := ⟨⟨0, [], [], 0, 0, 0, 0, 0⟩, none, 0, none, 0⟩
theorem wat_replicate (n i : Nat) (h : i < n) : wat (List.replicate n zeroW) i = zeroW := by simp [wat, h]
theorem flatW_zeros (n : Nat) : flatW (List.replicate n zeroW) = (madeCells #[.int .i64 0, .slice none 0 0, .slice none 0 0, .int .u32 0, .int .i64 0, .int .i64 0, .int .i64 0, .int .u32 0] (n * 8)).toList := by
  have hl : (flatW (List.replicate n zeroW)).length = n * 8 := by rw [flatW_len]; simp
  apply List.ext_getElem?
  intro j
  by_cases hj : j < n * 8
  · have e : j / 8 * 8 + j % 8 = j := by omega
    have h1 := flatW_at (List.replicate n zeroW) (j / 8) (j % 8) (by simp; omega) (by omega)
    rw [e, wat_replicate n (j / 8) (by omega)] at h1
    rw [h1]
    rcases (by omega : j % 8 = 0 ∨ j % 8 = 1 ∨ j % 8 = 2 ∨ j % 8 = 3 ∨ j % 8 = 4 ∨ j % 8 = 5 ∨ j % 8 = 6 ∨ j % 8 = 7) with h | h | h | h | h | h | h | h <;> simp [madeCells, hj, h, zeroW, Wc.cells]
  · rw [List.getElem?_eq_none (by omega), List.getElem?_eq_none (by simp [madeCells]; omega)]

end Go.Proofs.Ytooegpebimpjcaa
