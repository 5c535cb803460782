/- Lists of warps: how they lie, and what is read of them. -/
import Derived.Test.YtooegpebimpjcaaOwnK
import Derived.Test.YtooegpebimpjcaaWarpM
namespace Go.Proofs.Ytooegpebimpjcaa
open Go.RowKit
set_option linter.unusedVariables false

/-- What a warp says, whatever memory its rows lie in. -/
structure WV where
  kd : Int
  vs : List Int
  gs : List Int
  td : Nat
  ph : Int
  pr : Int
  hd : Int
  sn : Nat
/-- A warp as it lies: where its rows are, and how much room they have. -/
structure Wc where
  v : WV
  A : Option Addr
  c : Nat
  B : Option Addr
  d : Nat
instance : Inhabited WV := ⟨⟨0, [], [], 0, 0, 0, 0, 0⟩⟩
instance : Inhabited Wc := ⟨⟨default, none, 0, none, 0⟩⟩
/-- Its eight cells. -/
def Wc.cells (x : Wc) : List Value := [.int .i64 x.v.kd, .slice x.A x.v.vs.length x.c, .slice x.B x.v.gs.length x.d, .int .u32 (x.v.td : Int), .int .i64 x.v.ph, .int .i64 x.v.pr, .int .i64 x.v.hd, .int .u32 (x.v.sn : Int)]
/-- The numbers fit their kinds, the rows their bounds. -/
def WV.Fit (x : WV) : Prop := x.vs.length ≤ maxLen ∧ x.gs.length ≤ maxLen ∧ x.td < 4294967296 ∧ x.sn < 4294967296 ∧ (Lit.int .i64 x.pr).wf = true
/-- Its rows are read. -/
def Wc.Rows (w : World) (B : Nat) (x : Wc) : Prop := RdK .i64 w B x.A x.v.vs.length x.v.vs ∧ RdK .i64 w B x.B x.v.gs.length x.v.gs
def wat (xs : List Wc) (i : Nat) : Wc := xs[i]?.getD default
theorem wat_mem {xs : List Wc} {i : Nat} (h : i < xs.length) : wat xs i ∈ xs := by
  unfold wat
  rw [List.getElem?_eq_getElem h]
  exact List.getElem_mem h
/-- n warps are read at A. -/
def RdW (w : World) (B : Nat) (A : Option Addr) (n : Nat) (xs : List Wc) : Prop :=
  xs.length = n ∧ (∀ i, i < n → (wat xs i).Rows w B) ∧ (0 < n → ∃ g o, A = some ⟨g, o, none⟩ ∧ g < B ∧ ∀ i, i < n → ∀ k v, (wat xs i).cells[k]? = some v → w.cell? ⟨g, o + i * 8 + k, none⟩ = some v)
/-- The eight cells of one of them. -/
def At8 (w : World) (g p : Nat) (x : Wc) : Prop :=
  w.cell? ⟨g, p, none⟩ = some (.int .i64 x.v.kd) ∧ w.cell? ⟨g, p + 1, none⟩ = some (.slice x.A x.v.vs.length x.c) ∧ w.cell? ⟨g, p + 2, none⟩ = some (.slice x.B x.v.gs.length x.d) ∧ w.cell? ⟨g, p + 3, none⟩ = some (.int .u32 (x.v.td : Int)) ∧
  w.cell? ⟨g, p + 4, none⟩ = some (.int .i64 x.v.ph) ∧ w.cell? ⟨g, p + 5, none⟩ = some (.int .i64 x.v.pr) ∧ w.cell? ⟨g, p + 6, none⟩ = some (.int .i64 x.v.hd) ∧ w.cell? ⟨g, p + 7, none⟩ = some (.int .u32 (x.v.sn : Int))
theorem At8.of {w : World} {g p : Nat} {x : Wc} (h : ∀ k v, x.cells[k]? = some v → w.cell? ⟨g, p + k, none⟩ = some v) : At8 w g p x :=
  ⟨h 0 _ rfl, h 1 _ rfl, h 2 _ rfl, h 3 _ rfl, h 4 _ rfl, h 5 _ rfl, h 6 _ rfl, h 7 _ rfl⟩
theorem At8.below {B : Nat} {w w' : World} {g p : Nat} {x : Wc} (h : At8 w g p x) (hb : Below B w w') (hg : g < B) : At8 w' g p x := by
  obtain ⟨a, b, c, d, e, f, i, j⟩ := h
  exact ⟨(hb.cell (p := ⟨g, p, none⟩) hg).trans a, (hb.cell (p := ⟨g, p + 1, none⟩) hg).trans b, (hb.cell (p := ⟨g, p + 2, none⟩) hg).trans c, (hb.cell (p := ⟨g, p + 3, none⟩) hg).trans d, (hb.cell (p := ⟨g, p + 4, none⟩) hg).trans e, (hb.cell (p := ⟨g, p + 5, none⟩) hg).trans f, (hb.cell (p := ⟨g, p + 6, none⟩) hg).trans i, (hb.cell (p := ⟨g, p + 7, none⟩) hg).trans j⟩

section
variable {w w' : World} {B B' n : Nat} {A : Option Addr} {xs : List Wc}
theorem RdW.at8 (h : RdW w B A n xs) {i : Nat} (hi : i < n) : ∃ g o, A = some ⟨g, o, none⟩ ∧ g < B ∧ At8 w g (o + i * 8) (wat xs i) := by
  obtain ⟨g, o, e, hg, hc⟩ := h.2.2 (by omega)
  exact ⟨g, o, e, hg, At8.of (hc i hi)⟩
theorem RdW.rows (h : RdW w B A n xs) {i : Nat} (hi : i < n) : RdK .i64 w B (wat xs i).A (wat xs i).v.vs.length (wat xs i).v.vs ∧ RdK .i64 w B (wat xs i).B (wat xs i).v.gs.length (wat xs i).v.gs := h.2.1 i hi
theorem RdW.zero : RdW w B A 0 [] := ⟨rfl, fun i hi => absurd hi (by omega), fun h => absurd h (by omega)⟩
theorem RdW.below (h : RdW w B A n xs) (hb : Below B w w') : RdW w' B A n xs :=
  ⟨h.1, fun i hi => ⟨(h.2.1 i hi).1.below hb, (h.2.1 i hi).2.below hb⟩, fun hn => by
    obtain ⟨g, o, e, hg, hc⟩ := h.2.2 hn
    exact ⟨g, o, e, hg, fun i hi k v hv => (hb.cell (p := ⟨g, o + i * 8 + k, none⟩) hg).trans (hc i hi k v hv)⟩⟩
theorem RdW.up (h : RdW w B A n xs) (hb : B ≤ B') : RdW w B' A n xs :=
  ⟨h.1, fun i hi => ⟨⟨(h.2.1 i hi).1.1, fun hn => by obtain ⟨g, o, e, hg, hc⟩ := (h.2.1 i hi).1.2 hn; exact ⟨g, o, e, by omega, hc⟩⟩, ⟨(h.2.1 i hi).2.1, fun hn => by obtain ⟨g, o, e, hg, hc⟩ := (h.2.1 i hi).2.2 hn; exact ⟨g, o, e, by omega, hc⟩⟩⟩, fun hn => by
    obtain ⟨g, o, e, hg, hc⟩ := h.2.2 hn
    exact ⟨g, o, e, by omega, hc⟩⟩
end
/-- What the warps of a list say. -/
def vals8 (xs : List Wc) : List WV := xs.map (·.v)
theorem wat_v {xs : List Wc} {vs : List WV} (h : vals8 xs = vs) {i : Nat} (hi : i < xs.length) : (wat xs i).v = vs[i]?.getD default := by
  subst h
  simp [wat, vals8, hi]
theorem vals8_len {xs : List Wc} {vs : List WV} (h : vals8 xs = vs) : vs.length = xs.length := by subst h; simp [vals8]

end Go.Proofs.Ytooegpebimpjcaa
