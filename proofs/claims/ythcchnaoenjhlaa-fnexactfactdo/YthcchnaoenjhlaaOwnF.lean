/- Lists of facts: how they lie, what is read of them, what a call owns. -/
import Derived.Test.YthcchnaoenjhlaaFcM
import Derived.Maps.AppendAt
namespace Go.Proofs.Ythcchnaoenjhlaa
open Go.RowKit
set_option linter.unusedVariables false

def flatF (fs : List Fc) : List Value := fs.flatMap Fc.cells
theorem flatF_cons (x : Fc) (fs : List Fc) : flatF (x :: fs) = .int .i64 x.k :: .int .i64 x.i :: .int .i64 x.l :: .int .i64 x.a :: .int .i64 x.s :: flatF fs := rfl
theorem flatF_app (xs ys : List Fc) : flatF (xs ++ ys) = flatF xs ++ flatF ys := by simp [flatF]
theorem flatF_len : ∀ fs : List Fc, (flatF fs).length = fs.length * 5
  | [] => rfl
  | x :: xs => by rw [flatF_cons]; simp [flatF_len xs]; omega
theorem flatF_at : ∀ (xs : List Fc) (i k : Nat), i < xs.length → k < 5 → (flatF xs)[i * 5 + k]? = (fat xs i).cells[k]?
  | [], i, k, h, _ => by simp at h
  | x :: xs, 0, k, _, hk => by
    show (x.cells ++ flatF xs)[0 * 5 + k]? = _
    rw [List.getElem?_append_left (by simp [Fc.cells]; omega)]
    simp [fat]
  | x :: xs, i + 1, k, h, hk => by
    have := flatF_at xs i k (by simpa using h) hk
    have e : fat (x :: xs) (i + 1) = fat xs i := rfl
    rw [e, ← this]
    show (x.cells ++ flatF xs)[(i + 1) * 5 + k]? = _
    rw [List.getElem?_append_right (by simp [Fc.cells]; omega)]
    congr 1
    simp [Fc.cells]
    omega
theorem flatF_set : ∀ (xs : List Fc) (i : Nat) (y : Fc), i < xs.length → ((((((flatF xs).set (i * 5) (.int .i64 y.k)).set (i * 5 + 1) (.int .i64 y.i)).set (i * 5 + 2) (.int .i64 y.l)).set (i * 5 + 3) (.int .i64 y.a)).set (i * 5 + 4) (.int .i64 y.s)) = flatF (xs.set i y)
  | [], i, _, h => by simp at h
  | x :: xs, 0, y, _ => by simp [flatF_cons]
  | x :: xs, i + 1, y, h => by
    have := flatF_set xs i y (by simpa using h)
    rw [flatF_cons, show (i + 1) * 5 = i * 5 + 1 + 1 + 1 + 1 + 1 by omega]
    simp only [show ∀ k q : Nat, k + 1 + 1 + 1 + 1 + 1 + q = k + q + 1 + 1 + 1 + 1 + 1 from fun k q => by omega, List.set_cons_succ]
    rw [this]
    rfl

/-- The five cells of a fact. -/
def At5 (w : World) (g p : Nat) (x : Fc) : Prop :=
  w.cell? ⟨g, p, none⟩ = some (.int .i64 x.k) ∧ w.cell? ⟨g, p + 1, none⟩ = some (.int .i64 x.i) ∧ w.cell? ⟨g, p + 2, none⟩ = some (.int .i64 x.l) ∧ w.cell? ⟨g, p + 3, none⟩ = some (.int .i64 x.a) ∧ w.cell? ⟨g, p + 4, none⟩ = some (.int .i64 x.s)
theorem At5.of {w : World} {g p : Nat} {x : Fc} (h : ∀ k v, x.cells[k]? = some v → w.cell? ⟨g, p + k, none⟩ = some v) : At5 w g p x := ⟨h 0 _ rfl, h 1 _ rfl, h 2 _ rfl, h 3 _ rfl, h 4 _ rfl⟩
theorem At5.below {B : Nat} {w w' : World} {g p : Nat} {x : Fc} (h : At5 w g p x) (hb : Below B w w') (hg : g < B) : At5 w' g p x := by
  obtain ⟨a, b, c, d, e⟩ := h
  exact ⟨(hb.cell (p := ⟨g, p, none⟩) hg).trans a, (hb.cell (p := ⟨g, p + 1, none⟩) hg).trans b, (hb.cell (p := ⟨g, p + 2, none⟩) hg).trans c, (hb.cell (p := ⟨g, p + 3, none⟩) hg).trans d, (hb.cell (p := ⟨g, p + 4, none⟩) hg).trans e⟩
theorem At5.cell {w : World} {g p : Nat} {x : Fc} (h : At5 w g p x) {k : Nat} {v : Value} (hv : x.cells[k]? = some v) : w.cell? ⟨g, p + k, none⟩ = some v := by
  obtain ⟨a, b, c, d, e⟩ := h
  match k, hv with
  | 0, hv => simpa [Fc.cells] using a.trans (by simpa [Fc.cells] using hv)
  | 1, hv => exact b.trans (by simpa [Fc.cells] using hv)
  | 2, hv => exact c.trans (by simpa [Fc.cells] using hv)
  | 3, hv => exact d.trans (by simpa [Fc.cells] using hv)
  | 4, hv => exact e.trans (by simpa [Fc.cells] using hv)
  | k + 5, hv => simp [Fc.cells] at hv

/-- n facts are read at A, below block B. -/
def RdF (w : World) (B : Nat) (A : Option Addr) (n : Nat) (fs : List Fc) : Prop := fs.length = n ∧ (0 < n → ∃ g o, A = some ⟨g, o, none⟩ ∧ g < B ∧ ∀ i, i < n → At5 w g (o + i * 5) (fat fs i))
/-- The slice at A, of n facts and capacity c, is the call's own. -/
def OwnF (w : World) (b0 : Nat) (A : Option Addr) (n c : Nat) (fs : List Fc) : Prop := w.ownsRow b0 25 5 (.slice A n c) n (flatF fs)

section
variable {w w' : World} {b0 B B' n c : Nat} {A : Option Addr} {fs : List Fc}
theorem RdF.zero : RdF w B A 0 [] := ⟨rfl, fun h => absurd h (by omega)⟩
theorem RdF.below (h : RdF w B A n fs) (hb : Below B w w') : RdF w' B A n fs :=
  ⟨h.1, fun hn => by
    obtain ⟨g, o, e, hg, hc⟩ := h.2 hn
    exact ⟨g, o, e, hg, fun i hi => (hc i hi).below hb hg⟩⟩
theorem RdF.more (h : RdF w B A n fs) (hB : B ≤ B') : RdF w B' A n fs :=
  ⟨h.1, fun hn => by
    obtain ⟨g, o, e, hg, hc⟩ := h.2 hn
    exact ⟨g, o, e, by omega, hc⟩⟩
theorem OwnF.len (h : OwnF w b0 A n c fs) : fs.length = n := by
  have := h.1
  rw [flatF_len] at this
  omega
theorem OwnF.zero : OwnF w b0 none 0 0 [] := World.ownsRow_nil _ _ _ _
theorem OwnF.form (h : OwnF w b0 A n c fs) (hn : 0 < n) : ∃ g, A = some ⟨g, 0, none⟩ ∧ b0 ≤ g ∧ g < w.heap.size := by
  rcases h.2 with ⟨hv, h0⟩ | ⟨g, cap, cur, hv, hb, hh, _⟩
  · omega
  · exact ⟨g, by injection hv, hb, (Array.getElem?_eq_some_iff.1 hh).1⟩
theorem OwnF.at5 (h : OwnF w b0 A n c fs) {g i : Nat} (hA : A = some ⟨g, 0, none⟩) (hi : i < n) : At5 w g (i * 5) (fat fs i) := by
  subst hA
  refine At5.of fun k v hv => ?_
  have hk : k < 5 := by
    have := (List.getElem?_eq_some_iff.1 hv).1
    simpa [Fc.cells] using this
  rw [World.ownsRow.cellAt h (i * 5 + k) (by omega), flatF_at fs i k (by rw [h.len]; exact hi) hk, hv]
theorem OwnF.free (h : OwnF w b0 A n c fs) {g : Nat} (hA : A = some ⟨g, 0, none⟩) (i : Nat) : w.frozen? ⟨g, i, none⟩ = false := by
  subst hA
  exact World.ownsRow.frozenAt h i
theorem OwnF.rd (h : OwnF w b0 A n c fs) : RdF w w.heap.size A n fs :=
  ⟨h.len, fun hn => by
    obtain ⟨g, hA, _, hlt⟩ := h.form hn
    exact ⟨g, 0, hA, hlt, fun i hi => by rw [Nat.zero_add]; exact h.at5 hA hi⟩⟩
theorem OwnF.below (h : OwnF w b0 A n c fs) (hb : Below w.heap.size w w') : OwnF w' b0 A n c fs :=
  World.ownsRow.kept h (row := none) ⟨hb.os, hb.tape, hb.output, hb.size, fun k hk _ => hb.block k hk⟩ (by cases hv : (Value.slice A n c).ownBlock <;> simp)
theorem OwnF.from_ {b1 : Nat} (h : OwnF w b0 A n c fs) (hb : b1 ≤ b0) : OwnF w b1 A n c fs := by
  refine ⟨h.1, ?_⟩
  rcases h.2 with h2 | ⟨g, cap, cur, hv, hg, r⟩
  · exact .inl h2
  · exact .inr ⟨g, cap, cur, hv, by omega, r⟩
/-- A whole fact stored at i. -/
theorem OwnF.store {g i : Nat} {y : Fc} (h : OwnF w b0 (some ⟨g, 0, none⟩) n c fs) (hi : i < n) : OwnF (((((w.setCell ⟨g, i * 5, none⟩ (.int .i64 y.k)).setCell ⟨g, i * 5 + 1, none⟩ (.int .i64 y.i)).setCell ⟨g, i * 5 + 2, none⟩ (.int .i64 y.l)).setCell ⟨g, i * 5 + 3, none⟩ (.int .i64 y.a)).setCell ⟨g, i * 5 + 4, none⟩ (.int .i64 y.s)) b0 (some ⟨g, 0, none⟩) n c (fs.set i y) := by
  have h0 := (World.ownsRow.stored h (i * 5) (.int .i64 y.k)).1
  have h1 := (World.ownsRow.stored h0 (i * 5 + 1) (.int .i64 y.i)).1
  have h2 := (World.ownsRow.stored h1 (i * 5 + 2) (.int .i64 y.l)).1
  have h3 := (World.ownsRow.stored h2 (i * 5 + 3) (.int .i64 y.a)).1
  have h4 := (World.ownsRow.stored h3 (i * 5 + 4) (.int .i64 y.s)).1
  rw [flatF_set fs i y (by rw [h.len]; exact hi)] at h4
  exact h4
theorem OwnF.low {p : Addr} (h : OwnF w b0 A n c fs) (hp : p.block < b0) (u : Value) : OwnF (w.setCell p u) b0 A n c fs := ownsRow_setCell_below h hp u
theorem OwnF.alloc (h : OwnF w b0 A n c fs) (o : Obj) : OwnF (w.alloc o) b0 A n c fs := World.ownsRow.alloc h o
theorem OwnF.far (h : OwnF w b0 A n c fs) {row : Option Nat} (hg : w.grownBy w' row) (hne : ∀ g, (Value.slice A n c).ownBlock = some g → row ≠ some g) : OwnF w' b0 A n c fs := by
  refine World.ownsRow.kept h hg ?_
  cases hv : (Value.slice A n c).ownBlock with
  | none => exact .inl rfl
  | some g => exact .inr (fun e => hne g hv e.symm)
theorem OwnF.range (h : OwnF w b0 A n c fs) : ∀ g, (Value.slice A n c).ownBlock = some g → b0 ≤ g ∧ g < w.heap.size := World.ownsRow.lt h
theorem OwnF.shape {v : Value} (h : w.ownsRow b0 25 5 v n (flatF fs)) : ∃ A c, v = .slice A n c ∧ OwnF w b0 A n c fs := by
  rcases h.2 with ⟨rfl, rfl⟩ | ⟨g, cap, cur, rfl, r⟩
  · exact ⟨_, _, rfl, h⟩
  · exact ⟨_, _, rfl, h⟩
end

theorem info_fact : (Try.prog.info? 25).map (fun i => (i.zero, i.size, i.bytes)) = some (some (.agg #[.int .i64 0, .int .i64 0, .int .i64 0, .int .i64 0, .int .i64 0]), 5, 40) := by kernel_rfl

theorem flatF_one {fs : List Fc} : ∀ u ∈ flatF fs, u.oneCell' = true := by
  intro u hu
  obtain ⟨p, _, hp⟩ := List.mem_flatMap.1 hu
  simp [Fc.cells] at hp
  rcases hp with rfl | rfl | rfl | rfl | rfl <;> rfl
theorem add_atF (g off j : Nat) : (⟨g, off, none⟩ : Addr).add j = ⟨g, off + j, none⟩ := by unfold Addr.add; split <;> simp_all
theorem flatF_zeros (n : Nat) : flatF (List.replicate n default) = (madeCells #[.int .i64 0, .int .i64 0, .int .i64 0, .int .i64 0, .int .i64 0] (n * 5)).toList := by
  have hl : (flatF (List.replicate n (default : Fc))).length = n * 5 := by rw [flatF_len]; simp
  apply List.ext_getElem?
  intro j
  by_cases hj : j < n * 5
  · have e : j / 5 * 5 + j % 5 = j := by omega
    have h1 := flatF_at (List.replicate n (default : Fc)) (j / 5) (j % 5) (by simp; omega) (by omega)
    rw [e, fat_replicate n (j / 5) (by omega)] at h1
    rw [h1]
    rcases (by omega : j % 5 = 0 ∨ j % 5 = 1 ∨ j % 5 = 2 ∨ j % 5 = 3 ∨ j % 5 = 4) with h | h | h | h | h <;> simp [madeCells, hj, h, default, Fc.cells]
  · rw [List.getElem?_eq_none (by omega), List.getElem?_eq_none (by simp [madeCells]; omega)]

/-- The cells of a list that is read, one by one. -/
theorem cells_ofF {w : World} {g off m : Nat} {qs : List Fc} (hl : qs.length = m) (hc : ∀ i, i < m → At5 w g (off + i * 5) (fat qs i)) :
    ∀ j u, (flatF qs)[j]? = some u → w.cell? ((⟨g, off, none⟩ : Addr).add j) = some u := by
  intro j u hj
  obtain ⟨hj1, _⟩ := List.getElem?_eq_some_iff.1 hj
  rw [flatF_len] at hj1
  rw [add_atF]
  have e : j / 5 * 5 + j % 5 = j := by omega
  have h1 := flatF_at qs (j / 5) (j % 5) (by omega) (by omega)
  rw [e, hj] at h1
  have h2 := (hc (j / 5) (by omega)).cell h1.symm
  rw [show off + j / 5 * 5 + j % 5 = off + j by omega] at h2
  exact h2

/-- 'append(s, x...)': s is the call's own. -/
theorem run_cat_f {w : World} (ty : TypeId) (b0 n c : Nat) (A : Option Addr) (ps qs : List Fc) (g off m cx : Nat) (hO : OwnF w b0 A n c ps) (hy : qs.length = m)
    (hc : ∀ i, i < m → At5 w g (off + i * 5) (fat qs i)) (hn : n + m ≤ 2000000) (hb : b0 ≤ w.heap.size) :
    ∃ A' c' w', (Builtin.append_ #[41, 41] ty #[.slice A n c, .slice (some ⟨g, off, none⟩) m cx]).run Try.prog w = .ok (.slice A' (n + m) c') w' ∧ OwnF w' b0 A' (n + m) c' (ps ++ qs) ∧ w.grownBy w' (Value.slice A n c).ownBlock ∧ Below b0 w w' ∧ ((Value.slice A' (n + m) c').ownBlock = (Value.slice A n c).ownBlock ∨ (Value.slice A' (n + m) c').ownBlock = some w.heap.size) := by
  obtain ⟨i0, hi, hz0, hz1, hz2⟩ := info_parts info_fact
  obtain ⟨v', w', hr, h2, h3, _, h6⟩ := run_append_own_at (P := Try.prog) w b0 41 ty 25 i0 (.agg #[.int .i64 0, .int .i64 0, .int .i64 0, .int .i64 0, .int .i64 0]) 5 40 Try.underlying41 hi hz0 hz1 hz2 rfl (by omega) (.slice A n c) n _ hO ⟨g, off, none⟩ m cx (flatF qs) (by rw [flatF_len, hy]) (cells_ofF hy hc) flatF_one (by unfold maxLen; omega) (by omega) hb
  rw [← flatF_app] at h2
  obtain ⟨A', c', rfl, h5⟩ := OwnF.shape h2
  exact ⟨A', c', w', hr, h5, h3, (Below.refl _ _).grown h3 hb (fun k hk => (World.ownsRow.lt hO k hk).1), h6⟩

/-- The same, where the walk stands before it. -/
theorem wpList_cat_f {w : World} {ops : Array Oper} {rest : List Oper} {o : Oper} {a : Act} {Q : Exit → Act → World → Prop} (hgd : o.guard = none) (s x : Operand)
    (ho : o.op = .call { callee := .builtin .append, args := #[s, x], argTypes := #[41, 41] })
    (b0 n c : Nat) (A : Option Addr) (ps qs : List Fc) (g off m cx : Nat) (hs : a.eval s = .slice A n c) (hx : a.eval x = .slice (some ⟨g, off, none⟩) m cx) (hO : OwnF w b0 A n c ps) (hy : qs.length = m)
    (hc : ∀ i, i < m → At5 w g (off + i * 5) (fat qs i)) (hn : n + m ≤ 2000000) (hb : b0 ≤ w.heap.size)
    (h : ∀ A' c' w', Hid (OwnF w' b0 A' (n + m) c' (ps ++ qs)) → Hid (Below b0 w w') → Hid (w.grownBy w' (Value.slice A n c).ownBlock) → Hid ((Value.slice A' (n + m) c').ownBlock = (Value.slice A n c).ownBlock ∨ (Value.slice A' (n + m) c').ownBlock = some w.heap.size) → wpList Try.prog ops Q rest (a.put o.dst (.slice A' (n + m) c')) w') :
    wpList Try.prog ops Q (o :: rest) a w := by
  refine wpList_plain hgd fun K hK => ?_
  obtain ⟨A', c', w', hr, h2, h3, h4, h5⟩ := run_cat_f o.type b0 n c A ps qs g off m cx hO hy hc hn hb
  unfold Oper.wp execOp
  simp only [ho, resolve, invoke, builtin, Sem.run_bind, Sem.run_pure, Result.andThen_ok, List.map_toArray, List.map_cons, List.map_nil, hs, hx, hr]
  exact hK _ _ (h A' c' w' h2 h4 h3 h5)

/-- 'append(s, f)': f was laid in a block of its own first. -/
theorem wpList_push_f {w : World} {ops : Array Oper} {rest : List Oper} {o : Oper} {a : Act} {Q : Exit → Act → World → Prop} (hgd : o.guard = none) (s x : Operand)
    (ho : o.op = .call { callee := .builtin .append, args := #[s, x], argTypes := #[41, 41] })
    (b0 n c : Nat) (A : Option Addr) (ps : List Fc) (f : Fc) (bx : Nat) (hs : a.eval s = .slice A n c) (hx : a.eval x = .slice (some ⟨bx, 0, none⟩) 1 1) (hbx : w.heap.size = bx) (hO : OwnF w b0 A n c ps) (hn : n + 1 ≤ 2000000) (hb : b0 ≤ w.heap.size)
    (h : ∀ A' c' w', Hid (OwnF w' b0 A' (n + 1) c' (ps ++ [f])) → Hid (Below b0 w w') → Hid ((w.alloc (.cells #[.int .i64 f.k, .int .i64 f.i, .int .i64 f.l, .int .i64 f.a, .int .i64 f.s] 25)).grownBy w' (Value.slice A n c).ownBlock) → wpList Try.prog ops Q rest (a.put o.dst (.slice A' (n + 1) c')) w') :
    wpList Try.prog ops Q (o :: rest) a (w.alloc (.cells #[.int .i64 f.k, .int .i64 f.i, .int .i64 f.l, .int .i64 f.a, .int .i64 f.s] 25)) := by
  subst hbx
  refine wpList_cat_f hgd s x ho b0 n c A ps [f] w.heap.size 0 1 1 hs hx (hO.alloc _) rfl ?_ hn (by simp; omega) ?_
  · intro i hi
    obtain rfl : i = 0 := by omega
    simp [At5, fat]
  · intro A' c' w' h1 h2 h3 _
    exact h A' c' w' h1 (((Below.refl _ w).alloc hb _).trans h2.out) h3

end Go.Proofs.Ythcchnaoenjhlaa
