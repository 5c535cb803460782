/- The blocks that control words tell of, in plain words; append of a list of blocks that may be nothing. -/
import Derived.Test.YthcchnaoenjhlaaIHeap
import Derived.Test.YthcchnaoenjhlaaAppP
namespace Go.Proofs.Ythcchnaoenjhlaa
open Go.RowKit
set_option linter.unusedVariables false

/-- The blocks of a page that begins at a: one a bit. -/
def pgL (a z : Int) (l : List Nat) : List (Int × Int) := l.map (fun b : Nat => (a + (b : Int) * z, z))
theorem pgL_take (a z : Int) {l : List Nat} {k : Nat} (h : k < l.length) : pgL a z (l.take (k + 1)) = pgL a z (l.take k) ++ [(a + (l[k] : Int) * z, z)] := by
  unfold pgL
  rw [List.take_succ_eq_append_getElem h, List.map_append]
  rfl
theorem pgL_len (a z : Int) (l : List Nat) : (pgL a z l).length = l.length := by simp [pgL]
/-- The blocks of a chunk that begins at a and has the word X. -/
def wdL (a : Int) (X : Nat) : List (Int × Int) := if stOf X = 1 then pgL a (sizeV (clOf X)) (onesTo (mpOf X) 32) else if stOf X = 2 then [(a, 16 * (rnOf X : Int))] else []
theorem ones_len32 (X : Nat) : (onesTo X 32).length ≤ 32 := by
  unfold onesTo
  have := List.length_filter_le (fun k => X.testBit k) (List.range 32)
  simpa using this
theorem wdL_len (a : Int) (X : Nat) : (wdL a X).length ≤ 32 := by
  unfold wdL
  split
  · rw [pgL_len]; exact ones_len32 _
  · split <;> simp
/-- The blocks of the first k chunks. -/
def audTo (ws : List Nat) : Nat → List (Int × Int)
  | 0 => []
  | k + 1 => audTo ws k ++ wdL (16 * (k : Int)) (ws[k]?.getD 0)
theorem audTo_len (ws : List Nat) : ∀ k, (audTo ws k).length ≤ 32 * k
  | 0 => by simp [audTo]
  | k + 1 => by
    have := audTo_len ws k
    have := wdL_len (16 * (k : Int)) (ws[k]?.getD 0)
    simp [audTo]
    omega
def auditV (ws : List Nat) : List (Int × Int) := if HeapOk ws then audTo ws ws.length else []
theorem auditV_len (ws : List Nat) : (auditV ws).length ≤ 512 := by
  unfold auditV
  split
  · rename_i h
    have := audTo_len ws ws.length
    have := h.1
    omega
  · simp
theorem page_sizes {X : Nat} (hg : GoodX X) (h1 : stOf X = 1) : 1 ≤ sizeV (clOf X) ∧ sizeV (clOf X) ≤ 16 := by
  have hg' : CtlGood (stOf X) (clOf X) (mpOf X) (rnOf X) := hg
  rw [show ((stOf X : Nat) : Int) = 1 by omega] at hg'
  have h2 := (good_page.1 hg').1
  unfold IsClass at h2
  unfold sizeV
  repeat (split <;> try omega)
theorem map_small (X : Nat) : mpOf X < 4294967296 := by unfold mpOf; omega
theorem run_small {X : Nat} (hX : X < 4294967296) : (rnOf X : Int) ≤ 256 := by unfold rnOf; omega
theorem map_none {X : Nat} (hg : GoodX X) (h1 : ¬ stOf X = 1) : onesTo (mpOf X) 32 = [] := by
  have hm : mpOf X = 0 := by
    unfold GoodX CtlGood at hg
    omega
  rw [hm]
  unfold onesTo
  simp

/-- A slice as the calls hand it on: nothing, or at an address in plain memory. -/
def PlainB (A : Option Addr) (n : Nat) : Prop := (A = none ∧ n = 0) ∨ ∃ g o, A = some ⟨g, o, none⟩
theorem OwnP.plainB {w : World} {b0 n c : Nat} {A : Option Addr} {ps : List (Int × Int)} (h : OwnP w b0 A n c ps) : PlainB A n := by
  rcases h.2 with ⟨hv, h0⟩ | ⟨g, cap, cur, hv, _⟩
  · injection hv with h1 h2 h3
    exact .inl ⟨h1, h2⟩
  · injection hv with h1 h2 h3
    exact .inr ⟨g, 0, h1⟩
theorem OwnP.one (w : World) (u v : Int) : OwnP (w.alloc (.cells #[.int .i64 u, .int .i64 v] 71)) w.heap.size (some ⟨w.heap.size, 0, none⟩) 1 1 [(u, v)] :=
  ⟨rfl, .inr ⟨w.heap.size, 1, #[.int .i64 u, .int .i64 v], rfl, Nat.le_refl _, heap_alloc_new _ _, Nat.le_refl _, by unfold maxLen; omega, rfl, rfl⟩⟩
theorem run_append_noneP (w : World) (ty : TypeId) (b0 : Nat) (v : Value) (n c : Nat) (xs : List Value) (h : w.ownsRow b0 71 2 v n xs) :
    (Builtin.append_ #[30, 30] ty #[v, .slice none 0 c]).run Try.prog w = .ok v w := by
  obtain ⟨i0, hi, hz0, hz1, hz2⟩ := info_parts info_blk
  rcases h.2 with ⟨rfl, rfl⟩ | ⟨g, cap, cur, rfl, _, _, hnc, _⟩
  · simp [Builtin.append_, run_underlying Try.underlying30, sizeOf, typeInfo, hi, Builtin.lenOf, Builtin.firstCells]
  · simp [Builtin.append_, run_underlying Try.underlying30, sizeOf, typeInfo, hi, Builtin.lenOf, Builtin.firstCells, hnc, storeCells]

/-- 'append(s, x...)': s is the call's own, x is read, or nothing. -/
theorem wpList_cat_pn {w : World} {ops : Array Oper} {rest : List Oper} {o : Oper} {a : Act} {Q : Exit → Act → World → Prop} (hgd : o.guard = none) (s x : Operand)
    (ho : o.op = .call { callee := .builtin .append, args := #[s, x], argTypes := #[30, 30] })
    (b0 B n c : Nat) (A X : Option Addr) (ps qs : List (Int × Int)) (m cx : Nat) (hs : a.eval s = .slice A n c) (hx : a.eval x = .slice X m cx) (hO : OwnP w b0 A n c ps) (hR : RdP w B X m qs) (hX : PlainB X m) (hn : n + m ≤ 2000000) (hb : b0 ≤ w.heap.size)
    (h : ∀ A' c' w', Hid (OwnP w' b0 A' (n + m) c' (ps ++ qs)) → Hid (Below b0 w w') → wpList Try.prog ops Q rest (a.put o.dst (.slice A' (n + m) c')) w') :
    wpList Try.prog ops Q (o :: rest) a w := by
  refine wpList_plain hgd fun K hK => ?_
  have : ∃ A' c' w', (Builtin.append_ #[30, 30] o.type #[.slice A n c, .slice X m cx]).run Try.prog w = .ok (.slice A' (n + m) c') w' ∧ OwnP w' b0 A' (n + m) c' (ps ++ qs) ∧ Below b0 w w' := by
    rcases hX with ⟨rfl, rfl⟩ | ⟨g, off, rfl⟩
    · have hq : qs = [] := List.length_eq_zero_iff.1 hR.1
      subst hq
      exact ⟨A, c, w, run_append_noneP w o.type b0 _ n cx _ hO, by simpa using hO, Below.refl _ _⟩
    · obtain ⟨A', c', w', hr, h2, h3, h4⟩ := run_cat_p o.type b0 n c A ps qs g off m cx hO hR.1 (fun i hi => by
        obtain ⟨g', o', e, _, hc⟩ := hR.2 (by omega)
        injection e with e
        injection e with e1 e2
        subst e1 e2
        exact hc i hi) hn hb
      exact ⟨A', c', w', hr, h2, h4⟩
  obtain ⟨A', c', w', hr, h2, h4⟩ := this
  unfold Oper.wp execOp
  simp only [ho, resolve, invoke, builtin, Sem.run_bind, Sem.run_pure, Result.andThen_ok, List.map_toArray, List.map_cons, List.map_nil, hs, hx, hr]
  exact hK _ _ (h A' c' w' h2 h4)

end Go.Proofs.Ythcchnaoenjhlaa
