/- Appending to a list of blocks that the call owns. -/
/- The blocks that control words tell of, in plain words; append of a list of blocks that may be nothing. -/
/- What an audit counts, in plain words. -/
/- The contract of the program's BitList: the numbers of the set bits in ascending order, in memory of its own. -/
/- The contract of the program's offsetsOf: where the blocks of a map start, in ascending order, in memory of its own. -/
/- Audit of the program. -/
import Derived.Test.YtefcaeldkdbjdaaGreatIGive
import Derived.Laws.OwnMore
import Derived.Test.YtefcaeldkdbjdaaGreatMachE
import Derived.Test.YtefcaeldkdbjdaaGreatOnes
import Derived.Maps.AppendAt
import Derived.Test.YtefcaeldkdbjdaaGreatClaimM
namespace Go.Proofs.YtefcaeldkdbjdaaGreat
open Go.RowKit

theorem flatP_one {ps : List (Int × Int)} : ∀ u ∈ flatP ps, u.oneCell' = true := by
  intro u hu
  obtain ⟨p, _, hp⟩ := List.mem_flatMap.1 hu
  simp at hp
  rcases hp with rfl | rfl <;> rfl
theorem add_at (g off j : Nat) : (⟨g, off, none⟩ : Addr).add j = ⟨g, off + j, none⟩ := by unfold Addr.add; split <;> simp_all
/-- The cells of a list that is read, one by one. -/
theorem cells_of {w : World} {g off m : Nat} {qs : List (Int × Int)} (hl : qs.length = m) (hc : ∀ i, i < m → w.cell? ⟨g, off + i * 2, none⟩ = some (.int .i64 (pa qs i)) ∧ w.cell? ⟨g, off + i * 2 + 1, none⟩ = some (.int .i64 (pb qs i))) :
    ∀ j u, (flatP qs)[j]? = some u → w.cell? ((⟨g, off, none⟩ : Addr).add j) = some u := by
  intro j u hj
  obtain ⟨hj1, _⟩ := List.getElem?_eq_some_iff.1 hj
  rw [flatP_len] at hj1
  rw [add_at]
  rcases Nat.mod_two_eq_zero_or_one j with h | h
  · have e : j = (j / 2) * 2 := by omega
    have h2 : j / 2 < qs.length := by omega
    rw [e, flatP_even qs _ h2] at hj
    have := (hc (j / 2) (by omega)).1
    rw [e, this, hj]
  · have e : j = (j / 2) * 2 + 1 := by omega
    have h2 : j / 2 < qs.length := by omega
    rw [e, flatP_odd qs _ h2] at hj
    have := (hc (j / 2) (by omega)).2
    rw [e, ← Nat.add_assoc, this, hj]

/-- 'append(s, x...)': s is the call's own. -/
theorem run_cat_p {w : World} (ty : TypeId) (b0 n c : Nat) (A : Option Addr) (ps qs : List (Int × Int)) (g off m cx : Nat) (hO : OwnP w b0 A n c ps) (hy : qs.length = m)
    (hc : ∀ i, i < m → w.cell? ⟨g, off + i * 2, none⟩ = some (.int .i64 (pa qs i)) ∧ w.cell? ⟨g, off + i * 2 + 1, none⟩ = some (.int .i64 (pb qs i))) (hn : n + m ≤ 2000000) (hb : b0 ≤ w.heap.size) :
    ∃ A' c' w', (Builtin.append_ #[50, 50] ty #[.slice A n c, .slice (some ⟨g, off, none⟩) m cx]).run Tryz.prog w = .ok (.slice A' (n + m) c') w' ∧ OwnP w' b0 A' (n + m) c' (ps ++ qs) ∧ w.grownBy w' (Value.slice A n c).ownBlock ∧ Below b0 w w' := by
  obtain ⟨i0, hi, hz0, hz1, hz2⟩ := info_parts info_blk
  obtain ⟨v', w', hr, h2, h3, _, _⟩ := run_append_own_at (P := Tryz.prog) w b0 50 ty 55 i0 (.agg #[.int .i64 0, .int .i64 0]) 2 16 Tryz.underlying50 hi hz0 hz1 hz2 rfl (by omega) (.slice A n c) n _ hO ⟨g, off, none⟩ m cx (flatP qs) (by rw [flatP_len, hy]) (cells_of hy hc) flatP_one (by unfold maxLen; omega) (by omega) hb
  rw [← flatP_app] at h2
  obtain ⟨A', c', rfl, h5⟩ := OwnP.shape h2
  exact ⟨A', c', w', hr, h5, h3, (Below.refl _ _).grown h3 hb (fun k hk => (World.ownsRow.lt hO k hk).1)⟩

/-- The same, and what is at an address stays at one. -/
theorem run_cat_p2 {w : World} (ty : TypeId) (b0 n c : Nat) (A : Option Addr) (ps qs : List (Int × Int)) (g off m cx : Nat) (hO : OwnP w b0 A n c ps) (hy : qs.length = m)
    (hc : ∀ i, i < m → w.cell? ⟨g, off + i * 2, none⟩ = some (.int .i64 (pa qs i)) ∧ w.cell? ⟨g, off + i * 2 + 1, none⟩ = some (.int .i64 (pb qs i))) (hn : n + m ≤ 2000000) (hb : b0 ≤ w.heap.size) :
    ∃ A' c' w', (Builtin.append_ #[50, 50] ty #[.slice A n c, .slice (some ⟨g, off, none⟩) m cx]).run Tryz.prog w = .ok (.slice A' (n + m) c') w' ∧ OwnP w' b0 A' (n + m) c' (ps ++ qs) ∧ w.grownBy w' (Value.slice A n c).ownBlock ∧ Below b0 w w' ∧ (A ≠ none → A' ≠ none) := by
  obtain ⟨i0, hi, hz0, hz1, hz2⟩ := info_parts info_blk
  obtain ⟨v', w', hr, h2, h3, _, h6⟩ := run_append_own_at (P := Tryz.prog) w b0 50 ty 55 i0 (.agg #[.int .i64 0, .int .i64 0]) 2 16 Tryz.underlying50 hi hz0 hz1 hz2 rfl (by omega) (.slice A n c) n _ hO ⟨g, off, none⟩ m cx (flatP qs) (by rw [flatP_len, hy]) (cells_of hy hc) flatP_one (by unfold maxLen; omega) (by omega) hb
  rw [← flatP_app] at h2
  obtain ⟨A', c', rfl, h5⟩ := OwnP.shape h2
  refine ⟨A', c', w', hr, h5, h3, (Below.refl _ _).grown h3 hb (fun k hk => (World.ownsRow.lt hO k hk).1), fun hA hA' => ?_⟩
  subst hA'
  cases A with
  | none => exact hA rfl
  | some a => rcases h6 with h6 | h6 <;> simp [Value.ownBlock] at h6

/-- The same, where the walk stands before it. -/
theorem wpList_cat_p {w : World} {ops : Array Oper} {rest : List Oper} {o : Oper} {a : Act} {Q : Exit → Act → World → Prop} (hgd : o.guard = none) (s x : Operand)
    (ho : o.op = .call { callee := .builtin .append, args := #[s, x], argTypes := #[50, 50] })
    (b0 n c : Nat) (A : Option Addr) (ps qs : List (Int × Int)) (g off m cx : Nat) (hs : a.eval s = .slice A n c) (hx : a.eval x = .slice (some ⟨g, off, none⟩) m cx) (hO : OwnP w b0 A n c ps) (hy : qs.length = m)
    (hc : ∀ i, i < m → w.cell? ⟨g, off + i * 2, none⟩ = some (.int .i64 (pa qs i)) ∧ w.cell? ⟨g, off + i * 2 + 1, none⟩ = some (.int .i64 (pb qs i))) (hn : n + m ≤ 2000000) (hb : b0 ≤ w.heap.size)
    (h : ∀ A' c' w', Hid (OwnP w' b0 A' (n + m) c' (ps ++ qs)) → Hid (Below b0 w w') → Hid (w.grownBy w' (Value.slice A n c).ownBlock) → wpList Tryz.prog ops Q rest (a.put o.dst (.slice A' (n + m) c')) w') :
    wpList Tryz.prog ops Q (o :: rest) a w := by
  refine wpList_plain hgd fun K hK => ?_
  obtain ⟨A', c', w', hr, h2, h3, h4⟩ := run_cat_p o.type b0 n c A ps qs g off m cx hO hy hc hn hb
  unfold Oper.wp execOp
  simp only [ho, resolve, invoke, builtin, Sem.run_bind, Sem.run_pure, Result.andThen_ok, List.map_toArray, List.map_cons, List.map_nil, hs, hx, hr]
  exact hK _ _ (h A' c' w' h2 h4 h3)

/-- 'append(s, b)': b was laid in a block of its own first. -/
theorem wpList_push_p {w : World} {ops : Array Oper} {rest : List Oper} {o : Oper} {a : Act} {Q : Exit → Act → World → Prop} (hgd : o.guard = none) (s x : Operand)
    (ho : o.op = .call { callee := .builtin .append, args := #[s, x], argTypes := #[50, 50] })
    (b0 n c : Nat) (A : Option Addr) (ps : List (Int × Int)) (u v : Int) (bx : Nat) (hs : a.eval s = .slice A n c) (hx : a.eval x = .slice (some ⟨bx, 0, none⟩) 1 1) (hbx : w.heap.size = bx) (hO : OwnP w b0 A n c ps) (hn : n + 1 ≤ 2000000) (hb : b0 ≤ w.heap.size)
    (h : ∀ A' c' w', Hid (OwnP w' b0 A' (n + 1) c' (ps ++ [(u, v)])) → Hid (Below b0 w w') → Hid ((w.alloc (.cells #[.int .i64 u, .int .i64 v] 55)).grownBy w' (Value.slice A n c).ownBlock) → wpList Tryz.prog ops Q rest (a.put o.dst (.slice A' (n + 1) c')) w') :
    wpList Tryz.prog ops Q (o :: rest) a (w.alloc (.cells #[.int .i64 u, .int .i64 v] 55)) := by
  subst hbx
  refine wpList_cat_p hgd s x ho b0 n c A ps [(u, v)] w.heap.size 0 1 1 hs hx (hO.alloc _) rfl ?_ hn (by simp; omega) ?_
  · intro i hi
    obtain rfl : i = 0 := by omega
    simp [pa, pb]
  · intro A' c' w' h1 h2 h3
    exact h A' c' w' h1 (((Below.refl _ w).alloc hb _).trans h2.out) h3

end Go.Proofs.YtefcaeldkdbjdaaGreat

namespace Go.Proofs.YtefcaeldkdbjdaaGreat
open Go.RowKit
set_option linter.unusedVariables false

/-- The blocks of a page that begins at a: one a bit. -/
def pgL (a z : Int) (l : List Nat) : List (Int × Int) := l.map (fun b : Nat => (a + (b : Int) * z, z))
theorem pgL_take (a z : Int) {l : List Nat} {k : Nat} (h : k < l.length) : pgL a z (l.take (k + 1)) = pgL a z (l.take k) ++ [(a + (l[k] : Int) * z, z)] := by
  unfold pgL
  rw [List.take_succ_eq_append_getElem h, List.map_append]
  rfl
theorem pgL_len (a z : Int) (l : List Nat) : (pgL a z l).length = l.length := by simp [pgL]
/-- The blocks of a chunk that begins at a and has the word X. -/
def wdL (a : Int) (X : Nat) : List (Int × Int) := if stOf X = 1 then pgL a (sizeV (clOf X)) (onesTo (mpOf X) 32) else if stOf X = 2 then [(a, 16 * (rnOf X : Int))] else []
theorem ones_len32 (X : Nat) : (onesTo X 32).length ≤ 32 := by
  unfold onesTo
  have := List.length_filter_le (fun k => X.testBit k) (List.range 32)
  simpa using this
theorem wdL_len (a : Int) (X : Nat) : (wdL a X).length ≤ 32 := by
  unfold wdL
  split
  · rw [pgL_len]; exact ones_len32 _
  · split <;> simp
/-- The blocks of the first k chunks. -/
def audTo (ws : List Nat) : Nat → List (Int × Int)
  | 0 => []
  | k + 1 => audTo ws k ++ wdL (16 * (k : Int)) (ws[k]?.getD 0)
theorem audTo_len (ws : List Nat) : ∀ k, (audTo ws k).length ≤ 32 * k
  | 0 => by simp [audTo]
  | k + 1 => by
    have := audTo_len ws k
    have := wdL_len (16 * (k : Int)) (ws[k]?.getD 0)
    simp [audTo]
    omega
def auditV (ws : List Nat) : List (Int × Int) := if HeapOk ws then audTo ws ws.length else []
theorem auditV_len (ws : List Nat) : (auditV ws).length ≤ 512 := by
  unfold auditV
  split
  · rename_i h
    have := audTo_len ws ws.length
    have := h.1
    omega
  · simp
theorem page_sizes {X : Nat} (hg : GoodX X) (h1 : stOf X = 1) : 1 ≤ sizeV (clOf X) ∧ sizeV (clOf X) ≤ 16 := by
  have hg' : CtlGood (stOf X) (clOf X) (mpOf X) (rnOf X) := hg
  rw [show ((stOf X : Nat) : Int) = 1 by omega] at hg'
  have h2 := (good_page.1 hg').1
  unfold IsClass at h2
  unfold sizeV
  repeat (split <;> try omega)
theorem map_small (X : Nat) : mpOf X < 4294967296 := by unfold mpOf; omega
theorem run_small {X : Nat} (hX : X < 4294967296) : (rnOf X : Int) ≤ 256 := by unfold rnOf; omega
theorem map_none {X : Nat} (hg : GoodX X) (h1 : ¬ stOf X = 1) : onesTo (mpOf X) 32 = [] := by
  have hm : mpOf X = 0 := by
    unfold GoodX CtlGood at hg
    omega
  rw [hm]
  unfold onesTo
  simp

/-- A slice as the calls hand it on: nothing, or at an address in plain memory. -/
def PlainB (A : Option Addr) (n : Nat) : Prop := (A = none ∧ n = 0) ∨ ∃ g o, A = some ⟨g, o, none⟩
theorem OwnP.plainB {w : World} {b0 n c : Nat} {A : Option Addr} {ps : List (Int × Int)} (h : OwnP w b0 A n c ps) : PlainB A n := by
  rcases h.2 with ⟨hv, h0⟩ | ⟨g, cap, cur, hv, _⟩
  · injection hv with h1 h2 h3
    exact .inl ⟨h1, h2⟩
  · injection hv with h1 h2 h3
    exact .inr ⟨g, 0, h1⟩
theorem OwnP.one (w : World) (u v : Int) : OwnP (w.alloc (.cells #[.int .i64 u, .int .i64 v] 55)) w.heap.size (some ⟨w.heap.size, 0, none⟩) 1 1 [(u, v)] :=
  ⟨rfl, .inr ⟨w.heap.size, 1, #[.int .i64 u, .int .i64 v], rfl, Nat.le_refl _, heap_alloc_new _ _, Nat.le_refl _, by unfold maxLen; omega, rfl, rfl⟩⟩
theorem run_append_noneP (w : World) (ty : TypeId) (b0 : Nat) (v : Value) (n c : Nat) (xs : List Value) (h : w.ownsRow b0 55 2 v n xs) :
    (Builtin.append_ #[50, 50] ty #[v, .slice none 0 c]).run Tryz.prog w = .ok v w := by
  obtain ⟨i0, hi, hz0, hz1, hz2⟩ := info_parts info_blk
  rcases h.2 with ⟨rfl, rfl⟩ | ⟨g, cap, cur, rfl, _, _, hnc, _⟩
  · simp [Builtin.append_, run_underlying Tryz.underlying50, sizeOf, typeInfo, hi, Builtin.lenOf, Builtin.firstCells]
  · simp [Builtin.append_, run_underlying Tryz.underlying50, sizeOf, typeInfo, hi, Builtin.lenOf, Builtin.firstCells, hnc, storeCells]

/-- 'append(s, x...)': s is the call's own, x is read, or nothing. -/
theorem wpList_cat_pn {w : World} {ops : Array Oper} {rest : List Oper} {o : Oper} {a : Act} {Q : Exit → Act → World → Prop} (hgd : o.guard = none) (s x : Operand)
    (ho : o.op = .call { callee := .builtin .append, args := #[s, x], argTypes := #[50, 50] })
    (b0 B n c : Nat) (A X : Option Addr) (ps qs : List (Int × Int)) (m cx : Nat) (hs : a.eval s = .slice A n c) (hx : a.eval x = .slice X m cx) (hO : OwnP w b0 A n c ps) (hR : RdP w B X m qs) (hX : PlainB X m) (hn : n + m ≤ 2000000) (hb : b0 ≤ w.heap.size)
    (h : ∀ A' c' w', Hid (OwnP w' b0 A' (n + m) c' (ps ++ qs)) → Hid (Below b0 w w') → wpList Tryz.prog ops Q rest (a.put o.dst (.slice A' (n + m) c')) w') :
    wpList Tryz.prog ops Q (o :: rest) a w := by
  refine wpList_plain hgd fun K hK => ?_
  have : ∃ A' c' w', (Builtin.append_ #[50, 50] o.type #[.slice A n c, .slice X m cx]).run Tryz.prog w = .ok (.slice A' (n + m) c') w' ∧ OwnP w' b0 A' (n + m) c' (ps ++ qs) ∧ Below b0 w w' := by
    rcases hX with ⟨rfl, rfl⟩ | ⟨g, off, rfl⟩
    · have hq : qs = [] := List.length_eq_zero_iff.1 hR.1
      subst hq
      exact ⟨A, c, w, run_append_noneP w o.type b0 _ n cx _ hO, by simpa using hO, Below.refl _ _⟩
    · obtain ⟨A', c', w', hr, h2, h3, h4⟩ := run_cat_p o.type b0 n c A ps qs g off m cx hO hR.1 (fun i hi => by
        obtain ⟨g', o', e, _, hc⟩ := hR.2 (by omega)
        injection e with e
        injection e with e1 e2
        subst e1 e2
        exact hc i hi) hn hb
      exact ⟨A', c', w', hr, h2, h4⟩
  obtain ⟨A', c', w', hr, h2, h4⟩ := this
  unfold Oper.wp execOp
  simp only [ho, resolve, invoke, builtin, Sem.run_bind, Sem.run_pure, Result.andThen_ok, List.map_toArray, List.map_cons, List.map_nil, hs, hx, hr]
  exact hK _ _ (h A' c' w' h2 h4)

end Go.Proofs.YtefcaeldkdbjdaaGreat

namespace Go.Proofs.YtefcaeldkdbjdaaGreat
open Go.RowKit
set_option linter.unusedVariables false

/-- How many words have this state. -/
def cntV (ws : List Nat) (j : Int) : Int := ((ws.filter (fun X => decide ((stOf X : Int) = j))).length : Int)
theorem cnt_next {ws : List Nat} {k : Nat} (j : Int) (h : k < ws.length) : cntV (ws.take (k + 1)) j = cntV (ws.take k) j + (if (stOf (ws[k]?.getD 0) : Int) = j then 1 else 0) := by
  unfold cntV
  rw [List.take_succ_eq_append_getElem h, List.filter_append, List.length_append, List.getElem?_eq_getElem h]
  by_cases hc : (stOf ws[k] : Int) = j <;> simp [hc]
theorem cnt_le (ws : List Nat) (j : Int) : 0 ≤ cntV ws j ∧ cntV ws j ≤ ws.length := by
  unfold cntV
  have := List.length_filter_le (fun X => decide ((stOf X : Int) = j)) ws
  omega
theorem cnt_bound {ws : List Nat} {k : Nat} (j : Int) (hk : k ≤ 16) : 0 ≤ cntV (ws.take k) j ∧ cntV (ws.take k) j ≤ 16 := by
  have := cnt_le (ws.take k) j
  have := List.length_take_le k ws
  omega
/-- The counts after one more word of state j. -/
theorem cnt_hit {ws : List Nat} {k : Nat} {j : Int} (h : k < ws.length) (hj : (stOf (ws[k]?.getD 0) : Int) = j) : cntV (ws.take (k + 1)) j = cntV (ws.take k) j + 1 ∧ ∀ i, i ≠ j → cntV (ws.take (k + 1)) i = cntV (ws.take k) i := by
  refine ⟨by rw [cnt_next j h, if_pos hj], fun i hi => ?_⟩
  rw [cnt_next i h, if_neg (fun e => hi (by rw [← e, ← hj]))]
  omega
def sumV (ws : List Nat) (t : Nat) : Int := if HeapOk ws then (if t = 0 then cntV ws 0 else if t = 1 then cntV ws 1 else cntV ws 2 + cntV ws 3) else -1
theorem st_cases {X : Nat} (h : GoodX X) : (stOf X : Int) = 0 ∨ (stOf X : Int) = 1 ∨ (stOf X : Int) = 2 ∨ (stOf X : Int) = 3 := by
  unfold GoodX CtlGood at h
  omega

theorem read_st (X : Nat) (hX : X < 4294967296) (hq : GoodX X) (j : Int) (h : (stOf X : Int) = j) (W : World) : Calls Tryz.prog 65 #[.int .u32 (X : Int)] W fun e w' => e = .returned (.tuple #[.agg #[.int .i64 j, .int .i64 (clOf X : Int), .int .u32 (mpOf X : Int), .int .i64 (rnOf X : Int)], .bool true]) ∧ Below W.heap.size W w' :=
  (ctlRead_any X W hX).mono fun e w' ⟨he, hb⟩ => ⟨by rw [he, decide_eq_true hq]; unfold readV readN; simp only [if_pos hq, h], hb⟩

theorem sRead_st (X : Nat) (hX : X < 4294967296) (hq : GoodX X) (j : Int) (h : (stOf X : Int) = j) (W : World) : Calls Tryz.prog 35 #[.int .u32 (X : Int)] W fun e w' => e = .returned (.tuple #[.agg #[.int .i64 j, .int .i64 (clOf X : Int), .int .u32 (mpOf X : Int), .int .i64 (rnOf X : Int)], .bool true]) ∧ Below W.heap.size W w' :=
  (sCtlRead_any X W hX).mono fun e w' ⟨he, hb⟩ => ⟨by rw [he, decide_eq_true hq]; unfold readV readN; simp only [if_pos hq, h], hb⟩

/-- Memory block b holds four ints. -/
def Quad (w : World) (b : Nat) (t : TypeId) (a0 a1 a2 a3 : Int) : Prop := w.heap[b]? = some (.cells #[.int .i64 a0, .int .i64 a1, .int .i64 a2, .int .i64 a3] t (0, 0))
theorem Quad.set0 {w : World} {b : Nat} {t : TypeId} {a0 a1 a2 a3 : Int} (h : Quad w b t a0 a1 a2 a3) (u : Int) : Quad (w.setCell ⟨b, 0, none⟩ (.int .i64 u)) b t u a1 a2 a3 := heap_setCell_same w b 0 _ _ (.int .i64 u) h
theorem Quad.set1 {w : World} {b : Nat} {t : TypeId} {a0 a1 a2 a3 : Int} (h : Quad w b t a0 a1 a2 a3) (u : Int) : Quad (w.setCell ⟨b, 1, none⟩ (.int .i64 u)) b t a0 u a2 a3 := heap_setCell_same w b 1 _ _ (.int .i64 u) h
theorem Quad.set2 {w : World} {b : Nat} {t : TypeId} {a0 a1 a2 a3 : Int} (h : Quad w b t a0 a1 a2 a3) (u : Int) : Quad (w.setCell ⟨b, 2, none⟩ (.int .i64 u)) b t a0 a1 u a3 := heap_setCell_same w b 2 _ _ (.int .i64 u) h
theorem Quad.set3 {w : World} {b : Nat} {t : TypeId} {a0 a1 a2 a3 : Int} (h : Quad w b t a0 a1 a2 a3) (u : Int) : Quad (w.setCell ⟨b, 3, none⟩ (.int .i64 u)) b t a0 a1 a2 u := heap_setCell_same w b 3 _ _ (.int .i64 u) h
theorem Quad.below {w w' : World} {b : Nat} {t : TypeId} {a0 a1 a2 a3 : Int} (h : Quad w b t a0 a1 a2 a3) (hb : Below w.heap.size w w') : Quad w' b t a0 a1 a2 a3 := (hb.block b (Array.getElem?_eq_some_iff.1 h).1).trans h
theorem Quad.lt {w : World} {b : Nat} {t : TypeId} {a0 a1 a2 a3 : Int} (h : Quad w b t a0 a1 a2 a3) : b < w.heap.size := (Array.getElem?_eq_some_iff.1 h).1

end Go.Proofs.YtefcaeldkdbjdaaGreat

namespace Go.Proofs.YtefcaeldkdbjdaaGreat
open Go.RowKit Go.Shelf

attribute [local go_sem] Oper.semAt_some

theorem ints_vals (l : List (Fin 32)) (x : Fin 32) : (ints (vals (l ++ [x]))).map (Value.int .i64) = (ints (vals l)).map (Value.int .i64) ++ [.int .i64 (x.val : Int)] := by simp [ints, vals]

end Go.Proofs.YtefcaeldkdbjdaaGreat

namespace Go.Proofs.YtefcaeldkdbjdaaGreat
open Go.RowKit Go.Shelf

attribute [local go_sem] Oper.semAt_some

/-- The offsets of blocks of size z. -/
def offL (z : Int) (l : List Nat) : List Int := l.map (fun k : Nat => (k : Int) * z)
theorem offL_len (z : Int) (l : List Nat) : (offL z l).length = l.length := by simp [offL]
theorem offL_vals (z : Int) (l : List (Fin 32)) (x : Fin 32) : (offL z (vals (l ++ [x]))).map (Value.int .i64) = (offL z (vals l)).map (Value.int .i64) ++ [.int .i64 ((x.val : Int) * z)] := by simp [offL, vals]
theorem off_mul {z : Int} (h1 : 1 ≤ z) (h2 : z ≤ 16) (x : Nat) (hx : x < 32) : IntKind.i64.wrap ((x : Int) * z) = (x : Int) * z := by
  refine IntWalk.i64_in _ ?_
  have a : (0 : Int) ≤ (x : Int) * z := Int.mul_nonneg (by omega) (by omega)
  have b : (x : Int) * z ≤ 32 * z := Int.mul_le_mul_of_nonneg_right (by omega) (by omega)
  omega

set_option maxRecDepth 100000 in
set_option maxHeartbeats 2000000 in
theorem offsetsOf_in (F : Fence) (n X : Nat) (z : Int) (w : World) (hX : X < 4294967296) (z1 : 1 ≤ z) (z2 : z ≤ 16) (h3 : F.fn 67) (h5 : F.fn 78) (h6 : F.fn 87) (hro : F.round = none) (hn : 3 ≤ n) :
    CallsIn F n Tryz.prog 67 #[.int .u32 (X : Int), .int .i64 z] w fun e w' => ∃ A c, e = .returned (.slice A (onesTo X 32).length c) ∧ OwnK 3 .i64 w' w.heap.size A (onesTo X 32).length c (offL z (onesTo X 32)) ∧ Below w.heap.size w w' := by
  have HX := Lib.hid hX
  have HZ := Lib.hid (off_mul z1 z2)
  clear hX z1 z2
  have h1 : 1 ≤ n := by omega
  obtain ⟨i0, hi, hz0, hz1, hz2⟩ := info_parts info_int
  refine callsIn_of_wp_marks Tryz.func67 rfl h3 ?_ hro
  simp only [Tryz.ntmps67, List.size_toArray, List.length_cons, List.length_nil, Nat.reduceAdd, Nat.reduceSub, Array.replicate_succ, Array.replicate_zero, List.push_toArray, List.append_toArray, List.nil_append, List.cons_append]
  gi_wp2_with (gi_at_call 78; refine (oneBits_in F (n - 1) h5 hro _ _).mono ?_; rintro e w' ⟨rfl, rfl⟩)
  obtain ⟨V, hV⟩ : ∃ V, w.alloc (.cells #[.int .i64 z] 3) = V := ⟨_, rfl⟩
  have hVs : V.heap.size = w.heap.size + 1 := by rw [← hV]; simp
  have cV : V.cell? ⟨w.heap.size, 0, none⟩ = some (.int .i64 z) := by rw [← hV]; exact (cell_of_row _ w.heap.size 0 _ _ (0, 0) (heap_alloc_new w _)).trans rfl
  have bV : Below w.heap.size w V := by rw [← hV]; exact (Below.refl _ w).alloc (Nat.le_refl _) _
  have bO : Boxed ((V.alloc (.cells #[.slice none 0 0] 29)).alloc (.cells #[.int .u32 (X : Int)] 47)) (w.heap.size + 1) 29 (.slice none 0 0) := by
    have := Boxed.new V 29 (.slice none 0 0)
    rw [hVs] at this
    exact this.alloc _
  have bN : Boxed ((V.alloc (.cells #[.slice none 0 0] 29)).alloc (.cells #[.int .u32 (X : Int)] 47)) (w.heap.size + 1 + 1) 47 (.int .u32 (X : Int)) := by
    have := Boxed.new (V.alloc (.cells #[.slice none 0 0] 29)) 47 (.int .u32 (X : Int))
    rwa [World.size_alloc, hVs] at this
  have hB0 : Below (w.heap.size + 1) V ((V.alloc (.cells #[.slice none 0 0] 29)).alloc (.cells #[.int .u32 (X : Int)] 47)) := ((Below.refl _ V).alloc (by omega) _).alloc (by simp; omega) _
  have hsz : ((V.alloc (.cells #[.slice none 0 0] 29)).alloc (.cells #[.int .u32 (X : Int)] 47)).heap.size = w.heap.size + 3 := by simp; omega
  rw [hV]
  obtain ⟨W0, hW0⟩ : ∃ W0, ((V.alloc (.cells #[.slice none 0 0] 29)).alloc (.cells #[.int .u32 (X : Int)] 47)) = W0 := ⟨_, rfl⟩
  rw [hW0] at hB0 bO bN hsz ⊢
  clear hW0 hV
  refine wpIn_rangeFunc_ownG hro h1 (gf := 87) (lb := #[.pointer (some ⟨w.heap.size + 1 + 1, 0, none⟩)]) rfl h6 (enters_of Tryz.func87 (by kernel_rfl) rfl)
    (iter_stops F (n - 1) h6 hro (by omega) (w.heap.size + 1 + 1) X HX.out W0 (by omega) bN.cell) keepsBox_t (keepsBox_b (by omega)) (Below.refl _ _) (fun _ => rfl)
    (fun pre W => ((∃ v, Boxed W (w.heap.size + 1) 29 v ∧ W.ownsRow (w.heap.size + 1) 3 1 v (vals pre).length ((offL z (vals pre)).map (Value.int .i64)) ∧ True) ∧ Boxed W (w.heap.size + 1 + 1) 47 (.int .u32 (X : Int))) ∧ Below (w.heap.size + 1) V W)
    (fun _ _ _ => False)
    (OwnFrom.and (OwnFrom.and (Go.Own.from (holdsRow_own (w.heap.size + 1) (w.heap.size + 1) 29 3 1 (fun pre => (vals pre).length) (fun pre => (offL z (vals pre)).map (Value.int .i64)) (fun _ _ => True)) _) (Go.Own.from (boxed_own _ _ _) _)) (ownFrom_below (by omega) (by omega)))
    (fun _ _ _ _ _ hs _ _ => hs)
    ⟨⟨⟨_, bO, World.ownsRow_nil _ _ _ _, trivial⟩, bN⟩, hB0⟩
    ?a1 ?assign ?body ?done ?stop
  case assign =>
    intro l x W K hK
    gi_wp2
    exact hK
  case body =>
    rintro l pre x W ⟨⟨⟨v, hv, hrow, _⟩, hx⟩, hB⟩ hlt
    have hc := hv.cell
    have hpl : (vals pre).length < 32 := by rw [vals_len]; exact hlt
    have cz : W.cell? ⟨w.heap.size, 0, none⟩ = some (.int .i64 z) := (hB.cell (p := ⟨w.heap.size, 0, none⟩) (by show w.heap.size < _; omega)).trans cV
    have hmul := HZ.out x.val x.isLt
    have HX2 := Lib.hid hx
    have hsW : w.heap.size + 1 ≤ W.heap.size := by have := hB.size; omega
    clear hx
    gi_wp2_with (gi_at_builtin; refine wpListIn_append_own _ rfl _ _ 29 rfl (w.heap.size + 1) 3 i0 (.int .i64 0) 1 8 Tryz.underlying29 hi hz0 hz1 hz2 rfl (by decide) _ _ _ rfl (hrow.alloc _) ⟨W.heap.size, 0, none⟩ 1 1 [.int .i64 ((x.val : Int) * z)] rfl rfl (cell_one_new _ _ _) (by simp [Value.oneCell']) (by unfold maxLen; omega) (by omega) (by simp; omega) ?_; intro v' w1 hown' hgrow _; obtain ⟨g', cap', rfl⟩ := ownsRow_succ hown'; obtain ⟨hv1, hv2, hr2, hk2, hb2⟩ := hv.appended (by decide) hrow hsW (Nat.le_refl _) hown' hgrow; have hc1 := hv1.cell; have hf1 := hv1.frozen)
    have hx3 := ((HX2.out.alloc (.cells #[.int .i64 ((x.val : Int) * z)] 3)).kept hgrow (HX2.out.not_row (by decide) hrow)).other (show w.heap.size + 1 + 1 ≠ w.heap.size + 1 by omega) (.slice (some ⟨g', 0, none⟩) ((vals pre).length + 1) cap')
    refine ⟨hk2.from _, hx3.cell.trans HX2.out.cell.symm, ⟨⟨_, hv2, ?_, trivial⟩, hx3⟩, hB.trans hb2⟩
    rw [offL_vals, vals_snoc, List.length_append]
    exact hr2
  case done =>
    rintro D ys W hD hS ⟨⟨⟨v, hv, hrow, _⟩, hx⟩, hB⟩ hK
    have hc := hv.cell
    have hS' : vals ys = onesTo X 32 := hS
    rw [hS'] at hrow
    obtain ⟨A, c, rfl, ho⟩ := OwnK.shape hrow
    gi_wp2
    refine ⟨by simp, .inl ⟨_, _, rfl, run_takeDeferred hK, ?_⟩⟩
    exact ⟨_, results_tmp rfl _ _ _, A, c, rfl, (OwnK.from_ (ownsRow_putObj ho _ hK rfl) (by omega)), bV.trans ((hB.mono (by omega)).trans (belowK_b (w := w) (Nat.le_refl _) W D _ _ (by omega) hK rfl rfl))⟩
  case stop =>
    rintro D c pre W _ _ h _
    exact h.elim

theorem offsetsOf_any (X : Nat) (z : Int) (w : World) (hX : X < 4294967296) (z1 : 1 ≤ z) (z2 : z ≤ 16) :
    Calls Tryz.prog 67 #[.int .u32 (X : Int), .int .i64 z] w fun e w' => ∃ A c, e = .returned (.slice A (onesTo X 32).length c) ∧ OwnK 3 .i64 w' w.heap.size A (onesTo X 32).length c (offL z (onesTo X 32)) ∧ Below w.heap.size w w' :=
  callsIn_wide.1 (offsetsOf_in Fence.wide 3 X z w hX z1 z2 trivial trivial trivial rfl (Nat.le_refl _))

end Go.Proofs.YtefcaeldkdbjdaaGreat

namespace Go.Proofs.YtefcaeldkdbjdaaGreat
open Go.RowKit
set_option linter.unusedVariables false

theorem offL_get {z : Int} {l : List Nat} {k : Nat} (h : k < l.length) : (offL z l)[k]?.getD 0 = (l[k] : Int) * z := by simp [offL, h]
theorem ones_get {X k : Nat} (h : k < (onesTo X 32).length) : (onesTo X 32)[k] < 32 := (mem_ones.1 (List.getElem_mem h)).1

set_option maxRecDepth 100000 in
set_option maxHeartbeats 4000000 in
theorem blocksAt_any (a : Int) (X : Nat) (w : World) (hX : X < 4294967296) (hg : GoodX X) (a0 : 0 ≤ a) (a1 : a ≤ 240) :
    Calls Tryz.prog 43 #[.int .i64 a, .int .u32 (X : Int)] w fun e w' => ∃ A c, e = .returned (.slice A (wdL a X).length c) ∧ OwnP w' w.heap.size A (wdL a X).length c (wdL a X) ∧ Below w.heap.size w w' := by
  rcases st_cases hg with hs | hs | hs | hs
  · skip
    have HR : Hid (wdL a X = []) := (show _ = _ from by unfold wdL; rw [if_neg (by omega), if_neg (by omega)])
    have HC := Lib.hid (fun W => read_st X hX hg 0 hs W)
    clear hg hs
    generalize (clOf X : Int) = cl at *
    generalize (mpOf X : Int) = mp at *
    generalize (rnOf X : Int) = rn at *
    go_enter Tryz.func43, Tryz.ntmps43
    go_wp2_with fail
    refine (HC.out _).mono ?_
    rintro e w1 ⟨rfl, hb⟩
    have B1 := Lib.hid (hb.alloc hb.size (.cells #[.int .i64 0, .int .i64 cl, .int .u32 mp, .int .i64 rn] 74))
    clear hb HC
    go_wp2
    go_ret
    rw [HR.out]
    exact ⟨none, 0, rfl, OwnP.zero, B1.out⟩
  · have hs' : stOf X = 1 := by omega
    obtain ⟨z1, z2⟩ := page_sizes hg hs'
    have HR : Hid (wdL a X = pgL a (sizeV (clOf X)) ((onesTo (mpOf X) 32).take (onesTo (mpOf X) 32).length)) := (show _ = _ from by unfold wdL; rw [if_pos hs', List.take_length])
    have HC := Lib.hid (fun W => read_st X hX hg 1 hs W)
    have HZ := Lib.hid (fun W => classSize_any (clOf X) W)
    have hM := map_small X
    have hl32 := ones_len32 (mpOf X)
    have HO := Lib.hid (fun W => offsetsOf_any (mpOf X) (sizeV (clOf X)) W hM z1 z2)
    have HL := Lib.hid (fun k (h : k < (onesTo (mpOf X) 32).length) => ones_get h)
    clear hg hs hs'
    generalize onesTo (mpOf X) 32 = l at *
    generalize (mpOf X : Int) = mp at *
    generalize (rnOf X : Int) = rn at *
    generalize sizeV (clOf X) = z at *
    generalize (clOf X : Int) = cl at *
    clear hM hX
    go_enter Tryz.func43, Tryz.ntmps43
    go_wp2_with fail
    refine (HC.out _).mono ?_
    rintro e w1 ⟨rfl, hb⟩
    have B1 := Lib.hid (hb.alloc hb.size (.cells #[.int .i64 1, .int .i64 cl, .int .u32 mp, .int .i64 rn] 74))
    clear hb HC
    go_wp2_with fail
    refine (HZ.out _).mono ?_
    rintro e w2 ⟨rfl, rfl⟩
    go_wp2_with fail
    refine (HO.out _).mono ?_
    rintro e w3 ⟨A, c, rfl, ho, hb⟩
    have O3 := Lib.hid ho
    have B3 := Lib.hid (B1.out.trans (hb.mono B1.out.size))
    have z3 := hb.size
    have e3 := sz1 w1 (.cells #[.int .i64 1, .int .i64 cl, .int .u32 mp, .int .i64 rn] 74)
    have O0 : Hid (OwnP w3 w3.heap.size none 0 0 (pgL a z (l.take 0))) := OwnP.zero
    clear ho hb HO HZ B1
    go_wp2
    go_loopw [7, 28] (fun v j wr => ∃ (k : Nat) (A1 : Option Addr) (c1 : Nat), k ≤ l.length ∧ j = .int .i64 k ∧ v = .slice A1 k c1 ∧ Hid (OwnP wr w3.heap.size A1 k c1 (pgL a z (l.take k))) ∧ Hid (Below w3.heap.size w3 wr)) (fun _ j _ => l.length - (intOf j).toNat)
    case atStart => exact ⟨0, none, 0, Nat.zero_le _, rfl, rfl, O0, Below.refl _ _⟩
    case round =>
      obtain ⟨k, A1, c1, hk, rfl, rfl, HP, HB⟩ := hrel
      clear O0
      have hsz := HB.out.size
      by_cases hlt : k < l.length
      · obtain ⟨g, rfl, hg1, hg2⟩ := O3.out.form (by omega)
        have c0 : wr.cell? ⟨g, k, none⟩ = some (.int .i64 ((l[k] : Int) * z)) := by
          rw [← offL_get hlt]
          exact (HB.out.cell (p := ⟨g, k, none⟩) hg2).trans (O3.out.cell rfl hlt)
        have h32 := HL.out k hlt
        have HN := Lib.hid (pgL_take a z hlt)
        generalize l[k] = b at *
        have hm0 : 0 ≤ (b : Int) * z := Int.mul_nonneg (by omega) (by omega)
        have hm1 : (b : Int) * z ≤ 32 * 16 := Int.mul_le_mul (by omega) z2 (by omega) (by omega)
        generalize (b : Int) * z = bz at *
        have gw : IntKind.i64.wrap (a + bz) = a + bz := IntWalk.i64_in _ (by omega)
        have hk9 : k + 1 ≤ 2000000 := by omega
        go_wp2_with (at_builtin; refine wpList_push_p rfl (.tmp 32) (.tmp 38) rfl w3.heap.size k c1 A1 _ (a + bz) z wr.heap.size rfl rfl rfl HP.out hk9 hsz ?_)
        intro A' c' w' HO' HB' _
        have HB2 := Lib.hid (HB.out.trans HB'.out)
        have HP2 : Hid (OwnP w' w3.heap.size A' (k + 1) c' (pgL a z (l.take (k + 1)))) := (show OwnP _ _ _ _ _ _ from by rw [HN.out]; exact HO'.out)
        clear HO' HB' HP HB c0
        go_wp2
        go_roundw
        case rel => exact ⟨k + 1, A', c', by omega, by go_num, rfl, HP2, HB2⟩
        case measure => simp [intOf]; omega
      · have hkn : k = l.length := by omega
        subst hkn
        go_wp2
        go_ret
        have hb3 := B3.out.size
        rw [HR.out, pgL_len, List.length_take, Nat.min_self]
        exact ⟨A1, c1, rfl, HP.out.from_ (by omega), B3.out.trans (HB.out.mono (by omega))⟩
  · have hs' : stOf X = 2 := by omega
    have hr := run_small hX
    have HR : Hid (wdL a X = [(a, 16 * (rnOf X : Int))]) := (show _ = _ from by unfold wdL; rw [if_neg (by omega), if_pos hs'])
    have HC := Lib.hid (fun W => read_st X hX hg 2 hs W)
    clear hg hs hs'
    have hr0 : (0 : Int) ≤ (rnOf X : Int) := by omega
    generalize (clOf X : Int) = cl at *
    generalize (mpOf X : Int) = mp at *
    generalize (rnOf X : Int) = rn at *
    have gw : IntKind.i64.wrap (16 * rn) = 16 * rn := IntWalk.i64_in _ (by omega)
    go_enter Tryz.func43, Tryz.ntmps43
    go_wp2_with fail
    refine (HC.out _).mono ?_
    rintro e w1 ⟨rfl, hb⟩
    have B1 := Lib.hid (hb.alloc hb.size (.cells #[.int .i64 2, .int .i64 cl, .int .u32 mp, .int .i64 rn] 74))
    clear hb HC
    go_wp2
    go_ret
    rw [HR.out]
    have hz := B1.out.size
    have h1 := (OwnP.one (w1.alloc (.cells #[.int .i64 2, .int .i64 cl, .int .u32 mp, .int .i64 rn] 74)) a (16 * rn)).from_ hz
    rw [sz1] at h1
    exact ⟨_, _, rfl, h1, B1.out.alloc hz _⟩
  · skip
    have HR : Hid (wdL a X = []) := (show _ = _ from by unfold wdL; rw [if_neg (by omega), if_neg (by omega)])
    have HC := Lib.hid (fun W => read_st X hX hg 3 hs W)
    clear hg hs
    generalize (clOf X : Int) = cl at *
    generalize (mpOf X : Int) = mp at *
    generalize (rnOf X : Int) = rn at *
    go_enter Tryz.func43, Tryz.ntmps43
    go_wp2_with fail
    refine (HC.out _).mono ?_
    rintro e w1 ⟨rfl, hb⟩
    have B1 := Lib.hid (hb.alloc hb.size (.cells #[.int .i64 3, .int .i64 cl, .int .u32 mp, .int .i64 rn] 74))
    clear hb HC
    go_wp2
    go_ret
    rw [HR.out]
    exact ⟨none, 0, rfl, OwnP.zero, B1.out⟩

set_option maxRecDepth 100000 in
set_option maxHeartbeats 4000000 in
theorem audit_any (A : Option Addr) (n c B : Nat) (ws : List Nat) (w : World) (h : Rd w B A n (ints ws)) (hB : B ≤ w.heap.size) (hX : ∀ X ∈ ws, X < 4294967296) (hm : n ≤ maxLen) :
    Calls Tryz.prog 22 #[.agg #[.slice A n c]] w fun e w' => ∃ A' c', e = .returned (.tuple #[.slice A' (auditV ws).length c', .bool (decide (HeapOk ws))]) ∧ OwnP w' w.heap.size A' (auditV ws).length c' (auditV ws) ∧ Below w.heap.size w w' := by
  have hl : ws.length = n := by rw [← intsW_len]; exact h.1
  have HM : Hid (∀ W, Below w.heap.size w W → Calls Tryz.prog 42 #[.agg #[.slice A n c]] W fun e w' => e = .returned (.bool (decide (HeapOk ws))) ∧ Below W.heap.size W w') := fun W hb => isHeap_any A n c B ws W (h.below (hb.mono hB)) (Nat.le_trans hB hb.size) hX hm
  have HB0 := Lib.hid (bel1 w (.cells #[.slice A n c] 34))
  by_cases hg : HeapOk ws
  · rw [decide_eq_true hg] at HM ⊢
    have HR : Hid (auditV ws = audTo ws n) := (show _ = _ from by unfold auditV; rw [if_pos hg, hl])
    have hn : n ≤ 16 := by rw [← hl]; exact hg.1
    have H2 := Lib.hid h.2
    have HX := Lib.hid hX
    have HL := Lib.hid hl
    have HG := Lib.hid hg.2
    clear h hX hl hm hg
    go_enter Tryz.func22, Tryz.ntmps22
    go_wp2_with fail
    refine (HM.out _ HB0.out).mono ?_
    rintro e w1 ⟨rfl, hb⟩
    obtain ⟨hA, hB1, z1⟩ := nw1 hb
    have a0 := blkc hA 0 rfl
    have B1 := Lib.hid hB1
    have O0 : Hid (OwnP w1 w.heap.size none 0 0 (audTo ws 0)) := OwnP.zero
    clear hA hb hB1 HM
    go_wp2
    clear a0
    go_loopw [4, 13] (fun v i wr => ∃ (k m : Nat) (A1 : Option Addr) (c1 : Nat), k ≤ n ∧ i = .int .i64 k ∧ v = .slice A1 m c1 ∧ Hid (OwnP wr w.heap.size A1 m c1 (audTo ws k)) ∧ Hid (Below w.heap.size w wr)) (fun _ i _ => n - (intOf i).toNat)
    case atStart => exact ⟨0, 0, none, 0, Nat.zero_le _, rfl, rfl, O0, B1⟩
    case round =>
      obtain ⟨k, m, A1, c1, hk, rfl, rfl, HP, HB⟩ := hrel
      clear O0 B1
      have hsz := HB.out.size
      have hml := HP.out.len
      have hm9 := audTo_len ws k
      by_cases hlt : k < n
      · obtain ⟨g, o, rfl, hg, hc⟩ := H2.out (by omega)
        have y1 : wr.cell? ⟨g, o + k, none⟩ = some (.int .u32 ((ws[k]?.getD 0 : Nat) : Int)) := by
          rw [← intsW_at]; exact (HB.out.cell (p := ⟨g, o + k, none⟩) (by show g < _; omega)).trans (hc k hlt)
        clear hc
        have hkl : k < ws.length := by rw [HL.out]; exact hlt
        have hgx : GoodX (ws[k]?.getD 0) := by rw [List.getElem?_eq_getElem hkl]; exact HG.out _ (List.getElem_mem hkl)
        have HC := Lib.hid (fun W => blocksAt_any (16 * (k : Int)) (ws[k]?.getD 0) W (word_lt HX.out k) hgx (by omega) (by omega))
        have HN : Hid (audTo ws (k + 1) = audTo ws k ++ wdL (16 * (k : Int)) (ws[k]?.getD 0)) := (show _ = _ from rfl)
        have hw9 := wdL_len (16 * (k : Int)) (ws[k]?.getD 0)
        have gw : IntKind.i64.wrap (16 * (k : Int)) = 16 * (k : Int) := IntWalk.i64_in _ (by omega)
        clear hgx
        generalize wdL (16 * (k : Int)) (ws[k]?.getD 0) = L at *
        generalize ws[k]?.getD 0 = X at *
        go_wp2_with fail
        refine (HC.out _).mono ?_
        rintro e w2 ⟨A2, c2, rfl, ho, hb⟩
        have O2 := Lib.hid ho
        have hX2 := Lib.hid ho.plainB
        have HP2 := Lib.hid (HP.out.below hb)
        have HB2 := Lib.hid (HB.out.trans (hb.mono HB.out.size))
        have hs2 := HB2.out.size
        clear ho hb HP HB HC y1
        go_wp2_with (at_builtin; refine wpList_cat_pn rfl (.tmp 18) (.tmp 22) rfl w.heap.size w2.heap.size m c1 A1 A2 _ L L.length c2 rfl rfl HP2.out O2.out.rd hX2.out (by omega) hs2 ?_)
        intro A' c' w' HO' HB'
        have HB3 := Lib.hid (HB2.out.trans HB'.out)
        have HP3 : Hid (OwnP w' w.heap.size A' (m + L.length) c' (audTo ws (k + 1))) := (show OwnP _ _ _ _ _ _ from by rw [HN.out]; exact HO'.out)
        clear HO' HB' HP2 HB2 O2
        go_wp2
        go_roundw
        case rel => exact ⟨k + 1, m + L.length, A', c', by omega, by go_num, rfl, HP3, HB3⟩
        case measure => simp [intOf]; omega
      · have hkn : k = n := by omega
        subst hkn
        go_wp2
        refine bodyPost_ret (results_tmp2 rfl _ _ _) rfl ?_
        rw [HR.out, hml]
        exact ⟨A1, c1, rfl, HP.out, HB.out⟩
  · rw [decide_eq_false hg] at HM ⊢
    have HR : Hid (auditV ws = []) := (show _ = _ from by unfold auditV; rw [if_neg hg])
    clear h hX hl hg
    go_enter Tryz.func22, Tryz.ntmps22
    go_wp2_with fail
    refine (HM.out _ HB0.out).mono ?_
    rintro e w1 ⟨rfl, hb⟩
    have B1 := Lib.hid (HB0.out.trans (hb.mono HB0.out.size))
    clear hb
    go_wp2
    refine bodyPost_ret (results_tmp2 rfl _ _ _) rfl ?_
    rw [HR.out]
    exact ⟨none, 0, rfl, OwnP.zero, B1.out⟩

end Go.Proofs.YtefcaeldkdbjdaaGreat
