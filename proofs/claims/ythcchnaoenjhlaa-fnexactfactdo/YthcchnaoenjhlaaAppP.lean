/- Appending to a list of blocks that the call owns. -/
import Derived.Test.YthcchnaoenjhlaaOwnP
import Derived.Laws.OwnMore
namespace Go.Proofs.Ythcchnaoenjhlaa
open Go.RowKit

theorem flatP_one {ps : List (Int × Int)} : ∀ u ∈ flatP ps, u.oneCell' = true := by
  intro u hu
  obtain ⟨p, _, hp⟩ := List.mem_flatMap.1 hu
  simp at hp
  rcases hp with rfl | rfl <;> rfl
theorem add_at (g off j : Nat) : (⟨g, off, none⟩ : Addr).add j = ⟨g, off + j, none⟩ := by unfold Addr.add; split <;> simp_all
/-- The cells of a list that is read, one by one. -/
theorem cells_of {w : World} {g off m : Nat} {qs : List (Int × Int)} (hl : qs.length = m) (hc : ∀ i, i < m → w.cell? ⟨g, off + i * 2, none⟩ = some (.int .i64 (pa qs i)) ∧ w.cell? ⟨g, off + i * 2 + 1, none⟩ = some (.int .i64 (pb qs i))) :
    ∀ j u, (flatP qs)[j]? = some u → w.cell? ((⟨g, off, none⟩ : Addr).add j) = some u := by
  intro j u hj
  obtain ⟨hj1, _⟩ := List.getElem?_eq_some_iff.1 hj
  rw [flatP_len] at hj1
  rw [add_at]
  rcases Nat.mod_two_eq_zero_or_one j with h | h
  · have e : j = (j / 2) * 2 := by omega
    have h2 : j / 2 < qs.length := by omega
    rw [e, flatP_even qs _ h2] at hj
    have := (hc (j / 2) (by omega)).1
    rw [e, this, hj]
  · have e : j = (j / 2) * 2 + 1 := by omega
    have h2 : j / 2 < qs.length := by omega
    rw [e, flatP_odd qs _ h2] at hj
    have := (hc (j / 2) (by omega)).2
    rw [e, ← Nat.add_assoc, this, hj]

/-- 'append(s, x...)': s is the call's own. -/
theorem run_cat_p {w : World} (ty : TypeId) (b0 n c : Nat) (A : Option Addr) (ps qs : List (Int × Int)) (g off m cx : Nat) (hO : OwnP w b0 A n c ps) (hy : qs.length = m)
    (hc : ∀ i, i < m → w.cell? ⟨g, off + i * 2, none⟩ = some (.int .i64 (pa qs i)) ∧ w.cell? ⟨g, off + i * 2 + 1, none⟩ = some (.int .i64 (pb qs i))) (hn : n + m ≤ 2000000) (hb : b0 ≤ w.heap.size) :
    ∃ A' c' w', (Builtin.append_ #[30, 30] ty #[.slice A n c, .slice (some ⟨g, off, none⟩) m cx]).run Try.prog w = .ok (.slice A' (n + m) c') w' ∧ OwnP w' b0 A' (n + m) c' (ps ++ qs) ∧ w.grownBy w' (Value.slice A n c).ownBlock ∧ Below b0 w w' := by
  obtain ⟨i0, hi, hz0, hz1, hz2⟩ := info_parts info_blk
  obtain ⟨v', w', hr, h2, h3, _, _⟩ := run_append_own_at (P := Try.prog) w b0 30 ty 71 i0 (.agg #[.int .i64 0, .int .i64 0]) 2 16 Try.underlying30 hi hz0 hz1 hz2 rfl (by omega) (.slice A n c) n _ hO ⟨g, off, none⟩ m cx (flatP qs) (by rw [flatP_len, hy]) (cells_of hy hc) flatP_one (by unfold maxLen; omega) (by omega) hb
  rw [← flatP_app] at h2
  obtain ⟨A', c', rfl, h5⟩ := OwnP.shape h2
  exact ⟨A', c', w', hr, h5, h3, (Below.refl _ _).grown h3 hb (fun k hk => (World.ownsRow.lt hO k hk).1)⟩

/-- The same, and what is at an address stays at one. -/
theorem run_cat_p2 {w : World} (ty : TypeId) (b0 n c : Nat) (A : Option Addr) (ps qs : List (Int × Int)) (g off m cx : Nat) (hO : OwnP w b0 A n c ps) (hy : qs.length = m)
    (hc : ∀ i, i < m → w.cell? ⟨g, off + i * 2, none⟩ = some (.int .i64 (pa qs i)) ∧ w.cell? ⟨g, off + i * 2 + 1, none⟩ = some (.int .i64 (pb qs i))) (hn : n + m ≤ 2000000) (hb : b0 ≤ w.heap.size) :
    ∃ A' c' w', (Builtin.append_ #[30, 30] ty #[.slice A n c, .slice (some ⟨g, off, none⟩) m cx]).run Try.prog w = .ok (.slice A' (n + m) c') w' ∧ OwnP w' b0 A' (n + m) c' (ps ++ qs) ∧ w.grownBy w' (Value.slice A n c).ownBlock ∧ Below b0 w w' ∧ (A ≠ none → A' ≠ none) := by
  obtain ⟨i0, hi, hz0, hz1, hz2⟩ := info_parts info_blk
  obtain ⟨v', w', hr, h2, h3, _, h6⟩ := run_append_own_at (P := Try.prog) w b0 30 ty 71 i0 (.agg #[.int .i64 0, .int .i64 0]) 2 16 Try.underlying30 hi hz0 hz1 hz2 rfl (by omega) (.slice A n c) n _ hO ⟨g, off, none⟩ m cx (flatP qs) (by rw [flatP_len, hy]) (cells_of hy hc) flatP_one (by unfold maxLen; omega) (by omega) hb
  rw [← flatP_app] at h2
  obtain ⟨A', c', rfl, h5⟩ := OwnP.shape h2
  refine ⟨A', c', w', hr, h5, h3, (Below.refl _ _).grown h3 hb (fun k hk => (World.ownsRow.lt hO k hk).1), fun hA hA' => ?_⟩
  subst hA'
  cases A with
  | none => exact hA rfl
  | some a => rcases h6 with h6 | h6 <;> simp [Value.ownBlock] at h6

/-- The same, where the walk stands before it. -/
theorem wpList_cat_p {w : World} {ops : Array Oper} {rest : List Oper} {o : Oper} {a : Act} {Q : Exit → Act → World → Prop} (hgd : o.guard = none) (s x : Operand)
    (ho : o.op = .call { callee := .builtin .append, args := #[s, x], argTypes := #[30, 30] })
    (b0 n c : Nat) (A : Option Addr) (ps qs : List (Int × Int)) (g off m cx : Nat) (hs : a.eval s = .slice A n c) (hx : a.eval x = .slice (some ⟨g, off, none⟩) m cx) (hO : OwnP w b0 A n c ps) (hy : qs.length = m)
    (hc : ∀ i, i < m → w.cell? ⟨g, off + i * 2, none⟩ = some (.int .i64 (pa qs i)) ∧ w.cell? ⟨g, off + i * 2 + 1, none⟩ = some (.int .i64 (pb qs i))) (hn : n + m ≤ 2000000) (hb : b0 ≤ w.heap.size)
    (h : ∀ A' c' w', Hid (OwnP w' b0 A' (n + m) c' (ps ++ qs)) → Hid (Below b0 w w') → Hid (w.grownBy w' (Value.slice A n c).ownBlock) → wpList Try.prog ops Q rest (a.put o.dst (.slice A' (n + m) c')) w') :
    wpList Try.prog ops Q (o :: rest) a w := by
  refine wpList_plain hgd fun K hK => ?_
  obtain ⟨A', c', w', hr, h2, h3, h4⟩ := run_cat_p o.type b0 n c A ps qs g off m cx hO hy hc hn hb
  unfold Oper.wp execOp
  simp only [ho, resolve, invoke, builtin, Sem.run_bind, Sem.run_pure, Result.andThen_ok, List.map_toArray, List.map_cons, List.map_nil, hs, hx, hr]
  exact hK _ _ (h A' c' w' h2 h4 h3)

/-- 'append(s, b)': b was laid in a block of its own first. -/
theorem wpList_push_p {w : World} {ops : Array Oper} {rest : List Oper} {o : Oper} {a : Act} {Q : Exit → Act → World → Prop} (hgd : o.guard = none) (s x : Operand)
    (ho : o.op = .call { callee := .builtin .append, args := #[s, x], argTypes := #[30, 30] })
    (b0 n c : Nat) (A : Option Addr) (ps : List (Int × Int)) (u v : Int) (bx : Nat) (hs : a.eval s = .slice A n c) (hx : a.eval x = .slice (some ⟨bx, 0, none⟩) 1 1) (hbx : w.heap.size = bx) (hO : OwnP w b0 A n c ps) (hn : n + 1 ≤ 2000000) (hb : b0 ≤ w.heap.size)
    (h : ∀ A' c' w', Hid (OwnP w' b0 A' (n + 1) c' (ps ++ [(u, v)])) → Hid (Below b0 w w') → Hid ((w.alloc (.cells #[.int .i64 u, .int .i64 v] 71)).grownBy w' (Value.slice A n c).ownBlock) → wpList Try.prog ops Q rest (a.put o.dst (.slice A' (n + 1) c')) w') :
    wpList Try.prog ops Q (o :: rest) a (w.alloc (.cells #[.int .i64 u, .int .i64 v] 71)) := by
  subst hbx
  refine wpList_cat_p hgd s x ho b0 n c A ps [(u, v)] w.heap.size 0 1 1 hs hx (hO.alloc _) rfl ?_ hn (by simp; omega) ?_
  · intro i hi
    obtain rfl : i = 0 := by omega
    simp [pa, pb]
  · intro A' c' w' h1 h2 h3
    exact h A' c' w' h1 (((Below.refl _ w).alloc hb _).trans h2.out) h3

end Go.Proofs.Ythcchnaoenjhlaa
