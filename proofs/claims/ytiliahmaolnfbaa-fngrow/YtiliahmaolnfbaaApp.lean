/- The law of 'append([]uint32{}, s...)': a new slice that holds the words of s, s nil or not. -/
import Derived.Test.YtiliahmaolnfbaaA2
import Derived.Maps.AppendAt
namespace Go.Proofs.Ytiliahmaolnfbaa
open Go.RowKit

theorem run_append_none (w : World) (ty : TypeId) (b0 : Nat) (v : Value) (n c : Nat) (xs : List Value) (h : w.ownsRow b0 27 1 v n xs) :
    (Builtin.append_ #[24, 24] ty #[v, .slice none 0 c]).run Try.prog w = .ok v w := by
  obtain ⟨i0, hi, hz0, hz1, hz2⟩ := info_parts info_u32
  rcases h.2 with ⟨rfl, rfl⟩ | ⟨g, cap, cur, rfl, _, _, hnc, _⟩
  · simp [Builtin.append_, run_underlying Try.underlying24, sizeOf, typeInfo, hi, Builtin.lenOf, Builtin.firstCells]
  · simp [Builtin.append_, run_underlying Try.underlying24, sizeOf, typeInfo, hi, Builtin.lenOf, Builtin.firstCells, hnc, storeCells]

theorem own_shape {w : World} {b0 n : Nat} {v : Value} {zs : List Int} (h : w.ownsRow b0 27 1 v n (zs.map (Value.int .u32))) : ∃ A c, v = .slice A n c ∧ Own w b0 A n c zs := by
  rcases h.2 with ⟨rfl, rfl⟩ | ⟨g, cap, cur, rfl, r⟩
  · exact ⟨_, _, rfl, h⟩
  · exact ⟨_, _, rfl, h⟩

theorem run_append_rd (w : World) (ty : TypeId) (b0 B n m c : Nat) (v : Value) (A : Option Addr) (ys zs : List Int) (hO : w.ownsRow b0 27 1 v n (ys.map (Value.int .u32))) (hR : Rd w B A m zs) (hnm : n + m ≤ 10000000) (hb : b0 ≤ w.heap.size) :
    ∃ A' c' w', (Builtin.append_ #[24, 24] ty #[v, .slice A m c]).run Try.prog w = .ok (.slice A' (n + m) c') w' ∧ Own w' b0 A' (n + m) c' (ys ++ zs) ∧ Below b0 w w' ∧ w.grownBy w' v.ownBlock := by
  obtain ⟨i0, hi, hz0, hz1, hz2⟩ := info_parts info_u32
  rcases A with _ | ad
  · have hm : m = 0 := by
      rcases Nat.eq_zero_or_pos m with h0 | h0
      · exact h0
      · obtain ⟨g, o, e, _⟩ := hR.2 h0
        cases e
    subst hm
    have hz : zs = [] := List.eq_nil_of_length_eq_zero hR.1
    subst hz
    obtain ⟨A', c', rfl, hO'⟩ := own_shape hO
    exact ⟨A', c', w, run_append_none w ty b0 _ n c _ hO, by simpa using hO', Below.refl _ _, ⟨rfl, rfl, rfl, Nat.le_refl _, fun _ _ _ => rfl⟩⟩
  · have hcells : ∀ j u, (zs.map (Value.int .u32))[j]? = some u → w.cell? (ad.add j) = some u := by
      intro j u hj
      have hlt : j < zs.length := by
        have := (List.getElem?_eq_some_iff.1 hj).1
        simpa using this
      obtain ⟨g, o, e, _, hc⟩ := hR.2 (by have := hR.1; omega)
      injection e with e
      subst e
      have e2 : u = .int .u32 (zs[j]?.getD 0) := by
        simp [hlt] at hj ⊢
        exact hj.symm
      rw [e2, ← hc j (by have := hR.1; omega)]
      congr 1
      unfold Addr.add; split <;> simp_all
    obtain ⟨v', w', hrun, h2, h3, _, h5⟩ := run_append_own_at (P := Try.prog) w b0 24 ty 27 i0 (.int .u32 0) 1 4 Try.underlying24 hi hz0 hz1 hz2 rfl (by omega) v n _ hO ad m c (zs.map (Value.int .u32)) (by simp [hR.1]) hcells (ints_oneCell _ _) (by unfold maxLen; omega) (by omega) hb
    rw [← List.map_append] at h2
    obtain ⟨A', c', rfl, hO'⟩ := own_shape h2
    exact ⟨A', c', w', hrun, hO', (Below.refl _ _).grown h3 hb (fun k hk => (World.ownsRow.lt hO k hk).1), h3⟩

theorem wpList_append_fresh {w : World} {ops : Array Oper} {rest : List Oper} {o : Oper} {a : Act} {Q : Exit → Act → World → Prop} (hgd : o.guard = none) (s x : Operand)
    (ho : o.op = .call { callee := .builtin .append, args := #[s, x], argTypes := #[24, 24] })
    (b0 B m c c0 : Nat) (A0 A : Option Addr) (zs : List Int) (hs : a.eval s = .slice A0 0 c0) (hx : a.eval x = .slice A m c) (hO : Own w b0 A0 0 c0 []) (hR : Rd w B A m zs) (hm : m ≤ 10000000) (hb : b0 ≤ w.heap.size)
    (h : ∀ A' c' w', Hid (Own w' b0 A' m c' zs) → Hid (Below b0 w w') → wpList Try.prog ops Q rest (a.put o.dst (.slice A' m c')) w') : wpList Try.prog ops Q (o :: rest) a w := by
  refine wpList_plain hgd fun K hK => ?_
  obtain ⟨A', c', w', hr, h2, h3, _⟩ := run_append_rd w o.type b0 B 0 m c (.slice A0 0 c0) A [] zs hO hR (by omega) hb
  rw [Nat.zero_add, List.nil_append] at *
  unfold Oper.wp execOp
  simp only [ho, resolve, invoke, builtin, Sem.run_bind, Sem.run_pure, Result.andThen_ok, List.map_toArray, List.map_cons, List.map_nil, hs, hx, hr]
  exact hK _ _ (h A' c' w' h2 h3)

end Go.Proofs.Ytiliahmaolnfbaa
