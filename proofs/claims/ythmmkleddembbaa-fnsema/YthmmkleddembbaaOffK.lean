/- A slice of ints of the call's own that was cut at its front: where it lies, what append leaves. -/
import Derived.Test.YthmmkleddembbaaOwnK
import Derived.ArgAppend
namespace Go.Proofs.Ythmmkleddembbaa
open Go.RowKit

/-- The slice at A, of n numbers zs and capacity c: it has no capacity at all, or lies in a block from b0 on, wherever in it, with all cells up to the capacity there and not frozen. -/
def OffK (w : World) (b0 : Nat) (A : Option Addr) (n c : Nat) (zs : List Int) : Prop :=
  zs.length = n ∧ n ≤ c ∧ c ≤ maxLen ∧ (c = 0 ∨ ∃ g o, A = some ⟨g, o, none⟩ ∧ b0 ≤ g ∧ g < w.heap.size ∧
    (∀ j, j < c → (w.cell? ⟨g, o + j, none⟩).isSome = true ∧ w.frozen? ⟨g, o + j, none⟩ = false) ∧ ∀ j, j < n → w.cell? ⟨g, o + j, none⟩ = some (.int .i64 (zs[j]?.getD 0)))

section
variable {w w' : World} {b0 n c : Nat} {A : Option Addr} {zs : List Int}
theorem OffK.len (h : OffK w b0 A n c zs) : zs.length = n := h.1
theorem OffK.nil : OffK w b0 none 0 0 [] := ⟨rfl, Nat.le_refl _, by unfold maxLen; omega, .inl rfl⟩
theorem OffK.keep (h : OffK w b0 A n c zs) (hs : w.heap.size ≤ w'.heap.size) (hc : ∀ g o, b0 ≤ g → g < w.heap.size → w'.cell? ⟨g, o, none⟩ = w.cell? ⟨g, o, none⟩ ∧ w'.frozen? ⟨g, o, none⟩ = w.frozen? ⟨g, o, none⟩) : OffK w' b0 A n c zs := by
  obtain ⟨h1, h2, h3, h4⟩ := h
  refine ⟨h1, h2, h3, ?_⟩
  rcases h4 with h4 | ⟨g, o, hA, hb, hg, hr, hz⟩
  · exact .inl h4
  · refine .inr ⟨g, o, hA, hb, by omega, fun j hj => ?_, fun j hj => ?_⟩
    · rw [(hc g _ hb hg).1, (hc g _ hb hg).2]; exact hr j hj
    · rw [(hc g _ hb hg).1]; exact hz j hj
theorem OffK.below (h : OffK w b0 A n c zs) (hb : Below w.heap.size w w') : OffK w' b0 A n c zs :=
  h.keep hb.size fun g o _ hg => ⟨hb.cell (p := ⟨g, o, none⟩) hg, hb.frozen (p := ⟨g, o, none⟩) hg⟩
theorem OffK.alloc (h : OffK w b0 A n c zs) (ob : Obj) : OffK (w.alloc ob) b0 A n c zs :=
  h.below ((Below.refl _ _).alloc (Nat.le_refl _) _)
theorem OffK.drew (h : OffK w b0 A n c zs) : OffK w.drew b0 A n c zs := h.keep (Nat.le_refl _) fun _ _ _ _ => ⟨rfl, rfl⟩
theorem OffK.low {p : Addr} (h : OffK w b0 A n c zs) (hp : p.block < b0) (u : Value) : OffK (w.setCell p u) b0 A n c zs :=
  h.keep (by rw [World.size_setCell]; exact Nat.le_refl _) fun g o hg _ => ⟨World.cell?_setCell_other _ _ _ _ (fun e => by subst e; exact absurd hp (by show ¬ g < b0; omega)), World.frozen?_setCell _ _ _ _⟩
theorem OffK.of_own (h : OwnK 3 .i64 w b0 A n c zs) : OffK w b0 A n c zs := by
  have hl : zs.length = n := by simpa using h.1
  rcases h.2 with ⟨hv, rfl⟩ | ⟨g, cap, cur, hv, hb, hg, h1, h2, h3, h4⟩
  · cases hv
    exact ⟨hl, Nat.le_refl _, by unfold maxLen; omega, .inl rfl⟩
  · cases hv
    have hgl : g < w.heap.size := (Array.getElem?_eq_some_iff.1 hg).1
    refine ⟨hl, h1, h2, .inr ⟨g, 0, rfl, hb, hgl, fun j hj => ⟨?_, ?_⟩, fun j hj => ?_⟩⟩
    · rw [(cell_of_row w g (0 + j) _ _ (0, 0) hg), Array.getElem?_eq_getElem (by omega)]; rfl
    · simp [World.frozen?, hg]
    · rw [(cell_of_row w g (0 + j) _ _ (0, 0) hg), Nat.zero_add]
      have e : (cur.toList.take (n * 1))[j]? = some (.int .i64 (zs[j]?.getD 0)) := by
        rw [h4, List.getElem?_map, List.getElem?_eq_getElem (by omega)]; rfl
      rw [List.getElem?_take, if_pos (by omega)] at e
      simpa using e
/-- One number cut off at the front. -/
theorem OffK.tail {g o : Nat} {z : Int} (h : OffK w b0 (some ⟨g, o, none⟩) (n + 1) c (z :: zs)) : OffK w b0 (some (if c = 1 then ⟨g, o, none⟩ else ⟨g, o + 1, none⟩)) n (c - 1) zs := by
  obtain ⟨h1, h2, h3, h4⟩ := h
  have hl : zs.length = n := by simpa using h1
  refine ⟨hl, by omega, by omega, ?_⟩
  by_cases hc : c = 1
  · exact .inl (by omega)
  · rcases h4 with h4 | ⟨g', o', hA, hb, hg, hr, hz⟩
    · exact .inl (by omega)
    · cases hA
      rw [if_neg hc]
      refine .inr ⟨g, o + 1, rfl, hb, hg, fun j hj => ?_, fun j hj => ?_⟩
      · have := hr (j + 1) (by omega)
        rwa [show o + (j + 1) = o + 1 + j by omega] at this
      · have := hz (j + 1) (by omega)
        rw [show o + (j + 1) = o + 1 + j by omega] at this
        simpa using this
theorem OffK.form (h : OffK w b0 A n c zs) (hn : 0 < n) : ∃ g o, A = some ⟨g, o, none⟩ ∧ b0 ≤ g ∧ g < w.heap.size ∧ (∀ j, j < n → w.cell? ⟨g, o + j, none⟩ = some (.int .i64 (zs[j]?.getD 0))) := by
  obtain ⟨h1, h2, h3, h4⟩ := h
  rcases h4 with h4 | ⟨g, o, hA, hb, hg, hr, hz⟩
  · omega
  · exact ⟨g, o, hA, hb, hg, hz⟩
end

/-- 'append(s, x)', one number more: x was laid in a block of its own first. -/
theorem run_push_off {w : World} (ty : TypeId) (b0 n c : Nat) (A : Option Addr) (zs : List Int) (z : Int)
    (hO : OffK w b0 A n c zs) (hn : n ≤ 1000000) (hb : b0 ≤ w.heap.size) :
    ∃ A' c' w', (Builtin.append_ #[27, 27] ty #[.slice A n c, .slice (some ⟨w.heap.size, 0, none⟩) 1 1]).run Try.prog (w.alloc (.cells #[.int .i64 z] 3)) = .ok (.slice A' (n + 1) c') w' ∧
      OffK w' b0 A' (n + 1) c' (zs ++ [z]) ∧ Below b0 w w' := by
  obtain ⟨i0, hi, hz0, hz1, hz2⟩ := info_parts info_int
  have hnews : ∀ j u, ([Value.int .i64 z] : List Value)[j]? = some u → (w.alloc (.cells #[.int .i64 z] 3)).cell? ((⟨w.heap.size, 0, none⟩ : Addr).add j) = some u := by
    intro j u hj
    match j, hj with
    | 0, hj => simp at hj; subst hj; simp [Addr.add]
  have B1 : Below b0 w (w.alloc (.cells #[.int .i64 z] 3)) := (Below.refl _ _).alloc hb _
  have hs1 : (w.alloc (.cells #[.int .i64 z] 3)).heap.size = w.heap.size + 1 := World.size_alloc w _
  have hO1 := hO.alloc (.cells #[.int .i64 z] 3)
  have fin : ∀ v' w', w'.ownsRow (w.alloc (.cells #[.int .i64 z] 3)).heap.size 3 1 v' (n + 1) ((zs ++ [z]).map (Value.int .i64)) → (w.alloc (.cells #[.int .i64 z] 3)).grownBy w' none →
      ∃ A' c', v' = .slice A' (n + 1) c' ∧ OffK w' b0 A' (n + 1) c' (zs ++ [z]) ∧ Below b0 w w' := by
    intro v' w' h1 h2
    obtain ⟨A', c', rfl, h4⟩ := OwnK.shape h1
    exact ⟨A', c', rfl, OffK.of_own (h4.from_ (by omega)), B1.grown h2 (by omega) (fun k hk => by cases hk)⟩
  generalize (w.alloc (.cells #[.int .i64 z] 3)) = W at *
  obtain ⟨h1, h2, h3, h4⟩ := hO1
  have hm : n + 1 ≤ maxLen := by unfold maxLen; omega
  by_cases hc0 : c = 0
  · subst hc0
    obtain rfl : n = 0 := by omega
    obtain rfl : zs = [] := List.eq_nil_of_length_eq_zero h1
    cases A with
    | none =>
      obtain ⟨v', w', hrun, r1, r2, _⟩ := run_append_own (P := Try.prog) W W.heap.size 27 ty 3 i0 (.int .i64 0) 1 8 Try.underlying27 hi hz0 hz1 hz2 rfl (by omega) (.slice none 0 0) 0 [] (World.ownsRow_nil W _ _ 1) ⟨w.heap.size, 0, none⟩ 1 1 [.int .i64 z] rfl hnews (by simp [Value.oneCell']) (by simpa using hm) (by omega) (Nat.le_refl _)
      obtain ⟨A', c', rfl, r3, r4⟩ := fin v' w' (by simpa using r1) ⟨r2.os, r2.tape, r2.output, r2.size, fun k hk _ => r2.block k hk (by simp [Value.ownBlock])⟩
      exact ⟨A', c', w', hrun, r3, r4⟩
    | some a' =>
      obtain ⟨v', w', hrun, r1, r2⟩ := run_append_arg_grows (P := Try.prog) W 27 ty 3 i0 (.int .i64 0) 1 8 Try.underlying27 hi hz0 hz1 hz2 rfl (by omega) a' 0 0 [] (by simp) (by intro _ _ h'; simp at h') ⟨w.heap.size, 0, none⟩ 1 1 [.int .i64 z] rfl hnews (by omega) (by simpa using hm) (by omega)
      obtain ⟨A', c', rfl, r3, r4⟩ := fin v' w' (by simpa using r1) r2
      exact ⟨A', c', w', hrun, r3, r4⟩
  · rcases h4 with h4 | ⟨g, o, rfl, hbg, hg, hr, hz⟩
    · exact absurd h4 hc0
    · by_cases hroom : n + 1 ≤ c
      · have hrun := run_append_room_cells (P := Try.prog) W 27 ty 3 i0 Try.underlying27 hi g o n c ⟨w.heap.size, 0, none⟩ 1 1 [.int .i64 z] (by rw [hz1]; rfl) hnews (by simp [Value.oneCell']) hroom
          (fun j hj => by
            have : j = 0 := by simpa using hj
            subst this
            rw [hz1, Nat.mul_one, Nat.add_zero]
            exact (hr n (by omega)).1)
          (fun j hj => by
            have : j = 0 := by simpa using hj
            subst this
            rw [hz1, Nat.mul_one, Nat.add_zero]
            exact (hr n (by omega)).2)
        rw [hz1, Nat.mul_one] at hrun
        have e : W.setCells g (o + n) [.int .i64 z] = W.setCell ⟨g, o + n, none⟩ (.int .i64 z) := rfl
        rw [e] at hrun
        refine ⟨_, _, _, hrun, ⟨by simp [h1], hroom, h3, .inr ⟨g, o, rfl, hbg, by rw [World.size_setCell]; exact hg, fun j hj => ⟨?_, ?_⟩, fun j hj => ?_⟩⟩, B1.setCell hbg _⟩
        · by_cases hj2 : j = n
          · subst hj2
            obtain ⟨u, hu⟩ := Option.isSome_iff_exists.1 (hr j hj).1
            rw [World.cell?_setCell_same _ _ _ hu]; rfl
          · rw [World.cell?_setCell_other _ _ _ _ (fun e => hj2 (by simp at e; first | done | omega))]
            exact (hr j hj).1
        · rw [World.frozen?_setCell]; exact (hr j hj).2
        · by_cases hj2 : j = n
          · subst hj2
            obtain ⟨u, hu⟩ := Option.isSome_iff_exists.1 (hr j (by omega)).1
            rw [World.cell?_setCell_same _ _ _ hu, List.getElem?_append_right (by omega), h1, Nat.sub_self]; rfl
          · rw [World.cell?_setCell_other _ _ _ _ (fun e => hj2 (by simp at e; first | done | omega)), List.getElem?_append_left (by omega)]
            exact hz j (by omega)
      · have hol : ∀ j u, (zs.map (Value.int .i64))[j]? = some u → W.cell? ((⟨g, o, none⟩ : Addr).add j) = some u := by
          intro j u hu
          have hj : j < n := by
            have := (List.getElem?_eq_some_iff.1 hu).1
            simpa [h1] using this
          rw [Addr.add_lit, hz j hj, ← hu, List.getElem?_map, List.getElem?_eq_getElem (by omega)]; rfl
        obtain ⟨v', w', hrun, r1, r2⟩ := run_append_arg_grows (P := Try.prog) W 27 ty 3 i0 (.int .i64 0) 1 8 Try.underlying27 hi hz0 hz1 hz2 rfl (by omega) ⟨g, o, none⟩ n c (zs.map (Value.int .i64)) (by simp [h1]) hol ⟨w.heap.size, 0, none⟩ 1 1 [.int .i64 z] rfl hnews (by omega) hm (by omega)
        obtain ⟨A', c', rfl, r3, r4⟩ := fin v' w' (by simpa using r1) r2
        exact ⟨A', c', w', hrun, r3, r4⟩

theorem wpList_push_off {w : World} {ops : Array Oper} {rest : List Oper} {o : Oper} {a : Act} {Q : Exit → Act → World → Prop} (hgd : o.guard = none) (s x : Operand)
    (ho : o.op = .call { callee := .builtin .append, args := #[s, x], argTypes := #[27, 27] })
    (b0 n c : Nat) (A : Option Addr) (zs : List Int) (z : Int) (hs : a.eval s = .slice A n c) (hx : a.eval x = .slice (some ⟨w.heap.size, 0, none⟩) 1 1)
    (hO : OffK w b0 A n c zs) (hn : n ≤ 1000000) (hb : b0 ≤ w.heap.size)
    (h : ∀ A' c' w', Hid (OffK w' b0 A' (n + 1) c' (zs ++ [z])) → Hid (Below b0 w w') → wpList Try.prog ops Q rest (a.put o.dst (.slice A' (n + 1) c')) w') :
    wpList Try.prog ops Q (o :: rest) a (w.alloc (.cells #[.int .i64 z] 3)) := by
  refine wpList_plain hgd fun K hK' => ?_
  obtain ⟨A', c', w', hrun, r1, r2⟩ := run_push_off o.type b0 n c A zs z hO hn hb
  unfold Oper.wp
  simp [execOp, ho, resolve, invoke, builtin, hs, hx, hrun, Result.andThen]
  exact hK' _ _ (h A' c' w' r1 r2)

/-- The same, where the one's block is told by its number. -/
theorem wpList_push_offg {w : World} {ops : Array Oper} {rest : List Oper} {o : Oper} {a : Act} {Q : Exit → Act → World → Prop} (hgd : o.guard = none) (s x : Operand)
    (ho : o.op = .call { callee := .builtin .append, args := #[s, x], argTypes := #[27, 27] })
    (b0 n c : Nat) (A : Option Addr) (zs : List Int) (z : Int) (g : Nat) (hs : a.eval s = .slice A n c) (hx : a.eval x = .slice (some ⟨g, 0, none⟩) 1 1) (hg : g = w.heap.size)
    (hO : OffK w b0 A n c zs) (hn : n ≤ 1000000) (hb : b0 ≤ w.heap.size)
    (h : ∀ A' c' w', Hid (OffK w' b0 A' (n + 1) c' (zs ++ [z])) → Hid (Below b0 w w') → wpList Try.prog ops Q rest (a.put o.dst (.slice A' (n + 1) c')) w') :
    wpList Try.prog ops Q (o :: rest) a (w.alloc (.cells #[.int .i64 z] 3)) := by
  subst hg
  exact wpList_push_off hgd s x ho b0 n c A zs z hs hx hO hn hb h

end Go.Proofs.Ythmmkleddembbaa
