/- A set of blocks: a map by a block (two ints) that the call makes, told by a function. -/
import Derived.Test.YthcchnaoenjhlaaOpenB
import Derived.Test.YthcchnaoenjhlaaOwnP
import Derived.Maps.OwnSet
import Derived.Maps.Views
import Derived.DeepKeys4
namespace Go.Proofs.Ythcchnaoenjhlaa
open Go.RowKit Go.Maps

set_option maxRecDepth 100000 in
theorem rowK : (71 : TypeId) < Try.prog.types.size := of_decide_eq_true (by kernel_rfl)
set_option maxRecDepth 100000 in
theorem wideK : (match Try.prog.underlying 71 with | some (.array _ _) | some (.struct _) => true | _ => false) = true := by kernel_rfl
set_option maxRecDepth 100000 in
theorem keyed : Keyed Try.prog 71 := Keyed.of_law (deep_law_laid laidOut (m := 3) (by omega) rowK (by kernel_rfl) wideK)

set_option maxRecDepth 100000 in
/-- Two ints that are ints. -/
def Wf2 (p : Int × Int) : Prop := (Lit.int .i64 p.1).wf = true ∧ (Lit.int .i64 p.2).wf = true
set_option maxRecDepth 100000 in
/-- The block as a key, and as a value. -/
def keyP (p : Int × Int) : Lit := .string (keyBytes [.int .i64 p.1, .int .i64 p.2])
set_option maxRecDepth 100000 in
def valP (p : Int × Int) : Value := .agg #[.int .i64 p.1, .int .i64 p.2]
set_option maxRecDepth 100000 in
theorem wf_in {z : Int} (h : -9223372036854775808 ≤ z ∧ z < 9223372036854775808) : (Lit.int .i64 z).wf = true := by
  simp [Lit.wf, IntKind.min, IntKind.max, IntKind.signed, IntKind.bits]; omega
set_option maxRecDepth 100000 in
theorem WfP.wf2 {ps : List (Int × Int)} (h : WfP ps) {p : Int × Int} (hp : p ∈ ps) : Wf2 p := ⟨wf_in (h p hp).1, wf_in (h p hp).2⟩

set_option maxRecDepth 100000 in
theorem cellsK : Try.prog.cellsOf 71 = 2 := by kernel_rfl
set_option maxRecDepth 100000 in
theorem cellsI : Try.prog.cellsOf 3 = 1 := by kernel_rfl
set_option maxRecDepth 100000 in
theorem keyTypeK : Try.prog.keyType 71 = true := by kernel_rfl
set_option maxRecDepth 100000 in
theorem sizeK : ∃ m, Try.prog.types.size + 1 = m + 1 + 1 := ⟨Try.prog.types.size - 1, by have h : (71 : Nat) < Try.prog.types.size := rowK; omega⟩

set_option maxRecDepth 100000 in
theorem keyOf_mk {p : Int × Int} (h : Wf2 p) : keyOf Try.prog 71 (valP p) = some (keyP p) := by
  obtain ⟨m, hm⟩ := sizeK
  unfold keyOf
  simp only [Try.underlying71]
  rw [if_pos (by simp [keyTypeK, Value.formed, Try.underlying71, cellsK, valP]), hm]
  unfold Program.keyLits
  simp only [Try.underlying71, valP, Value.cells]
  rw [if_pos ⟨by rw [cellsK]; rfl, by kernel_rfl⟩]
  simp [Program.keyLits, cellsI, Try.underlying3, h.1, h.2, keyP]
set_option maxRecDepth 100000 in
theorem keyOf_inv {key : Value} {kl : Lit} (h : keyOf Try.prog 71 key = some kl) : ∃ p, key = valP p ∧ kl = keyP p ∧ Wf2 p := by
  obtain ⟨m, hm⟩ := sizeK
  obtain ⟨xs, L, rfl, h1, e1⟩ := keyOf_top wideK h
  rw [hm] at h1
  have k0 : ∀ (c : Value) (L' : List Lit), Try.prog.keyLits (m + 1) 3 [c] = some L' → ∃ a, c = .int .i64 a ∧ (Lit.int .i64 a).wf = true ∧ L' = [.int .i64 a] := by
    intro c L' hc
    unfold Program.keyLits at hc
    simp only [Try.underlying3] at hc
    cases c <;> simp at hc
    obtain ⟨⟨rfl, hw⟩, rfl⟩ := hc
    exact ⟨_, rfl, hw, rfl⟩
  unfold Program.keyLits at h1
  simp only [Try.underlying71] at h1
  split at h1
  · rename_i hl
    rw [cellsK] at hl
    obtain ⟨c0, c1, hx⟩ : ∃ c0 c1, xs.toList = [c0, c1] := by
      match hxs : xs.toList, hl.1 with
      | [c0, c1], _ => exact ⟨c0, c1, rfl⟩
    have hxa : xs = #[c0, c1] := by apply Array.toList_inj.1; simpa using hx
    subst hxa
    cases hL0 : Try.prog.keyLits (m + 1) 3 [c0] with
    | none => simp [cellsI, List.mapM_cons, List.mapM_nil, hL0] at h1
    | some L0 =>
    cases hL1 : Try.prog.keyLits (m + 1) 3 [c1] with
    | none => simp [cellsI, List.mapM_cons, List.mapM_nil, hL0, hL1] at h1
    | some L1 =>
    simp [cellsI, List.mapM_cons, List.mapM_nil, hL0, hL1] at h1
    obtain ⟨a, rfl, wa, rfl⟩ := k0 _ _ hL0
    obtain ⟨b, rfl, wb, rfl⟩ := k0 _ _ hL1
    exact ⟨(a, b), rfl, by rw [e1, ← h1]; rfl, wa, wb⟩
  · cases h1
set_option maxRecDepth 100000 in
theorem valP_inj {p q : Int × Int} (h : valP p = valP q) : p = q := by
  unfold valP at h
  injection h with h
  have h2 := congrArg Array.toList h
  simp at h2
  exact Prod.ext h2.1 h2.2
set_option maxRecDepth 100000 in
theorem keyP_inj {p q : Int × Int} (hp : Wf2 p) (hq : Wf2 q) (h : keyP p = keyP q) : p = q :=
  valP_inj (keyed.inj (keyOf_mk hp) (h ▸ keyOf_mk hq))
set_option maxRecDepth 100000 in
theorem keyP_lit (p : Int × Int) : WideAt.IsKeyLit (keyP p) := trivial

set_option maxRecDepth 100000 in
/-- Block b is a map of at most n entries: the set of the blocks of which f holds. -/
def SetG (W : World) (b n : Nat) (f : Int × Int → Bool) : Prop :=
  ∃ D : DataW Unit, W.ownsMap Try.prog 71 (plainElem Try.prog 4) b n D ∧ ∀ p, Wf2 p → has D (keyP p) = f p ∧ D.atKey (keyP p) (.lit (.bool false)) = .lit (.bool (f p))

set_option maxRecDepth 100000 in
theorem SetG.made (W : World) : SetG (W.alloc (.map #[] 0)) W.heap.size 0 (fun _ => false) := ⟨.map [], World.ownsMap_made _ _ _ _, fun _ _ => ⟨rfl, rfl⟩⟩
set_option maxRecDepth 100000 in
theorem SetG.lt {W : World} {b n : Nat} {f : Int × Int → Bool} (h : SetG W b n f) : b < W.heap.size := by obtain ⟨D, ho, _⟩ := h; exact ho.lt
set_option maxRecDepth 100000 in
theorem SetG.kept {W W' : World} {row : Option Nat} {b n : Nat} {f : Int × Int → Bool} (h : SetG W b n f) (hg : W.grownBy W' row) (hne : some b ≠ row) : SetG W' b n f := by
  obtain ⟨D, ho, ha⟩ := h
  exact ⟨D, ho.kept hg hne, ha⟩
set_option maxRecDepth 100000 in
theorem SetG.low {W W' : World} {b n : Nat} {f : Int × Int → Bool} (h : SetG W b n f) (hb : Below W.heap.size W W') : SetG W' b n f :=
  h.kept (row := none) ⟨hb.os, hb.tape, hb.output, hb.size, fun k hk _ => hb.block k hk⟩ (by simp)
set_option maxRecDepth 100000 in
theorem SetG.alloc {W : World} {b n : Nat} {f : Int × Int → Bool} (h : SetG W b n f) (o : Obj) : SetG (W.alloc o) b n f := h.kept (row := none) (World.grownBy_alloc _ _ none) (by simp)
set_option maxRecDepth 100000 in
theorem SetG.congr {W : World} {b n : Nat} {f f' : Int × Int → Bool} (h : SetG W b n f) (he : ∀ p, Wf2 p → f p = f' p) : SetG W b n f' := by
  obtain ⟨D, ho, ha⟩ := h
  exact ⟨D, ho, fun p hp => by rw [← he p hp]; exact ha p hp⟩
set_option maxRecDepth 100000 in
theorem plainElem_bool_inv {v : Value} {z : DataW Unit × List MemPlace} (h : plainElem Try.prog 4 v = some z) : ∃ x, v = .bool x ∧ z = (.lit (.bool x), []) := by
  cases v <;> simp [plainElem, Try.underlying4] at h
  exact ⟨_, rfl, h.symm⟩
set_option maxRecDepth 100000 in
/-- The look-up. -/
theorem SetG.look {W : World} {b n : Nat} {f : Int × Int → Bool} (h : SetG W b n f) {p : Int × Int} (hp : Wf2 p) :
    (Instr.lookup 123 (.map (some b)) (valP p) false).run Try.prog W = .ok (.bool (f p)) W := by
  obtain ⟨D, ho, ha⟩ := h
  obtain ⟨v, ps, hr, hv⟩ := ho.lookup keyed Try.underlying123 (Try.zeroValue4 W) (plainElem_bool Try.underlying4 false) (keyOf_mk hp)
  obtain ⟨x, rfl, hx⟩ := plainElem_bool_inv hv
  rw [(ha p hp).2] at hx
  injection hx with hx
  injection hx with hx
  injection hx with hx
  rw [hr, hx]
set_option maxRecDepth 100000 in
/-- The store. -/
theorem SetG.store {W : World} {b n : Nat} {f : Int × Int → Bool} (h : SetG W b n f) (hn : n < maxLen) {p : Int × Int} (hp : Wf2 p) :
    ∃ W', (Instr.mapUpdate 123 (.map (some b)) (valP p) (.bool true)).run Try.prog W = .ok () W' ∧ SetG W' b (n + 1) (fun q => decide (q = p) || f q) ∧ W.grownBy W' (some b) := by
  obtain ⟨D, ho, ha⟩ := h
  obtain ⟨W', hr, ho', hg⟩ := ho.update keyed Try.underlying123 hn (keyOf_mk hp) (plainElem_bool Try.underlying4 true)
  refine ⟨W', hr, ⟨_, ho', fun q hq => ?_⟩, hg⟩
  by_cases e : q = p
  · subst e
    rw [has_put_same ho.isMap (keyP_lit q), atKey_put_same ho.isMap (keyP_lit q)]
    simp
  · have hne : keyP q ≠ keyP p := fun h2 => e (keyP_inj hq hp h2)
    rw [has_put_other hne, atKey_put_other hne]
    simp only [e, decide_false, Bool.false_or]
    exact ha q hq
set_option maxRecDepth 100000 in
/-- The deletion. -/
theorem SetG.cut {W : World} {b n : Nat} {f : Int × Int → Bool} (h : SetG W b n f) (ty : TypeId) {p : Int × Int} (hp : Wf2 p) :
    ∃ W', (Builtin.delete_ #[123, 71] ty #[.map (some b), valP p]).run Try.prog W = .ok (.tuple #[]) W' ∧ SetG W' b n (fun q => !decide (q = p) && f q) ∧ W.grownBy W' (some b) := by
  obtain ⟨D, ho, ha⟩ := h
  obtain ⟨W', hr, ho', ht⟩ := ho.drop keyed Try.underlying123 (keyOf_mk hp) ty
  refine ⟨W', hr, ⟨_, ho', fun q hq => ?_⟩, ht.grown⟩
  by_cases e : q = p
  · subst e
    rw [has_del_same, atKey_del_same]
    simp
  · have hne : keyP q ≠ keyP p := fun h2 => e (keyP_inj hq hp h2)
    rw [has_del_other hne, atKey_del_other hne]
    simp only [e, decide_false, Bool.not_false, Bool.true_and]
    exact ha q hq

set_option maxRecDepth 100000 in
/-- What a range over the map has collected so far. -/
def CollP (D : DataW Unit) (left : Lit → Bool) (ss : List (Int × Int)) : Prop := ss.Nodup ∧ ∀ p, p ∈ ss ↔ Wf2 p ∧ has D (keyP p) = true ∧ left (keyP p) = false
set_option maxRecDepth 100000 in
theorem CollP.start (D : DataW Unit) : CollP D (has D) [] := ⟨List.nodup_nil, fun p => by simp⟩
set_option maxRecDepth 100000 in
theorem CollP.step {D : DataW Unit} {left : Lit → Bool} {ss : List (Int × Int)} (h : CollP D left ss) {x : Int × Int} (hx : Wf2 x) (hl : left (keyP x) = true) {y : DataW Unit} (hat : ∀ zd, D.atKey (keyP x) zd = y) : CollP D (fun z => left z && !z.sameKey (keyP x)) (ss ++ [x]) := by
  have hn : x ∉ ss := fun hm => by
    have := ((h.2 x).1 hm).2.2
    rw [hl] at this
    cases this
  refine ⟨List.nodup_append.2 ⟨h.1, by simp, fun a ha b hb => by simp at hb; subst hb; exact fun e => hn (e ▸ ha)⟩, fun p => ?_⟩
  rw [List.mem_append, h.2 p]
  by_cases e : p = x
  · subst e
    have hh : has D (keyP p) = true := has_true_of_atKey hat
    simp [hx, hh, WideAt.sameKey_self (keyP_lit p)]
  · constructor
    · rintro (⟨h1, h2, h3⟩ | h1)
      · exact ⟨h1, h2, by show (left (keyP p) && _) = false; rw [h3]; rfl⟩
      · simp at h1; exact absurd h1 e
    · rintro ⟨h1, h2, h3⟩
      refine .inl ⟨h1, h2, ?_⟩
      have hne : keyP p ≠ keyP x := fun h4 => e (keyP_inj h1 hx h4)
      have h4 : (left (keyP p) && !(keyP p).sameKey (keyP x)) = false := h3
      rw [sameKey_ne hne] at h4
      simpa using h4

end Go.Proofs.Ythcchnaoenjhlaa
