/- A slice of integers of whatever kind that the call owns: what it holds, and how that is carried on. -/
import Derived.Test.YtibkjnfbpgohbaaBase
import Derived.Maps.AppendAt
namespace Go.Proofs.Ytibkjnfbpgohbaa
open Go.RowKit

/-- The slice at A, of n elements of type e (integers of kind kd) and capacity c, is the call's own and holds the numbers zs. -/
def OwnK (e : TypeId) (kd : IntKind) (w : World) (b0 : Nat) (A : Option Addr) (n c : Nat) (zs : List Int) : Prop := w.ownsRow b0 e 1 (.slice A n c) n (zs.map (Value.int kd))
/-- The slice at A, of n integers of kind kd, reads as zs and lies below block B. -/
def RdK (kd : IntKind) (w : World) (B : Nat) (A : Option Addr) (n : Nat) (zs : List Int) : Prop :=
  zs.length = n ∧ (0 < n → ∃ g o, A = some ⟨g, o, none⟩ ∧ g < B ∧ ∀ i, i < n → w.cell? ⟨g, o + i, none⟩ = some (.int kd (zs[i]?.getD 0)))

section
variable {e : TypeId} {kd : IntKind} {w w' : World} {b0 B n c : Nat} {A : Option Addr} {zs : List Int}
theorem RdK.zero : RdK kd w B A 0 [] := ⟨rfl, fun h => absurd h (by omega)⟩
theorem RdK.keep (h : RdK kd w B A n zs) (hk : ∀ p : Addr, p.block < B → w'.cell? p = w.cell? p) : RdK kd w' B A n zs :=
  ⟨h.1, fun hn => by
    obtain ⟨g, o, e, hg, hc⟩ := h.2 hn
    exact ⟨g, o, e, hg, fun i hi => (hk ⟨g, o + i, none⟩ hg).trans (hc i hi)⟩⟩
theorem RdK.below (h : RdK kd w B A n zs) (hb : Below B w w') : RdK kd w' B A n zs := h.keep fun _ hp => hb.cell hp
theorem RdK.alloc (h : RdK kd w B A n zs) (hB : B ≤ w.heap.size) (o : Obj) : RdK kd (w.alloc o) B A n zs := h.keep fun p hp => World.cell?_alloc_lt w o p (by omega)
theorem OwnK.len (h : OwnK e kd w b0 A n c zs) : zs.length = n := by simpa using h.1
theorem OwnK.form (h : OwnK e kd w b0 A n c zs) (hn : 0 < n) : ∃ g, A = some ⟨g, 0, none⟩ ∧ b0 ≤ g ∧ g < w.heap.size := by
  rcases h.2 with ⟨hv, h0⟩ | ⟨g, cap, cur, hv, hb, hh, _⟩
  · omega
  · exact ⟨g, by injection hv, hb, (Array.getElem?_eq_some_iff.1 hh).1⟩
theorem OwnK.cell (h : OwnK e kd w b0 A n c zs) {g i : Nat} (hA : A = some ⟨g, 0, none⟩) (hi : i < n) : w.cell? ⟨g, i, none⟩ = some (.int kd (zs[i]?.getD 0)) := by
  subst hA
  rw [World.ownsRow.cellAt h i (by omega)]
  have hl : i < zs.length := by rw [h.len]; exact hi
  simp [hl]
theorem OwnK.free (h : OwnK e kd w b0 A n c zs) {g : Nat} (hA : A = some ⟨g, 0, none⟩) (i : Nat) : w.frozen? ⟨g, i, none⟩ = false := by
  subst hA
  exact World.ownsRow.frozenAt h i
theorem OwnK.rd (h : OwnK e kd w b0 A n c zs) : RdK kd w w.heap.size A n zs :=
  ⟨h.len, fun hn => by
    obtain ⟨g, hA, _, hlt⟩ := h.form hn
    exact ⟨g, 0, hA, hlt, fun i hi => by rw [Nat.zero_add]; exact h.cell hA hi⟩⟩
theorem OwnK.below (h : OwnK e kd w b0 A n c zs) (hb : Below w.heap.size w w') : OwnK e kd w' b0 A n c zs :=
  World.ownsRow.kept h (row := none) ⟨hb.os, hb.tape, hb.output, hb.size, fun k hk _ => hb.block k hk⟩ (by cases hv : (Value.slice A n c).ownBlock <;> simp)
theorem OwnK.from_ {b1 : Nat} (h : OwnK e kd w b0 A n c zs) (hb : b1 ≤ b0) : OwnK e kd w b1 A n c zs := by
  refine ⟨h.1, ?_⟩
  rcases h.2 with h2 | ⟨g, cap, cur, hv, hg, r⟩
  · exact .inl h2
  · exact .inr ⟨g, cap, cur, hv, by omega, r⟩
theorem OwnK.store {g i : Nat} {x : Int} (h : OwnK e kd w b0 (some ⟨g, 0, none⟩) n c zs) : OwnK e kd (w.setCell ⟨g, i, none⟩ (.int kd x)) b0 (some ⟨g, 0, none⟩) n c (zs.set i x) := by
  have h1 := World.ownsRow.stored h i (.int kd x)
  rw [← List.map_set] at h1
  exact h1.1
theorem OwnK.low {p : Addr} (h : OwnK e kd w b0 A n c zs) (hp : p.block < b0) (u : Value) : OwnK e kd (w.setCell p u) b0 A n c zs := ownsRow_setCell_below h hp u
theorem OwnK.alloc (h : OwnK e kd w b0 A n c zs) (o : Obj) : OwnK e kd (w.alloc o) b0 A n c zs := World.ownsRow.alloc h o
theorem OwnK.far (h : OwnK e kd w b0 A n c zs) {row : Option Nat} (hg : w.grownBy w' row) (hne : ∀ g, (Value.slice A n c).ownBlock = some g → row ≠ some g) : OwnK e kd w' b0 A n c zs := by
  refine World.ownsRow.kept h hg ?_
  cases hv : (Value.slice A n c).ownBlock with
  | none => exact .inl rfl
  | some g => exact .inr (fun e => hne g hv e.symm)
theorem OwnK.range (h : OwnK e kd w b0 A n c zs) : ∀ g, (Value.slice A n c).ownBlock = some g → b0 ≤ g ∧ g < w.heap.size := World.ownsRow.lt h
theorem OwnK.shape {v : Value} (h : w.ownsRow b0 e 1 v n (zs.map (Value.int kd))) : ∃ A c, v = .slice A n c ∧ OwnK e kd w b0 A n c zs := by
  rcases h.2 with ⟨rfl, rfl⟩ | ⟨g, cap, cur, rfl, r⟩
  · exact ⟨_, _, rfl, h⟩
  · exact ⟨_, _, rfl, h⟩
end

theorem info_int : (Try.prog.info? 3).map (fun i => (i.zero, i.size, i.bytes)) = some (some (.int .i64 0), 1, 8) := by kernel_rfl

/-- 'append(s, x)' onto a slice of ints that the call owns: x was laid in a block of its own first. -/
theorem wpList_push_int {w : World} {ops : Array Oper} {rest : List Oper} {o : Oper} {a : Act} {Q : Exit → Act → World → Prop} (hgd : o.guard = none) (s x : Operand)
    (ho : o.op = .call { callee := .builtin .append, args := #[s, x], argTypes := #[31, 31] })
    (b0 n c : Nat) (A : Option Addr) (zs : List Int) (z : Int) (hs : a.eval s = .slice A n c) (hx : a.eval x = .slice (some ⟨w.heap.size, 0, none⟩) 1 1)
    (hO : OwnK 3 .i64 w b0 A n c zs) (hn : n ≤ 1000000) (hb : b0 ≤ w.heap.size)
    (h : ∀ A' c' w', Hid (OwnK 3 .i64 w' b0 A' (n + 1) c' (zs ++ [z])) → Hid (Below b0 w w') → wpList Try.prog ops Q rest (a.put o.dst (.slice A' (n + 1) c')) w') :
    wpList Try.prog ops Q (o :: rest) a (w.alloc (.cells #[.int .i64 z] 3)) := by
  obtain ⟨i0, hi, hz0, hz1, hz2⟩ := info_parts info_int
  refine wpList_append_own_at _ hgd s x 31 ho b0 3 i0 (.int .i64 0) 1 8 Try.underlying31 hi hz0 hz1 hz2 rfl (by omega) (.slice A n c) n _ hs (hO.alloc _) ⟨w.heap.size, 0, none⟩ 1 1 [.int .i64 z] hx rfl ?_ (by simp [Value.oneCell']) (by unfold maxLen; omega) (by omega) (by simp; omega) ?_
  · intro j u hj
    match j, hj with
    | 0, hj => simp at hj; subst hj; simp [Addr.add]
  · intro v' w' h1 h2 _ _
    have h3 : w'.ownsRow b0 3 1 v' (n + 1) ((zs ++ [z]).map (Value.int .i64)) := by simpa using h1
    obtain ⟨A', c', rfl, h4⟩ := OwnK.shape h3
    exact h A' c' w' h4 (((Below.refl _ _).alloc hb _).grown h2 (by simp; omega) (fun k hk => (World.ownsRow.lt hO k hk).1))

end Go.Proofs.Ytibkjnfbpgohbaa
