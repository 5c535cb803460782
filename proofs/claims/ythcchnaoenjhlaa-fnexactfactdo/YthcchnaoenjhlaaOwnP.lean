/- A slice of blocks (pairs of ints): what it reads as, and what a call owns. -/
import Derived.Test.YthcchnaoenjhlaaBase
import Derived.Maps.AppendAt
namespace Go.Proofs.Ythcchnaoenjhlaa
open Go.RowKit

/-- The cells of a list of pairs, one pair behind the other. -/
def flatP (ps : List (Int × Int)) : List Value := ps.flatMap fun p => [.int .i64 p.1, .int .i64 p.2]
/-- The first and the second number of the pair at i. -/
def pa (ps : List (Int × Int)) (i : Nat) : Int := (ps[i]?.getD (0, 0)).1
def pb (ps : List (Int × Int)) (i : Nat) : Int := (ps[i]?.getD (0, 0)).2

theorem flatP_nil : flatP [] = [] := rfl
theorem flatP_cons (p : Int × Int) (ps : List (Int × Int)) : flatP (p :: ps) = .int .i64 p.1 :: .int .i64 p.2 :: flatP ps := rfl
theorem flatP_app (ps qs : List (Int × Int)) : flatP (ps ++ qs) = flatP ps ++ flatP qs := by simp [flatP]
theorem flatP_len : ∀ ps : List (Int × Int), (flatP ps).length = ps.length * 2
  | [] => rfl
  | p :: ps => by rw [flatP_cons]; simp [flatP_len ps]; omega
theorem flatP_even : ∀ (ps : List (Int × Int)) (i : Nat), i < ps.length → (flatP ps)[i * 2]? = some (.int .i64 (pa ps i))
  | [], i, h => by simp at h
  | p :: ps, 0, _ => by simp [flatP_cons, pa]
  | p :: ps, i + 1, h => by
    have := flatP_even ps i (by simpa using h)
    rw [flatP_cons, show (i + 1) * 2 = i * 2 + 1 + 1 by omega]
    simpa [pa] using this
theorem flatP_odd : ∀ (ps : List (Int × Int)) (i : Nat), i < ps.length → (flatP ps)[i * 2 + 1]? = some (.int .i64 (pb ps i))
  | [], i, h => by simp at h
  | p :: ps, 0, _ => by simp [flatP_cons, pb]
  | p :: ps, i + 1, h => by
    have := flatP_odd ps i (by simpa using h)
    rw [flatP_cons, show (i + 1) * 2 + 1 = i * 2 + 1 + 1 + 1 by omega]
    simpa [pb] using this
theorem flatP_set1 : ∀ (ps : List (Int × Int)) (i : Nat) (x : Int), i < ps.length → (flatP ps).set (i * 2) (.int .i64 x) = flatP (ps.set i (x, pb ps i))
  | [], i, _, h => by simp at h
  | p :: ps, 0, x, _ => by simp [flatP_cons, pb]
  | p :: ps, i + 1, x, h => by
    have := flatP_set1 ps i x (by simpa using h)
    rw [flatP_cons, show (i + 1) * 2 = i * 2 + 1 + 1 by omega]
    simp only [List.set_cons_succ, flatP_cons, this]
    rfl
theorem flatP_set2 : ∀ (ps : List (Int × Int)) (i : Nat) (x : Int), i < ps.length → (flatP ps).set (i * 2 + 1) (.int .i64 x) = flatP (ps.set i (pa ps i, x))
  | [], i, _, h => by simp at h
  | p :: ps, 0, x, _ => by simp [flatP_cons, pa]
  | p :: ps, i + 1, x, h => by
    have := flatP_set2 ps i x (by simpa using h)
    rw [flatP_cons, show (i + 1) * 2 + 1 = i * 2 + 1 + 1 + 1 by omega]
    simp only [List.set_cons_succ, flatP_cons, this]
    rfl
theorem flatP_inj : ∀ {ps qs : List (Int × Int)}, flatP ps = flatP qs → ps = qs
  | [], [], _ => rfl
  | [], q :: qs, h => by simp [flatP] at h
  | p :: ps, [], h => by simp [flatP] at h
  | p :: ps, q :: qs, h => by
    rw [flatP_cons, flatP_cons] at h
    injection h with h1 h2
    injection h2 with h2 h3
    injection h1 with _ h1
    injection h2 with _ h2
    rw [flatP_inj h3, Prod.ext h1 h2]
theorem pair_at {ps : List (Int × Int)} {i : Nat} (h : i < ps.length) : ps[i] = (pa ps i, pb ps i) := by simp [pa, pb, h]
theorem take_succ_p {ps : List (Int × Int)} {i : Nat} (h : i < ps.length) : ps.take (i + 1) = ps.take i ++ [(pa ps i, pb ps i)] := by
  rw [List.take_succ_eq_append_getElem h, pair_at h]
theorem drop_p {ps : List (Int × Int)} {i : Nat} (h : i < ps.length) : ps.drop i = (pa ps i, pb ps i) :: ps.drop (i + 1) := by
  rw [List.drop_eq_getElem_cons h, pair_at h]

/-- Every number of the list is an int. -/
def WfP (ps : List (Int × Int)) : Prop := ∀ p ∈ ps, (-9223372036854775808 ≤ p.1 ∧ p.1 < 9223372036854775808) ∧ (-9223372036854775808 ≤ p.2 ∧ p.2 < 9223372036854775808)
theorem WfP.at {ps : List (Int × Int)} (h : WfP ps) (i : Nat) : (-9223372036854775808 ≤ pa ps i ∧ pa ps i < 9223372036854775808) ∧ (-9223372036854775808 ≤ pb ps i ∧ pb ps i < 9223372036854775808) := by
  by_cases hi : i < ps.length
  · have := h _ (List.getElem_mem hi)
    rw [pair_at hi] at this
    exact this
  · simp [pa, pb, List.getElem?_eq_none (Nat.le_of_not_lt hi)]

/-- The slice at A, of n blocks, reads as the pairs ps, and lies below block B. -/
def RdP (w : World) (B : Nat) (A : Option Addr) (n : Nat) (ps : List (Int × Int)) : Prop :=
  ps.length = n ∧ (0 < n → ∃ g o, A = some ⟨g, o, none⟩ ∧ g < B ∧ ∀ i, i < n → w.cell? ⟨g, o + i * 2, none⟩ = some (.int .i64 (pa ps i)) ∧ w.cell? ⟨g, o + i * 2 + 1, none⟩ = some (.int .i64 (pb ps i)))
/-- The slice at A, of n blocks and capacity c, is the call's own and holds the pairs ps. -/
def OwnP (w : World) (b0 : Nat) (A : Option Addr) (n c : Nat) (ps : List (Int × Int)) : Prop := w.ownsRow b0 71 2 (.slice A n c) n (flatP ps)

section
variable {w w' : World} {b0 B B' n c : Nat} {A : Option Addr} {ps : List (Int × Int)}
theorem RdP.zero : RdP w B A 0 [] := ⟨rfl, fun h => absurd h (by omega)⟩
theorem RdP.keep (h : RdP w B A n ps) (hk : ∀ p : Addr, p.block < B → w'.cell? p = w.cell? p) : RdP w' B A n ps :=
  ⟨h.1, fun hn => by
    obtain ⟨g, o, e, hg, hc⟩ := h.2 hn
    exact ⟨g, o, e, hg, fun i hi => ⟨(hk ⟨g, o + i * 2, none⟩ hg).trans (hc i hi).1, (hk ⟨g, o + i * 2 + 1, none⟩ hg).trans (hc i hi).2⟩⟩⟩
theorem RdP.more (h : RdP w B A n ps) (hB : B ≤ B') : RdP w B' A n ps :=
  ⟨h.1, fun hn => by
    obtain ⟨g, o, e, hg, hc⟩ := h.2 hn
    exact ⟨g, o, e, by omega, hc⟩⟩
theorem RdP.below (h : RdP w B A n ps) (hb : Below B w w') : RdP w' B A n ps := h.keep fun _ hp => hb.cell hp
theorem RdP.alloc (h : RdP w B A n ps) (hB : B ≤ w.heap.size) (o : Obj) : RdP (w.alloc o) B A n ps := h.keep fun p hp => World.cell?_alloc_lt w o p (by omega)
theorem OwnP.len (h : OwnP w b0 A n c ps) : ps.length = n := by
  have := h.1
  rw [flatP_len] at this
  omega
theorem OwnP.zero : OwnP w b0 none 0 0 [] := World.ownsRow_nil _ _ _ _
theorem OwnP.form (h : OwnP w b0 A n c ps) (hn : 0 < n) : ∃ g, A = some ⟨g, 0, none⟩ ∧ b0 ≤ g ∧ g < w.heap.size := by
  rcases h.2 with ⟨hv, h0⟩ | ⟨g, cap, cur, hv, hb, hh, _⟩
  · omega
  · exact ⟨g, by injection hv, hb, (Array.getElem?_eq_some_iff.1 hh).1⟩
theorem OwnP.cell1 (h : OwnP w b0 A n c ps) {g i : Nat} (hA : A = some ⟨g, 0, none⟩) (hi : i < n) : w.cell? ⟨g, i * 2, none⟩ = some (.int .i64 (pa ps i)) := by
  subst hA
  rw [World.ownsRow.cellAt h (i * 2) (by omega), flatP_even ps i (by rw [h.len]; exact hi)]
theorem OwnP.cell2 (h : OwnP w b0 A n c ps) {g i : Nat} (hA : A = some ⟨g, 0, none⟩) (hi : i < n) : w.cell? ⟨g, i * 2 + 1, none⟩ = some (.int .i64 (pb ps i)) := by
  subst hA
  rw [World.ownsRow.cellAt h (i * 2 + 1) (by omega), flatP_odd ps i (by rw [h.len]; exact hi)]
theorem OwnP.free (h : OwnP w b0 A n c ps) {g : Nat} (hA : A = some ⟨g, 0, none⟩) (i : Nat) : w.frozen? ⟨g, i, none⟩ = false := by
  subst hA
  exact World.ownsRow.frozenAt h i
theorem OwnP.rd (h : OwnP w b0 A n c ps) : RdP w w.heap.size A n ps :=
  ⟨h.len, fun hn => by
    obtain ⟨g, hA, _, hlt⟩ := h.form hn
    exact ⟨g, 0, hA, hlt, fun i hi => by rw [Nat.zero_add]; exact ⟨h.cell1 hA hi, h.cell2 hA hi⟩⟩⟩
theorem OwnP.below (h : OwnP w b0 A n c ps) (hb : Below w.heap.size w w') : OwnP w' b0 A n c ps :=
  World.ownsRow.kept h (row := none) ⟨hb.os, hb.tape, hb.output, hb.size, fun k hk _ => hb.block k hk⟩ (by cases hv : (Value.slice A n c).ownBlock <;> simp)
theorem OwnP.from_ {b1 : Nat} (h : OwnP w b0 A n c ps) (hb : b1 ≤ b0) : OwnP w b1 A n c ps := by
  refine ⟨h.1, ?_⟩
  rcases h.2 with h2 | ⟨g, cap, cur, hv, hg, r⟩
  · exact .inl h2
  · exact .inr ⟨g, cap, cur, hv, by omega, r⟩
theorem OwnP.store1 {g i : Nat} {x : Int} (h : OwnP w b0 (some ⟨g, 0, none⟩) n c ps) (hi : i < n) : OwnP (w.setCell ⟨g, i * 2, none⟩ (.int .i64 x)) b0 (some ⟨g, 0, none⟩) n c (ps.set i (x, pb ps i)) := by
  have h1 := World.ownsRow.stored h (i * 2) (.int .i64 x)
  rw [flatP_set1 ps i x (by rw [h.len]; exact hi)] at h1
  exact h1.1
theorem OwnP.store2 {g i : Nat} {x : Int} (h : OwnP w b0 (some ⟨g, 0, none⟩) n c ps) (hi : i < n) : OwnP (w.setCell ⟨g, i * 2 + 1, none⟩ (.int .i64 x)) b0 (some ⟨g, 0, none⟩) n c (ps.set i (pa ps i, x)) := by
  have h1 := World.ownsRow.stored h (i * 2 + 1) (.int .i64 x)
  rw [flatP_set2 ps i x (by rw [h.len]; exact hi)] at h1
  exact h1.1
/-- A whole block stored at i. -/
theorem OwnP.store {g i : Nat} {x y : Int} (h : OwnP w b0 (some ⟨g, 0, none⟩) n c ps) (hi : i < n) : OwnP ((w.setCell ⟨g, i * 2, none⟩ (.int .i64 x)).setCell ⟨g, i * 2 + 1, none⟩ (.int .i64 y)) b0 (some ⟨g, 0, none⟩) n c (ps.set i (x, y)) := by
  have h1 := (h.store1 (x := x) hi).store2 (x := y) hi
  have hl : i < ps.length := by rw [h.len]; exact hi
  have e : pa (ps.set i (x, pb ps i)) i = x := by simp [pa, hl]
  rw [e, List.set_set] at h1
  exact h1
theorem OwnP.low {p : Addr} (h : OwnP w b0 A n c ps) (hp : p.block < b0) (u : Value) : OwnP (w.setCell p u) b0 A n c ps := ownsRow_setCell_below h hp u
theorem OwnP.alloc (h : OwnP w b0 A n c ps) (o : Obj) : OwnP (w.alloc o) b0 A n c ps := World.ownsRow.alloc h o
theorem OwnP.drew (h : OwnP w b0 A n c ps) : OwnP w.drew b0 A n c ps := h
theorem OwnP.drewN (h : OwnP w b0 A n c ps) (k : Nat) : OwnP (w.drewN k) b0 A n c ps := h
theorem OwnP.far (h : OwnP w b0 A n c ps) {row : Option Nat} (hg : w.grownBy w' row) (hne : ∀ g, (Value.slice A n c).ownBlock = some g → row ≠ some g) : OwnP w' b0 A n c ps := by
  refine World.ownsRow.kept h hg ?_
  cases hv : (Value.slice A n c).ownBlock with
  | none => exact .inl rfl
  | some g => exact .inr (fun e => hne g hv e.symm)
theorem OwnP.range (h : OwnP w b0 A n c ps) : ∀ g, (Value.slice A n c).ownBlock = some g → b0 ≤ g ∧ g < w.heap.size := World.ownsRow.lt h
theorem OwnP.shape {v : Value} (h : w.ownsRow b0 71 2 v n (flatP ps)) : ∃ A c, v = .slice A n c ∧ OwnP w b0 A n c ps := by
  rcases h.2 with ⟨rfl, rfl⟩ | ⟨g, cap, cur, rfl, r⟩
  · exact ⟨_, _, rfl, h⟩
  · exact ⟨_, _, rfl, h⟩
end

theorem info_blk : (Try.prog.info? 71).map (fun i => (i.zero, i.size, i.bytes)) = some (some (.agg #[.int .i64 0, .int .i64 0]), 2, 16) := by kernel_rfl

end Go.Proofs.Ythcchnaoenjhlaa
