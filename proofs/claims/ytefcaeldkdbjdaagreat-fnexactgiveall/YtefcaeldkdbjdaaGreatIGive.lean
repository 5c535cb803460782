/- Quiet of the program and of the model, over the contract of MachOk. -/
/- A slice of blocks (pairs of ints): what it reads as, and what a call owns. -/
/- hasWarp and GiveAll of the program. -/
import Derived.Test.YtefcaeldkdbjdaaGreatOwnM
import Derived.Test.YtefcaeldkdbjdaaGreatCopyI
import Derived.LoopN
import Derived.Test.YtefcaeldkdbjdaaGreatBase
import Derived.Maps.AppendAt
import Derived.Test.YtefcaeldkdbjdaaGreatSLow
namespace Go.Proofs.YtefcaeldkdbjdaaGreat
open Go.RowKit
set_option linter.unusedVariables false

/-- Every warp of the list is idle. -/
def IdleAll (m : Nat) (V : Nat → WV) : Prop := ∀ i, i < m → (V i).kd = 0
instance (m : Nat) (V : Nat → WV) : Decidable (IdleAll m V) := inferInstanceAs (Decidable (∀ i, i < m → _))

end Go.Proofs.YtefcaeldkdbjdaaGreat

namespace Go.Proofs.YtefcaeldkdbjdaaGreat
open Go.RowKit

/-- The cells of a list of pairs, one pair behind the other. -/
def flatP (ps : List (Int × Int)) : List Value := ps.flatMap fun p => [.int .i64 p.1, .int .i64 p.2]
/-- The first and the second number of the pair at i. -/
def pa (ps : List (Int × Int)) (i : Nat) : Int := (ps[i]?.getD (0, 0)).1
def pb (ps : List (Int × Int)) (i : Nat) : Int := (ps[i]?.getD (0, 0)).2

theorem flatP_nil : flatP [] = [] := rfl
theorem flatP_cons (p : Int × Int) (ps : List (Int × Int)) : flatP (p :: ps) = .int .i64 p.1 :: .int .i64 p.2 :: flatP ps := rfl
theorem flatP_app (ps qs : List (Int × Int)) : flatP (ps ++ qs) = flatP ps ++ flatP qs := by simp [flatP]
theorem flatP_len : ∀ ps : List (Int × Int), (flatP ps).length = ps.length * 2
  | [] => rfl
  | p :: ps => by rw [flatP_cons]; simp [flatP_len ps]; omega
theorem flatP_even : ∀ (ps : List (Int × Int)) (i : Nat), i < ps.length → (flatP ps)[i * 2]? = some (.int .i64 (pa ps i))
  | [], i, h => by simp at h
  | p :: ps, 0, _ => by simp [flatP_cons, pa]
  | p :: ps, i + 1, h => by
    have := flatP_even ps i (by simpa using h)
    rw [flatP_cons, show (i + 1) * 2 = i * 2 + 1 + 1 by omega]
    simpa [pa] using this
theorem flatP_odd : ∀ (ps : List (Int × Int)) (i : Nat), i < ps.length → (flatP ps)[i * 2 + 1]? = some (.int .i64 (pb ps i))
  | [], i, h => by simp at h
  | p :: ps, 0, _ => by simp [flatP_cons, pb]
  | p :: ps, i + 1, h => by
    have := flatP_odd ps i (by simpa using h)
    rw [flatP_cons, show (i + 1) * 2 + 1 = i * 2 + 1 + 1 + 1 by omega]
    simpa [pb] using this
theorem flatP_set1 : ∀ (ps : List (Int × Int)) (i : Nat) (x : Int), i < ps.length → (flatP ps).set (i * 2) (.int .i64 x) = flatP (ps.set i (x, pb ps i))
  | [], i, _, h => by simp at h
  | p :: ps, 0, x, _ => by simp [flatP_cons, pb]
  | p :: ps, i + 1, x, h => by
    have := flatP_set1 ps i x (by simpa using h)
    rw [flatP_cons, show (i + 1) * 2 = i * 2 + 1 + 1 by omega]
    simp only [List.set_cons_succ, flatP_cons, this]
    rfl
theorem flatP_set2 : ∀ (ps : List (Int × Int)) (i : Nat) (x : Int), i < ps.length → (flatP ps).set (i * 2 + 1) (.int .i64 x) = flatP (ps.set i (pa ps i, x))
  | [], i, _, h => by simp at h
  | p :: ps, 0, x, _ => by simp [flatP_cons, pa]
  | p :: ps, i + 1, x, h => by
    have := flatP_set2 ps i x (by simpa using h)
    rw [flatP_cons, show (i + 1) * 2 + 1 = i * 2 + 1 + 1 + 1 by omega]
    simp only [List.set_cons_succ, flatP_cons, this]
    rfl
theorem flatP_inj : ∀ {ps qs : List (Int × Int)}, flatP ps = flatP qs → ps = qs
  | [], [], _ => rfl
  | [], q :: qs, h => by simp [flatP] at h
  | p :: ps, [], h => by simp [flatP] at h
  | p :: ps, q :: qs, h => by
    rw [flatP_cons, flatP_cons] at h
    injection h with h1 h2
    injection h2 with h2 h3
    injection h1 with _ h1
    injection h2 with _ h2
    rw [flatP_inj h3, Prod.ext h1 h2]
theorem pair_at {ps : List (Int × Int)} {i : Nat} (h : i < ps.length) : ps[i] = (pa ps i, pb ps i) := by simp [pa, pb, h]
theorem take_succ_p {ps : List (Int × Int)} {i : Nat} (h : i < ps.length) : ps.take (i + 1) = ps.take i ++ [(pa ps i, pb ps i)] := by
  rw [List.take_succ_eq_append_getElem h, pair_at h]
theorem drop_p {ps : List (Int × Int)} {i : Nat} (h : i < ps.length) : ps.drop i = (pa ps i, pb ps i) :: ps.drop (i + 1) := by
  rw [List.drop_eq_getElem_cons h, pair_at h]

/-- Every number of the list is an int. -/
def WfP (ps : List (Int × Int)) : Prop := ∀ p ∈ ps, (-9223372036854775808 ≤ p.1 ∧ p.1 < 9223372036854775808) ∧ (-9223372036854775808 ≤ p.2 ∧ p.2 < 9223372036854775808)
theorem WfP.at {ps : List (Int × Int)} (h : WfP ps) (i : Nat) : (-9223372036854775808 ≤ pa ps i ∧ pa ps i < 9223372036854775808) ∧ (-9223372036854775808 ≤ pb ps i ∧ pb ps i < 9223372036854775808) := by
  by_cases hi : i < ps.length
  · have := h _ (List.getElem_mem hi)
    rw [pair_at hi] at this
    exact this
  · simp [pa, pb, List.getElem?_eq_none (Nat.le_of_not_lt hi)]

/-- The slice at A, of n blocks, reads as the pairs ps, and lies below block B. -/
def RdP (w : World) (B : Nat) (A : Option Addr) (n : Nat) (ps : List (Int × Int)) : Prop :=
  ps.length = n ∧ (0 < n → ∃ g o, A = some ⟨g, o, none⟩ ∧ g < B ∧ ∀ i, i < n → w.cell? ⟨g, o + i * 2, none⟩ = some (.int .i64 (pa ps i)) ∧ w.cell? ⟨g, o + i * 2 + 1, none⟩ = some (.int .i64 (pb ps i)))
/-- The slice at A, of n blocks and capacity c, is the call's own and holds the pairs ps. -/
def OwnP (w : World) (b0 : Nat) (A : Option Addr) (n c : Nat) (ps : List (Int × Int)) : Prop := w.ownsRow b0 55 2 (.slice A n c) n (flatP ps)

section
variable {w w' : World} {b0 B B' n c : Nat} {A : Option Addr} {ps : List (Int × Int)}
theorem RdP.zero : RdP w B A 0 [] := ⟨rfl, fun h => absurd h (by omega)⟩
theorem RdP.keep (h : RdP w B A n ps) (hk : ∀ p : Addr, p.block < B → w'.cell? p = w.cell? p) : RdP w' B A n ps :=
  ⟨h.1, fun hn => by
    obtain ⟨g, o, e, hg, hc⟩ := h.2 hn
    exact ⟨g, o, e, hg, fun i hi => ⟨(hk ⟨g, o + i * 2, none⟩ hg).trans (hc i hi).1, (hk ⟨g, o + i * 2 + 1, none⟩ hg).trans (hc i hi).2⟩⟩⟩
theorem RdP.more (h : RdP w B A n ps) (hB : B ≤ B') : RdP w B' A n ps :=
  ⟨h.1, fun hn => by
    obtain ⟨g, o, e, hg, hc⟩ := h.2 hn
    exact ⟨g, o, e, by omega, hc⟩⟩
theorem RdP.below (h : RdP w B A n ps) (hb : Below B w w') : RdP w' B A n ps := h.keep fun _ hp => hb.cell hp
theorem RdP.alloc (h : RdP w B A n ps) (hB : B ≤ w.heap.size) (o : Obj) : RdP (w.alloc o) B A n ps := h.keep fun p hp => World.cell?_alloc_lt w o p (by omega)
theorem OwnP.len (h : OwnP w b0 A n c ps) : ps.length = n := by
  have := h.1
  rw [flatP_len] at this
  omega
theorem OwnP.zero : OwnP w b0 none 0 0 [] := World.ownsRow_nil _ _ _ _
theorem OwnP.form (h : OwnP w b0 A n c ps) (hn : 0 < n) : ∃ g, A = some ⟨g, 0, none⟩ ∧ b0 ≤ g ∧ g < w.heap.size := by
  rcases h.2 with ⟨hv, h0⟩ | ⟨g, cap, cur, hv, hb, hh, _⟩
  · omega
  · exact ⟨g, by injection hv, hb, (Array.getElem?_eq_some_iff.1 hh).1⟩
theorem OwnP.cell1 (h : OwnP w b0 A n c ps) {g i : Nat} (hA : A = some ⟨g, 0, none⟩) (hi : i < n) : w.cell? ⟨g, i * 2, none⟩ = some (.int .i64 (pa ps i)) := by
  subst hA
  rw [World.ownsRow.cellAt h (i * 2) (by omega), flatP_even ps i (by rw [h.len]; exact hi)]
theorem OwnP.cell2 (h : OwnP w b0 A n c ps) {g i : Nat} (hA : A = some ⟨g, 0, none⟩) (hi : i < n) : w.cell? ⟨g, i * 2 + 1, none⟩ = some (.int .i64 (pb ps i)) := by
  subst hA
  rw [World.ownsRow.cellAt h (i * 2 + 1) (by omega), flatP_odd ps i (by rw [h.len]; exact hi)]
theorem OwnP.free (h : OwnP w b0 A n c ps) {g : Nat} (hA : A = some ⟨g, 0, none⟩) (i : Nat) : w.frozen? ⟨g, i, none⟩ = false := by
  subst hA
  exact World.ownsRow.frozenAt h i
theorem OwnP.rd (h : OwnP w b0 A n c ps) : RdP w w.heap.size A n ps :=
  ⟨h.len, fun hn => by
    obtain ⟨g, hA, _, hlt⟩ := h.form hn
    exact ⟨g, 0, hA, hlt, fun i hi => by rw [Nat.zero_add]; exact ⟨h.cell1 hA hi, h.cell2 hA hi⟩⟩⟩
theorem OwnP.below (h : OwnP w b0 A n c ps) (hb : Below w.heap.size w w') : OwnP w' b0 A n c ps :=
  World.ownsRow.kept h (row := none) ⟨hb.os, hb.tape, hb.output, hb.size, fun k hk _ => hb.block k hk⟩ (by cases hv : (Value.slice A n c).ownBlock <;> simp)
theorem OwnP.from_ {b1 : Nat} (h : OwnP w b0 A n c ps) (hb : b1 ≤ b0) : OwnP w b1 A n c ps := by
  refine ⟨h.1, ?_⟩
  rcases h.2 with h2 | ⟨g, cap, cur, hv, hg, r⟩
  · exact .inl h2
  · exact .inr ⟨g, cap, cur, hv, by omega, r⟩
theorem OwnP.store1 {g i : Nat} {x : Int} (h : OwnP w b0 (some ⟨g, 0, none⟩) n c ps) (hi : i < n) : OwnP (w.setCell ⟨g, i * 2, none⟩ (.int .i64 x)) b0 (some ⟨g, 0, none⟩) n c (ps.set i (x, pb ps i)) := by
  have h1 := World.ownsRow.stored h (i * 2) (.int .i64 x)
  rw [flatP_set1 ps i x (by rw [h.len]; exact hi)] at h1
  exact h1.1
theorem OwnP.store2 {g i : Nat} {x : Int} (h : OwnP w b0 (some ⟨g, 0, none⟩) n c ps) (hi : i < n) : OwnP (w.setCell ⟨g, i * 2 + 1, none⟩ (.int .i64 x)) b0 (some ⟨g, 0, none⟩) n c (ps.set i (pa ps i, x)) := by
  have h1 := World.ownsRow.stored h (i * 2 + 1) (.int .i64 x)
  rw [flatP_set2 ps i x (by rw [h.len]; exact hi)] at h1
  exact h1.1
/-- A whole block stored at i. -/
theorem OwnP.store {g i : Nat} {x y : Int} (h : OwnP w b0 (some ⟨g, 0, none⟩) n c ps) (hi : i < n) : OwnP ((w.setCell ⟨g, i * 2, none⟩ (.int .i64 x)).setCell ⟨g, i * 2 + 1, none⟩ (.int .i64 y)) b0 (some ⟨g, 0, none⟩) n c (ps.set i (x, y)) := by
  have h1 := (h.store1 (x := x) hi).store2 (x := y) hi
  have hl : i < ps.length := by rw [h.len]; exact hi
  have e : pa (ps.set i (x, pb ps i)) i = x := by simp [pa, hl]
  rw [e, List.set_set] at h1
  exact h1
theorem OwnP.low {p : Addr} (h : OwnP w b0 A n c ps) (hp : p.block < b0) (u : Value) : OwnP (w.setCell p u) b0 A n c ps := ownsRow_setCell_below h hp u
theorem OwnP.alloc (h : OwnP w b0 A n c ps) (o : Obj) : OwnP (w.alloc o) b0 A n c ps := World.ownsRow.alloc h o
theorem OwnP.drew (h : OwnP w b0 A n c ps) : OwnP w.drew b0 A n c ps := h
theorem OwnP.drewN (h : OwnP w b0 A n c ps) (k : Nat) : OwnP (w.drewN k) b0 A n c ps := h
theorem OwnP.far (h : OwnP w b0 A n c ps) {row : Option Nat} (hg : w.grownBy w' row) (hne : ∀ g, (Value.slice A n c).ownBlock = some g → row ≠ some g) : OwnP w' b0 A n c ps := by
  refine World.ownsRow.kept h hg ?_
  cases hv : (Value.slice A n c).ownBlock with
  | none => exact .inl rfl
  | some g => exact .inr (fun e => hne g hv e.symm)
theorem OwnP.range (h : OwnP w b0 A n c ps) : ∀ g, (Value.slice A n c).ownBlock = some g → b0 ≤ g ∧ g < w.heap.size := World.ownsRow.lt h
theorem OwnP.shape {v : Value} (h : w.ownsRow b0 55 2 v n (flatP ps)) : ∃ A c, v = .slice A n c ∧ OwnP w b0 A n c ps := by
  rcases h.2 with ⟨rfl, rfl⟩ | ⟨g, cap, cur, rfl, r⟩
  · exact ⟨_, _, rfl, h⟩
  · exact ⟨_, _, rfl, h⟩
end

theorem info_blk : (Tryz.prog.info? 55).map (fun i => (i.zero, i.size, i.bytes)) = some (some (.agg #[.int .i64 0, .int .i64 0]), 2, 16) := by kernel_rfl

end Go.Proofs.YtefcaeldkdbjdaaGreat

namespace Go.Proofs.YtefcaeldkdbjdaaGreat
open Go.RowKit
set_option linter.unusedVariables false

/-- Eight numbers: the addresses of the first k blocks, behind them -1. -/
def giveK (ps : List (Int × Int)) : Nat → List Int
  | 0 => List.replicate 8 (-1)
  | k + 1 => (giveK ps k).set k (pa ps k)
theorem giveK_len (ps : List (Int × Int)) : ∀ k, (giveK ps k).length = 8
  | 0 => rfl
  | k + 1 => by simp [giveK, giveK_len ps k]
theorem OwnP.cap {w : World} {b0 n c : Nat} {A : Option Addr} {ps : List (Int × Int)} (h : OwnP w b0 A n c ps) : n ≤ c ∧ c ≤ maxLen := by
  rcases h.2 with ⟨hv, h0⟩ | ⟨g, cap, cur, hv, r⟩
  · injection hv with h1 h2 h3
    unfold maxLen
    omega
  · injection hv with h1 h2 h3
    obtain ⟨_, _, r1, r2, _⟩ := r
    subst h3
    refine ⟨?_, r2⟩
    omega

set_option maxRecDepth 100000 in
set_option maxHeartbeats 1000000 in
theorem hasWarp_of (A : Option Addr) (n c : Nat) (B : Option Addr) (m d : Nat) (i : Int) (b : Bool) (w : World)
    (hM : ∀ W, Below w.heap.size w W → Calls Tryz.prog 40 #[.agg #[.slice A n c, .slice B m d]] W fun e w' => e = .returned (.bool b) ∧ Below W.heap.size W w') :
    Calls Tryz.prog 20 #[.agg #[.slice A n c, .slice B m d], .int .i64 i] w fun e w' => e = .returned (.bool (b && decide (0 ≤ i ∧ i < (m : Int)))) ∧ Below w.heap.size w w' := by
  have HM := Lib.hid hM
  have HB0 := Lib.hid (bel1 w (.cells #[.slice A n c, .slice B m d] 37))
  clear hM
  cases b
  · go_enter Tryz.func20, Tryz.ntmps20
    go_wp2_with fail
    refine (HM.out _ HB0.out).mono ?_
    rintro e w1 ⟨rfl, hb⟩
    have B1 := Lib.hid (HB0.out.trans (hb.mono HB0.out.size))
    clear hb HM HB0
    go_wp2
    go_ret
    exact ⟨rfl, B1.out⟩
  · by_cases h0 : 0 ≤ i
    · by_cases h1 : i < (m : Int)
      · have hr : Hid ((true && decide (0 ≤ i ∧ i < (m : Int))) = true) := by show _ = _; simp [h0, h1]
        have d0 : decide (0 ≤ i) = true := decide_eq_true h0
        have d1 : decide (i < (m : Int)) = true := decide_eq_true h1
        go_enter Tryz.func20, Tryz.ntmps20
        go_wp2_with fail
        refine (HM.out _ HB0.out).mono ?_
        rintro e w1 ⟨rfl, hb⟩
        obtain ⟨hA, hB1, z1⟩ := nw1 hb
        have B1 := Lib.hid hB1
        have a1 := blkc hA 1 rfl
        clear hb hA hB1 HM HB0
        go_wp2
        go_ret
        exact ⟨by rw [hr.out]; rfl, B1.out⟩
      · have hr : Hid ((true && decide (0 ≤ i ∧ i < (m : Int))) = false) := by show _ = _; simp [h0, h1]
        have d0 : decide (0 ≤ i) = true := decide_eq_true h0
        have d1 : decide (i < (m : Int)) = false := decide_eq_false h1
        go_enter Tryz.func20, Tryz.ntmps20
        go_wp2_with fail
        refine (HM.out _ HB0.out).mono ?_
        rintro e w1 ⟨rfl, hb⟩
        obtain ⟨hA, hB1, z1⟩ := nw1 hb
        have B1 := Lib.hid hB1
        have a1 := blkc hA 1 rfl
        clear hb hA hB1 HM HB0
        go_wp2
        go_ret
        exact ⟨by rw [hr.out]; rfl, B1.out⟩
    · have hr : Hid ((true && decide (0 ≤ i ∧ i < (m : Int))) = false) := by show _ = _; simp [h0]
      have d0 : decide (0 ≤ i) = false := decide_eq_false h0
      go_enter Tryz.func20, Tryz.ntmps20
      go_wp2_with fail
      refine (HM.out _ HB0.out).mono ?_
      rintro e w1 ⟨rfl, hb⟩
      have B1 := Lib.hid (HB0.out.trans (hb.mono HB0.out.size))
      clear hb HM HB0
      go_wp2
      go_ret
      exact ⟨by rw [hr.out]; rfl, B1.out⟩

set_option maxRecDepth 100000 in
set_option maxHeartbeats 1000000 in
theorem giveAll_no0 (A : Option Addr) (n c : Nat) (B : Option Addr) (m d : Nat) (i : Int) (w : World)
    (hM : ∀ W, Below w.heap.size w W → Calls Tryz.prog 20 #[.agg #[.slice A n c, .slice B m d], .int .i64 i] W fun e w' => e = .returned (.bool false) ∧ Below W.heap.size W w') :
    Calls Tryz.prog 7 #[.agg #[.slice A n c, .slice B m d], .int .i64 i] w fun e w' => e = .returned (.tuple #[.agg #[.int .i64 0, .slice none 0 0], .bool false]) ∧ Below w.heap.size w w' := by
  have HM := Lib.hid hM
  have HB0 := Lib.hid (bel2 w (.cells #[.slice A n c, .slice B m d] 37) (.cells #[.int .i64 0, .slice none 0 0] 31))
  clear hM
  go_enter Tryz.func7, Tryz.ntmps7
  go_wp2_with fail
  refine (HM.out _ HB0.out).mono ?_
  rintro e w1 ⟨rfl, hb⟩
  obtain ⟨hA, hR, hB1, z1⟩ := nw2 hb
  have B1 := Lib.hid hB1
  have r0 := blkc hR 0 rfl
  have r1 := blkc hR 1 rfl
  have fr := blkf hR
  clear hb hA hR hB1 HM HB0
  go_wp2
  refine bodyPost_ret (v := .tuple #[.agg #[.int .i64 0, .slice none 0 0], .bool false]) (by simp [results, Tryz.results7, go_sem, r0, r1]) rfl ⟨rfl, ?_⟩
  exact (by repeat' (first | (with_reducible exact B1.out) | (with_reducible refine Below.setCell ?_ ?_ _) | (with_reducible refine Below.alloc ?_ ?_ _) | omega | (simp; done) | (simp; omega)))

set_option maxRecDepth 100000 in
set_option maxHeartbeats 1000000 in
theorem giveAll_no1 (A : Option Addr) (n c : Nat) (B : Option Addr) (m d Q2 : Nat) (xs : List Wc) (V : Nat → WV) (i : Nat) (w : World) (h2 : RdW w Q2 B m xs) (hQ2 : Q2 ≤ w.heap.size) (hm : m ≤ maxLen) (hV : ∀ i, i < m → (wat xs i).v = V i) (hi : i < m) (hk : (V i).kd ≠ 0)
    (hM : ∀ W, Below w.heap.size w W → Calls Tryz.prog 20 #[.agg #[.slice A n c, .slice B m d], .int .i64 (i : Int)] W fun e w' => e = .returned (.bool true) ∧ Below W.heap.size W w') :
    Calls Tryz.prog 7 #[.agg #[.slice A n c, .slice B m d], .int .i64 (i : Int)] w fun e w' => e = .returned (.tuple #[.agg #[.int .i64 0, .slice none 0 0], .bool false]) ∧ Below w.heap.size w w' := by
  have HM := Lib.hid hM
  have H2 := Lib.hid h2
  have HV := Lib.hid hV
  have HB0 := Lib.hid (bel2 w (.cells #[.slice A n c, .slice B m d] 37) (.cells #[.int .i64 0, .slice none 0 0] 31))
  unfold maxLen at hm
  have hz1 : ((V i).kd != 0) = true := by simpa using hk
  clear h2 hV hM hk
  go_enter Tryz.func7, Tryz.ntmps7
  go_wp2_with fail
  refine (HM.out _ HB0.out).mono ?_
  rintro e w1 ⟨rfl, hb⟩
  obtain ⟨hA, hR, hB1, z1⟩ := nw2 hb
  have B1 := Lib.hid hB1
  have a1 := blkc hA 1 rfl
  obtain ⟨g, o, rfl, hg, e8⟩ := H2.out.at8 hi
  have hv := HV.out i hi
  have e9 := e8.below (hB1.mono hQ2) hg
  unfold At8 at e9
  rw [hv] at e9
  have c0 := e9.1
  have r0 := blkc hR 0 rfl
  have r1 := blkc hR 1 rfl
  have fr := blkf hR
  clear hb hA hR hB1 HM HB0 e8 e9 hv
  generalize (V i).kd = v0 at *
  go_wp2
  refine bodyPost_ret (v := .tuple #[.agg #[.int .i64 0, .slice none 0 0], .bool false]) (by simp [results, Tryz.results7, go_sem, r0, r1]) rfl ⟨rfl, ?_⟩
  exact (by repeat' (first | (with_reducible exact B1.out) | (with_reducible refine Below.setCell ?_ ?_ _) | (with_reducible refine Below.alloc ?_ ?_ _) | omega | (simp; done) | (simp; omega)))

set_option maxRecDepth 100000 in
set_option maxHeartbeats 2000000 in
theorem giveAll_yes (A : Option Addr) (n c : Nat) (B : Option Addr) (m d Q2 : Nat) (xs : List Wc) (V : Nat → WV) (i : Nat) (ps : List (Int × Int)) (w : World) (h2 : RdW w Q2 B m xs) (hQ2 : Q2 ≤ w.heap.size) (hm : m ≤ maxLen) (hV : ∀ i, i < m → (wat xs i).v = V i) (hi : i < m) (hk : (V i).kd = 0) (N : Nat) (hN : N = min 8 ps.length)
    (hM : ∀ W, Below w.heap.size w W → Calls Tryz.prog 20 #[.agg #[.slice A n c, .slice B m d], .int .i64 (i : Int)] W fun e w' => e = .returned (.bool true) ∧ Below W.heap.size W w')
    (hA : ∀ W, Below w.heap.size w W → Calls Tryz.prog 22 #[.agg #[.slice A n c]] W fun e w' => ∃ A' c', e = .returned (.tuple #[.slice A' ps.length c', .bool true]) ∧ OwnP w' W.heap.size A' ps.length c' ps ∧ Below W.heap.size W w') :
    Calls Tryz.prog 7 #[.agg #[.slice A n c, .slice B m d], .int .i64 (i : Int)] w fun e w' => ∃ A' c', e = .returned (.tuple #[.agg #[.int .i64 2, .slice A' 8 c'], .bool true]) ∧ OwnK 3 .i64 w' w.heap.size A' 8 c' (giveK ps N) ∧ Below w.heap.size w w' := by
  have HR : Hid (∀ (W : World) (g : Nat), W.cell? ⟨g, 0, none⟩ = some (.int .i64 (-1)) → g < W.heap.size → Calls Tryz.prog 21 #[.slice (some ⟨g, 0, none⟩) 1 1, .int .i64 8] W fun e w' => ∃ A c, e = .returned (.slice A 8 c) ∧ OwnK 3 .i64 w' W.heap.size A 8 c (List.replicate 8 (-1)) ∧ Below W.heap.size W w') := fun W g h hg => repeat8 g (-1) W h hg
  have HM := Lib.hid hM
  have HA := Lib.hid hA
  have H2 := Lib.hid h2
  have HV := Lib.hid hV
  have HK := Lib.hid hk
  have hN8 : (N : Int) ≤ 8 := by omega
  have hNl : (N : Int) ≤ (ps.length : Int) := by omega
  have hmin : min (8 : Int) (ps.length : Int) = (N : Int) := by omega
  have HN := Lib.hid hN
  have HB0 := Lib.hid (bel2 w (.cells #[.slice A n c, .slice B m d] 37) (.cells #[.int .i64 0, .slice none 0 0] 31))
  unfold maxLen at hm
  clear h2 hV hM hA hk hN
  go_enter Tryz.func7, Tryz.ntmps7
  go_wp2_with fail
  refine (HM.out _ HB0.out).mono ?_
  rintro e w1 ⟨rfl, hb⟩
  obtain ⟨hA, hR, hB1, z1⟩ := nw2 hb
  have B1 := Lib.hid hB1
  have M1 := Lib.hid hA
  have R1 := Lib.hid hR
  have a1 := blkc hA 1 rfl
  obtain ⟨g, o, rfl, hg, e8⟩ := H2.out.at8 hi
  have hv := HV.out i hi
  have e9 := e8.below (hB1.mono hQ2) hg
  unfold At8 at e9
  rw [hv] at e9
  have c0 := e9.1
  rw [HK.out] at c0
  clear hb hA hR hB1 HM HB0 e8 e9 hv
  go_wp2_with fail
  refine (HR.out _ _ (by simp) (by simp)).mono ?_
  rintro e w2 ⟨A2, c2, rfl, ho, hb⟩
  obtain ⟨hl, hB2, z2⟩ := nw1 hb
  obtain ⟨g2, rfl, hg2, hg2'⟩ := ho.form (by omega)
  rw [sz1] at hg2
  have O2 := Lib.hid (ho.from_ (b1 := w1.heap.size + 1) (Nat.le_of_eq (sz1 _ _).symm))
  have M2 := Lib.hid ((hB2.block _ (by omega)).trans M1.out)
  have R2 := Lib.hid ((hB2.block _ (by omega)).trans R1.out)
  have B2 := Lib.hid (B1.out.trans (hB2.mono B1.out.size))
  have hk := bel1 w2 (.cells #[.int .i64 2, .slice (some ⟨g2, 0, none⟩) 8 c2] 31)
  have M3 : Hid ((w2.alloc (.cells #[.int .i64 2, .slice (some ⟨g2, 0, none⟩) 8 c2] 31)).heap[w.heap.size]? = some (.cells #[.slice A n c, .slice (some ⟨g, o, none⟩) m d] 37 (0, 0))) := (hk.block _ (by omega)).trans M2.out
  have R3 : Hid ((w2.alloc (.cells #[.int .i64 2, .slice (some ⟨g2, 0, none⟩) 8 c2] 31)).heap[w.heap.size + 1]? = some (.cells #[.int .i64 0, .slice none 0 0] 31 (0, 0))) := (hk.block _ (by omega)).trans R2.out
  have L3 : Hid ((w2.alloc (.cells #[.int .i64 2, .slice (some ⟨g2, 0, none⟩) 8 c2] 31)).heap[w2.heap.size]? = some (.cells #[.int .i64 2, .slice (some ⟨g2, 0, none⟩) 8 c2] 31 (0, 0))) := heap_alloc_new _ _
  have B3 : Hid (Below w.heap.size w (w2.alloc (.cells #[.int .i64 2, .slice (some ⟨g2, 0, none⟩) 8 c2] 31))) := B2.out.trans (hk.mono B2.out.size)
  have O3 : Hid (OwnK 3 .i64 (w2.alloc (.cells #[.int .i64 2, .slice (some ⟨g2, 0, none⟩) 8 c2] 31)) (w1.heap.size + 1) (some ⟨g2, 0, none⟩) 8 c2 (List.replicate 8 (-1))) := O2.out.alloc _
  have z3 : w2.heap.size + 1 ≤ (w2.alloc (.cells #[.int .i64 2, .slice (some ⟨g2, 0, none⟩) 8 c2] 31)).heap.size := Nat.le_of_eq (sz1 _ _).symm
  have a0 := blkc M3.out 0 rfl
  clear ho hb hl hB2 M1 R1 B1 a1 c0 HR M2 R2 B2 O2 hk
  go_wp2_with fail
  clear a0
  generalize w2.alloc (.cells #[.int .i64 2, .slice (some ⟨g2, 0, none⟩) 8 c2] 31) = w3 at *
  refine (HA.out _ B3.out).mono ?_
  rintro e w4 ⟨A4, c4, rfl, hp, hb⟩
  have z4 := hb.size
  have R4 := Lib.hid ((hb.block _ (by omega)).trans R3.out)
  have L4 := Lib.hid ((hb.block _ (by omega)).trans L3.out)
  have B4 := Lib.hid (B3.out.trans (hb.mono B3.out.size))
  have O4 := Lib.hid (O3.out.below hb)
  have P4 := Lib.hid hp
  have hc4 : (N : Int) ≤ (c4 : Int) := by have := hp.cap; omega
  have hc4' : (c4 : Int) ≤ 9223372036854775807 := by have := hp.cap.2; unfold maxLen at this; omega
  clear hp hb HA B3 M3 R3 L3 O3
  by_cases h8 : 8 ≤ ps.length
  · obtain rfl : N = 8 := by rw [HN.out]; omega
    have h8i : (8 : Int) ≤ (ps.length : Int) := by omega
    have hNk : ((8 : Nat) : Int) ≤ 8 := by omega
    go_wp2
    go_loopw [40] (fun i wr => ∃ k : Nat, k ≤ 8 ∧ i = .int .i64 (k : Int) ∧ Hid (OwnK 3 .i64 wr (w1.heap.size + 1) (some ⟨g2, 0, none⟩) 8 c2 (giveK ps k)) ∧ Hid (wr.heap[w2.heap.size]? = some (.cells #[.int .i64 2, .slice (some ⟨g2, 0, none⟩) 8 c2] 31 (0, 0))) ∧ Hid (wr.heap[w.heap.size + 1]? = some (.cells #[.int .i64 0, .slice none 0 0] 31 (0, 0))) ∧ Hid (OwnP wr w3.heap.size A4 ps.length c4 ps) ∧ Hid (Below w.heap.size w wr) ∧ w3.heap.size ≤ wr.heap.size) (fun i _ => 8 - (intOf i).toNat)
    case atStart => exact ⟨0, Nat.zero_le _, rfl, O4, L4, R4, P4, B4, z4⟩
    case round =>
      obtain ⟨k, hk, rfl, HO, HL, HR, HP, HB, hz⟩ := hrel
      clear O4 L4 R4 P4 B4
      by_cases hlt : k < 8
      · obtain ⟨g4, rfl, hg4, hg4'⟩ := HP.out.form (by omega)
        have p1 := HP.out.cell1 rfl (i := k) (by omega)
        have p2 := HP.out.cell2 rfl (i := k) (by omega)
        have ki : (k : Int) < 8 := by omega
        have hk' := bel1 wr (.cells #[.int .i64 (pa ps k), .int .i64 (pb ps k)] 55)
        have l1 := blkc ((hk'.block _ (by omega)).trans HL.out) 1 rfl
        have HO2 := HO.out.alloc (.cells #[.int .i64 (pa ps k), .int .i64 (pb ps k)] 55)
        have fr := HO2.free rfl k
        have ex := HO2.cell rfl (i := k) (by omega)
        have O5 : Hid (OwnK 3 .i64 ((wr.alloc (.cells #[.int .i64 (pa ps k), .int .i64 (pb ps k)] 55)).setCell ⟨g2, k, none⟩ (.int .i64 (pa ps k))) (w1.heap.size + 1) (some ⟨g2, 0, none⟩) 8 c2 (giveK ps (k + 1))) := HO2.store
        have L5 : Hid (((wr.alloc (.cells #[.int .i64 (pa ps k), .int .i64 (pb ps k)] 55)).setCell ⟨g2, k, none⟩ (.int .i64 (pa ps k))).heap[w2.heap.size]? = some (.cells #[.int .i64 2, .slice (some ⟨g2, 0, none⟩) 8 c2] 31 (0, 0))) := (Below.heap_setCell _ _ _ _ (by simp; omega)).trans ((hk'.block _ (by omega)).trans HL.out)
        have R5 : Hid (((wr.alloc (.cells #[.int .i64 (pa ps k), .int .i64 (pb ps k)] 55)).setCell ⟨g2, k, none⟩ (.int .i64 (pa ps k))).heap[w.heap.size + 1]? = some (.cells #[.int .i64 0, .slice none 0 0] 31 (0, 0))) := (Below.heap_setCell _ _ _ _ (by simp; omega)).trans ((hk'.block _ (by omega)).trans HR.out)
        have P5 : Hid (OwnP ((wr.alloc (.cells #[.int .i64 (pa ps k), .int .i64 (pb ps k)] 55)).setCell ⟨g2, k, none⟩ (.int .i64 (pa ps k))) w3.heap.size (some ⟨g4, 0, none⟩) ps.length c4 ps) := (HP.out.alloc _).low (by show g2 < _; omega) _
        have B5 : Hid (Below w.heap.size w ((wr.alloc (.cells #[.int .i64 (pa ps k), .int .i64 (pb ps k)] 55)).setCell ⟨g2, k, none⟩ (.int .i64 (pa ps k)))) := (HB.out.alloc HB.out.size _).setCell (by show _ ≤ g2; omega) _
        have zz : w3.heap.size ≤ ((wr.alloc (.cells #[.int .i64 (pa ps k), .int .i64 (pb ps k)] 55)).setCell ⟨g2, k, none⟩ (.int .i64 (pa ps k))).heap.size := by rw [World.size_setCell, sz1]; omega
        clear HO2 hk' HO HL HR HP HB
        go_wp2
        go_roundw
        case rel => exact ⟨k + 1, by omega, by go_num, O5, L5, R5, P5, B5, zz⟩
        case measure => simp [intOf]; omega
      · obtain rfl : k = 8 := by omega
        have l0 := blkc HL.out 0 rfl
        have l1 := blkc HL.out 1 rfl
        have r0 := blkc HR.out 0 rfl
        have r1 := blkc HR.out 1 rfl
        have fr := blkf HR.out
        clear HL HR HP
        go_wp2
        refine bodyPost_ret (v := .tuple #[.agg #[.int .i64 2, .slice (some ⟨g2, 0, none⟩) 8 c2], .bool true]) (by simp [results, Tryz.results7, go_sem, r0, r1]) rfl ⟨_, c2, rfl, ?_, ?_⟩
        · exact OwnK.from_ (b0 := w1.heap.size + 1) (by repeat' (first | (with_reducible exact HO.out) | (with_reducible refine OwnK.low ?_ ?_ _) | omega | (simp; done) | (simp; omega))) (by omega)
        · exact (by repeat' (first | (with_reducible exact HB.out) | (with_reducible refine Below.setCell ?_ ?_ _) | omega | (simp; done) | (simp; omega)))
  · obtain rfl : N = ps.length := by rw [HN.out]; omega
    have h8i : (ps.length : Int) < 8 := by omega
    have hNk : ((ps.length : Nat) : Int) ≤ 8 := by omega
    go_wp2
    go_loopw [40] (fun i wr => ∃ k : Nat, k ≤ ps.length ∧ i = .int .i64 (k : Int) ∧ Hid (OwnK 3 .i64 wr (w1.heap.size + 1) (some ⟨g2, 0, none⟩) 8 c2 (giveK ps k)) ∧ Hid (wr.heap[w2.heap.size]? = some (.cells #[.int .i64 2, .slice (some ⟨g2, 0, none⟩) 8 c2] 31 (0, 0))) ∧ Hid (wr.heap[w.heap.size + 1]? = some (.cells #[.int .i64 0, .slice none 0 0] 31 (0, 0))) ∧ Hid (OwnP wr w3.heap.size A4 ps.length c4 ps) ∧ Hid (Below w.heap.size w wr) ∧ w3.heap.size ≤ wr.heap.size) (fun i _ => ps.length - (intOf i).toNat)
    case atStart => exact ⟨0, Nat.zero_le _, rfl, O4, L4, R4, P4, B4, z4⟩
    case round =>
      obtain ⟨k, hk, rfl, HO, HL, HR, HP, HB, hz⟩ := hrel
      clear O4 L4 R4 P4 B4
      by_cases hlt : k < ps.length
      · obtain ⟨g4, rfl, hg4, hg4'⟩ := HP.out.form (by omega)
        have p1 := HP.out.cell1 rfl (i := k) (by omega)
        have p2 := HP.out.cell2 rfl (i := k) (by omega)
        have ki : (k : Int) < 8 := by omega
        have hk' := bel1 wr (.cells #[.int .i64 (pa ps k), .int .i64 (pb ps k)] 55)
        have l1 := blkc ((hk'.block _ (by omega)).trans HL.out) 1 rfl
        have HO2 := HO.out.alloc (.cells #[.int .i64 (pa ps k), .int .i64 (pb ps k)] 55)
        have fr := HO2.free rfl k
        have ex := HO2.cell rfl (i := k) (by omega)
        have O5 : Hid (OwnK 3 .i64 ((wr.alloc (.cells #[.int .i64 (pa ps k), .int .i64 (pb ps k)] 55)).setCell ⟨g2, k, none⟩ (.int .i64 (pa ps k))) (w1.heap.size + 1) (some ⟨g2, 0, none⟩) 8 c2 (giveK ps (k + 1))) := HO2.store
        have L5 : Hid (((wr.alloc (.cells #[.int .i64 (pa ps k), .int .i64 (pb ps k)] 55)).setCell ⟨g2, k, none⟩ (.int .i64 (pa ps k))).heap[w2.heap.size]? = some (.cells #[.int .i64 2, .slice (some ⟨g2, 0, none⟩) 8 c2] 31 (0, 0))) := (Below.heap_setCell _ _ _ _ (by simp; omega)).trans ((hk'.block _ (by omega)).trans HL.out)
        have R5 : Hid (((wr.alloc (.cells #[.int .i64 (pa ps k), .int .i64 (pb ps k)] 55)).setCell ⟨g2, k, none⟩ (.int .i64 (pa ps k))).heap[w.heap.size + 1]? = some (.cells #[.int .i64 0, .slice none 0 0] 31 (0, 0))) := (Below.heap_setCell _ _ _ _ (by simp; omega)).trans ((hk'.block _ (by omega)).trans HR.out)
        have P5 : Hid (OwnP ((wr.alloc (.cells #[.int .i64 (pa ps k), .int .i64 (pb ps k)] 55)).setCell ⟨g2, k, none⟩ (.int .i64 (pa ps k))) w3.heap.size (some ⟨g4, 0, none⟩) ps.length c4 ps) := (HP.out.alloc _).low (by show g2 < _; omega) _
        have B5 : Hid (Below w.heap.size w ((wr.alloc (.cells #[.int .i64 (pa ps k), .int .i64 (pb ps k)] 55)).setCell ⟨g2, k, none⟩ (.int .i64 (pa ps k)))) := (HB.out.alloc HB.out.size _).setCell (by show _ ≤ g2; omega) _
        have zz : w3.heap.size ≤ ((wr.alloc (.cells #[.int .i64 (pa ps k), .int .i64 (pb ps k)] 55)).setCell ⟨g2, k, none⟩ (.int .i64 (pa ps k))).heap.size := by rw [World.size_setCell, sz1]; omega
        clear HO2 hk' HO HL HR HP HB
        go_wp2
        go_roundw
        case rel => exact ⟨k + 1, by omega, by go_num, O5, L5, R5, P5, B5, zz⟩
        case measure => simp [intOf]; omega
      · obtain rfl : k = ps.length := by omega
        have l0 := blkc HL.out 0 rfl
        have l1 := blkc HL.out 1 rfl
        have r0 := blkc HR.out 0 rfl
        have r1 := blkc HR.out 1 rfl
        have fr := blkf HR.out
        clear HL HR HP
        go_wp2
        refine bodyPost_ret (v := .tuple #[.agg #[.int .i64 2, .slice (some ⟨g2, 0, none⟩) 8 c2], .bool true]) (by simp [results, Tryz.results7, go_sem, r0, r1]) rfl ⟨_, c2, rfl, ?_, ?_⟩
        · exact OwnK.from_ (b0 := w1.heap.size + 1) (by repeat' (first | (with_reducible exact HO.out) | (with_reducible refine OwnK.low ?_ ?_ _) | omega | (simp; done) | (simp; omega))) (by omega)
        · exact (by repeat' (first | (with_reducible exact HB.out) | (with_reducible refine Below.setCell ?_ ?_ _) | omega | (simp; done) | (simp; omega)))

end Go.Proofs.YtefcaeldkdbjdaaGreat
