/- Who owns which chunk of a machine, in plain lists. -/
/- Whether the words of a memory are the control words of a heap: the program's isHeap, the model's l07MemOk. -/
/- The model's way to the owners and the program's lead to the same. -/
import Derived.Test.YtefcaeldkdbjdaaGreatCtlP
import Derived.Test.YtefcaeldkdbjdaaGreatClaimM
import Derived.Test.YtefcaeldkdbjdaaGreatCopyI
namespace Go.Proofs.YtefcaeldkdbjdaaGreat
set_option linter.unusedVariables false

/-- A claim of a chunk: the chunk, and who claims it. -/
def putP (H : Nat → Bool) (O : List Int) (p : Nat × Int) : Option (List Int) := if H p.1 = true ∧ O[p.1]? = some (-1) then some (O.set p.1 p.2) else none
/-- Claims one after another: each must be of a chunk that exists, that H admits, and that is nobody's. -/
def putsP (H : Nat → Bool) : List Int → List (Nat × Int) → Option (List Int)
  | O, [] => some O
  | O, p :: C => (putP H O p).bind fun O' => putsP H O' C
/-- What a list of owners is behind claims that succeed. -/
def finO (O : List Int) (C : List (Nat × Int)) : List Int := C.foldl (fun O p => O.set p.1 p.2) O
theorem putsP_app (H : Nat → Bool) : ∀ (O : List Int) (C D : List (Nat × Int)), putsP H O (C ++ D) = (putsP H O C).bind fun O' => putsP H O' D
  | O, [], D => rfl
  | O, p :: C, D => by
    simp only [List.cons_append, putsP]
    cases h : putP H O p with
    | none => rfl
    | some O' => simp only [Option.bind_some]; exact putsP_app H O' C D
theorem finO_app (O : List Int) (C D : List (Nat × Int)) : finO O (C ++ D) = finO (finO O C) D := by simp [finO]
theorem finO_len : ∀ (C : List (Nat × Int)) (O : List Int), (finO O C).length = O.length
  | [], O => rfl
  | p :: C, O => by
    have := finO_len C (O.set p.1 p.2)
    simp only [finO, List.foldl_cons] at this ⊢
    rw [this]; simp
/-- What is not claimed stays. -/
theorem finO_not : ∀ (C : List (Nat × Int)) (O : List Int) (j : Nat), j ∉ C.map Prod.fst → (finO O C)[j]? = O[j]?
  | [], O, j, _ => rfl
  | p :: C, O, j, h => by
    simp only [List.map_cons, List.mem_cons, not_or] at h
    have := finO_not C (O.set p.1 p.2) j h.2
    simp only [finO, List.foldl_cons] at this ⊢
    rw [this, List.getElem?_set_ne (fun e => h.1 e.symm)]
/-- What is claimed once is the claimer's. -/
theorem finO_yes : ∀ (C : List (Nat × Int)) (O : List Int) (p : Nat × Int), (C.map Prod.fst).Nodup → p ∈ C → p.1 < O.length → (finO O C)[p.1]? = some p.2
  | [], O, p, _, h, _ => by simp at h
  | q :: C, O, p, hn, h, hl => by
    simp only [List.map_cons, List.nodup_cons] at hn
    rcases List.mem_cons.1 h with rfl | h
    · have := finO_not C (O.set p.1 p.2) p.1 hn.1
      simp only [finO, List.foldl_cons] at this ⊢
      rw [this]; simp [hl]
    · have := finO_yes C (O.set q.1 q.2) p hn.2 h (by simpa using hl)
      simpa only [finO, List.foldl_cons] using this
/-- When claims succeed. -/
theorem putsP_iff (H : Nat → Bool) : ∀ (C : List (Nat × Int)) (O O' : List Int), (∀ p ∈ C, p.2 ≠ -1) → (putsP H O C = some O' ↔ (∀ p ∈ C, H p.1 = true ∧ O[p.1]? = some (-1)) ∧ (C.map Prod.fst).Nodup ∧ O' = finO O C)
  | [], O, O', _ => by
    constructor
    · intro h
      injection h with h
      exact ⟨fun p hp => by simp at hp, by simp, h.symm⟩
    · rintro ⟨_, _, h⟩
      rw [h]; rfl
  | q :: C, O, O', hv => by
    have ih := putsP_iff H C (O.set q.1 q.2) O' (fun p hp => hv p (List.mem_cons_of_mem _ hp))
    have hq := hv q (List.mem_cons_self ..)
    simp only [putsP, putP]
    by_cases h : H q.1 = true ∧ O[q.1]? = some (-1)
    · rw [if_pos h, Option.bind_some, ih]
      have hlt : q.1 < O.length := (List.getElem?_eq_some_iff.1 h.2).1
      constructor
      · rintro ⟨a, b, c⟩
        have hnot : q.1 ∉ C.map Prod.fst := by
          intro hm
          obtain ⟨p, hp, e⟩ := List.mem_map.1 hm
          have h2 := (a p hp).2
          rw [e] at h2
          simp [hlt] at h2
          exact hq h2
        refine ⟨fun p hp => ?_, ?_, ?_⟩
        · rcases List.mem_cons.1 hp with rfl | hp
          · exact h
          · have h2 := a p hp
            have hne : q.1 ≠ p.1 := fun e => hnot (e ▸ List.mem_map.2 ⟨p, hp, rfl⟩)
            rw [List.getElem?_set_ne hne] at h2
            exact h2
        · simp only [List.map_cons, List.nodup_cons]; exact ⟨hnot, b⟩
        · rw [c]; rfl
      · rintro ⟨a, b, c⟩
        simp only [List.map_cons, List.nodup_cons] at b
        refine ⟨fun p hp => ?_, b.2, by rw [c]; rfl⟩
        have hne : q.1 ≠ p.1 := fun e => b.1 (e ▸ List.mem_map.2 ⟨p, hp, rfl⟩)
        rw [List.getElem?_set_ne hne]
        exact a p (List.mem_cons_of_mem _ hp)
    · rw [if_neg h]
      simp only [Option.bind_none]
      constructor
      · intro e; cases e
      · rintro ⟨a, _, _⟩
        exact absurd (a q (List.mem_cons_self ..)) h

/-- k chunks from a on, for v. -/
def runC (v : Int) (a k : Nat) : List (Nat × Int) := (List.range k).map fun j => (a + j, v)
theorem runC_next (v : Int) (a k : Nat) : runC v a (k + 1) = runC v a k ++ [(a + k, v)] := by simp [runC, List.range_succ]
theorem runC_cons (v : Int) (a k : Nat) : runC v a (k + 1) = (a, v) :: runC v (a + 1) k := by
  simp [runC, List.range_succ_eq_map, Function.comp_def, Nat.add_assoc, Nat.add_comm 1]
theorem mem_runC {v : Int} {a k : Nat} {p : Nat × Int} : p ∈ runC v a k ↔ p.2 = v ∧ a ≤ p.1 ∧ p.1 < a + k := by
  obtain ⟨x, y⟩ := p
  simp only [runC, List.mem_map, List.mem_range, Prod.mk.injEq]
  constructor
  · rintro ⟨j, hj, rfl, rfl⟩; exact ⟨rfl, by omega, by omega⟩
  · rintro ⟨rfl, h1, h2⟩; exact ⟨x - a, by omega, by omega, rfl⟩
theorem runC_pre (v : Int) (a : Nat) {j k : Nat} (h : j ≤ k) : ∃ D, runC v a k = runC v a j ++ D := by
  refine ⟨(runC v a k).drop j, ?_⟩
  have : runC v a j = (runC v a k).take j := by
    simp only [runC, ← List.map_take, List.take_range, Nat.min_eq_left h]
  rw [this, List.take_append_drop]

/-- The state and the run of the chunk's word; both 0 for a chunk that isn't there. -/
def stW (ws : List Nat) (i : Nat) : Nat := readN (ws[i]?.getD 0) (stOf (ws[i]?.getD 0))
def rnW (ws : List Nat) (i : Nat) : Nat := readN (ws[i]?.getD 0) (rnOf (ws[i]?.getD 0))
theorem stW_cases (ws : List Nat) (i : Nat) : (stW ws i = 0 ∧ rnW ws i = 0) ∨ (stW ws i = 1 ∧ rnW ws i = 0) ∨ (stW ws i = 2 ∧ 1 ≤ rnW ws i ∧ rnW ws i ≤ 16) ∨ (stW ws i = 3 ∧ rnW ws i = 0) := by
  unfold stW rnW readN
  generalize ws[i]?.getD 0 = X
  by_cases h : GoodX X
  · simp only [if_pos h]
    unfold GoodX at h
    by_cases h03 : stOf X = 0 ∨ stOf X = 3
    · have := (good_free (S := ((stOf X : Nat) : Int)) (by omega)).1 h
      omega
    · by_cases h1 : stOf X = 1
      · have e : ((stOf X : Nat) : Int) = 1 := by omega
        rw [e] at h
        have := ((good_page).1 h).2.2
        omega
      · by_cases h2 : stOf X = 2
        · have e : ((stOf X : Nat) : Int) = 2 := by omega
          rw [e] at h
          have := ((good_head).1 h).2.2
          unfold IsRun at this
          omega
        · exact absurd h (good_none (S := ((stOf X : Nat) : Int)) (by omega) (by omega) (by omega))
  · exact .inl ⟨if_neg h, if_neg h⟩
def heldW (ws : List Nat) (i : Nat) : Bool := decide (stW ws i = 3)
/-- The claims of the heads among the first k chunks, and of the first k warps. -/
def headC (ws : List Nat) : Nat → List (Nat × Int)
  | 0 => []
  | k + 1 => headC ws k ++ runC (-2) k (rnW ws k)
def warpC (vs : List (Nat × Nat)) : Nat → List (Nat × Int)
  | 0 => []
  | k + 1 => warpC vs k ++ runC (k : Int) (vs[k]?.getD (0, 0)).1 (vs[k]?.getD (0, 0)).2
theorem headC_val {ws : List Nat} : ∀ {k : Nat} {p : Nat × Int}, p ∈ headC ws k → p.2 = -2
  | 0, p, h => by simp [headC] at h
  | k + 1, p, h => by
    rcases List.mem_append.1 h with h | h
    · exact headC_val h
    · exact (mem_runC.1 h).1
theorem warpC_val {vs : List (Nat × Nat)} : ∀ {k : Nat} {p : Nat × Int}, p ∈ warpC vs k → 0 ≤ p.2 ∧ p.2 < k
  | 0, p, h => by simp [warpC] at h
  | k + 1, p, h => by
    rcases List.mem_append.1 h with h | h
    · have := warpC_val h; omega
    · have := (mem_runC.1 h).1; omega
def emptyO (n : Nat) : List Int := List.replicate n (-1)
/-- What a chunk's word and its owner must be. -/
def FitO (ws : List Nat) (O : List Int) (i : Nat) : Prop := ¬ ((O[i]? = some (-1) ∧ (stW ws i = 3 ∨ stW ws i = 2)) ∨ (0 ≤ (O[i]?.getD 0) ∧ stW ws i ≠ 3) ∨ (O[i]? = some (-2) ∧ stW ws i ≠ 3 ∧ stW ws i ≠ 2))
instance (ws : List Nat) (O : List Int) (i : Nat) : Decidable (FitO ws O i) := inferInstanceAs (Decidable (¬ _))
def FitAll (ws : List Nat) (O : List Int) (n : Nat) : Prop := ∀ i, i < n → FitO ws O i
instance (ws : List Nat) (O : List Int) (n : Nat) : Decidable (FitAll ws O n) := inferInstanceAs (Decidable (∀ i, i < n → _))
/-- The owners as the model finds them: the heads first, then the warps, then a look at all chunks. -/
def ownS (ws : List Nat) (vs : List (Nat × Nat)) : Option (List Int) :=
  (putsP (fun _ => true) (emptyO ws.length) (headC ws ws.length ++ warpC vs vs.length)).bind fun O => if FitAll ws O ws.length then some O else none
/-- The program's second part: the chunks of the large blocks. -/
def blocksF (ws : List Nat) : Nat → List Int → Option (List Int)
  | 0, O => some O
  | k + 1, O => (blocksF ws k O).bind fun O' =>
    if stW ws k = 2 then putsP (heldW ws) (O'.set k (-2)) (runC (-2) (k + 1) (rnW ws k - 1))
    else if stW ws k = 3 then (if O'[k]? = some (-1) then none else some O') else some O'
/-- The owners as the program finds them: the warps first, then the large blocks. -/
def ownI (ws : List Nat) (vs : List (Nat × Nat)) : Option (List Int) :=
  (putsP (heldW ws) (emptyO ws.length) (warpC vs vs.length)).bind fun O => blocksF ws ws.length O

end Go.Proofs.YtefcaeldkdbjdaaGreat

namespace Go.Proofs.YtefcaeldkdbjdaaGreat
open Go.RowKit
set_option linter.unusedVariables false

def HeapOk (ws : List Nat) : Prop := ws.length ≤ 16 ∧ ∀ X ∈ ws, GoodX X
instance (ws : List Nat) : Decidable (HeapOk ws) := inferInstanceAs (Decidable (_ ∧ _))
theorem intsW_at (ws : List Nat) (k : Nat) : (ints ws)[k]?.getD 0 = ((ws[k]?.getD 0 : Nat) : Int) := by
  unfold ints
  rw [List.getElem?_map]
  cases ws[k]? <;> simp
theorem intsW_len (ws : List Nat) : (ints ws).length = ws.length := by simp [ints]
theorem word_lt {ws : List Nat} (h : ∀ X ∈ ws, X < 4294967296) (k : Nat) : ws[k]?.getD 0 < 4294967296 := by
  by_cases hk : k < ws.length
  · rw [List.getElem?_eq_getElem hk]; exact h _ (List.getElem_mem hk)
  · rw [List.getElem?_eq_none (by omega)]; simp
theorem good_next {ws : List Nat} {k : Nat} (h : ∀ X ∈ ws.take k, GoodX X) (hk : k < ws.length) (h1 : GoodX (ws[k]?.getD 0)) : ∀ X ∈ ws.take (k + 1), GoodX X := by
  intro X hX
  rw [List.take_succ_eq_append_getElem hk] at hX
  rcases List.mem_append.1 hX with hX | hX
  · exact h X hX
  · simp at hX
    subst hX
    rwa [List.getElem?_eq_getElem hk] at h1
theorem good_not {ws : List Nat} {k : Nat} (hk : k < ws.length) (h1 : ¬ GoodX (ws[k]?.getD 0)) : ¬ HeapOk ws := fun h => h1 (by rw [List.getElem?_eq_getElem hk]; exact h.2 _ (List.getElem_mem hk))

set_option maxRecDepth 100000 in
set_option maxHeartbeats 2000000 in
theorem isHeap_any (A : Option Addr) (n c B : Nat) (ws : List Nat) (w : World) (h : Rd w B A n (ints ws)) (hB : B ≤ w.heap.size) (hX : ∀ X ∈ ws, X < 4294967296) (hm : n ≤ maxLen) :
    Calls Tryz.prog 42 #[.agg #[.slice A n c]] w fun e w' => e = .returned (.bool (decide (HeapOk ws))) ∧ Below w.heap.size w w' := by
  have hl : ws.length = n := by rw [← intsW_len]; exact h.1
  unfold maxLen at hm
  by_cases hn : n ≤ 16
  · have H2 := Lib.hid h.2
    have HX := Lib.hid hX
    have HL := Lib.hid hl
    clear h hX hl
    go_enter Tryz.func42, Tryz.ntmps42
    go_wp2
    go_loopw [14] (fun i wr => ∃ k : Nat, k ≤ n ∧ i = .int .i64 k ∧ Hid (∀ X ∈ ws.take k, GoodX X) ∧ Hid (Below w.heap.size w wr)) (fun i _ => n - (intOf i).toNat)
    case atStart => exact ⟨0, Nat.zero_le _, rfl, by simp [Hid], bel1 _ _⟩
    case round =>
      obtain ⟨k, hk, rfl, HG, HB⟩ := hrel
      by_cases hlt : k < n
      · obtain ⟨g, o, rfl, hg, hc⟩ := H2.out (by omega)
        have c1 : wr.cell? ⟨g, o + k, none⟩ = some (.int .u32 ((ws[k]?.getD 0 : Nat) : Int)) := by
          rw [← intsW_at]; exact (HB.out.cell (p := ⟨g, o + k, none⟩) (by show g < _; omega)).trans (hc k hlt)
        have HC := Lib.hid (fun W => ctlRead_any (ws[k]?.getD 0) W (word_lt HX.out k))
        clear hc
        have hkl : k < ws.length := by rw [HL.out]; exact hlt
        by_cases hq : GoodX (ws[k]?.getD 0)
        · have HN := Lib.hid (good_next HG.out hkl hq)
          rw [decide_eq_true hq] at HC
          unfold readV at HC
          clear hq HG
          generalize ws[k]?.getD 0 = X at *
          generalize ((readN X (stOf X) : Nat) : Int) = st at *
          generalize ((readN X (clOf X) : Nat) : Int) = cl at *
          generalize ((readN X (mpOf X) : Nat) : Int) = mp at *
          generalize ((readN X (rnOf X) : Nat) : Int) = rn at *
          go_wp2_with fail
          refine (HC.out _).mono ?_
          rintro e w2 ⟨rfl, hb⟩
          have HB2 := Lib.hid (HB.out.trans (hb.mono HB.out.size))
          clear hb HB HC c1
          go_wp2
          go_roundw
          case rel => exact ⟨k + 1, by omega, by go_num, HN, HB2.out.alloc HB2.out.size _⟩
          case measure => simp [intOf]; omega
        · have HN : Hid (decide (HeapOk ws) = false) := decide_eq_false (good_not hkl hq)
          rw [decide_eq_false hq] at HC
          unfold readV at HC
          clear hq HG
          generalize ws[k]?.getD 0 = X at *
          generalize ((readN X (stOf X) : Nat) : Int) = st at *
          generalize ((readN X (clOf X) : Nat) : Int) = cl at *
          generalize ((readN X (mpOf X) : Nat) : Int) = mp at *
          generalize ((readN X (rnOf X) : Nat) : Int) = rn at *
          go_wp2_with fail
          refine (HC.out _).mono ?_
          rintro e w2 ⟨rfl, hb⟩
          have HB2 := Lib.hid (HB.out.trans (hb.mono HB.out.size))
          clear hb HB HC c1
          go_wp2
          go_ret
          exact ⟨by rw [HN.out]; rfl, HB2.out.alloc HB2.out.size _⟩
      · have HN : Hid (decide (HeapOk ws) = true) := decide_eq_true ⟨by rw [HL.out]; exact hn, by have := HG.out; rwa [List.take_of_length_le (by rw [HL.out]; omega)] at this⟩
        go_wp2
        go_ret
        exact ⟨by rw [HN.out]; rfl, HB.out⟩
  · have HN : Hid (decide (HeapOk ws) = false) := decide_eq_false (fun h => by have := h.1; omega)
    have hn2 : (16 : Int) < n := by omega
    clear h hX hl
    go_enter Tryz.func42, Tryz.ntmps42
    go_wp2
    go_ret
    exact ⟨by rw [HN.out]; rfl, bel1 _ _⟩

set_option maxRecDepth 100000 in
set_option maxHeartbeats 2000000 in
theorem sMemOk_any (A : Option Addr) (n c B : Nat) (ws : List Nat) (w : World) (h : Rd w B A n (ints ws)) (hB : B ≤ w.heap.size) (hX : ∀ X ∈ ws, X < 4294967296) (hm : n ≤ maxLen) :
    Calls Tryz.prog 32 #[.agg #[.slice A n c]] w fun e w' => e = .returned (.bool (decide (HeapOk ws))) ∧ Below w.heap.size w w' := by
  have hl : ws.length = n := by rw [← intsW_len]; exact h.1
  unfold maxLen at hm
  by_cases hn : n ≤ 16
  · have H2 := Lib.hid h.2
    have HX := Lib.hid hX
    have HL := Lib.hid hl
    clear h hX hl
    go_enter Tryz.func32, Tryz.ntmps32
    go_wp2
    go_loopw [3] (fun i wr => ∃ k : Nat, k ≤ n ∧ i = .int .i64 k ∧ Hid (∀ X ∈ ws.take k, GoodX X) ∧ Hid (wr.heap[w.heap.size]? = some (.cells #[.slice A n c] 34 (0, 0))) ∧ Hid (Below w.heap.size w wr)) (fun i _ => n - (intOf i).toNat)
    case atStart => exact ⟨0, Nat.zero_le _, rfl, by simp [Hid], heap_alloc_new _ _, bel1 _ _⟩
    case round =>
      obtain ⟨k, hk, rfl, HG, HA, HB⟩ := hrel
      have a0 := blkc HA.out 0 rfl
      have zA : w.heap.size < wr.heap.size := (Array.getElem?_eq_some_iff.1 HA.out).1
      by_cases hlt : k < n
      · obtain ⟨g, o, rfl, hg, hc⟩ := H2.out (by omega)
        have c1 : wr.cell? ⟨g, o + k, none⟩ = some (.int .u32 ((ws[k]?.getD 0 : Nat) : Int)) := by
          rw [← intsW_at]; exact (HB.out.cell (p := ⟨g, o + k, none⟩) (by show g < _; omega)).trans (hc k hlt)
        have HC := Lib.hid (fun W => sCtlRead_any (ws[k]?.getD 0) W (word_lt HX.out k))
        clear hc
        have hkl : k < ws.length := by rw [HL.out]; exact hlt
        by_cases hq : GoodX (ws[k]?.getD 0)
        · have HN := Lib.hid (good_next HG.out hkl hq)
          rw [decide_eq_true hq] at HC
          unfold readV at HC
          clear hq HG
          generalize ws[k]?.getD 0 = X at *
          generalize ((readN X (stOf X) : Nat) : Int) = st at *
          generalize ((readN X (clOf X) : Nat) : Int) = cl at *
          generalize ((readN X (mpOf X) : Nat) : Int) = mp at *
          generalize ((readN X (rnOf X) : Nat) : Int) = rn at *
          go_wp2_with fail
          refine (HC.out _).mono ?_
          rintro e w2 ⟨rfl, hb⟩
          have HB2 := Lib.hid (HB.out.trans (hb.mono HB.out.size))
          have HA2 := Lib.hid ((hb.block _ zA).trans HA.out)
          have zA2 : w.heap.size < w2.heap.size := Nat.lt_of_lt_of_le zA hb.size
          clear hb HB HC c1 HA a0
          go_wp2
          go_roundw
          case rel => exact ⟨k + 1, by omega, by go_num, HN, ((bel1 _ _).block _ zA2).trans HA2.out, HB2.out.alloc HB2.out.size _⟩
          case measure => simp [intOf]; omega
        · have HN : Hid (decide (HeapOk ws) = false) := decide_eq_false (good_not hkl hq)
          rw [decide_eq_false hq] at HC
          unfold readV at HC
          clear hq HG
          generalize ws[k]?.getD 0 = X at *
          generalize ((readN X (stOf X) : Nat) : Int) = st at *
          generalize ((readN X (clOf X) : Nat) : Int) = cl at *
          generalize ((readN X (mpOf X) : Nat) : Int) = mp at *
          generalize ((readN X (rnOf X) : Nat) : Int) = rn at *
          go_wp2_with fail
          refine (HC.out _).mono ?_
          rintro e w2 ⟨rfl, hb⟩
          have HB2 := Lib.hid (HB.out.trans (hb.mono HB.out.size))
          clear hb HB HC c1 HA a0
          go_wp2
          go_ret
          exact ⟨by rw [HN.out]; rfl, HB2.out.alloc HB2.out.size _⟩
      · have HN : Hid (decide (HeapOk ws) = true) := decide_eq_true ⟨by rw [HL.out]; exact hn, by have := HG.out; rwa [List.take_of_length_le (by rw [HL.out]; omega)] at this⟩
        go_wp2
        go_ret
        exact ⟨by rw [HN.out]; rfl, HB.out⟩
  · have HN : Hid (decide (HeapOk ws) = false) := decide_eq_false (fun h => by have := h.1; omega)
    have hn2 : (16 : Int) < n := by omega
    clear h hX hl
    go_enter Tryz.func32, Tryz.ntmps32
    go_wp2
    go_ret
    exact ⟨by rw [HN.out]; rfl, bel1 _ _⟩

end Go.Proofs.YtefcaeldkdbjdaaGreat

namespace Go.Proofs.YtefcaeldkdbjdaaGreat
set_option linter.unusedVariables false

theorem mem_headC {ws : List Nat} {p : Nat × Int} : ∀ {k : Nat}, p ∈ headC ws k ↔ p.2 = -2 ∧ ∃ i, i < k ∧ i ≤ p.1 ∧ p.1 < i + rnW ws i
  | 0 => by simp [headC]
  | k + 1 => by
    rw [headC, List.mem_append, mem_headC, mem_runC]
    constructor
    · rintro (⟨h, i, hi, h2⟩ | ⟨h, h2, h3⟩)
      · exact ⟨h, i, by omega, h2⟩
      · exact ⟨h, k, by omega, h2, h3⟩
    · rintro ⟨h, i, hi, h2, h3⟩
      by_cases e : i = k
      · subst e; exact .inr ⟨h, h2, h3⟩
      · exact .inl ⟨h, i, by omega, h2, h3⟩
theorem emptyO_at {n j : Nat} : (emptyO n)[j]? = some (-1) ↔ j < n := by
  unfold emptyO
  rw [List.getElem?_replicate]
  by_cases h : j < n <;> simp [h]
theorem emptyO_len (n : Nat) : (emptyO n).length = n := by simp [emptyO]
/-- Which chunks the claims name. -/
def at1 (C : List (Nat × Int)) : List Nat := C.map Prod.fst
theorem at1_app (C D : List (Nat × Int)) : at1 (C ++ D) = at1 C ++ at1 D := by simp [at1]
theorem mem_at1 {C : List (Nat × Int)} {j : Nat} : j ∈ at1 C ↔ ∃ p ∈ C, p.1 = j := by simp [at1]
theorem runC_nodup (v : Int) (a k : Nat) : (at1 (runC v a k)).Nodup := by
  induction k with
  | zero => simp [at1, runC]
  | succ k ih =>
    rw [runC_next, at1_app, List.nodup_append]
    refine ⟨ih, by simp [at1], ?_⟩
    intro x hx y hy
    obtain ⟨p, hp, rfl⟩ := mem_at1.1 hx
    have := mem_runC.1 hp
    simp [at1] at hy
    omega
theorem heldW_iff {ws : List Nat} {i : Nat} : heldW ws i = true ↔ stW ws i = 3 := by simp [heldW]
theorem finO_some {C : List (Nat × Int)} {n : Nat} {p : Nat × Int} (hn : (at1 C).Nodup) (h : p ∈ C) (hl : p.1 < n) : (finO (emptyO n) C)[p.1]? = some p.2 := finO_yes C _ p hn h (by rw [emptyO_len]; exact hl)
theorem finO_none {C : List (Nat × Int)} {n j : Nat} (h : j ∉ at1 C) (hl : j < n) : (finO (emptyO n) C)[j]? = some (-1) := by rw [finO_not C _ j h]; exact emptyO_at.2 hl

/-- What the program's second part asks of the first k chunks. -/
def BlkOk (ws : List Nat) (Cw : List (Nat × Int)) (k : Nat) : Prop :=
  (∀ p ∈ headC ws k, p.1 < ws.length) ∧ (at1 (Cw ++ headC ws k)).Nodup ∧ (∀ p ∈ headC ws k, stW ws p.1 = 3 ∨ (stW ws p.1 = 2 ∧ p.1 < k)) ∧ (∀ i, i < k → stW ws i = 3 → i ∈ at1 (Cw ++ headC ws k))

theorem blocks_iff {ws : List Nat} {Cw : List (Nat × Int)} (hw : ∀ p ∈ Cw, stW ws p.1 = 3 ∧ p.1 < ws.length) (hv : ∀ p ∈ Cw, 0 ≤ p.2) (hn : (at1 Cw).Nodup) :
    ∀ (k : Nat), k ≤ ws.length → ∀ O, blocksF ws k (finO (emptyO ws.length) Cw) = some O ↔ BlkOk ws Cw k ∧ O = finO (emptyO ws.length) (Cw ++ headC ws k)
  | 0, _, O => by
    simp only [blocksF, headC, List.append_nil]
    constructor
    · intro h
      injection h with h
      exact ⟨⟨fun p hp => by simp [headC] at hp, by simpa [headC] using hn, fun p hp => by simp [headC] at hp, fun i hi => absurd hi (by omega)⟩, h.symm⟩
    · rintro ⟨_, h⟩; rw [h]
  | k + 1, hk, O => by
    have ih := blocks_iff hw hv hn k (by omega)
    have hkn : k < ws.length := by omega
    have hval : ∀ p ∈ Cw ++ headC ws k, p.2 ≠ -1 := fun p hp => by
      rcases List.mem_append.1 hp with hp | hp
      · have := hv p hp; omega
      · rw [headC_val hp]; omega
    simp only [blocksF]
    rcases stW_cases ws k with ⟨hs, hr⟩ | ⟨hs, hr⟩ | ⟨hs, hr1, hr2⟩ | ⟨hs, hr⟩
    · -- a free chunk
      have hh : headC ws (k + 1) = headC ws k := by rw [headC, hr]; simp [runC]
      have e1 : ¬ stW ws k = 2 := by omega
      have e2 : ¬ stW ws k = 3 := by omega
      simp only [if_neg e1, if_neg e2]
      rw [show ((blocksF ws k (finO (emptyO ws.length) Cw)).bind fun O' => some O') = blocksF ws k (finO (emptyO ws.length) Cw) by cases blocksF ws k (finO (emptyO ws.length) Cw) <;> rfl, ih]
      unfold BlkOk
      rw [hh]
      constructor
      · rintro ⟨⟨a, b, c, d⟩, e⟩
        refine ⟨⟨a, b, fun p hp => ?_, fun i hi hi3 => ?_⟩, e⟩
        · rcases c p hp with h | h
          · exact .inl h
          · exact .inr ⟨h.1, by omega⟩
        · by_cases e : i = k
          · subst e; omega
          · exact d i (by omega) hi3
      · rintro ⟨⟨a, b, c, d⟩, e⟩
        refine ⟨⟨a, b, fun p hp => ?_, fun i hi hi3 => d i (by omega) hi3⟩, e⟩
        rcases c p hp with h | h
        · exact .inl h
        · refine .inr ⟨h.1, ?_⟩
          have : p.1 ≠ k := fun e => by rw [e] at h; omega
          omega
    · -- a page
      have hh : headC ws (k + 1) = headC ws k := by rw [headC, hr]; simp [runC]
      have e1 : ¬ stW ws k = 2 := by omega
      have e2 : ¬ stW ws k = 3 := by omega
      simp only [if_neg e1, if_neg e2]
      rw [show ((blocksF ws k (finO (emptyO ws.length) Cw)).bind fun O' => some O') = blocksF ws k (finO (emptyO ws.length) Cw) by cases blocksF ws k (finO (emptyO ws.length) Cw) <;> rfl, ih]
      unfold BlkOk
      rw [hh]
      constructor
      · rintro ⟨⟨a, b, c, d⟩, e⟩
        refine ⟨⟨a, b, fun p hp => ?_, fun i hi hi3 => ?_⟩, e⟩
        · rcases c p hp with h | h
          · exact .inl h
          · exact .inr ⟨h.1, by omega⟩
        · by_cases e : i = k
          · subst e; omega
          · exact d i (by omega) hi3
      · rintro ⟨⟨a, b, c, d⟩, e⟩
        refine ⟨⟨a, b, fun p hp => ?_, fun i hi hi3 => d i (by omega) hi3⟩, e⟩
        rcases c p hp with h | h
        · exact .inl h
        · refine .inr ⟨h.1, ?_⟩
          have : p.1 ≠ k := fun e => by rw [e] at h; omega
          omega
    · -- a head
      obtain ⟨r, hr⟩ : ∃ r, rnW ws k = r + 1 := ⟨rnW ws k - 1, by omega⟩
      have hh : headC ws (k + 1) = headC ws k ++ ((k, -2) :: runC (-2) (k + 1) r) := by rw [headC, hr, runC_cons]
      simp only [if_pos hs, hr, Nat.add_sub_cancel]
      have hT : ∀ p ∈ runC (-2) (k + 1) r, p.2 = -2 ∧ k + 1 ≤ p.1 := fun p hp => by have := mem_runC.1 hp; exact ⟨this.1, this.2.1⟩
      have hTv : ∀ p ∈ runC (-2) (k + 1) r, p.2 ≠ -1 := fun p hp => by rw [(hT p hp).1]; omega
      have hset : ∀ O', O' = finO (emptyO ws.length) (Cw ++ headC ws k) → finO (O'.set k (-2)) (runC (-2) (k + 1) r) = finO (emptyO ws.length) (Cw ++ headC ws (k + 1)) := fun O' e => by
        rw [hh, ← List.append_assoc, finO_app, ← e]; rfl
      have hnod : (at1 (Cw ++ headC ws (k + 1))).Nodup ↔ (at1 (Cw ++ headC ws k)).Nodup ∧ k ∉ at1 (Cw ++ headC ws k) ∧ ∀ p ∈ runC (-2) (k + 1) r, p.1 ∉ at1 (Cw ++ headC ws k) := by
        rw [hh, ← List.append_assoc, at1_app, List.nodup_append]
        constructor
        · rintro ⟨a, b, c⟩
          exact ⟨a, fun h => c _ h k (by simp [at1]) rfl, fun p hp h => c _ h p.1 (by simp only [at1, List.map_cons, List.mem_cons]; exact .inr (List.mem_map.2 ⟨p, hp, rfl⟩)) rfl⟩
        · rintro ⟨a, b, c⟩
          refine ⟨a, ?_, fun x hx y hy e => ?_⟩
          · simp only [at1, List.map_cons, List.nodup_cons]
            refine ⟨fun h => ?_, runC_nodup _ _ _⟩
            obtain ⟨p, hp, e⟩ := List.mem_map.1 h
            have := (hT p hp).2; omega
          · subst e
            simp only [at1, List.map_cons, List.mem_cons] at hy
            rcases hy with rfl | hy
            · exact b hx
            · obtain ⟨p, hp, rfl⟩ := List.mem_map.1 hy
              exact c p hp hx
      constructor
      · intro h
        obtain ⟨O', h1, h2⟩ := Option.bind_eq_some_iff.1 h
        obtain ⟨⟨a, b, c, d⟩, e⟩ := (ih O').1 h1
        obtain ⟨f1, f2, f3⟩ := (putsP_iff _ _ _ _ hTv).1 h2
        have hlen : O'.length = ws.length := by rw [e, finO_len, emptyO_len]
        have hTat : ∀ p ∈ runC (-2) (k + 1) r, O'[p.1]? = some (-1) := fun p hp => by
          have := (f1 p hp).2
          rwa [List.getElem?_set_ne (by have := (hT p hp).2; omega)] at this
        have hk1 : k ∉ at1 (Cw ++ headC ws k) := fun hm => by
          obtain ⟨p, hp, e⟩ := mem_at1.1 hm
          rcases List.mem_append.1 hp with hp | hp
          · have := (hw p hp).1; rw [e] at this; omega
          · rcases c p hp with h | h
            · rw [e] at h; omega
            · omega
        refine ⟨⟨fun p hp => ?_, hnod.2 ⟨b, hk1, fun p hp hm => ?_⟩, fun p hp => ?_, fun i hi hi3 => ?_⟩, by rw [f3]; exact hset O' e⟩
        · rw [hh] at hp
          rcases List.mem_append.1 hp with hp | hp
          · exact a p hp
          · rcases List.mem_cons.1 hp with rfl | hp
            · exact hkn
            · have := (List.getElem?_eq_some_iff.1 (hTat p hp)).1; omega
        · obtain ⟨q, hq, e2⟩ := mem_at1.1 hm
          have h5 := hTat p hp
          have hlt := (List.getElem?_eq_some_iff.1 h5).1
          have h6 := finO_some (n := ws.length) b hq (by rw [e2]; omega)
          rw [← e, e2, h5] at h6
          injection h6 with h6
          exact hval q hq h6.symm
        · rw [hh] at hp
          rcases List.mem_append.1 hp with hp | hp
          · rcases c p hp with h | h
            · exact .inl h
            · exact .inr ⟨h.1, by omega⟩
          · rcases List.mem_cons.1 hp with rfl | hp
            · exact .inr ⟨hs, by simp⟩
            · exact .inl (heldW_iff.1 (f1 p hp).1)
        · by_cases e2 : i = k
          · subst e2; omega
          · have := d i (by omega) hi3
            rw [hh, ← List.append_assoc, at1_app]
            exact List.mem_append_left _ this
      · rintro ⟨⟨a, b, c, d⟩, e⟩
        obtain ⟨b1, b2, b3⟩ := hnod.1 b
        have hok : BlkOk ws Cw k := by
          refine ⟨fun p hp => a p (by rw [hh]; exact List.mem_append_left _ hp), b1, fun p hp => ?_, fun i hi hi3 => ?_⟩
          · rcases c p (by rw [hh]; exact List.mem_append_left _ hp) with h | h
            · exact .inl h
            · refine .inr ⟨h.1, ?_⟩
              have : p.1 ≠ k := fun e => b2 (mem_at1.2 ⟨p, List.mem_append_right _ hp, e⟩)
              omega
          · have := d i (by omega) hi3
            rw [hh, ← List.append_assoc, at1_app] at this
            rcases List.mem_append.1 this with h | h
            · exact h
            · simp only [at1, List.map_cons, List.mem_cons] at h
              rcases h with h | h
              · omega
              · obtain ⟨p, hp, e2⟩ := List.mem_map.1 h
                have := (hT p hp).2; omega
        refine Option.bind_eq_some_iff.2 ⟨_, (ih _).2 ⟨hok, rfl⟩, (putsP_iff _ _ _ _ hTv).2 ⟨fun p hp => ⟨?_, ?_⟩, runC_nodup _ _ _, by rw [e]; exact (hset _ rfl).symm⟩⟩
        · rcases c p (by rw [hh]; exact List.mem_append_right _ (List.mem_cons_of_mem _ hp)) with h | h
          · exact heldW_iff.2 h
          · have := (hT p hp).2; omega
        · rw [List.getElem?_set_ne (by have := (hT p hp).2; omega)]
          exact finO_none (b3 p hp) (a p (by rw [hh]; exact List.mem_append_right _ (List.mem_cons_of_mem _ hp)))
    · -- a held chunk
      have hh : headC ws (k + 1) = headC ws k := by rw [headC, hr]; simp [runC]
      have e1 : ¬ stW ws k = 2 := by omega
      simp only [if_neg e1, if_pos hs]
      constructor
      · intro h
        obtain ⟨O', h1, h2⟩ := Option.bind_eq_some_iff.1 h
        obtain ⟨⟨a, b, c, d⟩, e⟩ := (ih O').1 h1
        by_cases hx : O'[k]? = some (-1)
        · rw [if_pos hx] at h2; cases h2
        · rw [if_neg hx] at h2
          injection h2 with h2
          subst h2
          unfold BlkOk
          rw [hh]
          refine ⟨⟨a, b, fun p hp => ?_, fun i hi hi3 => ?_⟩, e⟩
          · rcases c p hp with h | h
            · exact .inl h
            · exact .inr ⟨h.1, by omega⟩
          · by_cases e2 : i = k
            · subst e2
              by_cases hm : i ∈ at1 (Cw ++ headC ws i)
              · exact hm
              · exact absurd (by rw [e]; exact finO_none hm hkn) hx
            · exact d i (by omega) hi3
      · rintro ⟨⟨a, b, c, d⟩, e⟩
        rw [hh] at a b c d e
        have hok : BlkOk ws Cw k := ⟨a, b, fun p hp => by
          rcases c p hp with h | h
          · exact .inl h
          · by_cases e2 : p.1 = k
            · rw [e2] at h; omega
            · exact .inr ⟨h.1, by omega⟩, fun i hi hi3 => d i (by omega) hi3⟩
        refine Option.bind_eq_some_iff.2 ⟨_, (ih _).2 ⟨hok, rfl⟩, ?_⟩
        obtain ⟨p, hp, e2⟩ := mem_at1.1 (d k (by omega) hs)
        have h6 := finO_some b hp (by rw [e2]; exact hkn)
        rw [e2] at h6
        rw [if_neg (fun h => by rw [h6] at h; injection h with h; exact hval p hp h), e]

theorem finO_same {n : Nat} {C D : List (Nat × Int)} (h1 : (at1 C).Nodup) (h2 : (at1 D).Nodup) (hm : ∀ p, p ∈ C ↔ p ∈ D) (hl : ∀ p ∈ C, p.1 < n) : finO (emptyO n) C = finO (emptyO n) D := by
  apply List.ext_getElem?
  intro j
  by_cases h : j ∈ at1 C
  · obtain ⟨p, hp, rfl⟩ := mem_at1.1 h
    rw [finO_some h1 hp (hl p hp), finO_some h2 ((hm p).1 hp) (hl p hp)]
  · have h' : j ∉ at1 D := fun hj => by
      obtain ⟨p, hp, e⟩ := mem_at1.1 hj
      exact h (mem_at1.2 ⟨p, (hm p).2 hp, e⟩)
    rw [finO_not C _ j h, finO_not D _ j h']

theorem nodup_turn {a b : List Nat} (h : (a ++ b).Nodup) : (b ++ a).Nodup := by
  rw [List.nodup_append] at h ⊢
  exact ⟨h.2.1, h.1, fun x hx y hy e => h.2.2 y hy x hx e.symm⟩

theorem own_same (ws : List Nat) (vs : List (Nat × Nat)) : ownS ws vs = ownI ws vs := by
  have hwv : ∀ p ∈ warpC vs vs.length, 0 ≤ p.2 := fun p hp => (warpC_val hp).1
  have hwv1 : ∀ p ∈ warpC vs vs.length, p.2 ≠ -1 := fun p hp => by have := hwv p hp; omega
  have hhv1 : ∀ p ∈ headC ws ws.length ++ warpC vs vs.length, p.2 ≠ -1 := fun p hp => by
    rcases List.mem_append.1 hp with hp | hp
    · rw [headC_val hp]; omega
    · exact hwv1 p hp
  generalize hCw : warpC vs vs.length = Cw at *
  apply Option.ext
  intro O
  have hS : ownS ws vs = some O ↔ (∀ p ∈ headC ws ws.length ++ Cw, p.1 < ws.length) ∧ (at1 (headC ws ws.length ++ Cw)).Nodup ∧ O = finO (emptyO ws.length) (headC ws ws.length ++ Cw) ∧ FitAll ws O ws.length := by
    unfold ownS
    rw [hCw, Option.bind_eq_some_iff]
    constructor
    · rintro ⟨O', h1, h2⟩
      obtain ⟨a, b, c⟩ := (putsP_iff _ _ _ _ hhv1).1 h1
      by_cases hf : FitAll ws O' ws.length
      · rw [if_pos hf] at h2
        injection h2 with h2
        subst h2
        exact ⟨fun p hp => emptyO_at.1 (a p hp).2, b, c, hf⟩
      · rw [if_neg hf] at h2; cases h2
    · rintro ⟨a, b, c, d⟩
      exact ⟨O, (putsP_iff _ _ _ _ hhv1).2 ⟨fun p hp => ⟨rfl, emptyO_at.2 (a p hp)⟩, b, c⟩, if_pos d⟩
  have hI : ownI ws vs = some O ↔ (∀ p ∈ Cw, stW ws p.1 = 3 ∧ p.1 < ws.length) ∧ (at1 Cw).Nodup ∧ BlkOk ws Cw ws.length ∧ O = finO (emptyO ws.length) (Cw ++ headC ws ws.length) := by
    unfold ownI
    rw [hCw, Option.bind_eq_some_iff]
    constructor
    · rintro ⟨O', h1, h2⟩
      obtain ⟨a, b, c⟩ := (putsP_iff _ _ _ _ hwv1).1 h1
      have hw : ∀ p ∈ Cw, stW ws p.1 = 3 ∧ p.1 < ws.length := fun p hp => ⟨heldW_iff.1 (a p hp).1, emptyO_at.1 (a p hp).2⟩
      rw [c] at h2
      obtain ⟨d, e⟩ := (blocks_iff hw hwv b _ (Nat.le_refl _) O).1 h2
      exact ⟨hw, b, d, e⟩
    · rintro ⟨a, b, c, d⟩
      exact ⟨_, (putsP_iff _ _ _ _ hwv1).2 ⟨fun p hp => ⟨heldW_iff.2 (a p hp).1, emptyO_at.2 (a p hp).2⟩, b, rfl⟩, (blocks_iff a hwv b _ (Nat.le_refl _) O).2 ⟨c, d⟩⟩
  have hmem : ∀ p, p ∈ headC ws ws.length ++ Cw ↔ p ∈ Cw ++ headC ws ws.length := fun p => by simp [or_comm]
  rw [hS, hI]
  constructor
  · rintro ⟨a, b, c, d⟩
    have b' : (at1 (Cw ++ headC ws ws.length)).Nodup := by rw [at1_app] at b ⊢; exact nodup_turn b
    have hval : ∀ p, p ∈ headC ws ws.length ++ Cw → O[p.1]? = some p.2 := fun p hp => by rw [c]; exact finO_some b hp (a p hp)
    have hno : ∀ j, j ∉ at1 (Cw ++ headC ws ws.length) → j < ws.length → O[j]? = some (-1) := fun j hj hl => by
      rw [c]
      exact finO_none (fun h => hj (by obtain ⟨p, hp, e⟩ := mem_at1.1 h; exact mem_at1.2 ⟨p, (hmem p).1 hp, e⟩)) hl
    refine ⟨fun p hp => ⟨?_, a p (List.mem_append_right _ hp)⟩, ?_, ⟨fun p hp => a p (List.mem_append_left _ hp), b', fun p hp => ?_, fun i hi hi3 => ?_⟩, ?_⟩
    · have h1 := d p.1 (a p (List.mem_append_right _ hp))
      have h2 := hval p (List.mem_append_right _ hp)
      have h3 := hwv p hp
      unfold FitO at h1
      by_cases e : stW ws p.1 = 3
      · exact e
      · exact absurd (.inr (.inl ⟨by rw [h2]; exact h3, e⟩)) h1
    · rw [at1_app, List.nodup_append] at b; exact b.2.1
    · have h1 := d p.1 (a p (List.mem_append_left _ hp))
      have h2 := hval p (List.mem_append_left _ hp)
      rw [headC_val hp] at h2
      unfold FitO at h1
      by_cases e : stW ws p.1 = 3
      · exact .inl e
      · by_cases e2 : stW ws p.1 = 2
        · exact .inr ⟨e2, a p (List.mem_append_left _ hp)⟩
        · exact absurd (.inr (.inr ⟨h2, e, e2⟩)) h1
    · by_cases hm : i ∈ at1 (Cw ++ headC ws ws.length)
      · exact hm
      · have h1 := d i hi
        unfold FitO at h1
        exact absurd (.inl ⟨hno i hm hi, .inl hi3⟩) h1
    · rw [c]; exact finO_same b b' hmem a
  · rintro ⟨a, b, ⟨c1, c2, c3, c4⟩, e⟩
    have b' : (at1 (headC ws ws.length ++ Cw)).Nodup := by rw [at1_app] at c2 ⊢; exact nodup_turn c2
    have hin : ∀ p ∈ Cw ++ headC ws ws.length, p.1 < ws.length := fun p hp => by
      rcases List.mem_append.1 hp with hp | hp
      · exact (a p hp).2
      · exact c1 p hp
    have hval : ∀ p, p ∈ Cw ++ headC ws ws.length → O[p.1]? = some p.2 := fun p hp => by rw [e]; exact finO_some c2 hp (hin p hp)
    refine ⟨fun p hp => hin p ((hmem p).1 hp), b', by rw [e]; exact finO_same c2 b' (fun p => (hmem p).symm) hin, fun i hi => ?_⟩
    unfold FitO
    by_cases hm : i ∈ at1 (Cw ++ headC ws ws.length)
    · obtain ⟨p, hp, rfl⟩ := mem_at1.1 hm
      have h2 := hval p hp
      rcases List.mem_append.1 hp with hp | hp
      · have h3 := (a p hp).1
        have h4 := hwv p hp
        rintro (⟨x, _⟩ | ⟨_, x⟩ | ⟨_, x, _⟩)
        · rw [h2] at x; injection x with x; omega
        · exact x h3
        · exact x h3
      · have h3 := c3 p hp
        rw [headC_val hp] at h2
        rintro (⟨x, _⟩ | ⟨x, _⟩ | ⟨_, x, y⟩)
        · rw [h2] at x; injection x with x; omega
        · rw [h2] at x; simp at x
        · omega
    · have h2 : O[i]? = some (-1) := by rw [e]; exact finO_none hm hi
      rintro (⟨_, x | x⟩ | ⟨x, _⟩ | ⟨x, _⟩)
      · exact hm (c4 i hi x)
      · rcases stW_cases ws i with h | h | h | h
        · omega
        · omega
        · exact hm (mem_at1.2 ⟨(i, -2), List.mem_append_right _ (mem_headC.2 ⟨rfl, i, hi, Nat.le_refl _, by show i < i + _; omega⟩), rfl⟩)
        · omega
      · rw [h2] at x; simp at x
      · rw [h2] at x; injection x with x; omega

end Go.Proofs.YtefcaeldkdbjdaaGreat
