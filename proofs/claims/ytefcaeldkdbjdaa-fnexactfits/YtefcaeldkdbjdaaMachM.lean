/- Who owns which chunk of a machine, in plain lists. -/
import Derived.Test.YtefcaeldkdbjdaaCtlP
namespace Go.Proofs.Ytefcaeldkdbjdaa
set_option linter.unusedVariables false

/-- A claim of a chunk: the chunk, and who claims it. -/
def putP (H : Nat → Bool) (O : List Int) (p : Nat × Int) : Option (List Int) := if H p.1 = true ∧ O[p.1]? = some (-1) then some (O.set p.1 p.2) else none
/-- Claims one after another: each must be of a chunk that exists, that H admits, and that is nobody's. -/
def putsP (H : Nat → Bool) : List Int → List (Nat × Int) → Option (List Int)
  | O, [] => some O
  | O, p :: C => (putP H O p).bind fun O' => putsP H O' C
/-- What a list of owners is behind claims that succeed. -/
def finO (O : List Int) (C : List (Nat × Int)) : List Int := C.foldl (fun O p => O.set p.1 p.2) O
theorem putsP_app (H : Nat → Bool) : ∀ (O : List Int) (C D : List (Nat × Int)), putsP H O (C ++ D) = (putsP H O C).bind fun O' => putsP H O' D
  | O, [], D => rfl
  | O, p :: C, D => by
    simp only [List.cons_append, putsP]
    cases h : putP H O p with
    | none => rfl
    | some O' => simp only [Option.bind_some]; exact putsP_app H O' C D
theorem finO_app (O : List Int) (C D : List (Nat × Int)) : finO O (C ++ D) = finO (finO O C) D := by simp [finO]
theorem finO_len : ∀ (C : List (Nat × Int)) (O : List Int), (finO O C).length = O.length
  | [], O => rfl
  | p :: C, O => by
    have := finO_len C (O.set p.1 p.2)
    simp only [finO, List.foldl_cons] at this ⊢
    rw [this]; simp
/-- What is not claimed stays. -/
theorem finO_not : ∀ (C : List (Nat × Int)) (O : List Int) (j : Nat), j ∉ C.map Prod.fst → (finO O C)[j]? = O[j]?
  | [], O, j, _ => rfl
  | p :: C, O, j, h => by
    simp only [List.map_cons, List.mem_cons, not_or] at h
    have := finO_not C (O.set p.1 p.2) j h.2
    simp only [finO, List.foldl_cons] at this ⊢
    rw [this, List.getElem?_set_ne (fun e => h.1 e.symm)]
/-- What is claimed once is the claimer's. -/
theorem finO_yes : ∀ (C : List (Nat × Int)) (O : List Int) (p : Nat × Int), (C.map Prod.fst).Nodup → p ∈ C → p.1 < O.length → (finO O C)[p.1]? = some p.2
  | [], O, p, _, h, _ => by simp at h
  | q :: C, O, p, hn, h, hl => by
    simp only [List.map_cons, List.nodup_cons] at hn
    rcases List.mem_cons.1 h with rfl | h
    · have := finO_not C (O.set p.1 p.2) p.1 hn.1
      simp only [finO, List.foldl_cons] at this ⊢
      rw [this]; simp [hl]
    · have := finO_yes C (O.set q.1 q.2) p hn.2 h (by simpa using hl)
      simpa only [finO, List.foldl_cons] using this
/-- When claims succeed. -/
theorem putsP_iff (H : Nat → Bool) : ∀ (C : List (Nat × Int)) (O O' : List Int), (∀ p ∈ C, p.2 ≠ -1) → (putsP H O C = some O' ↔ (∀ p ∈ C, H p.1 = true ∧ O[p.1]? = some (-1)) ∧ (C.map Prod.fst).Nodup ∧ O' = finO O C)
  | [], O, O', _ => by
    constructor
    · intro h
      injection h with h
      exact ⟨fun p hp => by simp at hp, by simp, h.symm⟩
    · rintro ⟨_, _, h⟩
      rw [h]; rfl
  | q :: C, O, O', hv => by
    have ih := putsP_iff H C (O.set q.1 q.2) O' (fun p hp => hv p (List.mem_cons_of_mem _ hp))
    have hq := hv q (List.mem_cons_self ..)
    simp only [putsP, putP]
    by_cases h : H q.1 = true ∧ O[q.1]? = some (-1)
    · rw [if_pos h, Option.bind_some, ih]
      have hlt : q.1 < O.length := (List.getElem?_eq_some_iff.1 h.2).1
      constructor
      · rintro ⟨a, b, c⟩
        have hnot : q.1 ∉ C.map Prod.fst := by
          intro hm
          obtain ⟨p, hp, e⟩ := List.mem_map.1 hm
          have h2 := (a p hp).2
          rw [e] at h2
          simp [hlt] at h2
          exact hq h2
        refine ⟨fun p hp => ?_, ?_, ?_⟩
        · rcases List.mem_cons.1 hp with rfl | hp
          · exact h
          · have h2 := a p hp
            have hne : q.1 ≠ p.1 := fun e => hnot (e ▸ List.mem_map.2 ⟨p, hp, rfl⟩)
            rw [List.getElem?_set_ne hne] at h2
            exact h2
        · simp only [List.map_cons, List.nodup_cons]; exact ⟨hnot, b⟩
        · rw [c]; rfl
      · rintro ⟨a, b, c⟩
        simp only [List.map_cons, List.nodup_cons] at b
        refine ⟨fun p hp => ?_, b.2, by rw [c]; rfl⟩
        have hne : q.1 ≠ p.1 := fun e => b.1 (e ▸ List.mem_map.2 ⟨p, hp, rfl⟩)
        rw [List.getElem?_set_ne hne]
        exact a p (List.mem_cons_of_mem _ hp)
    · rw [if_neg h]
      simp only [Option.bind_none]
      constructor
      · intro e; cases e
      · rintro ⟨a, _, _⟩
        exact absurd (a q (List.mem_cons_self ..)) h

/-- k chunks from a on, for v. -/
def runC (v : Int) (a k : Nat) : List (Nat × Int) := (List.range k).map fun j => (a + j, v)
theorem runC_next (v : Int) (a k : Nat) : runC v a (k + 1) = runC v a k ++ [(a + k, v)] := by simp [runC, List.range_succ]
theorem runC_cons (v : Int) (a k : Nat) : runC v a (k + 1) = (a, v) :: runC v (a + 1) k := by
  simp [runC, List.range_succ_eq_map, Function.comp_def, Nat.add_assoc, Nat.add_comm 1]
theorem mem_runC {v : Int} {a k : Nat} {p : Nat × Int} : p ∈ runC v a k ↔ p.2 = v ∧ a ≤ p.1 ∧ p.1 < a + k := by
  obtain ⟨x, y⟩ := p
  simp only [runC, List.mem_map, List.mem_range, Prod.mk.injEq]
  constructor
  · rintro ⟨j, hj, rfl, rfl⟩; exact ⟨rfl, by omega, by omega⟩
  · rintro ⟨rfl, h1, h2⟩; exact ⟨x - a, by omega, by omega, rfl⟩
theorem runC_pre (v : Int) (a : Nat) {j k : Nat} (h : j ≤ k) : ∃ D, runC v a k = runC v a j ++ D := by
  refine ⟨(runC v a k).drop j, ?_⟩
  have : runC v a j = (runC v a k).take j := by
    simp only [runC, ← List.map_take, List.take_range, Nat.min_eq_left h]
  rw [this, List.take_append_drop]

/-- The state and the run of the chunk's word; both 0 for a chunk that isn't there. -/
def stW (ws : List Nat) (i : Nat) : Nat := readN (ws[i]?.getD 0) (stOf (ws[i]?.getD 0))
def rnW (ws : List Nat) (i : Nat) : Nat := readN (ws[i]?.getD 0) (rnOf (ws[i]?.getD 0))
theorem stW_cases (ws : List Nat) (i : Nat) : (stW ws i = 0 ∧ rnW ws i = 0) ∨ (stW ws i = 1 ∧ rnW ws i = 0) ∨ (stW ws i = 2 ∧ 1 ≤ rnW ws i ∧ rnW ws i ≤ 16) ∨ (stW ws i = 3 ∧ rnW ws i = 0) := by
  unfold stW rnW readN
  generalize ws[i]?.getD 0 = X
  by_cases h : GoodX X
  · simp only [if_pos h]
    unfold GoodX at h
    by_cases h03 : stOf X = 0 ∨ stOf X = 3
    · have := (good_free (S := ((stOf X : Nat) : Int)) (by omega)).1 h
      omega
    · by_cases h1 : stOf X = 1
      · have e : ((stOf X : Nat) : Int) = 1 := by omega
        rw [e] at h
        have := ((good_page).1 h).2.2
        omega
      · by_cases h2 : stOf X = 2
        · have e : ((stOf X : Nat) : Int) = 2 := by omega
          rw [e] at h
          have := ((good_head).1 h).2.2
          unfold IsRun at this
          omega
        · exact absurd h (good_none (S := ((stOf X : Nat) : Int)) (by omega) (by omega) (by omega))
  · exact .inl ⟨if_neg h, if_neg h⟩
def heldW (ws : List Nat) (i : Nat) : Bool := decide (stW ws i = 3)
/-- The claims of the heads among the first k chunks, and of the first k warps. -/
def headC (ws : List Nat) : Nat → List (Nat × Int)
  | 0 => []
  | k + 1 => headC ws k ++ runC (-2) k (rnW ws k)
def warpC (vs : List (Nat × Nat)) : Nat → List (Nat × Int)
  | 0 => []
  | k + 1 => warpC vs k ++ runC (k : Int) (vs[k]?.getD (0, 0)).1 (vs[k]?.getD (0, 0)).2
theorem headC_val {ws : List Nat} : ∀ {k : Nat} {p : Nat × Int}, p ∈ headC ws k → p.2 = -2
  | 0, p, h => by simp [headC] at h
  | k + 1, p, h => by
    rcases List.mem_append.1 h with h | h
    · exact headC_val h
    · exact (mem_runC.1 h).1
theorem warpC_val {vs : List (Nat × Nat)} : ∀ {k : Nat} {p : Nat × Int}, p ∈ warpC vs k → 0 ≤ p.2 ∧ p.2 < k
  | 0, p, h => by simp [warpC] at h
  | k + 1, p, h => by
    rcases List.mem_append.1 h with h | h
    · have := warpC_val h; omega
    · have := (mem_runC.1 h).1; omega
def emptyO (n : Nat) : List Int := List.replicate n (-1)
/-- What a chunk's word and its owner must be. -/
def FitO (ws : List Nat) (O : List Int) (i : Nat) : Prop := ¬ ((O[i]? = some (-1) ∧ (stW ws i = 3 ∨ stW ws i = 2)) ∨ (0 ≤ (O[i]?.getD 0) ∧ stW ws i ≠ 3) ∨ (O[i]? = some (-2) ∧ stW ws i ≠ 3 ∧ stW ws i ≠ 2))
instance (ws : List Nat) (O : List Int) (i : Nat) : Decidable (FitO ws O i) := inferInstanceAs (Decidable (¬ _))
def FitAll (ws : List Nat) (O : List Int) (n : Nat) : Prop := ∀ i, i < n → FitO ws O i
instance (ws : List Nat) (O : List Int) (n : Nat) : Decidable (FitAll ws O n) := inferInstanceAs (Decidable (∀ i, i < n → _))
/-- The owners as the model finds them: the heads first, then the warps, then a look at all chunks. -/
def ownS (ws : List Nat) (vs : List (Nat × Nat)) : Option (List Int) :=
  (putsP (fun _ => true) (emptyO ws.length) (headC ws ws.length ++ warpC vs vs.length)).bind fun O => if FitAll ws O ws.length then some O else none
/-- The program's second part: the chunks of the large blocks. -/
def blocksF (ws : List Nat) : Nat → List Int → Option (List Int)
  | 0, O => some O
  | k + 1, O => (blocksF ws k O).bind fun O' =>
    if stW ws k = 2 then putsP (heldW ws) (O'.set k (-2)) (runC (-2) (k + 1) (rnW ws k - 1))
    else if stW ws k = 3 then (if O'[k]? = some (-1) then none else some O') else some O'
/-- The owners as the program finds them: the warps first, then the large blocks. -/
def ownI (ws : List Nat) (vs : List (Nat × Nat)) : Option (List Int) :=
  (putsP (heldW ws) (emptyO ws.length) (warpC vs vs.length)).bind fun O => blocksF ws ws.length O

end Go.Proofs.Ytefcaeldkdbjdaa
