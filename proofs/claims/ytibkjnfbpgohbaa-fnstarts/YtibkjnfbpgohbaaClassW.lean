/- The contracts of ClassSize, PerPage, ClassOf and ChunksFor, of the program and of the model: plain numbers, nothing in memory turns. -/
import Derived.Test.YtibkjnfbpgohbaaBase
namespace Go.Proofs.Ytibkjnfbpgohbaa
open Go.RowKit

/-- A class of blocks. -/
def IsClass (k : Int) : Prop := 0 ≤ k ∧ k < 5
instance (k : Int) : Decidable (IsClass k) := inferInstanceAs (Decidable (0 ≤ k ∧ k < 5))
theorem five {k : Int} (h : IsClass k) : k = 0 ∨ k = 1 ∨ k = 2 ∨ k = 3 ∨ k = 4 := by unfold IsClass at h; omega
/-- The words of a block, and the blocks of a page. -/
def sizeV (k : Int) : Int := if k = 0 then 1 else if k = 1 then 2 else if k = 2 then 4 else if k = 3 then 8 else if k = 4 then 16 else 0
def perV (k : Int) : Int := if k = 0 then 16 else if k = 1 then 8 else if k = 2 then 4 else if k = 3 then 2 else if k = 4 then 1 else 0
theorem sizeV_not {k : Int} (h : ¬ IsClass k) : sizeV k = 0 := by unfold IsClass at h; unfold sizeV; split <;> (try omega); repeat (split <;> try omega)
theorem perV_not {k : Int} (h : ¬ IsClass k) : perV k = 0 := by unfold IsClass at h; unfold perV; split <;> (try omega); repeat (split <;> try omega)
/-- The class of a size, and the chunks of a large one. -/
def classV (s : Int) : Int := if s < 1 then -1 else if s ≤ 1 then 0 else if s ≤ 2 then 1 else if s ≤ 4 then 2 else if s ≤ 8 then 3 else if s ≤ 16 then 4 else -1
def chunksV (s : Int) : Int := if s ≤ 16 ∨ 256 < s then 0 else (s + 16 - 1) / 16

set_option maxHeartbeats 400000 in
theorem isClass_any (k : Int) (w : World) :
    Calls Try.prog 12 #[.int .i64 k] w fun e w' => e = .returned (.bool (decide (IsClass k))) ∧ w = w' := by
  by_cases h0 : 0 ≤ k
  · by_cases h1 : k < 5
    · have hd : Hid (decide (IsClass k) = true) := decide_eq_true ⟨h0, h1⟩
      go_enter Try.func12, Try.ntmps12
      go_wp2
      go_ret
      exact ⟨by rw [hd.out]; rfl, rfl⟩
    · have hd : Hid (decide (IsClass k) = false) := decide_eq_false (fun h => h1 h.2)
      go_enter Try.func12, Try.ntmps12
      go_wp2
      go_ret
      exact ⟨by rw [hd.out]; rfl, rfl⟩
  · have hd : Hid (decide (IsClass k) = false) := decide_eq_false (fun h => h0 h.1)
    go_enter Try.func12, Try.ntmps12
    go_wp2
    go_ret
    exact ⟨by rw [hd.out]; rfl, rfl⟩

set_option maxHeartbeats 400000 in
theorem sIsClass_any (k : Int) (w : World) :
    Calls Try.prog 13 #[.int .i64 k] w fun e w' => e = .returned (.bool (decide (IsClass k))) ∧ w = w' := by
  by_cases h0 : 0 ≤ k
  · by_cases h1 : k < 5
    · have hd : Hid (decide (IsClass k) = true) := decide_eq_true ⟨h0, h1⟩
      go_enter Try.func13, Try.ntmps13
      go_wp2
      go_ret
      exact ⟨by rw [hd.out]; rfl, rfl⟩
    · have hd : Hid (decide (IsClass k) = false) := decide_eq_false (fun h => h1 h.2)
      go_enter Try.func13, Try.ntmps13
      go_wp2
      go_ret
      exact ⟨by rw [hd.out]; rfl, rfl⟩
  · have hd : Hid (decide (IsClass k) = false) := decide_eq_false (fun h => h0 h.1)
    go_enter Try.func13, Try.ntmps13
    go_wp2
    go_ret
    exact ⟨by rw [hd.out]; rfl, rfl⟩

theorem chunksV_out {s : Int} (h : s ≤ 16 ∨ 256 < s) : chunksV s = 0 := if_pos h
theorem chunksV_in {s : Int} (h1 : 16 < s) (h2 : s ≤ 256) : chunksV s = (s + 16 - 1) / 16 := if_neg (by omega)

theorem classV_low {s : Int} (h : s < 1) : classV s = -1 := if_pos h
theorem classV_high {s : Int} (h : 16 < s) : classV s = -1 := by unfold classV; repeat (split <;> try omega)
theorem classV_at {s : Int} {k : Nat} (hk : k < 5) (h : (2 : Int) ^ k ≥ s) (h0 : 1 ≤ s) (h1 : k = 0 ∨ (2 : Int) ^ (k - 1) < s) : classV s = k := by
  unfold classV
  rcases (show k = 0 ∨ k = 1 ∨ k = 2 ∨ k = 3 ∨ k = 4 by omega) with rfl | rfl | rfl | rfl | rfl <;> simp at h h1 <;> repeat (split <;> try omega)

end Go.Proofs.Ytibkjnfbpgohbaa
