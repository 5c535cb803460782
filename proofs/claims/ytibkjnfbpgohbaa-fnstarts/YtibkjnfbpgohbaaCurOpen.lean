/- How the model's cursor is opened, and small facts for the draws. -/
import Derived.Test.YtibkjnfbpgohbaaCur
namespace Go.Proofs.Ytibkjnfbpgohbaa
open Go.RowKit

theorem free_blk {w : World} {g : Nat} {cs : Array Value} {t : TypeId} (h : w.heap[g]? = some (.cells cs t (0, 0))) (i : Nat) : w.frozen? ⟨g, i, none⟩ = false := by simp [World.frozen?, h]
theorem gnew {w w' : World} {row : Option Nat} (h : w.grownBy w' row) {g o : Nat} (hg : w.heap.size ≤ g) (v : Value) : w.grownBy (w'.setCell ⟨g, o, none⟩ v) row :=
  ⟨h.os, h.tape, h.output, by simpa [World.setCell] using h.size, fun i hi hne => (Below.heap_setCell w' ⟨g, o, none⟩ v i (by show i ≠ g; omega)).trans (h.block i hi hne)⟩
theorem rdk_more {kd : IntKind} {w : World} {B B' n : Nat} {A : Option Addr} {zs : List Int} (h : RdK kd w B A n zs) (hB : B ≤ B') : RdK kd w B' A n zs :=
  ⟨h.1, fun hn => by
    obtain ⟨g, o, e, hg, hc⟩ := h.2 hn
    exact ⟨g, o, e, by omega, hc⟩⟩

set_option maxHeartbeats 1000000 in
theorem open_cur (A : Option Addr) (n c : Nat) (bs : List Int) (w : World) (h : RdK .u8 w w.heap.size A n bs) (hf : ∀ z ∈ bs, 0 ≤ z ∧ z < 256) (hn : n ≤ 1048576) :
    Calls Try.prog 8 #[.slice A n c] w fun e w' => e = .returned (.pointer (some ⟨w.heap.size, 0, none⟩)) ∧ Hid (Cur w' w.heap.size A n c bs 0) ∧ Hid (Below w.heap.size w w') := by
  have H := Lib.hid h
  have HF := Lib.hid hf
  clear h hf
  have n0 : (0 : Int) ≤ (n : Int) := by omega
  have n1 : (n : Int) ≤ 1048576 := by omega
  go_enter Try.func8, Try.ntmps8
  go_wp2
  go_ret
  refine ⟨rfl, ⟨⟨0, _, heap_alloc_new w _, by omega, by omega, ?_, ?_⟩, H.out.alloc (Nat.le_refl _) _, HF.out, hn⟩, (Below.refl _ _).alloc (Nat.le_refl _) _⟩
  all_goals omega

theorem below_of_grown {w w1 w' : World} {b B : Nat} (h : Below B w w1) (g : w1.grownBy w' (some b)) (hb : B ≤ b) (hs : B ≤ w1.heap.size) : Below B w w' :=
  h.grown g hs (fun k hk => by injection hk; omega)

end Go.Proofs.Ytibkjnfbpgohbaa
