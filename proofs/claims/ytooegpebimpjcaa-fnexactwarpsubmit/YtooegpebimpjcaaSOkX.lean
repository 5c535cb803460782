/- When a warp is valid, as the model asks it, in plain numbers. -/
/- Small facts on lists of lanes. -/
import Derived.Test.YtooegpebimpjcaaIWarpOk
import Derived.Test.YtooegpebimpjcaaSWell
import Derived.Test.YtooegpebimpjcaaSLane
import Derived.Test.YtooegpebimpjcaaSRow8
import Derived.Test.YtooegpebimpjcaaSRoom
namespace Go.Proofs.Ytooegpebimpjcaa
open Go.RowKit
set_option linter.unusedVariables false

theorem askTo_8 (kd : Int) (vs : List Int) : askTo kd vs 8 = askL kd vs := rfl
/-- What the model asks of all busy warps. -/
def Pre (ph pr hd ch : Int) : Prop := 0 ≤ ph ∧ 0 ≤ pr ∧ 0 ≤ hd ∧ pr ≤ ch ∧ hd ≤ 16
instance (ph pr hd ch : Int) : Decidable (Pre ph pr hd ch) := inferInstanceAs (Decidable (_ ∧ _))
theorem part_pre {kd v ph pr hd : Int} {sn : Nat} {ch : Int} (c0 : 0 ≤ ch) (c1 : ch ≤ 16) (h : PartOk kd v ph pr hd sn ch) : Pre ph pr hd ch := by
  have hr := chunksV_range v
  unfold PartOk at h
  unfold Pre
  rcases h with ⟨_, h⟩ | ⟨_, _, h⟩ | ⟨_, _, h⟩
  · unfold GiveOk at h
    rcases h with ⟨a, b, c, d⟩ | ⟨a, b, c, d, e⟩ | ⟨a, b, c, d, e⟩ <;> omega
  · obtain ⟨a, b, c, d, e, f, g⟩ := h
    omega
  · obtain ⟨a, b, c, (⟨d, e⟩ | ⟨d, e, f⟩)⟩ := h <;> omega
theorem part_seen {kd v ph pr hd : Int} {sn : Nat} {ch : Int} (h : PartOk kd v ph pr hd sn ch) (hs : ph ≠ 1 ∨ (kd = 1 ∧ 16 < v)) : sn = 0 := by
  unfold PartOk at h
  rcases h with ⟨_, h⟩ | ⟨_, _, h⟩ | ⟨_, _, h⟩
  · unfold GiveOk at h
    rcases h with ⟨a, b, c, d⟩ | ⟨a, b, c, d, e⟩ | ⟨a, b, c, d, e⟩ <;> omega
  · exact h.1
  · obtain ⟨a, b, c, (⟨d, e⟩ | ⟨d, e, f⟩)⟩ := h <;> omega
theorem part_large {kd v ph pr hd : Int} {sn : Nat} {ch : Int} (hk : kd = 1) (hv : 16 < v) (hs : sn = 0) (hp : Pre ph pr hd ch) : PartOk kd v ph pr hd sn ch ↔ LargeS (chunksV v) ph pr hd ch := by
  obtain ⟨p0, p1, p2, p3, p4⟩ := hp
  unfold PartOk LargeS
  constructor
  · rintro (⟨a, _⟩ | ⟨_, _, h⟩ | ⟨_, a, _⟩)
    · omega
    · exact ⟨h.2.2.2.2.1, h.2.2.2.2.2⟩
    · omega
  · rintro ⟨a, b, c⟩
    exact .inr (.inl ⟨by omega, hv, hs, p1, p3, p2, a, b, c⟩)
theorem part_small {kd v ph pr hd : Int} {sn : Nat} {ch : Int} (hk : kd = 1) (hv : ¬ 16 < v) (hs : ph ≠ 1 → sn = 0) (hp : Pre ph pr hd ch) : PartOk kd v ph pr hd sn ch ↔ (hd = 0 ∧ (ph = 0 ∨ (ph = 1 ∧ pr < ch) ∧ 0 < roomV sn (classV v))) := by
  obtain ⟨p0, p1, p2, p3, p4⟩ := hp
  unfold PartOk SmallOk
  constructor
  · rintro (⟨a, _⟩ | ⟨_, a, _⟩ | ⟨_, _, a, b, c, (⟨d, e⟩ | ⟨d, e, f⟩)⟩)
    · omega
    · omega
    · exact ⟨a, .inl d⟩
    · exact ⟨a, .inr ⟨⟨d, e⟩, by omega⟩⟩
  · rintro ⟨a, (b | ⟨⟨b, c⟩, d⟩)⟩
    · exact .inr (.inr ⟨by omega, by omega, a, p1, p3, .inl ⟨b, hs (by omega)⟩⟩)
    · exact .inr (.inr ⟨by omega, by omega, a, p1, p3, .inr ⟨b, c, by omega⟩⟩)
theorem part_give {kd v ph pr hd : Int} {sn : Nat} {ch : Int} (hk : kd = 2) (hs : ph ≠ 1 → sn = 0) (hp : Pre ph pr hd ch) :
    (ph = 0 → (PartOk kd v ph pr hd sn ch ↔ pr = 0 ∧ hd = 0)) ∧ (ph = 1 → (PartOk kd v ph pr hd sn ch ↔ ((pr = 0 ∧ hd = 0) ∧ v < 16 * ch) ∧ GivesX sn (v % 16))) ∧ (ph = 2 → (PartOk kd v ph pr hd sn ch ↔ 0 < hd ∧ pr + hd ≤ ch)) ∧ (ph ≠ 0 → ph ≠ 1 → ph ≠ 2 → ¬ PartOk kd v ph pr hd sn ch) := by
  obtain ⟨p0, p1, p2, p3, p4⟩ := hp
  have hg : PartOk kd v ph pr hd sn ch ↔ GiveOk v ph pr hd sn ch := by
    unfold PartOk
    exact ⟨fun h => h.elim (fun a => a.2) (fun a => absurd hk (a.elim (fun b => b.1) (fun b => b.1))), fun h => .inl ⟨hk, h⟩⟩
  rw [hg]
  unfold GiveOk
  refine ⟨fun a => ⟨?_, ?_⟩, fun a => ⟨?_, ?_⟩, fun a => ⟨?_, ?_⟩, fun a b c => ?_⟩
  · rintro (⟨a, b, c, d⟩ | ⟨a, b, c, d, e⟩ | ⟨a, b, c, d, e⟩) <;> omega
  · rintro ⟨b, c⟩; exact .inl ⟨a, b, c, hs (by omega)⟩
  · rintro (⟨a, b, c, d⟩ | ⟨a, b, c, d, e⟩ | ⟨a, b, c, d, e⟩)
    · omega
    · exact ⟨⟨⟨b, c⟩, d⟩, e⟩
    · omega
  · rintro ⟨⟨⟨b, c⟩, d⟩, e⟩; exact .inr (.inl ⟨a, b, c, d, e⟩)
  · rintro (⟨a, b, c, d⟩ | ⟨a, b, c, d, e⟩ | ⟨a, b, c, d, e⟩) <;> omega
  · rintro ⟨b, c⟩; exact .inr (.inr ⟨a, b, p1, by omega, hs (by omega)⟩)
  · rintro (⟨a, b, c, d⟩ | ⟨a, b, c, d, e⟩ | ⟨a, b, c, d, e⟩) <;> omega

end Go.Proofs.Ytooegpebimpjcaa

namespace Go.Proofs.Ytooegpebimpjcaa
open Go.RowKit

theorem mem_next {l : List Nat} {q t : Nat} (h : q < l.length) : decide (t ∈ l.take (q + 1)) = (decide (t ∈ l.take q) || (((l[q]?.getD 0 : Nat) : Int) == (t : Int))) := by
  rw [Bool.eq_iff_iff]
  simp only [Bool.or_eq_true, decide_eq_true_iff, beq_iff_eq]
  rw [List.take_succ_eq_append_getElem h, List.mem_append]
  have e : l[q]?.getD 0 = l[q] := by simp [h]
  rw [e, List.mem_singleton]
  exact ⟨fun x => x.elim .inl (fun y => .inr (by omega)), fun x => x.elim .inl (fun y => .inr (by omega))⟩
theorem ints_atD (l : List Nat) {k : Nat} (h : k < l.length) : (ints l)[k]?.getD 0 = ((l[k]?.getD 0 : Nat) : Int) := by simp [ints, h]
theorem calls_bel {P : Program} {f : Nat} {args : Array Value} {w : World} {x : Ending} (h : Calls P f args w fun e w' => e = x ∧ w = w') : Calls P f args w fun e w' => e = x ∧ Below w.heap.size w w' := h.mono fun e w' ⟨a, b⟩ => ⟨a, b ▸ Below.refl _ _⟩
theorem asks_len (kd : Int) (vs : List Int) : (askL kd vs).length ≤ 8 := askTo_len kd vs 8

end Go.Proofs.Ytooegpebimpjcaa
