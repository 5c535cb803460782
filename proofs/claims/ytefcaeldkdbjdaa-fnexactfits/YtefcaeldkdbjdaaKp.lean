/- Worlds of which all old blocks are kept but some: how facts on owned slices are carried across. -/
import Derived.Test.YtefcaeldkdbjdaaOwnK
namespace Go.Proofs.Ytefcaeldkdbjdaa
open Go.RowKit

/-- Every old block is kept, but those of r. -/
structure Kp (r : Nat → Prop) (w w' : World) : Prop where
  os : w'.os = w.os
  tape : w'.tape = w.tape
  output : w'.output = w.output
  size : w.heap.size ≤ w'.heap.size
  block : ∀ k, k < w.heap.size → ¬ r k → w'.heap[k]? = w.heap[k]?

theorem Kp.refl (r : Nat → Prop) (w : World) : Kp r w w := ⟨rfl, rfl, rfl, Nat.le_refl _, fun _ _ _ => rfl⟩
theorem Kp.of_below {r : Nat → Prop} {w w' : World} (h : Below w.heap.size w w') : Kp r w w' := ⟨h.os, h.tape, h.output, h.size, fun k hk _ => h.block k hk⟩
theorem Kp.of_grown {r : Nat → Prop} {w w' : World} {row : Option Nat} (h : w.grownBy w' row) (hr : ∀ k, some k = row → r k) : Kp r w w' := ⟨h.os, h.tape, h.output, h.size, fun k hk hn => h.block k hk (fun e => hn (hr k e))⟩
theorem Kp.mono {r s : Nat → Prop} {w w' : World} (h : Kp r w w') (hs : ∀ k, r k → s k) : Kp s w w' := ⟨h.os, h.tape, h.output, h.size, fun k hk hn => h.block k hk (fun a => hn (hs k a))⟩
theorem Kp.trans {r : Nat → Prop} {a b c : World} (h : Kp r a b) (k : Kp r b c) : Kp r a c :=
  ⟨k.os.trans h.os, k.tape.trans h.tape, k.output.trans h.output, Nat.le_trans h.size k.size, fun i hi hn => (k.block i (Nat.lt_of_lt_of_le hi h.size) hn).trans (h.block i hi hn)⟩
theorem Kp.bel {r : Nat → Prop} {B : Nat} {a w w' : World} (h : Kp r w w') (hb : Below B a w) (hB : B ≤ w.heap.size) (hr : ∀ k, r k → B ≤ k) : Below B a w' :=
  ⟨h.os.trans hb.os, h.tape.trans hb.tape, h.output.trans hb.output, Nat.le_trans hb.size h.size, fun k hk => (h.block k (by omega) (fun a => by have := hr k a; omega)).trans (hb.block k hk)⟩
theorem row_kp {w w' : World} {r : Nat → Prop} {b0 : Nat} {e : TypeId} {s n : Nat} {v : Value} {xs : List Value} (h : w.ownsRow b0 e s v n xs) (k : Kp r w w') (hn : ∀ g, v.ownBlock = some g → ¬ r g) : w'.ownsRow b0 e s v n xs := by
  refine ⟨h.1, ?_⟩
  rcases h.2 with h2 | ⟨g, cap, cur, hv, hg, hh, q⟩
  · exact .inl h2
  · refine .inr ⟨g, cap, cur, hv, hg, ?_, q⟩
    rw [k.block g (Array.getElem?_eq_some_iff.1 hh).1 (hn g (by rw [hv]; rfl))]
    exact hh
theorem OwnK.kp {e : TypeId} {kd : IntKind} {w w' : World} {r : Nat → Prop} {b0 n c : Nat} {A : Option Addr} {zs : List Int} (h : OwnK e kd w b0 A n c zs) (k : Kp r w w') (hn : ∀ g, (Value.slice A n c).ownBlock = some g → ¬ r g) : OwnK e kd w' b0 A n c zs := row_kp h k hn

/-- The blocks of two slices. -/
def In2 (u v : Value) (k : Nat) : Prop := some k = u.ownBlock ∨ some k = v.ownBlock

end Go.Proofs.Ytefcaeldkdbjdaa
