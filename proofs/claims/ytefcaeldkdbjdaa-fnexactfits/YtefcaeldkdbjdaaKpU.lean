/- Owned words where all is kept but some rows. -/
import Derived.Test.YtefcaeldkdbjdaaKp
namespace Go.Proofs.Ytefcaeldkdbjdaa
open Go.RowKit

theorem Own.kp {w w' : World} {r : Nat → Prop} {b0 n c : Nat} {A : Option Addr} {zs : List Int} (h : Own w b0 A n c zs) (k : Kp r w w') (hn : ∀ g, (Value.slice A n c).ownBlock = some g → ¬ r g) : Own w' b0 A n c zs := row_kp h k hn
theorem later_at0 {w w' : World} {b o : Nat} {v : Value} (hb : Below w.heap.size w w') (h : w.cell? ⟨b, o, none⟩ = some v) : w'.cell? ⟨b, o, none⟩ = some v := later hb h

end Go.Proofs.Ytefcaeldkdbjdaa
