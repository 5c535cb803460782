/- Small facts by which a law's walk carries what it knows from one call to the next. -/
import Derived.Test.YtiliahmaolnfbaaMark
import Derived.Deep.RegionHeld3
namespace Go.Proofs.Ytiliahmaolnfbaa
open Go.RowKit

section
variable {w w' : World} {row : Option Nat} {b0 B n c : Nat} {A : Option Addr} {zs : List Int}
theorem own_far (h : Own w b0 A n c zs) (hg : w.grownBy w' row) (hne : ∀ g, (Value.slice A n c).ownBlock = some g → row ≠ some g) : Own w' b0 A n c zs := by
  refine World.ownsRow.kept h hg ?_
  cases hv : (Value.slice A n c).ownBlock with
  | none => exact .inl rfl
  | some g => exact .inr (fun e => hne g hv e.symm)
theorem rd_far (h : Rd w B A n zs) (hg : w.grownBy w' row) (hB : B ≤ w.heap.size) (hne : ∀ g, row = some g → B ≤ g) : Rd w' B A n zs :=
  h.keep fun p hp => World.cell?_of_block (hg.block p.block (by omega) (fun e => by have := hne _ e.symm; omega))
theorem cell_far {b o : Nat} {v : Value} (hg : w.grownBy w' row) (h : w.cell? ⟨b, o, none⟩ = some v) (hne : ∀ g, row = some g → g ≠ b) : w'.cell? ⟨b, o, none⟩ = some v :=
  hg.cell h (fun e => hne b e.symm rfl)
theorem own_range (h : Own w b0 A n c zs) : ∀ g, (Value.slice A n c).ownBlock = some g → b0 ≤ g ∧ g < w.heap.size := World.ownsRow.lt h
end

end Go.Proofs.Ytiliahmaolnfbaa
