/- Owned lists of facts and of blocks where all is kept but some rows. -/
import Derived.Test.YthcchnaoenjhlaaKp
import Derived.Test.YthcchnaoenjhlaaOwnF
import Derived.Test.YthcchnaoenjhlaaOwnP
namespace Go.Proofs.Ythcchnaoenjhlaa
open Go.RowKit

theorem OwnF.kp {w w' : World} {r : Nat → Prop} {b0 n c : Nat} {A : Option Addr} {fs : List Fc} (h : OwnF w b0 A n c fs) (k : Kp r w w') (hn : ∀ g, (Value.slice A n c).ownBlock = some g → ¬ r g) : OwnF w' b0 A n c fs := row_kp h k hn

theorem OwnP.kp {w w' : World} {r : Nat → Prop} {b0 n c : Nat} {A : Option Addr} {ps : List (Int × Int)} (h : OwnP w b0 A n c ps) (k : Kp r w w') (hn : ∀ g, (Value.slice A n c).ownBlock = some g → ¬ r g) : OwnP w' b0 A n c ps := row_kp h k hn

end Go.Proofs.Ythcchnaoenjhlaa
