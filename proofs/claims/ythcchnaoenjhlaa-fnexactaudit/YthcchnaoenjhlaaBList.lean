/- The contract of the program's BitList: the numbers of the set bits in ascending order, in memory of its own. -/
import Derived.Test.YthcchnaoenjhlaaTake
import Derived.Maps.AppendAt
namespace Go.Proofs.Ythcchnaoenjhlaa
open Go.RowKit Go.Shelf

attribute [local go_sem] Oper.semAt_some

theorem ints_vals (l : List (Fin 32)) (x : Fin 32) : (ints (vals (l ++ [x]))).map (Value.int .i64) = (ints (vals l)).map (Value.int .i64) ++ [.int .i64 (x.val : Int)] := by simp [ints, vals]

end Go.Proofs.Ythcchnaoenjhlaa
