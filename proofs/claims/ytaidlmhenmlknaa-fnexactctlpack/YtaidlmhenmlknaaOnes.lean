/- The contracts of the program's Ones, Lowest and Highest: the number of set bits, the lowest, the highest. -/
import Derived.Test.YtaidlmhenmlknaaIter
import Derived.Test.YtaidlmhenmlknaaSBits
namespace Go.Proofs.Ytaidlmhenmlknaa
open Go.RowKit Go.Shelf

attribute [local go_sem] Oper.semAt_some

theorem len_vals (l : List (Fin 32)) : (l.map (fun k => k.val)).length = l.length := by simp

end Go.Proofs.Ytaidlmhenmlknaa
