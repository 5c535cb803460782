/- What a lane is answered, in plain words. -/
import Derived.Test.YthcchnaoenjhlaaFcM
import Derived.Test.YthcchnaoenjhlaaOwnF
import Derived.Test.YthcchnaoenjhlaaOwnK
import Derived.Test.YthcchnaoenjhlaaNewB
namespace Go.Proofs.Ythcchnaoenjhlaa
open Go.RowKit

def ansV (f : Fc) : Int := if f.k = 1 then f.a else if f.k = 2 then 1 else -2
/-- The answers of a lane. -/
def ansL (fs : List Fc) (i l : Int) : List Int := (fs.filter (fun f => decide (f.i = i ∧ f.l = l))).map ansV
def answersV (fs : List Fc) (i l : Int) : List Int := if fs.length ≤ 2000 then ansL fs i l else []
theorem ansL_next {fs : List Fc} {k : Nat} (i l : Int) (h : k < fs.length) : ansL (fs.take (k + 1)) i l = ansL (fs.take k) i l ++ (if (fat fs k).i = i ∧ (fat fs k).l = l then [ansV (fat fs k)] else []) := by
  rw [take_succ_f h]
  unfold ansL
  rw [List.filter_append, List.map_append]
  congr 1
  by_cases hc : (fat fs k).i = i ∧ (fat fs k).l = l <;> simp [hc]
theorem ansL_len (fs : List Fc) (i l : Int) : (ansL fs i l).length ≤ fs.length := by
  unfold ansL
  rw [List.length_map]
  exact List.length_filter_le _ _
theorem answersV_len (fs : List Fc) (i l : Int) : (answersV fs i l).length ≤ 2000 := by
  unfold answersV
  split
  · have := ansL_len fs i l; omega
  · simp

end Go.Proofs.Ythcchnaoenjhlaa
