/- The model's cursor, its size and spot. -/
import Derived.Test.YtlaegdfaaoaiaaaCur
namespace Go.Proofs.Ytlaegdfaaoaiaaa
open Go.RowKit

set_option maxRecDepth 100000 in
set_option maxHeartbeats 4000000 in
theorem size_any (b : Nat) (A : Option Addr) (n c : Nat) (bs : List Int) (K : Nat) (N : Int) (w : World) (h : Cur w b A n c bs K) (hK : K ≤ 900000) (hN0 : 0 ≤ N) (hN : N ≤ 1000000) :
    Calls Try.prog 41 #[.pointer (some ⟨b, 0, none⟩), .int .i64 N] w (Picked (fun r => 0 ≤ r ∧ r ≤ N) .i64 b A n c bs (K + 1) w) := by
  have H := Lib.hid h
  obtain ⟨⟨a, s, hb, _⟩, _, _, hn⟩ := h
  have c0 : w.cell? ⟨b, 0, none⟩ = some (.slice A n c) := (cell_of_row w b 0 _ _ (0, 0) hb).trans rfl
  clear hb
  have n0 : (0 : Int) ≤ (n : Int) := by omega
  have n1 : (n : Int) ≤ 1048576 := by omega
  go_enter Try.func41, Try.ntmps41
  go_wp2_with fail
  all_goals
    refine (pick_any b A n c bs K _ _ H.out (by omega) (by omega)).mono ?_
    rintro e w1 ⟨r, rfl, ⟨p0, p1⟩, H1, G1⟩
    go_wp2
    go_ret
    exact ⟨r, rfl, ⟨p0, by omega⟩, H1, G1⟩

end Go.Proofs.Ytlaegdfaaoaiaaa
