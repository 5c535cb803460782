/- The contracts of the model's CtlPack and CtlRead, and of the law's toCtl and eqCtl. -/
import Derived.Test.YtibkjnfbpgohbaaCtlP
import Derived.Test.YtibkjnfbpgohbaaSCtl
namespace Go.Proofs.Ytibkjnfbpgohbaa
open Go.RowKit

theorem good_bounds {S K : Int} {M : Nat} {R : Int} (h : CtlGood S K M R) : 0 ≤ S ∧ S ≤ 3 ∧ 0 ≤ K ∧ K ≤ 4 ∧ (M : Int) < 65536 ∧ 0 ≤ R ∧ R ≤ 16 := by
  rcases h with ⟨hs, rfl, rfl, rfl⟩ | ⟨rfl, hk, hm, rfl⟩ | ⟨rfl, rfl, rfl, hr⟩
  · omega
  · have h1 : M < 65536 := Nat.lt_of_lt_of_le hm.2 (lim_le hk)
    have h2 := hk.1
    have h3 := hk.2
    omega
  · have h2 := hr.1
    have h3 := hr.2
    omega
theorem packV_int {S K : Int} {M : Nat} {R : Int} (hS : 0 ≤ S) (hK : 0 ≤ K) (hR : 0 ≤ R) : ((packV S K M R : Nat) : Int) = (M : Int) + 65536 * K + 1048576 * S + 16777216 * R := by
  unfold packV; omega

theorem two_new0 {w w1 : World} {o1 o2 : Obj} (h : Below ((w.alloc o1).alloc o2).heap.size ((w.alloc o1).alloc o2) w1) : w1.heap[w.heap.size]? = some o1 ∧ w1.heap[w.heap.size + 1]? = some o2 ∧ Below w.heap.size w w1 ∧ w.heap.size + 2 ≤ w1.heap.size := two_new (n := 0) h

end Go.Proofs.Ytibkjnfbpgohbaa
