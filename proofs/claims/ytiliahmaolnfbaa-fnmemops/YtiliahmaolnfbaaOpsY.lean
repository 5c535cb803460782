/- The contracts of the memory operations with the word and the outcome given by name, and the arithmetic that FnMemOps needs. -/
import Derived.Test.YtiliahmaolnfbaaSpec
import Derived.Test.YtiliahmaolnfbaaBitMath
import Derived.Laws.BitsAllLaws
namespace Go.Proofs.Ytiliahmaolnfbaa
open Go.RowKit

theorem sAddY (A : Option Addr) (n c B k : Nat) (x y : Int) (zs out : List Int) (w : World) (h : Rd w B A n zs) (hB : B ≤ w.heap.size) (hn : n ≤ 64) (hk : k < n) (hy : zs[k]?.getD 0 = y) (ho : zs.set k (addW y x) = out) (hz : 0 ≤ y ∧ y < 4294967296) (hx : 0 ≤ x ∧ x < 4294967296) :
    Calls Try.prog 18 #[.agg #[.slice A n c], .int .i64 k, .int .u32 x] w fun e w' => ∃ A' c', e = .returned (.tuple #[.agg #[.slice A' n c'], .int .u32 y, .bool true]) ∧ Own w' w.heap.size A' n c' out ∧ Below w.heap.size w w' := by
  subst hy ho
  exact sAdd A n c B k x zs w h hB hn hk hz hx

theorem iAddY (A : Option Addr) (n c B k : Nat) (x y : Int) (zs out : List Int) (w : World) (h : Rd w B A n zs) (hB : B ≤ w.heap.size) (hn : n ≤ 64) (hk : k < n) (hy : zs[k]?.getD 0 = y) (ho : zs.set k (addW y x) = out) (hz : 0 ≤ y ∧ y < 4294967296) (hx : 0 ≤ x ∧ x < 4294967296) :
    Calls Try.prog 19 #[.agg #[.slice A n c], .int .i64 k, .int .u32 x] w fun e w' => ∃ A' c', e = .returned (.tuple #[.agg #[.slice A' n c'], .int .u32 y, .bool true]) ∧ Own w' w.heap.size A' n c' out ∧ Below w.heap.size w w' := by
  subst hy ho
  exact iAdd A n c B k x zs w h hB hn hk hz hx

theorem iOrY (A : Option Addr) (n c B k : Nat) (x y : Int) (zs out : List Int) (w : World) (h : Rd w B A n zs) (hB : B ≤ w.heap.size) (hn : n ≤ 64) (hk : k < n) (hy : zs[k]?.getD 0 = y) (ho : zs.set k (bits .or .u32 y x) = out) :
    Calls Try.prog 21 #[.agg #[.slice A n c], .int .i64 k, .int .u32 x] w fun e w' => ∃ A' c', e = .returned (.tuple #[.agg #[.slice A' n c'], .int .u32 y, .bool true]) ∧ Own w' w.heap.size A' n c' out ∧ Below w.heap.size w w' := by
  subst hy ho
  exact iOr A n c B k x zs w h hB hn hk

theorem iAndY (A : Option Addr) (n c B k : Nat) (x y : Int) (zs out : List Int) (w : World) (h : Rd w B A n zs) (hB : B ≤ w.heap.size) (hn : n ≤ 64) (hk : k < n) (hy : zs[k]?.getD 0 = y) (ho : zs.set k (bits .and .u32 y x) = out) :
    Calls Try.prog 22 #[.agg #[.slice A n c], .int .i64 k, .int .u32 x] w fun e w' => ∃ A' c', e = .returned (.tuple #[.agg #[.slice A' n c'], .int .u32 y, .bool true]) ∧ Own w' w.heap.size A' n c' out ∧ Below w.heap.size w w' := by
  subst hy ho
  exact iAnd A n c B k x zs w h hB hn hk

theorem iLoadY (A : Option Addr) (n c B k : Nat) (y : Int) (zs : List Int) (w : World) (h : Rd w B A n zs) (hB : B ≤ w.heap.size) (hn : n ≤ 64) (hk : k < n) (hy : zs[k]?.getD 0 = y) :
    Calls Try.prog 23 #[.agg #[.slice A n c], .int .i64 k] w fun e w' => e = .returned (.tuple #[.int .u32 y, .bool true]) ∧ Below w.heap.size w w' := by
  subst hy
  exact iLoad A n c B k zs w h hB hn hk

theorem iStoreY (A : Option Addr) (n c B k : Nat) (x : Int) (zs out : List Int) (w : World) (h : Rd w B A n zs) (hB : B ≤ w.heap.size) (hn : n ≤ 64) (hk : k < n) (ho : zs.set k x = out) :
    Calls Try.prog 24 #[.agg #[.slice A n c], .int .i64 k, .int .u32 x] w fun e w' => ∃ A' c', e = .returned (.tuple #[.agg #[.slice A' n c'], .bool true]) ∧ Own w' w.heap.size A' n c' out ∧ Below w.heap.size w w' := by
  subst ho
  exact iStore A n c B k x zs w h hB hn hk

/-- What FnMemOps says of the word y at k and its three outcomes. -/
structure OpsMath (ws za zo zn : List Int) (k : Nat) (x y v p q : Int) : Prop where
  at_ : ws[k]?.getD 0 = y
  hy : 0 ≤ y ∧ y < 4294967296
  hv : 0 ≤ v ∧ v < 4294967296
  add : ws.set k (addW y x) = za
  or : ws.set k (bits .or .u32 y x) = zo
  and : ws.set k (bits .and .u32 y x) = zn
  aat : za[k]?.getD 0 = v
  oat : zo[k]?.getD 0 = p
  nat : zn[k]?.getD 0 = q
  back : ∀ u, u = -x % 4294967296 → za.set k (addW v u) = ws
  store : za.set k y = ws
  sum : p + q = y + x
  aoff : ∀ j, ¬ j = k → za[j]?.getD 0 = ws[j]?.getD 0
  ooff : ∀ j, ¬ j = k → zo[j]?.getD 0 = ws[j]?.getD 0
  noff : ∀ j, ¬ j = k → zn[j]?.getD 0 = ws[j]?.getD 0

theorem set_here {ws : List Int} {k : Nat} {x : Int} (h : k < ws.length) : (ws.set k x)[k]?.getD 0 = x := by simp [h]
theorem set_else {ws : List Int} {k j : Nat} {x : Int} (h : ¬ j = k) : (ws.set k x)[j]?.getD 0 = ws[j]?.getD 0 := by
  rw [List.getElem?_set_ne (fun e => h e.symm)]
theorem set_same {ws : List Int} {k : Nat} (h : k < ws.length) : ws.set k (ws[k]?.getD 0) = ws := by simp [h]

theorem sum_bits (y x : Int) (hy : 0 ≤ y ∧ y < 4294967296) (hx : 0 ≤ x ∧ x < 4294967296) : bits .or .u32 y x + bits .and .u32 y x = y + x := by
  obtain ⟨a, rfl⟩ := Int.eq_ofNat_of_zero_le hy.1
  obtain ⟨b, rfl⟩ := Int.eq_ofNat_of_zero_le hx.1
  have ha : a < 4294967296 := by omega
  have hb : b < 4294967296 := by omega
  rw [u32_or_nat a b ha hb, u32_and_nat a b ha hb]
  have := or_and_sum 32 a b ha hb
  omega

theorem ops_math (ws : List Int) (k : Nat) (x : Int) (hw : ∀ z ∈ ws, 0 ≤ z ∧ z < 4294967296) (hk : k < ws.length) (hx : 0 ≤ x ∧ x < 4294967296) : ∃ za zo zn y v p q, OpsMath ws za zo zn k x y v p q := by
  have hy : 0 ≤ ws[k]?.getD 0 ∧ ws[k]?.getD 0 < 4294967296 := by
    have := hw (ws[k]) (List.getElem_mem hk)
    simpa [hk] using this
  refine ⟨_, _, _, ws[k]?.getD 0, addW (ws[k]?.getD 0) x, bits .or .u32 (ws[k]?.getD 0) x, bits .and .u32 (ws[k]?.getD 0) x, ⟨rfl, hy, ?_, rfl, rfl, rfl, set_here hk, set_here hk, set_here hk, ?_, ?_, sum_bits _ _ hy hx, fun j h => set_else h, fun j h => set_else h, fun j h => set_else h⟩⟩
  · unfold addW; omega
  · intro u hu
    rw [List.set_set]
    have e : addW (addW (ws[k]?.getD 0) x) u = ws[k]?.getD 0 := by subst hu; unfold addW; omega
    rw [e, set_same hk]
  · rw [List.set_set, set_same hk]

end Go.Proofs.Ytiliahmaolnfbaa
