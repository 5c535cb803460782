/- The comparison of two blocks that the program sorts by: address first, then size. -/
import Derived.Test.YthcchnaoenjhlaaLaid
import Derived.Test.YthcchnaoenjhlaaLawP
import Derived.Deep.RegionHeld3
namespace Go.Proofs.Ythcchnaoenjhlaa
open Go.RowKit Go.Sort Go.Shelf Go.Lib

/-- The first of two numbers that is not zero. -/
def orV (a b : Int) : Int := if a = 0 then b else a
/-- By address, then by size. -/
def cfP (x y : Int × Int) : Int := orV (Lib.compareInt x.1 y.1) (Lib.compareInt x.2 y.2)
def encP (x : Int × Int) : List Value := [.int .i64 x.1, .int .i64 x.2]

set_option maxHeartbeats 1000000 in
theorem cmpOr_any (g : Nat) (a b : Int) (w : World) (h0 : w.cell? ⟨g, 0, none⟩ = some (.int .i64 a)) (h1 : w.cell? ⟨g, 1, none⟩ = some (.int .i64 b)) :
    Calls Try.prog 101 #[.slice (some ⟨g, 0, none⟩) 2 2] w fun e w' => e = .returned (.int .i64 (orV a b)) ∧ w' = w := by
  by_cases ha : a = 0
  · have HR := Lib.hid (show orV a b = b by unfold orV; rw [if_pos ha])
    subst ha
    by_cases hb : b = 0
    · subst hb
      go_enter Try.func101, Try.ntmps101
      go_wp2
      go_loop [8] (fun i => ∃ k : Nat, k ≤ 2 ∧ i = .int .i64 k) (fun i => 2 - (intOf i).toNat)
      case atStart => exact ⟨0, by omega, rfl⟩
      case round =>
        obtain ⟨k, hk, rfl⟩ := hrel
        obtain rfl | rfl | rfl : k = 0 ∨ k = 1 ∨ k = 2 := by omega
        · go_wp2
          go_round
          case rel => exact ⟨1, by omega, rfl⟩
          case measure => simp [intOf]
        · go_wp2
          go_round
          case rel => exact ⟨2, by omega, rfl⟩
          case measure => simp [intOf]
        · go_wp2
          go_ret
          exact ⟨by rw [HR.out]; rfl, rfl⟩
    · have hd : (b != 0) = true := by simp [hb]
      go_enter Try.func101, Try.ntmps101
      go_wp2
      go_loop [8] (fun i => ∃ k : Nat, k ≤ 1 ∧ i = .int .i64 k) (fun i => 2 - (intOf i).toNat)
      case atStart => exact ⟨0, by omega, rfl⟩
      case round =>
        obtain ⟨k, hk, rfl⟩ := hrel
        obtain rfl | rfl : k = 0 ∨ k = 1 := by omega
        · go_wp2
          go_round
          case rel => exact ⟨1, by omega, rfl⟩
          case measure => simp [intOf]
        · go_wp2
          go_ret
          exact ⟨by rw [HR.out]; rfl, rfl⟩
  · have HR := Lib.hid (show orV a b = a by unfold orV; rw [if_neg ha])
    have hd : (a != 0) = true := by simp [ha]
    go_enter Try.func101, Try.ntmps101
    go_wp2
    go_loop [8] (fun i => ∃ k : Nat, k ≤ 0 ∧ i = .int .i64 k) (fun i => 2 - (intOf i).toNat)
    case atStart => exact ⟨0, by omega, rfl⟩
    case round =>
      obtain ⟨k, hk, rfl⟩ := hrel
      obtain rfl : k = 0 := by omega
      go_wp2
      go_ret
      exact ⟨by rw [HR.out]; rfl, rfl⟩

set_option maxHeartbeats 4000000 in
theorem closure_any (x y : Int × Int) (W : World) : Calls Try.prog 100 #[.agg #[.int .i64 x.1, .int .i64 x.2], .agg #[.int .i64 y.1, .int .i64 y.2]] W fun e w' => e = .returned (.int .i64 (cfP x y)) ∧ ∃ q os', w' = grow (W.drewN q) os' := by
  obtain ⟨x1, x2⟩ := x
  obtain ⟨y1, y2⟩ := y
  have c1 : ∀ W', Calls Try.prog 102 #[.int .i64 x1, .int .i64 y1] W' fun e w' => e = .returned (.int .i64 (Lib.compareInt x1 y1)) ∧ w' = W' := fun W' => AnyG.cmp_Compare_int cmpI x1 y1 W'
  have c2 : ∀ W', Calls Try.prog 102 #[.int .i64 x2, .int .i64 y2] W' fun e w' => e = .returned (.int .i64 (Lib.compareInt x2 y2)) ∧ w' = W' := fun W' => AnyG.cmp_Compare_int cmpI x2 y2 W'
  have HC1 := Lib.hid c1
  have HC2 := Lib.hid c2
  have HV := Lib.hid (show cfP (x1, x2) (y1, y2) = orV (Lib.compareInt x1 y1) (Lib.compareInt x2 y2) from rfl)
  generalize Lib.compareInt x1 y1 = a at *
  generalize Lib.compareInt x2 y2 = b at *
  have HO := Lib.hid (fun g w h0 h1 => cmpOr_any g a b w h0 h1)
  clear c1 c2
  have hmx := mixed
  dsimp only
  go_enter Try.func100, Try.ntmps100
  go_wp2
  obtain ⟨W2, hW2⟩ : ∃ W2, (W.alloc (.cells #[.int .i64 x1, .int .i64 x2] 71)).alloc (.cells #[.int .i64 y1, .int .i64 y2] 71) = W2 := ⟨_, rfl⟩
  have HG := Lib.hid (show W2 = grow W (#[.cells #[.int .i64 x1, .int .i64 x2] 71] ++ #[.cells #[.int .i64 y1, .int .i64 y2] 71]) by rw [← hW2, alloc_eq_grow, alloc_eq_grow, grow_grow])
  have x0 : W2.cell? ⟨W.heap.size, 0, none⟩ = some (.int .i64 x1) ∧ W2.cell? ⟨W.heap.size, 1, none⟩ = some (.int .i64 x2) ∧ W2.cell? ⟨W.heap.size + 1, 0, none⟩ = some (.int .i64 y1) ∧ W2.cell? ⟨W.heap.size + 1, 1, none⟩ = some (.int .i64 y2) := by rw [← hW2]; simp
  have x0' : W2.drew.cell? ⟨W.heap.size, 0, none⟩ = some (.int .i64 x1) ∧ W2.drew.cell? ⟨W.heap.size, 1, none⟩ = some (.int .i64 x2) ∧ W2.drew.cell? ⟨W.heap.size + 1, 0, none⟩ = some (.int .i64 y1) ∧ W2.drew.cell? ⟨W.heap.size + 1, 1, none⟩ = some (.int .i64 y2) := x0
  have xo : ∀ o, (W2.alloc o).drew.cell? ⟨W.heap.size, 0, none⟩ = some (.int .i64 x1) ∧ (W2.alloc o).drew.cell? ⟨W.heap.size, 1, none⟩ = some (.int .i64 x2) ∧ (W2.alloc o).drew.cell? ⟨W.heap.size + 1, 0, none⟩ = some (.int .i64 y1) ∧ (W2.alloc o).drew.cell? ⟨W.heap.size + 1, 1, none⟩ = some (.int .i64 y2) := fun o => ⟨older x0.1 o, older x0.2.1 o, older x0.2.2.1 o, older x0.2.2.2 o⟩
  have HF := Lib.hid (show (W2.alloc (.cells #[.int .i64 a, .int .i64 b] 3)).drew = grow (W.drewN 1) ((#[.cells #[.int .i64 x1, .int .i64 x2] 71] ++ #[.cells #[.int .i64 y1, .int .i64 y2] 71]) ++ #[.cells #[.int .i64 a, .int .i64 b] 3]) by rw [HG.out, alloc_eq_grow, grow_grow]; rfl)
  rw [hW2]
  clear hW2
  go_region_held3 (fun w' => w'.cell? ⟨W.heap.size, 0, none⟩ = some (.int .i64 x1) ∧ w'.cell? ⟨W.heap.size, 1, none⟩ = some (.int .i64 x2) ∧ w'.cell? ⟨W.heap.size + 1, 0, none⟩ = some (.int .i64 y1) ∧ w'.cell? ⟨W.heap.size + 1, 1, none⟩ = some (.int .i64 y2))
    (first | exact x0 | exact x0' | exact xo _)
    (first | (go_at_call 102; (with_reducible refine (HC1.out _).mono ?_); rintro e w' ⟨rfl, rfl⟩)
           | (go_at_call 102; (with_reducible refine (HC2.out _).mono ?_); rintro e w' ⟨rfl, rfl⟩)
           | (go_at_call 101; refine (HO.out _ _ (by simp) (by simp)).mono ?_; rintro e w' ⟨rfl, rfl⟩))
  all_goals
    go_wp2
    go_ret
    exact ⟨by rw [HV.out]; rfl, 1, _, HF.out⟩

end Go.Proofs.Ythcchnaoenjhlaa
