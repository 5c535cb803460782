/- The contracts of the laws' marks over machines. -/
import Derived.Test.YtooegpebimpjcaaLawMach
import Derived.Test.YtooegpebimpjcaaLawMk
import Derived.Test.YtooegpebimpjcaaMemG
namespace Go.Proofs.Ytooegpebimpjcaa
open Go.RowKit
set_option linter.unusedVariables false

/-- The blocks of a machine. -/
def InMach (A : Option Addr) (n c : Nat) (B : Option Addr) (m d : Nat) (xs : List Wc) (k : Nat) : Prop := some k = (Value.slice A n c).ownBlock ∨ InM B m d xs k

set_option maxHeartbeats 2000000 in
theorem markMach_any (A : Option Addr) (n c b0 : Nat) (zs : List Int) (B : Option Addr) (m d b1 : Nat) (xs : List Wc) (w : World) (h1 : Own w b0 A n c zs) (h2 : OwnM w b1 B m d xs) (hne : ∀ p, (Value.slice A n c).ownBlock = some p → ¬ InM B m d xs p)
    (hn : n ≤ 1000000) (hm : m ≤ 2000000) (hq : posK (1 + (n : Int)) xs m ≤ 50000000) (hf : ∀ i, i < m → (wat xs i).v.vs.length ≤ 2000000 ∧ (wat xs i).v.gs.length ≤ 2000000) :
    Calls Try.prog 27 #[.agg #[.slice A n c, .slice B m d], .int .i64 1] w fun e w' => e = .returned (.int .i64 (posK (1 + (n : Int)) xs m)) ∧ Own w' b0 A n c (U.marks n) ∧ OwnM w' b1 B m d (mkL (1 + (n : Int)) xs m) ∧ Kp (InMach A n c B m d xs) w w' := by
  have O1 := Lib.hid (h1.alloc (.cells #[.slice A n c, .slice B m d] 51))
  have O2 := Lib.hid (h2.alloc (.cells #[.slice A n c, .slice B m d] 51))
  have hA1 : ∀ p, (Value.slice A n c).ownBlock = some p → p < w.heap.size := fun p hp => (World.ownsRow.lt h1 p hp).2
  have K1 : Hid (Kp (InMach A n c B m d xs) w (w.alloc (.cells #[.slice A n c, .slice B m d] 51))) := Kp.of_below (bel1 _ _)
  have HA : Hid ((w.alloc (.cells #[.slice A n c, .slice B m d] 51)).heap[w.heap.size]? = some (.cells #[.slice A n c, .slice B m d] 51 (0, 0))) := heap_alloc_new w _
  have HN := Lib.hid hne
  clear h1 h2 hne
  go_enter Try.func27, Try.ntmps27
  go_wp2_with fail
  refine (U.markMem_any A n c b0 zs _ O1.out (by omega)).mono ?_
  rintro e w2 ⟨rfl, ho, hg⟩
  have KM : Hid (Kp (fun k => some k = (Value.slice A n c).ownBlock) (w.alloc (.cells #[.slice A n c, .slice B m d] 51)) w2) := Kp.of_grown hg (fun k hk => hk)
  have O1b := Lib.hid ho
  have O2b : Hid (OwnM w2 b1 B m d xs) := O2.out.kp KM.out (fun p hp e => HN.out p e.symm (.inl hp)) (fun i hi p hp e => HN.out p e.symm (.inr ⟨i, hi, hp⟩))
  have K2 : Hid (Kp (InMach A n c B m d xs) w w2) := K1.out.trans (KM.out.mono (fun p hp => .inl hp))
  have ha := (KM.out.block w.heap.size (by simp) (fun e => by have := hA1 _ e.symm; omega)).trans HA.out
  have a1 := blkc ha 1 rfl
  clear ho hg O1 O2 K1 HA ha hA1 KM
  go_wp2_with fail
  refine (markWarpS_any B m d b1 (1 + (n : Int)) xs w2 O2b.out hm (by omega) hq hf).mono ?_
  rintro e w3 ⟨rfl, ho, hk⟩
  have O2c := Lib.hid ho
  have O1c : Hid (Own w3 b0 A n c (U.marks n)) := row_kp O1b.out hk (fun p hp => HN.out p hp)
  have K3 : Hid (Kp (InMach A n c B m d xs) w w3) := K2.out.trans (hk.mono (fun p hp => .inr hp))
  clear ho hk O1b O2b K2 a1
  go_wp2
  go_ret
  exact ⟨rfl, O1c.out, O2c.out, K3.out⟩

set_option maxHeartbeats 2000000 in
theorem heldMach_any (A : Option Addr) (n c Q1 : Nat) (B : Option Addr) (m d Q2 : Nat) (xs : List Wc) (w : World) (h1 : Rd w Q1 A n (U.marks n)) (h2 : RdW w Q2 B m (mkL (1 + (n : Int)) xs m)) (hl : xs.length = m) (q1 : Q1 ≤ w.heap.size) (q2 : Q2 ≤ w.heap.size)
    (hn : n ≤ 1000000) (hm : m ≤ 2000000) (hq : posK (1 + (n : Int)) xs m ≤ 50000000) (hf : ∀ i, i < m → (wat xs i).v.vs.length ≤ 2000000 ∧ (wat xs i).v.gs.length ≤ 2000000) :
    Calls Try.prog 28 #[.agg #[.slice A n c, .slice B m d], .int .i64 1] w fun e w' => e = .returned (.int .i64 (posK (1 + (n : Int)) xs m)) ∧ Below w.heap.size w w' := by
  have HH : Hid (∀ W, Below w.heap.size w W → Calls Try.prog 66 #[.agg #[.slice A n c], .int .i64 1] W fun e w' => e = .returned (.int .i64 (1 + n)) ∧ Below W.heap.size W w') := fun W hb => U.heldMem_any A n c Q1 W (h1.below (hb.mono q1)) (Nat.le_trans q1 hb.size) (by omega)
  have HW : Hid (∀ W, Below w.heap.size w W → Calls Try.prog 67 #[.slice B m d, .int .i64 (1 + (n : Int))] W fun e w' => e = .returned (.int .i64 (posK (1 + (n : Int)) xs m)) ∧ W = w') := fun W hb => heldWarpS_any B m d Q2 (1 + (n : Int)) xs W (h2.below (hb.mono q2)) hl (Nat.le_trans q2 hb.size) hm (by omega) hq hf
  have HB0 := Lib.hid (bel1 w (.cells #[.slice A n c, .slice B m d] 51))
  have hp : ¬ posK (1 + (n : Int)) xs m < 0 := by have := posK_ge (1 + (n : Int)) xs m; omega
  have hp2 : ¬ (1 + (n : Int)) < 0 := by omega
  clear h1 h2 hf
  go_enter Try.func28, Try.ntmps28
  go_wp2_with fail
  refine (HH.out _ HB0.out).mono ?_
  rintro e w1 ⟨rfl, hb⟩
  obtain ⟨h2, hB1, z1⟩ := nw1 hb
  have B1 := Lib.hid hB1
  have a1 := blkc h2 1 rfl
  clear hb h2 hB1 HH HB0
  go_wp2_with fail
  refine (HW.out _ B1.out).mono ?_
  rintro e w2 ⟨rfl, rfl⟩
  go_wp2
  go_ret
  exact ⟨rfl, B1.out⟩

end Go.Proofs.Ytooegpebimpjcaa
