/- FactsRun of the program answers as the model at every argument, leaves its argument as it was, and answers in memory of its own. No condition. -/
import Derived.Test.YthcchnaoenjhlaaIRun
import Derived.Test.YthcchnaoenjhlaaSRun
import Derived.Test.YthcchnaoenjhlaaLawFc
import Derived.Test.YthcchnaoenjhlaaOpenFc
import Derived.Test.YthcchnaoenjhlaaKpF
import Derived.Test.YthcchnaoenjhlaaEqP
import Derived.Test.YthcchnaoenjhlaaMarkP
namespace Go.Proofs.Ythcchnaoenjhlaa
open Go.ChangeShapes Go.WideShapes Go.ChangeAt Go.RowKit
set_option linter.unusedVariables false

set_option maxRecDepth 100000 in
set_option maxHeartbeats 4000000 in
theorem fnExactFactsRun_walk (A : Option Addr) (n c : Nat) (fs : List Fc) (w : World) (h : RdF w w.heap.size A n fs) (hm : n ≤ maxLen) (hff : ∀ f ∈ fs, f.Wf) :
    Calls Try.prog 5 #[.slice A n c] w fun e w' => e = .returned (.bool true) ∧ Below w.heap.size w w' := by
  by_cases hn : n ≤ 1048576
  · have HSI : Hid (∀ r k x, r = (runV fs).1 → k = r.length → x = (runV fs).2 → (∀ W g, RdF W W.heap.size (some ⟨g, 0, none⟩) n fs → Calls Try.prog 20 #[.slice (some ⟨g, 0, none⟩) n n] W fun e w' => ∃ A' c', e = .returned (.tuple #[.slice A' k c', .int .i64 x]) ∧ OwnP w' W.heap.size A' k c' r ∧ Below W.heap.size W w') ∧ (∀ W g, RdF W W.heap.size (some ⟨g, 0, none⟩) n fs → Calls Try.prog 22 #[.slice (some ⟨g, 0, none⟩) n n] W fun e w' => ∃ A' c', e = .returned (.tuple #[.slice A' k c', .int .i64 x]) ∧ OwnP w' W.heap.size A' k c' r ∧ Below W.heap.size W w')) := fun r k x hr hk hx => ⟨fun W g h1 => by subst hk hr hx; exact sFactsRun_any _ n n _ fs W h1 (Nat.le_refl _) hm hff, fun W g h1 => by subst hk hr hx; exact factsRun_any _ n n _ fs W h1 (Nat.le_refl _) hm hff⟩
    have hlen := runV_len fs
    obtain ⟨r, hr⟩ : ∃ r, r = (runV fs).1 := ⟨_, rfl⟩
    obtain ⟨k, hk⟩ : ∃ k, k = r.length := ⟨_, rfl⟩
    obtain ⟨x, hx⟩ : ∃ x, x = (runV fs).2 := ⟨_, rfl⟩
    rw [← hr, ← hk] at hlen
    have HS := Lib.hid (HSI.out r k x hr hk hx).1
    have HI := Lib.hid (HSI.out r k x hr hk hx).2
    have hxx : (x != x) = false := by simp
    have HT : Hid (∀ W, Below w.heap.size w W → Calls Try.prog 21 #[.slice A n c] W fun e w' => ∃ g, e = .returned (.slice (some ⟨g, 0, none⟩) n n) ∧ OwnF w' W.heap.size (some ⟨g, 0, none⟩) n n fs ∧ Below W.heap.size W w') := fun W hb => toFc_any A n c w.heap.size fs W (h.below hb) hb.size hn
    have HQ : Hid (∀ W (A1 A2 : Option Addr) (c1 c2 : Nat), RdP W W.heap.size A1 k r → RdP W W.heap.size A2 k r → Calls Try.prog 16 #[.slice A1 k c1, .slice A2 k c2] W fun e w' => e = .returned (.bool true) ∧ Below W.heap.size W w') := fun W A1 A2 c1 c2 h1 h2 => (eqP_any A1 A2 k k c1 c2 _ _ r r W h1 h2 (Nat.le_refl _) (Nat.le_refl _) (by unfold maxLen; omega) (by unfold maxLen; omega)).mono fun e w' ⟨he, hq⟩ => ⟨by rw [he]; simp, hq⟩
    have HF : Hid (∀ W (g1 g2 : Nat), RdF W W.heap.size (some ⟨g1, 0, none⟩) n fs → RdF W W.heap.size (some ⟨g2, 0, none⟩) n fs → Calls Try.prog 23 #[.slice (some ⟨g1, 0, none⟩) n n, .slice (some ⟨g2, 0, none⟩) n n] W fun e w' => e = .returned (.bool true) ∧ Below W.heap.size W w') := fun W g1 g2 h1 h2 => (eqFc_any _ _ n n n n _ _ fs fs W h1 h2 (Nat.le_refl _) (Nat.le_refl _) hm hm).mono fun e w' ⟨he, hq⟩ => ⟨by rw [he]; simp, hq⟩
    have HMF : Hid (∀ W (g b0 : Nat), OwnF W b0 (some ⟨g, 0, none⟩) n n fs → Calls Try.prog 24 #[.slice (some ⟨g, 0, none⟩) n n, .int .i64 1] W fun e w' => e = .returned (.int .i64 (1 + 5 * n)) ∧ OwnF w' b0 (some ⟨g, 0, none⟩) n n (marksQ n) ∧ Kp (In2 (.slice (some ⟨g, 0, none⟩) n n) (.slice (some ⟨g, 0, none⟩) n n)) W w') := fun W g b0 h1 => (markFc_any _ n n b0 fs W h1 (by omega)).mono fun e w' ⟨he, ho, hg⟩ => ⟨he, ho, Kp.of_grown hg (fun k hk => .inl hk)⟩
    have HMP : Hid (∀ W (A1 : Option Addr) (c1 b0 : Nat), OwnP W b0 A1 k c1 r → Calls Try.prog 17 #[.slice A1 k c1, .int .i64 1] W fun e w' => e = .returned (.int .i64 (1 + 2 * k)) ∧ OwnP w' b0 A1 k c1 (marksP k) ∧ Kp (In2 (.slice A1 k c1) (.slice A1 k c1)) W w') := fun W A1 c1 b0 h1 => (markP_any A1 k c1 b0 r W h1 (by omega)).mono fun e w' ⟨he, ho, hg⟩ => ⟨he, ho, Kp.of_grown hg (fun k hk => .inl hk)⟩
    have HH : Hid (∀ W (A1 : Option Addr) (c1 : Nat), RdP W W.heap.size A1 k (marksP k) → Calls Try.prog 18 #[.slice A1 k c1, .int .i64 1] W fun e w' => e = .returned (.int .i64 (1 + 2 * k)) ∧ W = w') := fun W A1 c1 h1 => heldP_any A1 k c1 _ W h1 (by omega)
    have HZ := Lib.hid (fun W => szFc_yes A n c W hn)
    have hq : ¬ (1048576 : Int) - (n : Int) < 0 := by omega
    clear HSI hr hk hx h hm hff
    go_enter Try.func5, Try.ntmps5
    go_wp2_with fail
    refine (HZ.out _).mono ?_
    rintro e w9 ⟨rfl, rfl⟩
    go_wp2_with fail
    refine (HT.out _ (Below.refl _ _)).mono ?_
    rintro e w1 ⟨gX, rfl, ho, hb⟩
    have zw1 := hb.size
    have hk : Kp (fun _ => False) w w1 := Kp.of_below hb
    have Bw1 : Hid (Below w.heap.size w w1) := (Below.refl _ _).trans (hb.mono (Nat.le_refl _))
    have O_X_w1 : Hid (OwnF w1 w.heap.size (some ⟨gX, 0, none⟩) n n fs) := ho
    have R_X : Hid (∀ g, (Value.slice (some ⟨gX, 0, none⟩) n n).ownBlock = some g → w.heap.size ≤ g ∧ g < w1.heap.size) := World.ownsRow.lt ho
    clear hb hk ho
    go_wp2_with fail
    refine (HS.out _ gX O_X_w1.out.rd).mono ?_
    rintro e w2 ⟨AOW, cOW, rfl, ho, hb⟩
    have zw2 := hb.size
    have hk : Kp (fun _ => False) w1 w2 := Kp.of_below hb
    have O_X_w2 : Hid (OwnF w2 w.heap.size (some ⟨gX, 0, none⟩) n n fs) := O_X_w1.out.kp hk (fun g hg h => h)
    have Bw2 : Hid (Below w.heap.size w w2) := Bw1.out.trans (hb.mono Bw1.out.size)
    clear O_X_w1 Bw1
    have O_OW_w2 : Hid (OwnP w2 w1.heap.size AOW k cOW r) := ho
    have R_OW : Hid (∀ g, (Value.slice AOW k cOW).ownBlock = some g → w1.heap.size ≤ g ∧ g < w2.heap.size) := World.ownsRow.lt ho
    clear hb hk ho
    clear O_X_w2
    go_wp2_with fail
    refine (HT.out _ Bw2.out).mono ?_
    rintro e w3 ⟨gZ, rfl, ho, hb⟩
    have zw3 := hb.size
    have hk : Kp (fun _ => False) w2 w3 := Kp.of_below hb
    have O_OW_w3 : Hid (OwnP w3 w1.heap.size AOW k cOW r) := O_OW_w2.out.kp hk (fun g hg h => h)
    have Bw3 : Hid (Below w.heap.size w w3) := Bw2.out.trans (hb.mono Bw2.out.size)
    clear O_OW_w2 Bw2
    have O_Z_w3 : Hid (OwnF w3 w2.heap.size (some ⟨gZ, 0, none⟩) n n fs) := ho
    have R_Z : Hid (∀ g, (Value.slice (some ⟨gZ, 0, none⟩) n n).ownBlock = some g → w2.heap.size ≤ g ∧ g < w3.heap.size) := World.ownsRow.lt ho
    clear hb hk ho
    go_wp2_with fail
    refine (HI.out _ gZ O_Z_w3.out.rd).mono ?_
    rintro e w4 ⟨AOG, cOG, rfl, ho, hb⟩
    have zw4 := hb.size
    have hk : Kp (fun _ => False) w3 w4 := Kp.of_below hb
    have O_OW_w4 : Hid (OwnP w4 w1.heap.size AOW k cOW r) := O_OW_w3.out.kp hk (fun g hg h => h)
    have O_Z_w4 : Hid (OwnF w4 w2.heap.size (some ⟨gZ, 0, none⟩) n n fs) := O_Z_w3.out.kp hk (fun g hg h => h)
    have Bw4 : Hid (Below w.heap.size w w4) := Bw3.out.trans (hb.mono Bw3.out.size)
    clear O_OW_w3 O_Z_w3 Bw3
    have O_OG_w4 : Hid (OwnP w4 w3.heap.size AOG k cOG r) := ho
    have R_OG : Hid (∀ g, (Value.slice AOG k cOG).ownBlock = some g → w3.heap.size ≤ g ∧ g < w4.heap.size) := World.ownsRow.lt ho
    clear hb hk ho
    go_wp2_with fail
    refine (HQ.out _ _ _ _ _ O_OG_w4.out.rd O_OW_w4.out.rd).mono ?_
    rintro e w5 ⟨rfl, hb⟩
    have zw5 := hb.size
    have hk : Kp (fun _ => False) w4 w5 := Kp.of_below hb
    have O_OW_w5 : Hid (OwnP w5 w1.heap.size AOW k cOW r) := O_OW_w4.out.kp hk (fun g hg h => h)
    have O_Z_w5 : Hid (OwnF w5 w2.heap.size (some ⟨gZ, 0, none⟩) n n fs) := O_Z_w4.out.kp hk (fun g hg h => h)
    have O_OG_w5 : Hid (OwnP w5 w3.heap.size AOG k cOG r) := O_OG_w4.out.kp hk (fun g hg h => h)
    have Bw5 : Hid (Below w.heap.size w w5) := Bw4.out.trans (hb.mono Bw4.out.size)
    clear O_OW_w4 O_Z_w4 O_OG_w4 Bw4
    clear hb hk
    go_wp2_with fail
    refine (HT.out _ Bw5.out).mono ?_
    rintro e w6 ⟨gY, rfl, ho, hb⟩
    have zw6 := hb.size
    have hk : Kp (fun _ => False) w5 w6 := Kp.of_below hb
    have O_OW_w6 : Hid (OwnP w6 w1.heap.size AOW k cOW r) := O_OW_w5.out.kp hk (fun g hg h => h)
    have O_Z_w6 : Hid (OwnF w6 w2.heap.size (some ⟨gZ, 0, none⟩) n n fs) := O_Z_w5.out.kp hk (fun g hg h => h)
    have O_OG_w6 : Hid (OwnP w6 w3.heap.size AOG k cOG r) := O_OG_w5.out.kp hk (fun g hg h => h)
    have Bw6 : Hid (Below w.heap.size w w6) := Bw5.out.trans (hb.mono Bw5.out.size)
    clear O_OW_w5 O_Z_w5 O_OG_w5 Bw5
    have O_Y_w6 : Hid (OwnF w6 w5.heap.size (some ⟨gY, 0, none⟩) n n fs) := ho
    have R_Y : Hid (∀ g, (Value.slice (some ⟨gY, 0, none⟩) n n).ownBlock = some g → w5.heap.size ≤ g ∧ g < w6.heap.size) := World.ownsRow.lt ho
    clear hb hk ho
    go_wp2_with fail
    refine (HF.out _ _ _ O_Z_w6.out.rd O_Y_w6.out.rd).mono ?_
    rintro e w7 ⟨rfl, hb⟩
    have zw7 := hb.size
    have hk : Kp (fun _ => False) w6 w7 := Kp.of_below hb
    have O_OW_w7 : Hid (OwnP w7 w1.heap.size AOW k cOW r) := O_OW_w6.out.kp hk (fun g hg h => h)
    have O_Z_w7 : Hid (OwnF w7 w2.heap.size (some ⟨gZ, 0, none⟩) n n fs) := O_Z_w6.out.kp hk (fun g hg h => h)
    have O_OG_w7 : Hid (OwnP w7 w3.heap.size AOG k cOG r) := O_OG_w6.out.kp hk (fun g hg h => h)
    have O_Y_w7 : Hid (OwnF w7 w5.heap.size (some ⟨gY, 0, none⟩) n n fs) := O_Y_w6.out.kp hk (fun g hg h => h)
    have Bw7 : Hid (Below w.heap.size w w7) := Bw6.out.trans (hb.mono Bw6.out.size)
    clear O_OW_w6 O_Z_w6 O_OG_w6 O_Y_w6 Bw6
    clear hb hk
    clear O_Y_w7
    go_wp2_with fail
    refine (HMF.out _ _ _ O_Z_w7.out).mono ?_
    rintro e w8 ⟨rfl, ho, hk⟩
    have zw8 := hk.size
    have O_OW_w8 : Hid (OwnP w8 w1.heap.size AOW k cOW r) := O_OW_w7.out.kp hk (fun g hg h => by have q := R_OW.out g hg; rcases h with h | h <;> ((try have q0 := R_Z.out _ h.symm); omega))
    have O_OG_w8 : Hid (OwnP w8 w3.heap.size AOG k cOG r) := O_OG_w7.out.kp hk (fun g hg h => by have q := R_OG.out g hg; rcases h with h | h <;> ((try have q0 := R_Z.out _ h.symm); omega))
    have Bw8 : Hid (Below w.heap.size w w8) := Kp.bel hk Bw7.out Bw7.out.size (fun k h => by rcases h with h | h <;> ((try have q0 := R_Z.out _ h.symm); omega))
    clear O_OW_w7 O_Z_w7 O_OG_w7 Bw7
    have O_Z_w8 : Hid (OwnF w8 w2.heap.size (some ⟨gZ, 0, none⟩) n n (marksQ n)) := ho
    clear hk ho
    have hq1 : ¬ (1 : Int) + 5 * (n : Int) < 0 := by omega
    go_wp2_with fail
    refine (HQ.out _ _ _ _ _ O_OG_w8.out.rd O_OW_w8.out.rd).mono ?_
    rintro e w9 ⟨rfl, hb⟩
    have zw9 := hb.size
    have hk : Kp (fun _ => False) w8 w9 := Kp.of_below hb
    have O_OW_w9 : Hid (OwnP w9 w1.heap.size AOW k cOW r) := O_OW_w8.out.kp hk (fun g hg h => h)
    have O_Z_w9 : Hid (OwnF w9 w2.heap.size (some ⟨gZ, 0, none⟩) n n (marksQ n)) := O_Z_w8.out.kp hk (fun g hg h => h)
    have O_OG_w9 : Hid (OwnP w9 w3.heap.size AOG k cOG r) := O_OG_w8.out.kp hk (fun g hg h => h)
    have Bw9 : Hid (Below w.heap.size w w9) := Bw8.out.trans (hb.mono Bw8.out.size)
    clear O_OW_w8 O_Z_w8 O_OG_w8 Bw8
    clear hb hk
    go_wp2_with fail
    refine (HMP.out _ _ _ _ O_OG_w9.out).mono ?_
    rintro e w10 ⟨rfl, ho, hk⟩
    have zw10 := hk.size
    have O_OW_w10 : Hid (OwnP w10 w1.heap.size AOW k cOW r) := O_OW_w9.out.kp hk (fun g hg h => by have q := R_OW.out g hg; rcases h with h | h <;> ((try have q0 := R_OG.out _ h.symm); omega))
    have O_Z_w10 : Hid (OwnF w10 w2.heap.size (some ⟨gZ, 0, none⟩) n n (marksQ n)) := O_Z_w9.out.kp hk (fun g hg h => by have q := R_Z.out g hg; rcases h with h | h <;> ((try have q0 := R_OG.out _ h.symm); omega))
    have Bw10 : Hid (Below w.heap.size w w10) := Kp.bel hk Bw9.out Bw9.out.size (fun k h => by rcases h with h | h <;> ((try have q0 := R_OG.out _ h.symm); omega))
    clear O_OW_w9 O_Z_w9 O_OG_w9 Bw9
    have O_OG_w10 : Hid (OwnP w10 w3.heap.size AOG k cOG (marksP k)) := ho
    clear hk ho
    go_wp2_with fail
    refine (HH.out _ _ _ O_OG_w10.out.rd).mono ?_
    rintro e w9 ⟨rfl, rfl⟩
    have hq2 : ¬ (1 : Int) + 2 * (k : Int) < 0 := by omega
    have hq3 : ((1 : Int) + 2 * (k : Int) != 1 + 2 * (k : Int)) = false := by simp
    go_wp2_with fail
    refine (HT.out _ Bw10.out).mono ?_
    rintro e w11 ⟨gV, rfl, ho, hb⟩
    have zw11 := hb.size
    have hk : Kp (fun _ => False) w10 w11 := Kp.of_below hb
    have O_OW_w11 : Hid (OwnP w11 w1.heap.size AOW k cOW r) := O_OW_w10.out.kp hk (fun g hg h => h)
    have O_Z_w11 : Hid (OwnF w11 w2.heap.size (some ⟨gZ, 0, none⟩) n n (marksQ n)) := O_Z_w10.out.kp hk (fun g hg h => h)
    have O_OG_w11 : Hid (OwnP w11 w3.heap.size AOG k cOG (marksP k)) := O_OG_w10.out.kp hk (fun g hg h => h)
    have Bw11 : Hid (Below w.heap.size w w11) := Bw10.out.trans (hb.mono Bw10.out.size)
    clear O_OW_w10 O_Z_w10 O_OG_w10 Bw10
    have O_V_w11 : Hid (OwnF w11 w10.heap.size (some ⟨gV, 0, none⟩) n n fs) := ho
    have R_V : Hid (∀ g, (Value.slice (some ⟨gV, 0, none⟩) n n).ownBlock = some g → w10.heap.size ≤ g ∧ g < w11.heap.size) := World.ownsRow.lt ho
    clear hb hk ho
    go_wp2_with fail
    refine (HI.out _ gV O_V_w11.out.rd).mono ?_
    rintro e w12 ⟨AOH, cOH, rfl, ho, hb⟩
    have zw12 := hb.size
    have hk : Kp (fun _ => False) w11 w12 := Kp.of_below hb
    have O_OW_w12 : Hid (OwnP w12 w1.heap.size AOW k cOW r) := O_OW_w11.out.kp hk (fun g hg h => h)
    have O_Z_w12 : Hid (OwnF w12 w2.heap.size (some ⟨gZ, 0, none⟩) n n (marksQ n)) := O_Z_w11.out.kp hk (fun g hg h => h)
    have O_OG_w12 : Hid (OwnP w12 w3.heap.size AOG k cOG (marksP k)) := O_OG_w11.out.kp hk (fun g hg h => h)
    have O_V_w12 : Hid (OwnF w12 w10.heap.size (some ⟨gV, 0, none⟩) n n fs) := O_V_w11.out.kp hk (fun g hg h => h)
    have Bw12 : Hid (Below w.heap.size w w12) := Bw11.out.trans (hb.mono Bw11.out.size)
    clear O_OW_w11 O_Z_w11 O_OG_w11 O_V_w11 Bw11
    have O_OH_w12 : Hid (OwnP w12 w11.heap.size AOH k cOH r) := ho
    have R_OH : Hid (∀ g, (Value.slice AOH k cOH).ownBlock = some g → w11.heap.size ≤ g ∧ g < w12.heap.size) := World.ownsRow.lt ho
    clear hb hk ho
    go_wp2_with fail
    refine (HQ.out _ _ _ _ _ O_OH_w12.out.rd O_OW_w12.out.rd).mono ?_
    rintro e w13 ⟨rfl, hb⟩
    have zw13 := hb.size
    have hk : Kp (fun _ => False) w12 w13 := Kp.of_below hb
    have O_OW_w13 : Hid (OwnP w13 w1.heap.size AOW k cOW r) := O_OW_w12.out.kp hk (fun g hg h => h)
    have O_Z_w13 : Hid (OwnF w13 w2.heap.size (some ⟨gZ, 0, none⟩) n n (marksQ n)) := O_Z_w12.out.kp hk (fun g hg h => h)
    have O_OG_w13 : Hid (OwnP w13 w3.heap.size AOG k cOG (marksP k)) := O_OG_w12.out.kp hk (fun g hg h => h)
    have O_V_w13 : Hid (OwnF w13 w10.heap.size (some ⟨gV, 0, none⟩) n n fs) := O_V_w12.out.kp hk (fun g hg h => h)
    have O_OH_w13 : Hid (OwnP w13 w11.heap.size AOH k cOH r) := O_OH_w12.out.kp hk (fun g hg h => h)
    have Bw13 : Hid (Below w.heap.size w w13) := Bw12.out.trans (hb.mono Bw12.out.size)
    clear O_OW_w12 O_Z_w12 O_OG_w12 O_V_w12 O_OH_w12 Bw12
    clear hb hk
    go_wp2_with fail
    refine (HH.out _ _ _ O_OG_w13.out.rd).mono ?_
    rintro e w9 ⟨rfl, rfl⟩
    go_wp2
    go_ret
    exact ⟨rfl, Bw13.out⟩
  · have HZ := Lib.hid (fun W => szFc_no A n c W hm (by omega))
    clear h hff
    go_enter Try.func5, Try.ntmps5
    go_wp2_with fail
    refine (HZ.out _).mono ?_
    rintro e w1 ⟨rfl, rfl⟩
    go_wp2
    go_ret
    exact ⟨rfl, Below.refl _ _⟩

set_option maxRecDepth 100000 in
theorem fnExactFactsRun_lifted (os : Os) (started : os.Started) (H : Type) (enc : TypeId × Value → H) :
    ReturnsInHanded {} Try.checked os 5 .any (Rows.fnExactFactsRunSpec.pre6 enc Try.prog Try.f5 Rows.fnExactFactsRunRow.domain false) (Rows.fnExactFactsRunSpec.post enc Try.prog Try.f5 false true false false) := by
  refine returnsInHanded_of_change (C := Try.checked) own started (by kernel_rfl) Try.func5
    (ChangeSpec.witness6 (enc := enc) (C := Try.checked) false ⟨#[], #[.slice none 0 0], []⟩ 8 (by kernel_rfl) (by kernel_rfl) (by kernel_rfl) (by kernel_rfl)) ?_
  intro W base args ds gs before hval0 hW hcnd _
  have hval : ∀ (j : Nat) t v, Try.f5.params[j]? = some t → args[j]? = some v → Value.okWide Try.prog W .any base t v := hval0
  have hW' := hW
  obtain ⟨p, q, hA0, hV, rfl, hfz, hnd⟩ := hW
  have hA : DataW.TrodAll enc Try.prog W 0 (fun _ => true) true Try.f5.params.toList args.toList ds p := hA0
  rw [Try.params5] at hA hval
  obtain ⟨v0, vs0, d0, ds0, p0, q0, hargs, rfl, rfl, h0, r0⟩ := trodAll_cons hA
  obtain ⟨rfl, rfl, rfl⟩ := trodAll_nil r0
  obtain rfl : args = #[v0] := by cases args; simp_all
  obtain ⟨rfl, rfl⟩ := trodVars_none hV
  have k0 := h0
  have lt0 : ∀ x ∈ p0, x.block < W.heap.size := by obtain ⟨m, hm⟩ := k0; exact DataW.trod_lt m _ _ _ hm
  obtain ⟨A0, n0, c0, z0, rfl, m0, rd0, f0⟩ := open_factS (hval 0 37 v0 rfl rfl) h0
  clear hA0 hval0
  refine (fnExactFactsRun_walk A0 n0 c0 z0 W rd0 m0 f0).mono fun e W' ⟨he, bel⟩ => ?_
  subst he
  exact ⟨_, rfl, _, _, _, [], _, [], hW', trodAll_mk1 (shut_bool Try.underlying4 _), (trodAll_cons_mk (Below.trod laidOut (by kernel_rfl) (of_decide_eq_true (by kernel_rfl)) k0 bel lt0) (trodAll_mk0)), rfl, bel.frame _, fun h => by cases h⟩

/-- The given statement: for every input the law returns true, and its arguments read as before. -/
theorem fnExactFactsRun_holds : Rows.FnExactFactsRunSaid :=
  OpenClaim.holds_of_wide 5 Try.f5 rfl rfl rfl rfl rfl rfl rfl ⟨rfl, rfl, rfl, rfl, rfl⟩ rfl rfl rfl rfl rfl (by kernel_rfl) Try.func5 (by kernel_rfl)
    (of_decide_eq_true (by kernel_rfl)) (by unfold Func.isWrapper; first | (rw [if_pos (by decide +kernel)]; kernel_rfl) | (rw [if_neg (by decide +kernel)]; exact ⟨rfl, rfl⟩))
    (fun os started H enc _ => fnExactFactsRun_lifted os started H enc)
#print axioms fnExactFactsRun_holds
end Go.Proofs.Ythcchnaoenjhlaa
