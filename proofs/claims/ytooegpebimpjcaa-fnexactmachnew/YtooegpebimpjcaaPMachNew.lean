/- MachNew of the program answers as the model at every argument, in memory of its own. No condition. -/
import Derived.Test.YtooegpebimpjcaaMachNewI
import Derived.Test.YtooegpebimpjcaaLawMach2
import Derived.Test.YtooegpebimpjcaaOpenW
namespace Go.Proofs.Ytooegpebimpjcaa
open Go.ChangeShapes Go.WideShapes Go.ChangeAt Go.RowKit
set_option linter.unusedVariables false

theorem mach_kp {w w' : World} {b N c P d : Nat} {A B : Option Addr} {zs : List Int} {xs : List Wc} {r : Nat → Prop} (h : Own w b A N c zs ∧ OwnM w b B P d xs) (k : Kp r w w') (h1 : ∀ q, some q = (Value.slice A N c).ownBlock → ¬ r q) (h2 : ∀ q, (Value.slice B P d).ownBlock = some q → ¬ r q) (h3 : ∀ i, i < P → ∀ q, rowA xs i = some q ∨ rowB xs i = some q → ¬ r q) : Own w' b A N c zs ∧ OwnM w' b B P d xs :=
  ⟨row_kp h.1 k (fun q hq => h1 q hq.symm), h.2.kp k h2 h3⟩
theorem vals_eq {n : Nat} {xs ys : List Wc} (h1 : xs.length = n) (h2 : ys.length = n) (v1 : ∀ i, i < n → (wat xs i).v = newV) (v2 : ∀ i, i < n → (wat ys i).v = newV) : vals8 xs = vals8 ys := by
  unfold vals8
  apply List.ext_getElem
  · simp [h1, h2]
  · intro i a b
    have a' : i < xs.length := by simpa using a
    have b' : i < ys.length := by simpa using b
    have e1 := v1 i (by omega)
    have e2 := v2 i (by omega)
    simp only [wat, List.getElem?_eq_getElem a', Option.getD_some] at e1
    simp only [wat, List.getElem?_eq_getElem b', Option.getD_some] at e2
    simp [e1, e2]
theorem lens_new {n : Nat} {xs : List Wc} (v : ∀ i, i < n → (wat xs i).v = newV) : ∀ i, i < n → (wat xs i).v.vs.length ≤ maxLen ∧ (wat xs i).v.gs.length ≤ maxLen := fun i hi => by
  rw [v i hi]
  unfold maxLen
  simp [newV]
theorem lens_new2 {n : Nat} {xs : List Wc} (v : ∀ i, i < n → (wat xs i).v = newV) : ∀ i, i < n → (wat xs i).v.vs.length ≤ 2000000 ∧ (wat xs i).v.gs.length ≤ 2000000 := fun i hi => by
  rw [v i hi]
  simp [newV]
theorem posK_new {q : Int} {xs : List Wc} : ∀ {n : Nat}, (∀ i, i < n → (wat xs i).v = newV) → posK q xs n = q + 22 * (n : Int)
  | 0, _ => by simp [posK]
  | n + 1, v => by
    have := posK_new (q := q) (n := n) (fun i hi => v i (by omega))
    simp only [posK, this, v n (by omega)]
    simp [newV]
    omega
theorem posK_small {N P : Nat} {xs : List Wc} (v : ∀ i, i < P → (wat xs i).v = newV) (hN : N ≤ 16) (hP : P ≤ 4) : posK (1 + (N : Int)) xs P ≤ 50000000 := by
  rw [posK_new v]; omega

set_option maxRecDepth 100000 in
set_option maxHeartbeats 8000000 in
theorem fnExactMachNew_all (ch wp : Int) (r : Bool) (N P : Nat) (hN : N ≤ 16) (hP : P ≤ 4) (w : World)
    (hs : ∀ W, Calls Try.prog 24 #[.int .i64 ch, .int .i64 wp] W fun e w' => ∃ A c B d xs, e = .returned (.tuple #[.agg #[.slice A N c, .slice B P d], .bool r]) ∧ Own w' W.heap.size A N c (List.replicate N 0) ∧ OwnM w' W.heap.size B P d xs ∧ (∀ q, (Value.slice A N c).ownBlock = some q → ¬ InM B P d xs q) ∧ (∀ i, i < P → (wat xs i).v = newV) ∧ Below W.heap.size W w')
    (hi : ∀ W, Calls Try.prog 25 #[.int .i64 ch, .int .i64 wp] W fun e w' => ∃ A c B d xs, e = .returned (.tuple #[.agg #[.slice A N c, .slice B P d], .bool r]) ∧ Own w' W.heap.size A N c (List.replicate N 0) ∧ OwnM w' W.heap.size B P d xs ∧ (∀ q, (Value.slice A N c).ownBlock = some q → ¬ InM B P d xs q) ∧ (∀ i, i < P → (wat xs i).v = newV) ∧ Below W.heap.size W w') :
    Calls Try.prog 5 #[.int .i64 ch, .int .i64 wp] w fun e w' => e = .returned (.bool true) ∧ Below w.heap.size w w' := by
  have HS := Lib.hid hs
  have HI := Lib.hid hi
  have hbb : (r != r) = false := by simp
  clear hs hi
  go_enter Try.func5, Try.ntmps5
  go_wp2_with fail
  refine (HS.out _).mono ?_
  rintro e w1 ⟨AS, cS, BS, dS, xS, rfl, ho, hM, hd, hv, hb⟩
  have zw1 := hb.size
  have hk : Kp (fun _ => False) w w1 := Kp.of_below hb
  have Bw1 : Hid (Below w.heap.size w w1) := (Below.refl _ _).trans (hb.mono (Nat.le_refl _))
  have M_S_w1 : Hid (Own w1 w.heap.size AS N cS (List.replicate N 0) ∧ OwnM w1 w.heap.size BS P dS xS) := ⟨ho, hM⟩
  have R_S : Hid (∀ q, InMach AS N cS BS P dS xS q → w.heap.size ≤ q ∧ q < w1.heap.size) := fun q hq => by rcases hq with hq | hq; (exact World.ownsRow.lt ho q hq.symm); (exact hM.lt hq)
  have D_S := Lib.hid hd
  have N_S := Lib.hid hv
  have L_S := Lib.hid hM.len
  clear hb hk ho hM hd hv
  have hk0 := bel1 w1 (.cells #[.slice AS N cS, .slice BS P dS] 51)
  have hk : Kp (fun _ => False) w1 (w1.alloc (.cells #[.slice AS N cS, .slice BS P dS] 51)) := Kp.of_below hk0
  have M_S_w2 : Hid (Own (w1.alloc (.cells #[.slice AS N cS, .slice BS P dS] 51)) w.heap.size AS N cS (List.replicate N 0) ∧ OwnM (w1.alloc (.cells #[.slice AS N cS, .slice BS P dS] 51)) w.heap.size BS P dS xS) := mach_kp M_S_w1.out hk (fun _ _ h => h) (fun _ _ h => h) (fun _ _ _ _ h => h)
  have V_vS_w2 : Hid ((w1.alloc (.cells #[.slice AS N cS, .slice BS P dS] 51)).heap[w1.heap.size]? = some (.cells #[.slice AS N cS, .slice BS P dS] 51 (0, 0))) := heap_alloc_new _ _
  have Bw2 : Hid (Below w.heap.size w (w1.alloc (.cells #[.slice AS N cS, .slice BS P dS] 51))) := Bw1.out.alloc Bw1.out.size _
  have zw2 : w1.heap.size + 1 ≤ (w1.alloc (.cells #[.slice AS N cS, .slice BS P dS] 51)).heap.size := Nat.le_of_eq (sz1 _ _).symm
  have yw2 : (w1.alloc (.cells #[.slice AS N cS, .slice BS P dS] 51)).heap.size ≤ w1.heap.size + 1 := Nat.le_of_eq (sz1 _ _)
  clear M_S_w1 Bw1 hk0 hk
  go_wp2_with fail
  generalize w1.alloc (.cells #[.slice AS N cS, .slice BS P dS] 51) = w2 at *
  refine (HI.out _).mono ?_
  rintro e w3 ⟨AI, cI, BI, dI, xI, rfl, ho, hM, hd, hv, hb⟩
  have zw3 := hb.size
  have hk : Kp (fun _ => False) w2 w3 := Kp.of_below hb
  have V_vS_w3 : Hid (w3.heap[w1.heap.size]? = some (.cells #[.slice AS N cS, .slice BS P dS] 51 (0, 0))) := (hk.block _ (by omega) (fun h => h)).trans V_vS_w2.out
  have M_S_w3 : Hid (Own w3 w.heap.size AS N cS (List.replicate N 0) ∧ OwnM w3 w.heap.size BS P dS xS) := mach_kp M_S_w2.out hk (fun _ _ h => h) (fun _ _ h => h) (fun _ _ _ _ h => h)
  have Bw3 : Hid (Below w.heap.size w w3) := Bw2.out.trans (hb.mono Bw2.out.size)
  clear V_vS_w2 M_S_w2 Bw2
  have M_I_w3 : Hid (Own w3 w2.heap.size AI N cI (List.replicate N 0) ∧ OwnM w3 w2.heap.size BI P dI xI) := ⟨ho, hM⟩
  have R_I : Hid (∀ q, InMach AI N cI BI P dI xI q → w2.heap.size ≤ q ∧ q < w3.heap.size) := fun q hq => by rcases hq with hq | hq; (exact World.ownsRow.lt ho q hq.symm); (exact hM.lt hq)
  have D_I := Lib.hid hd
  have N_I := Lib.hid hv
  have L_I := Lib.hid hM.len
  clear hb hk ho hM hd hv
  have hk0 := bel1 w3 (.cells #[.slice AI N cI, .slice BI P dI] 51)
  have hk : Kp (fun _ => False) w3 (w3.alloc (.cells #[.slice AI N cI, .slice BI P dI] 51)) := Kp.of_below hk0
  have V_vS_w4 : Hid ((w3.alloc (.cells #[.slice AI N cI, .slice BI P dI] 51)).heap[w1.heap.size]? = some (.cells #[.slice AS N cS, .slice BS P dS] 51 (0, 0))) := (hk0.block _ (by omega)).trans V_vS_w3.out
  have M_S_w4 : Hid (Own (w3.alloc (.cells #[.slice AI N cI, .slice BI P dI] 51)) w.heap.size AS N cS (List.replicate N 0) ∧ OwnM (w3.alloc (.cells #[.slice AI N cI, .slice BI P dI] 51)) w.heap.size BS P dS xS) := mach_kp M_S_w3.out hk (fun _ _ h => h) (fun _ _ h => h) (fun _ _ _ _ h => h)
  have M_I_w4 : Hid (Own (w3.alloc (.cells #[.slice AI N cI, .slice BI P dI] 51)) w2.heap.size AI N cI (List.replicate N 0) ∧ OwnM (w3.alloc (.cells #[.slice AI N cI, .slice BI P dI] 51)) w2.heap.size BI P dI xI) := mach_kp M_I_w3.out hk (fun _ _ h => h) (fun _ _ h => h) (fun _ _ _ _ h => h)
  have V_vI_w4 : Hid ((w3.alloc (.cells #[.slice AI N cI, .slice BI P dI] 51)).heap[w3.heap.size]? = some (.cells #[.slice AI N cI, .slice BI P dI] 51 (0, 0))) := heap_alloc_new _ _
  have Bw4 : Hid (Below w.heap.size w (w3.alloc (.cells #[.slice AI N cI, .slice BI P dI] 51))) := Bw3.out.alloc Bw3.out.size _
  have zw4 : w3.heap.size + 1 ≤ (w3.alloc (.cells #[.slice AI N cI, .slice BI P dI] 51)).heap.size := Nat.le_of_eq (sz1 _ _).symm
  have yw4 : (w3.alloc (.cells #[.slice AI N cI, .slice BI P dI] 51)).heap.size ≤ w3.heap.size + 1 := Nat.le_of_eq (sz1 _ _)
  clear V_vS_w3 M_S_w3 M_I_w3 Bw3 hk0 hk
  have c_vS0 := blkc V_vS_w4.out 0 rfl
  have c_vS1 := blkc V_vS_w4.out 1 rfl
  go_wp2_with fail
  clear c_vS0 c_vS1
  generalize w3.alloc (.cells #[.slice AI N cI, .slice BI P dI] 51) = w4 at *
  refine (eqMach_any _ _ N _ _ _ _ P _ _ _ _ _ _ _ xI xS _ M_I_w4.out.1.rd M_S_w4.out.1.rd M_I_w4.out.2.rd M_S_w4.out.2.rd (vals_eq L_I.out L_S.out N_I.out N_S.out) (Nat.le_refl _) (Nat.le_refl _) (Nat.le_refl _) (Nat.le_refl _) (by omega) (by unfold maxLen; omega) (lens_new N_I.out)).mono ?_
  rintro e w5 ⟨rfl, hb⟩
  have zw5 := hb.size
  have hk : Kp (fun _ => False) w4 w5 := Kp.of_below hb
  have V_vS_w5 : Hid (w5.heap[w1.heap.size]? = some (.cells #[.slice AS N cS, .slice BS P dS] 51 (0, 0))) := (hk.block _ (by omega) (fun h => h)).trans V_vS_w4.out
  have V_vI_w5 : Hid (w5.heap[w3.heap.size]? = some (.cells #[.slice AI N cI, .slice BI P dI] 51 (0, 0))) := (hk.block _ (by omega) (fun h => h)).trans V_vI_w4.out
  have M_S_w5 : Hid (Own w5 w.heap.size AS N cS (List.replicate N 0) ∧ OwnM w5 w.heap.size BS P dS xS) := mach_kp M_S_w4.out hk (fun _ _ h => h) (fun _ _ h => h) (fun _ _ _ _ h => h)
  have M_I_w5 : Hid (Own w5 w2.heap.size AI N cI (List.replicate N 0) ∧ OwnM w5 w2.heap.size BI P dI xI) := mach_kp M_I_w4.out hk (fun _ _ h => h) (fun _ _ h => h) (fun _ _ _ _ h => h)
  have Bw5 : Hid (Below w.heap.size w w5) := Bw4.out.trans (hb.mono Bw4.out.size)
  clear V_vS_w4 V_vI_w4 M_S_w4 M_I_w4 Bw4
  clear hb hk
  have c_vI0 := blkc V_vI_w5.out 0 rfl
  have c_vI1 := blkc V_vI_w5.out 1 rfl
  have c_vS0 := blkc V_vS_w5.out 0 rfl
  have c_vS1 := blkc V_vS_w5.out 1 rfl
  go_wp2_with fail
  clear c_vI0 c_vI1 c_vS0 c_vS1
  refine (markMach_any _ N _ _ _ _ P _ _ xI _ M_I_w5.out.1 M_I_w5.out.2 D_I.out (by omega) (by omega) (posK_small N_I.out (by omega) (by omega)) (lens_new2 N_I.out)).mono ?_
  rintro e w6 ⟨rfl, ho, hM, hk⟩
  have zw6 := hk.size
  have V_vS_w6 : Hid (w6.heap[w1.heap.size]? = some (.cells #[.slice AS N cS, .slice BS P dS] 51 (0, 0))) := (hk.block _ (by omega) (fun h => by have q := R_I.out _ h; omega)).trans V_vS_w5.out
  have V_vI_w6 : Hid (w6.heap[w3.heap.size]? = some (.cells #[.slice AI N cI, .slice BI P dI] 51 (0, 0))) := (hk.block _ (by omega) (fun h => by have q := R_I.out _ h; omega)).trans V_vI_w5.out
  have M_S_w6 : Hid (Own w6 w.heap.size AS N cS (List.replicate N 0) ∧ OwnM w6 w.heap.size BS P dS xS) := mach_kp M_S_w5.out hk (fun g hg h => by have q := R_I.out _ h; have q2 := R_S.out g (.inl hg); omega) (fun g hg h => by have q := R_I.out _ h; have q2 := R_S.out g (.inr (.inl hg)); omega) (fun i hi g hg h => by have q := R_I.out _ h; have q2 := R_S.out g (.inr (.inr ⟨i, hi, hg⟩)); omega)
  have Bw6 : Hid (Below w.heap.size w w6) := Kp.bel hk Bw5.out Bw5.out.size (fun k h => by have q := R_I.out k h; omega)
  clear V_vS_w5 V_vI_w5 M_S_w5 M_I_w5 Bw5
  have M_I_w6 : Hid (Own w6 w2.heap.size AI N cI (U.marks N) ∧ OwnM w6 w2.heap.size BI P dI (mkL (1 + (N : Int)) xI P)) := ⟨ho, hM⟩
  clear ho hM hk
  have hpp : (posK (1 + (N : Int)) xI P != posK (1 + (N : Int)) xI P) = false := by simp
  have hp0 : ¬ posK (1 + (N : Int)) xI P < 0 := by have := posK_ge (1 + (N : Int)) xI P; omega
  have c_vI0 := blkc V_vI_w6.out 0 rfl
  have c_vI1 := blkc V_vI_w6.out 1 rfl
  go_wp2_with fail
  clear c_vI0 c_vI1
  refine (heldMach_any _ N _ _ _ P _ _ xI _ M_I_w6.out.1.rd M_I_w6.out.2.rd L_I.out (Nat.le_refl _) (Nat.le_refl _) (by omega) (by omega) (posK_small N_I.out (by omega) (by omega)) (lens_new2 N_I.out)).mono ?_
  rintro e w7 ⟨rfl, hb⟩
  have zw7 := hb.size
  have hk : Kp (fun _ => False) w6 w7 := Kp.of_below hb
  have V_vS_w7 : Hid (w7.heap[w1.heap.size]? = some (.cells #[.slice AS N cS, .slice BS P dS] 51 (0, 0))) := (hk.block _ (by omega) (fun h => h)).trans V_vS_w6.out
  have V_vI_w7 : Hid (w7.heap[w3.heap.size]? = some (.cells #[.slice AI N cI, .slice BI P dI] 51 (0, 0))) := (hk.block _ (by omega) (fun h => h)).trans V_vI_w6.out
  have M_S_w7 : Hid (Own w7 w.heap.size AS N cS (List.replicate N 0) ∧ OwnM w7 w.heap.size BS P dS xS) := mach_kp M_S_w6.out hk (fun _ _ h => h) (fun _ _ h => h) (fun _ _ _ _ h => h)
  have M_I_w7 : Hid (Own w7 w2.heap.size AI N cI (U.marks N) ∧ OwnM w7 w2.heap.size BI P dI (mkL (1 + (N : Int)) xI P)) := mach_kp M_I_w6.out hk (fun _ _ h => h) (fun _ _ h => h) (fun _ _ _ _ h => h)
  have Bw7 : Hid (Below w.heap.size w w7) := Bw6.out.trans (hb.mono Bw6.out.size)
  clear V_vS_w6 V_vI_w6 M_S_w6 M_I_w6 Bw6
  clear hb hk
  have c_vS0 := blkc V_vS_w7.out 0 rfl
  have c_vS1 := blkc V_vS_w7.out 1 rfl
  go_wp2_with fail
  clear c_vS0 c_vS1
  refine (HI.out _).mono ?_
  rintro e w8 ⟨AH, cH, BH, dH, xH, rfl, ho, hM, hd, hv, hb⟩
  have zw8 := hb.size
  have hk : Kp (fun _ => False) w7 w8 := Kp.of_below hb
  have V_vS_w8 : Hid (w8.heap[w1.heap.size]? = some (.cells #[.slice AS N cS, .slice BS P dS] 51 (0, 0))) := (hk.block _ (by omega) (fun h => h)).trans V_vS_w7.out
  have V_vI_w8 : Hid (w8.heap[w3.heap.size]? = some (.cells #[.slice AI N cI, .slice BI P dI] 51 (0, 0))) := (hk.block _ (by omega) (fun h => h)).trans V_vI_w7.out
  have M_S_w8 : Hid (Own w8 w.heap.size AS N cS (List.replicate N 0) ∧ OwnM w8 w.heap.size BS P dS xS) := mach_kp M_S_w7.out hk (fun _ _ h => h) (fun _ _ h => h) (fun _ _ _ _ h => h)
  have M_I_w8 : Hid (Own w8 w2.heap.size AI N cI (U.marks N) ∧ OwnM w8 w2.heap.size BI P dI (mkL (1 + (N : Int)) xI P)) := mach_kp M_I_w7.out hk (fun _ _ h => h) (fun _ _ h => h) (fun _ _ _ _ h => h)
  have Bw8 : Hid (Below w.heap.size w w8) := Bw7.out.trans (hb.mono Bw7.out.size)
  clear V_vS_w7 V_vI_w7 M_S_w7 M_I_w7 Bw7
  have M_H_w8 : Hid (Own w8 w7.heap.size AH N cH (List.replicate N 0) ∧ OwnM w8 w7.heap.size BH P dH xH) := ⟨ho, hM⟩
  have R_H : Hid (∀ q, InMach AH N cH BH P dH xH q → w7.heap.size ≤ q ∧ q < w8.heap.size) := fun q hq => by rcases hq with hq | hq; (exact World.ownsRow.lt ho q hq.symm); (exact hM.lt hq)
  have D_H := Lib.hid hd
  have N_H := Lib.hid hv
  have L_H := Lib.hid hM.len
  clear hb hk ho hM hd hv
  have hk0 := bel1 w8 (.cells #[.slice AH N cH, .slice BH P dH] 51)
  have hk : Kp (fun _ => False) w8 (w8.alloc (.cells #[.slice AH N cH, .slice BH P dH] 51)) := Kp.of_below hk0
  have V_vS_w9 : Hid ((w8.alloc (.cells #[.slice AH N cH, .slice BH P dH] 51)).heap[w1.heap.size]? = some (.cells #[.slice AS N cS, .slice BS P dS] 51 (0, 0))) := (hk0.block _ (by omega)).trans V_vS_w8.out
  have V_vI_w9 : Hid ((w8.alloc (.cells #[.slice AH N cH, .slice BH P dH] 51)).heap[w3.heap.size]? = some (.cells #[.slice AI N cI, .slice BI P dI] 51 (0, 0))) := (hk0.block _ (by omega)).trans V_vI_w8.out
  have M_S_w9 : Hid (Own (w8.alloc (.cells #[.slice AH N cH, .slice BH P dH] 51)) w.heap.size AS N cS (List.replicate N 0) ∧ OwnM (w8.alloc (.cells #[.slice AH N cH, .slice BH P dH] 51)) w.heap.size BS P dS xS) := mach_kp M_S_w8.out hk (fun _ _ h => h) (fun _ _ h => h) (fun _ _ _ _ h => h)
  have M_I_w9 : Hid (Own (w8.alloc (.cells #[.slice AH N cH, .slice BH P dH] 51)) w2.heap.size AI N cI (U.marks N) ∧ OwnM (w8.alloc (.cells #[.slice AH N cH, .slice BH P dH] 51)) w2.heap.size BI P dI (mkL (1 + (N : Int)) xI P)) := mach_kp M_I_w8.out hk (fun _ _ h => h) (fun _ _ h => h) (fun _ _ _ _ h => h)
  have M_H_w9 : Hid (Own (w8.alloc (.cells #[.slice AH N cH, .slice BH P dH] 51)) w7.heap.size AH N cH (List.replicate N 0) ∧ OwnM (w8.alloc (.cells #[.slice AH N cH, .slice BH P dH] 51)) w7.heap.size BH P dH xH) := mach_kp M_H_w8.out hk (fun _ _ h => h) (fun _ _ h => h) (fun _ _ _ _ h => h)
  have V_vH_w9 : Hid ((w8.alloc (.cells #[.slice AH N cH, .slice BH P dH] 51)).heap[w8.heap.size]? = some (.cells #[.slice AH N cH, .slice BH P dH] 51 (0, 0))) := heap_alloc_new _ _
  have Bw9 : Hid (Below w.heap.size w (w8.alloc (.cells #[.slice AH N cH, .slice BH P dH] 51))) := Bw8.out.alloc Bw8.out.size _
  have zw9 : w8.heap.size + 1 ≤ (w8.alloc (.cells #[.slice AH N cH, .slice BH P dH] 51)).heap.size := Nat.le_of_eq (sz1 _ _).symm
  have yw9 : (w8.alloc (.cells #[.slice AH N cH, .slice BH P dH] 51)).heap.size ≤ w8.heap.size + 1 := Nat.le_of_eq (sz1 _ _)
  clear V_vS_w8 V_vI_w8 M_S_w8 M_I_w8 M_H_w8 Bw8 hk0 hk
  have c_vS0 := blkc V_vS_w9.out 0 rfl
  have c_vS1 := blkc V_vS_w9.out 1 rfl
  go_wp2_with fail
  clear c_vS0 c_vS1
  generalize w8.alloc (.cells #[.slice AH N cH, .slice BH P dH] 51) = w9 at *
  refine (eqMach_any _ _ N _ _ _ _ P _ _ _ _ _ _ _ xH xS _ M_H_w9.out.1.rd M_S_w9.out.1.rd M_H_w9.out.2.rd M_S_w9.out.2.rd (vals_eq L_H.out L_S.out N_H.out N_S.out) (Nat.le_refl _) (Nat.le_refl _) (Nat.le_refl _) (Nat.le_refl _) (by omega) (by unfold maxLen; omega) (lens_new N_H.out)).mono ?_
  rintro e w10 ⟨rfl, hb⟩
  have zw10 := hb.size
  have hk : Kp (fun _ => False) w9 w10 := Kp.of_below hb
  have V_vS_w10 : Hid (w10.heap[w1.heap.size]? = some (.cells #[.slice AS N cS, .slice BS P dS] 51 (0, 0))) := (hk.block _ (by omega) (fun h => h)).trans V_vS_w9.out
  have V_vI_w10 : Hid (w10.heap[w3.heap.size]? = some (.cells #[.slice AI N cI, .slice BI P dI] 51 (0, 0))) := (hk.block _ (by omega) (fun h => h)).trans V_vI_w9.out
  have V_vH_w10 : Hid (w10.heap[w8.heap.size]? = some (.cells #[.slice AH N cH, .slice BH P dH] 51 (0, 0))) := (hk.block _ (by omega) (fun h => h)).trans V_vH_w9.out
  have M_S_w10 : Hid (Own w10 w.heap.size AS N cS (List.replicate N 0) ∧ OwnM w10 w.heap.size BS P dS xS) := mach_kp M_S_w9.out hk (fun _ _ h => h) (fun _ _ h => h) (fun _ _ _ _ h => h)
  have M_I_w10 : Hid (Own w10 w2.heap.size AI N cI (U.marks N) ∧ OwnM w10 w2.heap.size BI P dI (mkL (1 + (N : Int)) xI P)) := mach_kp M_I_w9.out hk (fun _ _ h => h) (fun _ _ h => h) (fun _ _ _ _ h => h)
  have M_H_w10 : Hid (Own w10 w7.heap.size AH N cH (List.replicate N 0) ∧ OwnM w10 w7.heap.size BH P dH xH) := mach_kp M_H_w9.out hk (fun _ _ h => h) (fun _ _ h => h) (fun _ _ _ _ h => h)
  have Bw10 : Hid (Below w.heap.size w w10) := Bw9.out.trans (hb.mono Bw9.out.size)
  clear V_vS_w9 V_vI_w9 V_vH_w9 M_S_w9 M_I_w9 M_H_w9 Bw9
  clear hb hk
  have c_vI0 := blkc V_vI_w10.out 0 rfl
  have c_vI1 := blkc V_vI_w10.out 1 rfl
  go_wp2_with fail
  clear c_vI0 c_vI1
  refine (heldMach_any _ N _ _ _ P _ _ xI _ M_I_w10.out.1.rd M_I_w10.out.2.rd L_I.out (Nat.le_refl _) (Nat.le_refl _) (by omega) (by omega) (posK_small N_I.out (by omega) (by omega)) (lens_new2 N_I.out)).mono ?_
  rintro e w11 ⟨rfl, hb⟩
  have zw11 := hb.size
  have hk : Kp (fun _ => False) w10 w11 := Kp.of_below hb
  have V_vS_w11 : Hid (w11.heap[w1.heap.size]? = some (.cells #[.slice AS N cS, .slice BS P dS] 51 (0, 0))) := (hk.block _ (by omega) (fun h => h)).trans V_vS_w10.out
  have V_vI_w11 : Hid (w11.heap[w3.heap.size]? = some (.cells #[.slice AI N cI, .slice BI P dI] 51 (0, 0))) := (hk.block _ (by omega) (fun h => h)).trans V_vI_w10.out
  have V_vH_w11 : Hid (w11.heap[w8.heap.size]? = some (.cells #[.slice AH N cH, .slice BH P dH] 51 (0, 0))) := (hk.block _ (by omega) (fun h => h)).trans V_vH_w10.out
  have M_S_w11 : Hid (Own w11 w.heap.size AS N cS (List.replicate N 0) ∧ OwnM w11 w.heap.size BS P dS xS) := mach_kp M_S_w10.out hk (fun _ _ h => h) (fun _ _ h => h) (fun _ _ _ _ h => h)
  have M_I_w11 : Hid (Own w11 w2.heap.size AI N cI (U.marks N) ∧ OwnM w11 w2.heap.size BI P dI (mkL (1 + (N : Int)) xI P)) := mach_kp M_I_w10.out hk (fun _ _ h => h) (fun _ _ h => h) (fun _ _ _ _ h => h)
  have M_H_w11 : Hid (Own w11 w7.heap.size AH N cH (List.replicate N 0) ∧ OwnM w11 w7.heap.size BH P dH xH) := mach_kp M_H_w10.out hk (fun _ _ h => h) (fun _ _ h => h) (fun _ _ _ _ h => h)
  have Bw11 : Hid (Below w.heap.size w w11) := Bw10.out.trans (hb.mono Bw10.out.size)
  clear V_vS_w10 V_vI_w10 V_vH_w10 M_S_w10 M_I_w10 M_H_w10 Bw10
  clear hb hk
  go_wp2
  go_ret
  exact ⟨rfl, Bw11.out⟩

theorem fnExactMachNew_walk (ch wp : Int) (w : World) (h1 : (Lit.int .i64 ch).wf = true) (h2 : (Lit.int .i64 wp).wf = true) :
    Calls Try.prog 5 #[.int .i64 ch, .int .i64 wp] w fun e w' => e = .returned (.bool true) ∧ Below w.heap.size w w' := by
  by_cases h : 0 ≤ ch ∧ ch ≤ 16 ∧ 1 ≤ wp ∧ wp ≤ 4
  · obtain ⟨m, rfl⟩ := Int.eq_ofNat_of_zero_le h.1
    obtain ⟨p, rfl⟩ := Int.eq_ofNat_of_zero_le (show 0 ≤ wp by omega)
    exact fnExactMachNew_all _ _ true m p (by omega) (by omega) w (fun W => sMachNew_any m p W (by omega) (by omega) (by omega)) (fun W => machNew_any m p W (by omega) (by omega) (by omega))
  · have hz : ∀ (W w' : World), Own w' W.heap.size none 0 0 (List.replicate 0 0) ∧ OwnM w' W.heap.size none 0 0 [] ∧ (∀ q, (Value.slice none 0 0).ownBlock = some q → ¬ InM none 0 0 [] q) ∧ (∀ i, i < 0 → (wat [] i).v = newV) := fun W w' =>
      ⟨World.ownsRow_nil _ _ _ _, ⟨OwnW.zero, fun i hi => absurd hi (by omega), fun i hi => absurd hi (by omega)⟩, fun q hq => by simp [Value.ownBlock] at hq, fun i hi => absurd hi (by omega)⟩
    exact fnExactMachNew_all _ _ false 0 0 (by omega) (by omega) w (fun W => (sMachNew_no ch wp W h).mono fun e w' ⟨he, hb⟩ => ⟨none, 0, none, 0, [], he, (hz W w').1, (hz W w').2.1, (hz W w').2.2.1, (hz W w').2.2.2, hb⟩) (fun W => (machNew_no ch wp W h).mono fun e w' ⟨he, hb⟩ => ⟨none, 0, none, 0, [], he, (hz W w').1, (hz W w').2.1, (hz W w').2.2.1, (hz W w').2.2.2, hb⟩)

set_option maxRecDepth 100000 in
theorem fnExactMachNew_lifted (os : Os) (started : os.Started) (H : Type) (enc : TypeId × Value → H) :
    ReturnsInHanded {} Try.checked os 5 .any (Rows.fnExactMachNewSpec.pre6 enc Try.prog Try.f5 Rows.fnExactMachNewRow.domain false) (Rows.fnExactMachNewSpec.post enc Try.prog Try.f5 false true false false) := by
  refine returnsInHanded_of_change (C := Try.checked) own started (by kernel_rfl) Try.func5
    (ChangeSpec.witness6 (enc := enc) (C := Try.checked) false ⟨#[], #[.int .i64 0, .int .i64 0], []⟩ 8 (by kernel_rfl) (by kernel_rfl) (by kernel_rfl) (by kernel_rfl)) ?_
  intro W base args ds gs before hval0 hW hcnd _
  have hval : ∀ (j : Nat) t v, Try.f5.params[j]? = some t → args[j]? = some v → Value.okWide Try.prog W .any base t v := hval0
  have hW' := hW
  obtain ⟨p, q, hA0, hV, rfl, hfz, hnd⟩ := hW
  have hA : DataW.TrodAll enc Try.prog W 0 (fun _ => true) true Try.f5.params.toList args.toList ds p := hA0
  rw [Try.params5] at hA hval
  obtain ⟨v0, vs0, d0, ds0, p0, q0, hargs, rfl, rfl, h0, r0⟩ := trodAll_cons hA
  obtain ⟨v1, vs1, d1, ds1, p1, q1, rfl, rfl, rfl, h1, r1⟩ := trodAll_cons r0
  obtain ⟨rfl, rfl, rfl⟩ := trodAll_nil r1
  obtain rfl : args = #[v0, v1] := by cases args; simp_all
  obtain ⟨rfl, rfl⟩ := trodVars_none hV
  obtain ⟨a0, rfl, rfl, rfl, w0⟩ := open_int Try.underlying3 (hval 0 3 v0 rfl rfl) h0
  obtain ⟨a1, rfl, rfl, rfl, w1⟩ := open_int Try.underlying3 (hval 1 3 v1 rfl rfl) h1
  clear hA0 hval0
  refine (fnExactMachNew_walk a0 a1 W w0 w1).mono fun e W' ⟨he, bel⟩ => ?_
  subst he
  exact ⟨_, rfl, _, _, _, [], _, [], hW', trodAll_mk1 (shut_bool Try.underlying4 _), (trodAll_cons_mk (shut_int Try.underlying3 w0) (trodAll_cons_mk (shut_int Try.underlying3 w1) (trodAll_mk0))), rfl, bel.frame _, fun h => by cases h⟩

/-- The given statement: for every input the law returns true, and its arguments read as before. -/
theorem fnExactMachNew_holds : Rows.FnExactMachNewSaid :=
  OpenClaim.holds_of_wide 5 Try.f5 rfl rfl rfl rfl rfl rfl rfl ⟨rfl, rfl, rfl, rfl, rfl⟩ rfl rfl rfl rfl rfl (by kernel_rfl) Try.func5 (by kernel_rfl)
    (of_decide_eq_true (by kernel_rfl)) (by unfold Func.isWrapper; first | (rw [if_pos (by decide +kernel)]; kernel_rfl) | (rw [if_neg (by decide +kernel)]; exact ⟨rfl, rfl⟩))
    (fun os started H enc _ => fnExactMachNew_lifted os started H enc)
#print axioms fnExactMachNew_holds
end Go.Proofs.Ytooegpebimpjcaa
