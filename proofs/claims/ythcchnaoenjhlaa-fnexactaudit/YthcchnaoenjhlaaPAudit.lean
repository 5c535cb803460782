/- Audit of the program answers as the model at every argument, leaves its argument as it was, and answers in memory of its own. No condition. -/
import Derived.Test.YthcchnaoenjhlaaIAudit
import Derived.Test.YthcchnaoenjhlaaSAudit
import Derived.Test.YthcchnaoenjhlaaMemK
import Derived.Test.YthcchnaoenjhlaaKpF
import Derived.Test.YthcchnaoenjhlaaKpU
import Derived.Test.YthcchnaoenjhlaaOpen
import Derived.Test.YthcchnaoenjhlaaNewB
import Derived.Test.YthcchnaoenjhlaaEqP
import Derived.Test.YthcchnaoenjhlaaMarkP
import Derived.Deep.RegionHeld3
import Derived.Deep.DeepCutAuto
namespace Go.Proofs.Ythcchnaoenjhlaa
open Go.ChangeShapes Go.WideShapes Go.ChangeAt Go.RowKit
set_option linter.unusedVariables false

set_option maxRecDepth 100000 in
set_option maxHeartbeats 4000000 in
theorem fnExactAudit_walk (A : Option Addr) (n c : Nat) (zs : List Int) (w : World) (h : Rd w w.heap.size A n zs) (hm : n ≤ maxLen) (hf : ∀ z ∈ zs, 0 ≤ z ∧ z < 4294967296) :
    Calls Try.prog 6 #[.agg #[.slice A n c]] w fun e w' => e = .returned (.bool true) ∧ Below w.heap.size w w' := by
  by_cases hn : n ≤ 1048576
  · obtain ⟨ws, hws⟩ : ∃ ws : List Nat, zs = ints ws := ⟨zs.map Int.toNat, by
      unfold ints
      rw [List.map_map]
      conv => lhs; rw [← List.map_id zs]
      exact List.map_congr_left fun z hz2 => by have := (hf z hz2).1; simp; omega⟩
    have hX : ∀ X ∈ ws, X < 4294967296 := fun X hX => by
      have := (hf (X : Int) (by rw [hws]; exact List.mem_map.2 ⟨X, hX, rfl⟩)).2
      omega
    have HSI : Hid (∀ r k q, r = auditV ws → k = r.length → q = decide (HeapOk ws) → (∀ W g, Rd W W.heap.size (some ⟨g, 0, none⟩) n zs → Calls Try.prog 26 #[.agg #[.slice (some ⟨g, 0, none⟩) n n]] W fun e w' => ∃ A' c', e = .returned (.tuple #[.slice A' k c', .bool q]) ∧ OwnP w' W.heap.size A' k c' r ∧ Below W.heap.size W w') ∧ (∀ W g, Rd W W.heap.size (some ⟨g, 0, none⟩) n zs → Calls Try.prog 28 #[.agg #[.slice (some ⟨g, 0, none⟩) n n]] W fun e w' => ∃ A' c', e = .returned (.tuple #[.slice A' k c', .bool q]) ∧ OwnP w' W.heap.size A' k c' r ∧ Below W.heap.size W w')) := fun r k q e0 e1 e2 => ⟨fun W g h1 => by subst e1 e0 e2; rw [hws] at h1; exact sAudit_any _ n n _ ws W h1 (Nat.le_refl _) hX hm, fun W g h1 => by subst e1 e0 e2; rw [hws] at h1; exact audit_any _ n n _ ws W h1 (Nat.le_refl _) hX hm⟩
    have hlen := auditV_len ws
    obtain ⟨r, e0⟩ : ∃ x, x = auditV ws := ⟨_, rfl⟩
    obtain ⟨k, e1⟩ : ∃ x, x = r.length := ⟨_, rfl⟩
    obtain ⟨q, e2⟩ : ∃ x, x = decide (HeapOk ws) := ⟨_, rfl⟩
    rw [← e0, ← e1] at hlen
    have HS := Lib.hid (HSI.out r k q e0 e1 e2).1
    have HI := Lib.hid (HSI.out r k q e0 e1 e2).2
    have i0 : (q != q) = false := by simp
    have HQ : Hid (∀ W (A1 A2 : Option Addr) (c1 c2 : Nat), RdP W W.heap.size A1 k r → RdP W W.heap.size A2 k r → Calls Try.prog 16 #[.slice A1 k c1, .slice A2 k c2] W fun e w' => e = .returned (.bool true) ∧ Below W.heap.size W w') := fun W A1 A2 c1 c2 h1 h2 => (eqP_any A1 A2 k k c1 c2 _ _ r r W h1 h2 (Nat.le_refl _) (Nat.le_refl _) (by unfold maxLen; omega) (by unfold maxLen; omega)).mono fun e w' ⟨he, hq⟩ => ⟨by rw [he]; simp, hq⟩
    have HMM : Hid (∀ W (g b0 : Nat), Own W b0 (some ⟨g, 0, none⟩) n n zs → Calls Try.prog 30 #[.agg #[.slice (some ⟨g, 0, none⟩) n n], .int .i64 1] W fun e w' => e = .returned (.int .i64 (1 + n)) ∧ Own w' b0 (some ⟨g, 0, none⟩) n n (U.marks n) ∧ Kp (In2 (.slice (some ⟨g, 0, none⟩) n n) (.slice (some ⟨g, 0, none⟩) n n)) W w') := fun W g b0 h1 => (U.markMem_any _ n n b0 zs W h1 (by omega)).mono fun e w' ⟨he, ho, hg⟩ => ⟨he, ho, Kp.of_grown hg (fun k hk => .inl hk)⟩
    have HMP : Hid (∀ W (A1 : Option Addr) (c1 b0 : Nat), OwnP W b0 A1 k c1 r → Calls Try.prog 17 #[.slice A1 k c1, .int .i64 1] W fun e w' => e = .returned (.int .i64 (1 + 2 * k)) ∧ OwnP w' b0 A1 k c1 (marksP k) ∧ Kp (In2 (.slice A1 k c1) (.slice A1 k c1)) W w') := fun W A1 c1 b0 h1 => (markP_any A1 k c1 b0 r W h1 (by omega)).mono fun e w' ⟨he, ho, hg⟩ => ⟨he, ho, Kp.of_grown hg (fun k hk => .inl hk)⟩
    have HH : Hid (∀ W (A1 : Option Addr) (c1 : Nat), RdP W W.heap.size A1 k (marksP k) → Calls Try.prog 18 #[.slice A1 k c1, .int .i64 1] W fun e w' => e = .returned (.int .i64 (1 + 2 * k)) ∧ W = w') := fun W A1 c1 h1 => heldP_any A1 k c1 _ W h1 (by omega)
    clear HSI
    have HT : Hid (∀ W, Below w.heap.size w W → Calls Try.prog 27 #[.agg #[.slice A n c]] W fun e w' => ∃ g, e = .returned (.agg #[.slice (some ⟨g, 0, none⟩) n n]) ∧ Own w' W.heap.size (some ⟨g, 0, none⟩) n n zs ∧ Below W.heap.size W w') := fun W hb => U.toMem_any A n c w.heap.size zs W (h.below hb) hb.size hn
    have HZ := Lib.hid (fun W => U.szMem_any A n c 1048576 W hm (by omega) (by omega))
    have hq : ¬ (1048576 : Int) - (n : Int) < 0 := by omega
    simp only [if_neg hq] at HZ
    clear h hf hws hX e0 e1 e2
    go_enter Try.func6, Try.ntmps6
    have hk := bel1 w (.cells #[.slice A n c] 48)
    have V_arg_w1 : Hid ((w.alloc (.cells #[.slice A n c] 48)).heap[w.heap.size]? = some (.cells #[.slice A n c] 48 (0, 0))) := heap_alloc_new _ _
    have Bw1 : Hid (Below w.heap.size w (w.alloc (.cells #[.slice A n c] 48))) := hk
    have zw1 : w.heap.size + 1 ≤ (w.alloc (.cells #[.slice A n c] 48)).heap.size := Nat.le_of_eq (sz1 _ _).symm
    have yw1 : (w.alloc (.cells #[.slice A n c] 48)).heap.size ≤ w.heap.size + 1 := Nat.le_of_eq (sz1 _ _)
    clear hk
    go_wp2_with fail
    generalize w.alloc (.cells #[.slice A n c] 48) = w1 at *
    refine (HZ.out _).mono ?_
    rintro e w2 ⟨rfl, hb⟩
    have zw2 := hb.size
    have hk : Kp (fun _ => False) w1 w2 := Kp.of_below hb
    have V_arg_w2 : Hid (w2.heap[w.heap.size]? = some (.cells #[.slice A n c] 48 (0, 0))) := (hk.block _ (by omega) (fun h => h)).trans V_arg_w1.out
    have Bw2 : Hid (Below w.heap.size w w2) := Bw1.out.trans (hb.mono Bw1.out.size)
    clear V_arg_w1 Bw1
    clear hb hk
    have c_arg0 := blkc V_arg_w2.out 0 rfl
    go_wp2_with fail
    clear c_arg0
    refine (HT.out _ Bw2.out).mono ?_
    rintro e w3 ⟨qX, rfl, ho, hb⟩
    have zw3 := hb.size
    have hk : Kp (fun _ => False) w2 w3 := Kp.of_below hb
    have V_arg_w3 : Hid (w3.heap[w.heap.size]? = some (.cells #[.slice A n c] 48 (0, 0))) := (hk.block _ (by omega) (fun h => h)).trans V_arg_w2.out
    have Bw3 : Hid (Below w.heap.size w w3) := Bw2.out.trans (hb.mono Bw2.out.size)
    clear V_arg_w2 Bw2
    have O_QX_w3 : Hid (Own w3 w2.heap.size (some ⟨qX, 0, none⟩) n n zs) := ho
    have R_QX : Hid (∀ g, (Value.slice (some ⟨qX, 0, none⟩) n n).ownBlock = some g → w2.heap.size ≤ g ∧ g < w3.heap.size) := World.ownsRow.lt ho
    clear hb hk ho
    go_wp2_with fail
    refine (HS.out _ qX O_QX_w3.out.rd).mono ?_
    rintro e w4 ⟨AOW, cOW, rfl, ho, hb⟩
    have zw4 := hb.size
    have hk : Kp (fun _ => False) w3 w4 := Kp.of_below hb
    have V_arg_w4 : Hid (w4.heap[w.heap.size]? = some (.cells #[.slice A n c] 48 (0, 0))) := (hk.block _ (by omega) (fun h => h)).trans V_arg_w3.out
    have O_QX_w4 : Hid (Own w4 w2.heap.size (some ⟨qX, 0, none⟩) n n zs) := O_QX_w3.out.kp hk (fun g hg h => h)
    have Bw4 : Hid (Below w.heap.size w w4) := Bw3.out.trans (hb.mono Bw3.out.size)
    clear V_arg_w3 O_QX_w3 Bw3
    have O_OW_w4 : Hid (OwnP w4 w3.heap.size AOW k cOW r) := ho
    have R_OW : Hid (∀ g, (Value.slice AOW k cOW).ownBlock = some g → w3.heap.size ≤ g ∧ g < w4.heap.size) := World.ownsRow.lt ho
    clear hb hk ho
    clear O_QX_w4
    have c_arg0 := blkc V_arg_w4.out 0 rfl
    go_wp2_with fail
    clear c_arg0
    refine (HT.out _ Bw4.out).mono ?_
    rintro e w5 ⟨qY, rfl, ho, hb⟩
    have zw5 := hb.size
    have hk : Kp (fun _ => False) w4 w5 := Kp.of_below hb
    have V_arg_w5 : Hid (w5.heap[w.heap.size]? = some (.cells #[.slice A n c] 48 (0, 0))) := (hk.block _ (by omega) (fun h => h)).trans V_arg_w4.out
    have O_OW_w5 : Hid (OwnP w5 w3.heap.size AOW k cOW r) := O_OW_w4.out.kp hk (fun g hg h => h)
    have Bw5 : Hid (Below w.heap.size w w5) := Bw4.out.trans (hb.mono Bw4.out.size)
    clear V_arg_w4 O_OW_w4 Bw4
    have O_QY_w5 : Hid (Own w5 w4.heap.size (some ⟨qY, 0, none⟩) n n zs) := ho
    have R_QY : Hid (∀ g, (Value.slice (some ⟨qY, 0, none⟩) n n).ownBlock = some g → w4.heap.size ≤ g ∧ g < w5.heap.size) := World.ownsRow.lt ho
    clear hb hk ho
    have hk := bel1 w5 (.cells #[.slice (some ⟨qY, 0, none⟩) n n] 51)
    have V_arg_w6 : Hid ((w5.alloc (.cells #[.slice (some ⟨qY, 0, none⟩) n n] 51)).heap[w.heap.size]? = some (.cells #[.slice A n c] 48 (0, 0))) := (hk.block _ (by omega)).trans V_arg_w5.out
    have O_OW_w6 : Hid (OwnP (w5.alloc (.cells #[.slice (some ⟨qY, 0, none⟩) n n] 51)) w3.heap.size AOW k cOW r) := O_OW_w5.out.below hk
    have O_QY_w6 : Hid (Own (w5.alloc (.cells #[.slice (some ⟨qY, 0, none⟩) n n] 51)) w4.heap.size (some ⟨qY, 0, none⟩) n n zs) := O_QY_w5.out.below hk
    have V_vY_w6 : Hid ((w5.alloc (.cells #[.slice (some ⟨qY, 0, none⟩) n n] 51)).heap[w5.heap.size]? = some (.cells #[.slice (some ⟨qY, 0, none⟩) n n] 51 (0, 0))) := heap_alloc_new _ _
    have Bw6 : Hid (Below w.heap.size w (w5.alloc (.cells #[.slice (some ⟨qY, 0, none⟩) n n] 51))) := Bw5.out.alloc Bw5.out.size _
    have zw6 : w5.heap.size + 1 ≤ (w5.alloc (.cells #[.slice (some ⟨qY, 0, none⟩) n n] 51)).heap.size := Nat.le_of_eq (sz1 _ _).symm
    have yw6 : (w5.alloc (.cells #[.slice (some ⟨qY, 0, none⟩) n n] 51)).heap.size ≤ w5.heap.size + 1 := Nat.le_of_eq (sz1 _ _)
    clear V_arg_w5 O_OW_w5 O_QY_w5 Bw5 hk
    go_wp2_with fail
    generalize w5.alloc (.cells #[.slice (some ⟨qY, 0, none⟩) n n] 51) = w6 at *
    refine (HI.out _ qY O_QY_w6.out.rd).mono ?_
    rintro e w7 ⟨AOG, cOG, rfl, ho, hb⟩
    have zw7 := hb.size
    have hk : Kp (fun _ => False) w6 w7 := Kp.of_below hb
    have V_arg_w7 : Hid (w7.heap[w.heap.size]? = some (.cells #[.slice A n c] 48 (0, 0))) := (hk.block _ (by omega) (fun h => h)).trans V_arg_w6.out
    have V_vY_w7 : Hid (w7.heap[w5.heap.size]? = some (.cells #[.slice (some ⟨qY, 0, none⟩) n n] 51 (0, 0))) := (hk.block _ (by omega) (fun h => h)).trans V_vY_w6.out
    have O_OW_w7 : Hid (OwnP w7 w3.heap.size AOW k cOW r) := O_OW_w6.out.kp hk (fun g hg h => h)
    have O_QY_w7 : Hid (Own w7 w4.heap.size (some ⟨qY, 0, none⟩) n n zs) := O_QY_w6.out.kp hk (fun g hg h => h)
    have Bw7 : Hid (Below w.heap.size w w7) := Bw6.out.trans (hb.mono Bw6.out.size)
    clear V_arg_w6 V_vY_w6 O_OW_w6 O_QY_w6 Bw6
    have O_OG_w7 : Hid (OwnP w7 w6.heap.size AOG k cOG r) := ho
    have R_OG : Hid (∀ g, (Value.slice AOG k cOG).ownBlock = some g → w6.heap.size ≤ g ∧ g < w7.heap.size) := World.ownsRow.lt ho
    clear hb hk ho
    go_wp2_with fail
    refine (HQ.out _ _ _ _ _ O_OG_w7.out.rd O_OW_w7.out.rd).mono ?_
    rintro e w8 ⟨rfl, hb⟩
    have zw8 := hb.size
    have hk : Kp (fun _ => False) w7 w8 := Kp.of_below hb
    have V_arg_w8 : Hid (w8.heap[w.heap.size]? = some (.cells #[.slice A n c] 48 (0, 0))) := (hk.block _ (by omega) (fun h => h)).trans V_arg_w7.out
    have V_vY_w8 : Hid (w8.heap[w5.heap.size]? = some (.cells #[.slice (some ⟨qY, 0, none⟩) n n] 51 (0, 0))) := (hk.block _ (by omega) (fun h => h)).trans V_vY_w7.out
    have O_OW_w8 : Hid (OwnP w8 w3.heap.size AOW k cOW r) := O_OW_w7.out.kp hk (fun g hg h => h)
    have O_QY_w8 : Hid (Own w8 w4.heap.size (some ⟨qY, 0, none⟩) n n zs) := O_QY_w7.out.kp hk (fun g hg h => h)
    have O_OG_w8 : Hid (OwnP w8 w6.heap.size AOG k cOG r) := O_OG_w7.out.kp hk (fun g hg h => h)
    have Bw8 : Hid (Below w.heap.size w w8) := Bw7.out.trans (hb.mono Bw7.out.size)
    clear V_arg_w7 V_vY_w7 O_OW_w7 O_QY_w7 O_OG_w7 Bw7
    clear hb hk
    go_wp2_with fail
    have x0r9 : w8.cell? ⟨w5.heap.size, 0, none⟩ = some (.slice (some ⟨qY, 0, none⟩) n n) ∧ w8.cell? ⟨w.heap.size, 0, none⟩ = some (.slice A n c) := ⟨blkc V_vY_w8.out 0 rfl, blkc V_arg_w8.out 0 rfl⟩
    have x0dr9 : w8.drew.cell? ⟨w5.heap.size, 0, none⟩ = some (.slice (some ⟨qY, 0, none⟩) n n) ∧ w8.drew.cell? ⟨w.heap.size, 0, none⟩ = some (.slice A n c) := x0r9
    have D0r9 : Hid (Below w8.heap.size w8 w8.drew) := (Below.refl _ _).drew
    have xSr9 : Hid (∀ w', Below w8.heap.size w8 w' → w'.cell? ⟨w5.heap.size, 0, none⟩ = some (.slice (some ⟨qY, 0, none⟩) n n) ∧ w'.cell? ⟨w.heap.size, 0, none⟩ = some (.slice A n c)) := fun w' hb => ⟨later_at0 hb x0r9.1, later_at0 hb x0r9.2⟩
    go_cut [45] (fun s0 wx => s0 = .bool false ∧ Hid (Below w8.heap.size w8 wx))
    case first =>
      have CT : Hid (∀ W', Below w8.heap.size w8 W' → Calls Try.prog 27 #[.agg #[.slice A n c]] W' fun e w' => ∃ g, e = .returned (.agg #[.slice (some ⟨g, 0, none⟩) n n]) ∧ Hid (Rd w' w'.heap.size (some ⟨g, 0, none⟩) n zs) ∧ Hid (Below w8.heap.size w8 w') ∧ (w'.cell? ⟨w5.heap.size, 0, none⟩ = some (.slice (some ⟨qY, 0, none⟩) n n) ∧ w'.cell? ⟨w.heap.size, 0, none⟩ = some (.slice A n c))) := fun W' hb => (HT.out W' (Bw8.out.trans (hb.mono Bw8.out.size))).mono fun e w' ⟨g, he, ho, hb2⟩ => ⟨g, he, ho.rd, hb.trans (hb2.mono hb.size), xSr9.out w' (hb.trans (hb2.mono hb.size))⟩
      have CE : Hid (∀ W' g, Below w8.heap.size w8 W' → Rd W' W'.heap.size (some ⟨g, 0, none⟩) n zs → Calls Try.prog 29 #[.agg #[.slice (some ⟨qY, 0, none⟩) n n], .agg #[.slice (some ⟨g, 0, none⟩) n n]] W' fun e w' => e = .returned (.bool true) ∧ Hid (Below w8.heap.size w8 w') ∧ (w'.cell? ⟨w5.heap.size, 0, none⟩ = some (.slice (some ⟨qY, 0, none⟩) n n) ∧ w'.cell? ⟨w.heap.size, 0, none⟩ = some (.slice A n c))) := fun W' g hb hr => (U.eqMem_any _ _ n n n n _ _ zs zs W' (O_QY_w8.out.rd.below hb) hr hb.size (Nat.le_refl _) hn hn).mono fun e w' ⟨he, hb2⟩ => ⟨by rw [he]; simp, hb.trans (hb2.mono hb.size), xSr9.out w' (hb.trans (hb2.mono hb.size))⟩
      go_region_held3 (fun w' => w'.cell? ⟨w5.heap.size, 0, none⟩ = some (.slice (some ⟨qY, 0, none⟩) n n) ∧ w'.cell? ⟨w.heap.size, 0, none⟩ = some (.slice A n c))
        (first | exact x0r9 | exact x0dr9 | exact xt | exact xe)
        (first | (go_at_call 27; (with_reducible refine (CT.out _ D0r9.out).mono ?_); rintro e wt ⟨gq, rfl, RT, BT, xt⟩)
               | (go_at_call 29; (with_reducible refine (CE.out _ _ BT.out RT.out).mono ?_); rintro e we ⟨rfl, BE, xe⟩))
      all_goals (go_wp2_with fail; go_meet; exact ⟨rfl, BE⟩)
    case rest =>
      obtain ⟨rfl, hb0⟩ := hcut
      generalize wc = w10 at *
      have hb := hb0.out
      clear hb0 x0r9 x0dr9 D0r9 xSr9
      have zw10 := hb.size
      have hk : Kp (fun _ => False) w8 w10 := Kp.of_below hb
      have V_arg_w10 : Hid (w10.heap[w.heap.size]? = some (.cells #[.slice A n c] 48 (0, 0))) := (hk.block _ (by omega) (fun h => h)).trans V_arg_w8.out
      have V_vY_w10 : Hid (w10.heap[w5.heap.size]? = some (.cells #[.slice (some ⟨qY, 0, none⟩) n n] 51 (0, 0))) := (hk.block _ (by omega) (fun h => h)).trans V_vY_w8.out
      have O_OW_w10 : Hid (OwnP w10 w3.heap.size AOW k cOW r) := O_OW_w8.out.kp hk (fun g hg h => h)
      have O_QY_w10 : Hid (Own w10 w4.heap.size (some ⟨qY, 0, none⟩) n n zs) := O_QY_w8.out.kp hk (fun g hg h => h)
      have O_OG_w10 : Hid (OwnP w10 w6.heap.size AOG k cOG r) := O_OG_w8.out.kp hk (fun g hg h => h)
      have Bw10 : Hid (Below w.heap.size w w10) := Bw8.out.trans (hb.mono Bw8.out.size)
      clear V_arg_w8 V_vY_w8 O_OW_w8 O_QY_w8 O_OG_w8 Bw8
      clear hb hk
      have c_vY0 := blkc V_vY_w10.out 0 rfl
      go_wp2_with fail
      clear c_vY0
      refine (HMM.out _ _ _ O_QY_w10.out).mono ?_
      rintro e w11 ⟨rfl, ho, hk⟩
      have zw11 := hk.size
      have V_arg_w11 : Hid (w11.heap[w.heap.size]? = some (.cells #[.slice A n c] 48 (0, 0))) := (hk.block _ (by omega) (fun h => by rcases h with h | h <;> ((try have q0 := R_QY.out _ h.symm); omega))).trans V_arg_w10.out
      have V_vY_w11 : Hid (w11.heap[w5.heap.size]? = some (.cells #[.slice (some ⟨qY, 0, none⟩) n n] 51 (0, 0))) := (hk.block _ (by omega) (fun h => by rcases h with h | h <;> ((try have q0 := R_QY.out _ h.symm); omega))).trans V_vY_w10.out
      have O_OW_w11 : Hid (OwnP w11 w3.heap.size AOW k cOW r) := O_OW_w10.out.kp hk (fun g hg h => by have q := R_OW.out g hg; rcases h with h | h <;> ((try have q0 := R_QY.out _ h.symm); omega))
      have O_OG_w11 : Hid (OwnP w11 w6.heap.size AOG k cOG r) := O_OG_w10.out.kp hk (fun g hg h => by have q := R_OG.out g hg; rcases h with h | h <;> ((try have q0 := R_QY.out _ h.symm); omega))
      have Bw11 : Hid (Below w.heap.size w w11) := Kp.bel hk Bw10.out Bw10.out.size (fun k h => by rcases h with h | h <;> ((try have q0 := R_QY.out _ h.symm); omega))
      clear V_arg_w10 V_vY_w10 O_OW_w10 O_QY_w10 O_OG_w10 Bw10
      have O_QY_w11 : Hid (Own w11 w4.heap.size (some ⟨qY, 0, none⟩) n n (U.marks n)) := ho
      clear hk ho
      have hq1 : ¬ (1 : Int) + (n : Int) < 0 := by omega
      go_wp2_with fail
      refine (HQ.out _ _ _ _ _ O_OG_w11.out.rd O_OW_w11.out.rd).mono ?_
      rintro e w12 ⟨rfl, hb⟩
      have zw12 := hb.size
      have hk : Kp (fun _ => False) w11 w12 := Kp.of_below hb
      have V_arg_w12 : Hid (w12.heap[w.heap.size]? = some (.cells #[.slice A n c] 48 (0, 0))) := (hk.block _ (by omega) (fun h => h)).trans V_arg_w11.out
      have V_vY_w12 : Hid (w12.heap[w5.heap.size]? = some (.cells #[.slice (some ⟨qY, 0, none⟩) n n] 51 (0, 0))) := (hk.block _ (by omega) (fun h => h)).trans V_vY_w11.out
      have O_OW_w12 : Hid (OwnP w12 w3.heap.size AOW k cOW r) := O_OW_w11.out.kp hk (fun g hg h => h)
      have O_QY_w12 : Hid (Own w12 w4.heap.size (some ⟨qY, 0, none⟩) n n (U.marks n)) := O_QY_w11.out.kp hk (fun g hg h => h)
      have O_OG_w12 : Hid (OwnP w12 w6.heap.size AOG k cOG r) := O_OG_w11.out.kp hk (fun g hg h => h)
      have Bw12 : Hid (Below w.heap.size w w12) := Bw11.out.trans (hb.mono Bw11.out.size)
      clear V_arg_w11 V_vY_w11 O_OW_w11 O_QY_w11 O_OG_w11 Bw11
      clear hb hk
      go_wp2_with fail
      refine (HMP.out _ _ _ _ O_OG_w12.out).mono ?_
      rintro e w13 ⟨rfl, ho, hk⟩
      have zw13 := hk.size
      have V_arg_w13 : Hid (w13.heap[w.heap.size]? = some (.cells #[.slice A n c] 48 (0, 0))) := (hk.block _ (by omega) (fun h => by rcases h with h | h <;> ((try have q0 := R_OG.out _ h.symm); omega))).trans V_arg_w12.out
      have V_vY_w13 : Hid (w13.heap[w5.heap.size]? = some (.cells #[.slice (some ⟨qY, 0, none⟩) n n] 51 (0, 0))) := (hk.block _ (by omega) (fun h => by rcases h with h | h <;> ((try have q0 := R_OG.out _ h.symm); omega))).trans V_vY_w12.out
      have O_OW_w13 : Hid (OwnP w13 w3.heap.size AOW k cOW r) := O_OW_w12.out.kp hk (fun g hg h => by have q := R_OW.out g hg; rcases h with h | h <;> ((try have q0 := R_OG.out _ h.symm); omega))
      have O_QY_w13 : Hid (Own w13 w4.heap.size (some ⟨qY, 0, none⟩) n n (U.marks n)) := O_QY_w12.out.kp hk (fun g hg h => by have q := R_QY.out g hg; rcases h with h | h <;> ((try have q0 := R_OG.out _ h.symm); omega))
      have Bw13 : Hid (Below w.heap.size w w13) := Kp.bel hk Bw12.out Bw12.out.size (fun k h => by rcases h with h | h <;> ((try have q0 := R_OG.out _ h.symm); omega))
      clear V_arg_w12 V_vY_w12 O_OW_w12 O_QY_w12 O_OG_w12 Bw12
      have O_OG_w13 : Hid (OwnP w13 w6.heap.size AOG k cOG (marksP k)) := ho
      clear hk ho
      go_wp2_with fail
      refine (HH.out _ _ _ O_OG_w13.out.rd).mono ?_
      rintro e w9 ⟨rfl, rfl⟩
      have hq2 : ¬ (1 : Int) + 2 * (k : Int) < 0 := by omega
      have hq3 : ((1 : Int) + 2 * (k : Int) != 1 + 2 * (k : Int)) = false := by simp
      have c_arg0 := blkc V_arg_w13.out 0 rfl
      go_wp2_with fail
      clear c_arg0
      refine (HT.out _ Bw13.out).mono ?_
      rintro e w14 ⟨qV, rfl, ho, hb⟩
      have zw14 := hb.size
      have hk : Kp (fun _ => False) w13 w14 := Kp.of_below hb
      have V_arg_w14 : Hid (w14.heap[w.heap.size]? = some (.cells #[.slice A n c] 48 (0, 0))) := (hk.block _ (by omega) (fun h => h)).trans V_arg_w13.out
      have V_vY_w14 : Hid (w14.heap[w5.heap.size]? = some (.cells #[.slice (some ⟨qY, 0, none⟩) n n] 51 (0, 0))) := (hk.block _ (by omega) (fun h => h)).trans V_vY_w13.out
      have O_OW_w14 : Hid (OwnP w14 w3.heap.size AOW k cOW r) := O_OW_w13.out.kp hk (fun g hg h => h)
      have O_QY_w14 : Hid (Own w14 w4.heap.size (some ⟨qY, 0, none⟩) n n (U.marks n)) := O_QY_w13.out.kp hk (fun g hg h => h)
      have O_OG_w14 : Hid (OwnP w14 w6.heap.size AOG k cOG (marksP k)) := O_OG_w13.out.kp hk (fun g hg h => h)
      have Bw14 : Hid (Below w.heap.size w w14) := Bw13.out.trans (hb.mono Bw13.out.size)
      clear V_arg_w13 V_vY_w13 O_OW_w13 O_QY_w13 O_OG_w13 Bw13
      have O_QV_w14 : Hid (Own w14 w13.heap.size (some ⟨qV, 0, none⟩) n n zs) := ho
      have R_QV : Hid (∀ g, (Value.slice (some ⟨qV, 0, none⟩) n n).ownBlock = some g → w13.heap.size ≤ g ∧ g < w14.heap.size) := World.ownsRow.lt ho
      clear hb hk ho
      go_wp2_with fail
      refine (HI.out _ qV O_QV_w14.out.rd).mono ?_
      rintro e w15 ⟨AOH, cOH, rfl, ho, hb⟩
      have zw15 := hb.size
      have hk : Kp (fun _ => False) w14 w15 := Kp.of_below hb
      have V_arg_w15 : Hid (w15.heap[w.heap.size]? = some (.cells #[.slice A n c] 48 (0, 0))) := (hk.block _ (by omega) (fun h => h)).trans V_arg_w14.out
      have V_vY_w15 : Hid (w15.heap[w5.heap.size]? = some (.cells #[.slice (some ⟨qY, 0, none⟩) n n] 51 (0, 0))) := (hk.block _ (by omega) (fun h => h)).trans V_vY_w14.out
      have O_OW_w15 : Hid (OwnP w15 w3.heap.size AOW k cOW r) := O_OW_w14.out.kp hk (fun g hg h => h)
      have O_QY_w15 : Hid (Own w15 w4.heap.size (some ⟨qY, 0, none⟩) n n (U.marks n)) := O_QY_w14.out.kp hk (fun g hg h => h)
      have O_OG_w15 : Hid (OwnP w15 w6.heap.size AOG k cOG (marksP k)) := O_OG_w14.out.kp hk (fun g hg h => h)
      have O_QV_w15 : Hid (Own w15 w13.heap.size (some ⟨qV, 0, none⟩) n n zs) := O_QV_w14.out.kp hk (fun g hg h => h)
      have Bw15 : Hid (Below w.heap.size w w15) := Bw14.out.trans (hb.mono Bw14.out.size)
      clear V_arg_w14 V_vY_w14 O_OW_w14 O_QY_w14 O_OG_w14 O_QV_w14 Bw14
      have O_OH_w15 : Hid (OwnP w15 w14.heap.size AOH k cOH r) := ho
      have R_OH : Hid (∀ g, (Value.slice AOH k cOH).ownBlock = some g → w14.heap.size ≤ g ∧ g < w15.heap.size) := World.ownsRow.lt ho
      clear hb hk ho
      go_wp2_with fail
      refine (HQ.out _ _ _ _ _ O_OH_w15.out.rd O_OW_w15.out.rd).mono ?_
      rintro e w16 ⟨rfl, hb⟩
      have zw16 := hb.size
      have hk : Kp (fun _ => False) w15 w16 := Kp.of_below hb
      have V_arg_w16 : Hid (w16.heap[w.heap.size]? = some (.cells #[.slice A n c] 48 (0, 0))) := (hk.block _ (by omega) (fun h => h)).trans V_arg_w15.out
      have V_vY_w16 : Hid (w16.heap[w5.heap.size]? = some (.cells #[.slice (some ⟨qY, 0, none⟩) n n] 51 (0, 0))) := (hk.block _ (by omega) (fun h => h)).trans V_vY_w15.out
      have O_OW_w16 : Hid (OwnP w16 w3.heap.size AOW k cOW r) := O_OW_w15.out.kp hk (fun g hg h => h)
      have O_QY_w16 : Hid (Own w16 w4.heap.size (some ⟨qY, 0, none⟩) n n (U.marks n)) := O_QY_w15.out.kp hk (fun g hg h => h)
      have O_OG_w16 : Hid (OwnP w16 w6.heap.size AOG k cOG (marksP k)) := O_OG_w15.out.kp hk (fun g hg h => h)
      have O_QV_w16 : Hid (Own w16 w13.heap.size (some ⟨qV, 0, none⟩) n n zs) := O_QV_w15.out.kp hk (fun g hg h => h)
      have O_OH_w16 : Hid (OwnP w16 w14.heap.size AOH k cOH r) := O_OH_w15.out.kp hk (fun g hg h => h)
      have Bw16 : Hid (Below w.heap.size w w16) := Bw15.out.trans (hb.mono Bw15.out.size)
      clear V_arg_w15 V_vY_w15 O_OW_w15 O_QY_w15 O_OG_w15 O_QV_w15 O_OH_w15 Bw15
      clear hb hk
      go_wp2_with fail
      refine (HH.out _ _ _ O_OG_w16.out.rd).mono ?_
      rintro e w9 ⟨rfl, rfl⟩
      go_wp2
      go_ret
      exact ⟨rfl, Bw16.out⟩
  · have HZ := Lib.hid (fun W => U.szMem_any A n c 1048576 W hm (by omega) (by omega))
    have hq : (1048576 : Int) - (n : Int) < 0 := by omega
    simp only [if_pos hq] at HZ
    have HB0 := Lib.hid (bel1 w (.cells #[.slice A n c] 48))
    clear h hf
    go_enter Try.func6, Try.ntmps6
    go_wp2_with fail
    refine (HZ.out _).mono ?_
    rintro e w1 ⟨rfl, hb⟩
    have B1 := Lib.hid (HB0.out.trans (hb.mono HB0.out.size))
    clear hb
    go_wp2
    go_ret
    exact ⟨rfl, B1.out⟩

set_option maxRecDepth 100000 in
theorem fnExactAudit_lifted (os : Os) (started : os.Started) (H : Type) (enc : TypeId × Value → H) :
    ReturnsInHanded {} Try.checked os 6 .any (Rows.fnExactAuditSpec.pre6 enc Try.prog Try.f6 Rows.fnExactAuditRow.domain false) (Rows.fnExactAuditSpec.post enc Try.prog Try.f6 false true false false) := by
  refine returnsInHanded_of_change (C := Try.checked) own started (by kernel_rfl) Try.func6
    (ChangeSpec.witness6 (enc := enc) (C := Try.checked) false ⟨#[], #[.agg #[.slice none 0 0]], []⟩ 8 (by kernel_rfl) (by kernel_rfl) (by kernel_rfl) (by kernel_rfl)) ?_
  intro W base args ds gs before hval0 hW hcnd _
  have hval : ∀ (j : Nat) t v, Try.f6.params[j]? = some t → args[j]? = some v → Value.okWide Try.prog W .any base t v := hval0
  have hW' := hW
  obtain ⟨p, q, hA0, hV, rfl, hfz, hnd⟩ := hW
  have hA : DataW.TrodAll enc Try.prog W 0 (fun _ => true) true Try.f6.params.toList args.toList ds p := hA0
  rw [Try.params6] at hA hval
  obtain ⟨v0, vs0, d0, ds0, p0, q0, hargs, rfl, rfl, h0, r0⟩ := trodAll_cons hA
  obtain ⟨rfl, rfl, rfl⟩ := trodAll_nil r0
  obtain rfl : args = #[v0] := by cases args; simp_all
  obtain ⟨rfl, rfl⟩ := trodVars_none hV
  have k0 := h0
  have lt0 : ∀ x ∈ p0, x.block < W.heap.size := by obtain ⟨m, hm⟩ := k0; exact DataW.trod_lt m _ _ _ hm
  obtain ⟨A0, n0, c0, z0, rfl, m0, rd0, f0⟩ := open_mem (hval 0 48 v0 rfl rfl) h0
  clear hA0 hval0
  refine (fnExactAudit_walk A0 n0 c0 z0 W rd0 m0 f0).mono fun e W' ⟨he, bel⟩ => ?_
  subst he
  exact ⟨_, rfl, _, _, _, [], _, [], hW', trodAll_mk1 (shut_bool Try.underlying4 _), (trodAll_cons_mk (Below.trod laidOut (by kernel_rfl) (of_decide_eq_true (by kernel_rfl)) k0 bel lt0) (trodAll_mk0)), rfl, bel.frame _, fun h => by cases h⟩

/-- The given statement: for every input the law returns true, and its arguments read as before. -/
theorem fnExactAudit_holds : Rows.FnExactAuditSaid :=
  OpenClaim.holds_of_wide 6 Try.f6 rfl rfl rfl rfl rfl rfl rfl ⟨rfl, rfl, rfl, rfl, rfl⟩ rfl rfl rfl rfl rfl (by kernel_rfl) Try.func6 (by kernel_rfl)
    (of_decide_eq_true (by kernel_rfl)) (by unfold Func.isWrapper; first | (rw [if_pos (by decide +kernel)]; kernel_rfl) | (rw [if_neg (by decide +kernel)]; exact ⟨rfl, rfl⟩))
    (fun os started H enc _ => fnExactAudit_lifted os started H enc)
#print axioms fnExactAudit_holds
end Go.Proofs.Ythcchnaoenjhlaa
