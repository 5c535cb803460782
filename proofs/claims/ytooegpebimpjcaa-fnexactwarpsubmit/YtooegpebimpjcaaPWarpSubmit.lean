/- WarpSubmit of the program answers as the model at every argument, in memory of its own, and leaves its arguments as they were. No condition. -/
import Derived.Test.YtooegpebimpjcaaISubmit
import Derived.Test.YtooegpebimpjcaaSSubmit
import Derived.Test.YtooegpebimpjcaaLawS
import Derived.Test.YtooegpebimpjcaaOpenW
namespace Go.Proofs.Ytooegpebimpjcaa
open Go.ChangeShapes Go.WideShapes Go.ChangeAt Go.RowKit
set_option linter.unusedVariables false

set_option maxRecDepth 100000 in
set_option maxHeartbeats 16000000 in
theorem fnExactWarpSubmit_walk (kd : Int) (A : Option Addr) (n c : Nat) (vs : List Int) (B : Option Addr) (m d : Nat) (gs : List Int) (td : Nat) (ph pr hd : Int) (sn : Nat) (rk : Int) (D : Option Addr) (o f : Nat) (us : List Int) (w : World)
    (hw : (Lit.int .i64 kd).wf = true ∧ td < 4294967296 ∧ (Lit.int .i64 ph).wf = true ∧ (Lit.int .i64 pr).wf = true ∧ (Lit.int .i64 hd).wf = true ∧ sn < 4294967296) (hv : n ≤ maxLen ∧ RdK .i64 w w.heap.size A n vs ∧ Fits vs) (hg : m ≤ maxLen ∧ RdK .i64 w w.heap.size B m gs ∧ Fits gs) (hwr : (Lit.int .i64 rk).wf = true) (hu : RdK .i64 w w.heap.size D o us) (hm3 : o ≤ maxLen) (hfu : Fits us) :
    Calls Try.prog 4 #[.agg #[.int .i64 kd, .slice A n c, .slice B m d, .int .u32 (td : Int), .int .i64 ph, .int .i64 pr, .int .i64 hd, .int .u32 (sn : Int)], .agg #[.int .i64 rk, .slice D o f]] w fun e w' => e = .returned (.bool true) ∧ Below w.heap.size w w' := by
  obtain ⟨hm, hv, hfv⟩ := hv
  obtain ⟨hm2, hg, hfg⟩ := hg
  obtain ⟨hw1, ht, hw2, hpr, hw3, hsn⟩ := hw
  by_cases hn : (n : Int) + m ≤ 1048576
  · have HZ := Lib.hid (fun W => szWarp_yes kd A n c B m d td ph pr hd sn 1048576 W (Int.le_refl _) hn)
    have hq : ¬ (1048576 : Int) - (n : Int) - (m : Int) < 0 := by omega
    by_cases ho : (o : Int) ≤ 1048576 - (n : Int) - (m : Int)
    · have HZr := Lib.hid (fun W => szReq_yes rk D o f (1048576 - (n : Int) - (m : Int)) W (by omega) ho)
      have hq2 : ¬ (1048576 : Int) - (n : Int) - (m : Int) - (o : Int) < 0 := by omega
      have HQ : Hid (∀ r K N T V G, r = decide (SubOk kd vs gs td ph pr hd sn rk us) → K = subK r rk us → N = subN r → T = subT r rk us → V = subV r us → G = subG r → (∀ W g k q, RdK .i64 W W.heap.size (some ⟨g, 0, none⟩) n vs → RdK .i64 W W.heap.size (some ⟨k, 0, none⟩) m gs → RdK .i64 W W.heap.size (some ⟨q, 0, none⟩) o us → Calls Try.prog 15 #[.agg #[.int .i64 kd, .slice (some ⟨g, 0, none⟩) n n, .slice (some ⟨k, 0, none⟩) m m, .int .u32 (td : Int), .int .i64 ph, .int .i64 pr, .int .i64 hd, .int .u32 (sn : Int)], .agg #[.int .i64 rk, .slice (some ⟨q, 0, none⟩) o o]] W fun e w' => ∃ A' c' B' d', e = .returned (.tuple #[.agg #[.int .i64 K, .slice A' N c', .slice B' N d', .int .u32 (T : Int), .int .i64 0, .int .i64 0, .int .i64 0, .int .u32 0], .bool r]) ∧ OwnK 3 .i64 w' W.heap.size A' N c' V ∧ OwnK 3 .i64 w' W.heap.size B' N d' G ∧ (∀ g, (Value.slice A' N c').ownBlock = some g → (Value.slice B' N d').ownBlock ≠ some g) ∧ Below W.heap.size W w') ∧ (∀ W g k q, RdK .i64 W W.heap.size (some ⟨g, 0, none⟩) n vs → RdK .i64 W W.heap.size (some ⟨k, 0, none⟩) m gs → RdK .i64 W W.heap.size (some ⟨q, 0, none⟩) o us → Calls Try.prog 18 #[.agg #[.int .i64 kd, .slice (some ⟨g, 0, none⟩) n n, .slice (some ⟨k, 0, none⟩) m m, .int .u32 (td : Int), .int .i64 ph, .int .i64 pr, .int .i64 hd, .int .u32 (sn : Int)], .agg #[.int .i64 rk, .slice (some ⟨q, 0, none⟩) o o]] W fun e w' => ∃ A' c' B' d', e = .returned (.tuple #[.agg #[.int .i64 K, .slice A' N c', .slice B' N d', .int .u32 (T : Int), .int .i64 0, .int .i64 0, .int .i64 0, .int .u32 0], .bool r]) ∧ OwnK 3 .i64 w' W.heap.size A' N c' V ∧ OwnK 3 .i64 w' W.heap.size B' N d' G ∧ (∀ g, (Value.slice A' N c').ownBlock = some g → (Value.slice B' N d').ownBlock ≠ some g) ∧ Below W.heap.size W w')) := by
        intro r K N T V G hr hK hN hT hV hG
        subst hK hN hT hV hG hr
        exact ⟨fun W g k q h1 h2 h3 => sWarpSubmit_any kd _ n n _ m m td ph pr hd sn vs gs _ _ rk _ o o _ us W h1 (Nat.le_refl _) hm h2 (Nat.le_refl _) hm2 ht hsn hpr h3 (Nat.le_refl _) hm3, fun W g k q h1 h2 h3 => warpSubmit_any kd _ n n _ m m td ph pr hd sn vs gs _ _ rk _ o o _ us W h1 (Nat.le_refl _) hm h2 (Nat.le_refl _) hm2 ht hsn hpr h3 (Nat.le_refl _) hm3⟩
      obtain ⟨r, hr⟩ : ∃ r, r = decide (SubOk kd vs gs td ph pr hd sn rk us) := ⟨_, rfl⟩
      obtain ⟨K, hK⟩ : ∃ K, K = subK r rk us := ⟨_, rfl⟩
      obtain ⟨N, hN0⟩ : ∃ N, N = subN r := ⟨_, rfl⟩
      obtain ⟨T, hT⟩ : ∃ T, T = subT r rk us := ⟨_, rfl⟩
      obtain ⟨V, hV⟩ : ∃ V, V = subV r us := ⟨_, rfl⟩
      obtain ⟨G, hG⟩ : ∃ G, G = subG r := ⟨_, rfl⟩
      have HS := Lib.hid (HQ.out r K N T V G hr hK hN0 hT hV hG).1
      have HI := Lib.hid (HQ.out r K N T V G hr hK hN0 hT hV hG).2
      have hN8 : N ≤ 8 := by rw [hN0]; unfold subN; split <;> omega
      have hN : N ≤ maxLen := by unfold maxLen; omega
      clear HQ hr hK hN0 hT hV hG
      have hbb : (r != r) = false := by simp
      have hm3' := hm3
      have HT : Hid (∀ W, Below w.heap.size w W → Calls Try.prog 16 #[.agg #[.int .i64 kd, .slice A n c, .slice B m d, .int .u32 (td : Int), .int .i64 ph, .int .i64 pr, .int .i64 hd, .int .u32 (sn : Int)]] W fun e w' => ∃ g k, e = .returned (.agg #[.int .i64 kd, .slice (some ⟨g, 0, none⟩) n n, .slice (some ⟨k, 0, none⟩) m m, .int .u32 (td : Int), .int .i64 ph, .int .i64 pr, .int .i64 hd, .int .u32 (sn : Int)]) ∧ OwnK 3 .i64 w' W.heap.size (some ⟨g, 0, none⟩) n n vs ∧ OwnK 3 .i64 w' (g + 1) (some ⟨k, 0, none⟩) m m gs ∧ Below W.heap.size W w') := fun W hb => toWarp_any kd A n c B m d td ph pr hd sn _ _ vs gs W (hv.below hb) hb.size (by omega) (hg.below hb) hb.size (by omega)
      have HTr : Hid (∀ W, Below w.heap.size w W → Calls Try.prog 17 #[.agg #[.int .i64 rk, .slice D o f]] W fun e w' => ∃ g, e = .returned (.agg #[.int .i64 rk, .slice (some ⟨g, 0, none⟩) o o]) ∧ OwnK 3 .i64 w' W.heap.size (some ⟨g, 0, none⟩) o o us ∧ Below W.heap.size W w') := fun W hb => toReq_any rk D o f w.heap.size us W (hu.below hb) hb.size (by omega)
      clear hv hg hu hfv hfg hfu hw1 hw2 hw3 hpr hsn ht hwr
      go_enter Try.func4, Try.ntmps4
      have V_arg_w1 : Hid (((w.alloc (.cells #[.int .i64 kd, .slice A n c, .slice B m d, .int .u32 (td : Int), .int .i64 ph, .int .i64 pr, .int .i64 hd, .int .u32 (sn : Int)] 30)).alloc (.cells #[.int .i64 rk, .slice D o f] 32)).heap[w.heap.size]? = some (.cells #[.int .i64 kd, .slice A n c, .slice B m d, .int .u32 (td : Int), .int .i64 ph, .int .i64 pr, .int .i64 hd, .int .u32 (sn : Int)] 30 (0, 0))) := ((bel1 _ _).block _ (by rw [sz1]; omega)).trans (heap_alloc_new _ _)
      have V_rarg_w1 : Hid (((w.alloc (.cells #[.int .i64 kd, .slice A n c, .slice B m d, .int .u32 (td : Int), .int .i64 ph, .int .i64 pr, .int .i64 hd, .int .u32 (sn : Int)] 30)).alloc (.cells #[.int .i64 rk, .slice D o f] 32)).heap[(w.heap.size + 1)]? = some (.cells #[.int .i64 rk, .slice D o f] 32 (0, 0))) := by have h := heap_alloc_new (w.alloc (.cells #[.int .i64 kd, .slice A n c, .slice B m d, .int .u32 (td : Int), .int .i64 ph, .int .i64 pr, .int .i64 hd, .int .u32 (sn : Int)] 30)) (.cells #[.int .i64 rk, .slice D o f] 32); rw [sz1] at h; exact h
      have Bw1 : Hid (Below w.heap.size w ((w.alloc (.cells #[.int .i64 kd, .slice A n c, .slice B m d, .int .u32 (td : Int), .int .i64 ph, .int .i64 pr, .int .i64 hd, .int .u32 (sn : Int)] 30)).alloc (.cells #[.int .i64 rk, .slice D o f] 32))) := bel2 _ _ _
      have zw1 : w.heap.size + 2 ≤ ((w.alloc (.cells #[.int .i64 kd, .slice A n c, .slice B m d, .int .u32 (td : Int), .int .i64 ph, .int .i64 pr, .int .i64 hd, .int .u32 (sn : Int)] 30)).alloc (.cells #[.int .i64 rk, .slice D o f] 32)).heap.size := Nat.le_of_eq (sz2 _ _ _).symm
      have yw1 : ((w.alloc (.cells #[.int .i64 kd, .slice A n c, .slice B m d, .int .u32 (td : Int), .int .i64 ph, .int .i64 pr, .int .i64 hd, .int .u32 (sn : Int)] 30)).alloc (.cells #[.int .i64 rk, .slice D o f] 32)).heap.size ≤ w.heap.size + 2 := Nat.le_of_eq (sz2 _ _ _)
      go_wp2_with fail
      generalize (w.alloc (.cells #[.int .i64 kd, .slice A n c, .slice B m d, .int .u32 (td : Int), .int .i64 ph, .int .i64 pr, .int .i64 hd, .int .u32 (sn : Int)] 30)).alloc (.cells #[.int .i64 rk, .slice D o f] 32) = w1 at *
      refine (HZ.out _).mono ?_
      rintro e w2 ⟨rfl, hb⟩
      have zw2 := hb.size
      have hk : Kp (fun _ => False) w1 w2 := Kp.of_below hb
      have V_arg_w2 : Hid (w2.heap[w.heap.size]? = some (.cells #[.int .i64 kd, .slice A n c, .slice B m d, .int .u32 (td : Int), .int .i64 ph, .int .i64 pr, .int .i64 hd, .int .u32 (sn : Int)] 30 (0, 0))) := (hk.block _ (by omega) (fun h => h)).trans V_arg_w1.out
      have V_rarg_w2 : Hid (w2.heap[(w.heap.size + 1)]? = some (.cells #[.int .i64 rk, .slice D o f] 32 (0, 0))) := (hk.block _ (by omega) (fun h => h)).trans V_rarg_w1.out
      have Bw2 : Hid (Below w.heap.size w w2) := Bw1.out.trans (hb.mono Bw1.out.size)
      clear V_arg_w1 V_rarg_w1 Bw1
      clear hb hk
      have c_arg0 := blkc V_arg_w2.out 0 rfl
      have c_arg1 := blkc V_arg_w2.out 1 rfl
      have c_arg2 := blkc V_arg_w2.out 2 rfl
      have c_arg3 := blkc V_arg_w2.out 3 rfl
      have c_arg4 := blkc V_arg_w2.out 4 rfl
      have c_arg5 := blkc V_arg_w2.out 5 rfl
      have c_arg6 := blkc V_arg_w2.out 6 rfl
      have c_arg7 := blkc V_arg_w2.out 7 rfl
      have c_rarg0 := blkc V_rarg_w2.out 0 rfl
      have c_rarg1 := blkc V_rarg_w2.out 1 rfl
      go_wp2_with fail
      clear c_arg0 c_arg1 c_arg2 c_arg3 c_arg4 c_arg5 c_arg6 c_arg7 c_rarg0 c_rarg1
      refine (HZr.out _).mono ?_
      rintro e w3 ⟨rfl, hb⟩
      have zw3 := hb.size
      have hk : Kp (fun _ => False) w2 w3 := Kp.of_below hb
      have V_arg_w3 : Hid (w3.heap[w.heap.size]? = some (.cells #[.int .i64 kd, .slice A n c, .slice B m d, .int .u32 (td : Int), .int .i64 ph, .int .i64 pr, .int .i64 hd, .int .u32 (sn : Int)] 30 (0, 0))) := (hk.block _ (by omega) (fun h => h)).trans V_arg_w2.out
      have V_rarg_w3 : Hid (w3.heap[(w.heap.size + 1)]? = some (.cells #[.int .i64 rk, .slice D o f] 32 (0, 0))) := (hk.block _ (by omega) (fun h => h)).trans V_rarg_w2.out
      have Bw3 : Hid (Below w.heap.size w w3) := Bw2.out.trans (hb.mono Bw2.out.size)
      clear V_arg_w2 V_rarg_w2 Bw2
      clear hb hk
      clear HZ HZr
      go_wp2_with fail
      have x0r4 : w3.cell? ⟨w.heap.size, 0, none⟩ = some (.int .i64 kd) ∧ w3.cell? ⟨w.heap.size, 1, none⟩ = some (.slice A n c) ∧ w3.cell? ⟨w.heap.size, 2, none⟩ = some (.slice B m d) ∧ w3.cell? ⟨w.heap.size, 3, none⟩ = some (.int .u32 (td : Int)) ∧ w3.cell? ⟨w.heap.size, 4, none⟩ = some (.int .i64 ph) ∧ w3.cell? ⟨w.heap.size, 5, none⟩ = some (.int .i64 pr) ∧ w3.cell? ⟨w.heap.size, 6, none⟩ = some (.int .i64 hd) ∧ w3.cell? ⟨w.heap.size, 7, none⟩ = some (.int .u32 (sn : Int)) ∧ w3.cell? ⟨(w.heap.size + 1), 0, none⟩ = some (.int .i64 rk) ∧ w3.cell? ⟨(w.heap.size + 1), 1, none⟩ = some (.slice D o f) := ⟨blkc V_arg_w3.out 0 rfl, blkc V_arg_w3.out 1 rfl, blkc V_arg_w3.out 2 rfl, blkc V_arg_w3.out 3 rfl, blkc V_arg_w3.out 4 rfl, blkc V_arg_w3.out 5 rfl, blkc V_arg_w3.out 6 rfl, blkc V_arg_w3.out 7 rfl, blkc V_rarg_w3.out 0 rfl, blkc V_rarg_w3.out 1 rfl⟩
      have x0dr4 : w3.drew.cell? ⟨w.heap.size, 0, none⟩ = some (.int .i64 kd) ∧ w3.drew.cell? ⟨w.heap.size, 1, none⟩ = some (.slice A n c) ∧ w3.drew.cell? ⟨w.heap.size, 2, none⟩ = some (.slice B m d) ∧ w3.drew.cell? ⟨w.heap.size, 3, none⟩ = some (.int .u32 (td : Int)) ∧ w3.drew.cell? ⟨w.heap.size, 4, none⟩ = some (.int .i64 ph) ∧ w3.drew.cell? ⟨w.heap.size, 5, none⟩ = some (.int .i64 pr) ∧ w3.drew.cell? ⟨w.heap.size, 6, none⟩ = some (.int .i64 hd) ∧ w3.drew.cell? ⟨w.heap.size, 7, none⟩ = some (.int .u32 (sn : Int)) ∧ w3.drew.cell? ⟨(w.heap.size + 1), 0, none⟩ = some (.int .i64 rk) ∧ w3.drew.cell? ⟨(w.heap.size + 1), 1, none⟩ = some (.slice D o f) := x0r4
      have D0r4 : Hid (Below w3.heap.size w3 w3.drew) := (Below.refl _ _).drew
      have xSr4 : Hid (∀ w', Below w3.heap.size w3 w' → w'.cell? ⟨w.heap.size, 0, none⟩ = some (.int .i64 kd) ∧ w'.cell? ⟨w.heap.size, 1, none⟩ = some (.slice A n c) ∧ w'.cell? ⟨w.heap.size, 2, none⟩ = some (.slice B m d) ∧ w'.cell? ⟨w.heap.size, 3, none⟩ = some (.int .u32 (td : Int)) ∧ w'.cell? ⟨w.heap.size, 4, none⟩ = some (.int .i64 ph) ∧ w'.cell? ⟨w.heap.size, 5, none⟩ = some (.int .i64 pr) ∧ w'.cell? ⟨w.heap.size, 6, none⟩ = some (.int .i64 hd) ∧ w'.cell? ⟨w.heap.size, 7, none⟩ = some (.int .u32 (sn : Int)) ∧ w'.cell? ⟨(w.heap.size + 1), 0, none⟩ = some (.int .i64 rk) ∧ w'.cell? ⟨(w.heap.size + 1), 1, none⟩ = some (.slice D o f)) := fun w' hb => ⟨later_at0 hb x0r4.1, later_at0 hb x0r4.2.1, later_at0 hb x0r4.2.2.1, later_at0 hb x0r4.2.2.2.1, later_at0 hb x0r4.2.2.2.2.1, later_at0 hb x0r4.2.2.2.2.2.1, later_at0 hb x0r4.2.2.2.2.2.2.1, later_at0 hb x0r4.2.2.2.2.2.2.2.1, later_at0 hb x0r4.2.2.2.2.2.2.2.2.1, later_at0 hb x0r4.2.2.2.2.2.2.2.2.2⟩
      go_cut [6, 7] (fun s0 s1 wx => ∃ (bb : Nat) (Aa : Option Addr) (ca : Nat) (Ba : Option Addr) (da : Nat), s0 = .pointer (some ⟨bb, 0, none⟩) ∧ s1 = .bool r ∧ Hid (wx.heap[bb]? = some (.cells #[.int .i64 K, .slice Aa N ca, .slice Ba N da, .int .u32 (T : Int), .int .i64 0, .int .i64 0, .int .i64 0, .int .u32 0] 35 (0, 0))) ∧ w3.heap.size ≤ bb ∧ bb < wx.heap.size ∧ Hid (OwnK 3 .i64 wx w3.heap.size Aa N ca V) ∧ Hid (OwnK 3 .i64 wx w3.heap.size Ba N da G) ∧ Hid (∀ g, (Value.slice Aa N ca).ownBlock = some g → (Value.slice Ba N da).ownBlock ≠ some g) ∧ Hid (Below w3.heap.size w3 wx))
      case first =>
        have D1r4 : Hid (Below w3.heap.size w3 (w3.alloc (.cells #[.int .i64 0, .slice none 0 0, .slice none 0 0, .int .u32 0, .int .i64 0, .int .i64 0, .int .i64 0, .int .u32 0] 35)).drew) := (bel1 _ _).drew
        have CT : Hid (∀ W', Below w3.heap.size w3 W' → Calls Try.prog 16 #[.agg #[.int .i64 kd, .slice A n c, .slice B m d, .int .u32 (td : Int), .int .i64 ph, .int .i64 pr, .int .i64 hd, .int .u32 (sn : Int)]] W' fun e w' => ∃ g k, e = .returned (.agg #[.int .i64 kd, .slice (some ⟨g, 0, none⟩) n n, .slice (some ⟨k, 0, none⟩) m m, .int .u32 (td : Int), .int .i64 ph, .int .i64 pr, .int .i64 hd, .int .u32 (sn : Int)]) ∧ Hid (RdK .i64 w' w'.heap.size (some ⟨g, 0, none⟩) n vs) ∧ Hid (RdK .i64 w' w'.heap.size (some ⟨k, 0, none⟩) m gs) ∧ Hid (Below W'.heap.size W' w') ∧ Hid (Below w3.heap.size w3 w')) := fun W' hb => (HT.out W' (Bw3.out.trans (hb.mono Bw3.out.size))).mono fun e w' ⟨g, k, he, ho, ho2, hb2⟩ => ⟨g, k, he, ho.rd, ho2.rd, hb2, hb.trans (hb2.mono hb.size)⟩
        have CR : Hid (∀ W', Below w3.heap.size w3 W' → Calls Try.prog 17 #[.agg #[.int .i64 rk, .slice D o f]] W' fun e w' => ∃ g, e = .returned (.agg #[.int .i64 rk, .slice (some ⟨g, 0, none⟩) o o]) ∧ Hid (RdK .i64 w' w'.heap.size (some ⟨g, 0, none⟩) o us) ∧ Hid (Below W'.heap.size W' w') ∧ Hid (Below w3.heap.size w3 w')) := fun W' hb => (HTr.out W' (Bw3.out.trans (hb.mono Bw3.out.size))).mono fun e w' ⟨g, he, ho, hb2⟩ => ⟨g, he, ho.rd, hb2, hb.trans (hb2.mono hb.size)⟩
        have CS : Hid (∀ W' g k q, Below w3.heap.size w3 W' → RdK .i64 W' W'.heap.size (some ⟨g, 0, none⟩) n vs → RdK .i64 W' W'.heap.size (some ⟨k, 0, none⟩) m gs → RdK .i64 W' W'.heap.size (some ⟨q, 0, none⟩) o us → Calls Try.prog 15 #[.agg #[.int .i64 kd, .slice (some ⟨g, 0, none⟩) n n, .slice (some ⟨k, 0, none⟩) m m, .int .u32 (td : Int), .int .i64 ph, .int .i64 pr, .int .i64 hd, .int .u32 (sn : Int)], .agg #[.int .i64 rk, .slice (some ⟨q, 0, none⟩) o o]] W' fun e w' => ∃ A' c' B' d', e = .returned (.tuple #[.agg #[.int .i64 K, .slice A' N c', .slice B' N d', .int .u32 (T : Int), .int .i64 0, .int .i64 0, .int .i64 0, .int .u32 0], .bool r]) ∧ Hid (OwnK 3 .i64 w' W'.heap.size A' N c' V) ∧ Hid (OwnK 3 .i64 w' W'.heap.size B' N d' G) ∧ Hid (∀ g, (Value.slice A' N c').ownBlock = some g → (Value.slice B' N d').ownBlock ≠ some g) ∧ Hid (Below W'.heap.size W' w') ∧ Hid (Below w3.heap.size w3 w')) := fun W' g k q hb h1 h2 h3 => (HS.out W' g k q h1 h2 h3).mono fun e w' ⟨A', c', B', d', he, ho, ho2, hd, hb2⟩ => ⟨A', c', B', d', he, ho, ho2, hd, hb2, hb.trans (hb2.mono hb.size)⟩
        go_region_held3 (fun w' => w'.cell? ⟨w.heap.size, 0, none⟩ = some (.int .i64 kd) ∧ w'.cell? ⟨w.heap.size, 1, none⟩ = some (.slice A n c) ∧ w'.cell? ⟨w.heap.size, 2, none⟩ = some (.slice B m d) ∧ w'.cell? ⟨w.heap.size, 3, none⟩ = some (.int .u32 (td : Int)) ∧ w'.cell? ⟨w.heap.size, 4, none⟩ = some (.int .i64 ph) ∧ w'.cell? ⟨w.heap.size, 5, none⟩ = some (.int .i64 pr) ∧ w'.cell? ⟨w.heap.size, 6, none⟩ = some (.int .i64 hd) ∧ w'.cell? ⟨w.heap.size, 7, none⟩ = some (.int .u32 (sn : Int)) ∧ w'.cell? ⟨(w.heap.size + 1), 0, none⟩ = some (.int .i64 rk) ∧ w'.cell? ⟨(w.heap.size + 1), 1, none⟩ = some (.slice D o f))
          (first | (with_reducible exact x0r4) | (with_reducible exact x0dr4) | (with_reducible refine xSr4.out _ ?_; exact (by repeat' (first | (with_reducible exact D0r4.out) | (with_reducible exact D1r4.out) | (with_reducible exact b1.out) | (with_reducible exact b2.out) | (with_reducible exact b3.out) | (with_reducible exact b1.out.size) | (with_reducible exact b2.out.size) | (with_reducible exact b3.out.size) | (with_reducible refine Below.drew ?_) | (with_reducible refine Below.setCell ?_ ?_ _) | (with_reducible refine Below.alloc ?_ ?_ _) | omega | (simp; done) | (simp; omega)))))
          (first | (go_at_call 16; (with_reducible refine (CT.out _ D0r4.out).mono ?_); rintro e u1 ⟨g1, k1, rfl, o1, o2, hb, b1⟩; have zu1 := hb.out.size; (try (have Nn := Lib.hid ((hb.out.block _ (by omega)).trans NN.out); clear NN; have NN := Nn; clear Nn)))
                 | (go_at_call 16; (with_reducible refine (CT.out _ D1r4.out).mono ?_); rintro e u1 ⟨g1, k1, rfl, o1, o2, hb, b1⟩; have zu1 := hb.out.size; (first | have nz := nw1 hb.out | have nz := nw1d hb.out); (have NN := Lib.hid nz.1; have zN := nz.2.2; clear nz))
                 | (go_at_call 17; (with_reducible refine (CR.out _ b1.out).mono ?_); rintro e u2 ⟨q2, rfl, o5, hb, b2⟩; have zu2 := hb.out.size; (try (have Nn := Lib.hid ((hb.out.block _ (by omega)).trans NN.out); clear NN; have NN := Nn; clear Nn)); have o3 := Lib.hid (rdk_next o1.out hb.out); have o4 := Lib.hid (rdk_next o2.out hb.out))
                 | (go_at_call 17; (with_reducible refine (CR.out _ (b1.out.alloc b1.out.size _)).mono ?_); rintro e u2 ⟨q2, rfl, o5, hb, b2⟩; have zu2 := hb.out.size; (first | have nz := nw1 hb.out | have nz := nw1d hb.out); (have NN := Lib.hid nz.1; have zN := nz.2.2; clear nz); have o3 := Lib.hid (rdk_next (rdk_alloc o1.out _) hb.out); have o4 := Lib.hid (rdk_next (rdk_alloc o2.out _) hb.out))
                 | (go_at_call 15; (with_reducible refine (CS.out _ g1 k1 q2 b2.out o3.out o4.out o5.out).mono ?_); rintro e u3 ⟨Aa, ca, Ba, da, rfl, oA, oB, oD, hb, b3⟩; have zu3 := hb.out.size; (try (have Nn := Lib.hid ((hb.out.block _ (by omega)).trans NN.out); clear NN; have NN := Nn; clear Nn)); (try (have r0 := blkc NN.out 0 rfl; have r1 := blkc NN.out 1 rfl; have r2 := blkc NN.out 2 rfl; have r3 := blkc NN.out 3 rfl; have r4 := blkc NN.out 4 rfl; have r5 := blkc NN.out 5 rfl; have r6 := blkc NN.out 6 rfl; have r7 := blkc NN.out 7 rfl; have rf := blkf NN.out)))
                 | (go_at_call 15; (with_reducible refine (CS.out _ g1 k1 q2 (b2.out.alloc b2.out.size _) (rdk_alloc o3.out _) (rdk_alloc o4.out _) (rdk_alloc o5.out _)).mono ?_); rintro e u3 ⟨Aa, ca, Ba, da, rfl, oA, oB, oD, hb, b3⟩; have zu3 := hb.out.size; (first | have nz := nw1 hb.out | have nz := nw1d hb.out); (have NN := Lib.hid nz.1; have zN := nz.2.2; clear nz); (try (have r0 := blkc NN.out 0 rfl; have r1 := blkc NN.out 1 rfl; have r2 := blkc NN.out 2 rfl; have r3 := blkc NN.out 3 rfl; have r4 := blkc NN.out 4 rfl; have r5 := blkc NN.out 5 rfl; have r6 := blkc NN.out 6 rfl; have r7 := blkc NN.out 7 rfl; have rf := blkf NN.out))))
        all_goals (go_wp2_with fail)
        all_goals (try go_meet)
        all_goals (have h1 := b1.out.size; have h2 := b2.out.size; have h3 := b3.out.size)
        all_goals (first | (with_reducible refine sub_new ?_ oA.out oB.out oD.out b3.out) | (with_reducible refine sub_set NN.out ?_ ?_ oA.out oB.out oD.out b3.out))
        all_goals ((try simp only [sz1]); omega)
        all_goals (go_wp2_with fail; go_meet; skip)
      case rest =>
        obtain ⟨bS, AS, cS, BS, dS, rfl, rfl, hV, hb1, hb2, hv, hg, hdis, hb0⟩ := hcut
        generalize wc = w5 at *
        have hb := hb0.out
        clear hb0 x0r4 x0dr4 D0r4 xSr4
        have zw5 := hb.size
        have hk : Kp (fun _ => False) w3 w5 := Kp.of_below hb
        have V_arg_w5 : Hid (w5.heap[w.heap.size]? = some (.cells #[.int .i64 kd, .slice A n c, .slice B m d, .int .u32 (td : Int), .int .i64 ph, .int .i64 pr, .int .i64 hd, .int .u32 (sn : Int)] 30 (0, 0))) := (hk.block _ (by omega) (fun h => h)).trans V_arg_w3.out
        have V_rarg_w5 : Hid (w5.heap[(w.heap.size + 1)]? = some (.cells #[.int .i64 rk, .slice D o f] 32 (0, 0))) := (hk.block _ (by omega) (fun h => h)).trans V_rarg_w3.out
        have Bw5 : Hid (Below w.heap.size w w5) := Bw3.out.trans (hb.mono Bw3.out.size)
        clear V_arg_w3 V_rarg_w3 Bw3
        have O_VS_w5 : Hid (OwnK 3 .i64 w5 w3.heap.size AS N cS V) := hv
        have R_VS : Hid (∀ g, (Value.slice AS N cS).ownBlock = some g → w3.heap.size ≤ g ∧ g < w5.heap.size) := World.ownsRow.lt hv.out
        have O_GS_w5 : Hid (OwnK 3 .i64 w5 w3.heap.size BS N dS G) := hg
        have R_GS : Hid (∀ g, (Value.slice BS N dS).ownBlock = some g → w3.heap.size ≤ g ∧ g < w5.heap.size) := World.ownsRow.lt hg.out
        clear hb hk hv hg
        have V_vS_w5 : Hid (w5.heap[bS]? = some (.cells #[.int .i64 K, .slice AS N cS, .slice BS N dS, .int .u32 (T : Int), .int .i64 0, .int .i64 0, .int .i64 0, .int .u32 0] 35 (0, 0))) := hV
        clear hV hdis
        have c_arg0 := blkc V_arg_w5.out 0 rfl
        have c_arg1 := blkc V_arg_w5.out 1 rfl
        have c_arg2 := blkc V_arg_w5.out 2 rfl
        have c_arg3 := blkc V_arg_w5.out 3 rfl
        have c_arg4 := blkc V_arg_w5.out 4 rfl
        have c_arg5 := blkc V_arg_w5.out 5 rfl
        have c_arg6 := blkc V_arg_w5.out 6 rfl
        have c_arg7 := blkc V_arg_w5.out 7 rfl
        go_wp2_with fail
        clear c_arg0 c_arg1 c_arg2 c_arg3 c_arg4 c_arg5 c_arg6 c_arg7
        refine (HT.out _ Bw5.out).mono ?_
        rintro e w6 ⟨gX, kX, rfl, hv, hg, hb⟩
        have zw6 := hb.size
        have hk : Kp (fun _ => False) w5 w6 := Kp.of_below hb
        have V_arg_w6 : Hid (w6.heap[w.heap.size]? = some (.cells #[.int .i64 kd, .slice A n c, .slice B m d, .int .u32 (td : Int), .int .i64 ph, .int .i64 pr, .int .i64 hd, .int .u32 (sn : Int)] 30 (0, 0))) := (hk.block _ (by omega) (fun h => h)).trans V_arg_w5.out
        have V_rarg_w6 : Hid (w6.heap[(w.heap.size + 1)]? = some (.cells #[.int .i64 rk, .slice D o f] 32 (0, 0))) := (hk.block _ (by omega) (fun h => h)).trans V_rarg_w5.out
        have V_vS_w6 : Hid (w6.heap[bS]? = some (.cells #[.int .i64 K, .slice AS N cS, .slice BS N dS, .int .u32 (T : Int), .int .i64 0, .int .i64 0, .int .i64 0, .int .u32 0] 35 (0, 0))) := (hk.block _ (by omega) (fun h => h)).trans V_vS_w5.out
        have O_VS_w6 : Hid (OwnK 3 .i64 w6 w3.heap.size AS N cS V) := O_VS_w5.out.kp hk (fun g hg h => h)
        have O_GS_w6 : Hid (OwnK 3 .i64 w6 w3.heap.size BS N dS G) := O_GS_w5.out.kp hk (fun g hg h => h)
        have Bw6 : Hid (Below w.heap.size w w6) := Bw5.out.trans (hb.mono Bw5.out.size)
        clear V_arg_w5 V_rarg_w5 V_vS_w5 O_VS_w5 O_GS_w5 Bw5
        have O_VX_w6 : Hid (OwnK 3 .i64 w6 w5.heap.size (some ⟨gX, 0, none⟩) n n vs) := hv
        have R_VX : Hid (∀ g, (Value.slice (some ⟨gX, 0, none⟩) n n).ownBlock = some g → w5.heap.size ≤ g ∧ g < w6.heap.size) := World.ownsRow.lt hv
        have O_GX_w6 : Hid (OwnK 3 .i64 w6 (gX + 1) (some ⟨kX, 0, none⟩) m m gs) := hg
        have R_GX : Hid (∀ g, (Value.slice (some ⟨kX, 0, none⟩) m m).ownBlock = some g → (gX + 1) ≤ g ∧ g < w6.heap.size) := World.ownsRow.lt hg
        clear hb hk hv hg
        have eX := R_VX.out gX rfl
        have fX := R_GX.out kX rfl
        have hk := bel1 w6 (.cells #[.int .i64 kd, .slice (some ⟨gX, 0, none⟩) n n, .slice (some ⟨kX, 0, none⟩) m m, .int .u32 (td : Int), .int .i64 ph, .int .i64 pr, .int .i64 hd, .int .u32 (sn : Int)] 35)
        have V_arg_w7 : Hid ((w6.alloc (.cells #[.int .i64 kd, .slice (some ⟨gX, 0, none⟩) n n, .slice (some ⟨kX, 0, none⟩) m m, .int .u32 (td : Int), .int .i64 ph, .int .i64 pr, .int .i64 hd, .int .u32 (sn : Int)] 35)).heap[w.heap.size]? = some (.cells #[.int .i64 kd, .slice A n c, .slice B m d, .int .u32 (td : Int), .int .i64 ph, .int .i64 pr, .int .i64 hd, .int .u32 (sn : Int)] 30 (0, 0))) := (hk.block _ (by omega)).trans V_arg_w6.out
        have V_rarg_w7 : Hid ((w6.alloc (.cells #[.int .i64 kd, .slice (some ⟨gX, 0, none⟩) n n, .slice (some ⟨kX, 0, none⟩) m m, .int .u32 (td : Int), .int .i64 ph, .int .i64 pr, .int .i64 hd, .int .u32 (sn : Int)] 35)).heap[(w.heap.size + 1)]? = some (.cells #[.int .i64 rk, .slice D o f] 32 (0, 0))) := (hk.block _ (by omega)).trans V_rarg_w6.out
        have V_vS_w7 : Hid ((w6.alloc (.cells #[.int .i64 kd, .slice (some ⟨gX, 0, none⟩) n n, .slice (some ⟨kX, 0, none⟩) m m, .int .u32 (td : Int), .int .i64 ph, .int .i64 pr, .int .i64 hd, .int .u32 (sn : Int)] 35)).heap[bS]? = some (.cells #[.int .i64 K, .slice AS N cS, .slice BS N dS, .int .u32 (T : Int), .int .i64 0, .int .i64 0, .int .i64 0, .int .u32 0] 35 (0, 0))) := (hk.block _ (by omega)).trans V_vS_w6.out
        have O_VS_w7 : Hid (OwnK 3 .i64 (w6.alloc (.cells #[.int .i64 kd, .slice (some ⟨gX, 0, none⟩) n n, .slice (some ⟨kX, 0, none⟩) m m, .int .u32 (td : Int), .int .i64 ph, .int .i64 pr, .int .i64 hd, .int .u32 (sn : Int)] 35)) w3.heap.size AS N cS V) := O_VS_w6.out.below hk
        have O_GS_w7 : Hid (OwnK 3 .i64 (w6.alloc (.cells #[.int .i64 kd, .slice (some ⟨gX, 0, none⟩) n n, .slice (some ⟨kX, 0, none⟩) m m, .int .u32 (td : Int), .int .i64 ph, .int .i64 pr, .int .i64 hd, .int .u32 (sn : Int)] 35)) w3.heap.size BS N dS G) := O_GS_w6.out.below hk
        have O_VX_w7 : Hid (OwnK 3 .i64 (w6.alloc (.cells #[.int .i64 kd, .slice (some ⟨gX, 0, none⟩) n n, .slice (some ⟨kX, 0, none⟩) m m, .int .u32 (td : Int), .int .i64 ph, .int .i64 pr, .int .i64 hd, .int .u32 (sn : Int)] 35)) w5.heap.size (some ⟨gX, 0, none⟩) n n vs) := O_VX_w6.out.below hk
        have O_GX_w7 : Hid (OwnK 3 .i64 (w6.alloc (.cells #[.int .i64 kd, .slice (some ⟨gX, 0, none⟩) n n, .slice (some ⟨kX, 0, none⟩) m m, .int .u32 (td : Int), .int .i64 ph, .int .i64 pr, .int .i64 hd, .int .u32 (sn : Int)] 35)) (gX + 1) (some ⟨kX, 0, none⟩) m m gs) := O_GX_w6.out.below hk
        have V_vX_w7 : Hid ((w6.alloc (.cells #[.int .i64 kd, .slice (some ⟨gX, 0, none⟩) n n, .slice (some ⟨kX, 0, none⟩) m m, .int .u32 (td : Int), .int .i64 ph, .int .i64 pr, .int .i64 hd, .int .u32 (sn : Int)] 35)).heap[w6.heap.size]? = some (.cells #[.int .i64 kd, .slice (some ⟨gX, 0, none⟩) n n, .slice (some ⟨kX, 0, none⟩) m m, .int .u32 (td : Int), .int .i64 ph, .int .i64 pr, .int .i64 hd, .int .u32 (sn : Int)] 35 (0, 0))) := heap_alloc_new _ _
        have Bw7 : Hid (Below w.heap.size w (w6.alloc (.cells #[.int .i64 kd, .slice (some ⟨gX, 0, none⟩) n n, .slice (some ⟨kX, 0, none⟩) m m, .int .u32 (td : Int), .int .i64 ph, .int .i64 pr, .int .i64 hd, .int .u32 (sn : Int)] 35))) := Bw6.out.alloc Bw6.out.size _
        have zw7 : w6.heap.size + 1 ≤ (w6.alloc (.cells #[.int .i64 kd, .slice (some ⟨gX, 0, none⟩) n n, .slice (some ⟨kX, 0, none⟩) m m, .int .u32 (td : Int), .int .i64 ph, .int .i64 pr, .int .i64 hd, .int .u32 (sn : Int)] 35)).heap.size := Nat.le_of_eq (sz1 _ _).symm
        have yw7 : (w6.alloc (.cells #[.int .i64 kd, .slice (some ⟨gX, 0, none⟩) n n, .slice (some ⟨kX, 0, none⟩) m m, .int .u32 (td : Int), .int .i64 ph, .int .i64 pr, .int .i64 hd, .int .u32 (sn : Int)] 35)).heap.size ≤ w6.heap.size + 1 := Nat.le_of_eq (sz1 _ _)
        clear V_arg_w6 V_rarg_w6 V_vS_w6 O_VS_w6 O_GS_w6 O_VX_w6 O_GX_w6 Bw6 hk
        have c_arg0 := blkc V_arg_w7.out 0 rfl
        have c_arg1 := blkc V_arg_w7.out 1 rfl
        have c_arg2 := blkc V_arg_w7.out 2 rfl
        have c_arg3 := blkc V_arg_w7.out 3 rfl
        have c_arg4 := blkc V_arg_w7.out 4 rfl
        have c_arg5 := blkc V_arg_w7.out 5 rfl
        have c_arg6 := blkc V_arg_w7.out 6 rfl
        have c_arg7 := blkc V_arg_w7.out 7 rfl
        have c_rarg0 := blkc V_rarg_w7.out 0 rfl
        have c_rarg1 := blkc V_rarg_w7.out 1 rfl
        go_wp2_with fail
        clear c_arg0 c_arg1 c_arg2 c_arg3 c_arg4 c_arg5 c_arg6 c_arg7 c_rarg0 c_rarg1
        generalize w6.alloc (.cells #[.int .i64 kd, .slice (some ⟨gX, 0, none⟩) n n, .slice (some ⟨kX, 0, none⟩) m m, .int .u32 (td : Int), .int .i64 ph, .int .i64 pr, .int .i64 hd, .int .u32 (sn : Int)] 35) = w7 at *
        refine (HTr.out _ Bw7.out).mono ?_
        rintro e w8 ⟨qX, rfl, hv, hb⟩
        have zw8 := hb.size
        have hk : Kp (fun _ => False) w7 w8 := Kp.of_below hb
        have V_arg_w8 : Hid (w8.heap[w.heap.size]? = some (.cells #[.int .i64 kd, .slice A n c, .slice B m d, .int .u32 (td : Int), .int .i64 ph, .int .i64 pr, .int .i64 hd, .int .u32 (sn : Int)] 30 (0, 0))) := (hk.block _ (by omega) (fun h => h)).trans V_arg_w7.out
        have V_rarg_w8 : Hid (w8.heap[(w.heap.size + 1)]? = some (.cells #[.int .i64 rk, .slice D o f] 32 (0, 0))) := (hk.block _ (by omega) (fun h => h)).trans V_rarg_w7.out
        have V_vS_w8 : Hid (w8.heap[bS]? = some (.cells #[.int .i64 K, .slice AS N cS, .slice BS N dS, .int .u32 (T : Int), .int .i64 0, .int .i64 0, .int .i64 0, .int .u32 0] 35 (0, 0))) := (hk.block _ (by omega) (fun h => h)).trans V_vS_w7.out
        have V_vX_w8 : Hid (w8.heap[w6.heap.size]? = some (.cells #[.int .i64 kd, .slice (some ⟨gX, 0, none⟩) n n, .slice (some ⟨kX, 0, none⟩) m m, .int .u32 (td : Int), .int .i64 ph, .int .i64 pr, .int .i64 hd, .int .u32 (sn : Int)] 35 (0, 0))) := (hk.block _ (by omega) (fun h => h)).trans V_vX_w7.out
        have O_VS_w8 : Hid (OwnK 3 .i64 w8 w3.heap.size AS N cS V) := O_VS_w7.out.kp hk (fun g hg h => h)
        have O_GS_w8 : Hid (OwnK 3 .i64 w8 w3.heap.size BS N dS G) := O_GS_w7.out.kp hk (fun g hg h => h)
        have O_VX_w8 : Hid (OwnK 3 .i64 w8 w5.heap.size (some ⟨gX, 0, none⟩) n n vs) := O_VX_w7.out.kp hk (fun g hg h => h)
        have O_GX_w8 : Hid (OwnK 3 .i64 w8 (gX + 1) (some ⟨kX, 0, none⟩) m m gs) := O_GX_w7.out.kp hk (fun g hg h => h)
        have Bw8 : Hid (Below w.heap.size w w8) := Bw7.out.trans (hb.mono Bw7.out.size)
        clear V_arg_w7 V_rarg_w7 V_vS_w7 V_vX_w7 O_VS_w7 O_GS_w7 O_VX_w7 O_GX_w7 Bw7
        have O_QX_w8 : Hid (OwnK 3 .i64 w8 w7.heap.size (some ⟨qX, 0, none⟩) o o us) := hv
        have R_QX : Hid (∀ g, (Value.slice (some ⟨qX, 0, none⟩) o o).ownBlock = some g → w7.heap.size ≤ g ∧ g < w8.heap.size) := World.ownsRow.lt hv
        clear hb hk hv
        have eX := R_QX.out qX rfl
        have hk := bel1 w8 (.cells #[.int .i64 rk, .slice (some ⟨qX, 0, none⟩) o o] 39)
        have V_arg_w9 : Hid ((w8.alloc (.cells #[.int .i64 rk, .slice (some ⟨qX, 0, none⟩) o o] 39)).heap[w.heap.size]? = some (.cells #[.int .i64 kd, .slice A n c, .slice B m d, .int .u32 (td : Int), .int .i64 ph, .int .i64 pr, .int .i64 hd, .int .u32 (sn : Int)] 30 (0, 0))) := (hk.block _ (by omega)).trans V_arg_w8.out
        have V_rarg_w9 : Hid ((w8.alloc (.cells #[.int .i64 rk, .slice (some ⟨qX, 0, none⟩) o o] 39)).heap[(w.heap.size + 1)]? = some (.cells #[.int .i64 rk, .slice D o f] 32 (0, 0))) := (hk.block _ (by omega)).trans V_rarg_w8.out
        have V_vS_w9 : Hid ((w8.alloc (.cells #[.int .i64 rk, .slice (some ⟨qX, 0, none⟩) o o] 39)).heap[bS]? = some (.cells #[.int .i64 K, .slice AS N cS, .slice BS N dS, .int .u32 (T : Int), .int .i64 0, .int .i64 0, .int .i64 0, .int .u32 0] 35 (0, 0))) := (hk.block _ (by omega)).trans V_vS_w8.out
        have V_vX_w9 : Hid ((w8.alloc (.cells #[.int .i64 rk, .slice (some ⟨qX, 0, none⟩) o o] 39)).heap[w6.heap.size]? = some (.cells #[.int .i64 kd, .slice (some ⟨gX, 0, none⟩) n n, .slice (some ⟨kX, 0, none⟩) m m, .int .u32 (td : Int), .int .i64 ph, .int .i64 pr, .int .i64 hd, .int .u32 (sn : Int)] 35 (0, 0))) := (hk.block _ (by omega)).trans V_vX_w8.out
        have O_VS_w9 : Hid (OwnK 3 .i64 (w8.alloc (.cells #[.int .i64 rk, .slice (some ⟨qX, 0, none⟩) o o] 39)) w3.heap.size AS N cS V) := O_VS_w8.out.below hk
        have O_GS_w9 : Hid (OwnK 3 .i64 (w8.alloc (.cells #[.int .i64 rk, .slice (some ⟨qX, 0, none⟩) o o] 39)) w3.heap.size BS N dS G) := O_GS_w8.out.below hk
        have O_VX_w9 : Hid (OwnK 3 .i64 (w8.alloc (.cells #[.int .i64 rk, .slice (some ⟨qX, 0, none⟩) o o] 39)) w5.heap.size (some ⟨gX, 0, none⟩) n n vs) := O_VX_w8.out.below hk
        have O_GX_w9 : Hid (OwnK 3 .i64 (w8.alloc (.cells #[.int .i64 rk, .slice (some ⟨qX, 0, none⟩) o o] 39)) (gX + 1) (some ⟨kX, 0, none⟩) m m gs) := O_GX_w8.out.below hk
        have O_QX_w9 : Hid (OwnK 3 .i64 (w8.alloc (.cells #[.int .i64 rk, .slice (some ⟨qX, 0, none⟩) o o] 39)) w7.heap.size (some ⟨qX, 0, none⟩) o o us) := O_QX_w8.out.below hk
        have V_uX_w9 : Hid ((w8.alloc (.cells #[.int .i64 rk, .slice (some ⟨qX, 0, none⟩) o o] 39)).heap[w8.heap.size]? = some (.cells #[.int .i64 rk, .slice (some ⟨qX, 0, none⟩) o o] 39 (0, 0))) := heap_alloc_new _ _
        have Bw9 : Hid (Below w.heap.size w (w8.alloc (.cells #[.int .i64 rk, .slice (some ⟨qX, 0, none⟩) o o] 39))) := Bw8.out.alloc Bw8.out.size _
        have zw9 : w8.heap.size + 1 ≤ (w8.alloc (.cells #[.int .i64 rk, .slice (some ⟨qX, 0, none⟩) o o] 39)).heap.size := Nat.le_of_eq (sz1 _ _).symm
        have yw9 : (w8.alloc (.cells #[.int .i64 rk, .slice (some ⟨qX, 0, none⟩) o o] 39)).heap.size ≤ w8.heap.size + 1 := Nat.le_of_eq (sz1 _ _)
        clear V_arg_w8 V_rarg_w8 V_vS_w8 V_vX_w8 O_VS_w8 O_GS_w8 O_VX_w8 O_GX_w8 O_QX_w8 Bw8 hk
        have c_arg0 := blkc V_arg_w9.out 0 rfl
        have c_arg1 := blkc V_arg_w9.out 1 rfl
        have c_arg2 := blkc V_arg_w9.out 2 rfl
        have c_arg3 := blkc V_arg_w9.out 3 rfl
        have c_arg4 := blkc V_arg_w9.out 4 rfl
        have c_arg5 := blkc V_arg_w9.out 5 rfl
        have c_arg6 := blkc V_arg_w9.out 6 rfl
        have c_arg7 := blkc V_arg_w9.out 7 rfl
        have c_rarg0 := blkc V_rarg_w9.out 0 rfl
        have c_rarg1 := blkc V_rarg_w9.out 1 rfl
        have c_vX0 := blkc V_vX_w9.out 0 rfl
        have c_vX1 := blkc V_vX_w9.out 1 rfl
        have c_vX2 := blkc V_vX_w9.out 2 rfl
        have c_vX3 := blkc V_vX_w9.out 3 rfl
        have c_vX4 := blkc V_vX_w9.out 4 rfl
        have c_vX5 := blkc V_vX_w9.out 5 rfl
        have c_vX6 := blkc V_vX_w9.out 6 rfl
        have c_vX7 := blkc V_vX_w9.out 7 rfl
        go_wp2_with fail
        clear c_arg0 c_arg1 c_arg2 c_arg3 c_arg4 c_arg5 c_arg6 c_arg7 c_rarg0 c_rarg1 c_vX0 c_vX1 c_vX2 c_vX3 c_vX4 c_vX5 c_vX6 c_vX7
        generalize w8.alloc (.cells #[.int .i64 rk, .slice (some ⟨qX, 0, none⟩) o o] 39) = w9 at *
        refine (HI.out _ gX kX qX O_VX_w9.out.rd O_GX_w9.out.rd O_QX_w9.out.rd).mono ?_
        rintro e w10 ⟨AI, cI, BI, dI, rfl, hv, hg, hdis, hb⟩
        have zw10 := hb.size
        have hk : Kp (fun _ => False) w9 w10 := Kp.of_below hb
        have V_arg_w10 : Hid (w10.heap[w.heap.size]? = some (.cells #[.int .i64 kd, .slice A n c, .slice B m d, .int .u32 (td : Int), .int .i64 ph, .int .i64 pr, .int .i64 hd, .int .u32 (sn : Int)] 30 (0, 0))) := (hk.block _ (by omega) (fun h => h)).trans V_arg_w9.out
        have V_rarg_w10 : Hid (w10.heap[(w.heap.size + 1)]? = some (.cells #[.int .i64 rk, .slice D o f] 32 (0, 0))) := (hk.block _ (by omega) (fun h => h)).trans V_rarg_w9.out
        have V_vS_w10 : Hid (w10.heap[bS]? = some (.cells #[.int .i64 K, .slice AS N cS, .slice BS N dS, .int .u32 (T : Int), .int .i64 0, .int .i64 0, .int .i64 0, .int .u32 0] 35 (0, 0))) := (hk.block _ (by omega) (fun h => h)).trans V_vS_w9.out
        have V_vX_w10 : Hid (w10.heap[w6.heap.size]? = some (.cells #[.int .i64 kd, .slice (some ⟨gX, 0, none⟩) n n, .slice (some ⟨kX, 0, none⟩) m m, .int .u32 (td : Int), .int .i64 ph, .int .i64 pr, .int .i64 hd, .int .u32 (sn : Int)] 35 (0, 0))) := (hk.block _ (by omega) (fun h => h)).trans V_vX_w9.out
        have V_uX_w10 : Hid (w10.heap[w8.heap.size]? = some (.cells #[.int .i64 rk, .slice (some ⟨qX, 0, none⟩) o o] 39 (0, 0))) := (hk.block _ (by omega) (fun h => h)).trans V_uX_w9.out
        have O_VS_w10 : Hid (OwnK 3 .i64 w10 w3.heap.size AS N cS V) := O_VS_w9.out.kp hk (fun g hg h => h)
        have O_GS_w10 : Hid (OwnK 3 .i64 w10 w3.heap.size BS N dS G) := O_GS_w9.out.kp hk (fun g hg h => h)
        have O_VX_w10 : Hid (OwnK 3 .i64 w10 w5.heap.size (some ⟨gX, 0, none⟩) n n vs) := O_VX_w9.out.kp hk (fun g hg h => h)
        have O_GX_w10 : Hid (OwnK 3 .i64 w10 (gX + 1) (some ⟨kX, 0, none⟩) m m gs) := O_GX_w9.out.kp hk (fun g hg h => h)
        have O_QX_w10 : Hid (OwnK 3 .i64 w10 w7.heap.size (some ⟨qX, 0, none⟩) o o us) := O_QX_w9.out.kp hk (fun g hg h => h)
        have Bw10 : Hid (Below w.heap.size w w10) := Bw9.out.trans (hb.mono Bw9.out.size)
        clear V_arg_w9 V_rarg_w9 V_vS_w9 V_vX_w9 V_uX_w9 O_VS_w9 O_GS_w9 O_VX_w9 O_GX_w9 O_QX_w9 Bw9
        have O_VI_w10 : Hid (OwnK 3 .i64 w10 w9.heap.size AI N cI V) := hv
        have R_VI : Hid (∀ g, (Value.slice AI N cI).ownBlock = some g → w9.heap.size ≤ g ∧ g < w10.heap.size) := World.ownsRow.lt hv
        have O_GI_w10 : Hid (OwnK 3 .i64 w10 w9.heap.size BI N dI G) := hg
        have R_GI : Hid (∀ g, (Value.slice BI N dI).ownBlock = some g → w9.heap.size ≤ g ∧ g < w10.heap.size) := World.ownsRow.lt hg
        clear hb hk hv hg
        have HD := Lib.hid hdis
        clear hdis
        have hk := bel1 w10 (.cells #[.int .i64 K, .slice AI N cI, .slice BI N dI, .int .u32 (T : Int), .int .i64 0, .int .i64 0, .int .i64 0, .int .u32 0] 35)
        have V_arg_w11 : Hid ((w10.alloc (.cells #[.int .i64 K, .slice AI N cI, .slice BI N dI, .int .u32 (T : Int), .int .i64 0, .int .i64 0, .int .i64 0, .int .u32 0] 35)).heap[w.heap.size]? = some (.cells #[.int .i64 kd, .slice A n c, .slice B m d, .int .u32 (td : Int), .int .i64 ph, .int .i64 pr, .int .i64 hd, .int .u32 (sn : Int)] 30 (0, 0))) := (hk.block _ (by omega)).trans V_arg_w10.out
        have V_rarg_w11 : Hid ((w10.alloc (.cells #[.int .i64 K, .slice AI N cI, .slice BI N dI, .int .u32 (T : Int), .int .i64 0, .int .i64 0, .int .i64 0, .int .u32 0] 35)).heap[(w.heap.size + 1)]? = some (.cells #[.int .i64 rk, .slice D o f] 32 (0, 0))) := (hk.block _ (by omega)).trans V_rarg_w10.out
        have V_vS_w11 : Hid ((w10.alloc (.cells #[.int .i64 K, .slice AI N cI, .slice BI N dI, .int .u32 (T : Int), .int .i64 0, .int .i64 0, .int .i64 0, .int .u32 0] 35)).heap[bS]? = some (.cells #[.int .i64 K, .slice AS N cS, .slice BS N dS, .int .u32 (T : Int), .int .i64 0, .int .i64 0, .int .i64 0, .int .u32 0] 35 (0, 0))) := (hk.block _ (by omega)).trans V_vS_w10.out
        have V_vX_w11 : Hid ((w10.alloc (.cells #[.int .i64 K, .slice AI N cI, .slice BI N dI, .int .u32 (T : Int), .int .i64 0, .int .i64 0, .int .i64 0, .int .u32 0] 35)).heap[w6.heap.size]? = some (.cells #[.int .i64 kd, .slice (some ⟨gX, 0, none⟩) n n, .slice (some ⟨kX, 0, none⟩) m m, .int .u32 (td : Int), .int .i64 ph, .int .i64 pr, .int .i64 hd, .int .u32 (sn : Int)] 35 (0, 0))) := (hk.block _ (by omega)).trans V_vX_w10.out
        have V_uX_w11 : Hid ((w10.alloc (.cells #[.int .i64 K, .slice AI N cI, .slice BI N dI, .int .u32 (T : Int), .int .i64 0, .int .i64 0, .int .i64 0, .int .u32 0] 35)).heap[w8.heap.size]? = some (.cells #[.int .i64 rk, .slice (some ⟨qX, 0, none⟩) o o] 39 (0, 0))) := (hk.block _ (by omega)).trans V_uX_w10.out
        have O_VS_w11 : Hid (OwnK 3 .i64 (w10.alloc (.cells #[.int .i64 K, .slice AI N cI, .slice BI N dI, .int .u32 (T : Int), .int .i64 0, .int .i64 0, .int .i64 0, .int .u32 0] 35)) w3.heap.size AS N cS V) := O_VS_w10.out.below hk
        have O_GS_w11 : Hid (OwnK 3 .i64 (w10.alloc (.cells #[.int .i64 K, .slice AI N cI, .slice BI N dI, .int .u32 (T : Int), .int .i64 0, .int .i64 0, .int .i64 0, .int .u32 0] 35)) w3.heap.size BS N dS G) := O_GS_w10.out.below hk
        have O_VX_w11 : Hid (OwnK 3 .i64 (w10.alloc (.cells #[.int .i64 K, .slice AI N cI, .slice BI N dI, .int .u32 (T : Int), .int .i64 0, .int .i64 0, .int .i64 0, .int .u32 0] 35)) w5.heap.size (some ⟨gX, 0, none⟩) n n vs) := O_VX_w10.out.below hk
        have O_GX_w11 : Hid (OwnK 3 .i64 (w10.alloc (.cells #[.int .i64 K, .slice AI N cI, .slice BI N dI, .int .u32 (T : Int), .int .i64 0, .int .i64 0, .int .i64 0, .int .u32 0] 35)) (gX + 1) (some ⟨kX, 0, none⟩) m m gs) := O_GX_w10.out.below hk
        have O_QX_w11 : Hid (OwnK 3 .i64 (w10.alloc (.cells #[.int .i64 K, .slice AI N cI, .slice BI N dI, .int .u32 (T : Int), .int .i64 0, .int .i64 0, .int .i64 0, .int .u32 0] 35)) w7.heap.size (some ⟨qX, 0, none⟩) o o us) := O_QX_w10.out.below hk
        have O_VI_w11 : Hid (OwnK 3 .i64 (w10.alloc (.cells #[.int .i64 K, .slice AI N cI, .slice BI N dI, .int .u32 (T : Int), .int .i64 0, .int .i64 0, .int .i64 0, .int .u32 0] 35)) w9.heap.size AI N cI V) := O_VI_w10.out.below hk
        have O_GI_w11 : Hid (OwnK 3 .i64 (w10.alloc (.cells #[.int .i64 K, .slice AI N cI, .slice BI N dI, .int .u32 (T : Int), .int .i64 0, .int .i64 0, .int .i64 0, .int .u32 0] 35)) w9.heap.size BI N dI G) := O_GI_w10.out.below hk
        have V_vI_w11 : Hid ((w10.alloc (.cells #[.int .i64 K, .slice AI N cI, .slice BI N dI, .int .u32 (T : Int), .int .i64 0, .int .i64 0, .int .i64 0, .int .u32 0] 35)).heap[w10.heap.size]? = some (.cells #[.int .i64 K, .slice AI N cI, .slice BI N dI, .int .u32 (T : Int), .int .i64 0, .int .i64 0, .int .i64 0, .int .u32 0] 35 (0, 0))) := heap_alloc_new _ _
        have Bw11 : Hid (Below w.heap.size w (w10.alloc (.cells #[.int .i64 K, .slice AI N cI, .slice BI N dI, .int .u32 (T : Int), .int .i64 0, .int .i64 0, .int .i64 0, .int .u32 0] 35))) := Bw10.out.alloc Bw10.out.size _
        have zw11 : w10.heap.size + 1 ≤ (w10.alloc (.cells #[.int .i64 K, .slice AI N cI, .slice BI N dI, .int .u32 (T : Int), .int .i64 0, .int .i64 0, .int .i64 0, .int .u32 0] 35)).heap.size := Nat.le_of_eq (sz1 _ _).symm
        have yw11 : (w10.alloc (.cells #[.int .i64 K, .slice AI N cI, .slice BI N dI, .int .u32 (T : Int), .int .i64 0, .int .i64 0, .int .i64 0, .int .u32 0] 35)).heap.size ≤ w10.heap.size + 1 := Nat.le_of_eq (sz1 _ _)
        clear V_arg_w10 V_rarg_w10 V_vS_w10 V_vX_w10 V_uX_w10 O_VS_w10 O_GS_w10 O_VX_w10 O_GX_w10 O_QX_w10 O_VI_w10 O_GI_w10 Bw10 hk
        have c_vS0 := blkc V_vS_w11.out 0 rfl
        have c_vS1 := blkc V_vS_w11.out 1 rfl
        have c_vS2 := blkc V_vS_w11.out 2 rfl
        have c_vS3 := blkc V_vS_w11.out 3 rfl
        have c_vS4 := blkc V_vS_w11.out 4 rfl
        have c_vS5 := blkc V_vS_w11.out 5 rfl
        have c_vS6 := blkc V_vS_w11.out 6 rfl
        have c_vS7 := blkc V_vS_w11.out 7 rfl
        go_wp2_with fail
        clear c_vS0 c_vS1 c_vS2 c_vS3 c_vS4 c_vS5 c_vS6 c_vS7
        generalize w10.alloc (.cells #[.int .i64 K, .slice AI N cI, .slice BI N dI, .int .u32 (T : Int), .int .i64 0, .int .i64 0, .int .i64 0, .int .u32 0] 35) = w11 at *
        refine (eqWarp_any K _ _ N _ _ _ _ N _ _ T 0 0 0 0 _ _ _ _ _ _ _ O_VI_w11.out.rd O_VS_w11.out.rd O_GI_w11.out.rd O_GS_w11.out.rd (Nat.le_refl _) (Nat.le_refl _) (Nat.le_refl _) (Nat.le_refl _) hN hN).mono ?_
        rintro e w12 ⟨rfl, hb⟩
        have zw12 := hb.size
        have hk : Kp (fun _ => False) w11 w12 := Kp.of_below hb
        have V_arg_w12 : Hid (w12.heap[w.heap.size]? = some (.cells #[.int .i64 kd, .slice A n c, .slice B m d, .int .u32 (td : Int), .int .i64 ph, .int .i64 pr, .int .i64 hd, .int .u32 (sn : Int)] 30 (0, 0))) := (hk.block _ (by omega) (fun h => h)).trans V_arg_w11.out
        have V_rarg_w12 : Hid (w12.heap[(w.heap.size + 1)]? = some (.cells #[.int .i64 rk, .slice D o f] 32 (0, 0))) := (hk.block _ (by omega) (fun h => h)).trans V_rarg_w11.out
        have V_vS_w12 : Hid (w12.heap[bS]? = some (.cells #[.int .i64 K, .slice AS N cS, .slice BS N dS, .int .u32 (T : Int), .int .i64 0, .int .i64 0, .int .i64 0, .int .u32 0] 35 (0, 0))) := (hk.block _ (by omega) (fun h => h)).trans V_vS_w11.out
        have V_vX_w12 : Hid (w12.heap[w6.heap.size]? = some (.cells #[.int .i64 kd, .slice (some ⟨gX, 0, none⟩) n n, .slice (some ⟨kX, 0, none⟩) m m, .int .u32 (td : Int), .int .i64 ph, .int .i64 pr, .int .i64 hd, .int .u32 (sn : Int)] 35 (0, 0))) := (hk.block _ (by omega) (fun h => h)).trans V_vX_w11.out
        have V_uX_w12 : Hid (w12.heap[w8.heap.size]? = some (.cells #[.int .i64 rk, .slice (some ⟨qX, 0, none⟩) o o] 39 (0, 0))) := (hk.block _ (by omega) (fun h => h)).trans V_uX_w11.out
        have V_vI_w12 : Hid (w12.heap[w10.heap.size]? = some (.cells #[.int .i64 K, .slice AI N cI, .slice BI N dI, .int .u32 (T : Int), .int .i64 0, .int .i64 0, .int .i64 0, .int .u32 0] 35 (0, 0))) := (hk.block _ (by omega) (fun h => h)).trans V_vI_w11.out
        have O_VS_w12 : Hid (OwnK 3 .i64 w12 w3.heap.size AS N cS V) := O_VS_w11.out.kp hk (fun g hg h => h)
        have O_GS_w12 : Hid (OwnK 3 .i64 w12 w3.heap.size BS N dS G) := O_GS_w11.out.kp hk (fun g hg h => h)
        have O_VX_w12 : Hid (OwnK 3 .i64 w12 w5.heap.size (some ⟨gX, 0, none⟩) n n vs) := O_VX_w11.out.kp hk (fun g hg h => h)
        have O_GX_w12 : Hid (OwnK 3 .i64 w12 (gX + 1) (some ⟨kX, 0, none⟩) m m gs) := O_GX_w11.out.kp hk (fun g hg h => h)
        have O_QX_w12 : Hid (OwnK 3 .i64 w12 w7.heap.size (some ⟨qX, 0, none⟩) o o us) := O_QX_w11.out.kp hk (fun g hg h => h)
        have O_VI_w12 : Hid (OwnK 3 .i64 w12 w9.heap.size AI N cI V) := O_VI_w11.out.kp hk (fun g hg h => h)
        have O_GI_w12 : Hid (OwnK 3 .i64 w12 w9.heap.size BI N dI G) := O_GI_w11.out.kp hk (fun g hg h => h)
        have Bw12 : Hid (Below w.heap.size w w12) := Bw11.out.trans (hb.mono Bw11.out.size)
        clear V_arg_w11 V_rarg_w11 V_vS_w11 V_vX_w11 V_uX_w11 V_vI_w11 O_VS_w11 O_GS_w11 O_VX_w11 O_GX_w11 O_QX_w11 O_VI_w11 O_GI_w11 Bw11
        clear hb hk
        go_wp2_with fail
        have x0r13 : w12.cell? ⟨w6.heap.size, 0, none⟩ = some (.int .i64 kd) ∧ w12.cell? ⟨w6.heap.size, 1, none⟩ = some (.slice (some ⟨gX, 0, none⟩) n n) ∧ w12.cell? ⟨w6.heap.size, 2, none⟩ = some (.slice (some ⟨kX, 0, none⟩) m m) ∧ w12.cell? ⟨w6.heap.size, 3, none⟩ = some (.int .u32 (td : Int)) ∧ w12.cell? ⟨w6.heap.size, 4, none⟩ = some (.int .i64 ph) ∧ w12.cell? ⟨w6.heap.size, 5, none⟩ = some (.int .i64 pr) ∧ w12.cell? ⟨w6.heap.size, 6, none⟩ = some (.int .i64 hd) ∧ w12.cell? ⟨w6.heap.size, 7, none⟩ = some (.int .u32 (sn : Int)) ∧ w12.cell? ⟨w.heap.size, 0, none⟩ = some (.int .i64 kd) ∧ w12.cell? ⟨w.heap.size, 1, none⟩ = some (.slice A n c) ∧ w12.cell? ⟨w.heap.size, 2, none⟩ = some (.slice B m d) ∧ w12.cell? ⟨w.heap.size, 3, none⟩ = some (.int .u32 (td : Int)) ∧ w12.cell? ⟨w.heap.size, 4, none⟩ = some (.int .i64 ph) ∧ w12.cell? ⟨w.heap.size, 5, none⟩ = some (.int .i64 pr) ∧ w12.cell? ⟨w.heap.size, 6, none⟩ = some (.int .i64 hd) ∧ w12.cell? ⟨w.heap.size, 7, none⟩ = some (.int .u32 (sn : Int)) := ⟨blkc V_vX_w12.out 0 rfl, blkc V_vX_w12.out 1 rfl, blkc V_vX_w12.out 2 rfl, blkc V_vX_w12.out 3 rfl, blkc V_vX_w12.out 4 rfl, blkc V_vX_w12.out 5 rfl, blkc V_vX_w12.out 6 rfl, blkc V_vX_w12.out 7 rfl, blkc V_arg_w12.out 0 rfl, blkc V_arg_w12.out 1 rfl, blkc V_arg_w12.out 2 rfl, blkc V_arg_w12.out 3 rfl, blkc V_arg_w12.out 4 rfl, blkc V_arg_w12.out 5 rfl, blkc V_arg_w12.out 6 rfl, blkc V_arg_w12.out 7 rfl⟩
        have x0dr13 : w12.drew.cell? ⟨w6.heap.size, 0, none⟩ = some (.int .i64 kd) ∧ w12.drew.cell? ⟨w6.heap.size, 1, none⟩ = some (.slice (some ⟨gX, 0, none⟩) n n) ∧ w12.drew.cell? ⟨w6.heap.size, 2, none⟩ = some (.slice (some ⟨kX, 0, none⟩) m m) ∧ w12.drew.cell? ⟨w6.heap.size, 3, none⟩ = some (.int .u32 (td : Int)) ∧ w12.drew.cell? ⟨w6.heap.size, 4, none⟩ = some (.int .i64 ph) ∧ w12.drew.cell? ⟨w6.heap.size, 5, none⟩ = some (.int .i64 pr) ∧ w12.drew.cell? ⟨w6.heap.size, 6, none⟩ = some (.int .i64 hd) ∧ w12.drew.cell? ⟨w6.heap.size, 7, none⟩ = some (.int .u32 (sn : Int)) ∧ w12.drew.cell? ⟨w.heap.size, 0, none⟩ = some (.int .i64 kd) ∧ w12.drew.cell? ⟨w.heap.size, 1, none⟩ = some (.slice A n c) ∧ w12.drew.cell? ⟨w.heap.size, 2, none⟩ = some (.slice B m d) ∧ w12.drew.cell? ⟨w.heap.size, 3, none⟩ = some (.int .u32 (td : Int)) ∧ w12.drew.cell? ⟨w.heap.size, 4, none⟩ = some (.int .i64 ph) ∧ w12.drew.cell? ⟨w.heap.size, 5, none⟩ = some (.int .i64 pr) ∧ w12.drew.cell? ⟨w.heap.size, 6, none⟩ = some (.int .i64 hd) ∧ w12.drew.cell? ⟨w.heap.size, 7, none⟩ = some (.int .u32 (sn : Int)) := x0r13
        have D0r13 : Hid (Below w12.heap.size w12 w12.drew) := (Below.refl _ _).drew
        have xSr13 : Hid (∀ w', Below w12.heap.size w12 w' → w'.cell? ⟨w6.heap.size, 0, none⟩ = some (.int .i64 kd) ∧ w'.cell? ⟨w6.heap.size, 1, none⟩ = some (.slice (some ⟨gX, 0, none⟩) n n) ∧ w'.cell? ⟨w6.heap.size, 2, none⟩ = some (.slice (some ⟨kX, 0, none⟩) m m) ∧ w'.cell? ⟨w6.heap.size, 3, none⟩ = some (.int .u32 (td : Int)) ∧ w'.cell? ⟨w6.heap.size, 4, none⟩ = some (.int .i64 ph) ∧ w'.cell? ⟨w6.heap.size, 5, none⟩ = some (.int .i64 pr) ∧ w'.cell? ⟨w6.heap.size, 6, none⟩ = some (.int .i64 hd) ∧ w'.cell? ⟨w6.heap.size, 7, none⟩ = some (.int .u32 (sn : Int)) ∧ w'.cell? ⟨w.heap.size, 0, none⟩ = some (.int .i64 kd) ∧ w'.cell? ⟨w.heap.size, 1, none⟩ = some (.slice A n c) ∧ w'.cell? ⟨w.heap.size, 2, none⟩ = some (.slice B m d) ∧ w'.cell? ⟨w.heap.size, 3, none⟩ = some (.int .u32 (td : Int)) ∧ w'.cell? ⟨w.heap.size, 4, none⟩ = some (.int .i64 ph) ∧ w'.cell? ⟨w.heap.size, 5, none⟩ = some (.int .i64 pr) ∧ w'.cell? ⟨w.heap.size, 6, none⟩ = some (.int .i64 hd) ∧ w'.cell? ⟨w.heap.size, 7, none⟩ = some (.int .u32 (sn : Int))) := fun w' hb => ⟨later_at0 hb x0r13.1, later_at0 hb x0r13.2.1, later_at0 hb x0r13.2.2.1, later_at0 hb x0r13.2.2.2.1, later_at0 hb x0r13.2.2.2.2.1, later_at0 hb x0r13.2.2.2.2.2.1, later_at0 hb x0r13.2.2.2.2.2.2.1, later_at0 hb x0r13.2.2.2.2.2.2.2.1, later_at0 hb x0r13.2.2.2.2.2.2.2.2.1, later_at0 hb x0r13.2.2.2.2.2.2.2.2.2.1, later_at0 hb x0r13.2.2.2.2.2.2.2.2.2.2.1, later_at0 hb x0r13.2.2.2.2.2.2.2.2.2.2.2.1, later_at0 hb x0r13.2.2.2.2.2.2.2.2.2.2.2.2.1, later_at0 hb x0r13.2.2.2.2.2.2.2.2.2.2.2.2.2.1, later_at0 hb x0r13.2.2.2.2.2.2.2.2.2.2.2.2.2.2.1, later_at0 hb x0r13.2.2.2.2.2.2.2.2.2.2.2.2.2.2.2⟩
        go_cut [58] (fun s0 wx => s0 = .bool false ∧ Hid (Below w12.heap.size w12 wx))
        case first =>
          have CT : Hid (∀ W', Below w12.heap.size w12 W' → Calls Try.prog 16 #[.agg #[.int .i64 kd, .slice A n c, .slice B m d, .int .u32 (td : Int), .int .i64 ph, .int .i64 pr, .int .i64 hd, .int .u32 (sn : Int)]] W' fun e w' => ∃ g k, e = .returned (.agg #[.int .i64 kd, .slice (some ⟨g, 0, none⟩) n n, .slice (some ⟨k, 0, none⟩) m m, .int .u32 (td : Int), .int .i64 ph, .int .i64 pr, .int .i64 hd, .int .u32 (sn : Int)]) ∧ Hid (RdK .i64 w' w'.heap.size (some ⟨g, 0, none⟩) n vs) ∧ Hid (RdK .i64 w' w'.heap.size (some ⟨k, 0, none⟩) m gs) ∧ Hid (Below w12.heap.size w12 w') ∧ (w'.cell? ⟨w6.heap.size, 0, none⟩ = some (.int .i64 kd) ∧ w'.cell? ⟨w6.heap.size, 1, none⟩ = some (.slice (some ⟨gX, 0, none⟩) n n) ∧ w'.cell? ⟨w6.heap.size, 2, none⟩ = some (.slice (some ⟨kX, 0, none⟩) m m) ∧ w'.cell? ⟨w6.heap.size, 3, none⟩ = some (.int .u32 (td : Int)) ∧ w'.cell? ⟨w6.heap.size, 4, none⟩ = some (.int .i64 ph) ∧ w'.cell? ⟨w6.heap.size, 5, none⟩ = some (.int .i64 pr) ∧ w'.cell? ⟨w6.heap.size, 6, none⟩ = some (.int .i64 hd) ∧ w'.cell? ⟨w6.heap.size, 7, none⟩ = some (.int .u32 (sn : Int)) ∧ w'.cell? ⟨w.heap.size, 0, none⟩ = some (.int .i64 kd) ∧ w'.cell? ⟨w.heap.size, 1, none⟩ = some (.slice A n c) ∧ w'.cell? ⟨w.heap.size, 2, none⟩ = some (.slice B m d) ∧ w'.cell? ⟨w.heap.size, 3, none⟩ = some (.int .u32 (td : Int)) ∧ w'.cell? ⟨w.heap.size, 4, none⟩ = some (.int .i64 ph) ∧ w'.cell? ⟨w.heap.size, 5, none⟩ = some (.int .i64 pr) ∧ w'.cell? ⟨w.heap.size, 6, none⟩ = some (.int .i64 hd) ∧ w'.cell? ⟨w.heap.size, 7, none⟩ = some (.int .u32 (sn : Int)))) := fun W' hb => (HT.out W' (Bw12.out.trans (hb.mono Bw12.out.size))).mono fun e w' ⟨g, k, he, ho, ho2, hb2⟩ => ⟨g, k, he, ho.rd, ho2.rd, hb.trans (hb2.mono hb.size), xSr13.out w' (hb.trans (hb2.mono hb.size))⟩
          have CE : Hid (∀ W' g k, Below w12.heap.size w12 W' → RdK .i64 W' W'.heap.size (some ⟨g, 0, none⟩) n vs → RdK .i64 W' W'.heap.size (some ⟨k, 0, none⟩) m gs → Calls Try.prog 19 #[.agg #[.int .i64 kd, .slice (some ⟨gX, 0, none⟩) n n, .slice (some ⟨kX, 0, none⟩) m m, .int .u32 (td : Int), .int .i64 ph, .int .i64 pr, .int .i64 hd, .int .u32 (sn : Int)], .agg #[.int .i64 kd, .slice (some ⟨g, 0, none⟩) n n, .slice (some ⟨k, 0, none⟩) m m, .int .u32 (td : Int), .int .i64 ph, .int .i64 pr, .int .i64 hd, .int .u32 (sn : Int)]] W' fun e w' => e = .returned (.bool true) ∧ Hid (Below w12.heap.size w12 w') ∧ (w'.cell? ⟨w6.heap.size, 0, none⟩ = some (.int .i64 kd) ∧ w'.cell? ⟨w6.heap.size, 1, none⟩ = some (.slice (some ⟨gX, 0, none⟩) n n) ∧ w'.cell? ⟨w6.heap.size, 2, none⟩ = some (.slice (some ⟨kX, 0, none⟩) m m) ∧ w'.cell? ⟨w6.heap.size, 3, none⟩ = some (.int .u32 (td : Int)) ∧ w'.cell? ⟨w6.heap.size, 4, none⟩ = some (.int .i64 ph) ∧ w'.cell? ⟨w6.heap.size, 5, none⟩ = some (.int .i64 pr) ∧ w'.cell? ⟨w6.heap.size, 6, none⟩ = some (.int .i64 hd) ∧ w'.cell? ⟨w6.heap.size, 7, none⟩ = some (.int .u32 (sn : Int)) ∧ w'.cell? ⟨w.heap.size, 0, none⟩ = some (.int .i64 kd) ∧ w'.cell? ⟨w.heap.size, 1, none⟩ = some (.slice A n c) ∧ w'.cell? ⟨w.heap.size, 2, none⟩ = some (.slice B m d) ∧ w'.cell? ⟨w.heap.size, 3, none⟩ = some (.int .u32 (td : Int)) ∧ w'.cell? ⟨w.heap.size, 4, none⟩ = some (.int .i64 ph) ∧ w'.cell? ⟨w.heap.size, 5, none⟩ = some (.int .i64 pr) ∧ w'.cell? ⟨w.heap.size, 6, none⟩ = some (.int .i64 hd) ∧ w'.cell? ⟨w.heap.size, 7, none⟩ = some (.int .u32 (sn : Int)))) := fun W' g k hb hr hr2 => (eqWarp_any kd _ _ n n n _ _ m m m td ph pr hd sn _ _ _ _ vs gs W' (O_VX_w12.out.rd.below hb) hr (O_GX_w12.out.rd.below hb) hr2 hb.size (Nat.le_refl _) hb.size (Nat.le_refl _) hm hm2).mono fun e w' ⟨he, hb2⟩ => ⟨he, hb.trans (hb2.mono hb.size), xSr13.out w' (hb.trans (hb2.mono hb.size))⟩
          go_region_held3 (fun w' => w'.cell? ⟨w6.heap.size, 0, none⟩ = some (.int .i64 kd) ∧ w'.cell? ⟨w6.heap.size, 1, none⟩ = some (.slice (some ⟨gX, 0, none⟩) n n) ∧ w'.cell? ⟨w6.heap.size, 2, none⟩ = some (.slice (some ⟨kX, 0, none⟩) m m) ∧ w'.cell? ⟨w6.heap.size, 3, none⟩ = some (.int .u32 (td : Int)) ∧ w'.cell? ⟨w6.heap.size, 4, none⟩ = some (.int .i64 ph) ∧ w'.cell? ⟨w6.heap.size, 5, none⟩ = some (.int .i64 pr) ∧ w'.cell? ⟨w6.heap.size, 6, none⟩ = some (.int .i64 hd) ∧ w'.cell? ⟨w6.heap.size, 7, none⟩ = some (.int .u32 (sn : Int)) ∧ w'.cell? ⟨w.heap.size, 0, none⟩ = some (.int .i64 kd) ∧ w'.cell? ⟨w.heap.size, 1, none⟩ = some (.slice A n c) ∧ w'.cell? ⟨w.heap.size, 2, none⟩ = some (.slice B m d) ∧ w'.cell? ⟨w.heap.size, 3, none⟩ = some (.int .u32 (td : Int)) ∧ w'.cell? ⟨w.heap.size, 4, none⟩ = some (.int .i64 ph) ∧ w'.cell? ⟨w.heap.size, 5, none⟩ = some (.int .i64 pr) ∧ w'.cell? ⟨w.heap.size, 6, none⟩ = some (.int .i64 hd) ∧ w'.cell? ⟨w.heap.size, 7, none⟩ = some (.int .u32 (sn : Int)))
            (first | exact x0r13 | exact x0dr13 | exact xt | exact xe)
            (first | (go_at_call 16; (with_reducible refine (CT.out _ D0r13.out).mono ?_); rintro e wt ⟨gq, kq, rfl, RT, RT2, BT, xt⟩)
                   | (go_at_call 19; (with_reducible refine (CE.out _ _ _ BT.out RT.out RT2.out).mono ?_); rintro e we ⟨rfl, BE, xe⟩))
          all_goals (go_wp2_with fail; go_meet; exact ⟨rfl, BE⟩)
        case rest =>
          obtain ⟨rfl, hb0⟩ := hcut
          generalize wc = w14 at *
          have hb := hb0.out
          clear hb0 x0r13 x0dr13 D0r13 xSr13
          have zw14 := hb.size
          have hk : Kp (fun _ => False) w12 w14 := Kp.of_below hb
          have V_arg_w14 : Hid (w14.heap[w.heap.size]? = some (.cells #[.int .i64 kd, .slice A n c, .slice B m d, .int .u32 (td : Int), .int .i64 ph, .int .i64 pr, .int .i64 hd, .int .u32 (sn : Int)] 30 (0, 0))) := (hk.block _ (by omega) (fun h => h)).trans V_arg_w12.out
          have V_rarg_w14 : Hid (w14.heap[(w.heap.size + 1)]? = some (.cells #[.int .i64 rk, .slice D o f] 32 (0, 0))) := (hk.block _ (by omega) (fun h => h)).trans V_rarg_w12.out
          have V_vS_w14 : Hid (w14.heap[bS]? = some (.cells #[.int .i64 K, .slice AS N cS, .slice BS N dS, .int .u32 (T : Int), .int .i64 0, .int .i64 0, .int .i64 0, .int .u32 0] 35 (0, 0))) := (hk.block _ (by omega) (fun h => h)).trans V_vS_w12.out
          have V_vX_w14 : Hid (w14.heap[w6.heap.size]? = some (.cells #[.int .i64 kd, .slice (some ⟨gX, 0, none⟩) n n, .slice (some ⟨kX, 0, none⟩) m m, .int .u32 (td : Int), .int .i64 ph, .int .i64 pr, .int .i64 hd, .int .u32 (sn : Int)] 35 (0, 0))) := (hk.block _ (by omega) (fun h => h)).trans V_vX_w12.out
          have V_uX_w14 : Hid (w14.heap[w8.heap.size]? = some (.cells #[.int .i64 rk, .slice (some ⟨qX, 0, none⟩) o o] 39 (0, 0))) := (hk.block _ (by omega) (fun h => h)).trans V_uX_w12.out
          have V_vI_w14 : Hid (w14.heap[w10.heap.size]? = some (.cells #[.int .i64 K, .slice AI N cI, .slice BI N dI, .int .u32 (T : Int), .int .i64 0, .int .i64 0, .int .i64 0, .int .u32 0] 35 (0, 0))) := (hk.block _ (by omega) (fun h => h)).trans V_vI_w12.out
          have O_VS_w14 : Hid (OwnK 3 .i64 w14 w3.heap.size AS N cS V) := O_VS_w12.out.kp hk (fun g hg h => h)
          have O_GS_w14 : Hid (OwnK 3 .i64 w14 w3.heap.size BS N dS G) := O_GS_w12.out.kp hk (fun g hg h => h)
          have O_VX_w14 : Hid (OwnK 3 .i64 w14 w5.heap.size (some ⟨gX, 0, none⟩) n n vs) := O_VX_w12.out.kp hk (fun g hg h => h)
          have O_GX_w14 : Hid (OwnK 3 .i64 w14 (gX + 1) (some ⟨kX, 0, none⟩) m m gs) := O_GX_w12.out.kp hk (fun g hg h => h)
          have O_QX_w14 : Hid (OwnK 3 .i64 w14 w7.heap.size (some ⟨qX, 0, none⟩) o o us) := O_QX_w12.out.kp hk (fun g hg h => h)
          have O_VI_w14 : Hid (OwnK 3 .i64 w14 w9.heap.size AI N cI V) := O_VI_w12.out.kp hk (fun g hg h => h)
          have O_GI_w14 : Hid (OwnK 3 .i64 w14 w9.heap.size BI N dI G) := O_GI_w12.out.kp hk (fun g hg h => h)
          have Bw14 : Hid (Below w.heap.size w w14) := Bw12.out.trans (hb.mono Bw12.out.size)
          clear V_arg_w12 V_rarg_w12 V_vS_w12 V_vX_w12 V_uX_w12 V_vI_w12 O_VS_w12 O_GS_w12 O_VX_w12 O_GX_w12 O_QX_w12 O_VI_w12 O_GI_w12 Bw12
          clear hb hk
          go_wp2_with fail
          have x0r15 : w14.cell? ⟨w8.heap.size, 0, none⟩ = some (.int .i64 rk) ∧ w14.cell? ⟨w8.heap.size, 1, none⟩ = some (.slice (some ⟨qX, 0, none⟩) o o) ∧ w14.cell? ⟨(w.heap.size + 1), 0, none⟩ = some (.int .i64 rk) ∧ w14.cell? ⟨(w.heap.size + 1), 1, none⟩ = some (.slice D o f) := ⟨blkc V_uX_w14.out 0 rfl, blkc V_uX_w14.out 1 rfl, blkc V_rarg_w14.out 0 rfl, blkc V_rarg_w14.out 1 rfl⟩
          have x0dr15 : w14.drew.cell? ⟨w8.heap.size, 0, none⟩ = some (.int .i64 rk) ∧ w14.drew.cell? ⟨w8.heap.size, 1, none⟩ = some (.slice (some ⟨qX, 0, none⟩) o o) ∧ w14.drew.cell? ⟨(w.heap.size + 1), 0, none⟩ = some (.int .i64 rk) ∧ w14.drew.cell? ⟨(w.heap.size + 1), 1, none⟩ = some (.slice D o f) := x0r15
          have D0r15 : Hid (Below w14.heap.size w14 w14.drew) := (Below.refl _ _).drew
          have xSr15 : Hid (∀ w', Below w14.heap.size w14 w' → w'.cell? ⟨w8.heap.size, 0, none⟩ = some (.int .i64 rk) ∧ w'.cell? ⟨w8.heap.size, 1, none⟩ = some (.slice (some ⟨qX, 0, none⟩) o o) ∧ w'.cell? ⟨(w.heap.size + 1), 0, none⟩ = some (.int .i64 rk) ∧ w'.cell? ⟨(w.heap.size + 1), 1, none⟩ = some (.slice D o f)) := fun w' hb => ⟨later_at0 hb x0r15.1, later_at0 hb x0r15.2.1, later_at0 hb x0r15.2.2.1, later_at0 hb x0r15.2.2.2⟩
          go_cut [63] (fun s0 wx => s0 = .bool false ∧ Hid (Below w14.heap.size w14 wx))
          case first =>
            have CT : Hid (∀ W', Below w14.heap.size w14 W' → Calls Try.prog 17 #[.agg #[.int .i64 rk, .slice D o f]] W' fun e w' => ∃ g, e = .returned (.agg #[.int .i64 rk, .slice (some ⟨g, 0, none⟩) o o]) ∧ Hid (RdK .i64 w' w'.heap.size (some ⟨g, 0, none⟩) o us) ∧ Hid (Below w14.heap.size w14 w') ∧ (w'.cell? ⟨w8.heap.size, 0, none⟩ = some (.int .i64 rk) ∧ w'.cell? ⟨w8.heap.size, 1, none⟩ = some (.slice (some ⟨qX, 0, none⟩) o o) ∧ w'.cell? ⟨(w.heap.size + 1), 0, none⟩ = some (.int .i64 rk) ∧ w'.cell? ⟨(w.heap.size + 1), 1, none⟩ = some (.slice D o f))) := fun W' hb => (HTr.out W' (Bw14.out.trans (hb.mono Bw14.out.size))).mono fun e w' ⟨g, he, ho, hb2⟩ => ⟨g, he, ho.rd, hb.trans (hb2.mono hb.size), xSr15.out w' (hb.trans (hb2.mono hb.size))⟩
            have CE : Hid (∀ W' g, Below w14.heap.size w14 W' → RdK .i64 W' W'.heap.size (some ⟨g, 0, none⟩) o us → Calls Try.prog 20 #[.agg #[.int .i64 rk, .slice (some ⟨qX, 0, none⟩) o o], .agg #[.int .i64 rk, .slice (some ⟨g, 0, none⟩) o o]] W' fun e w' => e = .returned (.bool true) ∧ Hid (Below w14.heap.size w14 w') ∧ (w'.cell? ⟨w8.heap.size, 0, none⟩ = some (.int .i64 rk) ∧ w'.cell? ⟨w8.heap.size, 1, none⟩ = some (.slice (some ⟨qX, 0, none⟩) o o) ∧ w'.cell? ⟨(w.heap.size + 1), 0, none⟩ = some (.int .i64 rk) ∧ w'.cell? ⟨(w.heap.size + 1), 1, none⟩ = some (.slice D o f))) := fun W' g hb hr => (eqReq_any rk _ _ o o o _ _ us W' (O_QX_w14.out.rd.below hb) hr hb.size (Nat.le_refl _) hm3).mono fun e w' ⟨he, hb2⟩ => ⟨he, hb.trans (hb2.mono hb.size), xSr15.out w' (hb.trans (hb2.mono hb.size))⟩
            go_region_held3 (fun w' => w'.cell? ⟨w8.heap.size, 0, none⟩ = some (.int .i64 rk) ∧ w'.cell? ⟨w8.heap.size, 1, none⟩ = some (.slice (some ⟨qX, 0, none⟩) o o) ∧ w'.cell? ⟨(w.heap.size + 1), 0, none⟩ = some (.int .i64 rk) ∧ w'.cell? ⟨(w.heap.size + 1), 1, none⟩ = some (.slice D o f))
              (first | exact x0r15 | exact x0dr15 | exact xt | exact xe)
              (first | (go_at_call 17; (with_reducible refine (CT.out _ D0r15.out).mono ?_); rintro e wt ⟨gq, rfl, RT, BT, xt⟩)
                     | (go_at_call 20; (with_reducible refine (CE.out _ _ BT.out RT.out).mono ?_); rintro e we ⟨rfl, BE, xe⟩))
            all_goals (go_wp2_with fail; go_meet; exact ⟨rfl, BE⟩)
          case rest =>
            obtain ⟨rfl, hb0⟩ := hcut
            generalize wc = w16 at *
            have hb := hb0.out
            clear hb0 x0r15 x0dr15 D0r15 xSr15
            have zw16 := hb.size
            have hk : Kp (fun _ => False) w14 w16 := Kp.of_below hb
            have V_arg_w16 : Hid (w16.heap[w.heap.size]? = some (.cells #[.int .i64 kd, .slice A n c, .slice B m d, .int .u32 (td : Int), .int .i64 ph, .int .i64 pr, .int .i64 hd, .int .u32 (sn : Int)] 30 (0, 0))) := (hk.block _ (by omega) (fun h => h)).trans V_arg_w14.out
            have V_rarg_w16 : Hid (w16.heap[(w.heap.size + 1)]? = some (.cells #[.int .i64 rk, .slice D o f] 32 (0, 0))) := (hk.block _ (by omega) (fun h => h)).trans V_rarg_w14.out
            have V_vS_w16 : Hid (w16.heap[bS]? = some (.cells #[.int .i64 K, .slice AS N cS, .slice BS N dS, .int .u32 (T : Int), .int .i64 0, .int .i64 0, .int .i64 0, .int .u32 0] 35 (0, 0))) := (hk.block _ (by omega) (fun h => h)).trans V_vS_w14.out
            have V_vX_w16 : Hid (w16.heap[w6.heap.size]? = some (.cells #[.int .i64 kd, .slice (some ⟨gX, 0, none⟩) n n, .slice (some ⟨kX, 0, none⟩) m m, .int .u32 (td : Int), .int .i64 ph, .int .i64 pr, .int .i64 hd, .int .u32 (sn : Int)] 35 (0, 0))) := (hk.block _ (by omega) (fun h => h)).trans V_vX_w14.out
            have V_uX_w16 : Hid (w16.heap[w8.heap.size]? = some (.cells #[.int .i64 rk, .slice (some ⟨qX, 0, none⟩) o o] 39 (0, 0))) := (hk.block _ (by omega) (fun h => h)).trans V_uX_w14.out
            have V_vI_w16 : Hid (w16.heap[w10.heap.size]? = some (.cells #[.int .i64 K, .slice AI N cI, .slice BI N dI, .int .u32 (T : Int), .int .i64 0, .int .i64 0, .int .i64 0, .int .u32 0] 35 (0, 0))) := (hk.block _ (by omega) (fun h => h)).trans V_vI_w14.out
            have O_VS_w16 : Hid (OwnK 3 .i64 w16 w3.heap.size AS N cS V) := O_VS_w14.out.kp hk (fun g hg h => h)
            have O_GS_w16 : Hid (OwnK 3 .i64 w16 w3.heap.size BS N dS G) := O_GS_w14.out.kp hk (fun g hg h => h)
            have O_VX_w16 : Hid (OwnK 3 .i64 w16 w5.heap.size (some ⟨gX, 0, none⟩) n n vs) := O_VX_w14.out.kp hk (fun g hg h => h)
            have O_GX_w16 : Hid (OwnK 3 .i64 w16 (gX + 1) (some ⟨kX, 0, none⟩) m m gs) := O_GX_w14.out.kp hk (fun g hg h => h)
            have O_QX_w16 : Hid (OwnK 3 .i64 w16 w7.heap.size (some ⟨qX, 0, none⟩) o o us) := O_QX_w14.out.kp hk (fun g hg h => h)
            have O_VI_w16 : Hid (OwnK 3 .i64 w16 w9.heap.size AI N cI V) := O_VI_w14.out.kp hk (fun g hg h => h)
            have O_GI_w16 : Hid (OwnK 3 .i64 w16 w9.heap.size BI N dI G) := O_GI_w14.out.kp hk (fun g hg h => h)
            have Bw16 : Hid (Below w.heap.size w w16) := Bw14.out.trans (hb.mono Bw14.out.size)
            clear V_arg_w14 V_rarg_w14 V_vS_w14 V_vX_w14 V_uX_w14 V_vI_w14 O_VS_w14 O_GS_w14 O_VX_w14 O_GX_w14 O_QX_w14 O_VI_w14 O_GI_w14 Bw14
            clear hb hk
            have c_vX0 := blkc V_vX_w16.out 0 rfl
            have c_vX1 := blkc V_vX_w16.out 1 rfl
            have c_vX2 := blkc V_vX_w16.out 2 rfl
            have c_vX3 := blkc V_vX_w16.out 3 rfl
            have c_vX4 := blkc V_vX_w16.out 4 rfl
            have c_vX5 := blkc V_vX_w16.out 5 rfl
            have c_vX6 := blkc V_vX_w16.out 6 rfl
            have c_vX7 := blkc V_vX_w16.out 7 rfl
            have c_uX0 := blkc V_uX_w16.out 0 rfl
            have c_uX1 := blkc V_uX_w16.out 1 rfl
            go_wp2_with fail
            clear c_vX0 c_vX1 c_vX2 c_vX3 c_vX4 c_vX5 c_vX6 c_vX7 c_uX0 c_uX1
            refine (markWarp_any kd _ n _ _ m _ td ph pr hd sn 1 _ _ _ _ _ O_VX_w16.out O_GX_w16.out (fun g h1 h2 => by have q1 := R_VX.out g h1; have q2 := R_GX.out g h2; have q3 : gX = g := (by injection h1); omega) (by omega) (by omega) (by omega) (by omega)).mono ?_
            rintro e w17 ⟨rfl, hv, hg, hk⟩
            have zw17 := hk.size
            have V_arg_w17 : Hid (w17.heap[w.heap.size]? = some (.cells #[.int .i64 kd, .slice A n c, .slice B m d, .int .u32 (td : Int), .int .i64 ph, .int .i64 pr, .int .i64 hd, .int .u32 (sn : Int)] 30 (0, 0))) := (hk.block _ (by omega) (fun h => by rcases h with h | h <;> ((try have q0 := R_VX.out _ h.symm); (try have q1 := R_GX.out _ h.symm); omega))).trans V_arg_w16.out
            have V_rarg_w17 : Hid (w17.heap[(w.heap.size + 1)]? = some (.cells #[.int .i64 rk, .slice D o f] 32 (0, 0))) := (hk.block _ (by omega) (fun h => by rcases h with h | h <;> ((try have q0 := R_VX.out _ h.symm); (try have q1 := R_GX.out _ h.symm); omega))).trans V_rarg_w16.out
            have V_vS_w17 : Hid (w17.heap[bS]? = some (.cells #[.int .i64 K, .slice AS N cS, .slice BS N dS, .int .u32 (T : Int), .int .i64 0, .int .i64 0, .int .i64 0, .int .u32 0] 35 (0, 0))) := (hk.block _ (by omega) (fun h => by rcases h with h | h <;> ((try have q0 := R_VX.out _ h.symm); (try have q1 := R_GX.out _ h.symm); omega))).trans V_vS_w16.out
            have V_vX_w17 : Hid (w17.heap[w6.heap.size]? = some (.cells #[.int .i64 kd, .slice (some ⟨gX, 0, none⟩) n n, .slice (some ⟨kX, 0, none⟩) m m, .int .u32 (td : Int), .int .i64 ph, .int .i64 pr, .int .i64 hd, .int .u32 (sn : Int)] 35 (0, 0))) := (hk.block _ (by omega) (fun h => by rcases h with h | h <;> ((try have q0 := R_VX.out _ h.symm); (try have q1 := R_GX.out _ h.symm); omega))).trans V_vX_w16.out
            have V_uX_w17 : Hid (w17.heap[w8.heap.size]? = some (.cells #[.int .i64 rk, .slice (some ⟨qX, 0, none⟩) o o] 39 (0, 0))) := (hk.block _ (by omega) (fun h => by rcases h with h | h <;> ((try have q0 := R_VX.out _ h.symm); (try have q1 := R_GX.out _ h.symm); omega))).trans V_uX_w16.out
            have V_vI_w17 : Hid (w17.heap[w10.heap.size]? = some (.cells #[.int .i64 K, .slice AI N cI, .slice BI N dI, .int .u32 (T : Int), .int .i64 0, .int .i64 0, .int .i64 0, .int .u32 0] 35 (0, 0))) := (hk.block _ (by omega) (fun h => by rcases h with h | h <;> ((try have q0 := R_VX.out _ h.symm); (try have q1 := R_GX.out _ h.symm); omega))).trans V_vI_w16.out
            have O_VS_w17 : Hid (OwnK 3 .i64 w17 w3.heap.size AS N cS V) := O_VS_w16.out.kp hk (fun g hg h => by have q := R_VS.out g hg; rcases h with h | h <;> ((try have q0 := R_VX.out _ h.symm); (try have q1 := R_GX.out _ h.symm); omega))
            have O_GS_w17 : Hid (OwnK 3 .i64 w17 w3.heap.size BS N dS G) := O_GS_w16.out.kp hk (fun g hg h => by have q := R_GS.out g hg; rcases h with h | h <;> ((try have q0 := R_VX.out _ h.symm); (try have q1 := R_GX.out _ h.symm); omega))
            have O_QX_w17 : Hid (OwnK 3 .i64 w17 w7.heap.size (some ⟨qX, 0, none⟩) o o us) := O_QX_w16.out.kp hk (fun g hg h => by have q := R_QX.out g hg; rcases h with h | h <;> ((try have q0 := R_VX.out _ h.symm); (try have q1 := R_GX.out _ h.symm); omega))
            have O_VI_w17 : Hid (OwnK 3 .i64 w17 w9.heap.size AI N cI V) := O_VI_w16.out.kp hk (fun g hg h => by have q := R_VI.out g hg; rcases h with h | h <;> ((try have q0 := R_VX.out _ h.symm); (try have q1 := R_GX.out _ h.symm); omega))
            have O_GI_w17 : Hid (OwnK 3 .i64 w17 w9.heap.size BI N dI G) := O_GI_w16.out.kp hk (fun g hg h => by have q := R_GI.out g hg; rcases h with h | h <;> ((try have q0 := R_VX.out _ h.symm); (try have q1 := R_GX.out _ h.symm); omega))
            have Bw17 : Hid (Below w.heap.size w w17) := Kp.bel hk Bw16.out Bw16.out.size (fun k h => by rcases h with h | h <;> ((try have q0 := R_VX.out _ h.symm); (try have q1 := R_GX.out _ h.symm); omega))
            clear V_arg_w16 V_rarg_w16 V_vS_w16 V_vX_w16 V_uX_w16 V_vI_w16 O_VS_w16 O_GS_w16 O_VX_w16 O_GX_w16 O_QX_w16 O_VI_w16 O_GI_w16 Bw16
            have O_VX_w17 : Hid (OwnK 3 .i64 w17 w5.heap.size (some ⟨gX, 0, none⟩) n n (marksF 1 n)) := hv
            have O_GX_w17 : Hid (OwnK 3 .i64 w17 (gX + 1) (some ⟨kX, 0, none⟩) m m (marksF (1 + (n : Nat)) m)) := hg
            clear hk hv hg
            have c_uX0 := blkc V_uX_w17.out 0 rfl
            have c_uX1 := blkc V_uX_w17.out 1 rfl
            have c_vI0 := blkc V_vI_w17.out 0 rfl
            have c_vI1 := blkc V_vI_w17.out 1 rfl
            have c_vI2 := blkc V_vI_w17.out 2 rfl
            have c_vI3 := blkc V_vI_w17.out 3 rfl
            have c_vI4 := blkc V_vI_w17.out 4 rfl
            have c_vI5 := blkc V_vI_w17.out 5 rfl
            have c_vI6 := blkc V_vI_w17.out 6 rfl
            have c_vI7 := blkc V_vI_w17.out 7 rfl
            have c_vS0 := blkc V_vS_w17.out 0 rfl
            have c_vS1 := blkc V_vS_w17.out 1 rfl
            have c_vS2 := blkc V_vS_w17.out 2 rfl
            have c_vS3 := blkc V_vS_w17.out 3 rfl
            have c_vS4 := blkc V_vS_w17.out 4 rfl
            have c_vS5 := blkc V_vS_w17.out 5 rfl
            have c_vS6 := blkc V_vS_w17.out 6 rfl
            have c_vS7 := blkc V_vS_w17.out 7 rfl
            go_wp2_with fail
            clear c_uX0 c_uX1 c_vI0 c_vI1 c_vI2 c_vI3 c_vI4 c_vI5 c_vI6 c_vI7 c_vS0 c_vS1 c_vS2 c_vS3 c_vS4 c_vS5 c_vS6 c_vS7
            refine (markReq_any rk _ o _ _ (1 + n + m) _ _ O_QX_w17.out (by omega) (by omega) (by omega)).mono ?_
            rintro e w18 ⟨rfl, hv, hk⟩
            have zw18 := hk.size
            have V_arg_w18 : Hid (w18.heap[w.heap.size]? = some (.cells #[.int .i64 kd, .slice A n c, .slice B m d, .int .u32 (td : Int), .int .i64 ph, .int .i64 pr, .int .i64 hd, .int .u32 (sn : Int)] 30 (0, 0))) := (hk.block _ (by omega) (fun h => by rcases h with h | h <;> ((try have q0 := R_QX.out _ h.symm); omega))).trans V_arg_w17.out
            have V_rarg_w18 : Hid (w18.heap[(w.heap.size + 1)]? = some (.cells #[.int .i64 rk, .slice D o f] 32 (0, 0))) := (hk.block _ (by omega) (fun h => by rcases h with h | h <;> ((try have q0 := R_QX.out _ h.symm); omega))).trans V_rarg_w17.out
            have V_vS_w18 : Hid (w18.heap[bS]? = some (.cells #[.int .i64 K, .slice AS N cS, .slice BS N dS, .int .u32 (T : Int), .int .i64 0, .int .i64 0, .int .i64 0, .int .u32 0] 35 (0, 0))) := (hk.block _ (by omega) (fun h => by rcases h with h | h <;> ((try have q0 := R_QX.out _ h.symm); omega))).trans V_vS_w17.out
            have V_vX_w18 : Hid (w18.heap[w6.heap.size]? = some (.cells #[.int .i64 kd, .slice (some ⟨gX, 0, none⟩) n n, .slice (some ⟨kX, 0, none⟩) m m, .int .u32 (td : Int), .int .i64 ph, .int .i64 pr, .int .i64 hd, .int .u32 (sn : Int)] 35 (0, 0))) := (hk.block _ (by omega) (fun h => by rcases h with h | h <;> ((try have q0 := R_QX.out _ h.symm); omega))).trans V_vX_w17.out
            have V_uX_w18 : Hid (w18.heap[w8.heap.size]? = some (.cells #[.int .i64 rk, .slice (some ⟨qX, 0, none⟩) o o] 39 (0, 0))) := (hk.block _ (by omega) (fun h => by rcases h with h | h <;> ((try have q0 := R_QX.out _ h.symm); omega))).trans V_uX_w17.out
            have V_vI_w18 : Hid (w18.heap[w10.heap.size]? = some (.cells #[.int .i64 K, .slice AI N cI, .slice BI N dI, .int .u32 (T : Int), .int .i64 0, .int .i64 0, .int .i64 0, .int .u32 0] 35 (0, 0))) := (hk.block _ (by omega) (fun h => by rcases h with h | h <;> ((try have q0 := R_QX.out _ h.symm); omega))).trans V_vI_w17.out
            have O_VS_w18 : Hid (OwnK 3 .i64 w18 w3.heap.size AS N cS V) := O_VS_w17.out.kp hk (fun g hg h => by have q := R_VS.out g hg; rcases h with h | h <;> ((try have q0 := R_QX.out _ h.symm); omega))
            have O_GS_w18 : Hid (OwnK 3 .i64 w18 w3.heap.size BS N dS G) := O_GS_w17.out.kp hk (fun g hg h => by have q := R_GS.out g hg; rcases h with h | h <;> ((try have q0 := R_QX.out _ h.symm); omega))
            have O_VX_w18 : Hid (OwnK 3 .i64 w18 w5.heap.size (some ⟨gX, 0, none⟩) n n (marksF 1 n)) := O_VX_w17.out.kp hk (fun g hg h => by have q := R_VX.out g hg; rcases h with h | h <;> ((try have q0 := R_QX.out _ h.symm); omega))
            have O_GX_w18 : Hid (OwnK 3 .i64 w18 (gX + 1) (some ⟨kX, 0, none⟩) m m (marksF (1 + (n : Nat)) m)) := O_GX_w17.out.kp hk (fun g hg h => by have q := R_GX.out g hg; rcases h with h | h <;> ((try have q0 := R_QX.out _ h.symm); omega))
            have O_VI_w18 : Hid (OwnK 3 .i64 w18 w9.heap.size AI N cI V) := O_VI_w17.out.kp hk (fun g hg h => by have q := R_VI.out g hg; rcases h with h | h <;> ((try have q0 := R_QX.out _ h.symm); omega))
            have O_GI_w18 : Hid (OwnK 3 .i64 w18 w9.heap.size BI N dI G) := O_GI_w17.out.kp hk (fun g hg h => by have q := R_GI.out g hg; rcases h with h | h <;> ((try have q0 := R_QX.out _ h.symm); omega))
            have Bw18 : Hid (Below w.heap.size w w18) := Kp.bel hk Bw17.out Bw17.out.size (fun k h => by rcases h with h | h <;> ((try have q0 := R_QX.out _ h.symm); omega))
            clear V_arg_w17 V_rarg_w17 V_vS_w17 V_vX_w17 V_uX_w17 V_vI_w17 O_VS_w17 O_GS_w17 O_VX_w17 O_GX_w17 O_QX_w17 O_VI_w17 O_GI_w17 Bw17
            have O_QX_w18 : Hid (OwnK 3 .i64 w18 w7.heap.size (some ⟨qX, 0, none⟩) o o (marksF (1 + n + m) o)) := hv
            clear hk hv
            clear O_VX_w18
            clear O_GX_w18
            clear O_QX_w18
            clear V_vX_w18
            clear V_uX_w18
            have c_vI0 := blkc V_vI_w18.out 0 rfl
            have c_vI1 := blkc V_vI_w18.out 1 rfl
            have c_vI2 := blkc V_vI_w18.out 2 rfl
            have c_vI3 := blkc V_vI_w18.out 3 rfl
            have c_vI4 := blkc V_vI_w18.out 4 rfl
            have c_vI5 := blkc V_vI_w18.out 5 rfl
            have c_vI6 := blkc V_vI_w18.out 6 rfl
            have c_vI7 := blkc V_vI_w18.out 7 rfl
            have c_vS0 := blkc V_vS_w18.out 0 rfl
            have c_vS1 := blkc V_vS_w18.out 1 rfl
            have c_vS2 := blkc V_vS_w18.out 2 rfl
            have c_vS3 := blkc V_vS_w18.out 3 rfl
            have c_vS4 := blkc V_vS_w18.out 4 rfl
            have c_vS5 := blkc V_vS_w18.out 5 rfl
            have c_vS6 := blkc V_vS_w18.out 6 rfl
            have c_vS7 := blkc V_vS_w18.out 7 rfl
            go_wp2_with fail
            clear c_vI0 c_vI1 c_vI2 c_vI3 c_vI4 c_vI5 c_vI6 c_vI7 c_vS0 c_vS1 c_vS2 c_vS3 c_vS4 c_vS5 c_vS6 c_vS7
            refine (eqWarp_any K _ _ N _ _ _ _ N _ _ T 0 0 0 0 _ _ _ _ _ _ _ O_VI_w18.out.rd O_VS_w18.out.rd O_GI_w18.out.rd O_GS_w18.out.rd (Nat.le_refl _) (Nat.le_refl _) (Nat.le_refl _) (Nat.le_refl _) hN hN).mono ?_
            rintro e w19 ⟨rfl, hb⟩
            have zw19 := hb.size
            have hk : Kp (fun _ => False) w18 w19 := Kp.of_below hb
            have V_arg_w19 : Hid (w19.heap[w.heap.size]? = some (.cells #[.int .i64 kd, .slice A n c, .slice B m d, .int .u32 (td : Int), .int .i64 ph, .int .i64 pr, .int .i64 hd, .int .u32 (sn : Int)] 30 (0, 0))) := (hk.block _ (by omega) (fun h => h)).trans V_arg_w18.out
            have V_rarg_w19 : Hid (w19.heap[(w.heap.size + 1)]? = some (.cells #[.int .i64 rk, .slice D o f] 32 (0, 0))) := (hk.block _ (by omega) (fun h => h)).trans V_rarg_w18.out
            have V_vS_w19 : Hid (w19.heap[bS]? = some (.cells #[.int .i64 K, .slice AS N cS, .slice BS N dS, .int .u32 (T : Int), .int .i64 0, .int .i64 0, .int .i64 0, .int .u32 0] 35 (0, 0))) := (hk.block _ (by omega) (fun h => h)).trans V_vS_w18.out
            have V_vI_w19 : Hid (w19.heap[w10.heap.size]? = some (.cells #[.int .i64 K, .slice AI N cI, .slice BI N dI, .int .u32 (T : Int), .int .i64 0, .int .i64 0, .int .i64 0, .int .u32 0] 35 (0, 0))) := (hk.block _ (by omega) (fun h => h)).trans V_vI_w18.out
            have O_VS_w19 : Hid (OwnK 3 .i64 w19 w3.heap.size AS N cS V) := O_VS_w18.out.kp hk (fun g hg h => h)
            have O_GS_w19 : Hid (OwnK 3 .i64 w19 w3.heap.size BS N dS G) := O_GS_w18.out.kp hk (fun g hg h => h)
            have O_VI_w19 : Hid (OwnK 3 .i64 w19 w9.heap.size AI N cI V) := O_VI_w18.out.kp hk (fun g hg h => h)
            have O_GI_w19 : Hid (OwnK 3 .i64 w19 w9.heap.size BI N dI G) := O_GI_w18.out.kp hk (fun g hg h => h)
            have Bw19 : Hid (Below w.heap.size w w19) := Bw18.out.trans (hb.mono Bw18.out.size)
            clear V_arg_w18 V_rarg_w18 V_vS_w18 V_vI_w18 O_VS_w18 O_GS_w18 O_VI_w18 O_GI_w18 Bw18
            clear hb hk
            have c_vI0 := blkc V_vI_w19.out 0 rfl
            have c_vI1 := blkc V_vI_w19.out 1 rfl
            have c_vI2 := blkc V_vI_w19.out 2 rfl
            have c_vI3 := blkc V_vI_w19.out 3 rfl
            have c_vI4 := blkc V_vI_w19.out 4 rfl
            have c_vI5 := blkc V_vI_w19.out 5 rfl
            have c_vI6 := blkc V_vI_w19.out 6 rfl
            have c_vI7 := blkc V_vI_w19.out 7 rfl
            have c_vS0 := blkc V_vS_w19.out 0 rfl
            have c_vS1 := blkc V_vS_w19.out 1 rfl
            have c_vS2 := blkc V_vS_w19.out 2 rfl
            have c_vS3 := blkc V_vS_w19.out 3 rfl
            have c_vS4 := blkc V_vS_w19.out 4 rfl
            have c_vS5 := blkc V_vS_w19.out 5 rfl
            have c_vS6 := blkc V_vS_w19.out 6 rfl
            have c_vS7 := blkc V_vS_w19.out 7 rfl
            go_wp2_with fail
            clear c_vI0 c_vI1 c_vI2 c_vI3 c_vI4 c_vI5 c_vI6 c_vI7 c_vS0 c_vS1 c_vS2 c_vS3 c_vS4 c_vS5 c_vS6 c_vS7
            refine (markWarp_any K _ N _ _ N _ T 0 0 0 0 1 _ _ _ _ _ O_VI_w19.out O_GI_w19.out HD.out (by omega) (by omega) (by omega) (by omega)).mono ?_
            rintro e w20 ⟨rfl, hv, hg, hk⟩
            have zw20 := hk.size
            have V_arg_w20 : Hid (w20.heap[w.heap.size]? = some (.cells #[.int .i64 kd, .slice A n c, .slice B m d, .int .u32 (td : Int), .int .i64 ph, .int .i64 pr, .int .i64 hd, .int .u32 (sn : Int)] 30 (0, 0))) := (hk.block _ (by omega) (fun h => by rcases h with h | h <;> ((try have q0 := R_VI.out _ h.symm); (try have q1 := R_GI.out _ h.symm); omega))).trans V_arg_w19.out
            have V_rarg_w20 : Hid (w20.heap[(w.heap.size + 1)]? = some (.cells #[.int .i64 rk, .slice D o f] 32 (0, 0))) := (hk.block _ (by omega) (fun h => by rcases h with h | h <;> ((try have q0 := R_VI.out _ h.symm); (try have q1 := R_GI.out _ h.symm); omega))).trans V_rarg_w19.out
            have V_vS_w20 : Hid (w20.heap[bS]? = some (.cells #[.int .i64 K, .slice AS N cS, .slice BS N dS, .int .u32 (T : Int), .int .i64 0, .int .i64 0, .int .i64 0, .int .u32 0] 35 (0, 0))) := (hk.block _ (by omega) (fun h => by rcases h with h | h <;> ((try have q0 := R_VI.out _ h.symm); (try have q1 := R_GI.out _ h.symm); omega))).trans V_vS_w19.out
            have V_vI_w20 : Hid (w20.heap[w10.heap.size]? = some (.cells #[.int .i64 K, .slice AI N cI, .slice BI N dI, .int .u32 (T : Int), .int .i64 0, .int .i64 0, .int .i64 0, .int .u32 0] 35 (0, 0))) := (hk.block _ (by omega) (fun h => by rcases h with h | h <;> ((try have q0 := R_VI.out _ h.symm); (try have q1 := R_GI.out _ h.symm); omega))).trans V_vI_w19.out
            have O_VS_w20 : Hid (OwnK 3 .i64 w20 w3.heap.size AS N cS V) := O_VS_w19.out.kp hk (fun g hg h => by have q := R_VS.out g hg; rcases h with h | h <;> ((try have q0 := R_VI.out _ h.symm); (try have q1 := R_GI.out _ h.symm); omega))
            have O_GS_w20 : Hid (OwnK 3 .i64 w20 w3.heap.size BS N dS G) := O_GS_w19.out.kp hk (fun g hg h => by have q := R_GS.out g hg; rcases h with h | h <;> ((try have q0 := R_VI.out _ h.symm); (try have q1 := R_GI.out _ h.symm); omega))
            have Bw20 : Hid (Below w.heap.size w w20) := Kp.bel hk Bw19.out Bw19.out.size (fun k h => by rcases h with h | h <;> ((try have q0 := R_VI.out _ h.symm); (try have q1 := R_GI.out _ h.symm); omega))
            clear V_arg_w19 V_rarg_w19 V_vS_w19 V_vI_w19 O_VS_w19 O_GS_w19 O_VI_w19 O_GI_w19 Bw19
            have O_VI_w20 : Hid (OwnK 3 .i64 w20 w9.heap.size AI N cI (marksF 1 N)) := hv
            have O_GI_w20 : Hid (OwnK 3 .i64 w20 w9.heap.size BI N dI (marksF (1 + (N : Nat)) N)) := hg
            clear hk hv hg
            have c_vI0 := blkc V_vI_w20.out 0 rfl
            have c_vI1 := blkc V_vI_w20.out 1 rfl
            have c_vI2 := blkc V_vI_w20.out 2 rfl
            have c_vI3 := blkc V_vI_w20.out 3 rfl
            have c_vI4 := blkc V_vI_w20.out 4 rfl
            have c_vI5 := blkc V_vI_w20.out 5 rfl
            have c_vI6 := blkc V_vI_w20.out 6 rfl
            have c_vI7 := blkc V_vI_w20.out 7 rfl
            go_wp2_with fail
            clear c_vI0 c_vI1 c_vI2 c_vI3 c_vI4 c_vI5 c_vI6 c_vI7
            refine (heldWarp_any K _ N _ _ N _ T 0 0 0 0 1 _ _ _ O_VI_w20.out.rd O_GI_w20.out.rd (Nat.le_refl _) (Nat.le_refl _) (by omega) (by omega) (by omega) (by omega)).mono ?_
            rintro e w21 ⟨rfl, hb⟩
            have zw21 := hb.size
            have hk : Kp (fun _ => False) w20 w21 := Kp.of_below hb
            have V_arg_w21 : Hid (w21.heap[w.heap.size]? = some (.cells #[.int .i64 kd, .slice A n c, .slice B m d, .int .u32 (td : Int), .int .i64 ph, .int .i64 pr, .int .i64 hd, .int .u32 (sn : Int)] 30 (0, 0))) := (hk.block _ (by omega) (fun h => h)).trans V_arg_w20.out
            have V_rarg_w21 : Hid (w21.heap[(w.heap.size + 1)]? = some (.cells #[.int .i64 rk, .slice D o f] 32 (0, 0))) := (hk.block _ (by omega) (fun h => h)).trans V_rarg_w20.out
            have V_vS_w21 : Hid (w21.heap[bS]? = some (.cells #[.int .i64 K, .slice AS N cS, .slice BS N dS, .int .u32 (T : Int), .int .i64 0, .int .i64 0, .int .i64 0, .int .u32 0] 35 (0, 0))) := (hk.block _ (by omega) (fun h => h)).trans V_vS_w20.out
            have V_vI_w21 : Hid (w21.heap[w10.heap.size]? = some (.cells #[.int .i64 K, .slice AI N cI, .slice BI N dI, .int .u32 (T : Int), .int .i64 0, .int .i64 0, .int .i64 0, .int .u32 0] 35 (0, 0))) := (hk.block _ (by omega) (fun h => h)).trans V_vI_w20.out
            have O_VS_w21 : Hid (OwnK 3 .i64 w21 w3.heap.size AS N cS V) := O_VS_w20.out.kp hk (fun g hg h => h)
            have O_GS_w21 : Hid (OwnK 3 .i64 w21 w3.heap.size BS N dS G) := O_GS_w20.out.kp hk (fun g hg h => h)
            have O_VI_w21 : Hid (OwnK 3 .i64 w21 w9.heap.size AI N cI (marksF 1 N)) := O_VI_w20.out.kp hk (fun g hg h => h)
            have O_GI_w21 : Hid (OwnK 3 .i64 w21 w9.heap.size BI N dI (marksF (1 + (N : Nat)) N)) := O_GI_w20.out.kp hk (fun g hg h => h)
            have Bw21 : Hid (Below w.heap.size w w21) := Bw20.out.trans (hb.mono Bw20.out.size)
            clear V_arg_w20 V_rarg_w20 V_vS_w20 V_vI_w20 O_VS_w20 O_GS_w20 O_VI_w20 O_GI_w20 Bw20
            clear hb hk
            go_wp2_with fail
            have x0r22 : w21.cell? ⟨w.heap.size, 0, none⟩ = some (.int .i64 kd) ∧ w21.cell? ⟨w.heap.size, 1, none⟩ = some (.slice A n c) ∧ w21.cell? ⟨w.heap.size, 2, none⟩ = some (.slice B m d) ∧ w21.cell? ⟨w.heap.size, 3, none⟩ = some (.int .u32 (td : Int)) ∧ w21.cell? ⟨w.heap.size, 4, none⟩ = some (.int .i64 ph) ∧ w21.cell? ⟨w.heap.size, 5, none⟩ = some (.int .i64 pr) ∧ w21.cell? ⟨w.heap.size, 6, none⟩ = some (.int .i64 hd) ∧ w21.cell? ⟨w.heap.size, 7, none⟩ = some (.int .u32 (sn : Int)) ∧ w21.cell? ⟨(w.heap.size + 1), 0, none⟩ = some (.int .i64 rk) ∧ w21.cell? ⟨(w.heap.size + 1), 1, none⟩ = some (.slice D o f) := ⟨blkc V_arg_w21.out 0 rfl, blkc V_arg_w21.out 1 rfl, blkc V_arg_w21.out 2 rfl, blkc V_arg_w21.out 3 rfl, blkc V_arg_w21.out 4 rfl, blkc V_arg_w21.out 5 rfl, blkc V_arg_w21.out 6 rfl, blkc V_arg_w21.out 7 rfl, blkc V_rarg_w21.out 0 rfl, blkc V_rarg_w21.out 1 rfl⟩
            have x0dr22 : w21.drew.cell? ⟨w.heap.size, 0, none⟩ = some (.int .i64 kd) ∧ w21.drew.cell? ⟨w.heap.size, 1, none⟩ = some (.slice A n c) ∧ w21.drew.cell? ⟨w.heap.size, 2, none⟩ = some (.slice B m d) ∧ w21.drew.cell? ⟨w.heap.size, 3, none⟩ = some (.int .u32 (td : Int)) ∧ w21.drew.cell? ⟨w.heap.size, 4, none⟩ = some (.int .i64 ph) ∧ w21.drew.cell? ⟨w.heap.size, 5, none⟩ = some (.int .i64 pr) ∧ w21.drew.cell? ⟨w.heap.size, 6, none⟩ = some (.int .i64 hd) ∧ w21.drew.cell? ⟨w.heap.size, 7, none⟩ = some (.int .u32 (sn : Int)) ∧ w21.drew.cell? ⟨(w.heap.size + 1), 0, none⟩ = some (.int .i64 rk) ∧ w21.drew.cell? ⟨(w.heap.size + 1), 1, none⟩ = some (.slice D o f) := x0r22
            have D0r22 : Hid (Below w21.heap.size w21 w21.drew) := (Below.refl _ _).drew
            have xSr22 : Hid (∀ w', Below w21.heap.size w21 w' → w'.cell? ⟨w.heap.size, 0, none⟩ = some (.int .i64 kd) ∧ w'.cell? ⟨w.heap.size, 1, none⟩ = some (.slice A n c) ∧ w'.cell? ⟨w.heap.size, 2, none⟩ = some (.slice B m d) ∧ w'.cell? ⟨w.heap.size, 3, none⟩ = some (.int .u32 (td : Int)) ∧ w'.cell? ⟨w.heap.size, 4, none⟩ = some (.int .i64 ph) ∧ w'.cell? ⟨w.heap.size, 5, none⟩ = some (.int .i64 pr) ∧ w'.cell? ⟨w.heap.size, 6, none⟩ = some (.int .i64 hd) ∧ w'.cell? ⟨w.heap.size, 7, none⟩ = some (.int .u32 (sn : Int)) ∧ w'.cell? ⟨(w.heap.size + 1), 0, none⟩ = some (.int .i64 rk) ∧ w'.cell? ⟨(w.heap.size + 1), 1, none⟩ = some (.slice D o f)) := fun w' hb => ⟨later_at0 hb x0r22.1, later_at0 hb x0r22.2.1, later_at0 hb x0r22.2.2.1, later_at0 hb x0r22.2.2.2.1, later_at0 hb x0r22.2.2.2.2.1, later_at0 hb x0r22.2.2.2.2.2.1, later_at0 hb x0r22.2.2.2.2.2.2.1, later_at0 hb x0r22.2.2.2.2.2.2.2.1, later_at0 hb x0r22.2.2.2.2.2.2.2.2.1, later_at0 hb x0r22.2.2.2.2.2.2.2.2.2⟩
            go_cut [15, 16] (fun s0 s1 wx => ∃ (bb : Nat) (Aa : Option Addr) (ca : Nat) (Ba : Option Addr) (da : Nat), s0 = .pointer (some ⟨bb, 0, none⟩) ∧ s1 = .bool r ∧ Hid (wx.heap[bb]? = some (.cells #[.int .i64 K, .slice Aa N ca, .slice Ba N da, .int .u32 (T : Int), .int .i64 0, .int .i64 0, .int .i64 0, .int .u32 0] 35 (0, 0))) ∧ w21.heap.size ≤ bb ∧ bb < wx.heap.size ∧ Hid (OwnK 3 .i64 wx w21.heap.size Aa N ca V) ∧ Hid (OwnK 3 .i64 wx w21.heap.size Ba N da G) ∧ Hid (∀ g, (Value.slice Aa N ca).ownBlock = some g → (Value.slice Ba N da).ownBlock ≠ some g) ∧ Hid (Below w21.heap.size w21 wx))
            case first =>
              have D1r22 : Hid (Below w21.heap.size w21 (w21.alloc (.cells #[.int .i64 0, .slice none 0 0, .slice none 0 0, .int .u32 0, .int .i64 0, .int .i64 0, .int .i64 0, .int .u32 0] 35)).drew) := (bel1 _ _).drew
              have CT : Hid (∀ W', Below w21.heap.size w21 W' → Calls Try.prog 16 #[.agg #[.int .i64 kd, .slice A n c, .slice B m d, .int .u32 (td : Int), .int .i64 ph, .int .i64 pr, .int .i64 hd, .int .u32 (sn : Int)]] W' fun e w' => ∃ g k, e = .returned (.agg #[.int .i64 kd, .slice (some ⟨g, 0, none⟩) n n, .slice (some ⟨k, 0, none⟩) m m, .int .u32 (td : Int), .int .i64 ph, .int .i64 pr, .int .i64 hd, .int .u32 (sn : Int)]) ∧ Hid (RdK .i64 w' w'.heap.size (some ⟨g, 0, none⟩) n vs) ∧ Hid (RdK .i64 w' w'.heap.size (some ⟨k, 0, none⟩) m gs) ∧ Hid (Below W'.heap.size W' w') ∧ Hid (Below w21.heap.size w21 w')) := fun W' hb => (HT.out W' (Bw21.out.trans (hb.mono Bw21.out.size))).mono fun e w' ⟨g, k, he, ho, ho2, hb2⟩ => ⟨g, k, he, ho.rd, ho2.rd, hb2, hb.trans (hb2.mono hb.size)⟩
              have CR : Hid (∀ W', Below w21.heap.size w21 W' → Calls Try.prog 17 #[.agg #[.int .i64 rk, .slice D o f]] W' fun e w' => ∃ g, e = .returned (.agg #[.int .i64 rk, .slice (some ⟨g, 0, none⟩) o o]) ∧ Hid (RdK .i64 w' w'.heap.size (some ⟨g, 0, none⟩) o us) ∧ Hid (Below W'.heap.size W' w') ∧ Hid (Below w21.heap.size w21 w')) := fun W' hb => (HTr.out W' (Bw21.out.trans (hb.mono Bw21.out.size))).mono fun e w' ⟨g, he, ho, hb2⟩ => ⟨g, he, ho.rd, hb2, hb.trans (hb2.mono hb.size)⟩
              have CS : Hid (∀ W' g k q, Below w21.heap.size w21 W' → RdK .i64 W' W'.heap.size (some ⟨g, 0, none⟩) n vs → RdK .i64 W' W'.heap.size (some ⟨k, 0, none⟩) m gs → RdK .i64 W' W'.heap.size (some ⟨q, 0, none⟩) o us → Calls Try.prog 18 #[.agg #[.int .i64 kd, .slice (some ⟨g, 0, none⟩) n n, .slice (some ⟨k, 0, none⟩) m m, .int .u32 (td : Int), .int .i64 ph, .int .i64 pr, .int .i64 hd, .int .u32 (sn : Int)], .agg #[.int .i64 rk, .slice (some ⟨q, 0, none⟩) o o]] W' fun e w' => ∃ A' c' B' d', e = .returned (.tuple #[.agg #[.int .i64 K, .slice A' N c', .slice B' N d', .int .u32 (T : Int), .int .i64 0, .int .i64 0, .int .i64 0, .int .u32 0], .bool r]) ∧ Hid (OwnK 3 .i64 w' W'.heap.size A' N c' V) ∧ Hid (OwnK 3 .i64 w' W'.heap.size B' N d' G) ∧ Hid (∀ g, (Value.slice A' N c').ownBlock = some g → (Value.slice B' N d').ownBlock ≠ some g) ∧ Hid (Below W'.heap.size W' w') ∧ Hid (Below w21.heap.size w21 w')) := fun W' g k q hb h1 h2 h3 => (HI.out W' g k q h1 h2 h3).mono fun e w' ⟨A', c', B', d', he, ho, ho2, hd, hb2⟩ => ⟨A', c', B', d', he, ho, ho2, hd, hb2, hb.trans (hb2.mono hb.size)⟩
              go_region_held3 (fun w' => w'.cell? ⟨w.heap.size, 0, none⟩ = some (.int .i64 kd) ∧ w'.cell? ⟨w.heap.size, 1, none⟩ = some (.slice A n c) ∧ w'.cell? ⟨w.heap.size, 2, none⟩ = some (.slice B m d) ∧ w'.cell? ⟨w.heap.size, 3, none⟩ = some (.int .u32 (td : Int)) ∧ w'.cell? ⟨w.heap.size, 4, none⟩ = some (.int .i64 ph) ∧ w'.cell? ⟨w.heap.size, 5, none⟩ = some (.int .i64 pr) ∧ w'.cell? ⟨w.heap.size, 6, none⟩ = some (.int .i64 hd) ∧ w'.cell? ⟨w.heap.size, 7, none⟩ = some (.int .u32 (sn : Int)) ∧ w'.cell? ⟨(w.heap.size + 1), 0, none⟩ = some (.int .i64 rk) ∧ w'.cell? ⟨(w.heap.size + 1), 1, none⟩ = some (.slice D o f))
                (first | (with_reducible exact x0r22) | (with_reducible exact x0dr22) | (with_reducible refine xSr22.out _ ?_; exact (by repeat' (first | (with_reducible exact D0r22.out) | (with_reducible exact D1r22.out) | (with_reducible exact b1.out) | (with_reducible exact b2.out) | (with_reducible exact b3.out) | (with_reducible exact b1.out.size) | (with_reducible exact b2.out.size) | (with_reducible exact b3.out.size) | (with_reducible refine Below.drew ?_) | (with_reducible refine Below.setCell ?_ ?_ _) | (with_reducible refine Below.alloc ?_ ?_ _) | omega | (simp; done) | (simp; omega)))))
                (first | (go_at_call 16; (with_reducible refine (CT.out _ D0r22.out).mono ?_); rintro e u1 ⟨g1, k1, rfl, o1, o2, hb, b1⟩; have zu1 := hb.out.size; (try (have Nn := Lib.hid ((hb.out.block _ (by omega)).trans NN.out); clear NN; have NN := Nn; clear Nn)))
                       | (go_at_call 16; (with_reducible refine (CT.out _ D1r22.out).mono ?_); rintro e u1 ⟨g1, k1, rfl, o1, o2, hb, b1⟩; have zu1 := hb.out.size; (first | have nz := nw1 hb.out | have nz := nw1d hb.out); (have NN := Lib.hid nz.1; have zN := nz.2.2; clear nz))
                       | (go_at_call 17; (with_reducible refine (CR.out _ b1.out).mono ?_); rintro e u2 ⟨q2, rfl, o5, hb, b2⟩; have zu2 := hb.out.size; (try (have Nn := Lib.hid ((hb.out.block _ (by omega)).trans NN.out); clear NN; have NN := Nn; clear Nn)); have o3 := Lib.hid (rdk_next o1.out hb.out); have o4 := Lib.hid (rdk_next o2.out hb.out))
                       | (go_at_call 17; (with_reducible refine (CR.out _ (b1.out.alloc b1.out.size _)).mono ?_); rintro e u2 ⟨q2, rfl, o5, hb, b2⟩; have zu2 := hb.out.size; (first | have nz := nw1 hb.out | have nz := nw1d hb.out); (have NN := Lib.hid nz.1; have zN := nz.2.2; clear nz); have o3 := Lib.hid (rdk_next (rdk_alloc o1.out _) hb.out); have o4 := Lib.hid (rdk_next (rdk_alloc o2.out _) hb.out))
                       | (go_at_call 18; (with_reducible refine (CS.out _ g1 k1 q2 b2.out o3.out o4.out o5.out).mono ?_); rintro e u3 ⟨Aa, ca, Ba, da, rfl, oA, oB, oD, hb, b3⟩; have zu3 := hb.out.size; (try (have Nn := Lib.hid ((hb.out.block _ (by omega)).trans NN.out); clear NN; have NN := Nn; clear Nn)); (try (have r0 := blkc NN.out 0 rfl; have r1 := blkc NN.out 1 rfl; have r2 := blkc NN.out 2 rfl; have r3 := blkc NN.out 3 rfl; have r4 := blkc NN.out 4 rfl; have r5 := blkc NN.out 5 rfl; have r6 := blkc NN.out 6 rfl; have r7 := blkc NN.out 7 rfl; have rf := blkf NN.out)))
                       | (go_at_call 18; (with_reducible refine (CS.out _ g1 k1 q2 (b2.out.alloc b2.out.size _) (rdk_alloc o3.out _) (rdk_alloc o4.out _) (rdk_alloc o5.out _)).mono ?_); rintro e u3 ⟨Aa, ca, Ba, da, rfl, oA, oB, oD, hb, b3⟩; have zu3 := hb.out.size; (first | have nz := nw1 hb.out | have nz := nw1d hb.out); (have NN := Lib.hid nz.1; have zN := nz.2.2; clear nz); (try (have r0 := blkc NN.out 0 rfl; have r1 := blkc NN.out 1 rfl; have r2 := blkc NN.out 2 rfl; have r3 := blkc NN.out 3 rfl; have r4 := blkc NN.out 4 rfl; have r5 := blkc NN.out 5 rfl; have r6 := blkc NN.out 6 rfl; have r7 := blkc NN.out 7 rfl; have rf := blkf NN.out))))
              all_goals (go_wp2_with fail)
              all_goals (try go_meet)
              all_goals (have h1 := b1.out.size; have h2 := b2.out.size; have h3 := b3.out.size)
              all_goals (first | (with_reducible refine sub_new ?_ oA.out oB.out oD.out b3.out) | (with_reducible refine sub_set NN.out ?_ ?_ oA.out oB.out oD.out b3.out))
              all_goals ((try simp only [sz1]); omega)
              all_goals (go_wp2_with fail; go_meet; skip)
            case rest =>
              obtain ⟨bH, AH, cH, BH, dH, rfl, rfl, hV, hb1, hb2, hv, hg, hdis, hb0⟩ := hcut
              generalize wc = w23 at *
              have hb := hb0.out
              clear hb0 x0r22 x0dr22 D0r22 xSr22
              have zw23 := hb.size
              have hk : Kp (fun _ => False) w21 w23 := Kp.of_below hb
              have V_arg_w23 : Hid (w23.heap[w.heap.size]? = some (.cells #[.int .i64 kd, .slice A n c, .slice B m d, .int .u32 (td : Int), .int .i64 ph, .int .i64 pr, .int .i64 hd, .int .u32 (sn : Int)] 30 (0, 0))) := (hk.block _ (by omega) (fun h => h)).trans V_arg_w21.out
              have V_rarg_w23 : Hid (w23.heap[(w.heap.size + 1)]? = some (.cells #[.int .i64 rk, .slice D o f] 32 (0, 0))) := (hk.block _ (by omega) (fun h => h)).trans V_rarg_w21.out
              have V_vS_w23 : Hid (w23.heap[bS]? = some (.cells #[.int .i64 K, .slice AS N cS, .slice BS N dS, .int .u32 (T : Int), .int .i64 0, .int .i64 0, .int .i64 0, .int .u32 0] 35 (0, 0))) := (hk.block _ (by omega) (fun h => h)).trans V_vS_w21.out
              have V_vI_w23 : Hid (w23.heap[w10.heap.size]? = some (.cells #[.int .i64 K, .slice AI N cI, .slice BI N dI, .int .u32 (T : Int), .int .i64 0, .int .i64 0, .int .i64 0, .int .u32 0] 35 (0, 0))) := (hk.block _ (by omega) (fun h => h)).trans V_vI_w21.out
              have O_VS_w23 : Hid (OwnK 3 .i64 w23 w3.heap.size AS N cS V) := O_VS_w21.out.kp hk (fun g hg h => h)
              have O_GS_w23 : Hid (OwnK 3 .i64 w23 w3.heap.size BS N dS G) := O_GS_w21.out.kp hk (fun g hg h => h)
              have O_VI_w23 : Hid (OwnK 3 .i64 w23 w9.heap.size AI N cI (marksF 1 N)) := O_VI_w21.out.kp hk (fun g hg h => h)
              have O_GI_w23 : Hid (OwnK 3 .i64 w23 w9.heap.size BI N dI (marksF (1 + (N : Nat)) N)) := O_GI_w21.out.kp hk (fun g hg h => h)
              have Bw23 : Hid (Below w.heap.size w w23) := Bw21.out.trans (hb.mono Bw21.out.size)
              clear V_arg_w21 V_rarg_w21 V_vS_w21 V_vI_w21 O_VS_w21 O_GS_w21 O_VI_w21 O_GI_w21 Bw21
              have O_VH_w23 : Hid (OwnK 3 .i64 w23 w21.heap.size AH N cH V) := hv
              have R_VH : Hid (∀ g, (Value.slice AH N cH).ownBlock = some g → w21.heap.size ≤ g ∧ g < w23.heap.size) := World.ownsRow.lt hv.out
              have O_GH_w23 : Hid (OwnK 3 .i64 w23 w21.heap.size BH N dH G) := hg
              have R_GH : Hid (∀ g, (Value.slice BH N dH).ownBlock = some g → w21.heap.size ≤ g ∧ g < w23.heap.size) := World.ownsRow.lt hg.out
              clear hb hk hv hg
              have V_vH_w23 : Hid (w23.heap[bH]? = some (.cells #[.int .i64 K, .slice AH N cH, .slice BH N dH, .int .u32 (T : Int), .int .i64 0, .int .i64 0, .int .i64 0, .int .u32 0] 35 (0, 0))) := hV
              clear hV hdis
              have c_vH0 := blkc V_vH_w23.out 0 rfl
              have c_vH1 := blkc V_vH_w23.out 1 rfl
              have c_vH2 := blkc V_vH_w23.out 2 rfl
              have c_vH3 := blkc V_vH_w23.out 3 rfl
              have c_vH4 := blkc V_vH_w23.out 4 rfl
              have c_vH5 := blkc V_vH_w23.out 5 rfl
              have c_vH6 := blkc V_vH_w23.out 6 rfl
              have c_vH7 := blkc V_vH_w23.out 7 rfl
              have c_vS0 := blkc V_vS_w23.out 0 rfl
              have c_vS1 := blkc V_vS_w23.out 1 rfl
              have c_vS2 := blkc V_vS_w23.out 2 rfl
              have c_vS3 := blkc V_vS_w23.out 3 rfl
              have c_vS4 := blkc V_vS_w23.out 4 rfl
              have c_vS5 := blkc V_vS_w23.out 5 rfl
              have c_vS6 := blkc V_vS_w23.out 6 rfl
              have c_vS7 := blkc V_vS_w23.out 7 rfl
              go_wp2_with fail
              clear c_vH0 c_vH1 c_vH2 c_vH3 c_vH4 c_vH5 c_vH6 c_vH7 c_vS0 c_vS1 c_vS2 c_vS3 c_vS4 c_vS5 c_vS6 c_vS7
              refine (eqWarp_any K _ _ N _ _ _ _ N _ _ T 0 0 0 0 _ _ _ _ _ _ _ O_VH_w23.out.rd O_VS_w23.out.rd O_GH_w23.out.rd O_GS_w23.out.rd (Nat.le_refl _) (Nat.le_refl _) (Nat.le_refl _) (Nat.le_refl _) hN hN).mono ?_
              rintro e w24 ⟨rfl, hb⟩
              have zw24 := hb.size
              have hk : Kp (fun _ => False) w23 w24 := Kp.of_below hb
              have V_arg_w24 : Hid (w24.heap[w.heap.size]? = some (.cells #[.int .i64 kd, .slice A n c, .slice B m d, .int .u32 (td : Int), .int .i64 ph, .int .i64 pr, .int .i64 hd, .int .u32 (sn : Int)] 30 (0, 0))) := (hk.block _ (by omega) (fun h => h)).trans V_arg_w23.out
              have V_rarg_w24 : Hid (w24.heap[(w.heap.size + 1)]? = some (.cells #[.int .i64 rk, .slice D o f] 32 (0, 0))) := (hk.block _ (by omega) (fun h => h)).trans V_rarg_w23.out
              have V_vS_w24 : Hid (w24.heap[bS]? = some (.cells #[.int .i64 K, .slice AS N cS, .slice BS N dS, .int .u32 (T : Int), .int .i64 0, .int .i64 0, .int .i64 0, .int .u32 0] 35 (0, 0))) := (hk.block _ (by omega) (fun h => h)).trans V_vS_w23.out
              have V_vI_w24 : Hid (w24.heap[w10.heap.size]? = some (.cells #[.int .i64 K, .slice AI N cI, .slice BI N dI, .int .u32 (T : Int), .int .i64 0, .int .i64 0, .int .i64 0, .int .u32 0] 35 (0, 0))) := (hk.block _ (by omega) (fun h => h)).trans V_vI_w23.out
              have V_vH_w24 : Hid (w24.heap[bH]? = some (.cells #[.int .i64 K, .slice AH N cH, .slice BH N dH, .int .u32 (T : Int), .int .i64 0, .int .i64 0, .int .i64 0, .int .u32 0] 35 (0, 0))) := (hk.block _ (by omega) (fun h => h)).trans V_vH_w23.out
              have O_VS_w24 : Hid (OwnK 3 .i64 w24 w3.heap.size AS N cS V) := O_VS_w23.out.kp hk (fun g hg h => h)
              have O_GS_w24 : Hid (OwnK 3 .i64 w24 w3.heap.size BS N dS G) := O_GS_w23.out.kp hk (fun g hg h => h)
              have O_VI_w24 : Hid (OwnK 3 .i64 w24 w9.heap.size AI N cI (marksF 1 N)) := O_VI_w23.out.kp hk (fun g hg h => h)
              have O_GI_w24 : Hid (OwnK 3 .i64 w24 w9.heap.size BI N dI (marksF (1 + (N : Nat)) N)) := O_GI_w23.out.kp hk (fun g hg h => h)
              have O_VH_w24 : Hid (OwnK 3 .i64 w24 w21.heap.size AH N cH V) := O_VH_w23.out.kp hk (fun g hg h => h)
              have O_GH_w24 : Hid (OwnK 3 .i64 w24 w21.heap.size BH N dH G) := O_GH_w23.out.kp hk (fun g hg h => h)
              have Bw24 : Hid (Below w.heap.size w w24) := Bw23.out.trans (hb.mono Bw23.out.size)
              clear V_arg_w23 V_rarg_w23 V_vS_w23 V_vI_w23 V_vH_w23 O_VS_w23 O_GS_w23 O_VI_w23 O_GI_w23 O_VH_w23 O_GH_w23 Bw23
              clear hb hk
              have c_vI0 := blkc V_vI_w24.out 0 rfl
              have c_vI1 := blkc V_vI_w24.out 1 rfl
              have c_vI2 := blkc V_vI_w24.out 2 rfl
              have c_vI3 := blkc V_vI_w24.out 3 rfl
              have c_vI4 := blkc V_vI_w24.out 4 rfl
              have c_vI5 := blkc V_vI_w24.out 5 rfl
              have c_vI6 := blkc V_vI_w24.out 6 rfl
              have c_vI7 := blkc V_vI_w24.out 7 rfl
              go_wp2_with fail
              clear c_vI0 c_vI1 c_vI2 c_vI3 c_vI4 c_vI5 c_vI6 c_vI7
              refine (heldWarp_any K _ N _ _ N _ T 0 0 0 0 1 _ _ _ O_VI_w24.out.rd O_GI_w24.out.rd (Nat.le_refl _) (Nat.le_refl _) (by omega) (by omega) (by omega) (by omega)).mono ?_
              rintro e w25 ⟨rfl, hb⟩
              have zw25 := hb.size
              have hk : Kp (fun _ => False) w24 w25 := Kp.of_below hb
              have V_arg_w25 : Hid (w25.heap[w.heap.size]? = some (.cells #[.int .i64 kd, .slice A n c, .slice B m d, .int .u32 (td : Int), .int .i64 ph, .int .i64 pr, .int .i64 hd, .int .u32 (sn : Int)] 30 (0, 0))) := (hk.block _ (by omega) (fun h => h)).trans V_arg_w24.out
              have V_rarg_w25 : Hid (w25.heap[(w.heap.size + 1)]? = some (.cells #[.int .i64 rk, .slice D o f] 32 (0, 0))) := (hk.block _ (by omega) (fun h => h)).trans V_rarg_w24.out
              have V_vS_w25 : Hid (w25.heap[bS]? = some (.cells #[.int .i64 K, .slice AS N cS, .slice BS N dS, .int .u32 (T : Int), .int .i64 0, .int .i64 0, .int .i64 0, .int .u32 0] 35 (0, 0))) := (hk.block _ (by omega) (fun h => h)).trans V_vS_w24.out
              have V_vI_w25 : Hid (w25.heap[w10.heap.size]? = some (.cells #[.int .i64 K, .slice AI N cI, .slice BI N dI, .int .u32 (T : Int), .int .i64 0, .int .i64 0, .int .i64 0, .int .u32 0] 35 (0, 0))) := (hk.block _ (by omega) (fun h => h)).trans V_vI_w24.out
              have V_vH_w25 : Hid (w25.heap[bH]? = some (.cells #[.int .i64 K, .slice AH N cH, .slice BH N dH, .int .u32 (T : Int), .int .i64 0, .int .i64 0, .int .i64 0, .int .u32 0] 35 (0, 0))) := (hk.block _ (by omega) (fun h => h)).trans V_vH_w24.out
              have O_VS_w25 : Hid (OwnK 3 .i64 w25 w3.heap.size AS N cS V) := O_VS_w24.out.kp hk (fun g hg h => h)
              have O_GS_w25 : Hid (OwnK 3 .i64 w25 w3.heap.size BS N dS G) := O_GS_w24.out.kp hk (fun g hg h => h)
              have O_VI_w25 : Hid (OwnK 3 .i64 w25 w9.heap.size AI N cI (marksF 1 N)) := O_VI_w24.out.kp hk (fun g hg h => h)
              have O_GI_w25 : Hid (OwnK 3 .i64 w25 w9.heap.size BI N dI (marksF (1 + (N : Nat)) N)) := O_GI_w24.out.kp hk (fun g hg h => h)
              have O_VH_w25 : Hid (OwnK 3 .i64 w25 w21.heap.size AH N cH V) := O_VH_w24.out.kp hk (fun g hg h => h)
              have O_GH_w25 : Hid (OwnK 3 .i64 w25 w21.heap.size BH N dH G) := O_GH_w24.out.kp hk (fun g hg h => h)
              have Bw25 : Hid (Below w.heap.size w w25) := Bw24.out.trans (hb.mono Bw24.out.size)
              clear V_arg_w24 V_rarg_w24 V_vS_w24 V_vI_w24 V_vH_w24 O_VS_w24 O_GS_w24 O_VI_w24 O_GI_w24 O_VH_w24 O_GH_w24 Bw24
              clear hb hk
              go_wp2
              go_ret
              exact ⟨rfl, Bw25.out⟩
    · have HZr := Lib.hid (fun W => szReq_no rk D o f (1048576 - (n : Int) - (m : Int)) W (by omega) (by omega) hm3 (by omega))
      clear hv hg hu hfv hfg hfu hw1 hw2 hw3 hpr hsn ht hwr
      have V_arg : Hid (((w.alloc (.cells #[.int .i64 kd, .slice A n c, .slice B m d, .int .u32 (td : Int), .int .i64 ph, .int .i64 pr, .int .i64 hd, .int .u32 (sn : Int)] 30)).alloc (.cells #[.int .i64 rk, .slice D o f] 32)).heap[w.heap.size]? = some (.cells #[.int .i64 kd, .slice A n c, .slice B m d, .int .u32 (td : Int), .int .i64 ph, .int .i64 pr, .int .i64 hd, .int .u32 (sn : Int)] 30 (0, 0))) := ((bel1 _ _).block _ (by rw [sz1]; omega)).trans (heap_alloc_new _ _)
      have V_rarg : Hid (((w.alloc (.cells #[.int .i64 kd, .slice A n c, .slice B m d, .int .u32 (td : Int), .int .i64 ph, .int .i64 pr, .int .i64 hd, .int .u32 (sn : Int)] 30)).alloc (.cells #[.int .i64 rk, .slice D o f] 32)).heap[w.heap.size + 1]? = some (.cells #[.int .i64 rk, .slice D o f] 32 (0, 0))) := by have h := heap_alloc_new (w.alloc (.cells #[.int .i64 kd, .slice A n c, .slice B m d, .int .u32 (td : Int), .int .i64 ph, .int .i64 pr, .int .i64 hd, .int .u32 (sn : Int)] 30)) (.cells #[.int .i64 rk, .slice D o f] 32); rw [sz1] at h; exact h
      have B0 : Hid (Below w.heap.size w ((w.alloc (.cells #[.int .i64 kd, .slice A n c, .slice B m d, .int .u32 (td : Int), .int .i64 ph, .int .i64 pr, .int .i64 hd, .int .u32 (sn : Int)] 30)).alloc (.cells #[.int .i64 rk, .slice D o f] 32))) := bel2 _ _ _
      go_enter Try.func4, Try.ntmps4
      go_wp2_with fail
      refine (HZ.out _).mono ?_
      rintro e w1 ⟨rfl, hb⟩
      have B1 := Lib.hid (B0.out.trans (hb.mono B0.out.size))
      have q0 := blkc ((hb.block _ (by simp)).trans V_rarg.out) 0 rfl
      have q1 := blkc ((hb.block _ (by simp)).trans V_rarg.out) 1 rfl
      clear hb
      go_wp2_with fail
      refine (HZr.out _).mono ?_
      rintro e w2 ⟨rfl, hb⟩
      have B2 := Lib.hid (B1.out.trans (hb.mono B1.out.size))
      clear hb q0 q1
      go_wp2
      go_ret
      exact ⟨rfl, B2.out⟩
  · have HZ := Lib.hid (fun W => szWarp_no kd A n c B m d td ph pr hd sn 1048576 W (Int.le_refl _) (by omega) hm hm2 (by omega))
    clear hv hg hu hfv hfg hfu hw1 hw2 hw3 hpr hsn ht hwr
    have V_arg : Hid (((w.alloc (.cells #[.int .i64 kd, .slice A n c, .slice B m d, .int .u32 (td : Int), .int .i64 ph, .int .i64 pr, .int .i64 hd, .int .u32 (sn : Int)] 30)).alloc (.cells #[.int .i64 rk, .slice D o f] 32)).heap[w.heap.size]? = some (.cells #[.int .i64 kd, .slice A n c, .slice B m d, .int .u32 (td : Int), .int .i64 ph, .int .i64 pr, .int .i64 hd, .int .u32 (sn : Int)] 30 (0, 0))) := ((bel1 _ _).block _ (by rw [sz1]; omega)).trans (heap_alloc_new _ _)
    have V_rarg : Hid (((w.alloc (.cells #[.int .i64 kd, .slice A n c, .slice B m d, .int .u32 (td : Int), .int .i64 ph, .int .i64 pr, .int .i64 hd, .int .u32 (sn : Int)] 30)).alloc (.cells #[.int .i64 rk, .slice D o f] 32)).heap[w.heap.size + 1]? = some (.cells #[.int .i64 rk, .slice D o f] 32 (0, 0))) := by have h := heap_alloc_new (w.alloc (.cells #[.int .i64 kd, .slice A n c, .slice B m d, .int .u32 (td : Int), .int .i64 ph, .int .i64 pr, .int .i64 hd, .int .u32 (sn : Int)] 30)) (.cells #[.int .i64 rk, .slice D o f] 32); rw [sz1] at h; exact h
    have B0 : Hid (Below w.heap.size w ((w.alloc (.cells #[.int .i64 kd, .slice A n c, .slice B m d, .int .u32 (td : Int), .int .i64 ph, .int .i64 pr, .int .i64 hd, .int .u32 (sn : Int)] 30)).alloc (.cells #[.int .i64 rk, .slice D o f] 32))) := bel2 _ _ _
    go_enter Try.func4, Try.ntmps4
    go_wp2_with fail
    refine (HZ.out _).mono ?_
    rintro e w1 ⟨rfl, hb⟩
    have B1 := Lib.hid (B0.out.trans (hb.mono B0.out.size))
    clear hb
    go_wp2
    go_ret
    exact ⟨rfl, B1.out⟩

set_option maxRecDepth 100000 in
theorem fnExactWarpSubmit_lifted (os : Os) (started : os.Started) (H : Type) (enc : TypeId × Value → H) :
    ReturnsInHanded {} Try.checked os 4 .any (Rows.fnExactWarpSubmitSpec.pre6 enc Try.prog Try.f4 Rows.fnExactWarpSubmitRow.domain false) (Rows.fnExactWarpSubmitSpec.post enc Try.prog Try.f4 false true false false) := by
  refine returnsInHanded_of_change (C := Try.checked) own started (by kernel_rfl) Try.func4
    (ChangeSpec.witness6 (enc := enc) (C := Try.checked) false ⟨#[], #[.agg #[.int .i64 0, .slice none 0 0, .slice none 0 0, .int .u32 0, .int .i64 0, .int .i64 0, .int .i64 0, .int .u32 0], .agg #[.int .i64 0, .slice none 0 0]], []⟩ 8 (by kernel_rfl) (by kernel_rfl) (by kernel_rfl) (by kernel_rfl)) ?_
  intro W base args ds gs before hval0 hW hcnd _
  have hval : ∀ (j : Nat) t v, Try.f4.params[j]? = some t → args[j]? = some v → Value.okWide Try.prog W .any base t v := hval0
  have hW' := hW
  obtain ⟨p, q, hA0, hV, rfl, hfz, hnd⟩ := hW
  have hA : DataW.TrodAll enc Try.prog W 0 (fun _ => true) true Try.f4.params.toList args.toList ds p := hA0
  rw [Try.params4] at hA hval
  obtain ⟨v0, vs0, d0, ds0, p0, q0, hargs, rfl, rfl, h0, r0⟩ := trodAll_cons hA
  obtain ⟨v1, vs1, d1, ds1, p1, q1, rfl, rfl, rfl, h1, r1⟩ := trodAll_cons r0
  obtain ⟨rfl, rfl, rfl⟩ := trodAll_nil r1
  obtain rfl : args = #[v0, v1] := by cases args; simp_all
  obtain ⟨rfl, rfl⟩ := trodVars_none hV
  have k0 := h0
  have lt0 : ∀ x ∈ p0, x.block < W.heap.size := by obtain ⟨m, hm⟩ := k0; exact DataW.trod_lt m _ _ _ hm
  obtain ⟨kd0, A0, n0, c0, vs0_, B0, m0, e0, gs0_, td0, ph0, pr0, hd0, sn0, rfl, ws0, rv0, rg0⟩ := open_warp (hval 0 30 v0 rfl rfl) h0
  have k1 := h1
  have lt1 : ∀ x ∈ p1, x.block < W.heap.size := by obtain ⟨m, hm⟩ := k1; exact DataW.trod_lt m _ _ _ hm
  obtain ⟨kd1, A1, n1, c1, z1, rfl, wk1, m1, rd1, f1⟩ := open_req (hval 1 32 v1 rfl rfl) h1
  clear hA0 hval0
  refine (fnExactWarpSubmit_walk kd0 A0 n0 c0 vs0_ B0 m0 e0 gs0_ td0 ph0 pr0 hd0 sn0 kd1 A1 n1 c1 z1 W ws0 rv0 rg0 wk1 rd1 m1 f1).mono fun e W' ⟨he, bel⟩ => ?_
  subst he
  exact ⟨_, rfl, _, _, _, [], _, [], hW', trodAll_mk1 (shut_bool Try.underlying4 _), (trodAll_cons_mk (Below.trod laidOut (by kernel_rfl) (of_decide_eq_true (by kernel_rfl)) k0 bel lt0) (trodAll_cons_mk (Below.trod laidOut (by kernel_rfl) (of_decide_eq_true (by kernel_rfl)) k1 bel lt1) (trodAll_mk0))), rfl, bel.frame _, fun h => by cases h⟩

/-- The given statement: for every input the law returns true, and its arguments read as before. -/
theorem fnExactWarpSubmit_holds : Rows.FnExactWarpSubmitSaid :=
  OpenClaim.holds_of_wide 4 Try.f4 rfl rfl rfl rfl rfl rfl rfl ⟨rfl, rfl, rfl, rfl, rfl⟩ rfl rfl rfl rfl rfl (by kernel_rfl) Try.func4 (by kernel_rfl)
    (of_decide_eq_true (by kernel_rfl)) (by unfold Func.isWrapper; first | (rw [if_pos (by decide +kernel)]; kernel_rfl) | (rw [if_neg (by decide +kernel)]; exact ⟨rfl, rfl⟩))
    (fun os started H enc _ => fnExactWarpSubmit_lifted os started H enc)
#print axioms fnExactWarpSubmit_holds
end Go.Proofs.Ytooegpebimpjcaa
