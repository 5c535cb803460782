/- Audit of the program. -/
import Derived.Test.YthcchnaoenjhlaaAudP
import Derived.Test.YthcchnaoenjhlaaAudM
import Derived.Test.YthcchnaoenjhlaaIOffs
namespace Go.Proofs.Ythcchnaoenjhlaa
open Go.RowKit
set_option linter.unusedVariables false

theorem offL_get {z : Int} {l : List Nat} {k : Nat} (h : k < l.length) : (offL z l)[k]?.getD 0 = (l[k] : Int) * z := by simp [offL, h]
theorem ones_get {X k : Nat} (h : k < (onesTo X 32).length) : (onesTo X 32)[k] < 32 := (mem_ones.1 (List.getElem_mem h)).1

set_option maxRecDepth 100000 in
set_option maxHeartbeats 4000000 in
theorem blocksAt_any (a : Int) (X : Nat) (w : World) (hX : X < 4294967296) (hg : GoodX X) (a0 : 0 ≤ a) (a1 : a ≤ 240) :
    Calls Try.prog 54 #[.int .i64 a, .int .u32 (X : Int)] w fun e w' => ∃ A c, e = .returned (.slice A (wdL a X).length c) ∧ OwnP w' w.heap.size A (wdL a X).length c (wdL a X) ∧ Below w.heap.size w w' := by
  rcases st_cases hg with hs | hs | hs | hs
  · skip
    have HR : Hid (wdL a X = []) := (show _ = _ from by unfold wdL; rw [if_neg (by omega), if_neg (by omega)])
    have HC := Lib.hid (fun W => read_st X hX hg 0 hs W)
    clear hg hs
    generalize (clOf X : Int) = cl at *
    generalize (mpOf X : Int) = mp at *
    generalize (rnOf X : Int) = rn at *
    go_enter Try.func54, Try.ntmps54
    go_wp2_with fail
    refine (HC.out _).mono ?_
    rintro e w1 ⟨rfl, hb⟩
    have B1 := Lib.hid (hb.alloc hb.size (.cells #[.int .i64 0, .int .i64 cl, .int .u32 mp, .int .i64 rn] 83))
    clear hb HC
    go_wp2
    go_ret
    rw [HR.out]
    exact ⟨none, 0, rfl, OwnP.zero, B1.out⟩
  · have hs' : stOf X = 1 := by omega
    obtain ⟨z1, z2⟩ := page_sizes hg hs'
    have HR : Hid (wdL a X = pgL a (sizeV (clOf X)) ((onesTo (mpOf X) 32).take (onesTo (mpOf X) 32).length)) := (show _ = _ from by unfold wdL; rw [if_pos hs', List.take_length])
    have HC := Lib.hid (fun W => read_st X hX hg 1 hs W)
    have HZ := Lib.hid (fun W => classSize_any (clOf X) W)
    have hM := map_small X
    have hl32 := ones_len32 (mpOf X)
    have HO := Lib.hid (fun W => offsetsOf_any (mpOf X) (sizeV (clOf X)) W hM z1 z2)
    have HL := Lib.hid (fun k (h : k < (onesTo (mpOf X) 32).length) => ones_get h)
    clear hg hs hs'
    generalize onesTo (mpOf X) 32 = l at *
    generalize (mpOf X : Int) = mp at *
    generalize (rnOf X : Int) = rn at *
    generalize sizeV (clOf X) = z at *
    generalize (clOf X : Int) = cl at *
    clear hM hX
    go_enter Try.func54, Try.ntmps54
    go_wp2_with fail
    refine (HC.out _).mono ?_
    rintro e w1 ⟨rfl, hb⟩
    have B1 := Lib.hid (hb.alloc hb.size (.cells #[.int .i64 1, .int .i64 cl, .int .u32 mp, .int .i64 rn] 83))
    clear hb HC
    go_wp2_with fail
    refine (HZ.out _).mono ?_
    rintro e w2 ⟨rfl, rfl⟩
    go_wp2_with fail
    refine (HO.out _).mono ?_
    rintro e w3 ⟨A, c, rfl, ho, hb⟩
    have O3 := Lib.hid ho
    have B3 := Lib.hid (B1.out.trans (hb.mono B1.out.size))
    have z3 := hb.size
    have e3 := sz1 w1 (.cells #[.int .i64 1, .int .i64 cl, .int .u32 mp, .int .i64 rn] 83)
    have O0 : Hid (OwnP w3 w3.heap.size none 0 0 (pgL a z (l.take 0))) := OwnP.zero
    clear ho hb HO HZ B1
    go_wp2
    go_loopw [7, 28] (fun v j wr => ∃ (k : Nat) (A1 : Option Addr) (c1 : Nat), k ≤ l.length ∧ j = .int .i64 k ∧ v = .slice A1 k c1 ∧ Hid (OwnP wr w3.heap.size A1 k c1 (pgL a z (l.take k))) ∧ Hid (Below w3.heap.size w3 wr)) (fun _ j _ => l.length - (intOf j).toNat)
    case atStart => exact ⟨0, none, 0, Nat.zero_le _, rfl, rfl, O0, Below.refl _ _⟩
    case round =>
      obtain ⟨k, A1, c1, hk, rfl, rfl, HP, HB⟩ := hrel
      clear O0
      have hsz := HB.out.size
      by_cases hlt : k < l.length
      · obtain ⟨g, rfl, hg1, hg2⟩ := O3.out.form (by omega)
        have c0 : wr.cell? ⟨g, k, none⟩ = some (.int .i64 ((l[k] : Int) * z)) := by
          rw [← offL_get hlt]
          exact (HB.out.cell (p := ⟨g, k, none⟩) hg2).trans (O3.out.cell rfl hlt)
        have h32 := HL.out k hlt
        have HN := Lib.hid (pgL_take a z hlt)
        generalize l[k] = b at *
        have hm0 : 0 ≤ (b : Int) * z := Int.mul_nonneg (by omega) (by omega)
        have hm1 : (b : Int) * z ≤ 32 * 16 := Int.mul_le_mul (by omega) z2 (by omega) (by omega)
        generalize (b : Int) * z = bz at *
        have gw : IntKind.i64.wrap (a + bz) = a + bz := IntWalk.i64_in _ (by omega)
        have hk9 : k + 1 ≤ 2000000 := by omega
        go_wp2_with (at_builtin; refine wpList_push_p rfl (.tmp 32) (.tmp 38) rfl w3.heap.size k c1 A1 _ (a + bz) z wr.heap.size rfl rfl rfl HP.out hk9 hsz ?_)
        intro A' c' w' HO' HB' _
        have HB2 := Lib.hid (HB.out.trans HB'.out)
        have HP2 : Hid (OwnP w' w3.heap.size A' (k + 1) c' (pgL a z (l.take (k + 1)))) := (show OwnP _ _ _ _ _ _ from by rw [HN.out]; exact HO'.out)
        clear HO' HB' HP HB c0
        go_wp2
        go_roundw
        case rel => exact ⟨k + 1, A', c', by omega, by go_num, rfl, HP2, HB2⟩
        case measure => simp [intOf]; omega
      · have hkn : k = l.length := by omega
        subst hkn
        go_wp2
        go_ret
        have hb3 := B3.out.size
        rw [HR.out, pgL_len, List.length_take, Nat.min_self]
        exact ⟨A1, c1, rfl, HP.out.from_ (by omega), B3.out.trans (HB.out.mono (by omega))⟩
  · have hs' : stOf X = 2 := by omega
    have hr := run_small hX
    have HR : Hid (wdL a X = [(a, 16 * (rnOf X : Int))]) := (show _ = _ from by unfold wdL; rw [if_neg (by omega), if_pos hs'])
    have HC := Lib.hid (fun W => read_st X hX hg 2 hs W)
    clear hg hs hs'
    have hr0 : (0 : Int) ≤ (rnOf X : Int) := by omega
    generalize (clOf X : Int) = cl at *
    generalize (mpOf X : Int) = mp at *
    generalize (rnOf X : Int) = rn at *
    have gw : IntKind.i64.wrap (16 * rn) = 16 * rn := IntWalk.i64_in _ (by omega)
    go_enter Try.func54, Try.ntmps54
    go_wp2_with fail
    refine (HC.out _).mono ?_
    rintro e w1 ⟨rfl, hb⟩
    have B1 := Lib.hid (hb.alloc hb.size (.cells #[.int .i64 2, .int .i64 cl, .int .u32 mp, .int .i64 rn] 83))
    clear hb HC
    go_wp2
    go_ret
    rw [HR.out]
    have hz := B1.out.size
    have h1 := (OwnP.one (w1.alloc (.cells #[.int .i64 2, .int .i64 cl, .int .u32 mp, .int .i64 rn] 83)) a (16 * rn)).from_ hz
    rw [sz1] at h1
    exact ⟨_, _, rfl, h1, B1.out.alloc hz _⟩
  · skip
    have HR : Hid (wdL a X = []) := (show _ = _ from by unfold wdL; rw [if_neg (by omega), if_neg (by omega)])
    have HC := Lib.hid (fun W => read_st X hX hg 3 hs W)
    clear hg hs
    generalize (clOf X : Int) = cl at *
    generalize (mpOf X : Int) = mp at *
    generalize (rnOf X : Int) = rn at *
    go_enter Try.func54, Try.ntmps54
    go_wp2_with fail
    refine (HC.out _).mono ?_
    rintro e w1 ⟨rfl, hb⟩
    have B1 := Lib.hid (hb.alloc hb.size (.cells #[.int .i64 3, .int .i64 cl, .int .u32 mp, .int .i64 rn] 83))
    clear hb HC
    go_wp2
    go_ret
    rw [HR.out]
    exact ⟨none, 0, rfl, OwnP.zero, B1.out⟩

set_option maxRecDepth 100000 in
set_option maxHeartbeats 4000000 in
theorem audit_any (A : Option Addr) (n c B : Nat) (ws : List Nat) (w : World) (h : Rd w B A n (ints ws)) (hB : B ≤ w.heap.size) (hX : ∀ X ∈ ws, X < 4294967296) (hm : n ≤ maxLen) :
    Calls Try.prog 28 #[.agg #[.slice A n c]] w fun e w' => ∃ A' c', e = .returned (.tuple #[.slice A' (auditV ws).length c', .bool (decide (HeapOk ws))]) ∧ OwnP w' w.heap.size A' (auditV ws).length c' (auditV ws) ∧ Below w.heap.size w w' := by
  have hl : ws.length = n := by rw [← intsW_len]; exact h.1
  have HM : Hid (∀ W, Below w.heap.size w W → Calls Try.prog 53 #[.agg #[.slice A n c]] W fun e w' => e = .returned (.bool (decide (HeapOk ws))) ∧ Below W.heap.size W w') := fun W hb => isHeap_any A n c B ws W (h.below (hb.mono hB)) (Nat.le_trans hB hb.size) hX hm
  have HB0 := Lib.hid (bel1 w (.cells #[.slice A n c] 51))
  by_cases hg : HeapOk ws
  · rw [decide_eq_true hg] at HM ⊢
    have HR : Hid (auditV ws = audTo ws n) := (show _ = _ from by unfold auditV; rw [if_pos hg, hl])
    have hn : n ≤ 16 := by rw [← hl]; exact hg.1
    have H2 := Lib.hid h.2
    have HX := Lib.hid hX
    have HL := Lib.hid hl
    have HG := Lib.hid hg.2
    clear h hX hl hm hg
    go_enter Try.func28, Try.ntmps28
    go_wp2_with fail
    refine (HM.out _ HB0.out).mono ?_
    rintro e w1 ⟨rfl, hb⟩
    obtain ⟨hA, hB1, z1⟩ := nw1 hb
    have a0 := blkc hA 0 rfl
    have B1 := Lib.hid hB1
    have O0 : Hid (OwnP w1 w.heap.size none 0 0 (audTo ws 0)) := OwnP.zero
    clear hA hb hB1 HM
    go_wp2
    clear a0
    go_loopw [4, 13] (fun v i wr => ∃ (k m : Nat) (A1 : Option Addr) (c1 : Nat), k ≤ n ∧ i = .int .i64 k ∧ v = .slice A1 m c1 ∧ Hid (OwnP wr w.heap.size A1 m c1 (audTo ws k)) ∧ Hid (Below w.heap.size w wr)) (fun _ i _ => n - (intOf i).toNat)
    case atStart => exact ⟨0, 0, none, 0, Nat.zero_le _, rfl, rfl, O0, B1⟩
    case round =>
      obtain ⟨k, m, A1, c1, hk, rfl, rfl, HP, HB⟩ := hrel
      clear O0 B1
      have hsz := HB.out.size
      have hml := HP.out.len
      have hm9 := audTo_len ws k
      by_cases hlt : k < n
      · obtain ⟨g, o, rfl, hg, hc⟩ := H2.out (by omega)
        have y1 : wr.cell? ⟨g, o + k, none⟩ = some (.int .u32 ((ws[k]?.getD 0 : Nat) : Int)) := by
          rw [← intsW_at]; exact (HB.out.cell (p := ⟨g, o + k, none⟩) (by show g < _; omega)).trans (hc k hlt)
        clear hc
        have hkl : k < ws.length := by rw [HL.out]; exact hlt
        have hgx : GoodX (ws[k]?.getD 0) := by rw [List.getElem?_eq_getElem hkl]; exact HG.out _ (List.getElem_mem hkl)
        have HC := Lib.hid (fun W => blocksAt_any (16 * (k : Int)) (ws[k]?.getD 0) W (word_lt HX.out k) hgx (by omega) (by omega))
        have HN : Hid (audTo ws (k + 1) = audTo ws k ++ wdL (16 * (k : Int)) (ws[k]?.getD 0)) := (show _ = _ from rfl)
        have hw9 := wdL_len (16 * (k : Int)) (ws[k]?.getD 0)
        have gw : IntKind.i64.wrap (16 * (k : Int)) = 16 * (k : Int) := IntWalk.i64_in _ (by omega)
        clear hgx
        generalize wdL (16 * (k : Int)) (ws[k]?.getD 0) = L at *
        generalize ws[k]?.getD 0 = X at *
        go_wp2_with fail
        refine (HC.out _).mono ?_
        rintro e w2 ⟨A2, c2, rfl, ho, hb⟩
        have O2 := Lib.hid ho
        have hX2 := Lib.hid ho.plainB
        have HP2 := Lib.hid (HP.out.below hb)
        have HB2 := Lib.hid (HB.out.trans (hb.mono HB.out.size))
        have hs2 := HB2.out.size
        clear ho hb HP HB HC y1
        go_wp2_with (at_builtin; refine wpList_cat_pn rfl (.tmp 18) (.tmp 22) rfl w.heap.size w2.heap.size m c1 A1 A2 _ L L.length c2 rfl rfl HP2.out O2.out.rd hX2.out (by omega) hs2 ?_)
        intro A' c' w' HO' HB'
        have HB3 := Lib.hid (HB2.out.trans HB'.out)
        have HP3 : Hid (OwnP w' w.heap.size A' (m + L.length) c' (audTo ws (k + 1))) := (show OwnP _ _ _ _ _ _ from by rw [HN.out]; exact HO'.out)
        clear HO' HB' HP2 HB2 O2
        go_wp2
        go_roundw
        case rel => exact ⟨k + 1, m + L.length, A', c', by omega, by go_num, rfl, HP3, HB3⟩
        case measure => simp [intOf]; omega
      · have hkn : k = n := by omega
        subst hkn
        go_wp2
        refine bodyPost_ret (results_tmp2 rfl _ _ _) rfl ?_
        rw [HR.out, hml]
        exact ⟨A1, c1, rfl, HP.out, HB.out⟩
  · rw [decide_eq_false hg] at HM ⊢
    have HR : Hid (auditV ws = []) := (show _ = _ from by unfold auditV; rw [if_neg hg])
    clear h hX hl hg
    go_enter Try.func28, Try.ntmps28
    go_wp2_with fail
    refine (HM.out _ HB0.out).mono ?_
    rintro e w1 ⟨rfl, hb⟩
    have B1 := Lib.hid (HB0.out.trans (hb.mono HB0.out.size))
    clear hb
    go_wp2
    refine bodyPost_ret (results_tmp2 rfl _ _ _) rfl ?_
    rw [HR.out]
    exact ⟨none, 0, rfl, OwnP.zero, B1.out⟩

end Go.Proofs.Ythcchnaoenjhlaa
