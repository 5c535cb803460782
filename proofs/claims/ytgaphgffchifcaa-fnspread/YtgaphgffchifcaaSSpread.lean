/- The contract of the model's Spread. -/
import Derived.Test.YtgaphgffchifcaaSRow
import Derived.Test.YtgaphgffchifcaaISpread
import Derived.RegionTactic
namespace Go.Proofs.Ytgaphgffchifcaa
open Go.RowKit

theorem spr_none (X : Nat) (us : List Int) : ∀ (t : List Nat) (zs : List Int), (∀ j ∈ t, ¬ rankV X (j : Int) < (us.length : Int)) → spr X us zs t = zs := by
  intro t
  induction t with
  | nil => intro zs _; rfl
  | cons k t ih =>
    intro zs h
    show spr X us (sprStep X us zs k) t = _
    have e : sprStep X us zs k = zs := if_neg (h k (by simp))
    rw [e]
    exact ih zs (fun j hj => h j (by simp [hj]))
theorem spr_split (X : Nat) (us zs : List Int) (l1 l2 : List Nat) : spr X us zs (l1 ++ l2) = spr X us (spr X us zs l1) l2 := by simp [spr]
theorem spr_end {X k : Nat} (hX : X < 256) (us zs : List Int) (hk : us.length ≤ k) : spr X us zs ((onesTo X 32).take k) = spr X us zs (onesTo X 32) := by
  conv => rhs; rw [← List.take_append_drop k (onesTo X 32), spr_split]
  rw [spr_none X us ((onesTo X 32).drop k)]
  intro j hj
  obtain ⟨i, hi, rfl⟩ := List.getElem_of_mem hj
  simp at hi
  have h1 : k + i < (onesTo X 32).length := by omega
  have := rankV_at hX h1
  have e : (onesTo X 32)[k + i]?.getD 0 = (onesTo X 32)[k + i] := by simp [h1]
  rw [e] at this
  rw [List.getElem_drop, this]
  omega
theorem spr_take {X k : Nat} (hX : X < 256) (us zs : List Int) (h : k < (onesTo X 32).length) (hk : k < us.length) : spr X us zs ((onesTo X 32).take (k + 1)) = (spr X us zs ((onesTo X 32).take k)).set (onesTo X 32)[k] (us[k]?.getD 0) := by
  rw [List.take_succ_eq_append_getElem h, spr_snoc]
  have := rankV_at hX h
  have e : (onesTo X 32)[k]?.getD 0 = (onesTo X 32)[k] := by simp [h]
  rw [e] at this
  unfold sprStep
  rw [this, if_pos (by omega), Int.toNat_natCast]

set_option maxRecDepth 100000 in
set_option maxHeartbeats 2000000 in
theorem sSpread_any (A A2 : Option Addr) (n c X m2 c2 : Nat) (zs us : List Int) (w : World) (h : RdK .i64 w w.heap.size A n zs) (h2 : RdK .i64 w w.heap.size A2 m2 us) (hX : X < 4294967296) :
    Calls Try.prog 47 #[.slice A n c, .int .u32 (X : Int), .slice A2 m2 c2] w fun e w' => ∃ A' c', e = .returned (.slice A' (spreadV n X zs us).length c') ∧ OwnK 3 .i64 w' w.heap.size A' (spreadV n X zs us).length c' (spreadV n X zs us) ∧ Below w.heap.size w w' := by
  have HR := Lib.hid (sRow_any A n c w)
  have HM : Hid (∀ W, Calls Try.prog 56 #[.int .u32 (X : Int)] W fun e w' => e = .returned (.bool (decide (X < 256))) ∧ Below W.heap.size W w') := fun W => sMask_any X W hX
  by_cases hn : n = 8
  · subst hn
    rw [decide_eq_true rfl] at HR
    by_cases hx : X < 256
    · rw [decide_eq_true hx] at HM
      have HC : Hid (∀ W, Calls Try.prog 55 #[.int .u32 (X : Int)] W fun e w' => ∃ A c, e = .returned (.slice A (onesTo X 32).length c) ∧ OwnK 3 .i64 w' W.heap.size A (onesTo X 32).length c (ints (onesTo X 32)) ∧ Below W.heap.size W w') := fun W => sBitList_any X W hX
      have hg : spreadV 8 X zs us = spr X us zs (onesTo X 32) := if_pos ⟨rfl, hx⟩
      have hg8 : (spr X us zs (onesTo X 32)).length = 8 := by rw [spr_len]; exact h.1
      rw [hg, hg8]
      have HL8 : Hid (∀ j ∈ onesTo X 32, j < 8) := fun j hj => ones_lt_8 hx hj
      have hul := h2.1
      have HEND : Hid (∀ k, m2 ≤ k → spr X us zs ((onesTo X 32).take k) = spr X us zs (onesTo X 32)) := fun k hk => spr_end hx us zs (by omega)
      have HSTEP : Hid (∀ k, (hk : k < (onesTo X 32).length) → k < m2 → spr X us zs ((onesTo X 32).take (k + 1)) = (spr X us zs ((onesTo X 32).take k)).set (onesTo X 32)[k] (us[k]?.getD 0)) := fun k hk h5 => spr_take hx us zs hk (by omega)
      have HS8 : Hid (∀ k, (spr X us zs ((onesTo X 32).take k)).length = 8) := fun k => by show _ = _; rw [spr_len]; exact h.1
      have hlen := onesTo_len X 32
      obtain ⟨ga, oa, rfl, hga, hca⟩ := h.2 (by omega)
      obtain ⟨i0, hi, hz0, hz1, hz2⟩ := info_parts info_int
      have HNW : Hid (∀ W, Below w.heap.size w W → ∀ (j : Nat) u, (zs.map (Value.int .i64))[j]? = some u → W.cell? ((⟨ga, oa, none⟩ : Addr).add j) = some u) := fun W hW j u hj => by
        have hjl : j < 8 := by
          have := (List.getElem?_eq_some_iff.1 hj).1
          rw [List.length_map, h.1] at this
          exact this
        have e1 : (⟨ga, oa, none⟩ : Addr).add j = ⟨ga, oa + j, none⟩ := by unfold Addr.add; split <;> simp_all
        rw [e1, hW.cell (p := ⟨ga, oa + j, none⟩) hga, hca j hjl]
        have hjz : j < zs.length := by rw [h.1]; exact hjl
        simp [hjz] at hj ⊢
        exact hj
      have HZL : Hid ((zs.map (Value.int .i64)).length = 8 * 1) := by show _ = _; simp [h.1]
      have HU := Lib.hid h2.2
      clear hX hx hg hca h hg8 h2 hul
      generalize hsp : spr X us zs = sp at *
      generalize hl0 : onesTo X 32 = l at *
      have HSP : Hid (sp (l.take 0) = zs) := by show _ = _; rw [← hsp]; rfl
      clear hsp hl0
      go_enter Try.func47, Try.ntmps47
      go_wp2_with fail
      refine HR.out.mono ?_
      rintro e w1 ⟨rfl, rfl⟩
      go_wp2_with fail
      refine (HM.out w).mono ?_
      rintro e w2 ⟨rfl, hb2⟩
      have z2 := hb2.size
      have B2 : Hid (Below w.heap.size w (w2.alloc (.cells #[] 3))) := hb2.alloc z2 _
      have OM : Hid ((w2.alloc (.cells #[] 3)).ownsRow w.heap.size 3 1 (.slice (some ⟨w2.heap.size, 0, none⟩) 0 0) 0 []) := World.ownsRow_made w2 #[] 0 z2 (by unfold maxLen; omega) rfl
      have NW := Lib.hid (HNW.out _ B2.out)
      clear hb2 HR HM HNW
      go_wp2_with (at_builtin; refine wpList_append_own_at _ rfl (.tmp 18) (.tmp 19) 33 rfl w.heap.size 3 i0 (.int .i64 0) 1 8 Try.underlying33 hi hz0 hz1 hz2 rfl (by omega) (.slice (some ⟨w2.heap.size, 0, none⟩) 0 0) 0 [] rfl OM.out ⟨ga, oa, none⟩ 8 c (zs.map (Value.int .i64)) rfl HZL.out NW.out (by simp [Value.oneCell']) (by unfold maxLen; omega) (by omega) (by simp; omega) ?_)
      intro v' w3 hv1 hv2 _ _
      have hv3 : w3.ownsRow w.heap.size 3 1 v' 8 (zs.map (Value.int .i64)) := by simpa using hv1
      obtain ⟨Ao, co, rfl, hoo⟩ := OwnK.shape hv3
      obtain ⟨go, rfl, _, _⟩ := hoo.form (by omega)
      have OO := Lib.hid hoo
      have UO := OwnK.range hoo go rfl
      have z3 := hv2.size
      simp only [World.size_alloc] at z3
      have B3 : Hid (Below w.heap.size w w3) := B2.out.grown hv2 (by simp; omega) (fun g hg => by
        have h1 : w2.heap.size = g := by injection hg
        omega)
      clear hv1 hv2 hv3 hoo OM NW B2 HZL
      go_wp2_with fail
      refine (HC.out _).mono ?_
      rintro e w4 ⟨Al, cl, rfl, hol, hb4⟩
      have OL := Lib.hid hol
      have NE : Hid (∀ g, (Value.slice Al l.length cl).ownBlock = some g → g ≠ go) := fun g hg => by
        have := (OwnK.range hol g hg).1
        omega
      have OO4 : Hid (OwnK 3 .i64 w4 w.heap.size (some ⟨go, 0, none⟩) 8 co (sp (l.take 0))) := by rw [HSP.out]; exact OO.out.below hb4
      have B4 : Hid (Below w.heap.size w w4) := B3.out.trans (hb4.mono (by omega))
      clear hol hb4 B3 OO HC HSP
      go_wp2
      go_loopw [9] (fun i wr => ∃ k : Nat, k ≤ l.length ∧ i = .int .i64 k ∧ Hid (OwnK 3 .i64 wr w.heap.size (some ⟨go, 0, none⟩) 8 co (sp (l.take k))) ∧ Hid (OwnK 3 .i64 wr w.heap.size Al l.length cl (ints l)) ∧ Hid (Below w.heap.size w wr)) (fun i _ => l.length - (intOf i).toNat)
      case atStart => exact ⟨0, by omega, rfl, OO4, OL.out.from_ (by omega), B4⟩
      case round =>
        obtain ⟨k, hk, rfl, HO, HG, HB⟩ := hrel
        clear OO4 OL B4
        by_cases hlt : k < l.length
        · have hkl : (k : Int) < (l.length : Int) := by omega
          by_cases hm : k < m2
          · have hkm : (k : Int) < (m2 : Int) := by omega
            obtain ⟨gl, rfl, _, _⟩ := HG.out.form (by omega)
            have c1 := HG.out.cell rfl hlt
            rw [ints_at l hlt] at c1
            have hj : l[k] < 8 := HL8.out _ (List.getElem_mem hlt)
            have HT := Lib.hid (HSTEP.out k hlt hm)
            obtain ⟨gu, ou, rfl, hgu, hcu⟩ := HU.out (by omega)
            have cu : wr.cell? ⟨gu, ou + k, none⟩ = some (.int .i64 (us[k]?.getD 0)) := (HB.out.cell (p := ⟨gu, ou + k, none⟩) hgu).trans (hcu k hm)
            have co1 := HO.out.cell (i := l[k]) rfl hj
            have fo1 := HO.out.free rfl l[k]
            have HNX : Hid (OwnK 3 .i64 (wr.setCell ⟨go, l[k], none⟩ (.int .i64 (us[k]?.getD 0))) w.heap.size (some ⟨go, 0, none⟩) 8 co (sp (l.take (k + 1)))) := by rw [HT.out]; exact HO.out.store
            have hne := NE.out gl rfl
            have HNG : Hid (OwnK 3 .i64 (wr.setCell ⟨go, l[k], none⟩ (.int .i64 (us[k]?.getD 0))) w.heap.size (some ⟨gl, 0, none⟩) l.length cl (ints l)) := HG.out.far (row := some go) (grownBy_setAt _ _ _ _) (fun g hg e => by
              have h1 : gl = g := by injection hg
              have h2 : go = g := by injection e
              omega)
            have HNB : Hid (Below w.heap.size w (wr.setCell ⟨go, l[k], none⟩ (.int .i64 (us[k]?.getD 0)))) := HB.out.setCell (by show _ ≤ go; omega) _
            clear hcu HO HG HB HT HEND HSTEP HS8
            generalize us[k]?.getD 0 = u at *
            generalize (sp (l.take k))[l[k]]?.getD 0 = y at *
            generalize l[k] = j at *
            have hj' : (j : Int) < 8 := by omega
            go_wp2
            go_region
            all_goals go_wp2
            all_goals go_roundw
            case rel => exact ⟨k + 1, by omega, by go_num, HNX, HNG, HNB.out.drew⟩
            case measure => simp [intOf]; omega
          · have hkm : ¬ (k : Int) < (m2 : Int) := by omega
            have HE := Lib.hid (HEND.out k (by omega))
            clear HEND HSTEP HS8
            go_wp2
            go_ret
            have := HO.out
            rw [HE.out] at this
            exact ⟨_, co, rfl, this, HB.out⟩
        · have hkl : ¬ (k : Int) < (l.length : Int) := by omega
          obtain rfl : k = l.length := by omega
          clear HEND HSTEP HS8
          go_wp2
          go_ret
          have := HO.out
          rw [List.take_length] at this
          exact ⟨_, co, rfl, this, HB.out⟩
    · rw [decide_eq_false hx] at HM
      have hg : spreadV 8 X zs us = [] := if_neg fun e => hx e.2
      rw [hg]
      clear hX hx hg h h2
      go_enter Try.func47, Try.ntmps47
      go_wp2_with fail
      refine HR.out.mono ?_
      rintro e w1 ⟨rfl, rfl⟩
      go_wp2_with fail
      refine (HM.out w).mono ?_
      rintro e w2 ⟨rfl, hb2⟩
      have B2 := Lib.hid hb2
      clear hb2 HR HM
      go_wp2
      go_ret
      exact ⟨none, 0, rfl, World.ownsRow_nil _ _ _ _, B2.out⟩
  · rw [decide_eq_false hn] at HR
    have hg : spreadV n X zs us = [] := if_neg fun e => hn e.1
    rw [hg]
    clear hX hn hg h h2
    go_enter Try.func47, Try.ntmps47
    go_wp2_with fail
    refine HR.out.mono ?_
    rintro e w1 ⟨rfl, rfl⟩
    go_wp2
    go_ret
    exact ⟨none, 0, rfl, World.ownsRow_nil _ _ _ _, Below.refl _ _⟩

end Go.Proofs.Ytgaphgffchifcaa
