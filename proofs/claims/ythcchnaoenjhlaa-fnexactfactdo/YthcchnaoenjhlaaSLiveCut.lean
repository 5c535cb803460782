/- The contract of the model's LiveCut: the list without the block, in memory of the call's own. -/
import Derived.Test.YthcchnaoenjhlaaSLiveOk
import Derived.Test.YthcchnaoenjhlaaLiveC
import Derived.Test.YthcchnaoenjhlaaAppP
import Derived.Deep.RegionHeld3
import Derived.Deep.RegionLaw
namespace Go.Proofs.Ythcchnaoenjhlaa
open Go.RowKit Go.Sort

theorem pa_take {ps : List (Int × Int)} {k i : Nat} (h : i < k) : pa (ps.take k) i = pa ps i := by simp [pa, List.getElem?_take, h]
theorem pb_take {ps : List (Int × Int)} {k i : Nat} (h : i < k) : pb (ps.take k) i = pb ps i := by simp [pb, List.getElem?_take, h]
theorem pa_drop {ps : List (Int × Int)} {k i : Nat} : pa (ps.drop k) i = pa ps (k + i) := by simp [pa]
theorem pb_drop {ps : List (Int × Int)} {k i : Nat} : pb (ps.drop k) i = pb ps (k + i) := by simp [pb]
/-- 'append(s, x...)' as one step of a region that draws its order. -/
theorem step_cat_p {w : World} {ops : Array Oper} {o : Oper} {a : Act} {K : Act → World → Prop} {Q : Exit → Act → World → Prop} {E : Prop} (hgd : o.guard = none) (s x : Operand)
    (ho : o.op = .call { callee := .builtin .append, args := #[s, x], argTypes := #[30, 30] })
    (b0 n c : Nat) (A : Option Addr) (ps qs : List (Int × Int)) (g off m cx : Nat) (hs : a.eval s = .slice A n c) (hx : a.eval x = .slice (some ⟨g, off, none⟩) m cx) (hO : OwnP w b0 A n c ps) (hy : qs.length = m)
    (hc : ∀ i, i < m → w.cell? ⟨g, off + i * 2, none⟩ = some (.int .i64 (pa qs i)) ∧ w.cell? ⟨g, off + i * 2 + 1, none⟩ = some (.int .i64 (pb qs i))) (hn : n + m ≤ 2000000) (hb : b0 ≤ w.heap.size)
    (h : ∀ A' c' w', Hid (OwnP w' b0 A' (n + m) c' (ps ++ qs)) → Hid (Below b0 w w') → Hid (w.grownBy w' (Value.slice A n c).ownBlock) → K (a.put o.dst (.slice A' (n + m) c')) w') :
    if Region.wanted o (yielded ops a.tmps) = true then Oper.wp Try.prog o a w K Q else E := by
  have hw : Region.wanted o (yielded ops a.tmps) = true := by simp [Region.wanted, hgd]
  rw [if_pos hw]
  obtain ⟨A', c', w', hr, h2, h3, h4⟩ := run_cat_p o.type b0 n c A ps qs g off m cx hO hy hc hn hb
  unfold Oper.wp
  simp [execOp, ho, resolve, invoke, builtin, hs, hx, hr, Result.andThen, Oper.upon]
  exact h A' c' w' h2 h4 h3

/-- 'append(s, x...)' as one step of a region that draws its order. -/
theorem step_cat_p2 {w : World} {ops : Array Oper} {o : Oper} {a : Act} {K : Act → World → Prop} {Q : Exit → Act → World → Prop} {E : Prop} (hgd : o.guard = none) (s x : Operand)
    (ho : o.op = .call { callee := .builtin .append, args := #[s, x], argTypes := #[30, 30] })
    (b0 n c : Nat) (A : Option Addr) (ps qs : List (Int × Int)) (g off m cx : Nat) (hs : a.eval s = .slice A n c) (hx : a.eval x = .slice (some ⟨g, off, none⟩) m cx) (hO : OwnP w b0 A n c ps) (hy : qs.length = m)
    (hc : ∀ i, i < m → w.cell? ⟨g, off + i * 2, none⟩ = some (.int .i64 (pa qs i)) ∧ w.cell? ⟨g, off + i * 2 + 1, none⟩ = some (.int .i64 (pb qs i))) (hn : n + m ≤ 2000000) (hb : b0 ≤ w.heap.size)
    (h : ∀ A' c' w', Hid (OwnP w' b0 A' (n + m) c' (ps ++ qs)) → Hid (Below b0 w w') → Hid (w.grownBy w' (Value.slice A n c).ownBlock) → Hid (A ≠ none → A' ≠ none) → K (a.put o.dst (.slice A' (n + m) c')) w') :
    if Region.wanted o (yielded ops a.tmps) = true then Oper.wp Try.prog o a w K Q else E := by
  have hw : Region.wanted o (yielded ops a.tmps) = true := by simp [Region.wanted, hgd]
  rw [if_pos hw]
  obtain ⟨A', c', w', hr, h2, h3, h4, h5⟩ := run_cat_p2 o.type b0 n c A ps qs g off m cx hO hy hc hn hb
  unfold Oper.wp
  simp [execOp, ho, resolve, invoke, builtin, hs, hx, hr, Result.andThen, Oper.upon]
  exact h A' c' w' h2 h4 h3 h5

set_option maxRecDepth 100000 in
set_option maxHeartbeats 4000000 in
theorem sLiveCut_some (g n c B : Nat) (ps : List (Int × Int)) (z a : Int) (w : World) (h : RdP w B (some ⟨g, 0, none⟩) n ps) (hB : B ≤ w.heap.size) (hm : n ≤ maxLen) (hW : WfP ps) (hc : n ≤ c) (hc2 : c ≤ maxLen) :
    Calls Try.prog 42 #[.slice (some ⟨g, 0, none⟩) n c, .int .i64 z, .int .i64 a] w fun e w' => ∃ A' c', e = .returned (.tuple #[.slice A' (cutR ps z a).length c', .int .i64 (cutS ps z a), .bool (cutV ps z a).isSome]) ∧ ((cutV ps z a).isSome = true → A' ≠ none) ∧ OwnP w' w.heap.size A' (cutR ps z a).length c' (cutR ps z a) ∧ Below w.heap.size w w' := by
  have HC := Lib.hid (fun W (hb : Below w.heap.size w W) => sLiveOk_any (some ⟨g, 0, none⟩) n c B ps z W (h.below (hb.mono hB)) (Nat.le_trans hB hb.size) hm hW)
  have hno : cutV ps z a = none → cutR ps z a = [] ∧ cutS ps z a = 0 ∧ (cutV ps z a).isSome = false := fun e => by unfold cutR cutS; rw [e]; exact ⟨rfl, rfl, rfl⟩
  have HNo := Lib.hid hno
  clear hno
  unfold maxLen at hc2
  cases hv : liveOkV ps z with
  | false =>
    rw [hv] at HC
    have HR := Lib.hid (HNo.out (by unfold cutV; rw [hv]; rfl))
    have HC0 := Lib.hid (HC.out w (Below.refl _ _))
    clear h hW hv HC HNo
    go_enter Try.func42, Try.ntmps42
    go_wp2
    refine wp_loop_rounds 1 ?_
    rw [rounds_succ]
    go_wp2_with fail
    refine HC0.out.mono ?_
    rintro e w1 ⟨rfl, hb⟩
    have HB := Lib.hid hb
    clear hb HC0
    go_wp2
    refine bodyPost_ret (results_tmp3 rfl _ _ _) rfl ?_
    obtain ⟨r1, r2, r3⟩ := HR.out
    rw [r1, r2, r3]
    exact ⟨none, 0, rfl, (fun h => by cases h), OwnP.zero, HB.out⟩
  | true =>
    rw [hv] at HC
    have hn : n ≤ 300 := by rw [← h.1]; exact (liveOkV_z hv).1.2.2
    have HL := Lib.hid h.1
    have H := Lib.hid h
    have HV := Lib.hid hv
    have HK0 := Lib.hid (show cutV ps z a = (ps.drop 0).find? (atV a) by unfold cutV; rw [if_pos hv]; rfl)
    clear h hW hv hm
    go_enter Try.func42, Try.ntmps42
    go_wp2
    go_loopw [9] (fun i wr => ∃ k : Nat, k ≤ n ∧ i = .int .i64 k ∧ Hid (cutV ps z a = (ps.drop k).find? (atV a)) ∧ Hid (Below w.heap.size w wr)) (fun i _ => n - (intOf i).toNat)
    case atStart => exact ⟨0, Nat.zero_le _, rfl, HK0, Below.refl _ _⟩
    case round =>
      obtain ⟨k, hk, rfl, HK, HBr⟩ := hrel
      have HCr := Lib.hid (HC.out wr HBr.out)
      clear HC HK0
      by_cases hlt : k < n
      · have hkn : decide ((k : Int) < (n : Int)) = true := by simp; omega
        go_wp2_with fail
        refine HCr.out.mono ?_
        rintro e w1 ⟨rfl, hb⟩
        have HB1 := Lib.hid (HBr.out.trans (hb.mono HBr.out.size))
        have HRd := Lib.hid (H.out.below (HB1.out.mono hB))
        have hs1 := HB1.out.size
        clear hb HCr HBr
        have HCe : Hid (∀ i, i < n → w1.cell? ⟨g, i * 2, none⟩ = some (.int .i64 (pa ps i)) ∧ w1.cell? ⟨g, i * 2 + 1, none⟩ = some (.int .i64 (pb ps i))) := fun i hi => by
          obtain ⟨g', o', e, _, hcc⟩ := HRd.out.2 (by omega)
          injection e with e
          injection e with e1 e2
          subst e1 e2
          have := hcc i hi
          rwa [Nat.zero_add] at this
        have hg1 : g < w1.heap.size := by
          obtain ⟨g', o', e, hg', _⟩ := HRd.out.2 (by omega)
          injection e with e
          injection e with e1 e2
          omega
        obtain ⟨c1, c2⟩ := HCe.out k hlt
        have hkl : k < ps.length := by rw [HL.out]; exact hlt
        by_cases d : pa ps k = a
        · obtain ⟨h1, h2⟩ := cut_hit HV.out hkl HK.out d
          have HR := Lib.hid (show cutR ps z a = ps.take k ++ ps.drop (k + 1) ∧ cutS ps z a = pb ps k ∧ (cutV ps z a).isSome = true by unfold cutR cutS; rw [h1, h2]; exact ⟨rfl, rfl, rfl⟩)
          rw [d] at c1
          clear h1 h2 d
          generalize pb ps k = y at *
          have f1 : (k : Int) ≤ (c : Int) := by omega
          have f2 : k ≤ c := by omega
          have f3 : (k : Int) + 1 ≤ (n : Int) := by omega
          have f4 : k + 1 ≤ n := by omega
          have g1 : IntKind.i64.wrap ((k : Int) + 1) = (k : Int) + 1 := IntWalk.i64_in _ (by omega)
          have g2 : ((k : Int) + 1).toNat = k + 1 := by omega
          have g3 : (0 : Int) ≤ (k : Int) + 1 := by omega
          by_cases hcz : c = k + 1
          · have hnz : n = k + 1 := by omega
            subst hcz hnz
            clear f1 f2 f3 f4
            have f1 : (k : Int) ≤ (k : Int) + 1 := by omega
            have f2 : k ≤ k + 1 := by omega
            go_wp2_with fail
            refine wp_region_noPanic ?_
            refine wp_region_held_drew (S := fun w' : World => w'.cell? ⟨g, k * 2 + 1, none⟩ = some (.int .i64 y)) (by kernel_rfl) c2 (fun hHeld => ?_)
            change wpAnyH _ _ _ _ _ _ _ _ (World.drew _)
            have HCd : Hid (∀ i, i < (k + 1) → w1.drew.cell? ⟨g, i * 2, none⟩ = some (.int .i64 (pa ps i)) ∧ w1.drew.cell? ⟨g, i * 2 + 1, none⟩ = some (.int .i64 (pb ps i))) := HCe.out
            have HBd : Hid (Below w.heap.size w w1.drew) := HB1.out.drew
            have hgd : g < w1.drew.heap.size := hg1
            have c2d : w1.drew.cell? ⟨g, k * 2 + 1, none⟩ = some (.int .i64 y) := c2
            clear HCe HB1 c1 c2 hg1 HRd
            generalize w1.drew = w2 at *
            refine wpAnyH_take (i := 1) (v := ?v1) rfl (by kernel_rfl) (by kernel_rfl) (by kernel_rfl) (fun _ _ _ h => h) (Or.inl ⟨by rfl, ?hy1⟩) (by assumption) ?rest1
            case hy1 =>
              intro wz hSw
              clear hSw
              go_simp <;> with_reducible rfl
            try simp only [List.getElem_toArray, List.getElem_cons_zero, List.getElem_cons_succ, Act.put, List.setIfInBounds_toArray, List.set_cons_zero, List.set_cons_succ]
            refine wpAnyH_take (i := 2) (v := ?v2) rfl (by kernel_rfl) (by kernel_rfl) (by kernel_rfl) (fun _ _ _ h => h) (Or.inl ⟨by rfl, ?hy2⟩) (by assumption) ?rest2
            case hy2 =>
              intro wz hSw
              clear hSw
              go_simp <;> with_reducible rfl
            try simp only [List.getElem_toArray, List.getElem_cons_zero, List.getElem_cons_succ, Act.put, List.setIfInBounds_toArray, List.set_cons_zero, List.set_cons_succ]
            refine wpAnyH_take (i := 3) (v := ?v3) rfl (by kernel_rfl) (by kernel_rfl) (by kernel_rfl) (fun _ _ _ h => h) (Or.inl ⟨by rfl, ?hy3⟩) (by assumption) ?rest3
            case hy3 =>
              intro wz hSw
              clear hSw
              go_simp <;> with_reducible rfl
            try simp only [List.getElem_toArray, List.getElem_cons_zero, List.getElem_cons_succ, Act.put, List.setIfInBounds_toArray, List.set_cons_zero, List.set_cons_succ]
            refine wpAnyH_take (i := 5) (v := ?v4) rfl (by kernel_rfl) (by kernel_rfl) (by kernel_rfl) (fun _ _ _ h => h) (Or.inl ⟨by rfl, ?hy4⟩) (by assumption) ?rest4
            case hy4 =>
              intro wz hSw
              clear hSw
              go_simp <;> with_reducible rfl
            try simp only [List.getElem_toArray, List.getElem_cons_zero, List.getElem_cons_succ, Act.put, List.setIfInBounds_toArray, List.set_cons_zero, List.set_cons_succ]
            refine wpAnyH_take (i := 6) (v := ?v5) rfl (by kernel_rfl) (by kernel_rfl) (by kernel_rfl) (fun _ _ _ h => h) (Or.inl ⟨by rfl, ?hy5⟩) (by assumption) ?rest5
            case hy5 =>
              intro wz hSw
              clear hSw
              go_simp <;> with_reducible rfl
            try simp only [List.getElem_toArray, List.getElem_cons_zero, List.getElem_cons_succ, Act.put, List.setIfInBounds_toArray, List.set_cons_zero, List.set_cons_succ]
            refine wpAnyH_take (i := 7) (v := ?v6) rfl (by kernel_rfl) (by kernel_rfl) (by kernel_rfl) (fun _ _ _ h => h) (Or.inl ⟨by rfl, ?hy6⟩) (by assumption) ?rest6
            case hy6 =>
              intro wz hSw
              clear hSw
              go_simp <;> with_reducible rfl
            try simp only [List.getElem_toArray, List.getElem_cons_zero, List.getElem_cons_succ, Act.put, List.setIfInBounds_toArray, List.set_cons_zero, List.set_cons_succ]
            refine wpAnyH_take (i := 8) (v := ?v7) rfl (by kernel_rfl) (by kernel_rfl) (by kernel_rfl) (fun _ _ _ h => h) (Or.inl ⟨by rfl, ?hy7⟩) (by assumption) ?rest7
            case hy7 =>
              intro wz hSw
              clear hSw
              go_simp <;> with_reducible rfl
            try simp only [List.getElem_toArray, List.getElem_cons_zero, List.getElem_cons_succ, Act.put, List.setIfInBounds_toArray, List.set_cons_zero, List.set_cons_succ]
            refine wpAnyH_take (i := 10) (v := ?v8) rfl (by kernel_rfl) (by kernel_rfl) (by kernel_rfl) (fun _ _ _ h => h) (Or.inl ⟨by rfl, ?hy8⟩) (by assumption) ?rest8
            case hy8 =>
              intro wz hSw
              clear hSw
              go_simp <;> with_reducible rfl
            try simp only [List.getElem_toArray, List.getElem_cons_zero, List.getElem_cons_succ, Act.put, List.setIfInBounds_toArray, List.set_cons_zero, List.set_cons_succ]
            refine wpAnyH_take (i := 11) (v := ?v9) rfl (by kernel_rfl) (by kernel_rfl) (by kernel_rfl) (fun _ _ _ h => h) (Or.inl ⟨by rfl, ?hy9⟩) (by assumption) ?rest9
            case hy9 =>
              intro wz hSw
              clear hSw
              go_simp <;> with_reducible rfl
            try simp only [List.getElem_toArray, List.getElem_cons_zero, List.getElem_cons_succ, Act.put, List.setIfInBounds_toArray, List.set_cons_zero, List.set_cons_succ]
            refine wpAnyH_take (i := 12) (v := ?v10) rfl (by kernel_rfl) (by kernel_rfl) (by kernel_rfl) (fun _ _ _ h => h) (Or.inl ⟨by rfl, ?hy10⟩) (by assumption) ?rest10
            case hy10 =>
              intro wz hSw
              clear hSw
              go_simp <;> with_reducible rfl
            try simp only [List.getElem_toArray, List.getElem_cons_zero, List.getElem_cons_succ, Act.put, List.setIfInBounds_toArray, List.set_cons_zero, List.set_cons_succ]
            refine wpAnyH_take (i := 13) (v := ?v11) rfl (by kernel_rfl) (by kernel_rfl) (by kernel_rfl) (fun _ _ _ h => h) (Or.inl ⟨by rfl, ?hy11⟩) (by assumption) ?rest11
            case hy11 =>
              intro wz hSw
              clear hSw
              go_simp <;> with_reducible rfl
            try simp only [List.getElem_toArray, List.getElem_cons_zero, List.getElem_cons_succ, Act.put, List.setIfInBounds_toArray, List.set_cons_zero, List.set_cons_succ]
            refine wpAnyH_take (i := 14) (v := ?v12) rfl (by kernel_rfl) (by kernel_rfl) (by kernel_rfl) (fun _ _ _ h => h) (Or.inl ⟨by rfl, ?hy12⟩) (by assumption) ?rest12
            case hy12 =>
              intro wz hSw
              go_simp <;> with_reducible rfl
            try simp only [List.getElem_toArray, List.getElem_cons_zero, List.getElem_cons_succ, Act.put, List.setIfInBounds_toArray, List.set_cons_zero, List.set_cons_succ]
            refine wpAnyH_ready (rs := [0]) (by kernel_rfl) (by simp) (AllReadyH.cons rfl (fun K hK => ?_) AllReadyH.nil)
            go_simp
            clear hHeld
            refine hK.out _ _ (older c2d _) (fun hHeld => ?_)
            clear hK K
            try simp only [List.getElem_toArray, List.getElem_cons_zero, List.getElem_cons_succ, Act.put, List.setIfInBounds_toArray, List.set_cons_zero, List.set_cons_succ]
            have O3 : Hid (OwnP (w2.alloc (.cells #[] 71)) w2.heap.size (some ⟨w2.heap.size, 0, none⟩) 0 0 []) := World.ownsRow_made w2 #[] 0 (Nat.le_refl _) (Nat.zero_le _) (by simp)
            have hz2 := HBd.out.size
            have ce : Hid (∀ i, i < (k + 1) → (w2.alloc (.cells #[] 71)).cell? ⟨g, i * 2, none⟩ = some (.int .i64 (pa ps i)) ∧ (w2.alloc (.cells #[] 71)).cell? ⟨g, i * 2 + 1, none⟩ = some (.int .i64 (pb ps i))) := fun i hi => ⟨older (HCd.out i hi).1 _, older (HCd.out i hi).2 _⟩
            refine wpAnyH_ready (rs := [4]) (by kernel_rfl) (by simp) (AllReadyH.cons rfl (fun K hK => ?_) AllReadyH.nil)
            refine step_cat_p2 rfl (.tmp 28) (.tmp 31) rfl w2.heap.size 0 0 _ [] (ps.take k) g 0 k (k + 1) rfl rfl O3.out (by simp; have := HL.out; omega) (fun i hi => ?_) (by omega) (by simp) ?_
            · rw [Nat.zero_add, pa_take hi, pb_take hi]
              exact ce.out i (by omega)
            intro A4 c4 w4 O4 B4 _ X4
            have B4' : Hid (Below w2.heap.size w2 w4) := ((Below.refl _ _).alloc (Nat.le_refl _) _).trans B4.out
            have c2e : w4.cell? ⟨g, k * 2 + 1, none⟩ = some (.int .i64 y) := (B4'.out.cell (p := ⟨g, k * 2 + 1, none⟩) hgd).trans c2d
            clear hHeld
            refine hK.out _ _ (c2e) (fun hHeld => ?_)
            clear hK K
            try simp only [List.getElem_toArray, List.getElem_cons_zero, List.getElem_cons_succ, Act.put, List.setIfInBounds_toArray, List.set_cons_zero, List.set_cons_succ]
            refine wpAnyH_ready (rs := [9]) (by kernel_rfl) (by simp) (AllReadyH.cons rfl (fun K hK => ?_) AllReadyH.nil)
            refine step_cat_p2 rfl (.tmp 32) (.tmp 36) rfl w2.heap.size (0 + k) c4 A4 _ [] g 0 0 0 rfl rfl O4.out rfl (fun i hi => absurd hi (by omega)) (by omega) B4'.out.size ?_
            intro A5 c5 w5 O5 B5 _ X5
            have B5' : Hid (Below w2.heap.size w2 w5) := B4'.out.trans B5.out
            have c2f : w5.cell? ⟨g, k * 2 + 1, none⟩ = some (.int .i64 y) := (B5'.out.cell (p := ⟨g, k * 2 + 1, none⟩) hgd).trans c2d
            clear hHeld
            refine hK.out _ _ (c2f) (fun hHeld => ?_)
            clear hK K
            try simp only [List.getElem_toArray, List.getElem_cons_zero, List.getElem_cons_succ, Act.put, List.setIfInBounds_toArray, List.set_cons_zero, List.set_cons_succ]
            refine wpAnyH_take (i := 15) (v := ?v13) rfl (by kernel_rfl) (by kernel_rfl) (by kernel_rfl) (fun _ _ _ h => h) (Or.inl ⟨by rfl, ?hy13⟩) (by assumption) ?rest13
            case hy13 =>
              intro wz hSw
              clear hSw
              go_simp <;> with_reducible rfl
            try simp only [List.getElem_toArray, List.getElem_cons_zero, List.getElem_cons_succ, Act.put, List.setIfInBounds_toArray, List.set_cons_zero, List.set_cons_succ]
            refine wpAnyH_take (i := 16) (v := ?v14) rfl (by kernel_rfl) (by kernel_rfl) (by kernel_rfl) (fun _ _ _ h => h) (Or.inl ⟨by rfl, ?hy14⟩) (by assumption) ?rest14
            case hy14 =>
              intro wz hSw
              clear hSw
              go_simp <;> with_reducible rfl
            try simp only [List.getElem_toArray, List.getElem_cons_zero, List.getElem_cons_succ, Act.put, List.setIfInBounds_toArray, List.set_cons_zero, List.set_cons_succ]
            refine wpAnyH_take (i := 17) (v := ?v15) rfl (by kernel_rfl) (by kernel_rfl) (by kernel_rfl) (fun _ _ _ h => h) (Or.inl ⟨by rfl, ?hy15⟩) (by assumption) ?rest15
            case hy15 =>
              intro wz hSw
              clear hSw
              go_simp <;> with_reducible rfl
            try simp only [List.getElem_toArray, List.getElem_cons_zero, List.getElem_cons_succ, Act.put, List.setIfInBounds_toArray, List.set_cons_zero, List.set_cons_succ]
            have hd0 : ps.drop (k + 1) = [] := List.drop_eq_nil_of_le (by have := HL.out; omega)
            refine wpAnyH_done (by kernel_rfl) ?_ _
            refine NoPanic.normal ?_
            go_wp2
            refine bodyPost_ret (results_tmp3 rfl _ _ _) rfl ?_
            obtain ⟨r1, r2, r3⟩ := HR.out
            have O6 := O5.out.from_ hz2
            have hlen := O6.len
            rw [hd0] at r1
            rw [List.nil_append] at O6 hlen
            simp only [Nat.zero_add, Nat.add_zero] at O6 hlen
            rw [r1, r2, r3, hlen]
            exact ⟨A5, c5, rfl, fun _ => X5.out (X4.out (by simp)), O6, HBd.out.trans (B5'.out.mono hz2)⟩
          · skip
            go_wp2_with fail
            refine wp_region_noPanic ?_
            refine wp_region_held_drew (S := fun w' : World => w'.cell? ⟨g, k * 2 + 1, none⟩ = some (.int .i64 y)) (by kernel_rfl) c2 (fun hHeld => ?_)
            change wpAnyH _ _ _ _ _ _ _ _ (World.drew _)
            have HCd : Hid (∀ i, i < n → w1.drew.cell? ⟨g, i * 2, none⟩ = some (.int .i64 (pa ps i)) ∧ w1.drew.cell? ⟨g, i * 2 + 1, none⟩ = some (.int .i64 (pb ps i))) := HCe.out
            have HBd : Hid (Below w.heap.size w w1.drew) := HB1.out.drew
            have hgd : g < w1.drew.heap.size := hg1
            have c2d : w1.drew.cell? ⟨g, k * 2 + 1, none⟩ = some (.int .i64 y) := c2
            clear HCe HB1 c1 c2 hg1 HRd
            generalize w1.drew = w2 at *
            refine wpAnyH_take (i := 1) (v := ?v16) rfl (by kernel_rfl) (by kernel_rfl) (by kernel_rfl) (fun _ _ _ h => h) (Or.inl ⟨by rfl, ?hy16⟩) (by assumption) ?rest16
            case hy16 =>
              intro wz hSw
              clear hSw
              go_simp <;> with_reducible rfl
            try simp only [List.getElem_toArray, List.getElem_cons_zero, List.getElem_cons_succ, Act.put, List.setIfInBounds_toArray, List.set_cons_zero, List.set_cons_succ]
            refine wpAnyH_take (i := 2) (v := ?v17) rfl (by kernel_rfl) (by kernel_rfl) (by kernel_rfl) (fun _ _ _ h => h) (Or.inl ⟨by rfl, ?hy17⟩) (by assumption) ?rest17
            case hy17 =>
              intro wz hSw
              clear hSw
              go_simp <;> with_reducible rfl
            try simp only [List.getElem_toArray, List.getElem_cons_zero, List.getElem_cons_succ, Act.put, List.setIfInBounds_toArray, List.set_cons_zero, List.set_cons_succ]
            refine wpAnyH_take (i := 3) (v := ?v18) rfl (by kernel_rfl) (by kernel_rfl) (by kernel_rfl) (fun _ _ _ h => h) (Or.inl ⟨by rfl, ?hy18⟩) (by assumption) ?rest18
            case hy18 =>
              intro wz hSw
              clear hSw
              go_simp <;> with_reducible rfl
            try simp only [List.getElem_toArray, List.getElem_cons_zero, List.getElem_cons_succ, Act.put, List.setIfInBounds_toArray, List.set_cons_zero, List.set_cons_succ]
            refine wpAnyH_take (i := 5) (v := ?v19) rfl (by kernel_rfl) (by kernel_rfl) (by kernel_rfl) (fun _ _ _ h => h) (Or.inl ⟨by rfl, ?hy19⟩) (by assumption) ?rest19
            case hy19 =>
              intro wz hSw
              clear hSw
              go_simp <;> with_reducible rfl
            try simp only [List.getElem_toArray, List.getElem_cons_zero, List.getElem_cons_succ, Act.put, List.setIfInBounds_toArray, List.set_cons_zero, List.set_cons_succ]
            refine wpAnyH_take (i := 6) (v := ?v20) rfl (by kernel_rfl) (by kernel_rfl) (by kernel_rfl) (fun _ _ _ h => h) (Or.inl ⟨by rfl, ?hy20⟩) (by assumption) ?rest20
            case hy20 =>
              intro wz hSw
              clear hSw
              go_simp <;> with_reducible rfl
            try simp only [List.getElem_toArray, List.getElem_cons_zero, List.getElem_cons_succ, Act.put, List.setIfInBounds_toArray, List.set_cons_zero, List.set_cons_succ]
            refine wpAnyH_take (i := 7) (v := ?v21) rfl (by kernel_rfl) (by kernel_rfl) (by kernel_rfl) (fun _ _ _ h => h) (Or.inl ⟨by rfl, ?hy21⟩) (by assumption) ?rest21
            case hy21 =>
              intro wz hSw
              clear hSw
              go_simp <;> with_reducible rfl
            try simp only [List.getElem_toArray, List.getElem_cons_zero, List.getElem_cons_succ, Act.put, List.setIfInBounds_toArray, List.set_cons_zero, List.set_cons_succ]
            refine wpAnyH_take (i := 8) (v := ?v22) rfl (by kernel_rfl) (by kernel_rfl) (by kernel_rfl) (fun _ _ _ h => h) (Or.inl ⟨by rfl, ?hy22⟩) (by assumption) ?rest22
            case hy22 =>
              intro wz hSw
              clear hSw
              go_simp <;> with_reducible rfl
            try simp only [List.getElem_toArray, List.getElem_cons_zero, List.getElem_cons_succ, Act.put, List.setIfInBounds_toArray, List.set_cons_zero, List.set_cons_succ]
            refine wpAnyH_take (i := 10) (v := ?v23) rfl (by kernel_rfl) (by kernel_rfl) (by kernel_rfl) (fun _ _ _ h => h) (Or.inl ⟨by rfl, ?hy23⟩) (by assumption) ?rest23
            case hy23 =>
              intro wz hSw
              clear hSw
              go_simp <;> with_reducible rfl
            try simp only [List.getElem_toArray, List.getElem_cons_zero, List.getElem_cons_succ, Act.put, List.setIfInBounds_toArray, List.set_cons_zero, List.set_cons_succ]
            refine wpAnyH_take (i := 11) (v := ?v24) rfl (by kernel_rfl) (by kernel_rfl) (by kernel_rfl) (fun _ _ _ h => h) (Or.inl ⟨by rfl, ?hy24⟩) (by assumption) ?rest24
            case hy24 =>
              intro wz hSw
              clear hSw
              go_simp <;> with_reducible rfl
            try simp only [List.getElem_toArray, List.getElem_cons_zero, List.getElem_cons_succ, Act.put, List.setIfInBounds_toArray, List.set_cons_zero, List.set_cons_succ]
            refine wpAnyH_take (i := 12) (v := ?v25) rfl (by kernel_rfl) (by kernel_rfl) (by kernel_rfl) (fun _ _ _ h => h) (Or.inl ⟨by rfl, ?hy25⟩) (by assumption) ?rest25
            case hy25 =>
              intro wz hSw
              clear hSw
              go_simp <;> with_reducible rfl
            try simp only [List.getElem_toArray, List.getElem_cons_zero, List.getElem_cons_succ, Act.put, List.setIfInBounds_toArray, List.set_cons_zero, List.set_cons_succ]
            refine wpAnyH_take (i := 13) (v := ?v26) rfl (by kernel_rfl) (by kernel_rfl) (by kernel_rfl) (fun _ _ _ h => h) (Or.inl ⟨by rfl, ?hy26⟩) (by assumption) ?rest26
            case hy26 =>
              intro wz hSw
              clear hSw
              go_simp <;> with_reducible rfl
            try simp only [List.getElem_toArray, List.getElem_cons_zero, List.getElem_cons_succ, Act.put, List.setIfInBounds_toArray, List.set_cons_zero, List.set_cons_succ]
            refine wpAnyH_take (i := 14) (v := ?v27) rfl (by kernel_rfl) (by kernel_rfl) (by kernel_rfl) (fun _ _ _ h => h) (Or.inl ⟨by rfl, ?hy27⟩) (by assumption) ?rest27
            case hy27 =>
              intro wz hSw
              go_simp <;> with_reducible rfl
            try simp only [List.getElem_toArray, List.getElem_cons_zero, List.getElem_cons_succ, Act.put, List.setIfInBounds_toArray, List.set_cons_zero, List.set_cons_succ]
            refine wpAnyH_ready (rs := [0]) (by kernel_rfl) (by simp) (AllReadyH.cons rfl (fun K hK => ?_) AllReadyH.nil)
            go_simp
            clear hHeld
            refine hK.out _ _ (older c2d _) (fun hHeld => ?_)
            clear hK K
            try simp only [List.getElem_toArray, List.getElem_cons_zero, List.getElem_cons_succ, Act.put, List.setIfInBounds_toArray, List.set_cons_zero, List.set_cons_succ]
            have O3 : Hid (OwnP (w2.alloc (.cells #[] 71)) w2.heap.size (some ⟨w2.heap.size, 0, none⟩) 0 0 []) := World.ownsRow_made w2 #[] 0 (Nat.le_refl _) (Nat.zero_le _) (by simp)
            have hz2 := HBd.out.size
            have ce : Hid (∀ i, i < n → (w2.alloc (.cells #[] 71)).cell? ⟨g, i * 2, none⟩ = some (.int .i64 (pa ps i)) ∧ (w2.alloc (.cells #[] 71)).cell? ⟨g, i * 2 + 1, none⟩ = some (.int .i64 (pb ps i))) := fun i hi => ⟨older (HCd.out i hi).1 _, older (HCd.out i hi).2 _⟩
            refine wpAnyH_ready (rs := [4]) (by kernel_rfl) (by simp) (AllReadyH.cons rfl (fun K hK => ?_) AllReadyH.nil)
            refine step_cat_p2 rfl (.tmp 28) (.tmp 31) rfl w2.heap.size 0 0 _ [] (ps.take k) g 0 k c rfl rfl O3.out (by simp; have := HL.out; omega) (fun i hi => ?_) (by omega) (by simp) ?_
            · rw [Nat.zero_add, pa_take hi, pb_take hi]
              exact ce.out i (by omega)
            intro A4 c4 w4 O4 B4 _ X4
            have B4' : Hid (Below w2.heap.size w2 w4) := ((Below.refl _ _).alloc (Nat.le_refl _) _).trans B4.out
            have c2e : w4.cell? ⟨g, k * 2 + 1, none⟩ = some (.int .i64 y) := (B4'.out.cell (p := ⟨g, k * 2 + 1, none⟩) hgd).trans c2d
            clear hHeld
            refine hK.out _ _ (c2e) (fun hHeld => ?_)
            clear hK K
            try simp only [List.getElem_toArray, List.getElem_cons_zero, List.getElem_cons_succ, Act.put, List.setIfInBounds_toArray, List.set_cons_zero, List.set_cons_succ]
            refine wpAnyH_ready (rs := [9]) (by kernel_rfl) (by simp) (AllReadyH.cons rfl (fun K hK => ?_) AllReadyH.nil)
            refine step_cat_p2 rfl (.tmp 32) (.tmp 36) rfl w2.heap.size (0 + k) c4 A4 _ (ps.drop (k + 1)) g ((k + 1) * 2) (n - (k + 1)) (c - (k + 1)) rfl rfl O4.out (by simp; have := HL.out; omega) (fun i hi => ?_) (by omega) B4'.out.size ?_
            · rw [pa_drop, pb_drop, show (k + 1) * 2 + i * 2 = (k + 1 + i) * 2 by omega]
              have := HCd.out (k + 1 + i) (by omega)
              exact ⟨(B4'.out.cell (p := ⟨g, (k + 1 + i) * 2, none⟩) hgd).trans this.1, (B4'.out.cell (p := ⟨g, (k + 1 + i) * 2 + 1, none⟩) hgd).trans this.2⟩
            intro A5 c5 w5 O5 B5 _ X5
            have B5' : Hid (Below w2.heap.size w2 w5) := B4'.out.trans B5.out
            have c2f : w5.cell? ⟨g, k * 2 + 1, none⟩ = some (.int .i64 y) := (B5'.out.cell (p := ⟨g, k * 2 + 1, none⟩) hgd).trans c2d
            clear hHeld
            refine hK.out _ _ (c2f) (fun hHeld => ?_)
            clear hK K
            try simp only [List.getElem_toArray, List.getElem_cons_zero, List.getElem_cons_succ, Act.put, List.setIfInBounds_toArray, List.set_cons_zero, List.set_cons_succ]
            refine wpAnyH_take (i := 15) (v := ?v28) rfl (by kernel_rfl) (by kernel_rfl) (by kernel_rfl) (fun _ _ _ h => h) (Or.inl ⟨by rfl, ?hy28⟩) (by assumption) ?rest28
            case hy28 =>
              intro wz hSw
              clear hSw
              go_simp <;> with_reducible rfl
            try simp only [List.getElem_toArray, List.getElem_cons_zero, List.getElem_cons_succ, Act.put, List.setIfInBounds_toArray, List.set_cons_zero, List.set_cons_succ]
            refine wpAnyH_take (i := 16) (v := ?v29) rfl (by kernel_rfl) (by kernel_rfl) (by kernel_rfl) (fun _ _ _ h => h) (Or.inl ⟨by rfl, ?hy29⟩) (by assumption) ?rest29
            case hy29 =>
              intro wz hSw
              clear hSw
              go_simp <;> with_reducible rfl
            try simp only [List.getElem_toArray, List.getElem_cons_zero, List.getElem_cons_succ, Act.put, List.setIfInBounds_toArray, List.set_cons_zero, List.set_cons_succ]
            refine wpAnyH_take (i := 17) (v := ?v30) rfl (by kernel_rfl) (by kernel_rfl) (by kernel_rfl) (fun _ _ _ h => h) (Or.inl ⟨by rfl, ?hy30⟩) (by assumption) ?rest30
            case hy30 =>
              intro wz hSw
              clear hSw
              go_simp <;> with_reducible rfl
            try simp only [List.getElem_toArray, List.getElem_cons_zero, List.getElem_cons_succ, Act.put, List.setIfInBounds_toArray, List.set_cons_zero, List.set_cons_succ]
            refine wpAnyH_done (by kernel_rfl) ?_ _
            refine NoPanic.normal ?_
            go_wp2
            refine bodyPost_ret (results_tmp3 rfl _ _ _) rfl ?_
            obtain ⟨r1, r2, r3⟩ := HR.out
            have O6 := O5.out.from_ hz2
            have hlen := O6.len
            rw [List.nil_append] at O6 hlen
            simp only [Nat.zero_add, Nat.add_zero] at O6 hlen
            rw [r1, r2, r3, hlen]
            exact ⟨A5, c5, rfl, fun _ => X5.out (X4.out (by simp)), O6, HBd.out.trans (B5'.out.mono hz2)⟩
        · have HR := Lib.hid (HK.out.trans (cut_miss (a := a) hkl d))
          have hd : (pa ps k == a) = false := by simp [d]
          generalize pa ps k = x at *
          clear d
          go_wp2
          go_roundw
          case rel => exact ⟨k + 1, by omega, by go_num, HR, HB1⟩
          case measure => simp [intOf]; omega
      · have HR := Lib.hid (HNo.out (HK.out.trans (cut_end (by rw [HL.out]; omega))))
        have hkn : decide ((k : Int) < (n : Int)) = false := by simp; omega
        go_wp2_with fail
        refine HCr.out.mono ?_
        rintro e w1 ⟨rfl, hb⟩
        have HB1 := Lib.hid (HBr.out.trans (hb.mono HBr.out.size))
        clear hb HCr HBr
        go_wp2
        refine bodyPost_ret (results_tmp3 rfl _ _ _) rfl ?_
        obtain ⟨r1, r2, r3⟩ := HR.out
        rw [r1, r2, r3]
        exact ⟨none, 0, rfl, (fun h => by cases h), OwnP.zero, HB1.out⟩

theorem sLiveCut_any (g n c B : Nat) (ps : List (Int × Int)) (z a : Int) (w : World) (h : RdP w B (some ⟨g, 0, none⟩) n ps) (hB : B ≤ w.heap.size) (hm : n ≤ maxLen) (hW : WfP ps) (hc : n ≤ c) (hc2 : c ≤ maxLen) :
    Calls Try.prog 42 #[.slice (some ⟨g, 0, none⟩) n c, .int .i64 z, .int .i64 a] w fun e w' => ∃ A' c', e = .returned (.tuple #[.slice A' (cutR ps z a).length c', .int .i64 (cutS ps z a), .bool (cutV ps z a).isSome]) ∧ OwnP w' w.heap.size A' (cutR ps z a).length c' (cutR ps z a) ∧ Below w.heap.size w w' :=
  (sLiveCut_some g n c B ps z a w h hB hm hW hc hc2).mono fun _ _ ⟨A', c', h1, _, h2, h3⟩ => ⟨A', c', h1, h2, h3⟩

end Go.Proofs.Ythcchnaoenjhlaa
