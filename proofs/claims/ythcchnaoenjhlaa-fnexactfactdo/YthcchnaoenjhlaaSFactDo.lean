/- FactDo of the model. -/
import Derived.Test.YthcchnaoenjhlaaSFactOk
import Derived.Test.YthcchnaoenjhlaaSLiveAdd
namespace Go.Proofs.Ythcchnaoenjhlaa
open Go.RowKit Go.Sort
set_option linter.unusedVariables false

/-- 'append(s, x...)', s at an address. -/
theorem wpList_cat_p2 {w : World} {ops : Array Oper} {rest : List Oper} {o : Oper} {a : Act} {Q : Exit → Act → World → Prop} (hgd : o.guard = none) (s x : Operand)
    (ho : o.op = .call { callee := .builtin .append, args := #[s, x], argTypes := #[30, 30] })
    (b0 n c : Nat) (A : Option Addr) (ps qs : List (Int × Int)) (g off m cx : Nat) (hs : a.eval s = .slice A n c) (hx : a.eval x = .slice (some ⟨g, off, none⟩) m cx) (hO : OwnP w b0 A n c ps) (hy : qs.length = m)
    (hc : ∀ i, i < m → w.cell? ⟨g, off + i * 2, none⟩ = some (.int .i64 (pa qs i)) ∧ w.cell? ⟨g, off + i * 2 + 1, none⟩ = some (.int .i64 (pb qs i))) (hn : n + m ≤ 2000000) (hb : b0 ≤ w.heap.size)
    (h : ∀ A' c' w', Hid (OwnP w' b0 A' (n + m) c' (ps ++ qs)) → Hid (Below b0 w w') → Hid (A ≠ none → A' ≠ none) → wpList Try.prog ops Q rest (a.put o.dst (.slice A' (n + m) c')) w') :
    wpList Try.prog ops Q (o :: rest) a w := by
  refine wpList_plain hgd fun K hK => ?_
  obtain ⟨A', c', w', hr, h2, h3, h4, h5⟩ := run_cat_p2 o.type b0 n c A ps qs g off m cx hO hy hc hn hb
  unfold Oper.wp execOp
  simp only [ho, resolve, invoke, builtin, Sem.run_bind, Sem.run_pure, Result.andThen_ok, List.map_toArray, List.map_cons, List.map_nil, hs, hx, hr]
  exact hK _ _ (h A' c' w' h2 h4 h5)

set_option maxRecDepth 100000 in
set_option maxHeartbeats 4000000 in
theorem sFactDo_any (g n c B : Nat) (ps : List (Int × Int)) (f : Fc) (w : World) (h : RdP w B (some ⟨g, 0, none⟩) n ps) (hB : B ≤ w.heap.size) (hm : n ≤ maxLen) (hW : WfP ps) (hf : f.Wf) (hgB : g < B) (hc : n ≤ c) (hc2 : c ≤ maxLen) :
    Calls Try.prog 13 #[.slice (some ⟨g, 0, none⟩) n c, .agg #[.int .i64 f.k, .int .i64 f.i, .int .i64 f.l, .int .i64 f.a, .int .i64 f.s]] w fun e w' => ∃ A' c', e = .returned (.tuple #[.slice A' (doR ps f).length c', .bool (doV ps f).isSome]) ∧ ((doV ps f).isSome = true → A' ≠ none) ∧ OwnP w' w.heap.size A' (doR ps f).length c' (doR ps f) ∧ Below w.heap.size w w' := by
  obtain ⟨R, hR⟩ : ∃ R, R = doR ps f := ⟨_, rfl⟩
  obtain ⟨q, hq⟩ : ∃ q, q = (doV ps f).isSome := ⟨_, rfl⟩
  have HK : Hid (∀ W, Below w.heap.size w W → Calls Try.prog 40 #[.slice (some ⟨g, 0, none⟩) n c, .int .i64 256] W fun e w' => e = .returned (.bool (liveOkV ps 256)) ∧ Below W.heap.size W w') := fun W hbb => sLiveOk_any (some ⟨g, 0, none⟩) n c B ps 256 W (h.below (hbb.mono hB)) (Nat.le_trans hB hbb.size) hm hW
  have HG := Lib.hid (fun W => sFactOk_any f W)
  have HB0 := Lib.hid (bel1 w (.cells #[.int .i64 f.k, .int .i64 f.i, .int .i64 f.l, .int .i64 f.a, .int .i64 f.s] 25))
  have hwf : Wf2 (f.a, f.s) := ⟨wf_in hf.2.1, wf_in hf.2.2⟩
  rw [← hR, ← hq]
  by_cases hl : liveOkV ps 256 = true
  · rw [hl] at HK
    have hn : n ≤ 1048640 := by rw [← h.1]; have := (liveOkV_z hl).1.2.2; omega
    by_cases hg : FactGood f
    · rw [decide_eq_true hg] at HG
      have hk : f.k = 1 ∨ f.k = 2 ∨ f.k = 3 ∨ f.k = 4 := by rcases hg.1 with g | g | g | g <;> omega
      obtain ⟨d1, d2, d3, d4⟩ := do_of ⟨hl, hg⟩
      have HL := Lib.hid h.1
      have HC : Hid (∀ W, Below w.heap.size w W → ∀ i, i < n → W.cell? ⟨g, 0 + i * 2, none⟩ = some (.int .i64 (pa ps i)) ∧ W.cell? ⟨g, 0 + i * 2 + 1, none⟩ = some (.int .i64 (pb ps i))) := fun W hbb i hi => by
        obtain ⟨g', o', e, hg', hcc⟩ := (h.below (hbb.mono hB)).2 (by omega)
        injection e with e
        injection e with e1 e2
        subst e1 e2
        exact hcc i hi
      rcases hk with e | e | e | e
      · have g1 := hR.trans (d1 e).1
        have g2 := hq.trans (d1 e).2
        have k1 : (f.k == 1) = true := by simp [e]
        have k2 : (f.k == 2) = false := by simp [e]
        have k3 : (f.k == 3) = false := by simp [e]
        have k4 : (f.k == 4) = false := by simp [e]
        have g3 : q = true → 0 < R.length := fun hh => by
          rw [g2] at hh
          rw [g1]
          unfold addR
          rw [if_pos hh, insV_len]
          omega
        have HX : Hid (∀ W, Below w.heap.size w W → Calls Try.prog 41 #[.slice (some ⟨g, 0, none⟩) n c, .int .i64 256, .agg #[.int .i64 f.a, .int .i64 f.s]] W fun e w' => ∃ A' c', e = .returned (.tuple #[.slice A' R.length c', .bool q]) ∧ (q = true → A' ≠ none) ∧ OwnP w' W.heap.size A' R.length c' R ∧ Below W.heap.size W w') := fun W hbb => by
          have h9 := sLiveAdd_any g n c B ps 256 f.a f.s W (h.below (hbb.mono hB)) (Nat.le_trans hB hbb.size) hm hW hwf hgB hc hc2
          rw [← g1, ← g2] at h9
          exact h9.mono fun e w' ⟨A', c', h1, h2, h3⟩ => ⟨A', c', h1, (fun hh e => by obtain ⟨b, hb, _⟩ := h2.form (g3 hh); rw [e] at hb; cases hb), h2, h3⟩
        clear h hW hf hg hl hwf hR hq d1 d2 d3 d4 e g1 g2 g3
        go_enter Try.func13, Try.ntmps13
        go_wp2_with fail
        refine (HK.out _ HB0.out).mono ?_
        rintro e w1 ⟨rfl, hb⟩
        obtain ⟨hn0, hb1, z1⟩ := nw1 hb
        have HA0 := Lib.hid hn0
        have B1 := Lib.hid hb1
        have a0 := blkc hn0 0 rfl
        have a1 := blkc hn0 1 rfl
        have a2 := blkc hn0 2 rfl
        have a3 := blkc hn0 3 rfl
        have a4 := blkc hn0 4 rfl
        clear hb hb1 hn0
        go_wp2_with fail
        refine (HG.out _).mono ?_
        rintro e w2 ⟨rfl, hb⟩
        have HA1 := Lib.hid ((hb.block _ (by omega)).trans HA0.out)
        have B2 := Lib.hid (B1.out.trans (hb.mono B1.out.size))
        have z2 : w.heap.size < w2.heap.size := by have := hb.size; omega
        clear a0 a1 a2 a3 a4 hb
        have HO : Hid (OwnP (w2.alloc (.cells #[] 71)) w2.heap.size (some ⟨w2.heap.size, 0, none⟩) 0 0 []) := World.ownsRow_made w2 #[] 0 (Nat.le_refl _) (Nat.zero_le _) (by simp)
        have HCc := Lib.hid (HC.out (w2.alloc (.cells #[] 71)) (B2.out.alloc B2.out.size _))
        go_wp2_with (at_builtin; refine wpList_cat_p2 rfl _ _ rfl w2.heap.size 0 0 _ [] ps g 0 n c rfl rfl HO.out HL.out HCc.out (by omega) (by simp) ?_)
        intro A5 c5 w5 O5 B5 X5
        have Y5 : Hid (A5 ≠ none) := (show A5 ≠ none from by first | exact X5.out | exact X5.out (Option.some_ne_none _))
        have B6 := Lib.hid (((Below.refl _ _).alloc (Nat.le_refl _) _).trans B5.out)
        have HA2 := Lib.hid ((B6.out.block _ (by omega)).trans HA1.out)
        have B7 := Lib.hid (B2.out.trans (B6.out.mono B2.out.size))
        have O7 : Hid (OwnP w5 w2.heap.size A5 n c5 ps) := (show OwnP w5 w2.heap.size A5 n c5 ps from by have := O5.out; simpa using this)
        clear HO HCc X5 B5 O5 HA0 HA1
        have a0 := blkc HA2.out 0 rfl
        have a1 := blkc HA2.out 1 rfl
        have a2 := blkc HA2.out 2 rfl
        have a3 := blkc HA2.out 3 rfl
        have a4 := blkc HA2.out 4 rfl
        go_wp2_with fail
        refine (HX.out _ B7.out).mono ?_
        rintro e w8 ⟨A', c', rfl, hne, ho, hb⟩
        have O8 := Lib.hid (ho.from_ B7.out.size)
        have B8 := Lib.hid (B7.out.trans (hb.mono B7.out.size))
        have N8 := Lib.hid hne
        clear ho hb hne a0 a1 a2 a3 a4
        go_wp2
        refine bodyPost_ret (results_tmp2 rfl _ _ _) rfl ?_
        exact ⟨A', c', rfl, N8.out, O8.out, B8.out⟩
      · have g1 := hR.trans (d2 e).1
        have g2 := hq.trans (d2 e).2
        have k1 : (f.k == 1) = false := by simp [e]
        have k2 : (f.k == 2) = true := by simp [e]
        have k3 : (f.k == 3) = false := by simp [e]
        have k4 : (f.k == 4) = false := by simp [e]
        obtain ⟨L, hL⟩ : ∃ L, L = cutR ps 256 f.a := ⟨_, rfl⟩
        obtain ⟨z, hz⟩ : ∃ z, z = cutS ps 256 f.a := ⟨_, rfl⟩
        obtain ⟨t, ht⟩ : ∃ t, t = (cutV ps 256 f.a).isSome := ⟨_, rfl⟩
        have HX : Hid (∀ W, Below w.heap.size w W → Calls Try.prog 42 #[.slice (some ⟨g, 0, none⟩) n c, .int .i64 256, .int .i64 f.a] W fun e w' => ∃ A' c', e = .returned (.tuple #[.slice A' L.length c', .int .i64 z, .bool t]) ∧ (t = true → A' ≠ none) ∧ OwnP w' W.heap.size A' L.length c' L ∧ Below W.heap.size W w') := fun W hbb => by
          rw [hL, hz, ht]
          exact sLiveCut_some g n c B ps 256 f.a W (h.below (hbb.mono hB)) (Nat.le_trans hB hbb.size) hm hW hc hc2
        unfold giveR giveOk at g1
        unfold giveOk at g2
        rw [← ht, ← hz] at g2
        rw [← ht, ← hz, ← hL] at g1
        clear h hW hf hg hl hwf hR hq d1 d2 d3 d4 e hL hz ht
        cases t with
        | false =>
          simp only [Bool.false_and, Bool.false_eq_true, if_false] at g1 g2
          subst g1 g2
          go_enter Try.func13, Try.ntmps13
          go_wp2_with fail
          refine (HK.out _ HB0.out).mono ?_
          rintro e w1 ⟨rfl, hb⟩
          obtain ⟨hn0, hb1, z1⟩ := nw1 hb
          have HA0 := Lib.hid hn0
          have B1 := Lib.hid hb1
          have a0 := blkc hn0 0 rfl
          have a1 := blkc hn0 1 rfl
          have a2 := blkc hn0 2 rfl
          have a3 := blkc hn0 3 rfl
          have a4 := blkc hn0 4 rfl
          clear hb hb1 hn0
          go_wp2_with fail
          refine (HG.out _).mono ?_
          rintro e w2 ⟨rfl, hb⟩
          have HA1 := Lib.hid ((hb.block _ (by omega)).trans HA0.out)
          have B2 := Lib.hid (B1.out.trans (hb.mono B1.out.size))
          have z2 : w.heap.size < w2.heap.size := by have := hb.size; omega
          clear a0 a1 a2 a3 a4 hb
          have HO : Hid (OwnP (w2.alloc (.cells #[] 71)) w2.heap.size (some ⟨w2.heap.size, 0, none⟩) 0 0 []) := World.ownsRow_made w2 #[] 0 (Nat.le_refl _) (Nat.zero_le _) (by simp)
          have HCc := Lib.hid (HC.out (w2.alloc (.cells #[] 71)) (B2.out.alloc B2.out.size _))
          go_wp2_with (at_builtin; refine wpList_cat_p2 rfl _ _ rfl w2.heap.size 0 0 _ [] ps g 0 n c rfl rfl HO.out HL.out HCc.out (by omega) (by simp) ?_)
          intro A5 c5 w5 O5 B5 X5
          have Y5 : Hid (A5 ≠ none) := (show A5 ≠ none from by first | exact X5.out | exact X5.out (Option.some_ne_none _))
          have B6 := Lib.hid (((Below.refl _ _).alloc (Nat.le_refl _) _).trans B5.out)
          have HA2 := Lib.hid ((B6.out.block _ (by omega)).trans HA1.out)
          have B7 := Lib.hid (B2.out.trans (B6.out.mono B2.out.size))
          have O7 : Hid (OwnP w5 w2.heap.size A5 n c5 ps) := (show OwnP w5 w2.heap.size A5 n c5 ps from by have := O5.out; simpa using this)
          clear HO HCc X5 B5 O5 HA0 HA1
          have a0 := blkc HA2.out 0 rfl
          have a1 := blkc HA2.out 1 rfl
          have a2 := blkc HA2.out 2 rfl
          have a3 := blkc HA2.out 3 rfl
          have a4 := blkc HA2.out 4 rfl
          go_wp2_with fail
          refine (HX.out _ B7.out).mono ?_
          rintro e w8 ⟨A', c', rfl, hne, ho, hb⟩
          have O8 := Lib.hid (ho.from_ B7.out.size)
          have B8 := Lib.hid (B7.out.trans (hb.mono B7.out.size))
          have N8 := Lib.hid hne
          have O9 := Lib.hid (O7.out.below hb)
          have HA3 := Lib.hid ((hb.block _ (by have := B6.out.size; omega)).trans HA2.out)
          clear ho hb hne a0 a1 a2 a3 a4
          have a0 := blkc HA3.out 0 rfl
          have a1 := blkc HA3.out 1 rfl
          have a2 := blkc HA3.out 2 rfl
          have a3 := blkc HA3.out 3 rfl
          have a4 := blkc HA3.out 4 rfl
          go_wp2
          refine bodyPost_ret (results_tmp2 rfl _ _ _) rfl ?_
          exact ⟨none, 0, rfl, (fun h => by cases h), OwnP.zero, B8.out⟩
        | true =>
          by_cases hzs : z = f.s
          · have e1 : (z != f.s) = false := by simp [hzs]
            have e2 : decide (z = f.s) = true := decide_eq_true hzs
            simp only [e2, Bool.true_and, if_true] at g1 g2
            subst g1 g2
            clear hzs e2
            go_enter Try.func13, Try.ntmps13
            go_wp2_with fail
            refine (HK.out _ HB0.out).mono ?_
            rintro e w1 ⟨rfl, hb⟩
            obtain ⟨hn0, hb1, z1⟩ := nw1 hb
            have HA0 := Lib.hid hn0
            have B1 := Lib.hid hb1
            have a0 := blkc hn0 0 rfl
            have a1 := blkc hn0 1 rfl
            have a2 := blkc hn0 2 rfl
            have a3 := blkc hn0 3 rfl
            have a4 := blkc hn0 4 rfl
            clear hb hb1 hn0
            go_wp2_with fail
            refine (HG.out _).mono ?_
            rintro e w2 ⟨rfl, hb⟩
            have HA1 := Lib.hid ((hb.block _ (by omega)).trans HA0.out)
            have B2 := Lib.hid (B1.out.trans (hb.mono B1.out.size))
            have z2 : w.heap.size < w2.heap.size := by have := hb.size; omega
            clear a0 a1 a2 a3 a4 hb
            have HO : Hid (OwnP (w2.alloc (.cells #[] 71)) w2.heap.size (some ⟨w2.heap.size, 0, none⟩) 0 0 []) := World.ownsRow_made w2 #[] 0 (Nat.le_refl _) (Nat.zero_le _) (by simp)
            have HCc := Lib.hid (HC.out (w2.alloc (.cells #[] 71)) (B2.out.alloc B2.out.size _))
            go_wp2_with (at_builtin; refine wpList_cat_p2 rfl _ _ rfl w2.heap.size 0 0 _ [] ps g 0 n c rfl rfl HO.out HL.out HCc.out (by omega) (by simp) ?_)
            intro A5 c5 w5 O5 B5 X5
            have Y5 : Hid (A5 ≠ none) := (show A5 ≠ none from by first | exact X5.out | exact X5.out (Option.some_ne_none _))
            have B6 := Lib.hid (((Below.refl _ _).alloc (Nat.le_refl _) _).trans B5.out)
            have HA2 := Lib.hid ((B6.out.block _ (by omega)).trans HA1.out)
            have B7 := Lib.hid (B2.out.trans (B6.out.mono B2.out.size))
            have O7 : Hid (OwnP w5 w2.heap.size A5 n c5 ps) := (show OwnP w5 w2.heap.size A5 n c5 ps from by have := O5.out; simpa using this)
            clear HO HCc X5 B5 O5 HA0 HA1
            have a0 := blkc HA2.out 0 rfl
            have a1 := blkc HA2.out 1 rfl
            have a2 := blkc HA2.out 2 rfl
            have a3 := blkc HA2.out 3 rfl
            have a4 := blkc HA2.out 4 rfl
            go_wp2_with fail
            refine (HX.out _ B7.out).mono ?_
            rintro e w8 ⟨A', c', rfl, hne, ho, hb⟩
            have O8 := Lib.hid (ho.from_ B7.out.size)
            have B8 := Lib.hid (B7.out.trans (hb.mono B7.out.size))
            have N8 := Lib.hid hne
            have O9 := Lib.hid (O7.out.below hb)
            have HA3 := Lib.hid ((hb.block _ (by have := B6.out.size; omega)).trans HA2.out)
            clear ho hb hne a0 a1 a2 a3 a4
            have a0 := blkc HA3.out 0 rfl
            have a1 := blkc HA3.out 1 rfl
            have a2 := blkc HA3.out 2 rfl
            have a3 := blkc HA3.out 3 rfl
            have a4 := blkc HA3.out 4 rfl
            go_wp2
            refine bodyPost_ret (results_tmp2 rfl _ _ _) rfl ?_
            exact ⟨A', c', rfl, N8.out, O8.out, B8.out⟩
          · have e1 : (z != f.s) = true := by simp [hzs]
            have e2 : decide (z = f.s) = false := decide_eq_false hzs
            simp only [e2, Bool.and_false, Bool.false_eq_true, if_false] at g1 g2
            subst g1 g2
            clear hzs e2
            go_enter Try.func13, Try.ntmps13
            go_wp2_with fail
            refine (HK.out _ HB0.out).mono ?_
            rintro e w1 ⟨rfl, hb⟩
            obtain ⟨hn0, hb1, z1⟩ := nw1 hb
            have HA0 := Lib.hid hn0
            have B1 := Lib.hid hb1
            have a0 := blkc hn0 0 rfl
            have a1 := blkc hn0 1 rfl
            have a2 := blkc hn0 2 rfl
            have a3 := blkc hn0 3 rfl
            have a4 := blkc hn0 4 rfl
            clear hb hb1 hn0
            go_wp2_with fail
            refine (HG.out _).mono ?_
            rintro e w2 ⟨rfl, hb⟩
            have HA1 := Lib.hid ((hb.block _ (by omega)).trans HA0.out)
            have B2 := Lib.hid (B1.out.trans (hb.mono B1.out.size))
            have z2 : w.heap.size < w2.heap.size := by have := hb.size; omega
            clear a0 a1 a2 a3 a4 hb
            have HO : Hid (OwnP (w2.alloc (.cells #[] 71)) w2.heap.size (some ⟨w2.heap.size, 0, none⟩) 0 0 []) := World.ownsRow_made w2 #[] 0 (Nat.le_refl _) (Nat.zero_le _) (by simp)
            have HCc := Lib.hid (HC.out (w2.alloc (.cells #[] 71)) (B2.out.alloc B2.out.size _))
            go_wp2_with (at_builtin; refine wpList_cat_p2 rfl _ _ rfl w2.heap.size 0 0 _ [] ps g 0 n c rfl rfl HO.out HL.out HCc.out (by omega) (by simp) ?_)
            intro A5 c5 w5 O5 B5 X5
            have Y5 : Hid (A5 ≠ none) := (show A5 ≠ none from by first | exact X5.out | exact X5.out (Option.some_ne_none _))
            have B6 := Lib.hid (((Below.refl _ _).alloc (Nat.le_refl _) _).trans B5.out)
            have HA2 := Lib.hid ((B6.out.block _ (by omega)).trans HA1.out)
            have B7 := Lib.hid (B2.out.trans (B6.out.mono B2.out.size))
            have O7 : Hid (OwnP w5 w2.heap.size A5 n c5 ps) := (show OwnP w5 w2.heap.size A5 n c5 ps from by have := O5.out; simpa using this)
            clear HO HCc X5 B5 O5 HA0 HA1
            have a0 := blkc HA2.out 0 rfl
            have a1 := blkc HA2.out 1 rfl
            have a2 := blkc HA2.out 2 rfl
            have a3 := blkc HA2.out 3 rfl
            have a4 := blkc HA2.out 4 rfl
            go_wp2_with fail
            refine (HX.out _ B7.out).mono ?_
            rintro e w8 ⟨A', c', rfl, hne, ho, hb⟩
            have O8 := Lib.hid (ho.from_ B7.out.size)
            have B8 := Lib.hid (B7.out.trans (hb.mono B7.out.size))
            have N8 := Lib.hid hne
            have O9 := Lib.hid (O7.out.below hb)
            have HA3 := Lib.hid ((hb.block _ (by have := B6.out.size; omega)).trans HA2.out)
            clear ho hb hne a0 a1 a2 a3 a4
            have a0 := blkc HA3.out 0 rfl
            have a1 := blkc HA3.out 1 rfl
            have a2 := blkc HA3.out 2 rfl
            have a3 := blkc HA3.out 3 rfl
            have a4 := blkc HA3.out 4 rfl
            go_wp2
            refine bodyPost_ret (results_tmp2 rfl _ _ _) rfl ?_
            exact ⟨none, 0, rfl, (fun h => by cases h), OwnP.zero, B8.out⟩
      · have g1 := hR.trans (d3 e).1
        have g2 := hq.trans (d3 e).2
        have k1 : (f.k == 1) = false := by simp [e]
        have k2 : (f.k == 2) = false := by simp [e]
        have k3 : (f.k == 3) = true := by simp [e]
        have k4 : (f.k == 4) = false := by simp [e]
        rw [g1, g2]
        clear h hW hf hg hl hwf hR hq d1 d2 d3 d4 e g1 g2
        go_enter Try.func13, Try.ntmps13
        go_wp2_with fail
        refine (HK.out _ HB0.out).mono ?_
        rintro e w1 ⟨rfl, hb⟩
        obtain ⟨hn0, hb1, z1⟩ := nw1 hb
        have HA0 := Lib.hid hn0
        have B1 := Lib.hid hb1
        have a0 := blkc hn0 0 rfl
        have a1 := blkc hn0 1 rfl
        have a2 := blkc hn0 2 rfl
        have a3 := blkc hn0 3 rfl
        have a4 := blkc hn0 4 rfl
        clear hb hb1 hn0
        go_wp2_with fail
        refine (HG.out _).mono ?_
        rintro e w2 ⟨rfl, hb⟩
        have HA1 := Lib.hid ((hb.block _ (by omega)).trans HA0.out)
        have B2 := Lib.hid (B1.out.trans (hb.mono B1.out.size))
        have z2 : w.heap.size < w2.heap.size := by have := hb.size; omega
        clear a0 a1 a2 a3 a4 hb
        have HO : Hid (OwnP (w2.alloc (.cells #[] 71)) w2.heap.size (some ⟨w2.heap.size, 0, none⟩) 0 0 []) := World.ownsRow_made w2 #[] 0 (Nat.le_refl _) (Nat.zero_le _) (by simp)
        have HCc := Lib.hid (HC.out (w2.alloc (.cells #[] 71)) (B2.out.alloc B2.out.size _))
        go_wp2_with (at_builtin; refine wpList_cat_p2 rfl _ _ rfl w2.heap.size 0 0 _ [] ps g 0 n c rfl rfl HO.out HL.out HCc.out (by omega) (by simp) ?_)
        intro A5 c5 w5 O5 B5 X5
        have Y5 : Hid (A5 ≠ none) := (show A5 ≠ none from by first | exact X5.out | exact X5.out (Option.some_ne_none _))
        have B6 := Lib.hid (((Below.refl _ _).alloc (Nat.le_refl _) _).trans B5.out)
        have HA2 := Lib.hid ((B6.out.block _ (by omega)).trans HA1.out)
        have B7 := Lib.hid (B2.out.trans (B6.out.mono B2.out.size))
        have O7 : Hid (OwnP w5 w2.heap.size A5 n c5 ps) := (show OwnP w5 w2.heap.size A5 n c5 ps from by have := O5.out; simpa using this)
        clear HO HCc X5 B5 O5 HA0 HA1
        have a0 := blkc HA2.out 0 rfl
        have a1 := blkc HA2.out 1 rfl
        have a2 := blkc HA2.out 2 rfl
        have a3 := blkc HA2.out 3 rfl
        have a4 := blkc HA2.out 4 rfl
        go_wp2
        refine bodyPost_ret (results_tmp2 rfl _ _ _) rfl ?_
        exact ⟨A5, c5, by rw [HL.out]; rfl, fun _ => Y5.out, by rw [HL.out]; exact O7.out.from_ B2.out.size, B7.out⟩
      · have g1 := hR.trans (d4 e).1
        have g2 := hq.trans (d4 e).2
        have k1 : (f.k == 1) = false := by simp [e]
        have k2 : (f.k == 2) = false := by simp [e]
        have k3 : (f.k == 3) = false := by simp [e]
        have k4 : (f.k == 4) = true := by simp [e]
        obtain ⟨L, hL⟩ : ∃ L, L = cutR ps 256 f.a := ⟨_, rfl⟩
        obtain ⟨z, hz⟩ : ∃ z, z = cutS ps 256 f.a := ⟨_, rfl⟩
        obtain ⟨t, ht⟩ : ∃ t, t = (cutV ps 256 f.a).isSome := ⟨_, rfl⟩
        have HX : Hid (∀ W, Below w.heap.size w W → Calls Try.prog 42 #[.slice (some ⟨g, 0, none⟩) n c, .int .i64 256, .int .i64 f.a] W fun e w' => ∃ A' c', e = .returned (.tuple #[.slice A' L.length c', .int .i64 z, .bool t]) ∧ (t = true → A' ≠ none) ∧ OwnP w' W.heap.size A' L.length c' L ∧ Below W.heap.size W w') := fun W hbb => by
          rw [hL, hz, ht]
          exact sLiveCut_some g n c B ps 256 f.a W (h.below (hbb.mono hB)) (Nat.le_trans hB hbb.size) hm hW hc hc2
        unfold wrongR at g1
        rw [← ht] at g1 g2
        clear h hW hf hg hl hwf hR hq d1 d2 d3 d4 e hL hz ht
        cases t with
        | false =>
          simp only [Bool.false_eq_true, if_false, Bool.not_false] at g1 g2
          rw [g1, g2]
          clear g1 g2
          go_enter Try.func13, Try.ntmps13
          go_wp2_with fail
          refine (HK.out _ HB0.out).mono ?_
          rintro e w1 ⟨rfl, hb⟩
          obtain ⟨hn0, hb1, z1⟩ := nw1 hb
          have HA0 := Lib.hid hn0
          have B1 := Lib.hid hb1
          have a0 := blkc hn0 0 rfl
          have a1 := blkc hn0 1 rfl
          have a2 := blkc hn0 2 rfl
          have a3 := blkc hn0 3 rfl
          have a4 := blkc hn0 4 rfl
          clear hb hb1 hn0
          go_wp2_with fail
          refine (HG.out _).mono ?_
          rintro e w2 ⟨rfl, hb⟩
          have HA1 := Lib.hid ((hb.block _ (by omega)).trans HA0.out)
          have B2 := Lib.hid (B1.out.trans (hb.mono B1.out.size))
          have z2 : w.heap.size < w2.heap.size := by have := hb.size; omega
          clear a0 a1 a2 a3 a4 hb
          have HO : Hid (OwnP (w2.alloc (.cells #[] 71)) w2.heap.size (some ⟨w2.heap.size, 0, none⟩) 0 0 []) := World.ownsRow_made w2 #[] 0 (Nat.le_refl _) (Nat.zero_le _) (by simp)
          have HCc := Lib.hid (HC.out (w2.alloc (.cells #[] 71)) (B2.out.alloc B2.out.size _))
          go_wp2_with (at_builtin; refine wpList_cat_p2 rfl _ _ rfl w2.heap.size 0 0 _ [] ps g 0 n c rfl rfl HO.out HL.out HCc.out (by omega) (by simp) ?_)
          intro A5 c5 w5 O5 B5 X5
          have Y5 : Hid (A5 ≠ none) := (show A5 ≠ none from by first | exact X5.out | exact X5.out (Option.some_ne_none _))
          have B6 := Lib.hid (((Below.refl _ _).alloc (Nat.le_refl _) _).trans B5.out)
          have HA2 := Lib.hid ((B6.out.block _ (by omega)).trans HA1.out)
          have B7 := Lib.hid (B2.out.trans (B6.out.mono B2.out.size))
          have O7 : Hid (OwnP w5 w2.heap.size A5 n c5 ps) := (show OwnP w5 w2.heap.size A5 n c5 ps from by have := O5.out; simpa using this)
          clear HO HCc X5 B5 O5 HA0 HA1
          have a0 := blkc HA2.out 0 rfl
          have a1 := blkc HA2.out 1 rfl
          have a2 := blkc HA2.out 2 rfl
          have a3 := blkc HA2.out 3 rfl
          have a4 := blkc HA2.out 4 rfl
          go_wp2_with fail
          refine (HX.out _ B7.out).mono ?_
          rintro e w8 ⟨A', c', rfl, hne, ho, hb⟩
          have O8 := Lib.hid (ho.from_ B7.out.size)
          have B8 := Lib.hid (B7.out.trans (hb.mono B7.out.size))
          have N8 := Lib.hid hne
          have O9 := Lib.hid (O7.out.below hb)
          have HA3 := Lib.hid ((hb.block _ (by have := B6.out.size; omega)).trans HA2.out)
          clear ho hb hne a0 a1 a2 a3 a4
          have a0 := blkc HA3.out 0 rfl
          have a1 := blkc HA3.out 1 rfl
          have a2 := blkc HA3.out 2 rfl
          have a3 := blkc HA3.out 3 rfl
          have a4 := blkc HA3.out 4 rfl
          go_wp2
          refine bodyPost_ret (results_tmp2 rfl _ _ _) rfl ?_
          exact ⟨A5, c5, by rw [HL.out]; rfl, fun _ => Y5.out, by rw [HL.out]; exact O9.out.from_ B2.out.size, B8.out⟩
        | true =>
          simp only [if_true, Bool.not_true] at g1 g2
          subst g1 g2
          go_enter Try.func13, Try.ntmps13
          go_wp2_with fail
          refine (HK.out _ HB0.out).mono ?_
          rintro e w1 ⟨rfl, hb⟩
          obtain ⟨hn0, hb1, z1⟩ := nw1 hb
          have HA0 := Lib.hid hn0
          have B1 := Lib.hid hb1
          have a0 := blkc hn0 0 rfl
          have a1 := blkc hn0 1 rfl
          have a2 := blkc hn0 2 rfl
          have a3 := blkc hn0 3 rfl
          have a4 := blkc hn0 4 rfl
          clear hb hb1 hn0
          go_wp2_with fail
          refine (HG.out _).mono ?_
          rintro e w2 ⟨rfl, hb⟩
          have HA1 := Lib.hid ((hb.block _ (by omega)).trans HA0.out)
          have B2 := Lib.hid (B1.out.trans (hb.mono B1.out.size))
          have z2 : w.heap.size < w2.heap.size := by have := hb.size; omega
          clear a0 a1 a2 a3 a4 hb
          have HO : Hid (OwnP (w2.alloc (.cells #[] 71)) w2.heap.size (some ⟨w2.heap.size, 0, none⟩) 0 0 []) := World.ownsRow_made w2 #[] 0 (Nat.le_refl _) (Nat.zero_le _) (by simp)
          have HCc := Lib.hid (HC.out (w2.alloc (.cells #[] 71)) (B2.out.alloc B2.out.size _))
          go_wp2_with (at_builtin; refine wpList_cat_p2 rfl _ _ rfl w2.heap.size 0 0 _ [] ps g 0 n c rfl rfl HO.out HL.out HCc.out (by omega) (by simp) ?_)
          intro A5 c5 w5 O5 B5 X5
          have Y5 : Hid (A5 ≠ none) := (show A5 ≠ none from by first | exact X5.out | exact X5.out (Option.some_ne_none _))
          have B6 := Lib.hid (((Below.refl _ _).alloc (Nat.le_refl _) _).trans B5.out)
          have HA2 := Lib.hid ((B6.out.block _ (by omega)).trans HA1.out)
          have B7 := Lib.hid (B2.out.trans (B6.out.mono B2.out.size))
          have O7 : Hid (OwnP w5 w2.heap.size A5 n c5 ps) := (show OwnP w5 w2.heap.size A5 n c5 ps from by have := O5.out; simpa using this)
          clear HO HCc X5 B5 O5 HA0 HA1
          have a0 := blkc HA2.out 0 rfl
          have a1 := blkc HA2.out 1 rfl
          have a2 := blkc HA2.out 2 rfl
          have a3 := blkc HA2.out 3 rfl
          have a4 := blkc HA2.out 4 rfl
          go_wp2_with fail
          refine (HX.out _ B7.out).mono ?_
          rintro e w8 ⟨A', c', rfl, hne, ho, hb⟩
          have O8 := Lib.hid (ho.from_ B7.out.size)
          have B8 := Lib.hid (B7.out.trans (hb.mono B7.out.size))
          have N8 := Lib.hid hne
          have O9 := Lib.hid (O7.out.below hb)
          have HA3 := Lib.hid ((hb.block _ (by have := B6.out.size; omega)).trans HA2.out)
          clear ho hb hne a0 a1 a2 a3 a4
          have a0 := blkc HA3.out 0 rfl
          have a1 := blkc HA3.out 1 rfl
          have a2 := blkc HA3.out 2 rfl
          have a3 := blkc HA3.out 3 rfl
          have a4 := blkc HA3.out 4 rfl
          go_wp2
          refine bodyPost_ret (results_tmp2 rfl _ _ _) rfl ?_
          exact ⟨none, 0, rfl, (fun h => by cases h), OwnP.zero, B8.out⟩
    · rw [decide_eq_false hg] at HG
      obtain ⟨r1, r2⟩ := do_no (fun hh => hg hh.2 : ¬ (liveOkV ps 256 = true ∧ FactGood f))
      have r1 := hR.trans r1
      have r2 := hq.trans r2
      clear hR hq
      subst r1 r2
      clear h hW hf hg hl hwf hn
      go_enter Try.func13, Try.ntmps13
      go_wp2_with fail
      refine (HK.out _ HB0.out).mono ?_
      rintro e w1 ⟨rfl, hb⟩
      obtain ⟨hn0, hb1, z1⟩ := nw1 hb
      have HA0 := Lib.hid hn0
      have B1 := Lib.hid hb1
      have a0 := blkc hn0 0 rfl
      have a1 := blkc hn0 1 rfl
      have a2 := blkc hn0 2 rfl
      have a3 := blkc hn0 3 rfl
      have a4 := blkc hn0 4 rfl
      clear hb hb1 hn0
      go_wp2_with fail
      refine (HG.out _).mono ?_
      rintro e w2 ⟨rfl, hb⟩
      have B2 := Lib.hid (B1.out.trans (hb.mono B1.out.size))
      clear hb
      go_wp2
      refine bodyPost_ret (results_tmp2 rfl _ _ _) rfl ?_
      exact ⟨none, 0, rfl, (fun h => by cases h), OwnP.zero, B2.out⟩
  · have hl' : liveOkV ps 256 = false := by simpa using hl
    rw [hl'] at HK
    obtain ⟨r1, r2⟩ := do_no (fun hh => hl hh.1 : ¬ (liveOkV ps 256 = true ∧ FactGood f))
    have r1 := hR.trans r1
    have r2 := hq.trans r2
    clear hR hq
    subst r1 r2
    clear h hW hf hl hl' hwf
    go_enter Try.func13, Try.ntmps13
    go_wp2_with fail
    refine (HK.out _ HB0.out).mono ?_
    rintro e w1 ⟨rfl, hb⟩
    have B1 := Lib.hid (HB0.out.trans (hb.mono HB0.out.size))
    clear hb
    go_wp2
    refine bodyPost_ret (results_tmp2 rfl _ _ _) rfl ?_
    exact ⟨none, 0, rfl, (fun h => by cases h), OwnP.zero, B1.out⟩

end Go.Proofs.Ythcchnaoenjhlaa
