/- The contract of the model's l08Owners. -/
import Derived.Test.YtefcaeldkdbjdaaGreatMachI
import Derived.Test.YtefcaeldkdbjdaaGreatClaimM
import Derived.LoopN
namespace Go.Proofs.YtefcaeldkdbjdaaGreat
open Go.RowKit
set_option linter.unusedVariables false

theorem heads_none {H : Nat → Bool} {O : List Int} {ws : List Nat} {C : List (Nat × Int)} {k n : Nat} (h : putsP H O (headC ws k) = none) (hk : k ≤ n) : putsP H O (headC ws n ++ C) = none := by
  have h2 : putsP H O (headC ws n) = none := by
    induction n with
    | zero => obtain rfl : k = 0 := by omega
              exact h
    | succ n ih =>
      rcases Nat.lt_or_ge k (n + 1) with h1 | h1
      · rw [headC, putsP_app, ih (by omega)]; rfl
      · obtain rfl : k = n + 1 := by omega
        exact h
  rw [putsP_app, h2]; rfl
theorem both_none {H : Nat → Bool} {O : List Int} {vs : List (Nat × Nat)} {C : List (Nat × Int)} {k m : Nat} (h : putsP H O (C ++ warpC vs k) = none) (hk : k ≤ m) : putsP H O (C ++ warpC vs m) = none := by
  rw [putsP_app] at h ⊢
  cases hc : putsP H O C with
  | none => rfl
  | some O' =>
    rw [hc] at h
    simp only [Option.bind_some] at h ⊢
    exact warps_none h hk
/-- One more claim of a run. -/
theorem run_step {H : Nat → Bool} {O O' : List Int} {v : Int} {a j p : Nat} (h : putsP H O (runC v a j) = some O') (hp : p = a + j) : putsP H O (runC v a (j + 1)) = putP H O' (p, v) := by
  rw [runC_next, putsP_app, h, Option.bind_some, ← hp]
  simp only [putsP]
  cases putP H O' (p, v) <;> rfl
theorem run_none {H : Nat → Bool} {O : List Int} {v : Int} {a j k : Nat} (h : putsP H O (runC v a j) = none) (hj : j ≤ k) : putsP H O (runC v a k) = none := by
  obtain ⟨D, hD⟩ := runC_pre v a hj
  rw [hD, putsP_app, h]; rfl

/-- What is known between the loops: the machine's variable, the list of owners. -/
def OwnRel (w : World) (A : Option Addr) (n c : Nat) (B : Option Addr) (m d : Nat) (Ao : Option Addr) (co : Nat) (O : List Int) (wr : World) : Prop :=
  wr.heap[w.heap.size]? = some (.cells #[.slice A n c, .slice B m d] 37 (0, 0)) ∧ OwnK 3 .i64 wr (w.heap.size + 1) Ao n co O ∧ Below w.heap.size w wr
theorem OwnRel.next {w wr w2 : World} {A : Option Addr} {n c : Nat} {B : Option Addr} {m d : Nat} {Ao : Option Addr} {co : Nat} {O : List Int} (h : OwnRel w A n c B m d Ao co O wr) (hb : Below wr.heap.size wr w2) : OwnRel w A n c B m d Ao co O w2 :=
  ⟨(hb.block _ (Array.getElem?_eq_some_iff.1 h.1).1).trans h.1, h.2.1.below hb, h.2.2.trans (hb.mono h.2.2.size)⟩
theorem OwnRel.set {w wr : World} {A : Option Addr} {n c : Nat} {B : Option Addr} {m d go co p : Nat} {O : List Int} {v : Int} (h : OwnRel w A n c B m d (some ⟨go, 0, none⟩) co O wr) (hg : w.heap.size + 1 ≤ go) : OwnRel w A n c B m d (some ⟨go, 0, none⟩) co (O.set p v) (wr.setCell ⟨go, p, none⟩ (.int .i64 v)) :=
  ⟨(Below.heap_setCell wr ⟨go, p, none⟩ _ w.heap.size (by show _ ≠ go; omega)).trans h.1, h.2.1.store, h.2.2.setCell (by show _ ≤ go; omega) _⟩

set_option maxRecDepth 100000 in
set_option maxHeartbeats 16000000 in
theorem l08Owners_any (A : Option Addr) (n c Q1 : Nat) (ws : List Nat) (B : Option Addr) (m d Q2 : Nat) (xs : List Wc) (V : Nat → WV) (w : World) (h1 : Rd w Q1 A n (ints ws)) (hQ1 : Q1 ≤ w.heap.size) (hX : ∀ X ∈ ws, X < 4294967296) (hn16 : n ≤ 16) (h2 : RdW w Q2 B m xs) (hQ2 : Q2 ≤ w.heap.size) (hm4 : m ≤ 4) (hV : ∀ i, i < m → (wat xs i).v = V i) (hhd : ∀ i, i < m → 0 ≤ (V i).pr ∧ (V i).pr ≤ 16 ∧ 0 ≤ (V i).hd ∧ (V i).hd ≤ 16) :
    Calls Tryz.prog 34 #[.agg #[.slice A n c, .slice B m d]] w fun e w' => ∃ Ao k co, e = .returned (.tuple #[.slice Ao k co, .bool (ownS ws (heldL V m)).isSome]) ∧ (∀ O, ownS ws (heldL V m) = some O → k = n ∧ OwnK 3 .i64 w' w.heap.size Ao k co O) ∧ Below w.heap.size w w' := by
  have hl : ws.length = n := by rw [← intsW_len]; exact h1.1
  have H1 := Lib.hid h1
  have H2 := Lib.hid h2
  have HX := Lib.hid hX
  have HV := Lib.hid hV
  have HL := Lib.hid hl
  have HHD := Lib.hid hhd
  have HS : Hid (ownS ws (heldL V m) = (putsP (fun _ => true) (emptyO n) (headC ws n ++ warpC (heldL V m) m)).bind fun O => if FitAll ws O n then some O else none) := by
    show _ = _
    unfold ownS
    rw [hl, heldL_len]
  clear h1 h2 hX hV hl hhd
  go_enter Tryz.func34, Tryz.ntmps34
  go_wp2
  have HA0 : Hid (((w.alloc (.cells #[.slice A n c, .slice B m d] 37)).alloc (.cells #[] 3)).heap[w.heap.size]? = some (.cells #[.slice A n c, .slice B m d] 37 (0, 0))) := ((bel1 _ _).block _ (by rw [sz1]; omega)).trans (heap_alloc_new _ _)
  have HO0 : Hid (OwnK 3 .i64 ((w.alloc (.cells #[.slice A n c, .slice B m d] 37)).alloc (.cells #[] 3)) (w.heap.size + 1) (some ⟨w.heap.size + 1, 0, none⟩) 0 0 []) := by
    have h := World.ownsRow_made (e := 3) (size := 1) (w.alloc (.cells #[.slice A n c, .slice B m d] 37)) #[] 0 (Nat.le_refl _) (Nat.zero_le _) (by simp)
    rw [sz1] at h
    exact h
  have HB0 := Lib.hid (bel2 w (.cells #[.slice A n c, .slice B m d] 37) (.cells #[] 3))
  go_loopw [5, 6] (fun s i wr => ∃ (k : Nat) (Ao : Option Addr) (co : Nat), k ≤ n ∧ i = .int .i64 (k : Int) ∧ s = .slice Ao k co ∧ Hid (OwnK 3 .i64 wr (w.heap.size + 1) Ao k co (List.replicate k (-1))) ∧ Hid (wr.heap[w.heap.size]? = some (.cells #[.slice A n c, .slice B m d] 37 (0, 0))) ∧ Hid (Below w.heap.size w wr)) (fun _ i _ => n - (intOf i).toNat)
  case atStart => exact ⟨0, _, _, Nat.zero_le _, rfl, rfl, HO0, HA0, HB0⟩
  case round =>
    obtain ⟨k, Ao, co, hk, rfl, rfl, HOr, HAr, HBr⟩ := hrel
    clear HO0 HA0 HB0
    have zA : w.heap.size < wr.heap.size := (Array.getElem?_eq_some_iff.1 HAr.out).1
    by_cases hlt : k < n
    · have hz : w.heap.size + 1 ≤ wr.heap.size := zA
      go_wp2_with (at_builtin; refine wpList_push_int rfl _ _ rfl (w.heap.size + 1) k co Ao (List.replicate k (-1)) (-1) rfl rfl HOr.out (by omega) hz ?_; intro A' c' w' HO' HB')
      have HN : Hid (OwnK 3 .i64 w' (w.heap.size + 1) A' (k + 1) c' (List.replicate (k + 1) (-1))) := by
        have := HO'.out
        rwa [← List.replicate_succ'] at this
      have HM := Lib.hid (HBr.out.trans (HB'.out.mono (by omega)))
      have HA' := Lib.hid ((HB'.out.block _ (by omega)).trans HAr.out)
      clear HO' HB' HOr HBr HAr
      go_roundw
      case rel => exact ⟨k + 1, A', c', by omega, by go_num, rfl, HN, HA', HM⟩
      case measure => simp [intOf]; omega
    · obtain rfl : k = n := by omega
      have R0 : Hid (OwnRel w A k c B m d Ao co (emptyO k) wr) := ⟨HAr.out, HOr.out, HBr.out⟩
      clear HOr HAr HBr
      go_wp2
      go_loopw [7] (fun i wr => ∃ (i' : Nat) (O' : List Int), i' ≤ k ∧ i = .int .i64 (i' : Int) ∧ Hid (putsP (fun _ => true) (emptyO k) (headC ws i') = some O') ∧ Hid (OwnRel w A k c B m d Ao co O' wr)) (fun i _ => k - (intOf i).toNat)
      case atStart => exact ⟨0, _, Nat.zero_le _, rfl, rfl, R0⟩
      case round =>
        obtain ⟨i, O1, hi, rfl, HP, R⟩ := hrel
        clear R0
        have a0 := blkc R.out.1 0 rfl
        have a1 := blkc R.out.1 1 rfl
        have zA : w.heap.size < wr.heap.size := (Array.getElem?_eq_some_iff.1 R.out.1).1
        by_cases hlt : i < k
        · obtain ⟨g, o, rfl, hgB, hcell⟩ := H1.out.2 (by omega)
          obtain ⟨go, hgo, hgo1, hgo2⟩ := R.out.2.1.form (by omega)
          subst hgo
          have c1 : wr.cell? ⟨g, o + i, none⟩ = some (.int .u32 ((ws[i]?.getD 0 : Nat) : Int)) := by
            rw [← intsW_at]; exact (R.out.2.2.cell (p := ⟨g, o + i, none⟩) (by show g < _; omega)).trans (hcell i hlt)
          have HC := Lib.hid (fun W => sCtlRead_any (ws[i]?.getD 0) W (word_lt HX.out i))
          have hst : ((readN (ws[i]?.getD 0) (stOf (ws[i]?.getD 0)) : Nat) : Int) = ((stW ws i : Nat) : Int) := rfl
          have hrn : ((readN (ws[i]?.getD 0) (rnOf (ws[i]?.getD 0)) : Nat) : Int) = ((rnW ws i : Nat) : Int) := rfl
          have hr16 : rnW ws i ≤ 16 := by rcases stW_cases ws i with h | h | h | h <;> omega
          unfold readV at HC
          rw [hst, hrn] at HC
          clear hcell hst hrn
          generalize ws[i]?.getD 0 = X at *
          generalize ((stW ws i : Nat) : Int) = st at *
          generalize ((readN X (clOf X) : Nat) : Int) = cl at *
          generalize ((readN X (mpOf X) : Nat) : Int) = mp at *
          generalize decide (GoodX X) = gd at *
          go_wp2_with fail
          refine (HC.out _).mono ?_
          rintro e w2 ⟨rfl, hb⟩
          have R2 := Lib.hid ((R.out.next hb).next (bel1 w2 (.cells #[.int .i64 st, .int .i64 cl, .int .u32 mp, .int .i64 ((rnW ws i : Nat) : Int)] 74)))
          have z2 := hb.size
          have HC2 : Hid ((w2.alloc (.cells #[.int .i64 st, .int .i64 cl, .int .u32 mp, .int .i64 ((rnW ws i : Nat) : Int)] 74)).heap[w2.heap.size]? = some (.cells #[.int .i64 st, .int .i64 cl, .int .u32 mp, .int .i64 ((rnW ws i : Nat) : Int)] 74 (0, 0))) := heap_alloc_new _ _
          clear hb R HC a0 a1 c1
          go_wp2
          go_loopw [10] (fun s wr => ∃ (j : Nat) (O2 : List Int), j ≤ rnW ws i ∧ s = .int .i64 (j : Int) ∧ Hid (putsP (fun _ => true) O1 (runC (-2) i j) = some O2) ∧ Hid (OwnRel w (some ⟨g, o, none⟩) k c B m d (some ⟨go, 0, none⟩) co O2 wr) ∧ Hid (wr.heap[w2.heap.size]? = some (.cells #[.int .i64 st, .int .i64 cl, .int .u32 mp, .int .i64 ((rnW ws i : Nat) : Int)] 74 (0, 0)))) (fun s _ => rnW ws i - (intOf s).toNat)
          case atStart => exact ⟨0, O1, Nat.zero_le _, rfl, rfl, R2, HC2⟩
          case round =>
            obtain ⟨j, O2, hj, rfl, HP2, R3, HC3⟩ := hrel
            clear R2 HC2
            have s3 := blkc HC3.out 3 rfl
            by_cases hjr : j < rnW ws i
            · obtain ⟨p, hp⟩ : ∃ p, p = i + j := ⟨_, rfl⟩
              have hstep := run_step HP2.out hp
              have wp : IntKind.i64.wrap ((i : Int) + (j : Int)) = (p : Int) := by rw [IntWalk.i64_in _ (by omega)]; omega
              have hnone : ¬ O2[p]? = some (-1) → Hid (ownS ws (heldL V m) = none) := fun h => by
                show _ = _
                have e1 : putsP (fun _ => true) O1 (runC (-2) i (j + 1)) = none := by rw [hstep]; simp [putP, h]
                have e2 : putsP (fun _ => true) (emptyO k) (headC ws (i + 1)) = none := by rw [headC, putsP_app, HP.out]; exact run_none e1 (by omega)
                rw [HS.out, heads_none e2 (by omega)]; rfl
              have hol : O2.length = k := by have := R3.out.2.1.1; simpa using this
              by_cases hpk : p < k
              · have n1 : ¬ (k : Int) ≤ (p : Int) := by omega
                have c2 : wr.cell? ⟨go, p, none⟩ = some (.int .i64 (O2[p]?.getD 0)) := R3.out.2.1.cell rfl hpk
                have f2 := R3.out.2.1.free rfl p
                have hO1 : O2[p]?.getD 0 = -1 ↔ O2[p]? = some (-1) := by rw [List.getElem?_eq_getElem (by omega)]; simp
                by_cases hy : O2[p]? = some (-1)
                · have HN : Hid (putsP (fun _ => true) O1 (runC (-2) i (j + 1)) = some (O2.set p (-2))) := by
                    show _ = _
                    rw [hstep]; simp [putP, hy]
                  have hy1 : ((O2[p]?.getD 0) != -1) = false := by rw [hO1.2 hy]; rfl
                  have hy2 : O2[p]?.getD 0 = -1 := hO1.2 hy
                  have R4 : Hid (OwnRel w (some ⟨g, o, none⟩) k c B m d (some ⟨go, 0, none⟩) co (O2.set p (-2)) (wr.setCell ⟨go, p, none⟩ (.int .i64 (-2)))) := R3.out.set hgo1
                  have HC4 : Hid ((wr.setCell ⟨go, p, none⟩ (.int .i64 (-2))).heap[w2.heap.size]? = some (.cells #[.int .i64 st, .int .i64 cl, .int .u32 mp, .int .i64 ((rnW ws i : Nat) : Int)] 74 (0, 0))) := (Below.heap_setCell wr ⟨go, p, none⟩ _ w2.heap.size (by show _ ≠ go; omega)).trans HC3.out
                  rw [hy2] at c2
                  clear hO1 hy hy1 hy2 hnone hstep hp HP2 R3 HC3
                  go_wp2
                  go_roundw
                  case rel => exact ⟨j + 1, _, by omega, by go_num, HN, R4, HC4⟩
                  case measure => simp [intOf]; omega
                · have HN := hnone hy
                  have hy1 : ((O2[p]?.getD 0) != -1) = true := by simpa using fun h => hy (hO1.1 h)
                  generalize O2[p]?.getD 0 = y at *
                  have BB := Lib.hid R3.out.2.2
                  clear hO1 hy hnone hstep hp HP2 R3 HC3
                  go_wp2
                  go_ret2
                  refine ⟨none, 0, 0, by rw [HN.out]; rfl, fun O h => ?_, BB.out⟩
                  rw [HN.out] at h; cases h
              · have n1 : (k : Int) ≤ (p : Int) := by omega
                have HN := hnone (fun h => by have := (List.getElem?_eq_some_iff.1 h).1; omega)
                have BB := Lib.hid R3.out.2.2
                clear hnone hstep hp HP2 R3 HC3
                go_wp2
                go_ret2
                refine ⟨none, 0, 0, by rw [HN.out]; rfl, fun O h => ?_, BB.out⟩
                rw [HN.out] at h; cases h
            · obtain rfl : j = rnW ws i := by omega
              have HN : Hid (putsP (fun _ => true) (emptyO k) (headC ws (i + 1)) = some O2) := by
                show _ = _
                rw [headC, putsP_app, HP.out]; exact HP2.out
              clear HP HP2 HC3
              go_wp2
              go_roundw
              case rel => exact ⟨i + 1, O2, by omega, by go_num, HN, R3⟩
              case measure => simp [intOf]; omega
        · obtain rfl : i = k := by omega
          go_wp2
          clear a0 a1
          go_loopw [11] (fun s wr => ∃ (u : Nat) (O2 : List Int), u ≤ m ∧ s = .int .i64 (u : Int) ∧ Hid (putsP (fun _ => true) (emptyO i) (headC ws i ++ warpC (heldL V m) u) = some O2) ∧ Hid (OwnRel w A i c B m d Ao co O2 wr)) (fun s _ => m - (intOf s).toNat)
          case atStart => exact ⟨0, O1, Nat.zero_le _, rfl, by have := HP.out; simpa [warpC, Hid] using this, R⟩
          case round =>
            obtain ⟨u, O2, hu, rfl, HP2, R2⟩ := hrel
            clear HP R
            have a0 := blkc R2.out.1 0 rfl
            have a1 := blkc R2.out.1 1 rfl
            have zA2 : w.heap.size < wr.heap.size := (Array.getElem?_eq_some_iff.1 R2.out.1).1
            by_cases hul : u < m
            · obtain ⟨g2, o2, rfl, hg2, e8⟩ := H2.out.at8 hul
              have hv := HV.out u hul
              have hh := HHD.out u hul
              obtain ⟨a, ha⟩ : ∃ a : Nat, a = (V u).pr.toNat := ⟨_, rfl⟩
              obtain ⟨q, hq⟩ : ∃ q : Nat, q = (V u).hd.toNat := ⟨_, rfl⟩
              have e5 : (V u).pr = (a : Int) := by omega
              have e6 : (V u).hd = (q : Int) := by omega
              have ha1 : a ≤ 16 := by omega
              have hq1 : q ≤ 16 := by omega
              have HE8 : Hid (At8 w g2 (o2 + u * 8) (wat xs u)) := e8
              have HC5 : Hid (∀ W, Below w.heap.size w W → W.cell? ⟨g2, o2 + u * 8 + 5, none⟩ = some (.int .i64 (a : Int)) ∧ W.cell? ⟨g2, o2 + u * 8 + 6, none⟩ = some (.int .i64 (q : Int))) := fun W hb => by
                have e9 := HE8.out.below (hb.mono hQ2) hg2
                unfold At8 at e9
                rw [hv, e5, e6] at e9
                exact ⟨e9.2.2.2.2.2.1, e9.2.2.2.2.2.2.1⟩
              have hW : warpC (heldL V m) (u + 1) = warpC (heldL V m) u ++ runC (u : Int) a q := by rw [warpC, heldL_at hul, ha, hq]
              clear e8 hv hh ha hq e5 e6 HE8
              go_wp2
              clear a0 a1
              go_loopw [12] (fun s wr => ∃ (j : Nat) (O3 : List Int), j ≤ q ∧ s = .int .i64 (j : Int) ∧ Hid (putsP (fun _ => true) O2 (runC (u : Int) a j) = some O3) ∧ Hid (OwnRel w A i c (some ⟨g2, o2, none⟩) m d Ao co O3 wr)) (fun s _ => q - (intOf s).toNat)
              case atStart => exact ⟨0, O2, Nat.zero_le _, rfl, rfl, R2⟩
              case round =>
                obtain ⟨j, O3, hj, rfl, HP3, R3⟩ := hrel
                clear R2
                have a0 := blkc R3.out.1 0 rfl
                have a1 := blkc R3.out.1 1 rfl
                obtain ⟨c5, c6⟩ := HC5.out _ R3.out.2.2
                by_cases hjr : j < q
                · obtain ⟨p, hp⟩ : ∃ p, p = a + j := ⟨_, rfl⟩
                  have hstep := run_step HP3.out hp
                  have wp : IntKind.i64.wrap ((a : Int) + (j : Int)) = (p : Int) := by rw [IntWalk.i64_in _ (by omega)]; omega
                  have hnone : ¬ O3[p]? = some (-1) → Hid (ownS ws (heldL V m) = none) := fun h => by
                    show _ = _
                    have e1 : putsP (fun _ => true) O2 (runC (u : Int) a (j + 1)) = none := by rw [hstep]; simp [putP, h]
                    have e2 : putsP (fun _ => true) (emptyO i) (headC ws i ++ warpC (heldL V m) (u + 1)) = none := by rw [hW, ← List.append_assoc, putsP_app, HP2.out]; exact run_none e1 (by omega)
                    rw [HS.out, both_none e2 (by omega)]; rfl
                  have hol : O3.length = i := by have := R3.out.2.1.1; simpa using this
                  by_cases hpk : p < i
                  · have n1 : ¬ (i : Int) ≤ (p : Int) := by omega
                    obtain ⟨go, hgo, hgo1, hgo2⟩ := R3.out.2.1.form (by omega)
                    subst hgo
                    have c2 : wr.cell? ⟨go, p, none⟩ = some (.int .i64 (O3[p]?.getD 0)) := R3.out.2.1.cell rfl hpk
                    have f2 := R3.out.2.1.free rfl p
                    have hO1 : O3[p]?.getD 0 = -1 ↔ O3[p]? = some (-1) := by rw [List.getElem?_eq_getElem (by omega)]; simp
                    by_cases hy : O3[p]? = some (-1)
                    · have HN : Hid (putsP (fun _ => true) O2 (runC (u : Int) a (j + 1)) = some (O3.set p (u : Int))) := by
                        show _ = _
                        rw [hstep]; simp [putP, hy]
                      have hy2 : O3[p]?.getD 0 = -1 := hO1.2 hy
                      have R4 : Hid (OwnRel w A i c (some ⟨g2, o2, none⟩) m d (some ⟨go, 0, none⟩) co (O3.set p (u : Int)) (wr.setCell ⟨go, p, none⟩ (.int .i64 (u : Int)))) := R3.out.set hgo1
                      rw [hy2] at c2
                      clear hO1 hy hy2 hnone hstep hp HP3 R3
                      go_wp2
                      go_roundw
                      case rel => exact ⟨j + 1, _, by omega, by go_num, HN, R4⟩
                      case measure => simp [intOf]; omega
                    · have HN := hnone hy
                      have hy1 : ((O3[p]?.getD 0) != -1) = true := by simpa using fun h => hy (hO1.1 h)
                      generalize O3[p]?.getD 0 = y at *
                      have BB := Lib.hid R3.out.2.2
                      clear hO1 hy hnone hstep hp HP3 R3
                      go_wp2
                      go_ret2
                      refine ⟨none, 0, 0, by rw [HN.out]; rfl, fun O h => ?_, BB.out⟩
                      rw [HN.out] at h; cases h
                  · have n1 : (i : Int) ≤ (p : Int) := by omega
                    have HN := hnone (fun h => by have := (List.getElem?_eq_some_iff.1 h).1; omega)
                    have BB := Lib.hid R3.out.2.2
                    clear hnone hstep hp HP3 R3
                    go_wp2
                    go_ret2
                    refine ⟨none, 0, 0, by rw [HN.out]; rfl, fun O h => ?_, BB.out⟩
                    rw [HN.out] at h; cases h
                · obtain rfl : j = q := by omega
                  have HN : Hid (putsP (fun _ => true) (emptyO i) (headC ws i ++ warpC (heldL V m) (u + 1)) = some O3) := by
                    show _ = _
                    rw [hW, ← List.append_assoc, putsP_app, HP2.out]; exact HP3.out
                  clear HP2 HP3
                  go_wp2
                  go_roundw
                  case rel => exact ⟨u + 1, O3, by omega, by go_num, HN, R3⟩
                  case measure => simp [intOf]; omega
            · obtain rfl : u = m := by omega
              have HS2 : Hid (ownS ws (heldL V u) = if FitAll ws O2 i then some O2 else none) := by
                show _ = _
                rw [HS.out, HP2.out]; rfl
              have hol : O2.length = i := by have := R2.out.2.1.1; simpa using this
              clear HS HP2 HHD H2 HV
              go_wp2
              clear a0 a1
              go_loopw [14] (fun s wr => ∃ (x : Nat), x ≤ i ∧ s = .int .i64 (x : Int) ∧ Hid (∀ z, z < x → FitO ws O2 z) ∧ Hid (OwnRel w A i c B u d Ao co O2 wr)) (fun s _ => i - (intOf s).toNat)
              case atStart => exact ⟨0, Nat.zero_le _, rfl, fun z hz => absurd hz (by omega), R2⟩
              case round =>
                obtain ⟨x, hx, rfl, HFt, R3⟩ := hrel
                clear R2
                have a0 := blkc R3.out.1 0 rfl
                have a1 := blkc R3.out.1 1 rfl
                by_cases hxl : x < i
                · obtain ⟨g, o, rfl, hgB, hcell⟩ := H1.out.2 (by omega)
                  obtain ⟨go, hgo, hgo1, hgo2⟩ := R3.out.2.1.form (by omega)
                  subst hgo
                  have c1 : wr.cell? ⟨g, o + x, none⟩ = some (.int .u32 ((ws[x]?.getD 0 : Nat) : Int)) := by
                    rw [← intsW_at]; exact (R3.out.2.2.cell (p := ⟨g, o + x, none⟩) (by show g < _; omega)).trans (hcell x hxl)
                  have HC := Lib.hid (fun W => sCtlRead_any (ws[x]?.getD 0) W (word_lt HX.out x))
                  have hst : ((readN (ws[x]?.getD 0) (stOf (ws[x]?.getD 0)) : Nat) : Int) = ((stW ws x : Nat) : Int) := rfl
                  unfold readV at HC
                  rw [hst] at HC
                  have hol2 : x < O2.length := by omega
                  have hO : O2[x]? = some (O2[x]?.getD 0) := by rw [List.getElem?_eq_getElem hol2]; simp
                  have HFO : Hid (FitO ws O2 x ↔ ¬ (((O2[x]?.getD 0) = -1 ∧ (stW ws x = 3 ∨ stW ws x = 2)) ∨ (0 ≤ (O2[x]?.getD 0) ∧ stW ws x ≠ 3) ∨ ((O2[x]?.getD 0) = -2 ∧ stW ws x ≠ 3 ∧ stW ws x ≠ 2))) := by
                    show _ ↔ _
                    unfold FitO
                    rw [List.getElem?_eq_getElem hol2]
                    simp
                  have HNext : Hid (FitO ws O2 x → ∀ z, z < x + 1 → FitO ws O2 z) := fun h z hz => by
                    by_cases e : z = x
                    · subst e; exact h
                    · exact HFt.out z (by omega)
                  have HStop : Hid (¬ FitO ws O2 x → ownS ws (heldL V u) = none) := fun h => by
                    rw [HS2.out, if_neg (fun h2 => h (h2 x hxl))]
                  clear hcell hst hO HFt
                  generalize ws[x]?.getD 0 = X at *
                  generalize ((readN X (clOf X) : Nat) : Int) = cl at *
                  generalize ((readN X (mpOf X) : Nat) : Int) = mp at *
                  generalize ((readN X (rnOf X) : Nat) : Int) = rn at *
                  generalize decide (GoodX X) = gd at *
                  have c2 : ∀ W, Below wr.heap.size wr W → W.cell? ⟨go, x, none⟩ = some (.int .i64 (O2[x]?.getD 0)) := fun W hb => (R3.out.next hb).2.1.cell rfl hxl
                  have C2 := Lib.hid c2
                  clear c2
                  generalize O2[x]?.getD 0 = y at *
                  go_wp2_with fail
                  refine (HC.out _).mono ?_
                  rintro e w2 ⟨rfl, hb⟩
                  have z2 := hb.size
                  have hgw : go < w2.heap.size := by omega
                  have c2 : w2.cell? ⟨go, x, none⟩ = some (.int .i64 y) := C2.out _ hb
                  have R4 := Lib.hid ((R3.out.next hb).next (bel1 w2 (.cells #[.int .i64 ((stW ws x : Nat) : Int), .int .i64 cl, .int .u32 mp, .int .i64 rn] 74)))
                  have hsz2 : ¬ go = w2.heap.size := by omega
                  clear hb R3 HC a0 a1 c1 C2
                  have hyc : y = -1 ∨ 0 ≤ y ∨ y = -2 ∨ y < -2 := by omega
                  have hsc : stW ws x = 3 ∨ stW ws x = 2 ∨ (stW ws x ≠ 3 ∧ stW ws x ≠ 2) := by omega
                  rcases hyc with hyk | hyk | hyk | hyk
                  · rcases hsc with hsk | hsk | hsk
                    · have b1 : (y == -1) = true := by simp [hyk]
                      have b2 : ¬ (0 : Int) ≤ y := by omega
                      have b4 : (y == -2) = false := by simp; omega
                      have d1 : (((stW ws x : Nat) : Int) == 3) = true := by simp [hsk]
                      have d2 : (((stW ws x : Nat) : Int) == 2) = false := by simp [hsk]
                      have HN := Lib.hid (HStop.out (fun h => HFO.out.1 h (by omega)))
                      clear hyk hsk HNext HStop HFO
                      generalize ((stW ws x : Nat) : Int) = st at *
                      go_wp2
                      go_ret2
                      refine ⟨none, 0, 0, by rw [HN.out]; rfl, fun O h => ?_, R4.out.2.2⟩
                      rw [HN.out] at h; cases h
                    · have b1 : (y == -1) = true := by simp [hyk]
                      have b2 : ¬ (0 : Int) ≤ y := by omega
                      have b4 : (y == -2) = false := by simp; omega
                      have d1 : (((stW ws x : Nat) : Int) == 3) = false := by simp [hsk]
                      have d2 : (((stW ws x : Nat) : Int) == 2) = true := by simp [hsk]
                      have HN := Lib.hid (HStop.out (fun h => HFO.out.1 h (by omega)))
                      clear hyk hsk HNext HStop HFO
                      generalize ((stW ws x : Nat) : Int) = st at *
                      go_wp2
                      go_ret2
                      refine ⟨none, 0, 0, by rw [HN.out]; rfl, fun O h => ?_, R4.out.2.2⟩
                      rw [HN.out] at h; cases h
                    · have b1 : (y == -1) = true := by simp [hyk]
                      have b2 : ¬ (0 : Int) ≤ y := by omega
                      have b4 : (y == -2) = false := by simp; omega
                      have d1 : (((stW ws x : Nat) : Int) == 3) = false := by simp; omega
                      have d2 : (((stW ws x : Nat) : Int) == 2) = false := by simp; omega
                      have HN := Lib.hid (HNext.out (HFO.out.2 (by omega)))
                      clear hyk hsk HNext HStop HFO
                      generalize ((stW ws x : Nat) : Int) = st at *
                      go_wp2
                      go_roundw
                      case rel => exact ⟨x + 1, by omega, by go_num, HN, R4⟩
                      case measure => simp [intOf]; omega
                  · rcases hsc with hsk | hsk | hsk
                    · have b1 : (y == -1) = false := by simp; omega
                      have b2 : ¬ y < 0 := by omega
                      have b3 : (0 : Int) ≤ y := hyk
                      have b4 : (y == -2) = false := by simp; omega
                      have d1 : (((stW ws x : Nat) : Int) == 3) = true := by simp [hsk]
                      have d2 : (((stW ws x : Nat) : Int) == 2) = false := by simp [hsk]
                      have HN := Lib.hid (HNext.out (HFO.out.2 (by omega)))
                      clear hyk hsk HNext HStop HFO
                      generalize ((stW ws x : Nat) : Int) = st at *
                      go_wp2
                      go_roundw
                      case rel => exact ⟨x + 1, by omega, by go_num, HN, R4⟩
                      case measure => simp [intOf]; omega
                    · have b1 : (y == -1) = false := by simp; omega
                      have b2 : ¬ y < 0 := by omega
                      have b3 : (0 : Int) ≤ y := hyk
                      have b4 : (y == -2) = false := by simp; omega
                      have d1 : (((stW ws x : Nat) : Int) == 3) = false := by simp [hsk]
                      have d2 : (((stW ws x : Nat) : Int) == 2) = true := by simp [hsk]
                      have HN := Lib.hid (HStop.out (fun h => HFO.out.1 h (by omega)))
                      clear hyk hsk HNext HStop HFO
                      generalize ((stW ws x : Nat) : Int) = st at *
                      go_wp2
                      go_ret2
                      refine ⟨none, 0, 0, by rw [HN.out]; rfl, fun O h => ?_, R4.out.2.2⟩
                      rw [HN.out] at h; cases h
                    · have b1 : (y == -1) = false := by simp; omega
                      have b2 : ¬ y < 0 := by omega
                      have b3 : (0 : Int) ≤ y := hyk
                      have b4 : (y == -2) = false := by simp; omega
                      have d1 : (((stW ws x : Nat) : Int) == 3) = false := by simp; omega
                      have d2 : (((stW ws x : Nat) : Int) == 2) = false := by simp; omega
                      have HN := Lib.hid (HStop.out (fun h => HFO.out.1 h (by omega)))
                      clear hyk hsk HNext HStop HFO
                      generalize ((stW ws x : Nat) : Int) = st at *
                      go_wp2
                      go_ret2
                      refine ⟨none, 0, 0, by rw [HN.out]; rfl, fun O h => ?_, R4.out.2.2⟩
                      rw [HN.out] at h; cases h
                  · rcases hsc with hsk | hsk | hsk
                    · have b1 : (y == -1) = false := by simp; omega
                      have b2 : ¬ (0 : Int) ≤ y := by omega
                      have b4 : (y == -2) = true := by simp [hyk]
                      have d1 : (((stW ws x : Nat) : Int) == 3) = true := by simp [hsk]
                      have d2 : (((stW ws x : Nat) : Int) == 2) = false := by simp [hsk]
                      have HN := Lib.hid (HNext.out (HFO.out.2 (by omega)))
                      clear hyk hsk HNext HStop HFO
                      generalize ((stW ws x : Nat) : Int) = st at *
                      go_wp2
                      go_roundw
                      case rel => exact ⟨x + 1, by omega, by go_num, HN, R4⟩
                      case measure => simp [intOf]; omega
                    · have b1 : (y == -1) = false := by simp; omega
                      have b2 : ¬ (0 : Int) ≤ y := by omega
                      have b4 : (y == -2) = true := by simp [hyk]
                      have d1 : (((stW ws x : Nat) : Int) == 3) = false := by simp [hsk]
                      have d2 : (((stW ws x : Nat) : Int) == 2) = true := by simp [hsk]
                      have HN := Lib.hid (HNext.out (HFO.out.2 (by omega)))
                      clear hyk hsk HNext HStop HFO
                      generalize ((stW ws x : Nat) : Int) = st at *
                      go_wp2
                      go_roundw
                      case rel => exact ⟨x + 1, by omega, by go_num, HN, R4⟩
                      case measure => simp [intOf]; omega
                    · have b1 : (y == -1) = false := by simp; omega
                      have b2 : ¬ (0 : Int) ≤ y := by omega
                      have b4 : (y == -2) = true := by simp [hyk]
                      have d1 : (((stW ws x : Nat) : Int) == 3) = false := by simp; omega
                      have d2 : (((stW ws x : Nat) : Int) == 2) = false := by simp; omega
                      have HN := Lib.hid (HStop.out (fun h => HFO.out.1 h (by omega)))
                      clear hyk hsk HNext HStop HFO
                      generalize ((stW ws x : Nat) : Int) = st at *
                      go_wp2
                      go_ret2
                      refine ⟨none, 0, 0, by rw [HN.out]; rfl, fun O h => ?_, R4.out.2.2⟩
                      rw [HN.out] at h; cases h
                  · rcases hsc with hsk | hsk | hsk
                    · have b1 : (y == -1) = false := by simp; omega
                      have b2 : ¬ (0 : Int) ≤ y := by omega
                      have b4 : (y == -2) = false := by simp; omega
                      have d1 : (((stW ws x : Nat) : Int) == 3) = true := by simp [hsk]
                      have d2 : (((stW ws x : Nat) : Int) == 2) = false := by simp [hsk]
                      have HN := Lib.hid (HNext.out (HFO.out.2 (by omega)))
                      clear hyk hsk HNext HStop HFO
                      generalize ((stW ws x : Nat) : Int) = st at *
                      go_wp2
                      go_roundw
                      case rel => exact ⟨x + 1, by omega, by go_num, HN, R4⟩
                      case measure => simp [intOf]; omega
                    · have b1 : (y == -1) = false := by simp; omega
                      have b2 : ¬ (0 : Int) ≤ y := by omega
                      have b4 : (y == -2) = false := by simp; omega
                      have d1 : (((stW ws x : Nat) : Int) == 3) = false := by simp [hsk]
                      have d2 : (((stW ws x : Nat) : Int) == 2) = true := by simp [hsk]
                      have HN := Lib.hid (HNext.out (HFO.out.2 (by omega)))
                      clear hyk hsk HNext HStop HFO
                      generalize ((stW ws x : Nat) : Int) = st at *
                      go_wp2
                      go_roundw
                      case rel => exact ⟨x + 1, by omega, by go_num, HN, R4⟩
                      case measure => simp [intOf]; omega
                    · have b1 : (y == -1) = false := by simp; omega
                      have b2 : ¬ (0 : Int) ≤ y := by omega
                      have b4 : (y == -2) = false := by simp; omega
                      have d1 : (((stW ws x : Nat) : Int) == 3) = false := by simp; omega
                      have d2 : (((stW ws x : Nat) : Int) == 2) = false := by simp; omega
                      have HN := Lib.hid (HNext.out (HFO.out.2 (by omega)))
                      clear hyk hsk HNext HStop HFO
                      generalize ((stW ws x : Nat) : Int) = st at *
                      go_wp2
                      go_roundw
                      case rel => exact ⟨x + 1, by omega, by go_num, HN, R4⟩
                      case measure => simp [intOf]; omega
                · have HN : Hid (ownS ws (heldL V u) = some O2) := by
                    show _ = _
                    rw [HS2.out]; exact if_pos (show FitAll ws O2 i from fun z hz => HFt.out z (by omega))
                  have BB := Lib.hid R3.out.2.2
                  have OO := Lib.hid R3.out.2.1
                  clear R3 HFt
                  go_wp2
                  go_ret2
                  refine ⟨Ao, i, co, by rw [HN.out]; rfl, fun O h => ?_, BB.out⟩
                  rw [HN.out] at h
                  injection h with h
                  rw [← h]
                  exact ⟨by omega, OO.out.from_ (by omega)⟩

end Go.Proofs.YtefcaeldkdbjdaaGreat
