/- The contracts of the laws' marks over lists of warps. -/
import Derived.Test.YtooegpebimpjcaaLawWS
namespace Go.Proofs.Ytooegpebimpjcaa
open Go.RowKit
set_option linter.unusedVariables false

theorem marksF_len (q : Int) (n : Nat) : (marksF q n).length = n := by simp [marksF]
/-- A warp whose numbers are all marked, from q on. -/
def mkW (q : Int) (x : Wc) : Wc :=
  { x with v := ⟨q, marksF (q + 1) x.v.vs.length, marksF (q + 1 + (x.v.vs.length : Int)) x.v.gs.length, (q + 1 + (x.v.vs.length : Int) + (x.v.gs.length : Int)).toNat, q + 1 + (x.v.vs.length : Int) + (x.v.gs.length : Int) + 1, q + 1 + (x.v.vs.length : Int) + (x.v.gs.length : Int) + 1 + 1, q + 1 + (x.v.vs.length : Int) + (x.v.gs.length : Int) + 1 + 1 + 1, (q + 1 + (x.v.vs.length : Int) + (x.v.gs.length : Int) + 1 + 1 + 1 + 1).toNat⟩ }
/-- Where the marks of the k-th warp begin. -/
def posK (q : Int) (xs : List Wc) : Nat → Int
  | 0 => q
  | k + 1 => posK q xs k + 1 + ((wat xs k).v.vs.length : Int) + ((wat xs k).v.gs.length : Int) + 1 + 1 + 1 + 1 + 1
theorem posK_ge (q : Int) (xs : List Wc) : ∀ k, q ≤ posK q xs k
  | 0 => Int.le_refl _
  | k + 1 => by have := posK_ge q xs k; simp only [posK]; omega
theorem posK_mono (q : Int) (xs : List Wc) {j k : Nat} (h : j ≤ k) : posK q xs j ≤ posK q xs k := by
  induction k with
  | zero => obtain rfl : j = 0 := by omega
            exact Int.le_refl _
  | succ k ih =>
    rcases Nat.lt_or_ge j (k + 1) with h1 | h1
    · have := ih (by omega); simp only [posK]; omega
    · obtain rfl : j = k + 1 := by omega
      exact Int.le_refl _
/-- The list whose first k warps are marked. -/
def mkL (q : Int) (xs : List Wc) (k : Nat) : List Wc := (List.range xs.length).map (fun i => if i < k then mkW (posK q xs i) (wat xs i) else wat xs i)
theorem mkL_len (q : Int) (xs : List Wc) (k : Nat) : (mkL q xs k).length = xs.length := by simp [mkL]
theorem wat_mkL {q : Int} {xs : List Wc} {k i : Nat} (h : i < xs.length) : wat (mkL q xs k) i = if i < k then mkW (posK q xs i) (wat xs i) else wat xs i := by
  simp [wat, mkL, h]
theorem ext_wat {a b : List Wc} (hl : a.length = b.length) (h : ∀ i, i < a.length → wat a i = wat b i) : a = b := by
  apply List.ext_getElem hl
  intro i h1 h2
  have := h i h1
  simpa [wat, h1, h2] using this
theorem mkL_zero (q : Int) (xs : List Wc) : mkL q xs 0 = xs := ext_wat (mkL_len _ _ _) (fun i hi => by rw [mkL_len] at hi; rw [wat_mkL hi]; simp)
theorem mkL_next {q : Int} {xs : List Wc} {k : Nat} (h : k < xs.length) : (mkL q xs k).set k (mkW (posK q xs k) (wat xs k)) = mkL q xs (k + 1) := by
  refine ext_wat (by simp [mkL_len]) (fun i hi => ?_)
  rw [List.length_set, mkL_len] at hi
  rw [wat_set (by rw [mkL_len]; exact h), wat_mkL hi, wat_mkL hi]
  by_cases e : k = i
  · subst e; simp
  · by_cases e2 : i < k
    · simp [e, e2, show i < k + 1 by omega]
    · simp [e, e2, show ¬ i < k + 1 by omega]
theorem set_same {α : Type} {L : List α} {i : Nat} {v : α} (h : L[i]? = some v) : L.set i v = L := by
  apply List.ext_getElem?
  intro j
  rw [List.getElem?_set]
  by_cases e : i = j
  · subst e
    rw [if_pos rfl, h]
    have := (List.getElem?_eq_some_iff.1 h).1
    simp [this]
  · rw [if_neg e]
/-- Six stores mark one warp's own cells. -/
theorem flatW_mark {q : Int} {xs : List Wc} {k : Nat} (hk : k < xs.length) (h0 : 0 ≤ posK q xs k) :
    (((((((flatW (mkL q xs k)).set (k * 8) (.int .i64 ((posK q xs k)))).set (k * 8 + 3) (.int .u32 ((posK q xs k) + 1 + ((wat xs k).v.vs.length : Int) + ((wat xs k).v.gs.length : Int)))).set (k * 8 + 4) (.int .i64 ((posK q xs k) + 1 + ((wat xs k).v.vs.length : Int) + ((wat xs k).v.gs.length : Int) + 1))).set (k * 8 + 5) (.int .i64 ((posK q xs k) + 1 + ((wat xs k).v.vs.length : Int) + ((wat xs k).v.gs.length : Int) + 1 + 1))).set (k * 8 + 6) (.int .i64 ((posK q xs k) + 1 + ((wat xs k).v.vs.length : Int) + ((wat xs k).v.gs.length : Int) + 1 + 1 + 1))).set (k * 8 + 7) (.int .u32 ((posK q xs k) + 1 + ((wat xs k).v.vs.length : Int) + ((wat xs k).v.gs.length : Int) + 1 + 1 + 1 + 1))) = flatW (mkL q xs (k + 1)) := by
  have hl : k < (mkL q xs k).length := by rw [mkL_len]; exact hk
  have hw : wat (mkL q xs k) k = wat xs k := by rw [wat_mkL hk]; simp
  have e := flatW_set (mkL q xs k) k (mkW (posK q xs k) (wat xs k)) hl
  rw [mkL_next hk] at e
  rw [← e]
  have a1 : ((flatW (mkL q xs k)).set (k * 8) (.int .i64 (posK q xs k)))[k * 8 + 1]? = some (.slice (wat xs k).A (marksF (posK q xs k + 1) (wat xs k).v.vs.length).length (wat xs k).c) := by
    rw [List.getElem?_set_ne (by omega), flatW_at _ k 1 hl (by omega), hw, marksF_len]
    rfl
  have a2 : ((flatW (mkL q xs k)).set (k * 8) (.int .i64 (posK q xs k)))[k * 8 + 2]? = some (.slice (wat xs k).B (marksF (posK q xs k + 1 + ((wat xs k).v.vs.length : Int)) (wat xs k).v.gs.length).length (wat xs k).d) := by
    rw [List.getElem?_set_ne (by omega), flatW_at _ k 2 hl (by omega), hw, marksF_len]
    rfl
  have b1 := set_same a1
  have b2 := set_same a2
  have t1 : ((((posK q xs k) + 1 + ((wat xs k).v.vs.length : Int) + ((wat xs k).v.gs.length : Int)).toNat : Nat) : Int) = (posK q xs k) + 1 + ((wat xs k).v.vs.length : Int) + ((wat xs k).v.gs.length : Int) := by omega
  have t2 : ((((posK q xs k) + 1 + ((wat xs k).v.vs.length : Int) + ((wat xs k).v.gs.length : Int) + 1 + 1 + 1 + 1).toNat : Nat) : Int) = (posK q xs k) + 1 + ((wat xs k).v.vs.length : Int) + ((wat xs k).v.gs.length : Int) + 1 + 1 + 1 + 1 := by omega
  simp only [mkW, t1, t2]
  rw [b1, b2]

theorem cell_kp {r : Nat → Prop} {w w' : World} (K : Kp r w w') {g : Nat} (hr : ¬ r g) (hg : g < w.heap.size) (o : Nat) : w'.cell? ⟨g, o, none⟩ = w.cell? ⟨g, o, none⟩ := by
  have h := K.block g hg hr
  simp [World.cell?, h]

/-- The rows of a list: the first rows of the first ka warps are marked, the second rows of the first kb. -/
def MkIn (w : World) (b0 n : Nat) (q : Int) (xs : List Wc) (ka kb : Nat) : Prop :=
  ∀ i, i < n → OwnK 3 .i64 w b0 (wat xs i).A (wat xs i).v.vs.length (wat xs i).c (if i < ka then marksF (posK q xs i + 1) (wat xs i).v.vs.length else (wat xs i).v.vs) ∧ OwnK 3 .i64 w b0 (wat xs i).B (wat xs i).v.gs.length (wat xs i).d (if i < kb then marksF (posK q xs i + 1 + ((wat xs i).v.vs.length : Int)) (wat xs i).v.gs.length else (wat xs i).v.gs)
theorem MkIn.kp {w w' : World} {b0 n ka kb : Nat} {q : Int} {xs : List Wc} {r : Nat → Prop} (h : MkIn w b0 n q xs ka kb) (K : Kp r w w') (hr : ∀ i, i < n → ∀ p, rowA xs i = some p ∨ rowB xs i = some p → ¬ r p) : MkIn w' b0 n q xs ka kb :=
  fun i hi => ⟨(h i hi).1.kp K (fun p hp => hr i hi p (.inl hp)), (h i hi).2.kp K (fun p hp => hr i hi p (.inr hp))⟩
theorem MkIn.stepA {w w' : World} {b0 n k kb : Nat} {q : Int} {xs : List Wc} {g : Option Nat} (h : MkIn w b0 n q xs k kb) (hk : k < n) (D : Dis g n xs) (hg : w.grownBy w' (rowA xs k)) (ho : OwnK 3 .i64 w' b0 (wat xs k).A (wat xs k).v.vs.length (wat xs k).c (marksF (posK q xs k + 1) (wat xs k).v.vs.length)) : MkIn w' b0 n q xs (k + 1) kb := by
  intro i hi
  have K : Kp (fun p => some p = rowA xs k) w w' := Kp.of_grown hg (fun p hp => hp)
  refine ⟨?_, ?_⟩
  · by_cases e : i = k
    · subst e; simpa using ho
    · have h2 := (h i hi).1.kp K (fun p hp e2 => ((D i hi p).1 hp).2.2 k hk (fun e3 => e e3.symm) e2.symm)
      by_cases e4 : i < k
      · rw [if_pos e4] at h2; rw [if_pos (by omega)]; exact h2
      · rw [if_neg e4] at h2; rw [if_neg (by omega)]; exact h2
  · exact (h i hi).2.kp K (fun p hp e2 => ((D k hk p).1 e2.symm).2.1 i hi hp)
theorem MkIn.stepB {w w' : World} {b0 n k ka : Nat} {q : Int} {xs : List Wc} {g : Option Nat} (h : MkIn w b0 n q xs ka k) (hk : k < n) (D : Dis g n xs) (hg : w.grownBy w' (rowB xs k)) (ho : OwnK 3 .i64 w' b0 (wat xs k).B (wat xs k).v.gs.length (wat xs k).d (marksF (posK q xs k + 1 + ((wat xs k).v.vs.length : Int)) (wat xs k).v.gs.length)) : MkIn w' b0 n q xs ka (k + 1) := by
  intro i hi
  have K : Kp (fun p => some p = rowB xs k) w w' := Kp.of_grown hg (fun p hp => hp)
  refine ⟨?_, ?_⟩
  · exact (h i hi).1.kp K (fun p hp e2 => ((D i hi p).1 hp).2.1 k hk e2.symm)
  · by_cases e : i = k
    · subst e; simpa using ho
    · have h2 := (h i hi).2.kp K (fun p hp e2 => ((D i hi p).2 hp).2 k hk (fun e3 => e e3.symm) e2.symm)
      by_cases e4 : i < k
      · rw [if_pos e4] at h2; rw [if_pos (by omega)]; exact h2
      · rw [if_neg e4] at h2; rw [if_neg (by omega)]; exact h2

set_option maxRecDepth 100000 in
set_option maxHeartbeats 4000000 in
theorem markWarpS_any (A : Option Addr) (n c b0 : Nat) (q : Int) (xs : List Wc) (w : World) (h : OwnM w b0 A n c xs) (hn : n ≤ 2000000) (h0 : 0 ≤ q) (hq : posK q xs n ≤ 50000000) (hf : ∀ i, i < n → (wat xs i).v.vs.length ≤ 2000000 ∧ (wat xs i).v.gs.length ≤ 2000000) :
    Calls Try.prog 65 #[.slice A n c, .int .i64 q] w fun e w' => e = .returned (.int .i64 (posK q xs n)) ∧ OwnM w' b0 A n c (mkL q xs n) ∧ Kp (InM A n c xs) w w' := by
  have HL := Lib.hid h.len
  have HD := Lib.hid h.2.2
  have HO : Hid (OwnW w b0 A n c (mkL q xs 0)) := by rw [mkL_zero]; exact h.1
  have HI : Hid (MkIn w b0 n q xs 0 0) := fun i hi => by simpa using h.2.1 i hi
  have HF := Lib.hid hf
  have HQ := Lib.hid hq
  have H0 := Lib.hid h0
  clear h hf hq h0
  go_enter Try.func65, Try.ntmps65
  go_wp2
  go_loopw [1, 5] (fun s i wr => ∃ k : Nat, k ≤ n ∧ i = .int .i64 k ∧ s = .int .i64 (posK q xs k) ∧ Hid (OwnW wr b0 A n c (mkL q xs k)) ∧ Hid (MkIn wr b0 n q xs k k) ∧ Hid (Kp (InM A n c xs) w wr)) (fun _ i _ => n - (intOf i).toNat)
  case atStart => exact ⟨0, Nat.zero_le _, rfl, rfl, HO, HI, Kp.refl _ _⟩
  case round =>
    obtain ⟨k, hk, rfl, rfl, HOr, HIr, HKr⟩ := hrel
    clear HO HI
    by_cases hlt : k < n
    · obtain ⟨g, hA, hg0, hg1⟩ := HOr.out.form (by omega)
      subst hA
      have hkl : k < xs.length := by rw [HL.out]; exact hlt
      have hp0 : 0 ≤ posK q xs k := Int.le_trans H0.out (posK_ge q xs k)
      have hp1 : posK q xs (k + 1) ≤ 50000000 := Int.le_trans (posK_mono q xs (by omega)) HQ.out
      simp only [posK] at hp1
      have hfk := HF.out k hlt
      have hf1 := hfk.1
      have hf2 := hfk.2
      have hgA : ∀ i, i < n → ∀ p, rowA xs i = some p ∨ rowB xs i = some p → p ≠ g := fun i hi p hp e => by
        obtain ⟨d1, d2⟩ := HD.out i hi p
        rcases hp with hp | hp
        · exact (d1 hp).1 (by rw [e]; rfl)
        · exact (d2 hp).1 (by rw [e]; rfl)
      have e8 := HOr.out.at8 rfl hlt
      rw [wat_mkL hkl] at e8
      simp only [Nat.lt_irrefl, if_false] at e8
      obtain ⟨c0, c1, c2, c3, c4, c5, c6, c7⟩ := e8
      have fr := HOr.out.free rfl
      -- the first store
      have KA : Hid (Kp (fun p => p = g) wr (wr.setCell ⟨g, k * 8, none⟩ (.int .i64 ((posK q xs k))))) := Kp.setCell wr ⟨g, k * 8, none⟩ _
      have RA := Lib.hid (World.ownsRow.stored HOr.out (k * 8) (.int .i64 ((posK q xs k)))).1
      have IA : Hid (MkIn (wr.setCell ⟨g, k * 8, none⟩ (.int .i64 ((posK q xs k)))) b0 n q xs k k) := HIr.out.kp KA.out hgA
      have KK : Hid (Kp (InM (some ⟨g, 0, none⟩) n c xs) w (wr.setCell ⟨g, k * 8, none⟩ (.int .i64 ((posK q xs k))))) := HKr.out.trans (KA.out.mono (fun p hp => .inl (by rw [hp]; rfl)))
      have hoA := (IA.out k hlt).1
      simp only [Nat.lt_irrefl, if_false] at hoA
      have HOA := Lib.hid hoA
      have w1s : (wr.setCell ⟨g, k * 8, none⟩ (.int .i64 ((posK q xs k)))).heap.size = wr.heap.size := by simp
      have wp1 : IntKind.i64.wrap ((posK q xs k) + 1) = (posK q xs k) + 1 := IntWalk.i64_in _ (by omega)
      have d1 : (wr.setCell ⟨g, k * 8, none⟩ (.int .i64 ((posK q xs k)))).cell? ⟨g, k * 8 + 1, none⟩ = some (.slice (wat xs k).A (wat xs k).v.vs.length (wat xs k).c) := (World.cell?_setCell_other _ ⟨g, k * 8, none⟩ ⟨g, k * 8 + 1, none⟩ _ (by intro e; injection e with _ e; omega)).trans c1
      have d2 : (wr.setCell ⟨g, k * 8, none⟩ (.int .i64 ((posK q xs k)))).cell? ⟨g, k * 8 + 2, none⟩ = some (.slice (wat xs k).B (wat xs k).v.gs.length (wat xs k).d) := (World.cell?_setCell_other _ ⟨g, k * 8, none⟩ ⟨g, k * 8 + 2, none⟩ _ (by intro e; injection e with _ e; omega)).trans c2
      clear hoA KA HOr HIr HKr hfk
      go_wp2_with fail
      refine (markF_any _ _ _ b0 ((posK q xs k) + 1) _ _ HOA.out hf1 (by omega) (by omega)).mono ?_
      rintro e w2 ⟨rfl, ho, hg⟩
      have K2 : Hid (Kp (fun p => some p = rowA xs k) (wr.setCell ⟨g, k * 8, none⟩ (.int .i64 ((posK q xs k)))) w2) := Kp.of_grown hg (fun p hp => hp)
      have IB := Lib.hid (IA.out.stepA hlt HD.out hg ho)
      have hgA2 : ¬ some g = rowA xs k := fun e => hgA k hlt g (.inl e.symm) rfl
      have hgB2 : ¬ some g = rowB xs k := fun e => hgA k hlt g (.inr e.symm) rfl
      have RB := Lib.hid (row_kp RA.out K2.out (fun p hp e => hgA2 (by (have e3 : g = p := by simpa [Value.ownBlock] using hp); rw [e3]; exact e)))
      have KK2 : Hid (Kp (InM (some ⟨g, 0, none⟩) n c xs) w w2) := KK.out.trans (K2.out.mono (fun p hp => .inr ⟨k, hlt, .inl hp.symm⟩))
      have z1 : g < (wr.setCell ⟨g, k * 8, none⟩ (.int .i64 ((posK q xs k)))).heap.size := by rw [w1s]; exact hg1
      have z2 : g < w2.heap.size := Nat.lt_of_lt_of_le z1 K2.out.size
      have d2b := (cell_kp K2.out hgA2 z1 (k * 8 + 2)).trans d2
      have hoB := (IB.out k hlt).2
      simp only [Nat.lt_irrefl, if_false] at hoB
      have HOB := Lib.hid hoB
      clear ho hg RA IA KK HOA d1 hoB
      go_wp2_with fail
      refine (markF_any _ _ _ b0 ((posK q xs k) + 1 + ((wat xs k).v.vs.length : Int)) _ _ HOB.out hf2 (by omega) (by omega)).mono ?_
      rintro e w3 ⟨rfl, ho, hg⟩
      have K3 : Hid (Kp (fun p => some p = rowB xs k) w2 w3) := Kp.of_grown hg (fun p hp => hp)
      have IC := Lib.hid (IB.out.stepB hlt HD.out hg ho)
      have RC := Lib.hid (row_kp RB.out K3.out (fun p hp e => hgB2 (by (have e3 : g = p := by simpa [Value.ownBlock] using hp); rw [e3]; exact e)))
      have KK3 : Hid (Kp (InM (some ⟨g, 0, none⟩) n c xs) w w3) := KK2.out.trans (K3.out.mono (fun p hp => .inr ⟨k, hlt, .inr hp.symm⟩))
      have g3 := (cell_kp K3.out hgB2 z2 (k * 8 + 3)).trans ((cell_kp K2.out hgA2 z1 (k * 8 + 3)).trans ((World.cell?_setCell_other _ ⟨g, k * 8, none⟩ ⟨g, k * 8 + 3, none⟩ _ (by intro e; injection e with _ e; omega)).trans c3))
      have g4 := (cell_kp K3.out hgB2 z2 (k * 8 + 4)).trans ((cell_kp K2.out hgA2 z1 (k * 8 + 4)).trans ((World.cell?_setCell_other _ ⟨g, k * 8, none⟩ ⟨g, k * 8 + 4, none⟩ _ (by intro e; injection e with _ e; omega)).trans c4))
      have g5 := (cell_kp K3.out hgB2 z2 (k * 8 + 5)).trans ((cell_kp K2.out hgA2 z1 (k * 8 + 5)).trans ((World.cell?_setCell_other _ ⟨g, k * 8, none⟩ ⟨g, k * 8 + 5, none⟩ _ (by intro e; injection e with _ e; omega)).trans c5))
      have g6 := (cell_kp K3.out hgB2 z2 (k * 8 + 6)).trans ((cell_kp K2.out hgA2 z1 (k * 8 + 6)).trans ((World.cell?_setCell_other _ ⟨g, k * 8, none⟩ ⟨g, k * 8 + 6, none⟩ _ (by intro e; injection e with _ e; omega)).trans c6))
      have g7 := (cell_kp K3.out hgB2 z2 (k * 8 + 7)).trans ((cell_kp K2.out hgA2 z1 (k * 8 + 7)).trans ((World.cell?_setCell_other _ ⟨g, k * 8, none⟩ ⟨g, k * 8 + 7, none⟩ _ (by intro e; injection e with _ e; omega)).trans c7))
      have fg : ∀ i, w3.frozen? ⟨g, i, none⟩ = false := fun i => World.ownsRow.frozenAt RC.out i
      have HN : Hid (OwnW (((((w3.setCell ⟨g, k * 8 + 3, none⟩ (.int .u32 ((posK q xs k) + 1 + ((wat xs k).v.vs.length : Int) + ((wat xs k).v.gs.length : Int)))).setCell ⟨g, k * 8 + 4, none⟩ (.int .i64 ((posK q xs k) + 1 + ((wat xs k).v.vs.length : Int) + ((wat xs k).v.gs.length : Int) + 1))).setCell ⟨g, k * 8 + 5, none⟩ (.int .i64 ((posK q xs k) + 1 + ((wat xs k).v.vs.length : Int) + ((wat xs k).v.gs.length : Int) + 1 + 1))).setCell ⟨g, k * 8 + 6, none⟩ (.int .i64 ((posK q xs k) + 1 + ((wat xs k).v.vs.length : Int) + ((wat xs k).v.gs.length : Int) + 1 + 1 + 1))).setCell ⟨g, k * 8 + 7, none⟩ (.int .u32 ((posK q xs k) + 1 + ((wat xs k).v.vs.length : Int) + ((wat xs k).v.gs.length : Int) + 1 + 1 + 1 + 1))) b0 (some ⟨g, 0, none⟩) n c (mkL q xs (k + 1))) := by
        have h5 := (World.ownsRow.stored (World.ownsRow.stored (World.ownsRow.stored (World.ownsRow.stored (World.ownsRow.stored RC.out (k * 8 + 3) (.int .u32 ((posK q xs k) + 1 + ((wat xs k).v.vs.length : Int) + ((wat xs k).v.gs.length : Int)))).1 (k * 8 + 4) (.int .i64 ((posK q xs k) + 1 + ((wat xs k).v.vs.length : Int) + ((wat xs k).v.gs.length : Int) + 1))).1 (k * 8 + 5) (.int .i64 ((posK q xs k) + 1 + ((wat xs k).v.vs.length : Int) + ((wat xs k).v.gs.length : Int) + 1 + 1))).1 (k * 8 + 6) (.int .i64 ((posK q xs k) + 1 + ((wat xs k).v.vs.length : Int) + ((wat xs k).v.gs.length : Int) + 1 + 1 + 1))).1 (k * 8 + 7) (.int .u32 ((posK q xs k) + 1 + ((wat xs k).v.vs.length : Int) + ((wat xs k).v.gs.length : Int) + 1 + 1 + 1 + 1))).1
        rw [flatW_mark hkl hp0] at h5
        exact h5
      have K5 : Hid (Kp (fun p => p = g) w3 (((((w3.setCell ⟨g, k * 8 + 3, none⟩ (.int .u32 ((posK q xs k) + 1 + ((wat xs k).v.vs.length : Int) + ((wat xs k).v.gs.length : Int)))).setCell ⟨g, k * 8 + 4, none⟩ (.int .i64 ((posK q xs k) + 1 + ((wat xs k).v.vs.length : Int) + ((wat xs k).v.gs.length : Int) + 1))).setCell ⟨g, k * 8 + 5, none⟩ (.int .i64 ((posK q xs k) + 1 + ((wat xs k).v.vs.length : Int) + ((wat xs k).v.gs.length : Int) + 1 + 1))).setCell ⟨g, k * 8 + 6, none⟩ (.int .i64 ((posK q xs k) + 1 + ((wat xs k).v.vs.length : Int) + ((wat xs k).v.gs.length : Int) + 1 + 1 + 1))).setCell ⟨g, k * 8 + 7, none⟩ (.int .u32 ((posK q xs k) + 1 + ((wat xs k).v.vs.length : Int) + ((wat xs k).v.gs.length : Int) + 1 + 1 + 1 + 1)))) := ((((Kp.setCell w3 ⟨g, k * 8 + 3, none⟩ _).trans (Kp.setCell _ ⟨g, k * 8 + 4, none⟩ _)).trans (Kp.setCell _ ⟨g, k * 8 + 5, none⟩ _)).trans (Kp.setCell _ ⟨g, k * 8 + 6, none⟩ _)).trans (Kp.setCell _ ⟨g, k * 8 + 7, none⟩ _)
      have IN : Hid (MkIn (((((w3.setCell ⟨g, k * 8 + 3, none⟩ (.int .u32 ((posK q xs k) + 1 + ((wat xs k).v.vs.length : Int) + ((wat xs k).v.gs.length : Int)))).setCell ⟨g, k * 8 + 4, none⟩ (.int .i64 ((posK q xs k) + 1 + ((wat xs k).v.vs.length : Int) + ((wat xs k).v.gs.length : Int) + 1))).setCell ⟨g, k * 8 + 5, none⟩ (.int .i64 ((posK q xs k) + 1 + ((wat xs k).v.vs.length : Int) + ((wat xs k).v.gs.length : Int) + 1 + 1))).setCell ⟨g, k * 8 + 6, none⟩ (.int .i64 ((posK q xs k) + 1 + ((wat xs k).v.vs.length : Int) + ((wat xs k).v.gs.length : Int) + 1 + 1 + 1))).setCell ⟨g, k * 8 + 7, none⟩ (.int .u32 ((posK q xs k) + 1 + ((wat xs k).v.vs.length : Int) + ((wat xs k).v.gs.length : Int) + 1 + 1 + 1 + 1))) b0 n q xs (k + 1) (k + 1)) := IC.out.kp K5.out hgA
      have KN : Hid (Kp (InM (some ⟨g, 0, none⟩) n c xs) w (((((w3.setCell ⟨g, k * 8 + 3, none⟩ (.int .u32 ((posK q xs k) + 1 + ((wat xs k).v.vs.length : Int) + ((wat xs k).v.gs.length : Int)))).setCell ⟨g, k * 8 + 4, none⟩ (.int .i64 ((posK q xs k) + 1 + ((wat xs k).v.vs.length : Int) + ((wat xs k).v.gs.length : Int) + 1))).setCell ⟨g, k * 8 + 5, none⟩ (.int .i64 ((posK q xs k) + 1 + ((wat xs k).v.vs.length : Int) + ((wat xs k).v.gs.length : Int) + 1 + 1))).setCell ⟨g, k * 8 + 6, none⟩ (.int .i64 ((posK q xs k) + 1 + ((wat xs k).v.vs.length : Int) + ((wat xs k).v.gs.length : Int) + 1 + 1 + 1))).setCell ⟨g, k * 8 + 7, none⟩ (.int .u32 ((posK q xs k) + 1 + ((wat xs k).v.vs.length : Int) + ((wat xs k).v.gs.length : Int) + 1 + 1 + 1 + 1)))) := KK3.out.trans (K5.out.mono (fun p hp => .inl (by rw [hp]; rfl)))
      have wp4 : IntKind.i64.wrap ((posK q xs k) + 1 + ((wat xs k).v.vs.length : Int) + ((wat xs k).v.gs.length : Int) + 1) = (posK q xs k) + 1 + ((wat xs k).v.vs.length : Int) + ((wat xs k).v.gs.length : Int) + 1 := IntWalk.i64_in _ (by omega)
      have wp5 : IntKind.i64.wrap ((posK q xs k) + 1 + ((wat xs k).v.vs.length : Int) + ((wat xs k).v.gs.length : Int) + 1 + 1) = (posK q xs k) + 1 + ((wat xs k).v.vs.length : Int) + ((wat xs k).v.gs.length : Int) + 1 + 1 := IntWalk.i64_in _ (by omega)
      have wp6 : IntKind.i64.wrap ((posK q xs k) + 1 + ((wat xs k).v.vs.length : Int) + ((wat xs k).v.gs.length : Int) + 1 + 1 + 1) = (posK q xs k) + 1 + ((wat xs k).v.vs.length : Int) + ((wat xs k).v.gs.length : Int) + 1 + 1 + 1 := IntWalk.i64_in _ (by omega)
      have wp7 : IntKind.i64.wrap ((posK q xs k) + 1 + ((wat xs k).v.vs.length : Int) + ((wat xs k).v.gs.length : Int) + 1 + 1 + 1 + 1) = (posK q xs k) + 1 + ((wat xs k).v.vs.length : Int) + ((wat xs k).v.gs.length : Int) + 1 + 1 + 1 + 1 := IntWalk.i64_in _ (by omega)
      have wp8 : IntKind.i64.wrap ((posK q xs k) + 1 + ((wat xs k).v.vs.length : Int) + ((wat xs k).v.gs.length : Int) + 1 + 1 + 1 + 1 + 1) = (posK q xs k) + 1 + ((wat xs k).v.vs.length : Int) + ((wat xs k).v.gs.length : Int) + 1 + 1 + 1 + 1 + 1 := IntWalk.i64_in _ (by omega)
      have wu3 : IntKind.u32.wrap ((posK q xs k) + 1 + ((wat xs k).v.vs.length : Int) + ((wat xs k).v.gs.length : Int)) = (posK q xs k) + 1 + ((wat xs k).v.vs.length : Int) + ((wat xs k).v.gs.length : Int) := IntWalk.u32_in _ (by omega)
      have wu7 : IntKind.u32.wrap ((posK q xs k) + 1 + ((wat xs k).v.vs.length : Int) + ((wat xs k).v.gs.length : Int) + 1 + 1 + 1 + 1) = (posK q xs k) + 1 + ((wat xs k).v.vs.length : Int) + ((wat xs k).v.gs.length : Int) + 1 + 1 + 1 + 1 := IntWalk.u32_in _ (by omega)
      clear ho hg RB IB KK2 K2 K3 d2 d2b c0 c1 c2 c3 c4 c5 c6 c7 RC IC KK3 K5 HOB fr
      go_wp2
      go_roundw
      case rel => exact ⟨k + 1, by omega, by go_num, rfl, HN, IN, KN⟩
      case measure => simp [intOf]; omega
    · obtain rfl : k = n := by omega
      go_wp2
      go_ret
      refine ⟨rfl, ⟨HOr.out, fun i hi => ?_, fun i hi p => ?_⟩, HKr.out⟩
      · have hil : i < xs.length := by rw [HL.out]; exact hi
        have h2 := HIr.out i hi
        rw [if_pos hi, if_pos hi] at h2
        rw [wat_mkL hil, if_pos hi]
        simpa [mkW, marksF_len] using h2
      · have hr : ∀ j, j < k → rowA (mkL q xs k) j = rowA xs j ∧ rowB (mkL q xs k) j = rowB xs j := fun j hj => by
          have hjl : j < xs.length := by rw [HL.out]; exact hj
          unfold rowA rowB
          rw [wat_mkL hjl, if_pos hj]
          simp [mkW, marksF_len]
        obtain ⟨d1, d2⟩ := HD.out i hi p
        rw [(hr i hi).1, (hr i hi).2]
        refine ⟨fun hp => ?_, fun hp => ?_⟩
        · obtain ⟨x1, x2, x3⟩ := d1 hp
          exact ⟨x1, fun j hj => by rw [(hr j hj).2]; exact x2 j hj, fun j hj hne => by rw [(hr j hj).1]; exact x3 j hj hne⟩
        · obtain ⟨x1, x2⟩ := d2 hp
          exact ⟨x1, fun j hj hne => by rw [(hr j hj).2]; exact x2 j hj hne⟩

set_option maxRecDepth 100000 in
set_option maxHeartbeats 4000000 in
theorem heldWarpS_any (A : Option Addr) (n c B : Nat) (q : Int) (xs : List Wc) (w : World) (h : RdW w B A n (mkL q xs n)) (hl : xs.length = n) (hB : B ≤ w.heap.size) (hn : n ≤ 2000000) (h0 : 0 ≤ q) (hq : posK q xs n ≤ 50000000) (hf : ∀ i, i < n → (wat xs i).v.vs.length ≤ 2000000 ∧ (wat xs i).v.gs.length ≤ 2000000) :
    Calls Try.prog 67 #[.slice A n c, .int .i64 q] w fun e w' => e = .returned (.int .i64 (posK q xs n)) ∧ w = w' := by
  have H := Lib.hid h
  have HF := Lib.hid hf
  have HQ := Lib.hid hq
  have H0 := Lib.hid h0
  clear h hf hq h0
  go_enter Try.func67, Try.ntmps67
  go_wp2
  go_loop [1, 5] (fun s i => ∃ k : Nat, k ≤ n ∧ i = .int .i64 k ∧ s = .int .i64 (posK q xs k)) (fun _ i => n - (intOf i).toNat)
  case atStart => exact ⟨0, Nat.zero_le _, rfl, rfl⟩
  case round =>
    obtain ⟨k, hk, rfl, rfl⟩ := hrel
    by_cases hlt : k < n
    · obtain ⟨g, o, hA, hg, e8⟩ := H.out.at8 hlt
      subst hA
      have hkl : k < xs.length := by rw [hl]; exact hlt
      have hp0 : 0 ≤ posK q xs k := Int.le_trans H0.out (posK_ge q xs k)
      have hp1 : posK q xs (k + 1) ≤ 50000000 := Int.le_trans (posK_mono q xs (by omega)) HQ.out
      simp only [posK] at hp1
      have hfk := HF.out k hlt
      have hf1 := hfk.1
      have hf2 := hfk.2
      have hr := H.out.rows hlt
      rw [wat_mkL hkl, if_pos hlt] at hr e8
      have t1 : ((((posK q xs k) + 1 + ((wat xs k).v.vs.length : Int) + ((wat xs k).v.gs.length : Int)).toNat : Nat) : Int) = (posK q xs k) + 1 + ((wat xs k).v.vs.length : Int) + ((wat xs k).v.gs.length : Int) := by omega
      have t2 : ((((posK q xs k) + 1 + ((wat xs k).v.vs.length : Int) + ((wat xs k).v.gs.length : Int) + 1 + 1 + 1 + 1).toNat : Nat) : Int) = (posK q xs k) + 1 + ((wat xs k).v.vs.length : Int) + ((wat xs k).v.gs.length : Int) + 1 + 1 + 1 + 1 := by omega
      unfold At8 at e8
      simp only [mkW, marksF_len, t1, t2] at e8 hr
      obtain ⟨c0, c1, c2, c3, c4, c5, c6, c7⟩ := e8
      have HOA := Lib.hid hr.1
      have HOB := Lib.hid hr.2
      have wp1 : IntKind.i64.wrap ((posK q xs k) + 1) = (posK q xs k) + 1 := IntWalk.i64_in _ (by omega)
      have wp4 : IntKind.i64.wrap ((posK q xs k) + 1 + ((wat xs k).v.vs.length : Int) + ((wat xs k).v.gs.length : Int) + 1) = (posK q xs k) + 1 + ((wat xs k).v.vs.length : Int) + ((wat xs k).v.gs.length : Int) + 1 := IntWalk.i64_in _ (by omega)
      have wp5 : IntKind.i64.wrap ((posK q xs k) + 1 + ((wat xs k).v.vs.length : Int) + ((wat xs k).v.gs.length : Int) + 1 + 1) = (posK q xs k) + 1 + ((wat xs k).v.vs.length : Int) + ((wat xs k).v.gs.length : Int) + 1 + 1 := IntWalk.i64_in _ (by omega)
      have wp6 : IntKind.i64.wrap ((posK q xs k) + 1 + ((wat xs k).v.vs.length : Int) + ((wat xs k).v.gs.length : Int) + 1 + 1 + 1) = (posK q xs k) + 1 + ((wat xs k).v.vs.length : Int) + ((wat xs k).v.gs.length : Int) + 1 + 1 + 1 := IntWalk.i64_in _ (by omega)
      have wp7 : IntKind.i64.wrap ((posK q xs k) + 1 + ((wat xs k).v.vs.length : Int) + ((wat xs k).v.gs.length : Int) + 1 + 1 + 1 + 1) = (posK q xs k) + 1 + ((wat xs k).v.vs.length : Int) + ((wat xs k).v.gs.length : Int) + 1 + 1 + 1 + 1 := IntWalk.i64_in _ (by omega)
      have wp8 : IntKind.i64.wrap ((posK q xs k) + 1 + ((wat xs k).v.vs.length : Int) + ((wat xs k).v.gs.length : Int) + 1 + 1 + 1 + 1 + 1) = (posK q xs k) + 1 + ((wat xs k).v.vs.length : Int) + ((wat xs k).v.gs.length : Int) + 1 + 1 + 1 + 1 + 1 := IntWalk.i64_in _ (by omega)
      have ne0 : (((posK q xs k) : Int) != (posK q xs k)) = false := by simp
      have ne3 : (((posK q xs k) + 1 + ((wat xs k).v.vs.length : Int) + ((wat xs k).v.gs.length : Int) : Int) != (posK q xs k) + 1 + ((wat xs k).v.vs.length : Int) + ((wat xs k).v.gs.length : Int)) = false := by simp
      have ne4 : (((posK q xs k) + 1 + ((wat xs k).v.vs.length : Int) + ((wat xs k).v.gs.length : Int) + 1 : Int) != (posK q xs k) + 1 + ((wat xs k).v.vs.length : Int) + ((wat xs k).v.gs.length : Int) + 1) = false := by simp
      have ne5 : (((posK q xs k) + 1 + ((wat xs k).v.vs.length : Int) + ((wat xs k).v.gs.length : Int) + 1 + 1 : Int) != (posK q xs k) + 1 + ((wat xs k).v.vs.length : Int) + ((wat xs k).v.gs.length : Int) + 1 + 1) = false := by simp
      have ne6 : (((posK q xs k) + 1 + ((wat xs k).v.vs.length : Int) + ((wat xs k).v.gs.length : Int) + 1 + 1 + 1 : Int) != (posK q xs k) + 1 + ((wat xs k).v.vs.length : Int) + ((wat xs k).v.gs.length : Int) + 1 + 1 + 1) = false := by simp
      have ne7 : (((posK q xs k) + 1 + ((wat xs k).v.vs.length : Int) + ((wat xs k).v.gs.length : Int) + 1 + 1 + 1 + 1 : Int) != (posK q xs k) + 1 + ((wat xs k).v.vs.length : Int) + ((wat xs k).v.gs.length : Int) + 1 + 1 + 1 + 1) = false := by simp
      have wu3 : IntKind.u32.wrap ((posK q xs k) + 1 + ((wat xs k).v.vs.length : Int) + ((wat xs k).v.gs.length : Int)) = (posK q xs k) + 1 + ((wat xs k).v.vs.length : Int) + ((wat xs k).v.gs.length : Int) := IntWalk.u32_in _ (by omega)
      have wu7 : IntKind.u32.wrap ((posK q xs k) + 1 + ((wat xs k).v.vs.length : Int) + ((wat xs k).v.gs.length : Int) + 1 + 1 + 1 + 1) = (posK q xs k) + 1 + ((wat xs k).v.vs.length : Int) + ((wat xs k).v.gs.length : Int) + 1 + 1 + 1 + 1 := IntWalk.u32_in _ (by omega)
      have n1 : ¬ ((posK q xs k) + 1 + ((wat xs k).v.vs.length : Int)) < 0 := by omega
      have n2 : ¬ ((posK q xs k) + 1 + ((wat xs k).v.vs.length : Int) + ((wat xs k).v.gs.length : Int)) < 0 := by omega
      clear hr t1 t2 hfk
      go_wp2_with fail
      refine (heldF_any _ _ _ B ((posK q xs k) + 1) _ HOA.out hf1 (by omega) (by omega)).mono ?_
      rintro e w2 ⟨rfl, rfl⟩
      go_wp2_with fail
      refine (heldF_any _ _ _ B ((posK q xs k) + 1 + ((wat xs k).v.vs.length : Int)) _ HOB.out hf2 (by omega) (by omega)).mono ?_
      rintro e w3 ⟨rfl, rfl⟩
      go_wp2
      go_round
      case rel => exact ⟨k + 1, by omega, by go_num, rfl⟩
      case measure => simp [intOf]; omega
    · obtain rfl : k = n := by omega
      go_wp2
      go_ret
      exact ⟨rfl, rfl⟩

end Go.Proofs.Ytooegpebimpjcaa
