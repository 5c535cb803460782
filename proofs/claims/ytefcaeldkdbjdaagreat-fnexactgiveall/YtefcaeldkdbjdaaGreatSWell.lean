/- The contracts of the model's l07Gives, l07LargeOk and l07Asks. -/
import Derived.Test.YtefcaeldkdbjdaaGreatWarpM
import Derived.Test.YtefcaeldkdbjdaaGreatIRel
import Derived.Test.YtefcaeldkdbjdaaGreatCopyI
import Derived.IntWalk
namespace Go.Proofs.YtefcaeldkdbjdaaGreat
open Go.RowKit
set_option linter.unusedVariables false

set_option maxRecDepth 100000 in
set_option maxHeartbeats 2000000 in
theorem sGives_any (X : Nat) (off : Int) (w : World) (hX : X < 4294967296) :
    Calls Tryz.prog 56 #[.int .u32 (X : Int), .int .i64 off] w fun e w' => e = .returned (.bool (decide (GivesX X off))) ∧ Below w.heap.size w w' := by
  have HC := Lib.hid (fun W => sCtlRead_any X W hX)
  have HRl := Lib.hid (fun W => sRelease_any X off W hX)
  have hrd : readV X = #[.int .i64 (readN X (stOf X) : Int), .int .i64 (readN X (clOf X) : Int), .int .u32 (readN X (mpOf X) : Int), .int .i64 (readN X (rnOf X) : Int)] := rfl
  rw [hrd] at HC
  clear hrd
  have HE : Hid (decide (GivesX X off) = (decide (RelOk X off) || (decide (GoodX X) && (((readN X (stOf X) : Nat) : Int) == 2) && (off == 0)))) := by
    show _ = _
    rw [Bool.eq_iff_iff]
    simp only [decide_eq_true_iff, Bool.or_eq_true, Bool.and_eq_true, beq_iff_eq]
    unfold GivesX
    constructor
    · rintro (h | ⟨a, b, c⟩)
      · exact .inl h
      · exact .inr ⟨⟨a, by unfold readN; rw [if_pos a]; omega⟩, c⟩
    · rintro (h | ⟨⟨a, b⟩, c⟩)
      · exact .inl h
      · refine .inr ⟨a, ?_, c⟩
        unfold readN at b; rw [if_pos a] at b; omega
  generalize ((readN X (stOf X) : Nat) : Int) = st at *
  generalize ((readN X (clOf X) : Nat) : Int) = cl at *
  generalize ((readN X (mpOf X) : Nat) : Int) = mp at *
  generalize ((readN X (rnOf X) : Nat) : Int) = rn at *
  generalize decide (GoodX X) = q at *
  generalize ((relY X off : Nat) : Int) = ry at *
  generalize relS X off = rs at *
  generalize decide (RelOk X off) = rq at *
  go_enter Tryz.func56, Tryz.ntmps56
  go_wp2_with fail
  refine (HRl.out _).mono ?_
  rintro e w1 ⟨rfl, hb⟩
  have B1 := Lib.hid hb
  clear hb HRl
  go_wp2_with fail
  refine (HC.out _).mono ?_
  rintro e w2 ⟨rfl, hb⟩
  have B2 := Lib.hid (B1.out.trans (hb.mono B1.out.size))
  have B3 := Lib.hid (B2.out.alloc B2.out.size (.cells #[.int .i64 st, .int .i64 cl, .int .u32 mp, .int .i64 rn] 74))
  clear hb HC B1
  cases rq with
  | true =>
    go_wp2
    go_ret
    exact ⟨by rw [HE.out]; rfl, B3.out⟩
  | false =>
    cases q with
    | false =>
      go_wp2
      go_ret
      exact ⟨by rw [HE.out]; rfl, B3.out⟩
    | true =>
      cases h2 : st == 2 with
      | false =>
        rw [h2] at HE
        go_wp2
        go_ret
        exact ⟨by rw [HE.out]; rfl, B3.out⟩
      | true =>
        rw [h2] at HE
        go_wp2
        go_ret
        exact ⟨by rw [HE.out]; simp, B3.out⟩

/-- What the model's l07LargeOk tells. -/
def LargeS (r ph pr hd ch : Int) : Prop := hd ≤ r ∧ ((0 < hd ∨ ph = 1) → pr + r ≤ ch) ∧ (((ph = 0 ∨ ph = 1) ∧ hd < r) ∨ (ph = 2 ∧ 0 < hd) ∨ (ph = 3 ∧ hd = r))
instance (r ph pr hd ch : Int) : Decidable (LargeS r ph pr hd ch) := inferInstanceAs (Decidable (_ ∧ _))

set_option maxRecDepth 100000 in
set_option maxHeartbeats 4000000 in
theorem sLarge_any (kd : Int) (A : Option Addr) (n c : Nat) (B : Option Addr) (m d td : Nat) (ph pr hd : Int) (sn : Nat) (r ch : Int) (w : World) (h0 : 0 ≤ pr) (h1 : pr ≤ ch) (h2 : ch ≤ 16) (h3 : 0 ≤ r) (h4 : r ≤ 16) :
    Calls Tryz.prog 52 #[.agg #[.int .i64 kd, .slice A n c, .slice B m d, .int .u32 (td : Int), .int .i64 ph, .int .i64 pr, .int .i64 hd, .int .u32 (sn : Int)], .int .i64 r, .int .i64 ch] w fun e w' => e = .returned (.bool (decide (LargeS r ph pr hd ch))) ∧ Below w.heap.size w w' := by
  have BX := Lib.hid (bel1 w (.cells #[.int .i64 kd, .slice A n c, .slice B m d, .int .u32 (td : Int), .int .i64 ph, .int .i64 pr, .int .i64 hd, .int .u32 (sn : Int)] 49))
  by_cases d1 : r < hd
  · have HR : Hid (decide (LargeS r ph pr hd ch) = false) := decide_eq_false (fun h => by have := h.1; omega)
    go_enter Tryz.func52, Tryz.ntmps52
    go_wp2
    go_ret
    exact ⟨by rw [HR.out]; rfl, BX.out⟩
  · have hw : (0 < hd ∧ True ∨ ¬ 0 < hd ∧ (ph == 1) = true) ∨ (¬ 0 < hd ∧ (ph == 1) = false) := by
      by_cases a : 0 < hd
      · exact .inl (.inl ⟨a, trivial⟩)
      · by_cases b : ph = 1
        · exact .inl (.inr ⟨a, by simp [b]⟩)
        · exact .inr ⟨a, by simpa using b⟩
    have main : ((0 < hd ∨ ph = 1) → pr + r ≤ ch) → ∀ (P : Prop), (LargeS r ph pr hd ch ↔ P) ↔ ((((ph = 0 ∨ ph = 1) ∧ hd < r) ∨ (ph = 2 ∧ 0 < hd) ∨ (ph = 3 ∧ hd = r)) ↔ P) := by
      intro hi P
      have : LargeS r ph pr hd ch ↔ (((ph = 0 ∨ ph = 1) ∧ hd < r) ∨ (ph = 2 ∧ 0 < hd) ∨ (ph = 3 ∧ hd = r)) := ⟨fun h => h.2.2, fun h => ⟨by omega, hi, h⟩⟩
      rw [this]
    have HV : Hid (((0 < hd ∨ ph = 1) → pr + r ≤ ch) → ((ph = 0 ∨ ph = 1) → decide (LargeS r ph pr hd ch) = decide (hd < r)) ∧ (ph = 2 → decide (LargeS r ph pr hd ch) = decide (0 < hd)) ∧ (ph = 3 → decide (LargeS r ph pr hd ch) = (hd == r)) ∧ (ph ≠ 0 → ph ≠ 1 → ph ≠ 2 → ph ≠ 3 → decide (LargeS r ph pr hd ch) = false)) := by
      intro hi
      refine ⟨fun a => decide_eq_decide.2 ((main hi _).2 ?_), fun a => decide_eq_decide.2 ((main hi _).2 ?_), fun a => ?_, fun a b c e => decide_eq_false (fun h => ?_)⟩
      · omega
      · omega
      · rw [Bool.eq_iff_iff, decide_eq_true_iff, beq_iff_eq]
        exact (main hi _).2 (by omega)
      · have := h.2.2; omega
    have HN : Hid ((0 < hd ∨ ph = 1) → ch < pr + r → decide (LargeS r ph pr hd ch) = false) := fun a b => decide_eq_false (fun h => by have := h.2.1 a; omega)
    clear main
    by_cases c0 : ph = 0
    · have b0 : (ph == 0) = true := by simp [c0]
      have b1 : (ph == 1) = false := by simp [c0]
      have C0 := Lib.hid c0
      clear c0 hw
      by_cases a : 0 < hd
      · by_cases e : ch < pr + r
        · have HR := Lib.hid (HN.out (.inl a) e)
          clear HN HV
          go_enter Tryz.func52, Tryz.ntmps52
          go_wp2
          go_ret
          exact ⟨by rw [HR.out]; rfl, BX.out⟩
        · have HR := Lib.hid ((HV.out (fun _ => by omega)).1 (.inl C0.out))
          clear HN HV
          go_enter Tryz.func52, Tryz.ntmps52
          go_wp2
          go_ret
          exact ⟨by rw [HR.out]; rfl, BX.out⟩
      · have HR := Lib.hid ((HV.out (fun h => by have := C0.out; omega)).1 (.inl C0.out))
        clear HN HV
        go_enter Tryz.func52, Tryz.ntmps52
        go_wp2
        go_ret
        exact ⟨by rw [HR.out]; rfl, BX.out⟩
    · have b0 : (ph == 0) = false := by simpa using c0
      by_cases c1 : ph = 1
      · have b1 : (ph == 1) = true := by simp [c1]
        have C1 := Lib.hid c1
        clear c0 c1 hw
        by_cases e : ch < pr + r
        · have HR := Lib.hid (HN.out (.inr C1.out) e)
          clear HN HV
          by_cases a : 0 < hd
          all_goals
            go_enter Tryz.func52, Tryz.ntmps52
            go_wp2
            go_ret
            exact ⟨by rw [HR.out]; rfl, BX.out⟩
        · have HR := Lib.hid ((HV.out (fun _ => by omega)).1 (.inr C1.out))
          clear HN HV
          by_cases a : 0 < hd
          all_goals
            go_enter Tryz.func52, Tryz.ntmps52
            go_wp2
            go_ret
            exact ⟨by rw [HR.out]; rfl, BX.out⟩
      · have b1 : (ph == 1) = false := by simpa using c1
        clear hw
        by_cases e : 0 < hd ∧ ch < pr + r
        · obtain ⟨e1, e2⟩ := e
          have HR := Lib.hid (HN.out (.inl e1) e2)
          clear HN HV c0 c1
          go_enter Tryz.func52, Tryz.ntmps52
          go_wp2
          go_ret
          exact ⟨by rw [HR.out]; rfl, BX.out⟩
        · have HV2 := Lib.hid (HV.out (fun h => by omega))
          have e' : ¬ 0 < hd ∨ (0 < hd ∧ ¬ ch < pr + r) := by omega
          by_cases c2 : ph = 2
          · have b2 : (ph == 2) = true := by simp [c2]
            have HR := Lib.hid (HV2.out.2.1 c2)
            clear HN HV HV2 c0 c1 c2 e
            rcases e' with e1 | ⟨e1, e2⟩
            all_goals
              go_enter Tryz.func52, Tryz.ntmps52
              go_wp2
              go_ret
              exact ⟨by rw [HR.out]; simp [e1], BX.out⟩
          · have b2 : (ph == 2) = false := by simpa using c2
            by_cases c3 : ph = 3
            · have b3 : (ph == 3) = true := by simp [c3]
              have HR := Lib.hid (HV2.out.2.2.1 c3)
              clear HN HV HV2 c0 c1 c2 c3 e
              rcases e' with e1 | ⟨e1, e2⟩
              all_goals
                go_enter Tryz.func52, Tryz.ntmps52
                go_wp2
                go_ret
                exact ⟨by rw [HR.out]; rfl, BX.out⟩
            · have b3 : (ph == 3) = false := by simpa using c3
              have HR := Lib.hid (HV2.out.2.2.2 c0 c1 c2 c3)
              clear HN HV HV2 c0 c1 c2 c3 e
              rcases e' with e1 | ⟨e1, e2⟩
              all_goals
                go_enter Tryz.func52, Tryz.ntmps52
                go_wp2
                go_ret
                exact ⟨by rw [HR.out]; rfl, BX.out⟩

/-- The lanes that ask, among the first k. -/
def askTo (kd : Int) (vs : List Int) (k : Nat) : List Nat := (List.range k).filter (fun i => decide (Asks kd (at0 vs i)))
theorem askTo_hit {kd : Int} {vs : List Int} {k : Nat} (h : Asks kd (at0 vs k)) : askTo kd vs (k + 1) = askTo kd vs k ++ [k] := by simp [askTo, List.range_succ, h]
theorem askTo_miss {kd : Int} {vs : List Int} {k : Nat} (h : ¬ Asks kd (at0 vs k)) : askTo kd vs (k + 1) = askTo kd vs k := by simp [askTo, List.range_succ, h]
theorem askTo_len (kd : Int) (vs : List Int) (k : Nat) : (askTo kd vs k).length ≤ k := by
  have := List.length_filter_le (fun i => decide (Asks kd (at0 vs i))) (List.range k)
  unfold askTo
  simpa using this

set_option maxRecDepth 100000 in
set_option maxHeartbeats 2000000 in
theorem sAsks_any (kd : Int) (A : Option Addr) (n c B : Nat) (vs : List Int) (w : World) (h : RdK .i64 w B A n vs) (hB : B ≤ w.heap.size) (hn : n ≤ 1000) :
    Calls Tryz.prog 51 #[.int .i64 kd, .slice A n c] w fun e w' => ∃ A' c', e = .returned (.slice A' (askTo kd vs n).length c') ∧ OwnK 3 .i64 w' w.heap.size A' (askTo kd vs n).length c' (ints (askTo kd vs n)) ∧ Below w.heap.size w w' := by
  have H2 := Lib.hid h.2
  clear h
  have HO : Hid (OwnK 3 .i64 (w.alloc (.cells #[] 3)) w.heap.size (some ⟨w.heap.size, 0, none⟩) 0 0 []) := World.ownsRow_made w #[] 0 (Nat.le_refl _) (Nat.zero_le _) (by simp)
  have HB := Lib.hid (bel1 w (.cells #[] 3))
  go_enter Tryz.func51, Tryz.ntmps51
  go_wp2
  go_loopw [5, 6] (fun s i wr => ∃ (k : Nat) (A' : Option Addr) (c' : Nat), k ≤ n ∧ i = .int .i64 k ∧ s = .slice A' (askTo kd vs k).length c' ∧ Hid (OwnK 3 .i64 wr w.heap.size A' (askTo kd vs k).length c' (ints (askTo kd vs k))) ∧ Hid (Below w.heap.size w wr)) (fun _ i _ => n - (intOf i).toNat)
  case atStart => exact ⟨0, _, _, Nat.zero_le _, rfl, rfl, HO, HB⟩
  case round =>
    obtain ⟨k, A', c', hk, rfl, rfl, HOr, HBr⟩ := hrel
    clear HO HB
    by_cases hlt : k < n
    · obtain ⟨g, o, rfl, hg, hc⟩ := H2.out (by omega)
      have c1 : wr.cell? ⟨g, o + k, none⟩ = some (.int .i64 (at0 vs k)) := (HBr.out.cell (p := ⟨g, o + k, none⟩) (by show g < _; omega)).trans (hc k hlt)
      have hz := HBr.out.size
      have hlen := askTo_len kd vs k
      have hkI : (k : Int) < (n : Int) := by omega
      clear hc
      by_cases ha : Asks kd (at0 vs k)
      · have HN := Lib.hid (askTo_hit ha)
        have hd : ((kd == 1) = true ∧ 0 < at0 vs k) ∨ ((kd == 1) = false ∧ (kd == 2) = true ∧ 0 ≤ at0 vs k) := by
          unfold Asks at ha
          rcases ha with ⟨a, b⟩ | ⟨a, b⟩
          · exact .inl ⟨by simp [a], b⟩
          · exact .inr ⟨by simp [a], by simp [a], b⟩
        generalize at0 vs k = x at *
        generalize askTo kd vs k = L at *
        clear ha
        rcases hd with ⟨e1, e2⟩ | ⟨e1, e2, e3⟩
        all_goals
          go_wp2_with (at_builtin; refine wpList_push_int rfl _ _ rfl w.heap.size L.length c' A' (ints L) k rfl rfl HOr.out (by omega) hz ?_; intro A2 c2 w' HO' HB')
          have HM := Lib.hid (HBr.out.trans HB'.out)
          have HP := Lib.hid (show OwnK 3 .i64 w' w.heap.size A2 (askTo kd vs (k + 1)).length c2 (ints (askTo kd vs (k + 1))) by
            have := HO'.out
            rw [HN.out]
            simpa [ints] using this)
          have HLn : Hid ((askTo kd vs (k + 1)).length = L.length + 1) := by
            show _ = _
            rw [HN.out]; simp
          clear HO' HB' HOr HBr c1
          go_roundw
          case rel => exact ⟨k + 1, A2, c2, by omega, by go_num, by rw [HLn.out], HP, HM⟩
          case measure => simp [intOf]; omega
      · have HN := Lib.hid (askTo_miss ha)
        have hd : ((kd == 1) = true ∧ ¬ 0 < at0 vs k ∧ (kd == 2) = false) ∨ ((kd == 1) = false ∧ (kd == 2) = true ∧ ¬ 0 ≤ at0 vs k) ∨ ((kd == 1) = false ∧ (kd == 2) = false) := by
          unfold Asks at ha
          by_cases a : kd = 1
          · subst a
            exact .inl ⟨rfl, by omega, rfl⟩
          · by_cases b : kd = 2
            · subst b
              exact .inr (.inl ⟨rfl, rfl, by omega⟩)
            · exact .inr (.inr ⟨by simpa using a, by simpa using b⟩)
        generalize at0 vs k = x at *
        clear ha
        rcases hd with ⟨e1, e2, e3⟩ | ⟨e1, e2, e3⟩ | ⟨e1, e2⟩
        all_goals
          go_wp2
          go_roundw
          case rel => exact ⟨k + 1, A', c', by omega, by go_num, by rw [HN.out], by rw [HN.out]; exact HOr, HBr⟩
          case measure => simp [intOf]; omega
    · obtain rfl : k = n := by omega
      go_wp2
      go_ret
      exact ⟨A', c', rfl, HOr.out, HBr.out⟩

end Go.Proofs.YtefcaeldkdbjdaaGreat
