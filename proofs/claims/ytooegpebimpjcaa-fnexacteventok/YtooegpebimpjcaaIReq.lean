/- The contracts of allBetween and ReqOk, of the program and of the model. -/
import Derived.Test.YtooegpebimpjcaaWarpM
import Derived.Test.YtooegpebimpjcaaOwnK
import Derived.Deep.RegionHeld3
import Derived.Deep.DeepCutAuto
namespace Go.Proofs.Ytooegpebimpjcaa
open Go.RowKit
set_option linter.unusedVariables false

def Within (lo hi : Int) (zs : List Int) : Prop := ∀ x ∈ zs, lo ≤ x ∧ x ≤ hi
instance (lo hi : Int) (zs : List Int) : Decidable (Within lo hi zs) := inferInstanceAs (Decidable (∀ x ∈ zs, _))
theorem within_next {lo hi : Int} {zs : List Int} {k : Nat} (h : Within lo hi (zs.take k)) (hk : k < zs.length) (h1 : lo ≤ zs[k]?.getD 0) (h2 : zs[k]?.getD 0 ≤ hi) : Within lo hi (zs.take (k + 1)) := by
  rw [List.take_succ_eq_append_getElem hk]
  intro x hx
  rcases List.mem_append.1 hx with hx | hx
  · exact h x hx
  · simp at hx
    subst hx
    simpa [hk] using And.intro h1 h2
theorem within_no {lo hi : Int} {zs : List Int} {k : Nat} (hk : k < zs.length) (h : zs[k]?.getD 0 < lo ∨ hi < zs[k]?.getD 0) : ¬ Within lo hi zs := by
  intro hw
  have := hw zs[k] (List.getElem_mem hk)
  simp [hk] at h
  omega
theorem at_of {zs : List Int} {k : Nat} {P : Int → Prop} (h : ∀ x ∈ zs, P x) (hk : k < zs.length) : P (zs[k]?.getD 0) := by
  simpa [hk] using h _ (List.getElem_mem hk)

set_option maxHeartbeats 1000000 in
theorem allBetween_any (A : Option Addr) (n c B : Nat) (zs : List Int) (lo hi : Int) (w : World) (h : RdK .i64 w B A n zs) (hm : n ≤ maxLen) :
    Calls Try.prog 92 #[.slice A n c, .int .i64 lo, .int .i64 hi] w fun e w' => e = .returned (.bool (decide (Within lo hi zs))) ∧ w = w' := by
  unfold maxLen at hm
  have HL := Lib.hid h.1
  have H2 := Lib.hid h.2
  clear h
  go_enter Try.func92, Try.ntmps92
  go_wp2
  go_loop [11] (fun i => ∃ k : Nat, k ≤ n ∧ i = .int .i64 k ∧ Hid (Within lo hi (zs.take k))) (fun i => n - (intOf i).toNat)
  case atStart => exact ⟨0, Nat.zero_le _, rfl, (by intro x hx; simp at hx : Within lo hi (zs.take 0))⟩
  case round =>
    obtain ⟨k, hk, rfl, HK⟩ := hrel
    by_cases hlt : k < n
    · obtain ⟨g, o, rfl, hg, hc⟩ := H2.out (by omega)
      have c1 := hc k hlt
      clear hc
      have hkl : k < zs.length := by rw [HL.out]; exact hlt
      have HN := fun a b => within_next HK.out hkl a b
      have HF := fun a => within_no (lo := lo) (hi := hi) hkl a
      generalize zs[k]?.getD 0 = x at *
      by_cases d1 : x < lo
      · have HR : Hid (decide (Within lo hi zs) = false) := decide_eq_false (HF (.inl d1))
        clear HN HF
        go_wp2
        go_ret
        exact ⟨by rw [HR.out]; rfl, rfl⟩
      · by_cases d2 : hi < x
        · have HR : Hid (decide (Within lo hi zs) = false) := decide_eq_false (HF (.inr d2))
          clear HN HF
          go_wp2
          go_ret
          exact ⟨by rw [HR.out]; rfl, rfl⟩
        · have HM := Lib.hid (HN (by omega) (by omega))
          clear HN HF
          go_wp2
          go_round
          case rel => exact ⟨k + 1, by omega, by go_num, HM⟩
          case measure => simp [intOf]; omega
    · have HR : Hid (decide (Within lo hi zs) = true) := by
        refine decide_eq_true ?_
        have := HK.out
        rwa [List.take_of_length_le (by have := HL.out; omega)] at this
      go_wp2
      go_ret
      exact ⟨by rw [HR.out]; rfl, rfl⟩

theorem req_take {kd : Int} {vs : List Int} (h : kd = 1) : ReqGood kd vs ↔ vs.length = 8 ∧ Within 0 256 vs := by
  subst h
  unfold ReqGood Within InReq
  constructor
  · rintro ⟨h1, h2⟩; exact ⟨h1, fun x hx => by have := h2 x hx; omega⟩
  · rintro ⟨h1, h2⟩; exact ⟨h1, fun x hx => by have := h2 x hx; omega⟩
theorem req_give {kd : Int} {vs : List Int} (h : kd = 2) : ReqGood kd vs ↔ vs.length = 8 ∧ Within (-1) 4095 vs := by
  subst h
  unfold ReqGood Within InReq
  constructor
  · rintro ⟨h1, h2⟩; exact ⟨h1, fun x hx => by have := h2 x hx; omega⟩
  · rintro ⟨h1, h2⟩; exact ⟨h1, fun x hx => by have := h2 x hx; omega⟩
theorem req_none {kd : Int} {vs : List Int} (h1 : kd ≠ 1) (h2 : kd ≠ 2) : ¬ ReqGood kd vs := by
  rintro ⟨h3, h4⟩
  have := h4 vs[0] (List.getElem_mem (by omega))
  unfold InReq at this
  omega

set_option maxHeartbeats 1000000 in
theorem reqOk_any (kd : Int) (A : Option Addr) (n c B : Nat) (vs : List Int) (w : World) (h : RdK .i64 w B A n vs) (hB : B ≤ w.heap.size) (hm : n ≤ maxLen) :
    Calls Try.prog 54 #[.agg #[.int .i64 kd, .slice A n c]] w fun e w' => e = .returned (.bool (decide (ReqGood kd vs))) ∧ Below w.heap.size w w' := by
  have HA : Hid (∀ lo hi W, Below w.heap.size w W → Calls Try.prog 92 #[.slice A n c, .int .i64 lo, .int .i64 hi] W fun e w' => e = .returned (.bool (decide (Within lo hi vs))) ∧ W = w') := fun lo hi W hb => allBetween_any A n c B vs lo hi W (h.below (hb.mono hB)) hm
  have HB0 : Hid (Below w.heap.size w (w.alloc (.cells #[.int .i64 kd, .slice A n c] 39))) := (Below.refl _ _).alloc (Nat.le_refl _) _
  unfold maxLen at hm
  by_cases hn : n = 8
  · have hl : vs.length = 8 := by rw [h.1, hn]
    have hn2 : ((n : Int) != 8) = false := by simp; omega
    by_cases h1 : kd = 1
    · have HR : Hid (decide (ReqGood kd vs) = decide (Within 0 256 vs)) := decide_eq_decide.2 ((req_take h1).trans ⟨fun h => h.2, fun h => ⟨hl, h⟩⟩)
      have hk1 : (kd == 1) = true := by simp [h1]
      clear h hn hl h1
      go_enter Try.func54, Try.ntmps54
      go_wp2_with fail
      refine (HA.out 0 256 _ HB0.out).mono ?_
      rintro e w1 ⟨rfl, rfl⟩
      go_wp2
      go_ret
      exact ⟨by rw [HR.out]; rfl, HB0.out⟩
    · have hk1 : (kd == 1) = false := by simp; omega
      by_cases h2 : kd = 2
      · have HR : Hid (decide (ReqGood kd vs) = decide (Within (-1) 4095 vs)) := decide_eq_decide.2 ((req_give h2).trans ⟨fun h => h.2, fun h => ⟨hl, h⟩⟩)
        have hk2 : (kd == 2) = true := by simp [h2]
        clear h hn hl h1 h2
        go_enter Try.func54, Try.ntmps54
        go_wp2_with fail
        refine (HA.out (-1) 4095 _ HB0.out).mono ?_
        rintro e w1 ⟨rfl, rfl⟩
        go_wp2
        go_ret
        exact ⟨by rw [HR.out]; rfl, HB0.out⟩
      · have hk2 : (kd == 2) = false := by simp; omega
        have HR : Hid (decide (ReqGood kd vs) = false) := decide_eq_false (req_none h1 h2)
        clear h hn hl h1 h2
        go_enter Try.func54, Try.ntmps54
        go_wp2
        go_ret
        exact ⟨by rw [HR.out]; rfl, HB0.out⟩
  · have hn2 : ((n : Int) != 8) = true := by simp; omega
    have HR : Hid (decide (ReqGood kd vs) = false) := decide_eq_false (fun hg => hn (by rw [← h.1]; exact hg.1))
    clear h hn
    go_enter Try.func54, Try.ntmps54
    go_wp2
    go_ret
    exact ⟨by rw [HR.out]; rfl, HB0.out⟩

def InAll (kd : Int) (zs : List Int) : Prop := ∀ x ∈ zs, InReq kd x
theorem inAll_next {kd : Int} {zs : List Int} {k : Nat} (h : InAll kd (zs.take k)) (hk : k < zs.length) (h1 : InReq kd (zs[k]?.getD 0)) : InAll kd (zs.take (k + 1)) := by
  rw [List.take_succ_eq_append_getElem hk]
  intro x hx
  rcases List.mem_append.1 hx with hx | hx
  · exact h x hx
  · simp at hx
    subst hx
    simpa [hk] using h1

set_option maxRecDepth 100000 in
set_option maxHeartbeats 2000000 in
theorem sReqOk_any (kd : Int) (A : Option Addr) (n c B : Nat) (vs : List Int) (w : World) (h : RdK .i64 w B A n vs) (hB : B ≤ w.heap.size) (hm : n ≤ maxLen) :
    Calls Try.prog 48 #[.agg #[.int .i64 kd, .slice A n c]] w fun e w' => e = .returned (.bool (decide (ReqGood kd vs))) ∧ Below w.heap.size w w' := by
  have HB0 : Hid (Below w.heap.size w (w.alloc (.cells #[.int .i64 kd, .slice A n c] 39))) := (Below.refl _ _).alloc (Nat.le_refl _) _
  unfold maxLen at hm
  by_cases hn : n = 8
  · subst hn
    obtain ⟨g, o, rfl, hg, hc⟩ := h.2 (by omega)
    have HL := Lib.hid h.1
    have HC : Hid (∀ k, k < 8 → (w.alloc (.cells #[.int .i64 kd, .slice (some ⟨g, o, none⟩) 8 c] 39)).cell? ⟨g, o + k, none⟩ = some (.int .i64 (vs[k]?.getD 0))) := fun k hk => (HB0.out.cell (p := ⟨g, o + k, none⟩) (by show g < _; omega)).trans (hc k hk)
    by_cases hk1 : kd = 1
    · subst hk1
      clear h hc
      go_enter Try.func48, Try.ntmps48
      go_wp2
      go_loop [3] (fun i => ∃ k : Nat, k ≤ 8 ∧ i = .int .i64 k ∧ Hid (Within (0) 256 (vs.take k))) (fun i => 8 - (intOf i).toNat)
      case atStart => exact ⟨0, Nat.zero_le _, rfl, (by intro x hx; simp at hx : Within (0) 256 (vs.take 0))⟩
      case round =>
        obtain ⟨k, hk, rfl, HK⟩ := hrel
        by_cases hlt : k < 8
        · have c1 := HC.out k hlt
          have hkl : k < vs.length := by rw [HL.out]; exact hlt
          have HN := fun a b => within_next HK.out hkl a b
          have HF := fun a => within_no (lo := 0) (hi := 256) hkl a
          have hkI : (k : Int) < 8 := by omega
          generalize vs[k]?.getD 0 = x at *
          by_cases d1 : x < 0
          · have HR : Hid (decide (ReqGood 1 vs) = false) := decide_eq_false (fun h => HF (.inl d1) ((req_take rfl).1 h).2)
            clear HN HF
            go_wp2
            go_ret
            exact ⟨by rw [HR.out]; rfl, HB0.out⟩
          · by_cases d2 : 256 < x
            · have HR : Hid (decide (ReqGood 1 vs) = false) := decide_eq_false (fun h => HF (.inr d2) ((req_take rfl).1 h).2)
              clear HN HF
              go_wp2
              go_ret
              exact ⟨by rw [HR.out]; rfl, HB0.out⟩
            · have HM := Lib.hid (HN (by omega) (by omega))
              clear HN HF
              go_wp2
              go_round
              case rel => exact ⟨k + 1, by omega, by go_num, HM⟩
              case measure => simp [intOf]; omega
        · have HR : Hid (decide (ReqGood 1 vs) = true) := by
            refine decide_eq_true ((req_take rfl).2 ⟨HL.out, ?_⟩)
            have := HK.out
            rwa [List.take_of_length_le (by have := HL.out; omega)] at this
          go_wp2
          go_ret
          exact ⟨by rw [HR.out]; rfl, HB0.out⟩
    · by_cases hk2 : kd = 2
      · subst hk2
        clear h hc hk1
        go_enter Try.func48, Try.ntmps48
        go_wp2
        go_loop [3] (fun i => ∃ k : Nat, k ≤ 8 ∧ i = .int .i64 k ∧ Hid (Within (-1) 4095 (vs.take k))) (fun i => 8 - (intOf i).toNat)
        case atStart => exact ⟨0, Nat.zero_le _, rfl, (by intro x hx; simp at hx : Within (-1) 4095 (vs.take 0))⟩
        case round =>
          obtain ⟨k, hk, rfl, HK⟩ := hrel
          by_cases hlt : k < 8
          · have c1 := HC.out k hlt
            have hkl : k < vs.length := by rw [HL.out]; exact hlt
            have HN := fun a b => within_next HK.out hkl a b
            have HF := fun a => within_no (lo := -1) (hi := 4095) hkl a
            have hkI : (k : Int) < 8 := by omega
            generalize vs[k]?.getD 0 = x at *
            by_cases d1 : x < -1
            · have HR : Hid (decide (ReqGood 2 vs) = false) := decide_eq_false (fun h => HF (.inl d1) ((req_give rfl).1 h).2)
              clear HN HF
              go_wp2
              go_ret
              exact ⟨by rw [HR.out]; rfl, HB0.out⟩
            · by_cases d2 : 4095 < x
              · have HR : Hid (decide (ReqGood 2 vs) = false) := decide_eq_false (fun h => HF (.inr d2) ((req_give rfl).1 h).2)
                clear HN HF
                go_wp2
                go_ret
                exact ⟨by rw [HR.out]; rfl, HB0.out⟩
              · have HM := Lib.hid (HN (by omega) (by omega))
                clear HN HF
                go_wp2
                go_round
                case rel => exact ⟨k + 1, by omega, by go_num, HM⟩
                case measure => simp [intOf]; omega
          · have HR : Hid (decide (ReqGood 2 vs) = true) := by
              refine decide_eq_true ((req_give rfl).2 ⟨HL.out, ?_⟩)
              have := HK.out
              rwa [List.take_of_length_le (by have := HL.out; omega)] at this
            go_wp2
            go_ret
            exact ⟨by rw [HR.out]; rfl, HB0.out⟩
      · have HR : Hid (decide (ReqGood kd vs) = false) := decide_eq_false (req_none hk1 hk2)
        have k1 : (kd != 1) = true := by simp; omega
        have k2 : (kd != 2) = true := by simp; omega
        clear h hc hk1 hk2
        go_enter Try.func48, Try.ntmps48
        go_wp2
        go_ret
        exact ⟨by rw [HR.out]; rfl, HB0.out⟩
  · have hn2 : ((n : Int) != 8) = true := by simp; omega
    have HR : Hid (decide (ReqGood kd vs) = false) := decide_eq_false (fun hg => hn (by rw [← h.1]; exact hg.1))
    clear h hn
    go_enter Try.func48, Try.ntmps48
    go_wp2
    go_ret
    exact ⟨by rw [HR.out]; rfl, HB0.out⟩

end Go.Proofs.Ytooegpebimpjcaa
