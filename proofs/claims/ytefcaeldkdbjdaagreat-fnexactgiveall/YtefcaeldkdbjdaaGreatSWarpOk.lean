/- The contract of the model's WarpOk: it tells whether a warp is valid. -/
import Derived.Test.YtefcaeldkdbjdaaGreatSOkL
import Derived.Test.YtefcaeldkdbjdaaGreatSOkT
import Derived.Test.YtefcaeldkdbjdaaGreatSOkG2
namespace Go.Proofs.YtefcaeldkdbjdaaGreat
open Go.RowKit
set_option linter.unusedVariables false

theorem sOk_ready (kd : Int) (A : Option Addr) (n c : Nat) (B : Option Addr) (m d td : Nat) (ph pr hd : Int) (sn : Nat) (vs gs : List Int) (Bv : Nat) (ch : Int) (w : World) (hv : RdK .i64 w Bv A n vs) (hB : Bv ≤ w.heap.size) (ht : td < 4294967296) (hsn : sn < 4294967296) (hs : ShapeOk n m td ch) (hk : (kd == 0) = false) (hr : Ready kd vs td) (hp : Pre ph pr hd ch) :
    Calls Tryz.prog 33 #[.agg #[.int .i64 kd, .slice A n c, .slice B m d, .int .u32 (td : Int), .int .i64 ph, .int .i64 pr, .int .i64 hd, .int .u32 (sn : Int)], .int .i64 ch] w fun e w' => e = .returned (.bool (decide (PartOk kd (wantV vs td) ph pr hd sn ch))) ∧ Below w.heap.size w w' := by
  obtain ⟨v, hvv⟩ : ∃ v, v = wantV vs td := ⟨_, rfl⟩
  rw [← hvv]
  have hkk := (want_bounds hs.2.2.2.2 hr).2.2.1
  by_cases k1 : kd = 1
  · have k1b : (kd == 1) = true := by simp [k1]
    by_cases hv16 : 16 < v
    · by_cases s0 : sn = 0
      · exact sOk_large kd A n c B m d td ph pr hd sn vs gs Bv ch w hv hB ht hsn hs hk hr hp v hvv k1 hv16 s0 _ rfl
      · exact sOk_seen kd A n c B m d td ph pr hd sn vs gs Bv ch w hv hB ht hsn hs hk hr hp v hvv true k1b (.inl ⟨rfl, hv16⟩) s0
    · by_cases hse : ph ≠ 1 → sn = 0
      · by_cases hx : hd = 0 ∧ ph = 1 ∧ pr < ch
        · exact sOk_small kd A n c B m d td ph pr hd sn vs gs Bv ch w hv hB ht hsn hs hk hr hp v hvv k1 hv16 hse hx.1 hx.2.1 hx.2.2
        · exact sOk_small2 kd A n c B m d td ph pr hd sn vs gs Bv ch w hv hB ht hsn hs hk hr hp v hvv k1 hv16 hse hx
      · have hp1 : ph ≠ 1 := fun h => hse (fun a => absurd h a)
        exact sOk_seen kd A n c B m d td ph pr hd sn vs gs Bv ch w hv hB ht hsn hs hk hr hp v hvv true k1b (.inr (.inl ⟨rfl, hv16, by simpa using hp1⟩)) (fun h => hse (fun _ => h))
  · have k2 : kd = 2 := hkk.resolve_left k1
    have k1b : (kd == 1) = false := by simpa using k1
    by_cases hse : ph ≠ 1 → sn = 0
    · by_cases f1 : ph = 1
      · exact sOk_give1 kd A n c B m d td ph pr hd sn vs gs Bv ch w hv hB ht hsn hs hk hr hp v hvv k2 hse f1
      · by_cases f2 : ph = 2
        · exact sOk_give2 kd A n c B m d td ph pr hd sn vs gs Bv ch w hv hB ht hsn hs hk hr hp v hvv k2 hse f2
        · exact sOk_give0 kd A n c B m d td ph pr hd sn vs gs Bv ch w hv hB ht hsn hs hk hr hp v hvv k2 hse (by by_cases f0 : ph = 0; exact .inl f0; exact .inr ⟨f0, f1, f2⟩)
    · have hp1 : ph ≠ 1 := fun h => hse (fun a => absurd h a)
      exact sOk_seen kd A n c B m d td ph pr hd sn vs gs Bv ch w hv hB ht hsn hs hk hr hp v hvv false k1b (.inr (.inr ⟨rfl, by simpa using hp1⟩)) (fun h => hse (fun _ => h))

theorem sWarpOk_any (kd : Int) (A : Option Addr) (n c : Nat) (B : Option Addr) (m d td : Nat) (ph pr hd : Int) (sn : Nat) (vs gs : List Int) (Bv Bg : Nat) (ch : Int) (w : World) (hv : RdK .i64 w Bv A n vs) (hB : Bv ≤ w.heap.size) (hm : n ≤ maxLen) (hg : RdK .i64 w Bg B m gs) (hm2 : m ≤ maxLen) (ht : td < 4294967296) (hsn : sn < 4294967296) :
    Calls Tryz.prog 33 #[.agg #[.int .i64 kd, .slice A n c, .slice B m d, .int .u32 (td : Int), .int .i64 ph, .int .i64 pr, .int .i64 hd, .int .u32 (sn : Int)], .int .i64 ch] w fun e w' => e = .returned (.bool (decide (WarpGood kd vs gs td ph pr hd sn ch))) ∧ Below w.heap.size w w' := by
  have hl := hv.1
  have hlg := hg.1
  by_cases hs : ShapeOk n m td ch
  · have HSh : ∀ X : Prop, (ShapeOk vs.length gs.length td ch ∧ X) ↔ X := fun X => ⟨fun h => h.2, fun h => ⟨by rw [hl, hlg]; exact hs, h⟩⟩
    by_cases hk : kd = 0
    · have e : decide (WarpGood kd vs gs td ph pr hd sn ch) = (((td : Int) == 0) && (ph == 0) && (pr == 0) && (hd == 0) && ((sn : Int) == 0)) := by
        rw [Bool.eq_iff_iff]
        simp only [decide_eq_true_iff, Bool.and_eq_true, beq_iff_eq]
        refine (HSh _).trans ?_
        constructor
        · rintro (⟨a, b, cc, d, e, f⟩ | ⟨a, _⟩)
          · exact ⟨⟨⟨⟨by omega, cc⟩, d⟩, e⟩, by omega⟩
          · exact absurd hk a
        · rintro ⟨⟨⟨⟨b, cc⟩, d⟩, e⟩, f⟩; exact .inl ⟨hk, by omega, cc, d, e, by omega⟩
      rw [e]
      exact sOk_idle kd A n c B m d td ph pr hd sn ch w ht hs (by simp [hk])
    · have hkb : (kd == 0) = false := by simpa using hk
      have e : decide (WarpGood kd vs gs td ph pr hd sn ch) = decide (Ready kd vs td ∧ PartOk kd (wantV vs td) ph pr hd sn ch) := by
        refine decide_eq_decide.2 ((HSh _).trans ?_)
        rw [← busy_iff]
        exact ⟨fun h => h.elim (fun a => absurd a.1 hk) (fun a => a.2), fun h => .inr ⟨hk, h⟩⟩
      rw [e]
      by_cases h0 : ReqGood kd vs ∧ td ≠ 0 ∧ Pre ph pr hd ch
      · by_cases hr : Ready kd vs td
        · have e2 : decide (Ready kd vs td ∧ PartOk kd (wantV vs td) ph pr hd sn ch) = decide (PartOk kd (wantV vs td) ph pr hd sn ch) := decide_eq_decide.2 ⟨fun h => h.2, fun h => ⟨hr, h⟩⟩
          rw [e2]
          exact sOk_ready kd A n c B m d td ph pr hd sn vs gs Bv ch w hv hB ht hsn hs hkb hr h0.2.2
        · rw [decide_eq_false (fun h => hr h.1)]
          exact sOk_lane kd A n c B m d td ph pr hd sn vs gs Bv ch w hv hB ht hsn hs hkb h0.1 h0.2.1 h0.2.2 hr
      · rw [decide_eq_false (fun h => h0 ⟨h.1.1, h.1.2.1, part_pre hs.1 hs.2.1 h.2⟩)]
        exact sOk_bad kd A n c B m d td ph pr hd sn vs gs Bv ch w hv hB ht hsn hs hkb h0
  · rw [decide_eq_false (fun h => hs (by have := h.1; rwa [hl, hlg] at this))]
    exact sOk_shape kd A n c B m d td ph pr hd sn ch w ht hs hm hm2

end Go.Proofs.YtefcaeldkdbjdaaGreat
