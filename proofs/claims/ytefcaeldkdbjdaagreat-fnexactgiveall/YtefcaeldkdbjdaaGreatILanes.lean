/- The contracts of allBetween and ReqOk, of the program and of the model. -/
/- Slices of bools: what they hold, and how that is carried on; the laws' toBoolS and eqBoolS; how such an argument is opened. -/
/- The contracts of Ballot, the program's and the model's: the mask of the lanes that voted true. -/
/- The contract of the program's lanes: the mask of the lanes that ask, of a valid request. -/
import Derived.Test.YtefcaeldkdbjdaaGreatWarpM
import Derived.Test.YtefcaeldkdbjdaaGreatOwnK
import Derived.Deep.RegionHeld3
import Derived.Deep.DeepCutAuto
import Derived.Test.YtefcaeldkdbjdaaGreatOpenW
import Derived.Deep.Grids
import Derived.Test.YtefcaeldkdbjdaaGreatOnes
import Derived.Test.YtefcaeldkdbjdaaGreatCopyI
namespace Go.Proofs.YtefcaeldkdbjdaaGreat
open Go.RowKit
set_option linter.unusedVariables false

def Within (lo hi : Int) (zs : List Int) : Prop := ∀ x ∈ zs, lo ≤ x ∧ x ≤ hi
instance (lo hi : Int) (zs : List Int) : Decidable (Within lo hi zs) := inferInstanceAs (Decidable (∀ x ∈ zs, _))
theorem within_next {lo hi : Int} {zs : List Int} {k : Nat} (h : Within lo hi (zs.take k)) (hk : k < zs.length) (h1 : lo ≤ zs[k]?.getD 0) (h2 : zs[k]?.getD 0 ≤ hi) : Within lo hi (zs.take (k + 1)) := by
  rw [List.take_succ_eq_append_getElem hk]
  intro x hx
  rcases List.mem_append.1 hx with hx | hx
  · exact h x hx
  · simp at hx
    subst hx
    simpa [hk] using And.intro h1 h2
theorem within_no {lo hi : Int} {zs : List Int} {k : Nat} (hk : k < zs.length) (h : zs[k]?.getD 0 < lo ∨ hi < zs[k]?.getD 0) : ¬ Within lo hi zs := by
  intro hw
  have := hw zs[k] (List.getElem_mem hk)
  simp [hk] at h
  omega
theorem at_of {zs : List Int} {k : Nat} {P : Int → Prop} (h : ∀ x ∈ zs, P x) (hk : k < zs.length) : P (zs[k]?.getD 0) := by
  simpa [hk] using h _ (List.getElem_mem hk)

set_option maxHeartbeats 1000000 in
theorem allBetween_any (A : Option Addr) (n c B : Nat) (zs : List Int) (lo hi : Int) (w : World) (h : RdK .i64 w B A n zs) (hm : n ≤ maxLen) :
    Calls Tryz.prog 99 #[.slice A n c, .int .i64 lo, .int .i64 hi] w fun e w' => e = .returned (.bool (decide (Within lo hi zs))) ∧ w = w' := by
  unfold maxLen at hm
  have HL := Lib.hid h.1
  have H2 := Lib.hid h.2
  clear h
  go_enter Tryz.func99, Tryz.ntmps99
  go_wp2
  go_loop [11] (fun i => ∃ k : Nat, k ≤ n ∧ i = .int .i64 k ∧ Hid (Within lo hi (zs.take k))) (fun i => n - (intOf i).toNat)
  case atStart => exact ⟨0, Nat.zero_le _, rfl, (by intro x hx; simp at hx : Within lo hi (zs.take 0))⟩
  case round =>
    obtain ⟨k, hk, rfl, HK⟩ := hrel
    by_cases hlt : k < n
    · obtain ⟨g, o, rfl, hg, hc⟩ := H2.out (by omega)
      have c1 := hc k hlt
      clear hc
      have hkl : k < zs.length := by rw [HL.out]; exact hlt
      have HN := fun a b => within_next HK.out hkl a b
      have HF := fun a => within_no (lo := lo) (hi := hi) hkl a
      generalize zs[k]?.getD 0 = x at *
      by_cases d1 : x < lo
      · have HR : Hid (decide (Within lo hi zs) = false) := decide_eq_false (HF (.inl d1))
        clear HN HF
        go_wp2
        go_ret
        exact ⟨by rw [HR.out]; rfl, rfl⟩
      · by_cases d2 : hi < x
        · have HR : Hid (decide (Within lo hi zs) = false) := decide_eq_false (HF (.inr d2))
          clear HN HF
          go_wp2
          go_ret
          exact ⟨by rw [HR.out]; rfl, rfl⟩
        · have HM := Lib.hid (HN (by omega) (by omega))
          clear HN HF
          go_wp2
          go_round
          case rel => exact ⟨k + 1, by omega, by go_num, HM⟩
          case measure => simp [intOf]; omega
    · have HR : Hid (decide (Within lo hi zs) = true) := by
        refine decide_eq_true ?_
        have := HK.out
        rwa [List.take_of_length_le (by have := HL.out; omega)] at this
      go_wp2
      go_ret
      exact ⟨by rw [HR.out]; rfl, rfl⟩

theorem req_take {kd : Int} {vs : List Int} (h : kd = 1) : ReqGood kd vs ↔ vs.length = 8 ∧ Within 0 256 vs := by
  subst h
  unfold ReqGood Within InReq
  constructor
  · rintro ⟨h1, h2⟩; exact ⟨h1, fun x hx => by have := h2 x hx; omega⟩
  · rintro ⟨h1, h2⟩; exact ⟨h1, fun x hx => by have := h2 x hx; omega⟩
theorem req_give {kd : Int} {vs : List Int} (h : kd = 2) : ReqGood kd vs ↔ vs.length = 8 ∧ Within (-1) 4095 vs := by
  subst h
  unfold ReqGood Within InReq
  constructor
  · rintro ⟨h1, h2⟩; exact ⟨h1, fun x hx => by have := h2 x hx; omega⟩
  · rintro ⟨h1, h2⟩; exact ⟨h1, fun x hx => by have := h2 x hx; omega⟩
theorem req_none {kd : Int} {vs : List Int} (h1 : kd ≠ 1) (h2 : kd ≠ 2) : ¬ ReqGood kd vs := by
  rintro ⟨h3, h4⟩
  have := h4 vs[0] (List.getElem_mem (by omega))
  unfold InReq at this
  omega

set_option maxHeartbeats 1000000 in
theorem reqOk_any (kd : Int) (A : Option Addr) (n c B : Nat) (vs : List Int) (w : World) (h : RdK .i64 w B A n vs) (hB : B ≤ w.heap.size) (hm : n ≤ maxLen) :
    Calls Tryz.prog 90 #[.agg #[.int .i64 kd, .slice A n c]] w fun e w' => e = .returned (.bool (decide (ReqGood kd vs))) ∧ Below w.heap.size w w' := by
  have HA : Hid (∀ lo hi W, Below w.heap.size w W → Calls Tryz.prog 99 #[.slice A n c, .int .i64 lo, .int .i64 hi] W fun e w' => e = .returned (.bool (decide (Within lo hi vs))) ∧ W = w') := fun lo hi W hb => allBetween_any A n c B vs lo hi W (h.below (hb.mono hB)) hm
  have HB0 : Hid (Below w.heap.size w (w.alloc (.cells #[.int .i64 kd, .slice A n c] 31))) := (Below.refl _ _).alloc (Nat.le_refl _) _
  unfold maxLen at hm
  by_cases hn : n = 8
  · have hl : vs.length = 8 := by rw [h.1, hn]
    have hn2 : ((n : Int) != 8) = false := by simp; omega
    by_cases h1 : kd = 1
    · have HR : Hid (decide (ReqGood kd vs) = decide (Within 0 256 vs)) := decide_eq_decide.2 ((req_take h1).trans ⟨fun h => h.2, fun h => ⟨hl, h⟩⟩)
      have hk1 : (kd == 1) = true := by simp [h1]
      clear h hn hl h1
      go_enter Tryz.func90, Tryz.ntmps90
      go_wp2_with fail
      refine (HA.out 0 256 _ HB0.out).mono ?_
      rintro e w1 ⟨rfl, rfl⟩
      go_wp2
      go_ret
      exact ⟨by rw [HR.out]; rfl, HB0.out⟩
    · have hk1 : (kd == 1) = false := by simp; omega
      by_cases h2 : kd = 2
      · have HR : Hid (decide (ReqGood kd vs) = decide (Within (-1) 4095 vs)) := decide_eq_decide.2 ((req_give h2).trans ⟨fun h => h.2, fun h => ⟨hl, h⟩⟩)
        have hk2 : (kd == 2) = true := by simp [h2]
        clear h hn hl h1 h2
        go_enter Tryz.func90, Tryz.ntmps90
        go_wp2_with fail
        refine (HA.out (-1) 4095 _ HB0.out).mono ?_
        rintro e w1 ⟨rfl, rfl⟩
        go_wp2
        go_ret
        exact ⟨by rw [HR.out]; rfl, HB0.out⟩
      · have hk2 : (kd == 2) = false := by simp; omega
        have HR : Hid (decide (ReqGood kd vs) = false) := decide_eq_false (req_none h1 h2)
        clear h hn hl h1 h2
        go_enter Tryz.func90, Tryz.ntmps90
        go_wp2
        go_ret
        exact ⟨by rw [HR.out]; rfl, HB0.out⟩
  · have hn2 : ((n : Int) != 8) = true := by simp; omega
    have HR : Hid (decide (ReqGood kd vs) = false) := decide_eq_false (fun hg => hn (by rw [← h.1]; exact hg.1))
    clear h hn
    go_enter Tryz.func90, Tryz.ntmps90
    go_wp2
    go_ret
    exact ⟨by rw [HR.out]; rfl, HB0.out⟩

def InAll (kd : Int) (zs : List Int) : Prop := ∀ x ∈ zs, InReq kd x
theorem inAll_next {kd : Int} {zs : List Int} {k : Nat} (h : InAll kd (zs.take k)) (hk : k < zs.length) (h1 : InReq kd (zs[k]?.getD 0)) : InAll kd (zs.take (k + 1)) := by
  rw [List.take_succ_eq_append_getElem hk]
  intro x hx
  rcases List.mem_append.1 hx with hx | hx
  · exact h x hx
  · simp at hx
    subst hx
    simpa [hk] using h1

set_option maxRecDepth 100000 in
set_option maxHeartbeats 2000000 in
theorem sReqOk_any (kd : Int) (A : Option Addr) (n c B : Nat) (vs : List Int) (w : World) (h : RdK .i64 w B A n vs) (hB : B ≤ w.heap.size) (hm : n ≤ maxLen) :
    Calls Tryz.prog 50 #[.agg #[.int .i64 kd, .slice A n c]] w fun e w' => e = .returned (.bool (decide (ReqGood kd vs))) ∧ Below w.heap.size w w' := by
  have HB0 : Hid (Below w.heap.size w (w.alloc (.cells #[.int .i64 kd, .slice A n c] 31))) := (Below.refl _ _).alloc (Nat.le_refl _) _
  unfold maxLen at hm
  by_cases hn : n = 8
  · subst hn
    obtain ⟨g, o, rfl, hg, hc⟩ := h.2 (by omega)
    have HL := Lib.hid h.1
    have HC : Hid (∀ k, k < 8 → (w.alloc (.cells #[.int .i64 kd, .slice (some ⟨g, o, none⟩) 8 c] 31)).cell? ⟨g, o + k, none⟩ = some (.int .i64 (vs[k]?.getD 0))) := fun k hk => (HB0.out.cell (p := ⟨g, o + k, none⟩) (by show g < _; omega)).trans (hc k hk)
    by_cases hk1 : kd = 1
    · subst hk1
      clear h hc
      go_enter Tryz.func50, Tryz.ntmps50
      go_wp2
      go_loop [3] (fun i => ∃ k : Nat, k ≤ 8 ∧ i = .int .i64 k ∧ Hid (Within (0) 256 (vs.take k))) (fun i => 8 - (intOf i).toNat)
      case atStart => exact ⟨0, Nat.zero_le _, rfl, (by intro x hx; simp at hx : Within (0) 256 (vs.take 0))⟩
      case round =>
        obtain ⟨k, hk, rfl, HK⟩ := hrel
        by_cases hlt : k < 8
        · have c1 := HC.out k hlt
          have hkl : k < vs.length := by rw [HL.out]; exact hlt
          have HN := fun a b => within_next HK.out hkl a b
          have HF := fun a => within_no (lo := 0) (hi := 256) hkl a
          have hkI : (k : Int) < 8 := by omega
          generalize vs[k]?.getD 0 = x at *
          by_cases d1 : x < 0
          · have HR : Hid (decide (ReqGood 1 vs) = false) := decide_eq_false (fun h => HF (.inl d1) ((req_take rfl).1 h).2)
            clear HN HF
            go_wp2
            go_ret
            exact ⟨by rw [HR.out]; rfl, HB0.out⟩
          · by_cases d2 : 256 < x
            · have HR : Hid (decide (ReqGood 1 vs) = false) := decide_eq_false (fun h => HF (.inr d2) ((req_take rfl).1 h).2)
              clear HN HF
              go_wp2
              go_ret
              exact ⟨by rw [HR.out]; rfl, HB0.out⟩
            · have HM := Lib.hid (HN (by omega) (by omega))
              clear HN HF
              go_wp2
              go_round
              case rel => exact ⟨k + 1, by omega, by go_num, HM⟩
              case measure => simp [intOf]; omega
        · have HR : Hid (decide (ReqGood 1 vs) = true) := by
            refine decide_eq_true ((req_take rfl).2 ⟨HL.out, ?_⟩)
            have := HK.out
            rwa [List.take_of_length_le (by have := HL.out; omega)] at this
          go_wp2
          go_ret
          exact ⟨by rw [HR.out]; rfl, HB0.out⟩
    · by_cases hk2 : kd = 2
      · subst hk2
        clear h hc hk1
        go_enter Tryz.func50, Tryz.ntmps50
        go_wp2
        go_loop [3] (fun i => ∃ k : Nat, k ≤ 8 ∧ i = .int .i64 k ∧ Hid (Within (-1) 4095 (vs.take k))) (fun i => 8 - (intOf i).toNat)
        case atStart => exact ⟨0, Nat.zero_le _, rfl, (by intro x hx; simp at hx : Within (-1) 4095 (vs.take 0))⟩
        case round =>
          obtain ⟨k, hk, rfl, HK⟩ := hrel
          by_cases hlt : k < 8
          · have c1 := HC.out k hlt
            have hkl : k < vs.length := by rw [HL.out]; exact hlt
            have HN := fun a b => within_next HK.out hkl a b
            have HF := fun a => within_no (lo := -1) (hi := 4095) hkl a
            have hkI : (k : Int) < 8 := by omega
            generalize vs[k]?.getD 0 = x at *
            by_cases d1 : x < -1
            · have HR : Hid (decide (ReqGood 2 vs) = false) := decide_eq_false (fun h => HF (.inl d1) ((req_give rfl).1 h).2)
              clear HN HF
              go_wp2
              go_ret
              exact ⟨by rw [HR.out]; rfl, HB0.out⟩
            · by_cases d2 : 4095 < x
              · have HR : Hid (decide (ReqGood 2 vs) = false) := decide_eq_false (fun h => HF (.inr d2) ((req_give rfl).1 h).2)
                clear HN HF
                go_wp2
                go_ret
                exact ⟨by rw [HR.out]; rfl, HB0.out⟩
              · have HM := Lib.hid (HN (by omega) (by omega))
                clear HN HF
                go_wp2
                go_round
                case rel => exact ⟨k + 1, by omega, by go_num, HM⟩
                case measure => simp [intOf]; omega
          · have HR : Hid (decide (ReqGood 2 vs) = true) := by
              refine decide_eq_true ((req_give rfl).2 ⟨HL.out, ?_⟩)
              have := HK.out
              rwa [List.take_of_length_le (by have := HL.out; omega)] at this
            go_wp2
            go_ret
            exact ⟨by rw [HR.out]; rfl, HB0.out⟩
      · have HR : Hid (decide (ReqGood kd vs) = false) := decide_eq_false (req_none hk1 hk2)
        have k1 : (kd != 1) = true := by simp; omega
        have k2 : (kd != 2) = true := by simp; omega
        clear h hc hk1 hk2
        go_enter Tryz.func50, Tryz.ntmps50
        go_wp2
        go_ret
        exact ⟨by rw [HR.out]; rfl, HB0.out⟩
  · have hn2 : ((n : Int) != 8) = true := by simp; omega
    have HR : Hid (decide (ReqGood kd vs) = false) := decide_eq_false (fun hg => hn (by rw [← h.1]; exact hg.1))
    clear h hn
    go_enter Tryz.func50, Tryz.ntmps50
    go_wp2
    go_ret
    exact ⟨by rw [HR.out]; rfl, HB0.out⟩

end Go.Proofs.YtefcaeldkdbjdaaGreat

namespace Go.Proofs.YtefcaeldkdbjdaaGreat
open Go.RowKit

/-- The slice at A, of n bools and capacity c, is the call's own and holds zs. -/
def OwnB (w : World) (b0 : Nat) (A : Option Addr) (n c : Nat) (zs : List Bool) : Prop := w.ownsRow b0 4 1 (.slice A n c) n (zs.map Value.bool)
/-- The slice at A, of n bools, reads as zs and lies below block B. -/
def RdB (w : World) (B : Nat) (A : Option Addr) (n : Nat) (zs : List Bool) : Prop :=
  zs.length = n ∧ (0 < n → ∃ g o, A = some ⟨g, o, none⟩ ∧ g < B ∧ ∀ i, i < n → w.cell? ⟨g, o + i, none⟩ = some (.bool (zs[i]?.getD false)))

section
variable {w w' : World} {b0 B n c : Nat} {A : Option Addr} {zs : List Bool}
theorem RdB.zero : RdB w B A 0 [] := ⟨rfl, fun h => absurd h (by omega)⟩
theorem RdB.keep (h : RdB w B A n zs) (hk : ∀ p : Addr, p.block < B → w'.cell? p = w.cell? p) : RdB w' B A n zs :=
  ⟨h.1, fun hn => by
    obtain ⟨g, o, e, hg, hc⟩ := h.2 hn
    exact ⟨g, o, e, hg, fun i hi => (hk ⟨g, o + i, none⟩ hg).trans (hc i hi)⟩⟩
theorem RdB.below (h : RdB w B A n zs) (hb : Below B w w') : RdB w' B A n zs := h.keep fun _ hp => hb.cell hp
theorem RdB.alloc (h : RdB w B A n zs) (hB : B ≤ w.heap.size) (o : Obj) : RdB (w.alloc o) B A n zs := h.keep fun p hp => World.cell?_alloc_lt w o p (by omega)
theorem OwnB.len (h : OwnB w b0 A n c zs) : zs.length = n := by simpa using h.1
theorem OwnB.form (h : OwnB w b0 A n c zs) (hn : 0 < n) : ∃ g, A = some ⟨g, 0, none⟩ ∧ b0 ≤ g ∧ g < w.heap.size := by
  rcases h.2 with ⟨hv, h0⟩ | ⟨g, cap, cur, hv, hb, hh, _⟩
  · omega
  · exact ⟨g, by injection hv, hb, (Array.getElem?_eq_some_iff.1 hh).1⟩
theorem OwnB.cell (h : OwnB w b0 A n c zs) {g i : Nat} (hA : A = some ⟨g, 0, none⟩) (hi : i < n) : w.cell? ⟨g, i, none⟩ = some (.bool (zs[i]?.getD false)) := by
  subst hA
  rw [World.ownsRow.cellAt h i (by omega)]
  have hl : i < zs.length := by rw [h.len]; exact hi
  simp [hl]
theorem OwnB.free (h : OwnB w b0 A n c zs) {g : Nat} (hA : A = some ⟨g, 0, none⟩) (i : Nat) : w.frozen? ⟨g, i, none⟩ = false := by
  subst hA
  exact World.ownsRow.frozenAt h i
theorem OwnB.rd (h : OwnB w b0 A n c zs) : RdB w w.heap.size A n zs :=
  ⟨h.len, fun hn => by
    obtain ⟨g, hA, _, hlt⟩ := h.form hn
    exact ⟨g, 0, hA, hlt, fun i hi => by rw [Nat.zero_add]; exact h.cell hA hi⟩⟩
theorem OwnB.below (h : OwnB w b0 A n c zs) (hb : Below w.heap.size w w') : OwnB w' b0 A n c zs :=
  World.ownsRow.kept h (row := none) ⟨hb.os, hb.tape, hb.output, hb.size, fun k hk _ => hb.block k hk⟩ (by cases hv : (Value.slice A n c).ownBlock <;> simp)
theorem OwnB.from_ {b1 : Nat} (h : OwnB w b0 A n c zs) (hb : b1 ≤ b0) : OwnB w b1 A n c zs := by
  refine ⟨h.1, ?_⟩
  rcases h.2 with h2 | ⟨g, cap, cur, hv, hg, r⟩
  · exact .inl h2
  · exact .inr ⟨g, cap, cur, hv, by omega, r⟩
theorem OwnB.store {g i : Nat} {x : Bool} (h : OwnB w b0 (some ⟨g, 0, none⟩) n c zs) : OwnB (w.setCell ⟨g, i, none⟩ (.bool x)) b0 (some ⟨g, 0, none⟩) n c (zs.set i x) := by
  have h1 := World.ownsRow.stored h i (.bool x)
  rw [← List.map_set] at h1
  exact h1.1
theorem OwnB.low {p : Addr} (h : OwnB w b0 A n c zs) (hp : p.block < b0) (u : Value) : OwnB (w.setCell p u) b0 A n c zs := ownsRow_setCell_below h hp u
theorem OwnB.alloc (h : OwnB w b0 A n c zs) (o : Obj) : OwnB (w.alloc o) b0 A n c zs := World.ownsRow.alloc h o
theorem OwnB.far (h : OwnB w b0 A n c zs) {row : Option Nat} (hg : w.grownBy w' row) (hne : ∀ g, (Value.slice A n c).ownBlock = some g → row ≠ some g) : OwnB w' b0 A n c zs := by
  refine World.ownsRow.kept h hg ?_
  cases hv : (Value.slice A n c).ownBlock with
  | none => exact .inl rfl
  | some g => exact .inr (fun e => hne g hv e.symm)
theorem OwnB.range (h : OwnB w b0 A n c zs) : ∀ g, (Value.slice A n c).ownBlock = some g → b0 ≤ g ∧ g < w.heap.size := World.ownsRow.lt h
theorem OwnB.shape {v : Value} (h : w.ownsRow b0 4 1 v n (zs.map (Value.bool))) : ∃ A c, v = .slice A n c ∧ OwnB w b0 A n c zs := by
  rcases h.2 with ⟨rfl, rfl⟩ | ⟨g, cap, cur, rfl, r⟩
  · exact ⟨_, _, rfl, h⟩
  · exact ⟨_, _, rfl, h⟩
end

theorem info_bool : (Tryz.prog.info? 4).map (fun i => (i.zero, i.size, i.bytes)) = some (some (.bool false), 1, 1) := by kernel_rfl

theorem takeB_next {z1 z2 : List Bool} {k : Nat} (h : z1.take k = z2.take k) (h1 : k < z1.length) (h2 : k < z2.length) (e : z1[k]?.getD false = z2[k]?.getD false) : z1.take (k + 1) = z2.take (k + 1) := by
  simp only [List.getElem?_eq_getElem h1, List.getElem?_eq_getElem h2, Option.getD_some] at e
  rw [List.take_succ_eq_append_getElem h1, List.take_succ_eq_append_getElem h2, h, e]
theorem neB_at {z1 z2 : List Bool} {k : Nat} (e : ¬ z1[k]?.getD false = z2[k]?.getD false) : ¬ z1 = z2 := by
  rintro rfl; exact e rfl
theorem eqB_all {z1 z2 : List Bool} {k : Nat} (h : z1.take k = z2.take k) (h1 : z1.length ≤ k) (h2 : z2.length ≤ k) : z1 = z2 := by
  rwa [List.take_of_length_le h1, List.take_of_length_le h2] at h

/-- The first k of zs, then false. -/
def fillB (zs : List Bool) (n k : Nat) : List Bool := zs.take k ++ List.replicate (n - k) false
theorem fillB_len {zs : List Bool} {n k : Nat} (hl : zs.length = n) (hk : k ≤ n) : (fillB zs n k).length = n := by simp [fillB]; omega
theorem fillB_next {zs : List Bool} {n k : Nat} (hl : zs.length = n) (hk : k < n) : (fillB zs n k).set k (zs[k]?.getD false) = fillB zs n (k + 1) := by
  have h1 : k < zs.length := by omega
  unfold fillB
  rw [List.take_succ_eq_append_getElem h1, show n - k = (n - (k + 1)) + 1 from by omega, List.replicate_succ, List.set_append]
  simp only [List.getElem?_eq_getElem h1, Option.getD_some, List.length_take, Nat.min_eq_left (Nat.le_of_lt h1), Nat.lt_irrefl, if_false, Nat.sub_self, List.set_cons_zero, List.append_assoc, List.cons_append, List.nil_append]
theorem fillB_all {zs : List Bool} {n k : Nat} (hl : zs.length = n) (hk : n ≤ k) : fillB zs n k = zs := by
  unfold fillB
  rw [List.take_of_length_le (by omega), show n - k = 0 from by omega]; simp

theorem cells_bool : Tryz.prog.cellsOf 4 = 1 := by kernel_rfl

section
open Go.ChangeShapes Go.WideShapes Go.ChangeAt
set_option maxRecDepth 100000 in
theorem open_boolS {H : Type} {enc : TypeId × Value → H} {W : World} {base : Nat} {v : Value} {d : DataW H} {p : List MemPlace} (hv : Value.okWide Tryz.prog W .any base 123 v)
    (h : DataW.Trod enc Tryz.prog W 0 (fun _ => true) true 123 v d p) :
    ∃ A n c bs, v = .slice A n c ∧ n ≤ maxLen ∧ RdB W W.heap.size A n bs ∧ True := by
  obtain ⟨a0, l0, c0, rfl⟩ := okWide_slice Tryz.underlying123 hv
  obtain ⟨fuel, hf⟩ := h
  rcases Deep.open_bools Tryz.underlying123 Tryz.underlying4 cells_bool hf with ⟨hcs, _⟩ | ⟨x, l, c, zs, hcs, _, hl, hm, _, hcell⟩
  · simp [Value.cells] at hcs
    obtain ⟨rfl, rfl, rfl⟩ := hcs
    exact ⟨_, _, _, [], rfl, by unfold maxLen; omega, RdB.zero, trivial⟩
  · simp [Value.cells] at hcs
    obtain ⟨rfl, rfl, rfl⟩ := hcs
    refine ⟨_, _, _, (List.range l0).map zs, rfl, by omega, ⟨by simp, fun hn => ?_⟩, trivial⟩
    obtain ⟨b, off, spot⟩ := x
    have h0 := hcell 0 (by omega)
    have hspot : spot = none := by simpa [Addr.add] using World.cell?_spot h0
    subst hspot
    have hblk := World.block_lt_of_cell? W _ h0
    refine ⟨b, off, rfl, by simpa [Addr.add] using hblk, fun i hi => ?_⟩
    have := hcell i (by omega)
    have e : ((List.range l0).map zs)[i]?.getD false = zs i := by simp [hi]
    rw [e, ← this]
    congr 1
    unfold Addr.add; split <;> simp_all
end

end Go.Proofs.YtefcaeldkdbjdaaGreat

namespace Go.Proofs.YtefcaeldkdbjdaaGreat
open Go.RowKit

/-- The places below k that hold true. -/
def truesTo (bs : List Bool) (k : Nat) : List Nat := (List.range k).filter (fun i => bs[i]?.getD false)
theorem trues_hit {bs : List Bool} {k : Nat} (h : bs[k]?.getD false = true) : truesTo bs (k + 1) = truesTo bs k ++ [k] := by simp [truesTo, List.range_succ, h]
theorem trues_miss {bs : List Bool} {k : Nat} (h : bs[k]?.getD false = false) : truesTo bs (k + 1) = truesTo bs k := by simp [truesTo, List.range_succ, h]
theorem trues_lt {bs : List Bool} {k j : Nat} (h : j ∈ truesTo bs k) : j < k := by simp [truesTo] at h; exact h.1
theorem trues_len (bs : List Bool) (k : Nat) : (truesTo bs k).length ≤ k := by
  have := List.length_filter_le (fun i => bs[i]?.getD false) (List.range k)
  simpa [truesTo] using this
theorem trues_orL_lt (bs : List Bool) {k : Nat} (h : k ≤ 32) : orL (truesTo bs k) < 4294967296 := orL_lt fun j hj => by have := trues_lt hj; omega
theorem trues_nodup (bs : List Bool) (k : Nat) : (truesTo bs k).Nodup := by unfold truesTo; exact List.Sublist.nodup List.filter_sublist List.nodup_range
/-- What Ballot answers. -/
def ballotA (n : Nat) (bs : List Bool) : Nat := if n = 8 then orL (truesTo bs 8) else 0
def ballotB (n : Nat) : Bool := decide (n = 8)
theorem trues_ofA (bs : List Bool) : ofA (ints (truesTo bs 8)) = orL (truesTo bs 8) ∧ ofB (ints (truesTo bs 8)) = true := by
  have h : bitsG 0 (ints (truesTo bs 8)) = some (orL (truesTo bs 8)) := bitsG_ok _ 0 (fun k hk => ⟨by have := trues_lt hk; omega, Nat.zero_testBit k⟩) (trues_nodup bs 8)
  unfold ofA ofB
  rw [h]
  exact ⟨rfl, rfl⟩

set_option maxRecDepth 100000 in
set_option maxHeartbeats 1000000 in
theorem ballot_any (A : Option Addr) (n c B : Nat) (bs : List Bool) (w : World) (h : RdB w B A n bs) :
    Calls Tryz.prog 100 #[.slice A n c] w fun e w' => e = .returned (.tuple #[.int .u32 (ballotA n bs : Int), .bool (ballotB n)]) ∧ w = w' := by
  by_cases hn : n = 8
  · subst hn
    have hA : ballotA 8 bs = orL (truesTo bs 8) := rfl
    have hB : ballotB 8 = true := rfl
    have HA := Lib.hid hA
    rw [hB]
    obtain ⟨g, o, rfl, hg, hc⟩ := h.2 (by omega)
    have HC := Lib.hid hc
    clear hc h hA hB
    go_enter Tryz.func100, Tryz.ntmps100
    go_wp2
    go_loop [4, 12] (fun x i => ∃ k : Nat, k ≤ 8 ∧ i = .int .i64 k ∧ x = .int .u32 (orL (truesTo bs k) : Int)) (fun _ i => 8 - (intOf i).toNat)
    case atStart => exact ⟨0, by omega, rfl, rfl⟩
    case round =>
      obtain ⟨k, hk, rfl, rfl⟩ := hrel
      by_cases hlt : k < 8
      · have c1 := HC.out k hlt
        have hk8 : (k : Int) < 8 := by omega
        have HO := Lib.hid (or_bit (trues_orL_lt bs (show k ≤ 32 by omega)) (show k < 32 by omega))
        have HH : Hid (bs[k]?.getD false = true → truesTo bs (k + 1) = truesTo bs k ++ [k]) := fun h => trues_hit h
        have HM : Hid (bs[k]?.getD false = false → truesTo bs (k + 1) = truesTo bs k) := fun h => trues_miss h
        generalize bs[k]?.getD false = b at *
        cases b
        · have HN := Lib.hid (HM.out rfl)
          clear HH HM
          go_wp2
          go_round
          case rel => exact ⟨k + 1, by omega, by go_num, by rw [HN.out]⟩
          case measure => simp [intOf]; omega
        · have HN := Lib.hid (HH.out rfl)
          clear HH HM
          go_wp2
          go_round
          case rel => exact ⟨k + 1, by omega, by go_num, by rw [HN.out, orL_snoc, ← HO.out]⟩
          case measure => simp [intOf]; omega
      · obtain rfl : k = 8 := by omega
        go_wp2
        go_ret2
        exact ⟨by rw [HA.out]; rfl, rfl⟩
  · have hA : ballotA n bs = 0 := if_neg hn
    have hB : ballotB n = false := decide_eq_false hn
    rw [hA, hB]
    have hn' : ¬ (n : Int) = 8 := by omega
    clear h hn hA hB
    go_enter Tryz.func100, Tryz.ntmps100
    go_wp2
    go_ret2
    exact ⟨rfl, rfl⟩

end Go.Proofs.YtefcaeldkdbjdaaGreat

namespace Go.Proofs.YtefcaeldkdbjdaaGreat
open Go.RowKit
set_option linter.unusedVariables false

theorem info_bool8 : (Tryz.prog.info? 4).map (fun i => (i.zero, i.size, i.bytes)) = some (some (.bool false), 1, 1) := by kernel_rfl

/-- Which elements are not z, for the first k; then as it was. -/
def notTo (z : Int) (vs : List Int) (k : Nat) : List Bool := (vs.take k).map (fun x => x != z) ++ List.replicate (8 - k) false
theorem notTo_next {z : Int} {vs : List Int} {k : Nat} (hl : vs.length = 8) (hk : k < 8) : (notTo z vs k).set k (vs[k]?.getD 0 != z) = notTo z vs (k + 1) := by
  have h1 : k < vs.length := by omega
  unfold notTo
  rw [List.take_succ_eq_append_getElem h1, show 8 - k = (8 - (k + 1)) + 1 by omega, List.replicate_succ, List.set_append]
  simp [h1, Nat.min_eq_left (Nat.le_of_lt h1), show min k 8 = k by omega]
  rw [List.take_succ_eq_append_getElem (show k < (vs.map (fun x => x != z)).length by simpa using h1)]
  simp
theorem notTo_all {z : Int} {vs : List Int} (hl : vs.length = 8) : notTo z vs 8 = vs.map (fun x => x != z) := by
  unfold notTo
  rw [List.take_of_length_le (by omega)]; simp
theorem lanes_ask {kd z : Int} {vs : List Int} (h : ReqGood kd vs) (hz : (kd = 1 ∧ z = 0) ∨ (kd = 2 ∧ z = -1)) : ballotA 8 (vs.map (fun x => x != z)) = orL (askL kd vs) := by
  unfold ballotA
  rw [if_pos rfl]
  congr 1
  unfold truesTo askL
  apply List.filter_congr
  intro i hi
  have hi8 : i < vs.length := by rw [h.1]; simpa using hi
  have hr := h.2 _ (List.getElem_mem hi8)
  unfold at0
  simp only [List.getElem?_map, List.getElem?_eq_getElem hi8, Option.map_some, Option.getD_some]
  rw [Bool.eq_iff_iff]
  simp only [bne_iff_ne, decide_eq_true_iff]
  unfold Asks
  unfold InReq at hr
  omega

set_option maxRecDepth 100000 in
set_option maxHeartbeats 2000000 in
theorem lanes_any (kd : Int) (A : Option Addr) (n c B : Nat) (vs : List Int) (w : World) (h : RdK .i64 w B A n vs) (hB : B ≤ w.heap.size) (hg : ReqGood kd vs) :
    Calls Tryz.prog 91 #[.agg #[.int .i64 kd, .slice A n c]] w fun e w' => e = .returned (.int .u32 ((orL (askL kd vs) : Nat) : Int)) ∧ Below w.heap.size w w' := by
  obtain ⟨i0, hi, hz0, hz1, hz2⟩ := info_parts info_bool8
  have hn : n = 8 := by rw [← h.1]; exact hg.1
  subst hn
  have HL := Lib.hid h.1
  have H2 := Lib.hid h.2
  have HI := Lib.hid hi
  have HZ0 := Lib.hid hz0
  have HZ1 := Lib.hid hz1
  have HZ2 := Lib.hid hz2
  obtain ⟨z, hk, hz⟩ : ∃ z, ((kd == 2) = false ∧ z = 0 ∨ (kd == 2) = true ∧ z = -1) ∧ ballotA 8 (vs.map (fun x => x != z)) = orL (askL kd vs) := by
    have hx := hg.2 (vs[0]'(by have := hg.1; omega)) (List.getElem_mem (by have := hg.1; omega))
    unfold InReq at hx
    rcases hx with ⟨hx, _⟩ | ⟨hx, _⟩
    · exact ⟨0, .inl ⟨by simp; omega, rfl⟩, lanes_ask hg (.inl ⟨hx, rfl⟩)⟩
    · exact ⟨-1, .inr ⟨by simp; omega, rfl⟩, lanes_ask hg (.inr ⟨hx, rfl⟩)⟩
  have HE := Lib.hid hz
  clear h hg hi hz0 hz1 hz2 hz
  rcases hk with ⟨hk, rfl⟩ | ⟨hk, rfl⟩
  · have B1 := Lib.hid (bel1 w (.cells #[.int .i64 kd, .slice A 8 c] 31))
    go_enter Tryz.func91, Tryz.ntmps91
    go_wp2_with (at_make; refine wpList_make_full _ rfl _ _ 123 rfl (w.heap.size + 1) 4 i0 (.bool false) 1 Tryz.underlying123 HI.out HZ0.out HZ1.out .i64 .i64 _ _ 8 rfl rfl rfl rfl (by rw [HZ2.out]; omega) (by unfold maxLen; omega) (by simp) ?_)
    intro w1 hown hgr
    have ez : (w.alloc (.cells #[.int .i64 kd, .slice A 8 c] 31)).heap.size = w.heap.size + 1 := sz1 _ _
    have HB : Hid (Below w.heap.size w w1) := B1.out.grown hgr B1.out.size (by simp)
    have hv := (hgr.block w.heap.size (by rw [ez]; omega) (by simp)).trans (heap_alloc_new w (.cells #[.int .i64 kd, .slice A 8 c] 31))
    have a1 := blkc hv 1 rfl
    have HO : Hid (OwnB w1 (w.heap.size + 1) (some ⟨w.heap.size + 1, 0, none⟩) 8 8 (notTo 0 vs 0)) := by
      have := toList_madeCells_one (.bool false) 8
      have h3 : w1.ownsRow (w.heap.size + 1) 4 1 (.slice (some ⟨w.heap.size + 1, 0, none⟩) 8 8) 8 (List.replicate 8 (.bool false)) := this ▸ hown
      show w1.ownsRow _ _ _ _ _ ((notTo 0 vs 0).map _)
      simpa [notTo] using h3
    clear hown hgr hv ez
    go_wp2
    clear a1
    go_loopw [19] (fun i wr => ∃ k : Nat, k ≤ 8 ∧ i = .int .i64 k ∧ Hid (OwnB wr (w.heap.size + 1) (some ⟨w.heap.size + 1, 0, none⟩) 8 8 (notTo 0 vs k)) ∧ Hid (Below w.heap.size w wr)) (fun i _ => 8 - (intOf i).toNat)
    case atStart => exact ⟨0, Nat.zero_le _, rfl, HO, HB⟩
    case round =>
      obtain ⟨k, hk8, rfl, HOr, HBr⟩ := hrel
      clear HO HB
      by_cases hlt : k < 8
      · obtain ⟨g, o, rfl, hg, hc⟩ := H2.out (by omega)
        have c1 : wr.cell? ⟨g, o + k, none⟩ = some (.int .i64 (vs[k]?.getD 0)) := (HBr.out.cell (p := ⟨g, o + k, none⟩) (by show g < _; omega)).trans (hc k hlt)
        have c2 := HOr.out.cell rfl hlt
        have f2 := HOr.out.free rfl k
        have hkI : (k : Int) < 8 := by omega
        have HN : Hid (OwnB (wr.setCell ⟨w.heap.size + 1, k, none⟩ (.bool (vs[k]?.getD 0 != 0))) (w.heap.size + 1) (some ⟨w.heap.size + 1, 0, none⟩) 8 8 (notTo 0 vs (k + 1))) := by
          rw [← notTo_next HL.out hlt]; exact HOr.out.store
        have HM : Hid (Below w.heap.size w (wr.setCell ⟨w.heap.size + 1, k, none⟩ (.bool (vs[k]?.getD 0 != 0)))) := HBr.out.setCell (by show _ ≤ w.heap.size + 1; omega) _
        generalize vs[k]?.getD 0 = x at *
        clear hc HOr HBr
        go_wp2
        go_roundw
        case rel => exact ⟨k + 1, by omega, by go_num, HN, HM⟩
        case measure => simp [intOf]; omega
      · obtain rfl : k = 8 := by omega
        have HA : Hid (OwnB wr (w.heap.size + 1) (some ⟨w.heap.size + 1, 0, none⟩) 8 8 (vs.map (fun x => x != 0))) := by
          have := HOr.out
          rwa [notTo_all HL.out] at this
        go_wp2_with fail
        refine (ballot_any _ 8 8 _ _ _ HA.out.rd).mono ?_
        rintro e w5 ⟨rfl, rfl⟩
        rw [HE.out]
        go_wp2
        go_ret
        exact ⟨rfl, HBr.out⟩
  · have B1 := Lib.hid (bel1 w (.cells #[.int .i64 kd, .slice A 8 c] 31))
    go_enter Tryz.func91, Tryz.ntmps91
    go_wp2_with (at_make; refine wpList_make_full _ rfl _ _ 123 rfl (w.heap.size + 1) 4 i0 (.bool false) 1 Tryz.underlying123 HI.out HZ0.out HZ1.out .i64 .i64 _ _ 8 rfl rfl rfl rfl (by rw [HZ2.out]; omega) (by unfold maxLen; omega) (by simp) ?_)
    intro w1 hown hgr
    have ez : (w.alloc (.cells #[.int .i64 kd, .slice A 8 c] 31)).heap.size = w.heap.size + 1 := sz1 _ _
    have HB : Hid (Below w.heap.size w w1) := B1.out.grown hgr B1.out.size (by simp)
    have hv := (hgr.block w.heap.size (by rw [ez]; omega) (by simp)).trans (heap_alloc_new w (.cells #[.int .i64 kd, .slice A 8 c] 31))
    have a1 := blkc hv 1 rfl
    have HO : Hid (OwnB w1 (w.heap.size + 1) (some ⟨w.heap.size + 1, 0, none⟩) 8 8 (notTo (-1) vs 0)) := by
      have := toList_madeCells_one (.bool false) 8
      have h3 : w1.ownsRow (w.heap.size + 1) 4 1 (.slice (some ⟨w.heap.size + 1, 0, none⟩) 8 8) 8 (List.replicate 8 (.bool false)) := this ▸ hown
      show w1.ownsRow _ _ _ _ _ ((notTo (-1) vs 0).map _)
      simpa [notTo] using h3
    clear hown hgr hv ez
    go_wp2
    clear a1
    go_loopw [19] (fun i wr => ∃ k : Nat, k ≤ 8 ∧ i = .int .i64 k ∧ Hid (OwnB wr (w.heap.size + 1) (some ⟨w.heap.size + 1, 0, none⟩) 8 8 (notTo (-1) vs k)) ∧ Hid (Below w.heap.size w wr)) (fun i _ => 8 - (intOf i).toNat)
    case atStart => exact ⟨0, Nat.zero_le _, rfl, HO, HB⟩
    case round =>
      obtain ⟨k, hk8, rfl, HOr, HBr⟩ := hrel
      clear HO HB
      by_cases hlt : k < 8
      · obtain ⟨g, o, rfl, hg, hc⟩ := H2.out (by omega)
        have c1 : wr.cell? ⟨g, o + k, none⟩ = some (.int .i64 (vs[k]?.getD 0)) := (HBr.out.cell (p := ⟨g, o + k, none⟩) (by show g < _; omega)).trans (hc k hlt)
        have c2 := HOr.out.cell rfl hlt
        have f2 := HOr.out.free rfl k
        have hkI : (k : Int) < 8 := by omega
        have HN : Hid (OwnB (wr.setCell ⟨w.heap.size + 1, k, none⟩ (.bool (vs[k]?.getD 0 != (-1)))) (w.heap.size + 1) (some ⟨w.heap.size + 1, 0, none⟩) 8 8 (notTo (-1) vs (k + 1))) := by
          rw [← notTo_next HL.out hlt]; exact HOr.out.store
        have HM : Hid (Below w.heap.size w (wr.setCell ⟨w.heap.size + 1, k, none⟩ (.bool (vs[k]?.getD 0 != (-1))))) := HBr.out.setCell (by show _ ≤ w.heap.size + 1; omega) _
        generalize vs[k]?.getD 0 = x at *
        clear hc HOr HBr
        go_wp2
        go_roundw
        case rel => exact ⟨k + 1, by omega, by go_num, HN, HM⟩
        case measure => simp [intOf]; omega
      · obtain rfl : k = 8 := by omega
        have HA : Hid (OwnB wr (w.heap.size + 1) (some ⟨w.heap.size + 1, 0, none⟩) 8 8 (vs.map (fun x => x != (-1)))) := by
          have := HOr.out
          rwa [notTo_all HL.out] at this
        go_wp2_with fail
        refine (ballot_any _ 8 8 _ _ _ HA.out.rd).mono ?_
        rintro e w5 ⟨rfl, rfl⟩
        rw [HE.out]
        go_wp2
        go_ret
        exact ⟨rfl, HBr.out⟩

end Go.Proofs.YtefcaeldkdbjdaaGreat
