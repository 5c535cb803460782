/- When a warp is valid, as the model asks it, in plain numbers. -/
/- The contracts of the model's l03Mask, Leader, RankOf, NthLane. -/
/- The contract of the model's l03Row, alone. -/
/- The contracts of the model's Room, HeadWord and HeldWord. -/
/- Small facts on lists of lanes. -/
import Derived.Test.YtefcaeldkdbjdaaGreatIWarpOk
import Derived.Test.YtefcaeldkdbjdaaGreatSWell
import Derived.Test.YtefcaeldkdbjdaaGreatSLow
import Derived.Test.YtefcaeldkdbjdaaGreatWarpM
import Derived.Test.YtefcaeldkdbjdaaGreatBase
import Derived.Test.YtefcaeldkdbjdaaGreatIRel
namespace Go.Proofs.YtefcaeldkdbjdaaGreat
open Go.RowKit
set_option linter.unusedVariables false

theorem askTo_8 (kd : Int) (vs : List Int) : askTo kd vs 8 = askL kd vs := rfl
/-- What the model asks of all busy warps. -/
def Pre (ph pr hd ch : Int) : Prop := 0 ≤ ph ∧ 0 ≤ pr ∧ 0 ≤ hd ∧ pr ≤ ch ∧ hd ≤ 16
instance (ph pr hd ch : Int) : Decidable (Pre ph pr hd ch) := inferInstanceAs (Decidable (_ ∧ _))
theorem part_pre {kd v ph pr hd : Int} {sn : Nat} {ch : Int} (c0 : 0 ≤ ch) (c1 : ch ≤ 16) (h : PartOk kd v ph pr hd sn ch) : Pre ph pr hd ch := by
  have hr := chunksV_range v
  unfold PartOk at h
  unfold Pre
  rcases h with ⟨_, h⟩ | ⟨_, _, h⟩ | ⟨_, _, h⟩
  · unfold GiveOk at h
    rcases h with ⟨a, b, c, d⟩ | ⟨a, b, c, d, e⟩ | ⟨a, b, c, d, e⟩ <;> omega
  · obtain ⟨a, b, c, d, e, f, g⟩ := h
    omega
  · obtain ⟨a, b, c, (⟨d, e⟩ | ⟨d, e, f⟩)⟩ := h <;> omega
theorem part_seen {kd v ph pr hd : Int} {sn : Nat} {ch : Int} (h : PartOk kd v ph pr hd sn ch) (hs : ph ≠ 1 ∨ (kd = 1 ∧ 16 < v)) : sn = 0 := by
  unfold PartOk at h
  rcases h with ⟨_, h⟩ | ⟨_, _, h⟩ | ⟨_, _, h⟩
  · unfold GiveOk at h
    rcases h with ⟨a, b, c, d⟩ | ⟨a, b, c, d, e⟩ | ⟨a, b, c, d, e⟩ <;> omega
  · exact h.1
  · obtain ⟨a, b, c, (⟨d, e⟩ | ⟨d, e, f⟩)⟩ := h <;> omega
theorem part_large {kd v ph pr hd : Int} {sn : Nat} {ch : Int} (hk : kd = 1) (hv : 16 < v) (hs : sn = 0) (hp : Pre ph pr hd ch) : PartOk kd v ph pr hd sn ch ↔ LargeS (chunksV v) ph pr hd ch := by
  obtain ⟨p0, p1, p2, p3, p4⟩ := hp
  unfold PartOk LargeS
  constructor
  · rintro (⟨a, _⟩ | ⟨_, _, h⟩ | ⟨_, a, _⟩)
    · omega
    · exact ⟨h.2.2.2.2.1, h.2.2.2.2.2⟩
    · omega
  · rintro ⟨a, b, c⟩
    exact .inr (.inl ⟨by omega, hv, hs, p1, p3, p2, a, b, c⟩)
theorem part_small {kd v ph pr hd : Int} {sn : Nat} {ch : Int} (hk : kd = 1) (hv : ¬ 16 < v) (hs : ph ≠ 1 → sn = 0) (hp : Pre ph pr hd ch) : PartOk kd v ph pr hd sn ch ↔ (hd = 0 ∧ (ph = 0 ∨ (ph = 1 ∧ pr < ch) ∧ 0 < roomV sn (classV v))) := by
  obtain ⟨p0, p1, p2, p3, p4⟩ := hp
  unfold PartOk SmallOk
  constructor
  · rintro (⟨a, _⟩ | ⟨_, a, _⟩ | ⟨_, _, a, b, c, (⟨d, e⟩ | ⟨d, e, f⟩)⟩)
    · omega
    · omega
    · exact ⟨a, .inl d⟩
    · exact ⟨a, .inr ⟨⟨d, e⟩, by omega⟩⟩
  · rintro ⟨a, (b | ⟨⟨b, c⟩, d⟩)⟩
    · exact .inr (.inr ⟨by omega, by omega, a, p1, p3, .inl ⟨b, hs (by omega)⟩⟩)
    · exact .inr (.inr ⟨by omega, by omega, a, p1, p3, .inr ⟨b, c, by omega⟩⟩)
theorem part_give {kd v ph pr hd : Int} {sn : Nat} {ch : Int} (hk : kd = 2) (hs : ph ≠ 1 → sn = 0) (hp : Pre ph pr hd ch) :
    (ph = 0 → (PartOk kd v ph pr hd sn ch ↔ pr = 0 ∧ hd = 0)) ∧ (ph = 1 → (PartOk kd v ph pr hd sn ch ↔ ((pr = 0 ∧ hd = 0) ∧ v < 16 * ch) ∧ GivesX sn (v % 16))) ∧ (ph = 2 → (PartOk kd v ph pr hd sn ch ↔ 0 < hd ∧ pr + hd ≤ ch)) ∧ (ph ≠ 0 → ph ≠ 1 → ph ≠ 2 → ¬ PartOk kd v ph pr hd sn ch) := by
  obtain ⟨p0, p1, p2, p3, p4⟩ := hp
  have hg : PartOk kd v ph pr hd sn ch ↔ GiveOk v ph pr hd sn ch := by
    unfold PartOk
    exact ⟨fun h => h.elim (fun a => a.2) (fun a => absurd hk (a.elim (fun b => b.1) (fun b => b.1))), fun h => .inl ⟨hk, h⟩⟩
  rw [hg]
  unfold GiveOk
  refine ⟨fun a => ⟨?_, ?_⟩, fun a => ⟨?_, ?_⟩, fun a => ⟨?_, ?_⟩, fun a b c => ?_⟩
  · rintro (⟨a, b, c, d⟩ | ⟨a, b, c, d, e⟩ | ⟨a, b, c, d, e⟩) <;> omega
  · rintro ⟨b, c⟩; exact .inl ⟨a, b, c, hs (by omega)⟩
  · rintro (⟨a, b, c, d⟩ | ⟨a, b, c, d, e⟩ | ⟨a, b, c, d, e⟩)
    · omega
    · exact ⟨⟨⟨b, c⟩, d⟩, e⟩
    · omega
  · rintro ⟨⟨⟨b, c⟩, d⟩, e⟩; exact .inr (.inl ⟨a, b, c, d, e⟩)
  · rintro (⟨a, b, c, d⟩ | ⟨a, b, c, d, e⟩ | ⟨a, b, c, d, e⟩) <;> omega
  · rintro ⟨b, c⟩; exact .inr (.inr ⟨a, b, p1, by omega, hs (by omega)⟩)
  · rintro (⟨a, b, c, d⟩ | ⟨a, b, c, d, e⟩ | ⟨a, b, c, d, e⟩) <;> omega

end Go.Proofs.YtefcaeldkdbjdaaGreat

namespace Go.Proofs.YtefcaeldkdbjdaaGreat
open Go.RowKit

set_option maxHeartbeats 400000 in
theorem sMask_any (X : Nat) (w : World) (hX : X < 4294967296) :
    Calls Tryz.prog 49 #[.int .u32 (X : Int)] w fun e w' => e = .returned (.bool (decide (X < 256))) ∧ Below w.heap.size w w' := by
  have HC := Lib.hid (sHighest_any X w hX)
  by_cases hx : X < 256
  · have h8 : highOf (onesTo X 32) < 8 := (high_mask hX).2 hx
    rw [decide_eq_true hx]
    generalize highOf (onesTo X 32) = y at *
    clear hX hx
    go_enter Tryz.func49, Tryz.ntmps49
    go_wp2_with fail
    refine HC.out.mono ?_
    rintro e w1 ⟨rfl, hb⟩
    have HB := Lib.hid hb
    clear hb
    go_wp2
    go_ret
    exact ⟨rfl, HB.out⟩
  · have h8 : ¬ highOf (onesTo X 32) < 8 := fun e => hx ((high_mask hX).1 e)
    rw [decide_eq_false hx]
    generalize highOf (onesTo X 32) = y at *
    clear hX hx
    go_enter Tryz.func49, Tryz.ntmps49
    go_wp2_with fail
    refine HC.out.mono ?_
    rintro e w1 ⟨rfl, hb⟩
    have HB := Lib.hid hb
    clear hb
    go_wp2
    go_ret
    exact ⟨by show Ending.returned (Value.bool (decide (y < 8))) = _; rw [decide_eq_false (by omega)], HB.out⟩

end Go.Proofs.YtefcaeldkdbjdaaGreat

namespace Go.Proofs.YtefcaeldkdbjdaaGreat
open Go.RowKit

set_option maxHeartbeats 400000 in
theorem sRow8_any (A : Option Addr) (n c : Nat) (w : World) :
    Calls Tryz.prog 48 #[.slice A n c] w fun e w' => e = .returned (.bool (decide (n = 8))) ∧ w = w' := by
  by_cases h : n = 8
  · subst h
    go_enter Tryz.func48, Tryz.ntmps48
    go_wp2
    go_ret
    exact ⟨rfl, rfl⟩
  · have h' : ((n : Int) == 8) = false := by simp; omega
    rw [decide_eq_false h]
    clear h
    go_enter Tryz.func48, Tryz.ntmps48
    go_wp2
    go_ret
    exact ⟨rfl, rfl⟩

end Go.Proofs.YtefcaeldkdbjdaaGreat

namespace Go.Proofs.YtefcaeldkdbjdaaGreat
open Go.RowKit

set_option maxRecDepth 100000 in
set_option maxHeartbeats 2000000 in
theorem sRoom_any (X : Nat) (K : Int) (w : World) (hX : X < 4294967296) :
    Calls Tryz.prog 54 #[.int .u32 (X : Int), .int .i64 K] w fun e w' => e = .returned (.int .i64 (roomV X K : Int)) ∧ Below w.heap.size w w' := by
  have HR := Lib.hid (fun W => sCtlRead_any X W hX)
  have HC := Lib.hid (fun W => sIsClass_any K W)
  by_cases hg : GoodX X
  · rw [read_good hg, decide_eq_true hg] at HR
    by_cases hk : IsClass K
    · rw [decide_eq_true hk] at HC
      by_cases h0 : stOf X = 0
      · have hP : PageX X K := ⟨hg, hk, .inl h0⟩
        have hm : mpOf X = 0 := ((good_free (.inl (by omega : ((stOf X : Nat) : Int) = 0))).1 hg).2.1
        have HV : Hid (perV K = (roomV X K : Int)) := by
          show _ = _
          rw [← room_page hP, hm, ones_none]; simp
        have HP := Lib.hid (fun W => sPerPage_any K W)
        rw [HV.out] at HP
        have h0' : ((stOf X : Nat) : Int) = 0 := by omega
        clear hP hm HV hg hk hX h0
        generalize (stOf X : Int) = s at *
        generalize (clOf X : Int) = k at *
        generalize (mpOf X : Int) = m at *
        generalize (rnOf X : Int) = r at *
        subst h0'
        go_enter Tryz.func54, Tryz.ntmps54
        go_wp2_with fail
        refine (HR.out _).mono ?_
        rintro e w1 ⟨rfl, hb⟩
        have HB := Lib.hid hb
        clear hb
        go_wp2_with fail
        refine (HC.out _).mono ?_
        rintro e w2 ⟨rfl, rfl⟩
        go_wp2_with fail
        refine (HP.out _).mono ?_
        rintro e w3 ⟨rfl, rfl⟩
        go_wp2
        go_ret
        exact ⟨rfl, HB.out.alloc HB.out.size _⟩
      · by_cases h1 : stOf X = 1
        · by_cases hc : ((clOf X : Nat) : Int) = K
          · have hP : PageX X K := ⟨hg, hk, .inr ⟨h1, hc⟩⟩
            have HP := Lib.hid (fun W => sPerPage_any K W)
            have hm := mp_lt X
            have HO := Lib.hid (fun W => sOnes_any (mpOf X) W (by omega))
            have HV := Lib.hid (room_page hP)
            have hv := room_le X K
            have h1' : ((stOf X : Nat) : Int) = 1 := by omega
            have h0' : ¬ (1 : Int) = 0 := by omega
            generalize (onesTo (mpOf X) 32).length = l at *
            generalize perV K = p at *
            generalize roomV X K = v at *
            have hd : IntKind.i64.wrap (p - (l : Int)) = (v : Int) := by rw [HV.out]; exact IntWalk.i64_in _ (by omega)
            clear hP hX HV hv hm hg hk h0 h1
            generalize (stOf X : Int) = s at *
            generalize (clOf X : Int) = k at *
            generalize (mpOf X : Int) = m at *
            generalize (rnOf X : Int) = r at *
            subst h1' hc
            go_enter Tryz.func54, Tryz.ntmps54
            go_wp2_with fail
            refine (HR.out _).mono ?_
            rintro e w1 ⟨rfl, hb⟩
            have HB := Lib.hid hb
            clear hb
            have b0 : Hid (Below (w1.heap.size + 1) (w1.alloc (.cells #[.int .i64 1, .int .i64 k, .int .u32 m, .int .i64 r] 74)) ((w1.alloc (.cells #[.int .i64 1, .int .i64 k, .int .u32 m, .int .i64 r] 74))).drew) := (Below.refl _ _).drew
            obtain ⟨x0, x1, x2, _⟩ := new4 (Below.refl (w1.heap.size + 1) (w1.alloc (.cells #[.int .i64 1, .int .i64 k, .int .u32 m, .int .i64 r] 74)))
            obtain ⟨_, y1, y2, _⟩ := new4 b0.out
            have LO : Hid (∀ W, Below (w1.heap.size + 1) (w1.alloc (.cells #[.int .i64 1, .int .i64 k, .int .u32 m, .int .i64 r] 74)) W → Calls Tryz.prog 70 #[.int .u32 m] W fun e w' => e = .returned (.int .i64 (l : Int)) ∧ Hid (Below (w1.heap.size + 1) (w1.alloc (.cells #[.int .i64 1, .int .i64 k, .int .u32 m, .int .i64 r] 74)) w') ∧ w'.cell? ⟨w1.heap.size, 2, none⟩ = some (.int .u32 m)) := fun W hW => (HO.out W).mono fun _ w' ⟨he, hb⟩ => by
              have hb2 := below_on hW (by simp) hb
              exact ⟨he, hb2, (new4 hb2).2.2.1⟩
            clear HO
            go_wp2_with fail
            refine (HC.out _).mono ?_
            rintro e w2 ⟨rfl, rfl⟩
            go_wp2_with fail
            go_region_held3 (fun W => W.cell? ⟨w1.heap.size, 2, none⟩ = some (.int .u32 m))
              (first | exact x2 | exact y2 | exact x6)
              (first | (go_at_call 69; refine (HP.out _).mono ?_; rintro e w5 ⟨rfl, rfl⟩)
                     | (go_at_call 70; refine (LO.out _ b0.out).mono ?_; rintro e w6 ⟨rfl, b6, x6⟩))
            go_wp2
            all_goals
              go_ret
              exact ⟨rfl, HB.out.trans (((Below.refl _ _).alloc HB.out.size _).trans (b6.out.mono (by have := HB.out.size; omega)))⟩
          · have hP : ¬ PageX X K := fun h => by rcases h.2.2 with h | h; exact h0 h; exact hc h.2
            have HV := Lib.hid (room_not hP)
            have h1' : ((stOf X : Nat) : Int) = 1 := by omega
            clear hP hg hk hX h0 h1
            generalize (stOf X : Int) = s at *
            generalize (clOf X : Int) = k at *
            generalize (mpOf X : Int) = m at *
            generalize (rnOf X : Int) = r at *
            subst h1'
            go_enter Tryz.func54, Tryz.ntmps54
            go_wp2_with fail
            refine (HR.out _).mono ?_
            rintro e w1 ⟨rfl, hb⟩
            have HB := Lib.hid hb
            clear hb
            go_wp2_with fail
            refine (HC.out _).mono ?_
            rintro e w2 ⟨rfl, rfl⟩
            go_wp2
            go_ret
            exact ⟨by rw [HV.out]; rfl, HB.out.alloc HB.out.size _⟩
        · have hP : ¬ PageX X K := fun h => by rcases h.2.2 with h | h; exact h0 h; exact h1 h.1
          have HV := Lib.hid (room_not hP)
          have h0' : ¬ ((stOf X : Nat) : Int) = 0 := by omega
          have h1' : ¬ ((stOf X : Nat) : Int) = 1 := by omega
          clear hP hg hk hX h0 h1
          generalize (stOf X : Int) = s at *
          generalize (clOf X : Int) = k at *
          generalize (mpOf X : Int) = m at *
          generalize (rnOf X : Int) = r at *
          go_enter Tryz.func54, Tryz.ntmps54
          go_wp2_with fail
          refine (HR.out _).mono ?_
          rintro e w1 ⟨rfl, hb⟩
          have HB := Lib.hid hb
          clear hb
          go_wp2_with fail
          refine (HC.out _).mono ?_
          rintro e w2 ⟨rfl, rfl⟩
          go_wp2
          go_ret
          exact ⟨by rw [HV.out]; rfl, HB.out.alloc HB.out.size _⟩
    · rw [decide_eq_false hk] at HC
      have hP : ¬ PageX X K := fun h => hk h.2.1
      have HV := Lib.hid (room_not hP)
      clear hP hg hk hX
      generalize (stOf X : Int) = s at *
      generalize (clOf X : Int) = k at *
      generalize (mpOf X : Int) = m at *
      generalize (rnOf X : Int) = r at *
      go_enter Tryz.func54, Tryz.ntmps54
      go_wp2_with fail
      refine (HR.out _).mono ?_
      rintro e w1 ⟨rfl, hb⟩
      have HB := Lib.hid hb
      clear hb
      go_wp2_with fail
      refine (HC.out _).mono ?_
      rintro e w2 ⟨rfl, rfl⟩
      go_wp2
      go_ret
      exact ⟨by rw [HV.out]; rfl, HB.out.alloc HB.out.size _⟩
  · rw [read_bad hg, decide_eq_false hg] at HR
    have hP : ¬ PageX X K := fun h => hg h.1
    have HV := Lib.hid (room_not hP)
    clear hP hg hX HC
    go_enter Tryz.func54, Tryz.ntmps54
    go_wp2_with fail
    refine (HR.out _).mono ?_
    rintro e w1 ⟨rfl, hb⟩
    have HB := Lib.hid hb
    clear hb
    go_wp2
    go_ret
    exact ⟨by rw [HV.out]; rfl, HB.out.alloc HB.out.size _⟩

end Go.Proofs.YtefcaeldkdbjdaaGreat

namespace Go.Proofs.YtefcaeldkdbjdaaGreat
open Go.RowKit

theorem mem_next {l : List Nat} {q t : Nat} (h : q < l.length) : decide (t ∈ l.take (q + 1)) = (decide (t ∈ l.take q) || (((l[q]?.getD 0 : Nat) : Int) == (t : Int))) := by
  rw [Bool.eq_iff_iff]
  simp only [Bool.or_eq_true, decide_eq_true_iff, beq_iff_eq]
  rw [List.take_succ_eq_append_getElem h, List.mem_append]
  have e : l[q]?.getD 0 = l[q] := by simp [h]
  rw [e, List.mem_singleton]
  exact ⟨fun x => x.elim .inl (fun y => .inr (by omega)), fun x => x.elim .inl (fun y => .inr (by omega))⟩
theorem ints_atD (l : List Nat) {k : Nat} (h : k < l.length) : (ints l)[k]?.getD 0 = ((l[k]?.getD 0 : Nat) : Int) := by simp [ints, h]
theorem calls_bel {P : Program} {f : Nat} {args : Array Value} {w : World} {x : Ending} (h : Calls P f args w fun e w' => e = x ∧ w = w') : Calls P f args w fun e w' => e = x ∧ Below w.heap.size w w' := h.mono fun e w' ⟨a, b⟩ => ⟨a, b ▸ Below.refl _ _⟩
theorem asks_len (kd : Int) (vs : List Int) : (askL kd vs).length ≤ 8 := askTo_len kd vs 8

end Go.Proofs.YtefcaeldkdbjdaaGreat
