/- FnLongestBits: the longest run is free and bounded by a set bit or an end. Proved for every code. No condition. -/
import Derived.Test.YtffeaaabhekmhaaILong
import Derived.Test.YtffeaaabhekmhaaSLong
import Derived.Test.YtffeaaabhekmhaaBList
import Derived.Test.YtffeaaabhekmhaaLawMath
import Derived.Test.YtffeaaabhekmhaaDrawLong
import Derived.Test.YtffeaaabhekmhaaOpenY
namespace Go.Proofs.Ytffeaaabhekmhaa
open Go.ChangeShapes Go.WideShapes Go.ChangeAt Go.RowKit
set_option linter.unusedVariables false

theorem mem_next {l : List Int} {z : Int} {k : Nat} (h : ¬ z ∈ l.take k) (hk : k < l.length) (hne : ¬ l[k]?.getD 0 = z) : ¬ z ∈ l.take (k + 1) := by
  rw [List.take_succ_eq_append_getElem hk, List.mem_append]
  rintro (h1 | h1)
  · exact h h1
  · simp at h1
    apply hne
    rw [List.getElem?_eq_getElem hk, Option.getD_some, h1]

set_option maxHeartbeats 1000000 in
theorem func1_any (A : Option Addr) (n c B : Nat) (l : List Int) (z : Int) (w : World) (h : RdK .i64 w B A n l) (hn : n ≤ 1048576) :
    Calls Try.prog 31 #[.slice A n c, .int .i64 z] w fun e w' => e = .returned (.bool (decide (z ∈ l))) ∧ w = w' := by
  have HL := Lib.hid h.1
  have H2 := Lib.hid h.2
  clear h
  go_enter Try.func31, Try.ntmps31
  go_wp2
  go_loop [5] (fun i => ∃ k : Nat, k ≤ n ∧ i = .int .i64 k ∧ Hid (¬ z ∈ l.take k)) (fun i => n - (intOf i).toNat)
  case atStart => exact ⟨0, Nat.zero_le _, rfl, by show ¬ _; simp⟩
  case round =>
    obtain ⟨k, hk, rfl, HT⟩ := hrel
    by_cases hlt : k < n
    · obtain ⟨g, o, rfl, hg, hc⟩ := H2.out (by omega)
      have c1 := hc k hlt
      have hkl : k < l.length := by have := HL.out; omega
      clear hc
      by_cases he : l[k]?.getD 0 = z
      · have HE : Hid (decide (z ∈ l) = true) := by
          show _ = _
          rw [List.getElem?_eq_getElem hkl, Option.getD_some] at he
          exact decide_eq_true (he ▸ List.getElem_mem hkl)
        have hb : (l[k]?.getD 0 == z) = true := by simp [he]
        clear he hkl
        go_wp2
        go_ret
        exact ⟨by rw [HE.out]; rfl, rfl⟩
      · have HN := Lib.hid (mem_next HT.out hkl he)
        have hb : (l[k]?.getD 0 == z) = false := by simp [he]
        clear he hkl
        go_wp2
        go_round
        case rel => exact ⟨k + 1, by omega, by go_num, HN⟩
        case measure => simp [intOf]; omega
    · have HE : Hid (decide (z ∈ l) = false) := by
        show _ = _
        have := HT.out
        rw [List.take_of_length_le (by have := HL.out; omega)] at this
        exact decide_eq_false this
      go_wp2
      go_ret
      exact ⟨by rw [HE.out]; rfl, rfl⟩

theorem ints_mem {l : List Nat} {k : Nat} : ((k : Int) ∈ ints l) ↔ k ∈ l := by
  unfold ints
  rw [List.mem_map]
  exact ⟨fun ⟨a, h, e⟩ => by have : a = k := by omega
                             rw [← this]; exact h, fun h => ⟨k, h, rfl⟩⟩

set_option maxRecDepth 100000 in
set_option maxHeartbeats 4000000 in
theorem fnLongestBits_walk (A : Option Addr) (n c : Nat) (bs : List Int) (w0 : World) (h : RdK .u8 w0 w0.heap.size A n bs) (hm0 : n ≤ maxLen) (hf : ∀ z ∈ bs, 0 ≤ z ∧ z < 256) :
    Calls Try.prog 5 #[.slice A n c] w0 fun e w' => e = .returned (.bool true) ∧ Below w0.heap.size w0 w' := by
  have H := Lib.hid h
  have HF := Lib.hid hf
  clear h hf
  by_cases hn' : n ≤ 1048576
  · have hn : ¬ (1048576 : Int) < (n : Int) := by omega
    go_enter Try.func5, Try.ntmps5
    go_wp2_with fail
    refine (big_any A n c w0).mono ?_
    rintro e w1 ⟨rfl, rfl⟩
    go_wp2_with fail
    refine (drawLongest A n c bs w0 H.out HF.out hn').mono ?_
    rintro e w1 ⟨X, wd, rfl, hX, _, hb1⟩
    have HX := Lib.hid hX
    have HB := Lib.hid hb1
    have z1 := hb1.size
    clear hX hb1 H HF
    by_cases hw : IsWidth wd
    · have HW := Lib.hid hw
      clear hw
      go_wp2_with fail
      refine (longest_any X wd _ HX.out HW.out).mono ?_
      rintro e w2 ⟨⟨b, m, rfl, hbest⟩, hb2⟩
      have P1 := Lib.hid hbest
      have z2 := hb2.size
      have B2 : Hid (Below w0.heap.size w0 w2) := HB.out.trans (hb2.mono z1)
      clear hb2 HB hbest
      go_wp2_with fail
      refine (sLongest_any X wd _ HX.out HW.out).mono ?_
      rintro e w3 ⟨⟨b', m', rfl, hbest'⟩, hb3⟩
      obtain ⟨rfl, rfl⟩ := P1.out.unique hbest'
      have z3 := hb3.size
      have B3 : Hid (Below w0.heap.size w0 w3) := B2.out.trans (hb3.mono (by omega))
      clear hb3 B2 hbest'
      by_cases hm : m = 0
      · subst hm
        go_wp2
        go_ret
        exact ⟨rfl, B3.out⟩
      · have hm : 0 < m := by omega
        have m0 : ¬ (m : Int) = 0 := by omega
        obtain ⟨f1, f2, f3, f4⟩ := best_free HX.out HW.out P1.out hm
        have F1 := Lib.hid f1
        have F2 := Lib.hid f2
        have F3 := Lib.hid f3
        have hw' := HW.out
        unfold IsWidth at hw'
        have hbm : (b : Int) + (m : Int) ≤ 32 := by omega
        have hl := onesTo_len X 32
        have HBL : Hid (∀ W, Calls Try.prog 17 #[.int .u32 (X : Int)] W fun e w' => ∃ A c, e = .returned (.slice A (onesTo X 32).length c) ∧ OwnK 3 .i64 w' W.heap.size A (onesTo X 32).length c (ints (onesTo X 32)) ∧ Below W.heap.size W w') := fun W => bitList_any X W HX.out
        generalize onesTo X 32 = l at *
        clear f1 f2 f3 f4 P1 HW
        go_wp2_with fail
        refine (HBL.out _).mono ?_
        rintro e w4 ⟨A4, c4, rfl, ho4, hb4⟩
        have R4 := Lib.hid ho4.rd
        have z4 := hb4.size
        have B4 : Hid (Below w0.heap.size w0 w4) := B3.out.trans (hb4.mono (by omega))
        clear ho4 hb4 B3 HBL
        go_wp2
        go_loop [10] (fun i => ∃ k : Nat, k ≤ l.length ∧ i = .int .i64 k) (fun i => l.length - (intOf i).toNat)
        case atStart => exact ⟨0, Nat.zero_le _, rfl⟩
        case round =>
          obtain ⟨k, hk, rfl⟩ := hrel
          by_cases hlt : k < l.length
          · obtain ⟨g, o, rfl, hg, hc⟩ := R4.out.2 (by omega)
            have c1 := hc k hlt
            rw [ints_at l hlt] at c1
            have hz := F1.out l[k] (List.getElem_mem hlt)
            clear hc
            generalize l[k] = z at *
            by_cases hzb : z < b
            · have d1 : ¬ (b : Int) ≤ (z : Int) := by omega
              clear hz
              go_wp2
              go_round
              case rel => exact ⟨k + 1, by omega, by go_num⟩
              case measure => simp [intOf]; omega
            · have d1 : (b : Int) ≤ (z : Int) := by omega
              have d2 : ¬ (z : Int) < (b : Int) + (m : Int) := by omega
              clear hz
              go_wp2
              go_round
              case rel => exact ⟨k + 1, by omega, by go_num⟩
              case measure => simp [intOf]; omega
          · have C1 := Lib.hid (func1_any A4 l.length c4 _ (ints l) ((b : Int) - 1) w4 R4.out (by omega))
            have C2 := Lib.hid (func1_any A4 l.length c4 _ (ints l) ((b : Int) + (m : Int)) w4 R4.out (by omega))
            have J1 : Hid ((decide ((b : Int) = 0) || decide ((b : Int) - 1 ∈ ints l)) = true) := by
              show _ = _
              rcases F2.out with h | h
              · simp [h]
              · by_cases h0 : b = 0
                · simp [h0]
                · have e : (b : Int) - 1 = ((b - 1 : Nat) : Int) := by omega
                  rw [e, decide_eq_true (ints_mem.2 h)]
                  simp
            have J2 : Hid ((decide ((b : Int) + (m : Int) = wd) || decide ((b : Int) + (m : Int) ∈ ints l)) = true) := by
              show _ = _
              rcases F3.out with h | h
              · simp [h]
              · have e : (b : Int) + (m : Int) = ((b + m : Nat) : Int) := by omega
                have := decide_eq_true (ints_mem.2 h)
                rw [e, this]
                simp
            generalize decide ((b : Int) - 1 ∈ ints l) = d1 at *
            generalize decide ((b : Int) + (m : Int) ∈ ints l) = d2 at *
            clear F1 F2 F3 R4
            go_wp2_with fail
            refine C1.out.mono ?_
            rintro e w5 ⟨rfl, rfl⟩
            go_wp2_with fail
            refine C2.out.mono ?_
            rintro e w5 ⟨rfl, rfl⟩
            clear C1 C2
            by_cases hb0 : (b : Int) = 0
            · by_cases hbw : (b : Int) + (m : Int) = wd
              · have q1 : ((b : Int) + (m : Int) == wd) = true := by simp [hbw]
                have q2 : ((b : Int) == 0) = true := by simp [hb0]
                go_wp2
                go_ret
                exact ⟨rfl, B4.out⟩
              · have q1 : ((b : Int) + (m : Int) == wd) = false := by simp [hbw]
                have q2 : ((b : Int) == 0) = true := by simp [hb0]
                have j2 : d2 = true := by have := J2.out; simp [hbw] at this; exact this
                subst j2
                go_wp2
                go_ret
                exact ⟨rfl, B4.out⟩
            · have q2 : ((b : Int) == 0) = false := by simp; omega
              have j1 : d1 = true := by
                  cases d1 with
                  | true => rfl
                  | false => have := J1.out; simp at this; omega
              subst j1
              by_cases hbw : (b : Int) + (m : Int) = wd
              · have q1 : ((b : Int) + (m : Int) == wd) = true := by simp [hbw]
                go_wp2
                go_ret
                exact ⟨rfl, B4.out⟩
              · have q1 : ((b : Int) + (m : Int) == wd) = false := by simp [hbw]
                have j2 : d2 = true := by have := J2.out; simp [hbw] at this; exact this
                subst j2
                go_wp2
                go_ret
                exact ⟨rfl, B4.out⟩
    · have HW := Lib.hid hw
      clear hw
      go_wp2_with fail
      refine (longest_no X wd _ HW.out).mono ?_
      rintro e w2 ⟨rfl, rfl⟩
      go_wp2_with fail
      refine (sLongest_no X wd _ HW.out).mono ?_
      rintro e w2 ⟨rfl, rfl⟩
      go_wp2
      go_ret
      exact ⟨rfl, HB.out⟩
  · have hn : (1048576 : Int) < (n : Int) := by omega
    clear H HF
    go_enter Try.func5, Try.ntmps5
    go_wp2_with fail
    refine (big_any A n c w0).mono ?_
    rintro e w1 ⟨rfl, rfl⟩
    go_wp2
    go_ret
    exact ⟨rfl, Below.refl _ _⟩

set_option maxRecDepth 100000 in
theorem fnLongestBits_lifted (os : Os) (started : os.Started) (H : Type) (enc : TypeId × Value → H) :
    ReturnsInHanded {} Try.checked os 5 .any (Rows.fnLongestBitsSpec.pre6 enc Try.prog Try.f5 Rows.fnLongestBitsRow.domain false) (Rows.fnLongestBitsSpec.post enc Try.prog Try.f5 false true false false) := by
  refine returnsInHanded_of_change (C := Try.checked) own started (by kernel_rfl) Try.func5
    (ChangeSpec.witness6 (enc := enc) (C := Try.checked) false ⟨#[], #[.slice none 0 0], []⟩ 8 (by kernel_rfl) (by kernel_rfl) (by kernel_rfl) (by kernel_rfl)) ?_
  intro W base args ds gs before hval0 hW hcnd _
  have hval : ∀ (j : Nat) t v, Try.f5.params[j]? = some t → args[j]? = some v → Value.okWide Try.prog W .any base t v := hval0
  have hW' := hW
  obtain ⟨p, q, hA0, hV, rfl, hfz, hnd⟩ := hW
  have hA : DataW.TrodAll enc Try.prog W 0 (fun _ => true) true Try.f5.params.toList args.toList ds p := hA0
  rw [Try.params5] at hA hval
  obtain ⟨v0, vs0, d0, ds0, p0, q0, hargs, rfl, rfl, h0, r0⟩ := trodAll_cons hA
  obtain ⟨rfl, rfl, rfl⟩ := trodAll_nil r0
  obtain rfl : args = #[v0] := by cases args; simp_all
  obtain ⟨rfl, rfl⟩ := trodVars_none hV
  have k0 := h0
  have lt0 : ∀ x ∈ p0, x.block < W.heap.size := by obtain ⟨m, hm⟩ := k0; exact DataW.trod_lt m _ _ _ hm
  obtain ⟨A0, n0, c0, z0, rfl, m0, rd0, f0⟩ := open_bytes (hval 0 22 v0 rfl rfl) h0
  clear hA0 hval0
  refine (fnLongestBits_walk A0 n0 c0 z0 W rd0 m0 f0).mono fun e W' ⟨he, bel⟩ => ?_
  subst he
  exact ⟨_, rfl, _, _, _, [], _, [], hW', trodAll_mk1 (shut_bool Try.underlying4 _), (trodAll_cons_mk (Below.trod laidOut (by kernel_rfl) (of_decide_eq_true (by kernel_rfl)) k0 bel lt0) (trodAll_mk0)), rfl, bel.frame _, fun h => by cases h⟩

/-- The given statement: for every input the law returns true, and its arguments read as before. -/
theorem fnLongestBits_holds : Rows.FnLongestBitsSaid :=
  OpenClaim.holds_of_wide 5 Try.f5 rfl rfl rfl rfl rfl rfl rfl ⟨rfl, rfl, rfl, rfl, rfl⟩ rfl rfl rfl rfl rfl (by kernel_rfl) Try.func5 (by kernel_rfl)
    (of_decide_eq_true (by kernel_rfl)) (by unfold Func.isWrapper; first | (rw [if_pos (by decide +kernel)]; kernel_rfl) | (rw [if_neg (by decide +kernel)]; exact ⟨rfl, rfl⟩))
    (fun os started H enc _ => fnLongestBits_lifted os started H enc)
#print axioms fnLongestBits_holds
end Go.Proofs.Ytffeaaabhekmhaa
