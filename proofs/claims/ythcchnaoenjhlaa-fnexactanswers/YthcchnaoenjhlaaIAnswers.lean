/- Answers of the program. -/
import Derived.Test.YthcchnaoenjhlaaIFactOk
import Derived.Test.YthcchnaoenjhlaaAnsM
namespace Go.Proofs.Ythcchnaoenjhlaa
open Go.RowKit
set_option linter.unusedVariables false

theorem is_taken_taken (a s : Int) (W : World) : (Instr.typeAssert (.iface 93 (.agg #[.int .i64 a, .int .i64 s])) 64 93 true).run Try.prog W = .ok (.tuple #[.agg #[.int .i64 a, .int .i64 s], .bool true]) W := by kernel_rfl
theorem is_taken_given (a s : Int) (W : World) : (Instr.typeAssert (.iface 93 (.agg #[.int .i64 a, .int .i64 s])) 64 94 true).run Try.prog W = .ok (.tuple #[.agg #[.int .i64 0, .int .i64 0], .bool false]) W := by kernel_rfl
theorem is_given_taken (a s : Int) (W : World) : (Instr.typeAssert (.iface 94 (.agg #[.int .i64 a, .int .i64 s])) 64 93 true).run Try.prog W = .ok (.tuple #[.agg #[.int .i64 0, .int .i64 0], .bool false]) W := by kernel_rfl
theorem is_given_given (a s : Int) (W : World) : (Instr.typeAssert (.iface 94 (.agg #[.int .i64 a, .int .i64 s])) 64 94 true).run Try.prog W = .ok (.tuple #[.agg #[.int .i64 a, .int .i64 s], .bool true]) W := by kernel_rfl
theorem is_refused_taken (a s : Int) (W : World) : (Instr.typeAssert (.iface 95 (.agg #[.int .i64 a, .int .i64 s])) 64 93 true).run Try.prog W = .ok (.tuple #[.agg #[.int .i64 0, .int .i64 0], .bool false]) W := by kernel_rfl
theorem is_refused_given (a s : Int) (W : World) : (Instr.typeAssert (.iface 95 (.agg #[.int .i64 a, .int .i64 s])) 64 94 true).run Try.prog W = .ok (.tuple #[.agg #[.int .i64 0, .int .i64 0], .bool false]) W := by kernel_rfl
theorem is_wrong_taken (a s : Int) (W : World) : (Instr.typeAssert (.iface 96 (.agg #[.int .i64 a, .int .i64 s])) 64 93 true).run Try.prog W = .ok (.tuple #[.agg #[.int .i64 0, .int .i64 0], .bool false]) W := by kernel_rfl
theorem is_wrong_given (a s : Int) (W : World) : (Instr.typeAssert (.iface 96 (.agg #[.int .i64 a, .int .i64 s])) 64 94 true).run Try.prog W = .ok (.tuple #[.agg #[.int .i64 0, .int .i64 0], .bool false]) W := by kernel_rfl
theorem is_nil_taken (W : World) : (Instr.typeAssert .nilIface 64 93 true).run Try.prog W = .ok (.tuple #[.agg #[.int .i64 0, .int .i64 0], .bool false]) W := by kernel_rfl
theorem is_nil_given (W : World) : (Instr.typeAssert .nilIface 64 94 true).run Try.prog W = .ok (.tuple #[.agg #[.int .i64 0, .int .i64 0], .bool false]) W := by kernel_rfl

set_option maxRecDepth 100000 in
set_option maxHeartbeats 2000000 in
theorem answer_any (f : Fc) (w : World) : Calls Try.prog 58 #[.agg #[.int .i64 f.k, .int .i64 f.i, .int .i64 f.l, .int .i64 f.a, .int .i64 f.s]] w fun e w' => e = .returned (.int .i64 (ansV f)) ∧ Below w.heap.size w w' := by
  have HS := Lib.hid (fun W => statement_any f W)
  have HB0 := Lib.hid (bel1 w (.cells #[.int .i64 f.k, .int .i64 f.i, .int .i64 f.l, .int .i64 f.a, .int .i64 f.s] 25))
  by_cases h1 : f.k = 1
  · have HV : Hid (stmtV f = .iface 93 (.agg #[.int .i64 f.a, .int .i64 f.s])) := (show _ = _ from by simp [stmtV, h1])
    have HR : Hid (ansV f = f.a) := (show _ = _ from by simp [ansV, h1])
    have u_taken := is_taken_taken f.a f.s
    have u_given := is_taken_given f.a f.s
    clear h1
    go_enter Try.func58, Try.ntmps58
    go_wp2_with fail
    refine (HS.out _).mono ?_
    rintro e w1 ⟨rfl, hb⟩
    rw [HV.out]
    have B1 := Lib.hid (HB0.out.trans (hb.mono HB0.out.size))
    clear hb
    go_wp2
    go_ret
    exact ⟨by rw [HR.out]; rfl, B1.out.alloc B1.out.size _⟩
  · by_cases h2 : f.k = 2
    · have HV : Hid (stmtV f = .iface 94 (.agg #[.int .i64 f.a, .int .i64 f.s])) := (show _ = _ from by simp [stmtV, h1, h2])
      have HR : Hid (ansV f = 1) := (show _ = _ from by simp [ansV, h1, h2])
      have u_taken := is_given_taken f.a f.s
      have u_given := is_given_given f.a f.s
      clear h1 h2
      go_enter Try.func58, Try.ntmps58
      go_wp2_with fail
      refine (HS.out _).mono ?_
      rintro e w1 ⟨rfl, hb⟩
      rw [HV.out]
      have B1 := Lib.hid (HB0.out.trans (hb.mono HB0.out.size))
      clear hb
      go_wp2
      go_ret
      exact ⟨by rw [HR.out]; rfl, B1.out.alloc B1.out.size _⟩
    · by_cases h3 : f.k = 3
      · have HV : Hid (stmtV f = .iface 95 (.agg #[.int .i64 f.a, .int .i64 f.s])) := (show _ = _ from by simp [stmtV, h1, h2, h3])
        have HR : Hid (ansV f = -2) := (show _ = _ from by simp [ansV, h1, h2])
        have u_taken := is_refused_taken f.a f.s
        have u_given := is_refused_given f.a f.s
        clear h1 h2 h3
        go_enter Try.func58, Try.ntmps58
        go_wp2_with fail
        refine (HS.out _).mono ?_
        rintro e w1 ⟨rfl, hb⟩
        rw [HV.out]
        have B1 := Lib.hid (HB0.out.trans (hb.mono HB0.out.size))
        clear hb
        go_wp2
        go_ret
        exact ⟨by rw [HR.out]; rfl, B1.out⟩
      · by_cases h4 : f.k = 4
        · have HV : Hid (stmtV f = .iface 96 (.agg #[.int .i64 f.a, .int .i64 f.s])) := (show _ = _ from by simp [stmtV, h1, h2, h3, h4])
          have HR : Hid (ansV f = -2) := (show _ = _ from by simp [ansV, h1, h2])
          have u_taken := is_wrong_taken f.a f.s
          have u_given := is_wrong_given f.a f.s
          clear h1 h2 h3 h4
          go_enter Try.func58, Try.ntmps58
          go_wp2_with fail
          refine (HS.out _).mono ?_
          rintro e w1 ⟨rfl, hb⟩
          rw [HV.out]
          have B1 := Lib.hid (HB0.out.trans (hb.mono HB0.out.size))
          clear hb
          go_wp2
          go_ret
          exact ⟨by rw [HR.out]; rfl, B1.out⟩
        · have HV : Hid (stmtV f = .nilIface) := (show _ = _ from by simp [stmtV, h1, h2, h3, h4])
          have HR : Hid (ansV f = -2) := (show _ = _ from by simp [ansV, h1, h2])
          have u_taken := is_nil_taken
          have u_given := is_nil_given
          clear h1 h2 h3 h4
          go_enter Try.func58, Try.ntmps58
          go_wp2_with fail
          refine (HS.out _).mono ?_
          rintro e w1 ⟨rfl, hb⟩
          rw [HV.out]
          have B1 := Lib.hid (HB0.out.trans (hb.mono HB0.out.size))
          clear hb
          go_wp2
          go_ret
          exact ⟨by rw [HR.out]; rfl, B1.out⟩

set_option maxRecDepth 100000 in
set_option maxHeartbeats 4000000 in
theorem answers_any (A : Option Addr) (n c B : Nat) (fs : List Fc) (i l : Int) (w : World) (h : RdF w B A n fs) (hB : B ≤ w.heap.size) (hm : n ≤ maxLen) :
    Calls Try.prog 34 #[.slice A n c, .int .i64 i, .int .i64 l] w fun e w' => ∃ A' c', e = .returned (.slice A' (answersV fs i l).length c') ∧ OwnK 3 .i64 w' w.heap.size A' (answersV fs i l).length c' (answersV fs i l) ∧ Below w.heap.size w w' := by
  unfold maxLen at hm
  by_cases hn : n ≤ 2000
  · have HR : Hid (answersV fs i l = ansL (fs.take n) i l) := (show _ = _ from by unfold answersV; rw [if_pos (by rw [h.1]; exact hn), ← h.1, List.take_length])
    have HL := Lib.hid h.1
    have H2 := Lib.hid h.2
    have HA := Lib.hid (fun x W => answer_any x W)
    have O0 : Hid (OwnK 3 .i64 w w.heap.size none 0 0 (ansL (fs.take 0) i l)) := World.ownsRow_nil _ _ _ _
    clear h
    go_enter Try.func34, Try.ntmps34
    go_wp2
    go_loopw [7, 15] (fun v j wr => ∃ (k m : Nat) (A1 : Option Addr) (c1 : Nat), k ≤ n ∧ j = .int .i64 k ∧ v = .slice A1 m c1 ∧ m ≤ k ∧ Hid (OwnK 3 .i64 wr w.heap.size A1 m c1 (ansL (fs.take k) i l)) ∧ Hid (Below w.heap.size w wr)) (fun _ j _ => n - (intOf j).toNat)
    case atStart => exact ⟨0, 0, none, 0, Nat.zero_le _, rfl, rfl, Nat.le_refl _, O0, Below.refl _ _⟩
    case round =>
      obtain ⟨k, m, A1, c1, hk, rfl, rfl, hmk, HO, HB⟩ := hrel
      clear O0
      have hsz := HB.out.size
      by_cases hlt : k < n
      · obtain ⟨g, o, rfl, hg, hc⟩ := H2.out (by omega)
        have HN := Lib.hid (ansL_next (fs := fs) (k := k) i l (by rw [HL.out]; exact hlt))
        have h5 := (hc k hlt).below HB.out (by omega)
        clear hc
        generalize fat fs k = x at *
        obtain ⟨y1, y2, y3, y4, y5⟩ := h5
        have HBx := Lib.hid (HB.out.alloc HB.out.size (.cells #[.int .i64 x.k, .int .i64 x.i, .int .i64 x.l, .int .i64 x.a, .int .i64 x.s] 25))
        have HOx := Lib.hid (HO.out.alloc (.cells #[.int .i64 x.k, .int .i64 x.i, .int .i64 x.l, .int .i64 x.a, .int .i64 x.s] 25))
        have zx := sz1 wr (.cells #[.int .i64 x.k, .int .i64 x.i, .int .i64 x.l, .int .i64 x.a, .int .i64 x.s] 25)
        by_cases e1 : x.i = i
        · have f1 : (x.i == i) = true := by simp [e1]
          by_cases e2 : x.l = l
          · have f2 : (x.l == l) = true := by simp [e2]
            rw [if_pos ⟨e1, e2⟩] at HN
            clear e1 e2
            go_wp2_with fail
            refine (HA.out x _).mono ?_
            rintro e w2 ⟨rfl, hb⟩
            have HO2 := Lib.hid (HOx.out.below hb)
            have HB2 := Lib.hid (HBx.out.trans (hb.mono HBx.out.size))
            have hs2 := HB2.out.size
            clear hb HO HB HOx HBx y1 y2 y3 y4 y5
            go_wp2_with (at_builtin; refine wpList_push_int rfl (.tmp 29) (.tmp 32) rfl w.heap.size m c1 A1 _ _ rfl rfl HO2.out (by omega) hs2 ?_)
            intro A' c' w' HO' HB'
            have HB3 := Lib.hid (HB2.out.trans HB'.out)
            have HO3 : Hid (OwnK 3 .i64 w' w.heap.size A' (m + 1) c' (ansL (fs.take (k + 1)) i l)) := (show OwnK _ _ _ _ _ _ _ _ from by rw [HN.out]; exact HO'.out)
            clear HO' HB' HO2 HB2
            go_wp2
            go_roundw
            case rel => exact ⟨k + 1, m + 1, A', c', by omega, by go_num, rfl, by omega, HO3, HB3⟩
            case measure => simp [intOf]; omega
          · have f2 : (x.l == l) = false := by simp [e2]
            rw [if_neg (fun hh => e2 hh.2), List.append_nil] at HN
            have HO3 : Hid (OwnK 3 .i64 (wr.alloc (.cells #[.int .i64 x.k, .int .i64 x.i, .int .i64 x.l, .int .i64 x.a, .int .i64 x.s] 25)) w.heap.size A1 m c1 (ansL (fs.take (k + 1)) i l)) := (show OwnK _ _ _ _ _ _ _ _ from by rw [HN.out]; exact HOx.out)
            clear e1 e2 HO HB
            go_wp2
            go_roundw
            case rel => exact ⟨k + 1, m, A1, c1, by omega, by go_num, rfl, by omega, HO3, HBx⟩
            case measure => simp [intOf]; omega
        · have f1 : (x.i == i) = false := by simp [e1]
          rw [if_neg (fun hh => e1 hh.1), List.append_nil] at HN
          have HO3 : Hid (OwnK 3 .i64 (wr.alloc (.cells #[.int .i64 x.k, .int .i64 x.i, .int .i64 x.l, .int .i64 x.a, .int .i64 x.s] 25)) w.heap.size A1 m c1 (ansL (fs.take (k + 1)) i l)) := (show OwnK _ _ _ _ _ _ _ _ from by rw [HN.out]; exact HOx.out)
          clear e1 HO HB
          go_wp2
          go_roundw
          case rel => exact ⟨k + 1, m, A1, c1, by omega, by go_num, rfl, by omega, HO3, HBx⟩
          case measure => simp [intOf]; omega
      · have hkn : k = n := by omega
        subst hkn
        have hlen := HO.out.len
        go_wp2
        go_ret
        rw [HR.out]
        exact ⟨A1, c1, by rw [hlen]; rfl, by rw [hlen]; exact HO.out, HB.out⟩
  · have HR : Hid (answersV fs i l = []) := (show _ = _ from by unfold answersV; rw [if_neg (by rw [h.1]; exact hn)])
    clear h
    go_enter Try.func34, Try.ntmps34
    go_wp2
    go_ret
    rw [HR.out]
    exact ⟨none, 0, rfl, World.ownsRow_nil _ _ _ _, Below.refl _ _⟩

end Go.Proofs.Ythcchnaoenjhlaa
