/- FactDo of the program, and the methods that it calls through an interface. -/
import Derived.Test.YthcchnaoenjhlaaIFactOk
import Derived.Test.YthcchnaoenjhlaaCloneP
import Derived.Test.YthcchnaoenjhlaaILiveAdd
import Derived.Test.YthcchnaoenjhlaaILiveCut
namespace Go.Proofs.Ythcchnaoenjhlaa
open Go.RowKit Go.Maps
set_option linter.unusedVariables false

/-- A slice as the calls hand it on: nothing, or at an address in plain memory. -/
def PlainA (A : Option Addr) (n : Nat) : Prop := (A = none ∧ n = 0) ∨ ∃ g o, A = some ⟨g, o, none⟩
theorem OwnP.plain {w : World} {b0 n c : Nat} {A : Option Addr} {ps : List (Int × Int)} (h : OwnP w b0 A n c ps) : PlainA A n := by
  rcases h.2 with ⟨hv, h0⟩ | ⟨g, cap, cur, hv, _⟩
  · injection hv with h1 h2 h3
    exact .inl ⟨h1, h2⟩
  · injection hv with h1 h2 h3
    exact .inr ⟨g, 0, h1⟩

set_option maxHeartbeats 1000000 in
theorem clonePN_any (A : Option Addr) (n c B : Nat) (ps : List (Int × Int)) (w : World) (h : RdP w B A n ps) (hn : n ≤ 1048640) (hA : PlainA A n) :
    Calls Try.prog 132 #[.slice A n c] w fun e w' => ∃ A' c', e = .returned (.slice A' n c') ∧ OwnP w' w.heap.size A' n c' ps ∧ Below w.heap.size w w' := by
  rcases hA with ⟨rfl, rfl⟩ | ⟨g, o, rfl⟩
  · have q : ∀ (w : World) (a : Option Addr) (n c n' c' : Nat), (binOp .eql 30 (.slice a n c) (.slice none n' c')).run Try.prog w = .ok (.bool a.isNone) w := fun w a n c n' c' => Lib.run_eql_slice_nil w _ _ a n c n' c' Try.underlying30
    obtain rfl : ps = [] := List.length_eq_zero_iff.1 h.1
    clear h
    go_enter Try.func132, Try.ntmps132
    go_wp2
    go_ret
    exact ⟨none, 0, rfl, OwnP.zero, Below.refl _ _⟩
  · exact clone_any g o n c B ps w h hn

set_option maxRecDepth 100000 in
set_option maxHeartbeats 2000000 in
theorem takenAfter_any (a s : Int) (A : Option Addr) (n c B : Nat) (ps R : List (Int × Int)) (q : Bool) (w : World) (h : RdP w B A n ps) (hB : B ≤ w.heap.size) (hm : n ≤ maxLen) (hW : WfP ps) (hb : Wf2 (a, s)) (hR : R = addR ps 256 (a, s)) (hq : q = addOk ps 256 (a, s)) :
    Calls Try.prog 92 #[.agg #[.int .i64 a, .int .i64 s], .slice A n c] w fun e w' => ∃ A' c', e = .returned (.tuple #[.slice A' R.length c', .bool q]) ∧ OwnP w' w.heap.size A' R.length c' R ∧ Below w.heap.size w w' := by
  have HL : Hid (∀ W, Below w.heap.size w W → Calls Try.prog 94 #[.slice A n c, .int .i64 256, .agg #[.int .i64 a, .int .i64 s]] W fun e w' => ∃ A' c', e = .returned (.tuple #[.slice A' R.length c', .bool q]) ∧ OwnP w' W.heap.size A' R.length c' R ∧ Below W.heap.size W w') := fun W hbb => by rw [hR, hq]; exact liveAdd_any A n c B ps 256 a s W (h.below (hbb.mono hB)) (Nat.le_trans hB hbb.size) hm hW hb
  have HB0 := Lib.hid (bel1 w (.cells #[.int .i64 a, .int .i64 s] 93))
  clear h hW hb hR hq
  go_enter Try.func92, Try.ntmps92
  go_wp2_with fail
  refine (HL.out _ HB0.out).mono ?_
  rintro e w1 ⟨A', c', rfl, ho, hb⟩
  have O1 := Lib.hid (ho.from_ HB0.out.size)
  have B1 := Lib.hid (HB0.out.trans (hb.mono HB0.out.size))
  clear ho hb HL HB0
  go_wp2
  refine bodyPost_ret (results_tmp2 rfl _ _ _) rfl ?_
  exact ⟨A', c', rfl, O1.out, B1.out⟩


set_option maxRecDepth 100000 in
set_option maxHeartbeats 2000000 in
theorem givenAfter_any (a s : Int) (A : Option Addr) (n c B : Nat) (ps R : List (Int × Int)) (q : Bool) (w : World) (h : RdP w B A n ps) (hB : B ≤ w.heap.size) (hm : n ≤ maxLen) (hW : WfP ps) (hR : R = giveR ps a s) (hq : q = giveOk ps a s) :
    Calls Try.prog 126 #[.agg #[.int .i64 a, .int .i64 s], .slice A n c] w fun e w' => ∃ A' c', e = .returned (.tuple #[.slice A' R.length c', .bool q]) ∧ OwnP w' w.heap.size A' R.length c' R ∧ Below w.heap.size w w' := by
  obtain ⟨L, hL⟩ : ∃ L, L = cutR ps 256 a := ⟨_, rfl⟩
  obtain ⟨z, hz⟩ : ∃ z, z = cutS ps 256 a := ⟨_, rfl⟩
  obtain ⟨k, hk⟩ : ∃ k, k = (cutV ps 256 a).isSome := ⟨_, rfl⟩
  have HL : Hid (∀ W, Below w.heap.size w W → Calls Try.prog 128 #[.slice A n c, .int .i64 256, .int .i64 a] W fun e w' => ∃ A' c', e = .returned (.tuple #[.slice A' L.length c', .int .i64 z, .bool k]) ∧ OwnP w' W.heap.size A' L.length c' L ∧ Below W.heap.size W w') := fun W hbb => by rw [hL, hz, hk]; exact liveCut_any A n c B ps 256 a W (h.below (hbb.mono hB)) (Nat.le_trans hB hbb.size) hm hW
  have HB0 := Lib.hid (bel1 w (.cells #[.int .i64 a, .int .i64 s] 94))
  unfold giveR giveOk at hR
  unfold giveOk at hq
  rw [← hk, ← hz] at hq
  rw [← hk, ← hz, ← hL] at hR
  clear h hW hL hz hk
  cases k with
  | false =>
    simp only [Bool.false_and, Bool.false_eq_true, if_false] at hR hq
    subst hR hq
    go_enter Try.func126, Try.ntmps126
    go_wp2_with fail
    refine (HL.out _ HB0.out).mono ?_
    rintro e w1 ⟨A', c', rfl, ho, hb⟩
    have B1 := Lib.hid (HB0.out.trans (hb.mono HB0.out.size))
    obtain ⟨hn0, _, _⟩ := nw1 hb
    have a0 := blkc hn0 0 rfl
    have a1 := blkc hn0 1 rfl
    clear ho hb HL HB0 hn0
    go_wp2
    refine bodyPost_ret (results_tmp2 rfl _ _ _) rfl ?_
    exact ⟨none, 0, rfl, OwnP.zero, B1.out⟩
  | true =>
    by_cases hzs : z = s
    · have hd : (z != s) = false := by simp [hzs]
      have hd2 : decide (z = s) = true := decide_eq_true hzs
      simp only [hd2, Bool.true_and, if_true] at hR hq
      subst hR hq
      clear hzs hd2
      go_enter Try.func126, Try.ntmps126
      go_wp2_with fail
      refine (HL.out _ HB0.out).mono ?_
      rintro e w1 ⟨A', c', rfl, ho, hb⟩
      have O1 := Lib.hid (ho.from_ HB0.out.size)
      have B1 := Lib.hid (HB0.out.trans (hb.mono HB0.out.size))
      obtain ⟨hn0, _, _⟩ := nw1 hb
      have a0 := blkc hn0 0 rfl
      have a1 := blkc hn0 1 rfl
      clear ho hb HL HB0 hn0
      go_wp2
      refine bodyPost_ret (results_tmp2 rfl _ _ _) rfl ?_
      exact ⟨A', c', rfl, O1.out, B1.out⟩
    · have hd : (z != s) = true := by simp [hzs]
      have hd2 : decide (z = s) = false := decide_eq_false hzs
      simp only [hd2, Bool.and_false, Bool.false_eq_true, if_false] at hR hq
      subst hR hq
      clear hzs hd2
      go_enter Try.func126, Try.ntmps126
      go_wp2_with fail
      refine (HL.out _ HB0.out).mono ?_
      rintro e w1 ⟨A', c', rfl, ho, hb⟩
      have B1 := Lib.hid (HB0.out.trans (hb.mono HB0.out.size))
      obtain ⟨hn0, _, _⟩ := nw1 hb
      have a0 := blkc hn0 0 rfl
      have a1 := blkc hn0 1 rfl
      clear ho hb HL HB0 hn0
      go_wp2
      refine bodyPost_ret (results_tmp2 rfl _ _ _) rfl ?_
      exact ⟨none, 0, rfl, OwnP.zero, B1.out⟩

set_option maxRecDepth 100000 in
set_option maxHeartbeats 2000000 in
theorem refusedAfter_any (a s : Int) (A : Option Addr) (n c B : Nat) (ps : List (Int × Int)) (w : World) (h : RdP w B A n ps) (hB : B ≤ w.heap.size) (hn : n ≤ 1048640) (hA : PlainA A n) :
    Calls Try.prog 130 #[.agg #[.int .i64 a, .int .i64 s], .slice A n c] w fun e w' => ∃ A' c', e = .returned (.tuple #[.slice A' n c', .bool true]) ∧ OwnP w' w.heap.size A' n c' ps ∧ Below w.heap.size w w' := by
  have HL : Hid (∀ W, Below w.heap.size w W → Calls Try.prog 132 #[.slice A n c] W fun e w' => ∃ A' c', e = .returned (.slice A' n c') ∧ OwnP w' W.heap.size A' n c' ps ∧ Below W.heap.size W w') := fun W hbb => clonePN_any A n c B ps W (h.below (hbb.mono hB)) hn hA
  have HB0 := Lib.hid (bel1 w (.cells #[.int .i64 a, .int .i64 s] 95))
  clear h hA hn
  go_enter Try.func130, Try.ntmps130
  go_wp2_with fail
  refine (HL.out _ (by first | exact HB0.out | exact Below.refl _ _)).mono ?_
  rintro e w1 ⟨A', c', rfl, ho, hb⟩
  have O1 := Lib.hid (ho.from_ (by first | exact HB0.out.size | exact Nat.le_refl _))
  have B1 := Lib.hid (show Below w.heap.size w w1 from by first | exact HB0.out.trans (hb.mono HB0.out.size) | exact hb)
  clear ho hb HL HB0
  go_wp2
  refine bodyPost_ret (results_tmp2 rfl _ _ _) rfl ?_
  exact ⟨A', c', rfl, O1.out, B1.out⟩


set_option maxRecDepth 100000 in
set_option maxHeartbeats 2000000 in
theorem wrongAfter_any (a s : Int) (A : Option Addr) (n c B : Nat) (ps R : List (Int × Int)) (q : Bool) (w : World) (h : RdP w B A n ps) (hB : B ≤ w.heap.size) (hn : n ≤ 1048640) (hW : WfP ps) (hA : PlainA A n) (hR : R = wrongR ps a) (hq : q = !(cutV ps 256 a).isSome) :
    Calls Try.prog 133 #[.agg #[.int .i64 a, .int .i64 s], .slice A n c] w fun e w' => ∃ A' c', e = .returned (.tuple #[.slice A' R.length c', .bool q]) ∧ OwnP w' w.heap.size A' R.length c' R ∧ Below w.heap.size w w' := by
  have hm : n ≤ maxLen := by unfold maxLen; omega
  have hl := h.1
  have HF : Hid (∀ W, Below w.heap.size w W → Calls Try.prog 129 #[.slice A n c, .int .i64 256, .int .i64 a] W fun e w' => e = .returned (foundV (findV ps 256 a)) ∧ Below W.heap.size W w') := fun W hbb => liveFind_any A n c B ps 256 a W (h.below (hbb.mono hB)) (Nat.le_trans hB hbb.size) hm hW
  have HL : Hid (∀ W, Below w.heap.size w W → Calls Try.prog 132 #[.slice A n c] W fun e w' => ∃ A' c', e = .returned (.slice A' n c') ∧ OwnP w' W.heap.size A' n c' ps ∧ Below W.heap.size W w') := fun W hbb => clonePN_any A n c B ps W (h.below (hbb.mono hB)) hn hA
  have HB0 := Lib.hid (bel1 w (.cells #[.int .i64 a, .int .i64 s] 96))
  have hcf := cut_of_find (ps := ps) (z := 256) (a := a)
  unfold wrongR at hR
  clear h hA hn hW hm
  cases hf : findV ps 256 a with
  | none =>
    rw [hf] at HF hcf
    simp only [Option.bind_none] at hcf
    rw [hcf] at hR hq
    simp only [Option.isSome_none, Bool.false_eq_true, if_false, Bool.not_false] at hR hq
    simp only [foundV, Option.getD_none, Option.isSome_none] at HF
    subst hR hq
    subst hl
    clear hcf hf
    go_enter Try.func133, Try.ntmps133
    go_wp2_with fail
    refine (HF.out _ HB0.out).mono ?_
    rintro e w1 ⟨rfl, hb⟩
    obtain ⟨hn0, hb1, z1⟩ := nw1 hb
    have HN0 := Lib.hid (hb1.alloc hb1.size (.cells #[.int .i64 0, .int .i64 0] 71))
    have a0 := blkc hn0 0 rfl
    have a1 := blkc hn0 1 rfl
    clear hb hb1 HF HB0 hn0
    go_wp2_with fail
    refine (HL.out _ HN0.out).mono ?_
    rintro e w2 ⟨A', c', rfl, ho, hb⟩
    have O1 := Lib.hid (ho.from_ HN0.out.size)
    have B1 := Lib.hid (HN0.out.trans (hb.mono HN0.out.size))
    clear ho hb HL HN0 a0 a1
    go_wp2
    refine bodyPost_ret (results_tmp2 rfl _ _ _) rfl ?_
    exact ⟨A', c', rfl, O1.out, B1.out⟩
  | some p =>
    obtain ⟨x, y⟩ := p
    rw [hf] at HF hcf
    simp only [foundV, Option.getD_some, Option.isSome_some] at HF
    simp only [Option.bind_some] at hcf
    clear hf
    by_cases hx : x = a
    · have hd : (x == a) = true := by simp [hx]
      rw [if_pos hx] at hcf
      rw [hcf] at hR hq
      simp only [Option.isSome_some, if_true, Bool.not_true] at hR hq
      subst hR hq
      clear hcf hx hl
      go_enter Try.func133, Try.ntmps133
      go_wp2_with fail
      refine (HF.out _ HB0.out).mono ?_
      rintro e w1 ⟨rfl, hb⟩
      obtain ⟨hn0, hb1, z1⟩ := nw1 hb
      have HN0 := Lib.hid (hb1.alloc hb1.size (.cells #[.int .i64 x, .int .i64 y] 71))
      have a0 := blkc hn0 0 rfl
      have a1 := blkc hn0 1 rfl
      clear hb hb1 HF HB0 hn0
      go_wp2
      refine bodyPost_ret (results_tmp2 rfl _ _ _) rfl ?_
      exact ⟨none, 0, rfl, OwnP.zero, HN0.out⟩
    · have hd : (x == a) = false := by simp [hx]
      rw [if_neg hx] at hcf
      rw [hcf] at hR hq
      simp only [Option.isSome_none, Bool.false_eq_true, if_false, Bool.not_false] at hR hq
      subst hR hq
      subst hl
      clear hcf hx
      go_enter Try.func133, Try.ntmps133
      go_wp2_with fail
      refine (HF.out _ HB0.out).mono ?_
      rintro e w1 ⟨rfl, hb⟩
      obtain ⟨hn0, hb1, z1⟩ := nw1 hb
      have HN0 := Lib.hid (hb1.alloc hb1.size (.cells #[.int .i64 x, .int .i64 y] 71))
      have a0 := blkc hn0 0 rfl
      have a1 := blkc hn0 1 rfl
      clear hb hb1 HF HB0 hn0
      go_wp2_with fail
      refine (HL.out _ HN0.out).mono ?_
      rintro e w2 ⟨A', c', rfl, ho, hb⟩
      have O1 := Lib.hid (ho.from_ HN0.out.size)
      have B1 := Lib.hid (HN0.out.trans (hb.mono HN0.out.size))
      clear ho hb HL HN0 a0 a1
      go_wp2
      refine bodyPost_ret (results_tmp2 rfl _ _ _) rfl ?_
      exact ⟨A', c', rfl, O1.out, B1.out⟩


/-- The method behind the interface. -/
theorem methA_taken (a s : Int) (w : World) : (method 157 93 (.agg #[.int .i64 a, .int .i64 s]) "loop.example/g00709/impl.after").run Try.prog w = .ok (92, .agg #[.int .i64 a, .int .i64 s]) w := by kernel_rfl

/-- The method behind the interface. -/
theorem methA_given (a s : Int) (w : World) : (method 157 94 (.agg #[.int .i64 a, .int .i64 s]) "loop.example/g00709/impl.after").run Try.prog w = .ok (126, .agg #[.int .i64 a, .int .i64 s]) w := by kernel_rfl

/-- The method behind the interface. -/
theorem methA_refused (a s : Int) (w : World) : (method 157 95 (.agg #[.int .i64 a, .int .i64 s]) "loop.example/g00709/impl.after").run Try.prog w = .ok (130, .agg #[.int .i64 a, .int .i64 s]) w := by kernel_rfl

/-- The method behind the interface. -/
theorem methA_wrong (a s : Int) (w : World) : (method 157 96 (.agg #[.int .i64 a, .int .i64 s]) "loop.example/g00709/impl.after").run Try.prog w = .ok (133, .agg #[.int .i64 a, .int .i64 s]) w := by kernel_rfl

set_option maxRecDepth 100000 in
set_option maxHeartbeats 4000000 in
theorem factDo_any (A : Option Addr) (n c B : Nat) (ps : List (Int × Int)) (f : Fc) (w : World) (h : RdP w B A n ps) (hB : B ≤ w.heap.size) (hm : n ≤ maxLen) (hW : WfP ps) (hf : f.Wf) (hA : PlainA A n) :
    Calls Try.prog 15 #[.slice A n c, .agg #[.int .i64 f.k, .int .i64 f.i, .int .i64 f.l, .int .i64 f.a, .int .i64 f.s]] w fun e w' => ∃ A' c', e = .returned (.tuple #[.slice A' (doR ps f).length c', .bool (doV ps f).isSome]) ∧ OwnP w' w.heap.size A' (doR ps f).length c' (doR ps f) ∧ Below w.heap.size w w' := by
  obtain ⟨R, hR⟩ : ∃ R, R = doR ps f := ⟨_, rfl⟩
  obtain ⟨q, hq⟩ : ∃ q, q = (doV ps f).isSome := ⟨_, rfl⟩
  have HK : Hid (∀ W, Below w.heap.size w W → Calls Try.prog 44 #[.slice A n c, .int .i64 256] W fun e w' => e = .returned (.bool (liveOkV ps 256)) ∧ Below W.heap.size W w') := fun W hbb => liveOk_any A n c B ps 256 W (h.below (hbb.mono hB)) (Nat.le_trans hB hbb.size) hm hW
  have HG := Lib.hid (fun W => factOk_any f W)
  have HT := Lib.hid (fun W => statement_any f W)
  have HB0 := Lib.hid (bel1 w (.cells #[.int .i64 f.k, .int .i64 f.i, .int .i64 f.l, .int .i64 f.a, .int .i64 f.s] 25))
  have hwf : Wf2 (f.a, f.s) := ⟨wf_in hf.2.1, wf_in hf.2.2⟩
  rw [← hR, ← hq]
  by_cases hl : liveOkV ps 256 = true
  · rw [hl] at HK
    have hn : n ≤ 1048640 := by rw [← h.1]; have := (liveOkV_z hl).1.2.2; omega
    by_cases hg : FactGood f
    · rw [decide_eq_true hg] at HG
      have hk : f.k = 1 ∨ f.k = 2 ∨ f.k = 3 ∨ f.k = 4 := by rcases hg.1 with g | g | g | g <;> omega
      obtain ⟨d1, d2, d3, d4⟩ := do_of ⟨hl, hg⟩
      have hm1 := methA_taken f.a f.s
      have hm2 := methA_given f.a f.s
      have hm3 := methA_refused f.a f.s
      have hm4 := methA_wrong f.a f.s
      rcases hk with e | e | e | e
      · have g1 := hR.trans (d1 e).1
        have g2 := hq.trans (d1 e).2
        have HV : Hid (stmtV f = .iface 93 (.agg #[.int .i64 f.a, .int .i64 f.s])) := (show _ = _ from by simp [stmtV, e])
        have HX : Hid (∀ W, Below w.heap.size w W → Calls Try.prog 92 #[.agg #[.int .i64 f.a, .int .i64 f.s], .slice A n c] W fun e w' => ∃ A' c', e = .returned (.tuple #[.slice A' R.length c', .bool q]) ∧ OwnP w' W.heap.size A' R.length c' R ∧ Below W.heap.size W w') := fun W hbb => takenAfter_any f.a f.s A n c B ps R q W (h.below (hbb.mono hB)) (Nat.le_trans hB hbb.size) hm hW hwf g1 g2
        clear h hW hf hA hg hl hwf hR hq g1 g2 d1 d2 d3 d4 e hn
        go_enter Try.func15, Try.ntmps15
        go_wp2_with fail
        refine (HK.out _ HB0.out).mono ?_
        rintro e w1 ⟨rfl, hb⟩
        obtain ⟨hn0, hb1, z1⟩ := nw1 hb
        have HA0 := Lib.hid hn0
        have B1 := Lib.hid hb1
        have a0 := blkc hn0 0 rfl
        have a1 := blkc hn0 1 rfl
        have a2 := blkc hn0 2 rfl
        have a3 := blkc hn0 3 rfl
        have a4 := blkc hn0 4 rfl
        clear hb hb1 hn0
        go_wp2_with fail
        refine (HG.out _).mono ?_
        rintro e w2 ⟨rfl, hb⟩
        have HA1 := Lib.hid ((hb.block _ (by omega)).trans HA0.out)
        have B2 := Lib.hid (B1.out.trans (hb.mono B1.out.size))
        clear a0 a1 a2 a3 a4
        have a0 := blkc HA1.out 0 rfl
        have a1 := blkc HA1.out 1 rfl
        have a2 := blkc HA1.out 2 rfl
        have a3 := blkc HA1.out 3 rfl
        have a4 := blkc HA1.out 4 rfl
        clear hb
        go_wp2_with fail
        refine (HT.out _).mono ?_
        rintro e w3 ⟨rfl, hb⟩
        rw [HV.out]
        have B3 := Lib.hid (B2.out.trans (hb.mono B2.out.size))
        clear hb a0 a1 a2 a3 a4
        go_wp2_with fail
        refine (HX.out _ B3.out).mono ?_
        rintro e w4 ⟨A', c', rfl, ho, hb⟩
        have O1 := Lib.hid (ho.from_ B3.out.size)
        have B4 := Lib.hid (B3.out.trans (hb.mono B3.out.size))
        clear ho hb
        go_wp2
        refine bodyPost_ret (results_tmp2 rfl _ _ _) rfl ?_
        exact ⟨A', c', rfl, O1.out, B4.out⟩
      · have g1 := hR.trans (d2 e).1
        have g2 := hq.trans (d2 e).2
        have HV : Hid (stmtV f = .iface 94 (.agg #[.int .i64 f.a, .int .i64 f.s])) := (show _ = _ from by simp [stmtV, e])
        have HX : Hid (∀ W, Below w.heap.size w W → Calls Try.prog 126 #[.agg #[.int .i64 f.a, .int .i64 f.s], .slice A n c] W fun e w' => ∃ A' c', e = .returned (.tuple #[.slice A' R.length c', .bool q]) ∧ OwnP w' W.heap.size A' R.length c' R ∧ Below W.heap.size W w') := fun W hbb => givenAfter_any f.a f.s A n c B ps R q W (h.below (hbb.mono hB)) (Nat.le_trans hB hbb.size) hm hW g1 g2
        clear h hW hf hA hg hl hwf hR hq g1 g2 d1 d2 d3 d4 e hn
        go_enter Try.func15, Try.ntmps15
        go_wp2_with fail
        refine (HK.out _ HB0.out).mono ?_
        rintro e w1 ⟨rfl, hb⟩
        obtain ⟨hn0, hb1, z1⟩ := nw1 hb
        have HA0 := Lib.hid hn0
        have B1 := Lib.hid hb1
        have a0 := blkc hn0 0 rfl
        have a1 := blkc hn0 1 rfl
        have a2 := blkc hn0 2 rfl
        have a3 := blkc hn0 3 rfl
        have a4 := blkc hn0 4 rfl
        clear hb hb1 hn0
        go_wp2_with fail
        refine (HG.out _).mono ?_
        rintro e w2 ⟨rfl, hb⟩
        have HA1 := Lib.hid ((hb.block _ (by omega)).trans HA0.out)
        have B2 := Lib.hid (B1.out.trans (hb.mono B1.out.size))
        clear a0 a1 a2 a3 a4
        have a0 := blkc HA1.out 0 rfl
        have a1 := blkc HA1.out 1 rfl
        have a2 := blkc HA1.out 2 rfl
        have a3 := blkc HA1.out 3 rfl
        have a4 := blkc HA1.out 4 rfl
        clear hb
        go_wp2_with fail
        refine (HT.out _).mono ?_
        rintro e w3 ⟨rfl, hb⟩
        rw [HV.out]
        have B3 := Lib.hid (B2.out.trans (hb.mono B2.out.size))
        clear hb a0 a1 a2 a3 a4
        go_wp2_with fail
        refine (HX.out _ B3.out).mono ?_
        rintro e w4 ⟨A', c', rfl, ho, hb⟩
        have O1 := Lib.hid (ho.from_ B3.out.size)
        have B4 := Lib.hid (B3.out.trans (hb.mono B3.out.size))
        clear ho hb
        go_wp2
        refine bodyPost_ret (results_tmp2 rfl _ _ _) rfl ?_
        exact ⟨A', c', rfl, O1.out, B4.out⟩
      · have g1 := hR.trans (d3 e).1
        have g2 := hq.trans (d3 e).2
        have HV : Hid (stmtV f = .iface 95 (.agg #[.int .i64 f.a, .int .i64 f.s])) := (show _ = _ from by simp [stmtV, e])
        have HX : Hid (∀ W, Below w.heap.size w W → Calls Try.prog 130 #[.agg #[.int .i64 f.a, .int .i64 f.s], .slice A n c] W fun e w' => ∃ A' c', e = .returned (.tuple #[.slice A' R.length c', .bool q]) ∧ OwnP w' W.heap.size A' R.length c' R ∧ Below W.heap.size W w') := fun W hbb => by rw [g1, g2, show ps.length = n from h.1]; exact refusedAfter_any f.a f.s A n c B ps W (h.below (hbb.mono hB)) (Nat.le_trans hB hbb.size) hn hA
        clear h hW hf hA hg hl hwf hR hq g1 g2 d1 d2 d3 d4 e hn
        go_enter Try.func15, Try.ntmps15
        go_wp2_with fail
        refine (HK.out _ HB0.out).mono ?_
        rintro e w1 ⟨rfl, hb⟩
        obtain ⟨hn0, hb1, z1⟩ := nw1 hb
        have HA0 := Lib.hid hn0
        have B1 := Lib.hid hb1
        have a0 := blkc hn0 0 rfl
        have a1 := blkc hn0 1 rfl
        have a2 := blkc hn0 2 rfl
        have a3 := blkc hn0 3 rfl
        have a4 := blkc hn0 4 rfl
        clear hb hb1 hn0
        go_wp2_with fail
        refine (HG.out _).mono ?_
        rintro e w2 ⟨rfl, hb⟩
        have HA1 := Lib.hid ((hb.block _ (by omega)).trans HA0.out)
        have B2 := Lib.hid (B1.out.trans (hb.mono B1.out.size))
        clear a0 a1 a2 a3 a4
        have a0 := blkc HA1.out 0 rfl
        have a1 := blkc HA1.out 1 rfl
        have a2 := blkc HA1.out 2 rfl
        have a3 := blkc HA1.out 3 rfl
        have a4 := blkc HA1.out 4 rfl
        clear hb
        go_wp2_with fail
        refine (HT.out _).mono ?_
        rintro e w3 ⟨rfl, hb⟩
        rw [HV.out]
        have B3 := Lib.hid (B2.out.trans (hb.mono B2.out.size))
        clear hb a0 a1 a2 a3 a4
        go_wp2_with fail
        refine (HX.out _ B3.out).mono ?_
        rintro e w4 ⟨A', c', rfl, ho, hb⟩
        have O1 := Lib.hid (ho.from_ B3.out.size)
        have B4 := Lib.hid (B3.out.trans (hb.mono B3.out.size))
        clear ho hb
        go_wp2
        refine bodyPost_ret (results_tmp2 rfl _ _ _) rfl ?_
        exact ⟨A', c', rfl, O1.out, B4.out⟩
      · have g1 := hR.trans (d4 e).1
        have g2 := hq.trans (d4 e).2
        have HV : Hid (stmtV f = .iface 96 (.agg #[.int .i64 f.a, .int .i64 f.s])) := (show _ = _ from by simp [stmtV, e])
        have HX : Hid (∀ W, Below w.heap.size w W → Calls Try.prog 133 #[.agg #[.int .i64 f.a, .int .i64 f.s], .slice A n c] W fun e w' => ∃ A' c', e = .returned (.tuple #[.slice A' R.length c', .bool q]) ∧ OwnP w' W.heap.size A' R.length c' R ∧ Below W.heap.size W w') := fun W hbb => wrongAfter_any f.a f.s A n c B ps R q W (h.below (hbb.mono hB)) (Nat.le_trans hB hbb.size) hn hW hA g1 g2
        clear h hW hf hA hg hl hwf hR hq g1 g2 d1 d2 d3 d4 e hn
        go_enter Try.func15, Try.ntmps15
        go_wp2_with fail
        refine (HK.out _ HB0.out).mono ?_
        rintro e w1 ⟨rfl, hb⟩
        obtain ⟨hn0, hb1, z1⟩ := nw1 hb
        have HA0 := Lib.hid hn0
        have B1 := Lib.hid hb1
        have a0 := blkc hn0 0 rfl
        have a1 := blkc hn0 1 rfl
        have a2 := blkc hn0 2 rfl
        have a3 := blkc hn0 3 rfl
        have a4 := blkc hn0 4 rfl
        clear hb hb1 hn0
        go_wp2_with fail
        refine (HG.out _).mono ?_
        rintro e w2 ⟨rfl, hb⟩
        have HA1 := Lib.hid ((hb.block _ (by omega)).trans HA0.out)
        have B2 := Lib.hid (B1.out.trans (hb.mono B1.out.size))
        clear a0 a1 a2 a3 a4
        have a0 := blkc HA1.out 0 rfl
        have a1 := blkc HA1.out 1 rfl
        have a2 := blkc HA1.out 2 rfl
        have a3 := blkc HA1.out 3 rfl
        have a4 := blkc HA1.out 4 rfl
        clear hb
        go_wp2_with fail
        refine (HT.out _).mono ?_
        rintro e w3 ⟨rfl, hb⟩
        rw [HV.out]
        have B3 := Lib.hid (B2.out.trans (hb.mono B2.out.size))
        clear hb a0 a1 a2 a3 a4
        go_wp2_with fail
        refine (HX.out _ B3.out).mono ?_
        rintro e w4 ⟨A', c', rfl, ho, hb⟩
        have O1 := Lib.hid (ho.from_ B3.out.size)
        have B4 := Lib.hid (B3.out.trans (hb.mono B3.out.size))
        clear ho hb
        go_wp2
        refine bodyPost_ret (results_tmp2 rfl _ _ _) rfl ?_
        exact ⟨A', c', rfl, O1.out, B4.out⟩
    · rw [decide_eq_false hg] at HG
      obtain ⟨r1, r2⟩ := do_no (fun hh => hg hh.2 : ¬ (liveOkV ps 256 = true ∧ FactGood f))
      have r1 := hR.trans r1
      have r2 := hq.trans r2
      clear hR hq
      subst r1 r2
      clear h hW hf hA hg hl hwf
      go_enter Try.func15, Try.ntmps15
      go_wp2_with fail
      refine (HK.out _ HB0.out).mono ?_
      rintro e w1 ⟨rfl, hb⟩
      obtain ⟨hn0, hb1, z1⟩ := nw1 hb
      have HA0 := Lib.hid hn0
      have B1 := Lib.hid hb1
      have a0 := blkc hn0 0 rfl
      have a1 := blkc hn0 1 rfl
      have a2 := blkc hn0 2 rfl
      have a3 := blkc hn0 3 rfl
      have a4 := blkc hn0 4 rfl
      clear hb hb1 hn0
      go_wp2_with fail
      refine (HG.out _).mono ?_
      rintro e w2 ⟨rfl, hb⟩
      have B2 := Lib.hid (B1.out.trans (hb.mono B1.out.size))
      clear hb
      go_wp2
      refine bodyPost_ret (results_tmp2 rfl _ _ _) rfl ?_
      exact ⟨none, 0, rfl, OwnP.zero, B2.out⟩
  · have hl' : liveOkV ps 256 = false := by simpa using hl
    rw [hl'] at HK
    obtain ⟨r1, r2⟩ := do_no (fun hh => hl hh.1 : ¬ (liveOkV ps 256 = true ∧ FactGood f))
    have r1 := hR.trans r1
    have r2 := hq.trans r2
    clear hR hq
    subst r1 r2
    clear h hW hf hA hl hl' hwf
    go_enter Try.func15, Try.ntmps15
    go_wp2_with fail
    refine (HK.out _ HB0.out).mono ?_
    rintro e w1 ⟨rfl, hb⟩
    have B1 := Lib.hid (HB0.out.trans (hb.mono HB0.out.size))
    clear hb
    go_wp2
    refine bodyPost_ret (results_tmp2 rfl _ _ _) rfl ?_
    exact ⟨none, 0, rfl, OwnP.zero, B1.out⟩

end Go.Proofs.Ythcchnaoenjhlaa
