/- FnCtl: a control word is recovered from its encoding. Proved for every code. No condition. -/
import Derived.Test.YtaidlmhenmlknaaDrawCtl2
import Derived.Test.YtaidlmhenmlknaaOpenY
namespace Go.Proofs.Ytaidlmhenmlknaa
open Go.ChangeShapes Go.WideShapes Go.ChangeAt Go.RowKit
set_option linter.unusedVariables false

theorem unpack {S K : Int} {M : Nat} {R : Int} (h : CtlGood S K M R) : (stOf (packV S K M R) : Int) = S ∧ (clOf (packV S K M R) : Int) = K ∧ mpOf (packV S K M R) = M ∧ (rnOf (packV S K M R) : Int) = R := by
  obtain ⟨g1, g2, g3, g4, g5, g6, g7⟩ := good_bounds h
  unfold stOf clOf mpOf rnOf packV
  omega
theorem good_pack {S K : Int} {M : Nat} {R : Int} (h : CtlGood S K M R) : GoodX (packA S K M R) ∧ readV (packA S K M R) = #[.int .i64 S, .int .i64 K, .int .u32 (M : Int), .int .i64 R] := by
  obtain ⟨e1, e2, e3, e4⟩ := unpack h
  rw [packA_good h]
  have hg : GoodX (packV S K M R) := by
    unfold GoodX
    rw [e1, e2, e3, e4]
    exact h
  refine ⟨hg, ?_⟩
  unfold readV readN
  simp only [if_pos hg]
  rw [e1, e2, e3, e4]
theorem repack (Y : Nat) : packV (stOf Y) (clOf Y) (mpOf Y) (rnOf Y) = Y := by
  unfold stOf clOf mpOf rnOf packV
  omega

set_option maxRecDepth 100000 in
set_option maxHeartbeats 4000000 in
theorem fnCtl_walk (A : Option Addr) (n c : Nat) (bs : List Int) (w0 : World) (h : RdK .u8 w0 w0.heap.size A n bs) (hm0 : n ≤ maxLen) (hf : ∀ z ∈ bs, 0 ≤ z ∧ z < 256) :
    Calls Try.prog 4 #[.slice A n c] w0 fun e w' => e = .returned (.bool true) ∧ Below w0.heap.size w0 w' := by
  have H := Lib.hid h
  have HF := Lib.hid hf
  clear h hf
  by_cases hn' : n ≤ 1048576
  · have hn : ¬ (1048576 : Int) < (n : Int) := by omega
    go_enter Try.func4, Try.ntmps4
    go_wp2_with fail
    refine (big_any A n c w0).mono ?_
    rintro e w1 ⟨rfl, rfl⟩
    go_wp2_with fail
    refine (drawCtlPack A n c bs w0 H.out HF.out hn').mono ?_
    rintro e w1 ⟨S, K, R, M, rfl, HM, B1⟩
    have HP := Lib.hid (fun W => ctlPack_any S K M R W HM.out)
    have HO := Lib.hid (fun W => sCtlOk_any S K M R W HM.out)
    have HX := Lib.hid (packA_lt S K M R)
    have HR := Lib.hid (fun W => ctlRead_any (packA S K M R) W HX.out)
    go_wp2_with fail
    refine (HP.out _).mono ?_
    rintro e w2 ⟨rfl, h2⟩
    obtain ⟨u2, h2'⟩ := one_new h2
    obtain ⟨⟨c0, c1, c2, c3⟩, _⟩ := blk4 u2
    have U2 := Lib.hid u2
    have B2 := Lib.hid (B1.out.trans (h2'.mono B1.out.size))
    clear h2 h2' B1 u2
    go_wp2_with fail
    refine (HO.out _).mono ?_
    rintro e w3 ⟨rfl, h3⟩
    have l3 : w1.heap.size < w2.heap.size := (Array.getElem?_eq_some_iff.1 U2.out).1
    have U3 := Lib.hid ((h3.block _ l3).trans U2.out)
    have B3 := Lib.hid (B2.out.trans (h3.mono B2.out.size))
    have l3' : w1.heap.size < w3.heap.size := (Array.getElem?_eq_some_iff.1 U3.out).1
    clear h3 U2 B2 c0 c1 c2 c3 HO HP l3
    -- FROM
    by_cases hg : CtlGood S K M R
    · obtain ⟨hx, hr⟩ := good_pack hg
      rw [decide_eq_true hx, hr] at HR
      rw [decide_eq_true hg]
      clear hx hr hg
      generalize ((packA S K M R : Nat) : Int) = z at *
      go_wp2_with fail
      refine (HR.out _).mono ?_
      rintro e w4 ⟨rfl, h4⟩
      have U4 := Lib.hid ((h4.block _ l3').trans U3.out)
      have B4 := Lib.hid (B3.out.trans (h4.mono B3.out.size))
      have l4 : w1.heap.size < w4.heap.size := (Array.getElem?_eq_some_iff.1 U4.out).1
      have n4 : w1.heap.size ≠ w4.heap.size := by omega
      have B5 : Hid (∀ o, Below w0.heap.size w0 (w4.alloc o)) := fun o => B4.out.alloc B4.out.size o
      obtain ⟨⟨c0, c1, c2, c3⟩, _⟩ := blk4 U4.out
      clear h4 B3 U3 B4 U4 l3' HR HX HM
      go_wp2_with fail
      have B5' := Lib.hid (B5.out (.cells #[.int .i64 S, .int .i64 K, .int .u32 (M : Int), .int .i64 R] 28))
      clear B5 c0 c1 c2 c3
      go_wp2_with fail
      refine (drawCtlRead A n c bs _ (rdk_more (H.out.keep (fun p hp => B5'.out.cell hp)) B5'.out.size) HF.out hn').mono ?_
      rintro e w6 ⟨Y, rfl, HY, h6⟩
      have B6 := Lib.hid (B5'.out.trans (h6.out.mono B5'.out.size))
      have HI := Lib.hid (fun W => ctlRead_any Y W HY.out)
      have HS := Lib.hid (fun W => sCtlRead_any Y W HY.out)
      unfold readV at HI HS
      clear h6 B5' H HF hn hn'
      by_cases hy : GoodX Y
      · rw [decide_eq_true hy] at HI HS
        simp only [readN, if_pos hy] at HI HS
        have hmp : mpOf Y < 4294967296 := by have : mpOf Y < 65536 := Nat.mod_lt _ (by omega); omega
        have HC : Hid (∀ W, Calls Try.prog 21 #[.agg #[.int .i64 (stOf Y : Int), .int .i64 (clOf Y : Int), .int .u32 (mpOf Y : Int), .int .i64 (rnOf Y : Int)]] W fun e w' => e = .returned (.tuple #[.int .u32 (Y : Int), .bool true]) ∧ Below W.heap.size W w') := fun W => by
          have := ctlPack_any (stOf Y) (clOf Y) (mpOf Y) (rnOf Y) W hmp
          rwa [packA_good hy, repack, decide_eq_true (show CtlGood (stOf Y) (clOf Y) (mpOf Y) (rnOf Y) from hy)] at this
        have HK : Hid (∀ W, Calls Try.prog 26 #[.agg #[.int .i64 (stOf Y : Int), .int .i64 (clOf Y : Int), .int .u32 (mpOf Y : Int), .int .i64 (rnOf Y : Int)]] W fun e w' => e = .returned (.bool true) ∧ Below W.heap.size W w') := fun W => by
          have := ctlOk_any (stOf Y) (clOf Y) (mpOf Y) (rnOf Y) W hmp
          rwa [decide_eq_true (show CtlGood (stOf Y) (clOf Y) (mpOf Y) (rnOf Y) from hy)] at this
        clear hy hmp
        generalize ((stOf Y : Nat) : Int) = s at *
        generalize ((clOf Y : Nat) : Int) = k at *
        generalize ((mpOf Y : Nat) : Int) = m at *
        generalize ((rnOf Y : Nat) : Int) = r at *
        go_wp2_with fail
        refine (HI.out _).mono ?_
        rintro e w7 ⟨rfl, h7⟩
        have B7 := Lib.hid (B6.out.trans (h7.mono B6.out.size))
        clear h7 B6
        go_wp2_with fail
        refine (HS.out _).mono ?_
        rintro e w8 ⟨rfl, h8⟩
        obtain ⟨u8, h8'⟩ := one_new h8
        have B8 := Lib.hid (B7.out.trans (h8'.mono B7.out.size))
        have l8 : w7.heap.size < w8.heap.size := (Array.getElem?_eq_some_iff.1 u8).1
        have n8 : w7.heap.size ≠ w8.heap.size := by omega
        have U8 := Lib.hid u8
        obtain ⟨⟨c0, c1, c2, c3⟩, _⟩ := blk4 u8
        clear h8 h8' u8 B7
        go_wp2_with fail
        refine (HC.out _).mono ?_
        rintro e w9 ⟨rfl, h9⟩
        have z8 := B8.out.size
        obtain ⟨⟨d0, d1, d2, d3⟩, _⟩ := blk4 ((h9.block w7.heap.size (by simp; omega)).trans (lit_alloc U8.out _))
        have B9 : Hid (Below w0.heap.size w0 w9) := (by repeat (first | exact Below.refl _ _ | refine Below.drew ?_ | refine Below.setCell ?_ (by first | omega | (simp; done) | (simp; omega) | (simp [*]; done)) _ | refine Below.alloc ?_ (by first | omega | (simp; done) | (simp; omega) | (simp [*]; done)) _ | refine Below.trans ?_ (Below.mono (B8.out) (by first | omega | (simp; done) | (simp; omega) | (simp [*]; done))) | refine Below.trans ?_ (Below.mono (h9) (by first | omega | (simp; done) | (simp; omega) | (simp [*]; done)))))
        clear h9 U8 c0 c1 c2 c3
        go_wp2_with fail
        refine (HK.out _).mono ?_
        rintro e w10 ⟨rfl, h10⟩
        have B10 := Lib.hid (B9.out.trans (h10.mono B9.out.size))
        clear h10
        go_wp2
        go_ret
        exact ⟨rfl, B10.out⟩
      · rw [decide_eq_false hy] at HI HS
        simp only [readN, if_neg hy] at HI HS
        clear hy
        go_wp2_with fail
        refine (HI.out _).mono ?_
        rintro e w7 ⟨rfl, h7⟩
        have B7 := Lib.hid (B6.out.trans (h7.mono B6.out.size))
        clear h7 B6
        go_wp2_with fail
        refine (HS.out _).mono ?_
        rintro e w8 ⟨rfl, h8⟩
        obtain ⟨u8, h8'⟩ := one_new h8
        have B8 := Lib.hid (B7.out.trans (h8'.mono B7.out.size))
        have l8 : w7.heap.size < w8.heap.size := (Array.getElem?_eq_some_iff.1 u8).1
        have n8 : w7.heap.size ≠ w8.heap.size := by omega
        have z8 := B8.out.size
        obtain ⟨⟨c0, c1, c2, c3⟩, _⟩ := blk4 u8
        clear h8 h8' u8 B7
        go_wp2
        go_ret
        exact ⟨rfl, (by repeat (first | exact Below.refl _ _ | refine Below.drew ?_ | refine Below.setCell ?_ (by first | omega | (simp; done) | (simp; omega) | (simp [*]; done)) _ | refine Below.alloc ?_ (by first | omega | (simp; done) | (simp; omega) | (simp [*]; done)) _ | refine Below.trans ?_ (Below.mono (B8.out) (by first | omega | (simp; done) | (simp; omega) | (simp [*]; done)))))⟩
    · rw [decide_eq_false hg]
      clear hg HR HX HM U3 l3'
      generalize ((packA S K M R : Nat) : Int) = z at *
      go_wp2_with fail
      refine (drawCtlRead A n c bs _ (rdk_more (H.out.keep (fun p hp => B3.out.cell hp)) B3.out.size) HF.out hn').mono ?_
      rintro e w6 ⟨Y, rfl, HY, h6⟩
      have B6 := Lib.hid (B3.out.trans (h6.out.mono B3.out.size))
      have HI := Lib.hid (fun W => ctlRead_any Y W HY.out)
      have HS := Lib.hid (fun W => sCtlRead_any Y W HY.out)
      unfold readV at HI HS
      clear h6 B3 H HF hn hn'
      by_cases hy : GoodX Y
      · rw [decide_eq_true hy] at HI HS
        simp only [readN, if_pos hy] at HI HS
        have hmp : mpOf Y < 4294967296 := by have : mpOf Y < 65536 := Nat.mod_lt _ (by omega); omega
        have HC : Hid (∀ W, Calls Try.prog 21 #[.agg #[.int .i64 (stOf Y : Int), .int .i64 (clOf Y : Int), .int .u32 (mpOf Y : Int), .int .i64 (rnOf Y : Int)]] W fun e w' => e = .returned (.tuple #[.int .u32 (Y : Int), .bool true]) ∧ Below W.heap.size W w') := fun W => by
          have := ctlPack_any (stOf Y) (clOf Y) (mpOf Y) (rnOf Y) W hmp
          rwa [packA_good hy, repack, decide_eq_true (show CtlGood (stOf Y) (clOf Y) (mpOf Y) (rnOf Y) from hy)] at this
        have HK : Hid (∀ W, Calls Try.prog 26 #[.agg #[.int .i64 (stOf Y : Int), .int .i64 (clOf Y : Int), .int .u32 (mpOf Y : Int), .int .i64 (rnOf Y : Int)]] W fun e w' => e = .returned (.bool true) ∧ Below W.heap.size W w') := fun W => by
          have := ctlOk_any (stOf Y) (clOf Y) (mpOf Y) (rnOf Y) W hmp
          rwa [decide_eq_true (show CtlGood (stOf Y) (clOf Y) (mpOf Y) (rnOf Y) from hy)] at this
        clear hy hmp
        generalize ((stOf Y : Nat) : Int) = s at *
        generalize ((clOf Y : Nat) : Int) = k at *
        generalize ((mpOf Y : Nat) : Int) = m at *
        generalize ((rnOf Y : Nat) : Int) = r at *
        go_wp2_with fail
        refine (HI.out _).mono ?_
        rintro e w7 ⟨rfl, h7⟩
        have B7 := Lib.hid (B6.out.trans (h7.mono B6.out.size))
        clear h7 B6
        go_wp2_with fail
        refine (HS.out _).mono ?_
        rintro e w8 ⟨rfl, h8⟩
        obtain ⟨u8, h8'⟩ := one_new h8
        have B8 := Lib.hid (B7.out.trans (h8'.mono B7.out.size))
        have l8 : w7.heap.size < w8.heap.size := (Array.getElem?_eq_some_iff.1 u8).1
        have n8 : w7.heap.size ≠ w8.heap.size := by omega
        have U8 := Lib.hid u8
        obtain ⟨⟨c0, c1, c2, c3⟩, _⟩ := blk4 u8
        clear h8 h8' u8 B7
        go_wp2_with fail
        refine (HC.out _).mono ?_
        rintro e w9 ⟨rfl, h9⟩
        have z8 := B8.out.size
        obtain ⟨⟨d0, d1, d2, d3⟩, _⟩ := blk4 ((h9.block w7.heap.size (by simp; omega)).trans (lit_alloc U8.out _))
        have B9 : Hid (Below w0.heap.size w0 w9) := (by repeat (first | exact Below.refl _ _ | refine Below.drew ?_ | refine Below.setCell ?_ (by first | omega | (simp; done) | (simp; omega) | (simp [*]; done)) _ | refine Below.alloc ?_ (by first | omega | (simp; done) | (simp; omega) | (simp [*]; done)) _ | refine Below.trans ?_ (Below.mono (B8.out) (by first | omega | (simp; done) | (simp; omega) | (simp [*]; done))) | refine Below.trans ?_ (Below.mono (h9) (by first | omega | (simp; done) | (simp; omega) | (simp [*]; done)))))
        clear h9 U8 c0 c1 c2 c3
        go_wp2_with fail
        refine (HK.out _).mono ?_
        rintro e w10 ⟨rfl, h10⟩
        have B10 := Lib.hid (B9.out.trans (h10.mono B9.out.size))
        clear h10
        go_wp2
        go_ret
        exact ⟨rfl, B10.out⟩
      · rw [decide_eq_false hy] at HI HS
        simp only [readN, if_neg hy] at HI HS
        clear hy
        go_wp2_with fail
        refine (HI.out _).mono ?_
        rintro e w7 ⟨rfl, h7⟩
        have B7 := Lib.hid (B6.out.trans (h7.mono B6.out.size))
        clear h7 B6
        go_wp2_with fail
        refine (HS.out _).mono ?_
        rintro e w8 ⟨rfl, h8⟩
        obtain ⟨u8, h8'⟩ := one_new h8
        have B8 := Lib.hid (B7.out.trans (h8'.mono B7.out.size))
        have l8 : w7.heap.size < w8.heap.size := (Array.getElem?_eq_some_iff.1 u8).1
        have n8 : w7.heap.size ≠ w8.heap.size := by omega
        have z8 := B8.out.size
        obtain ⟨⟨c0, c1, c2, c3⟩, _⟩ := blk4 u8
        clear h8 h8' u8 B7
        go_wp2
        go_ret
        exact ⟨rfl, (by repeat (first | exact Below.refl _ _ | refine Below.drew ?_ | refine Below.setCell ?_ (by first | omega | (simp; done) | (simp; omega) | (simp [*]; done)) _ | refine Below.alloc ?_ (by first | omega | (simp; done) | (simp; omega) | (simp [*]; done)) _ | refine Below.trans ?_ (Below.mono (B8.out) (by first | omega | (simp; done) | (simp; omega) | (simp [*]; done)))))⟩
    -- TO
  · have hn : (1048576 : Int) < (n : Int) := by omega
    clear H HF
    go_enter Try.func4, Try.ntmps4
    go_wp2_with fail
    refine (big_any A n c w0).mono ?_
    rintro e w1 ⟨rfl, rfl⟩
    go_wp2
    go_ret
    exact ⟨rfl, Below.refl _ _⟩

set_option maxRecDepth 100000 in
theorem fnCtl_lifted (os : Os) (started : os.Started) (H : Type) (enc : TypeId × Value → H) :
    ReturnsInHanded {} Try.checked os 4 .any (Rows.fnCtlSpec.pre6 enc Try.prog Try.f4 Rows.fnCtlRow.domain false) (Rows.fnCtlSpec.post enc Try.prog Try.f4 false true false false) := by
  refine returnsInHanded_of_change (C := Try.checked) own started (by kernel_rfl) Try.func4
    (ChangeSpec.witness6 (enc := enc) (C := Try.checked) false ⟨#[], #[.slice none 0 0], []⟩ 8 (by kernel_rfl) (by kernel_rfl) (by kernel_rfl) (by kernel_rfl)) ?_
  intro W base args ds gs before hval0 hW hcnd _
  have hval : ∀ (j : Nat) t v, Try.f4.params[j]? = some t → args[j]? = some v → Value.okWide Try.prog W .any base t v := hval0
  have hW' := hW
  obtain ⟨p, q, hA0, hV, rfl, hfz, hnd⟩ := hW
  have hA : DataW.TrodAll enc Try.prog W 0 (fun _ => true) true Try.f4.params.toList args.toList ds p := hA0
  rw [Try.params4] at hA hval
  obtain ⟨v0, vs0, d0, ds0, p0, q0, hargs, rfl, rfl, h0, r0⟩ := trodAll_cons hA
  obtain ⟨rfl, rfl, rfl⟩ := trodAll_nil r0
  obtain rfl : args = #[v0] := by cases args; simp_all
  obtain ⟨rfl, rfl⟩ := trodVars_none hV
  have k0 := h0
  have lt0 : ∀ x ∈ p0, x.block < W.heap.size := by obtain ⟨m, hm⟩ := k0; exact DataW.trod_lt m _ _ _ hm
  obtain ⟨A0, n0, c0, z0, rfl, m0, rd0, f0⟩ := open_bytes (hval 0 22 v0 rfl rfl) h0
  clear hA0 hval0
  refine (fnCtl_walk A0 n0 c0 z0 W rd0 m0 f0).mono fun e W' ⟨he, bel⟩ => ?_
  subst he
  exact ⟨_, rfl, _, _, _, [], _, [], hW', trodAll_mk1 (shut_bool Try.underlying4 _), (trodAll_cons_mk (Below.trod laidOut (by kernel_rfl) (of_decide_eq_true (by kernel_rfl)) k0 bel lt0) (trodAll_mk0)), rfl, bel.frame _, fun h => by cases h⟩

/-- The given statement: for every input the law returns true, and its arguments read as before. -/
theorem fnCtl_holds : Rows.FnCtlSaid :=
  OpenClaim.holds_of_wide 4 Try.f4 rfl rfl rfl rfl rfl rfl rfl ⟨rfl, rfl, rfl, rfl, rfl⟩ rfl rfl rfl rfl rfl (by kernel_rfl) Try.func4 (by kernel_rfl)
    (of_decide_eq_true (by kernel_rfl)) (by unfold Func.isWrapper; first | (rw [if_pos (by decide +kernel)]; kernel_rfl) | (rw [if_neg (by decide +kernel)]; exact ⟨rfl, rfl⟩))
    (fun os started H enc _ => fnCtl_lifted os started H enc)
#print axioms fnCtl_holds
end Go.Proofs.Ytaidlmhenmlknaa
