/- The contract of the program's Claim. -/
import Derived.Test.YtomcdfaomfkmjaaIRel
import Derived.Test.YtomcdfaomfkmjaaIOffs
namespace Go.Proofs.Ytomcdfaomfkmjaa
open Go.RowKit

theorem clO_off (X : Nat) (K n : Int) : clO X K n = offL (sizeV K) (clL X K n) := rfl

set_option maxRecDepth 100000 in
set_option maxHeartbeats 2000000 in
theorem claim_any (X : Nat) (K N : Int) (w : World) (hX : X < 4294967296) (hN0 : -9223372036854775808 ≤ N) (hN1 : N < 9223372036854775808) :
    Calls Try.prog 16 #[.int .u32 (X : Int), .int .i64 K, .int .i64 N] w fun e w' => ∃ A c, e = .returned (.tuple #[.int .u32 (clY X K N : Int), .slice A (clL X K N).length c, .bool (decide (ClaimOk X K N))]) ∧ OwnK 3 .i64 w' w.heap.size A (clL X K N).length c (clO X K N) ∧ Below w.heap.size w w' := by
  have HRm := Lib.hid (fun W => room_any X K W hX)
  by_cases hR : roomV X K = 0
  · have hc : ¬ ClaimOk X K N := fun h => h.1 hR
    obtain ⟨e1, e2, e3⟩ := cl_no hc
    rw [hR] at HRm
    rw [e1, e2, e3, decide_eq_false hc]
    clear hc e1 e2 e3 hR hX
    go_enter Try.func16, Try.ntmps16
    go_wp2_with fail
    refine (HRm.out _).mono ?_
    rintro e w1 ⟨rfl, hb⟩
    have HB := Lib.hid hb
    clear hb
    go_wp2
    go_ret3
    exact ⟨none, 0, rfl, World.ownsRow_nil _ _ _ _, HB.out⟩
  · have hR' : ¬ ((roomV X K : Nat) : Int) = 0 := by omega
    by_cases hn : N < 1
    · have hc : ¬ ClaimOk X K N := fun h => by have := h.2; omega
      obtain ⟨e1, e2, e3⟩ := cl_no hc
      rw [e1, e2, e3, decide_eq_false hc]
      generalize (roomV X K : Int) = v at *
      clear hc e1 e2 e3 hR hX
      go_enter Try.func16, Try.ntmps16
      go_wp2_with fail
      refine (HRm.out _).mono ?_
      rintro e w1 ⟨rfl, hb⟩
      have HB := Lib.hid hb
      clear hb
      go_wp2
      go_ret3
      exact ⟨none, 0, rfl, World.ownsRow_nil _ _ _ _, HB.out⟩
    · have hc : ClaimOk X K N := ⟨hR, by omega⟩
      obtain ⟨hP, e1, e2⟩ := cl_ok hc
      have hk := hP.2.1
      have hm := mp_lt X
      have ho := clOr_lt X K N
      have hsz := per_bounds hk
      have HPg := Lib.hid (fun W => pageFor_any X K W hX)
      rw [decide_eq_true hP, pg_yes hP, pg_yes hP, pg_yes hP] at HPg
      have HPP := Lib.hid (fun W => perPage_any K W)
      have HF := Lib.hid (fun W => freeLow_any (mpOf X) (perV K) N W (by omega) hN0 hN1)
      rw [free_form_page hk, ← e1] at HF
      have hor := u32_or_nat (mpOf X) (orL (clL X K N)) (by omega) (by omega)
      have HCP := Lib.hid (fun W => ctlPack_any 1 K (mpOf X ||| orL (clL X K N)) 0 W (Nat.lt_of_lt_of_le (Nat.or_lt_two_pow (n := 16) (by omega) (by omega)) (by decide)))
      have HCS := Lib.hid (fun W => classSize_any K W)
      have HOf := Lib.hid (fun W => offsetsOf_any (orL (clL X K N)) (sizeV K) W (by omega) hsz.2.2.2.2.1 hsz.2.2.2.2.2)
      rw [ones_clL] at HOf
      rw [e2, clO_off, decide_eq_true hc]
      clear hc e1 e2 hR hX hP hk hm ho hsz hN0 hN1
      generalize offL (sizeV K) (clL X K N) = ol at *
      generalize (clL X K N).length = ln at *
      generalize packA 1 K (mpOf X ||| orL (clL X K N)) 0 = y at *
      generalize decide (CtlGood 1 K (mpOf X ||| orL (clL X K N)) 0) = gd at *
      generalize ((mpOf X ||| orL (clL X K N) : Nat) : Int) = m2 at *
      generalize (orL (clL X K N) : Int) = bl at *
      generalize (mpOf X : Int) = m at *
      generalize sizeV K = z at *
      generalize perV K = p at *
      generalize (roomV X K : Int) = v at *
      have hv1 : (v == 0) = false := by simp [hR']
      have hn1 : decide (N < 1) = false := decide_eq_false hn
      go_enter Try.func16, Try.ntmps16
      go_wp2_with fail
      refine (HRm.out _).mono ?_
      rintro e w1 ⟨rfl, hb⟩
      have HB := Lib.hid hb
      clear hb
      go_wp2_with fail
      refine (HPg.out _).mono ?_
      rintro e w2 ⟨rfl, hb⟩
      have HB2 := Lib.hid (HB.out.trans (hb.mono HB.out.size))
      clear hb HB
      have b0 : Hid (Below (w2.heap.size + 1) (w2.alloc (.cells #[.int .i64 1, .int .i64 K, .int .u32 m, .int .i64 0] 42)) (w2.alloc (.cells #[.int .i64 1, .int .i64 K, .int .u32 m, .int .i64 0] 42)).drew) := (Below.refl _ _).drew
      obtain ⟨_, _, x2, _⟩ := new4 (Below.refl (w2.heap.size + 1) (w2.alloc (.cells #[.int .i64 1, .int .i64 K, .int .u32 m, .int .i64 0] 42)))
      obtain ⟨_, _, y2, _⟩ := new4 b0.out
      have LF : Hid (∀ W, Below (w2.heap.size + 1) (w2.alloc (.cells #[.int .i64 1, .int .i64 K, .int .u32 m, .int .i64 0] 42)) W → Calls Try.prog 51 #[.int .u32 m, .int .i64 p, .int .i64 N] W fun e w' => e = .returned (.int .u32 bl) ∧ Hid (Below (w2.heap.size + 1) (w2.alloc (.cells #[.int .i64 1, .int .i64 K, .int .u32 m, .int .i64 0] 42)) w') ∧ w'.cell? ⟨w2.heap.size, 2, none⟩ = some (.int .u32 m)) := fun W hW => (HF.out W).mono fun _ w' ⟨he, hb⟩ => by
        have hb2 := below_on hW (by simp) hb
        exact ⟨he, hb2, (new4 hb2).2.2.1⟩
      clear HF
      go_wp2_with fail
      go_region_held3 (fun W => W.cell? ⟨w2.heap.size, 2, none⟩ = some (.int .u32 m))
        (first | exact x2 | exact y2 | exact x6)
        (first | (go_at_call 52; refine (HPP.out _).mono ?_; rintro e w5 ⟨rfl, rfl⟩)
               | (go_at_call 51; refine (LF.out _ b0.out).mono ?_; rintro e w6 ⟨rfl, b6, x6⟩))
      have hl6 := b6.out.size
      simp only [World.size_alloc] at hl6
      have hl2 := HB2.out.size
      have u6 := (b6.out.block w2.heap.size (by omega)).trans (heap_alloc_new w2 _)
      obtain ⟨⟨c0, c1, c2, c3⟩, f0, f1, f2, f3⟩ := blk4 u6
      have HB6 : Hid (Below w.heap.size w w6) := (HB2.out.alloc HB2.out.size _).trans (b6.out.mono (by omega))
      clear x2 y2 x6 b0 b6 LF u6 HB2 HRm HPg HPP
      go_wp2_with fail
      refine (HCP.out _).mono ?_
      rintro e w7 ⟨rfl, hb7⟩
      have HB7 : Hid (Below w.heap.size w w7) := (by repeat (first | exact Below.refl _ _ | refine Below.drew ?_ | refine Below.setCell ?_ (by first | omega | (simp; done) | (simp; omega) | (simp [*]; done)) _ | refine Below.alloc ?_ (by first | omega | (simp; done) | (simp; omega) | (simp [*]; done)) _ | refine Below.trans ?_ (Below.mono (HB6.out) (by first | omega | (simp; done) | (simp; omega) | (simp [*]; done))) | refine Below.trans ?_ (Below.mono (hb7) (by first | omega | (simp; done) | (simp; omega) | (simp [*]; done)))))
      clear hb7 HCP HB6 c0 c1 c2 c3 f0 f1 f2 f3
      go_wp2_with fail
      refine (HCS.out _).mono ?_
      rintro e w8 ⟨rfl, rfl⟩
      go_wp2_with fail
      refine (HOf.out _).mono ?_
      rintro e w9 ⟨A, c, rfl, ho9, hb9⟩
      have HO9 := Lib.hid (ho9.from_ HB7.out.size)
      have HB9 : Hid (Below w.heap.size w w9) := HB7.out.trans (hb9.mono HB7.out.size)
      clear ho9 hb9 HB7
      go_wp2
      go_ret3
      exact ⟨A, c, rfl, HO9.out, HB9.out⟩

end Go.Proofs.Ytomcdfaomfkmjaa
