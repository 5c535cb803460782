/- FnClaim: claimed blocks were free, are allocated afterwards, and are as many as requested or as there was room for; releasing them one by one in any order restores the word. Proved for every code. No condition. -/
import Derived.Test.YtomcdfaomfkmjaaClaimL
import Derived.Test.YtomcdfaomfkmjaaSClaim
import Derived.Test.YtomcdfaomfkmjaaDrawClm
import Derived.Test.YtomcdfaomfkmjaaPickL
import Derived.Test.YtomcdfaomfkmjaaSameR
import Derived.Test.YtomcdfaomfkmjaaOpenY
namespace Go.Proofs.Ytomcdfaomfkmjaa
open Go.ChangeShapes Go.WideShapes Go.ChangeAt Go.RowKit
set_option linter.unusedVariables false

/-- The length of a slice. -/
def lenOf : Value → Nat
  | .slice _ n _ => n
  | _ => 0

/-- 'append(s, x...)' onto a slice of ints that the call owns, as one step of a region that draws its order. -/
theorem step_cat {w : World} {ops : Array Oper} {o : Oper} {a : Act} {K : Act → World → Prop} {Q : Exit → Act → World → Prop} {E : Prop} (hgd : o.guard = none) (s x : Operand)
    (ho : o.op = .call { callee := .builtin .append, args := #[s, x], argTypes := #[27, 27] })
    (b0 n c : Nat) (A : Option Addr) (zs ys : List Int) (g off m cx : Nat) (hs : a.eval s = .slice A n c) (hx : a.eval x = .slice (some ⟨g, off, none⟩) m cx)
    (hO : OwnK 3 .i64 w b0 A n c zs) (hy : ys.length = m) (hc : ∀ i, i < m → w.cell? ⟨g, off + i, none⟩ = some (.int .i64 (ys[i]?.getD 0))) (hn : n + m ≤ 1000000) (hb : b0 ≤ w.heap.size)
    (h : ∀ A' c' w', Hid (OwnK 3 .i64 w' b0 A' (n + m) c' (zs ++ ys)) → Hid (Below b0 w w') → K (a.put o.dst (.slice A' (n + m) c')) w') :
    if Region.wanted o (yielded ops a.tmps) = true then Oper.wp Try.prog o a w K Q else E := by
  have hw : Region.wanted o (yielded ops a.tmps) = true := by simp [Region.wanted, hgd]
  rw [if_pos hw]
  obtain ⟨i0, hi, hz0, hz1, hz2⟩ := info_parts info_int
  obtain ⟨v', w', hr, h2, h3, _, _⟩ := run_append_own_at (P := Try.prog) w b0 27 o.type 3 i0 (.int .i64 0) 1 8 Try.underlying27 hi hz0 hz1 hz2 rfl (by omega) (.slice A n c) n _ hO ⟨g, off, none⟩ m cx (ys.map (Value.int .i64)) (by simp [hy]) (fun j u hj => by
    obtain ⟨hj1, hj2⟩ := List.getElem?_eq_some_iff.1 hj
    simp only [List.length_map] at hj1
    have := hc j (by omega)
    have ea : (⟨g, off, none⟩ : Addr).add j = ⟨g, off + j, none⟩ := by unfold Addr.add; split <;> simp_all
    rw [ea, this, ← hj2]
    simp [hj1]) (fun u hu => by
    obtain ⟨y, _, rfl⟩ := List.mem_map.1 hu
    simp [Value.oneCell']) (by unfold maxLen; omega) (by omega) hb
  have h4 : w'.ownsRow b0 3 1 v' (n + m) ((zs ++ ys).map (Value.int .i64)) := by simpa using h2
  obtain ⟨A', c', rfl, h5⟩ := OwnK.shape h4
  unfold Oper.wp
  simp [execOp, ho, resolve, invoke, builtin, hs, hx, hr, Result.andThen, Oper.upon]
  exact h A' c' w' h5 ((Below.refl _ _).grown h3 hb (fun k hk => (World.ownsRow.lt hO k hk).1))

theorem offL_at {z : Int} {l : List Nat} {k : Nat} (h : k < l.length) : (offL z l)[k]?.getD 0 = (l[k] : Int) * z := by simp [offL, h]
theorem offL_erase (z : Int) (l : List Nat) (k : Nat) : (offL z l).take k ++ (offL z l).drop (k + 1) = offL z (l.eraseIdx k) := by
  rw [List.eraseIdx_eq_take_drop_succ]
  simp [offL]
theorem block_range {K : Int} (hk : IsClass K) {b : Nat} (hb : b < (perV K).toNat) : 0 ≤ (b : Int) * sizeV K ∧ (b : Int) * sizeV K < 16 := ⟨(blk_arith hk hb).2.2.1, (blk_arith hk hb).2.2.2.2.1⟩

set_option maxRecDepth 100000 in
set_option maxHeartbeats 20000000 in
theorem fnClaim_walk (A : Option Addr) (n c : Nat) (bs : List Int) (w0 : World) (h : RdK .u8 w0 w0.heap.size A n bs) (hm0 : n ≤ maxLen) (hf : ∀ z ∈ bs, 0 ≤ z ∧ z < 256) :
    Calls Try.prog 3 #[.slice A n c] w0 fun e w' => e = .returned (.bool true) ∧ Below w0.heap.size w0 w' := by
  have H := Lib.hid h
  have HF := Lib.hid hf
  clear h hf
  by_cases hn' : n ≤ 1048576
  · have hn : ¬ (1048576 : Int) < (n : Int) := by omega
    go_enter Try.func3, Try.ntmps3
    go_wp2_with fail
    refine (big_any A n c w0).mono ?_
    rintro e w1 ⟨rfl, rfl⟩
    go_wp2_with fail
    refine (drawClaim A n c bs w0 H.out HF.out hn').mono ?_
    rintro e w1 ⟨X, K, N, rfl, HX, _, HWN, B1⟩
    have HN' := Lib.hid hn'
    clear hn hn' hm0
    obtain ⟨n0, n1⟩ := int_of_wf HWN.out
    have HS := Lib.hid (fun W => sClaim_any X K N W HX.out n0 n1)
    have HI := Lib.hid (fun W => claim_any X K N W HX.out n0 n1)
    clear n0 n1 HWN
    by_cases hc : ClaimOk X K N
    · obtain ⟨hP, e1, e2⟩ := cl_ok hc
      obtain ⟨k1, k2, hPy, hmy⟩ := claim_law hc
      have hk := hP.2.1
      have hsz := per_bounds hk
      obtain ⟨hlen, hl1, hl16⟩ := clL_len hc
      have hyl : clY X K N < 4294967296 := by rw [e2]; exact packA_lt _ _ _ _
      have HRX := Lib.hid (fun W => room_any X K W HX.out)
      have HRY := Lib.hid (fun W => room_any (clY X K N) K W hyl)
      have HTX := Lib.hid (fun W => sTakenWords_any X W HX.out)
      have HTY := Lib.hid (fun W => takenWords_any (clY X K N) W hyl)
      have HCS := Lib.hid (fun W => classSize_any K W)
      have HAX : Hid (∀ b ∈ clL X K N, ∀ W, Calls Try.prog 22 #[.int .u32 (X : Int), .int .i64 ((b : Int) * sizeV K)] W fun e w' => e = .returned (.tuple #[.int .i64 0, .int .i64 0, .bool false]) ∧ Below W.heap.size W w') := fun b hb W => by
        have := blockAt_any X ((b : Int) * sizeV K) W HX.out
        obtain ⟨q1, q2, q3⟩ := at_no (claim_block hb).1
        rwa [q1, q2, q3] at this
      have HAY : Hid (∀ b ∈ clL X K N, ∀ W, Calls Try.prog 22 #[.int .u32 (clY X K N : Int), .int .i64 ((b : Int) * sizeV K + sizeV K - 1)] W fun e w' => e = .returned (.tuple #[.int .i64 ((b : Int) * sizeV K), .int .i64 (sizeV K), .bool true]) ∧ Below W.heap.size W w') := fun b hb W => by
        have := blockAt_any (clY X K N) ((b : Int) * sizeV K + sizeV K - 1) W hyl
        obtain ⟨_, q1, q2, q3⟩ := claim_block hb
        rwa [q2, q3, decide_eq_true q1] at this
      have HBd : Hid (∀ b ∈ clL X K N, 0 ≤ (b : Int) * sizeV K ∧ (b : Int) * sizeV K < 16) := fun b hb => block_range hk (clL_mem hb).2.1
      have HL : Hid ((clL X K N).Nodup ∧ (clL X K N).length ≤ 16 ∧ ∀ b ∈ clL X K N, b < (perV K).toNat ∧ (mpOf X).testBit b = false) := ⟨clL_nodup X K N, hl16, fun b hb => (clL_mem hb).2⟩
      have HY2 : Hid ((clY X K N : Int) = ((packA 1 K (mpOf X ||| orL (clL X K N)) 0 : Nat) : Int)) := by
        show _ = _
        rw [e2]
      have HXb := Lib.hid (pack_back hP)
      have HRS : Hid (∀ (R : List Nat) (i : Nat) (hi : i < R.length), (R.Nodup ∧ R.length ≤ 16 ∧ ∀ b ∈ R, b < (perV K).toNat ∧ (mpOf X).testBit b = false) → ∀ W, Calls Try.prog 24 #[.int .u32 ((packA 1 K (mpOf X ||| orL R) 0 : Nat) : Int), .int .i64 ((R[i] : Int) * sizeV K)] W fun e w' => e = .returned (.tuple #[.int .u32 ((packA 1 K (mpOf X ||| orL (R.eraseIdx i)) 0 : Nat) : Int), .int .i64 (sizeV K), .bool true]) ∧ Below W.heap.size W w') := fun R i hi hR W => by
        have := release_any (packA 1 K (mpOf X ||| orL R) 0) ((R[i] : Int) * sizeV K) W (packA_lt _ _ _ _)
        obtain ⟨q1, q2, q3⟩ := rel_step hk (page_map_lt hP) hR.1 hR.2.2 hi
        rwa [q2, q3, decide_eq_true q1] at this
      have z1 := hsz.2.2.2.2.1
      have z2 := hsz.2.2.2.2.2
      have hm1 := mul_small (l := (clL X K N).length) (s := sizeV K) (by omega) z1 z2
      have hm2 : IntKind.i64.wrap (takenV X + ((clL X K N).length : Int) * sizeV K) = takenV (clY X K N) := by
        rw [← k2]
        refine IntWalk.i64_in _ ?_
        rw [taken_page hPy]
        have a0 := ones_le32 (mpOf (clY X K N))
        have a1 : (0 : Int) ≤ ((onesTo (mpOf (clY X K N)) 32).length : Int) * sizeV K := Int.mul_nonneg (by omega) (by omega)
        have a2 : ((onesTo (mpOf (clY X K N)) 32).length : Int) * sizeV K ≤ 32 * sizeV K := Int.mul_le_mul_of_nonneg_right (by omega) (by omega)
        omega
      have hrv := room_le X K
      have hrr : IntKind.i64.wrap ((roomV X K : Int) - ((clL X K N).length : Int)) = (roomV (clY X K N) K : Int) := by
        rw [show (roomV X K : Int) - ((clL X K N).length : Int) = (roomV (clY X K N) K : Int) by omega]
        exact IntWalk.i64_in _ (by omega)
      rw [decide_eq_true hc] at HS HI
      have hzs : clO X K N = offL (sizeV K) (clL X K N) := rfl
      rw [hzs] at HS HI
      have hmn : (N = ((clL X K N).length : Int) ∧ N ≤ (roomV X K : Int)) ∨ (((clL X K N).length : Int) = (roomV X K : Int) ∧ ¬ N ≤ ((clL X K N).length : Int)) := by omega
      have k1' := k1
      clear hc hP e1 e2 k1 k2 hPy hmy hk hsz hlen hyl HX hzs
      generalize (clY X K N : Int) = y at *
      generalize takenV X = tX at *
      generalize takenV (clY X K N) = tY at *
      generalize roomV X K = rv at *
      generalize roomV (clY X K N) K = rvY at *
      generalize clL X K N = L at *
      generalize mpOf X = M at *
      generalize perV K = per at *
      generalize sizeV K = z at *
      obtain ⟨ln, hln⟩ : ∃ ln, L.length = ln := ⟨_, rfl⟩
      have HLn := Lib.hid hln
      rw [hln] at HS HI hl1 hl16 hm1 hm2 hrr hmn k1'
      clear hln
      go_wp2_with fail
      refine (HS.out _).mono ?_
      rintro e w2 ⟨A0, c0, rfl, ho0, hb2⟩
      have O0 := Lib.hid (ho0.from_ B1.out.size)
      have B2 := Lib.hid (B1.out.trans (hb2.mono B1.out.size))
      clear ho0 hb2 B1
      go_wp2_with fail
      refine (HI.out _).mono ?_
      rintro e w3 ⟨A1, c1, rfl, ho1, hb3⟩
      have O1 := Lib.hid (ho1.from_ B2.out.size)
      have O0b := Lib.hid (O0.out.below hb3)
      have B3 := Lib.hid (B2.out.trans (hb3.mono B2.out.size))
      clear ho1 hb3 B2 O0
      have HE := Lib.hid (same_any A1 A0 ln ln c1 c0 _ _ (offL z L) (offL z L) w3 O1.out.rd O0b.out.rd (by unfold maxLen; omega) (by unfold maxLen; omega))
      rw [decide_eq_true rfl] at HE
      go_wp2_with fail
      refine HE.out.mono ?_
      rintro e w4 ⟨rfl, q4, rfl⟩
      have O4 : Hid (OwnK 3 .i64 (w3.drewN q4) w0.heap.size A1 ln c1 (offL z L)) := O1.out
      have B4 : Hid (Below w0.heap.size w0 (w3.drewN q4)) := ⟨B3.out.os, B3.out.tape, B3.out.output, B3.out.size, B3.out.block⟩
      clear HE O1 O0b B3 HS HI
      generalize w3.drewN q4 = w4 at *
      go_wp2_with fail
      refine (HRX.out _).mono ?_
      rintro e w5 ⟨rfl, hb5⟩
      have B5 := Lib.hid (B4.out.trans (hb5.mono B4.out.size))
      have O5 := Lib.hid (O4.out.below hb5)
      clear hb5 B4 O4
      rcases hmn with ⟨hN, hle⟩ | ⟨hrl, hle⟩
      · subst hN
        clear k1'
        go_wp2_with fail
        refine (HRY.out _).mono ?_
        rintro e w6 ⟨rfl, hb6⟩
        have B6 := Lib.hid (B5.out.trans (hb6.mono B5.out.size))
        have O6 := Lib.hid (O5.out.below hb6)
        clear hb6 B5 O5
        go_wp2_with fail
        refine (HTY.out _).mono ?_
        rintro e w7 ⟨rfl, hb7⟩
        have B7 := Lib.hid (B6.out.trans (hb7.mono B6.out.size))
        have O7 := Lib.hid (O6.out.below hb7)
        clear hb7 B6 O6
        go_wp2_with fail
        refine (HTX.out _).mono ?_
        rintro e w8 ⟨rfl, hb8⟩
        have B8 := Lib.hid (B7.out.trans (hb8.mono B7.out.size))
        have O8 := Lib.hid (O7.out.below hb8)
        clear hb8 B7 O7
        go_wp2_with fail
        refine (HCS.out _).mono ?_
        rintro e w8' ⟨rfl, rfl⟩
        clear HRX HRY HTX HTY
        obtain ⟨ga, rfl, hga0, hga⟩ := O8.out.form (by omega)
        go_wp2
        clear hm1 hm2 hrr
        go_loopw [14] (fun i wr => ∃ j : Nat, j ≤ ln ∧ i = .int .i64 j ∧ Hid (Below w8.heap.size w8 wr)) (fun i _ => ln - (intOf i).toNat)
        case atStart => exact ⟨0, by omega, rfl, Below.refl _ _⟩
        case round =>
          obtain ⟨j, hj, rfl, BR⟩ := hrel
          by_cases hlt : j < ln
          · have hjL : j < L.length := by rw [HLn.out]; exact hlt
            have cj : wr.cell? ⟨ga, j, none⟩ = some (.int .i64 ((L[j] : Int) * z)) := by
              have := (BR.out.cell (p := ⟨ga, j, none⟩) hga).trans (O8.out.cell rfl hlt)
              rwa [offL_at hjL] at this
            have HX1 := Lib.hid (HAX.out L[j] (List.getElem_mem hjL))
            have HY1 := Lib.hid (HAY.out L[j] (List.getElem_mem hjL))
            obtain ⟨q0, q1⟩ := HBd.out L[j] (List.getElem_mem hjL)
            generalize ((L[j] : Nat) : Int) * z = q at *
            have qw1 : IntKind.i64.wrap (q + z) = q + z := IntWalk.i64_in _ (by omega)
            have qw2 : IntKind.i64.wrap (q + z - 1) = q + z - 1 := IntWalk.i64_in _ (by omega)
            go_wp2_with fail
            refine (HX1.out _).mono ?_
            rintro e w9 ⟨rfl, hb9⟩
            have B9 := Lib.hid (BR.out.trans (hb9.mono BR.out.size))
            have cj9 := (hb9.cell (p := ⟨ga, j, none⟩) (by show ga < _; have := BR.out.size; omega)).trans cj
            have hga9 : ga < w9.heap.size := by have := B9.out.size; omega
            have cj9' : w9.drew.cell? ⟨ga, j, none⟩ = some (.int .i64 q) := cj9
            have B9' : Hid (Below w8.heap.size w8 w9.drew) := B9.out.drew
            have hga9' : ga < w9.drew.heap.size := hga9
            clear hb9 HX1 cj BR B9 cj9 hga9
            go_wp2_with fail
            refine wp_region_noPanic ?_
            refine wp_region_held_drew (S := fun _ => True) (by kernel_rfl) trivial (fun hHeld => ?_)
            change wpAnyH _ _ _ _ _ _ _ _ (World.drew _)
            generalize w9.drew = wd at *
            refine wpAnyH_take (i := 0) (v := ?v1) rfl (by kernel_rfl) (by kernel_rfl) (by kernel_rfl) (fun _ _ _ h => h) (Or.inl ⟨by rfl, ?hy1⟩) (by assumption) ?rest1
            case hy1 =>
              intro wz hSw
              clear hSw
              go_simp <;> with_reducible rfl
            try simp only [List.getElem_toArray, List.getElem_cons_zero, List.getElem_cons_succ, Act.put, List.setIfInBounds_toArray, List.set_cons_zero, List.set_cons_succ]
            refine wpAnyH_take (i := 1) (v := ?v2) rfl (by kernel_rfl) (by kernel_rfl) (by kernel_rfl) (fun _ _ _ h => h) (Or.inl ⟨by rfl, ?hy2⟩) (by assumption) ?rest2
            case hy2 =>
              intro wz hSw
              clear hSw
              go_simp <;> with_reducible rfl
            try simp only [List.getElem_toArray, List.getElem_cons_zero, List.getElem_cons_succ, Act.put, List.setIfInBounds_toArray, List.set_cons_zero, List.set_cons_succ]
            refine wpAnyH_take (i := 2) (v := ?v3) rfl (by kernel_rfl) (by kernel_rfl) (by kernel_rfl) (fun _ _ _ h => h) (Or.inl ⟨by rfl, ?hy3⟩) (by assumption) ?rest3
            case hy3 =>
              intro wz hSw
              clear hSw
              go_simp <;> with_reducible rfl
            try simp only [List.getElem_toArray, List.getElem_cons_zero, List.getElem_cons_succ, Act.put, List.setIfInBounds_toArray, List.set_cons_zero, List.set_cons_succ]
            refine wpAnyH_take (i := 3) (v := ?v4) rfl (by kernel_rfl) (by kernel_rfl) (by kernel_rfl) (fun _ _ _ h => h) (Or.inl ⟨by rfl, ?hy4⟩) (by assumption) ?rest4
            case hy4 =>
              intro wz hSw
              clear hSw
              go_simp <;> with_reducible rfl
            try simp only [List.getElem_toArray, List.getElem_cons_zero, List.getElem_cons_succ, Act.put, List.setIfInBounds_toArray, List.set_cons_zero, List.set_cons_succ]
            refine wpAnyH_take (i := 5) (v := ?v5) rfl (by kernel_rfl) (by kernel_rfl) (by kernel_rfl) (fun _ _ _ h => h) (Or.inl ⟨by rfl, ?hy5⟩) (by assumption) ?rest5
            case hy5 =>
              intro wz hSw
              clear hSw
              go_simp <;> with_reducible rfl
            try simp only [List.getElem_toArray, List.getElem_cons_zero, List.getElem_cons_succ, Act.put, List.setIfInBounds_toArray, List.set_cons_zero, List.set_cons_succ]
            refine wpAnyH_ready (rs := [4, 6]) (by kernel_rfl) (by simp) (AllReadyH.cons rfl (fun K hK => ?_) (AllReadyH.cons rfl (fun K hK => ?_) AllReadyH.nil))
            · go_simp
              clear hHeld
              refine hK.out _ _ trivial (fun hHeld => ?_)
              clear hK K
              try simp only [List.getElem_toArray, List.getElem_cons_zero, List.getElem_cons_succ, Act.put, List.setIfInBounds_toArray, List.set_cons_zero, List.set_cons_succ]
              refine wpAnyH_ready (rs := [6]) (by kernel_rfl) (by simp) (AllReadyH.cons rfl (fun K hK => ?_) AllReadyH.nil)
              go_simp
              refine (HCS.out _).mono ?_
              rintro e wc ⟨rfl, rfl⟩
              go_wp2_with fail
              clear hHeld
              refine hK.out _ _ trivial (fun hHeld => ?_)
              clear hK K
              try simp only [List.getElem_toArray, List.getElem_cons_zero, List.getElem_cons_succ, Act.put, List.setIfInBounds_toArray, List.set_cons_zero, List.set_cons_succ]
              refine wpAnyH_take (i := 7) (v := ?v6) rfl (by kernel_rfl) (by kernel_rfl) (by kernel_rfl) (fun _ _ _ h => h) (Or.inl ⟨by rfl, ?hy6⟩) (by assumption) ?rest6
              case hy6 =>
                intro wz hSw
                clear hSw
                go_simp <;> with_reducible rfl
              try simp only [List.getElem_toArray, List.getElem_cons_zero, List.getElem_cons_succ, Act.put, List.setIfInBounds_toArray, List.set_cons_zero, List.set_cons_succ]
              refine wpAnyH_take (i := 8) (v := ?v7) rfl (by kernel_rfl) (by kernel_rfl) (by kernel_rfl) (fun _ _ _ h => h) (Or.inl ⟨by rfl, ?hy7⟩) (by assumption) ?rest7
              case hy7 =>
                intro wz hSw
                clear hSw
                go_simp <;> with_reducible rfl
              try simp only [List.getElem_toArray, List.getElem_cons_zero, List.getElem_cons_succ, Act.put, List.setIfInBounds_toArray, List.set_cons_zero, List.set_cons_succ]
              refine wpAnyH_ready (rs := [9]) (by kernel_rfl) (by simp) (AllReadyH.cons rfl (fun K hK => ?_) AllReadyH.nil)
              go_simp
              refine (HY1.out _).mono ?_
              rintro e w10 ⟨rfl, hb10⟩
              have B10 := Lib.hid (below_on B9'.out (Nat.le_refl _) hb10)
              have cj10 := (hb10.cell (p := ⟨ga, j, none⟩) hga9').trans cj9'
              clear hb10 B9' cj9'
              go_wp2_with fail
              clear hHeld
              refine hK.out _ _ trivial (fun hHeld => ?_)
              clear hK K
              try simp only [List.getElem_toArray, List.getElem_cons_zero, List.getElem_cons_succ, Act.put, List.setIfInBounds_toArray, List.set_cons_zero, List.set_cons_succ]
              refine wpAnyH_take (i := 10) (v := ?v8) rfl (by kernel_rfl) (by kernel_rfl) (by kernel_rfl) (fun _ _ _ h => h) (Or.inl ⟨by rfl, ?hy8⟩) (by assumption) ?rest8
              case hy8 =>
                intro wz hSw
                clear hSw
                go_simp <;> with_reducible rfl
              try simp only [List.getElem_toArray, List.getElem_cons_zero, List.getElem_cons_succ, Act.put, List.setIfInBounds_toArray, List.set_cons_zero, List.set_cons_succ]
              refine wpAnyH_take (i := 11) (v := ?v9) rfl (by kernel_rfl) (by kernel_rfl) (by kernel_rfl) (fun _ _ _ h => h) (Or.inl ⟨by rfl, ?hy9⟩) (by assumption) ?rest9
              case hy9 =>
                intro wz hSw
                clear hSw
                go_simp <;> with_reducible rfl
              try simp only [List.getElem_toArray, List.getElem_cons_zero, List.getElem_cons_succ, Act.put, List.setIfInBounds_toArray, List.set_cons_zero, List.set_cons_succ]
              refine wpAnyH_take (i := 12) (v := ?v10) rfl (by kernel_rfl) (by kernel_rfl) (by kernel_rfl) (fun _ _ _ h => h) (Or.inl ⟨by rfl, ?hy10⟩) (by assumption) ?rest10
              case hy10 =>
                intro wz hSw
                clear hSw
                go_simp <;> with_reducible rfl
              try simp only [List.getElem_toArray, List.getElem_cons_zero, List.getElem_cons_succ, Act.put, List.setIfInBounds_toArray, List.set_cons_zero, List.set_cons_succ]
              refine wpAnyH_take (i := 13) (v := ?v11) rfl (by kernel_rfl) (by kernel_rfl) (by kernel_rfl) (fun _ _ _ h => h) (Or.inl ⟨by rfl, ?hy11⟩) (by assumption) ?rest11
              case hy11 =>
                intro wz hSw
                clear hSw
                go_simp <;> with_reducible rfl
              try simp only [List.getElem_toArray, List.getElem_cons_zero, List.getElem_cons_succ, Act.put, List.setIfInBounds_toArray, List.set_cons_zero, List.set_cons_succ]
              refine wpAnyH_take (i := 14) (v := ?v12) rfl (by kernel_rfl) (by kernel_rfl) (by kernel_rfl) (fun _ _ _ h => h) (Or.inl ⟨by rfl, ?hy12⟩) (by assumption) ?rest12
              case hy12 =>
                intro wz hSw
                clear hSw
                go_simp <;> with_reducible rfl
              try simp only [List.getElem_toArray, List.getElem_cons_zero, List.getElem_cons_succ, Act.put, List.setIfInBounds_toArray, List.set_cons_zero, List.set_cons_succ]
              refine wpAnyH_take (i := 15) (v := ?v13) rfl (by kernel_rfl) (by kernel_rfl) (by kernel_rfl) (fun _ _ _ h => h) (Or.inl ⟨by rfl, ?hy13⟩) (by assumption) ?rest13
              case hy13 =>
                intro wz hSw
                clear hSw
                go_simp <;> with_reducible rfl
              try simp only [List.getElem_toArray, List.getElem_cons_zero, List.getElem_cons_succ, Act.put, List.setIfInBounds_toArray, List.set_cons_zero, List.set_cons_succ]
              refine wpAnyH_take (i := 16) (v := ?v14) rfl (by kernel_rfl) (by kernel_rfl) (by kernel_rfl) (fun _ _ _ h => h) (Or.inl ⟨by rfl, ?hy14⟩) (by assumption) ?rest14
              case hy14 =>
                intro wz hSw
                clear hSw
                go_simp <;> with_reducible rfl
              try simp only [List.getElem_toArray, List.getElem_cons_zero, List.getElem_cons_succ, Act.put, List.setIfInBounds_toArray, List.set_cons_zero, List.set_cons_succ]
              refine wpAnyH_done (by kernel_rfl) ?_ _
              refine NoPanic.normal ?_
              go_wp2_with fail
              refine (HCS.out _).mono ?_
              rintro e w8' ⟨rfl, rfl⟩
              go_wp2
              go_roundw
              case rel => exact ⟨j + 1, by omega, by go_num, B10⟩
              case measure => simp [intOf]; omega
            · go_simp
              refine (HCS.out _).mono ?_
              rintro e wc ⟨rfl, rfl⟩
              go_wp2_with fail
              clear hHeld
              refine hK.out _ _ trivial (fun hHeld => ?_)
              clear hK K
              try simp only [List.getElem_toArray, List.getElem_cons_zero, List.getElem_cons_succ, Act.put, List.setIfInBounds_toArray, List.set_cons_zero, List.set_cons_succ]
              refine wpAnyH_ready (rs := [4]) (by kernel_rfl) (by simp) (AllReadyH.cons rfl (fun K hK => ?_) AllReadyH.nil)
              go_simp
              clear hHeld
              refine hK.out _ _ trivial (fun hHeld => ?_)
              clear hK K
              try simp only [List.getElem_toArray, List.getElem_cons_zero, List.getElem_cons_succ, Act.put, List.setIfInBounds_toArray, List.set_cons_zero, List.set_cons_succ]
              refine wpAnyH_take (i := 7) (v := ?v15) rfl (by kernel_rfl) (by kernel_rfl) (by kernel_rfl) (fun _ _ _ h => h) (Or.inl ⟨by rfl, ?hy15⟩) (by assumption) ?rest15
              case hy15 =>
                intro wz hSw
                clear hSw
                go_simp <;> with_reducible rfl
              try simp only [List.getElem_toArray, List.getElem_cons_zero, List.getElem_cons_succ, Act.put, List.setIfInBounds_toArray, List.set_cons_zero, List.set_cons_succ]
              refine wpAnyH_take (i := 8) (v := ?v16) rfl (by kernel_rfl) (by kernel_rfl) (by kernel_rfl) (fun _ _ _ h => h) (Or.inl ⟨by rfl, ?hy16⟩) (by assumption) ?rest16
              case hy16 =>
                intro wz hSw
                clear hSw
                go_simp <;> with_reducible rfl
              try simp only [List.getElem_toArray, List.getElem_cons_zero, List.getElem_cons_succ, Act.put, List.setIfInBounds_toArray, List.set_cons_zero, List.set_cons_succ]
              refine wpAnyH_ready (rs := [9]) (by kernel_rfl) (by simp) (AllReadyH.cons rfl (fun K hK => ?_) AllReadyH.nil)
              go_simp
              refine (HY1.out _).mono ?_
              rintro e w10 ⟨rfl, hb10⟩
              have B10 := Lib.hid (below_on B9'.out (Nat.le_refl _) hb10)
              have cj10 := (hb10.cell (p := ⟨ga, j, none⟩) hga9').trans cj9'
              clear hb10 B9' cj9'
              go_wp2_with fail
              clear hHeld
              refine hK.out _ _ trivial (fun hHeld => ?_)
              clear hK K
              try simp only [List.getElem_toArray, List.getElem_cons_zero, List.getElem_cons_succ, Act.put, List.setIfInBounds_toArray, List.set_cons_zero, List.set_cons_succ]
              refine wpAnyH_take (i := 10) (v := ?v17) rfl (by kernel_rfl) (by kernel_rfl) (by kernel_rfl) (fun _ _ _ h => h) (Or.inl ⟨by rfl, ?hy17⟩) (by assumption) ?rest17
              case hy17 =>
                intro wz hSw
                clear hSw
                go_simp <;> with_reducible rfl
              try simp only [List.getElem_toArray, List.getElem_cons_zero, List.getElem_cons_succ, Act.put, List.setIfInBounds_toArray, List.set_cons_zero, List.set_cons_succ]
              refine wpAnyH_take (i := 11) (v := ?v18) rfl (by kernel_rfl) (by kernel_rfl) (by kernel_rfl) (fun _ _ _ h => h) (Or.inl ⟨by rfl, ?hy18⟩) (by assumption) ?rest18
              case hy18 =>
                intro wz hSw
                clear hSw
                go_simp <;> with_reducible rfl
              try simp only [List.getElem_toArray, List.getElem_cons_zero, List.getElem_cons_succ, Act.put, List.setIfInBounds_toArray, List.set_cons_zero, List.set_cons_succ]
              refine wpAnyH_take (i := 12) (v := ?v19) rfl (by kernel_rfl) (by kernel_rfl) (by kernel_rfl) (fun _ _ _ h => h) (Or.inl ⟨by rfl, ?hy19⟩) (by assumption) ?rest19
              case hy19 =>
                intro wz hSw
                clear hSw
                go_simp <;> with_reducible rfl
              try simp only [List.getElem_toArray, List.getElem_cons_zero, List.getElem_cons_succ, Act.put, List.setIfInBounds_toArray, List.set_cons_zero, List.set_cons_succ]
              refine wpAnyH_take (i := 13) (v := ?v20) rfl (by kernel_rfl) (by kernel_rfl) (by kernel_rfl) (fun _ _ _ h => h) (Or.inl ⟨by rfl, ?hy20⟩) (by assumption) ?rest20
              case hy20 =>
                intro wz hSw
                clear hSw
                go_simp <;> with_reducible rfl
              try simp only [List.getElem_toArray, List.getElem_cons_zero, List.getElem_cons_succ, Act.put, List.setIfInBounds_toArray, List.set_cons_zero, List.set_cons_succ]
              refine wpAnyH_take (i := 14) (v := ?v21) rfl (by kernel_rfl) (by kernel_rfl) (by kernel_rfl) (fun _ _ _ h => h) (Or.inl ⟨by rfl, ?hy21⟩) (by assumption) ?rest21
              case hy21 =>
                intro wz hSw
                clear hSw
                go_simp <;> with_reducible rfl
              try simp only [List.getElem_toArray, List.getElem_cons_zero, List.getElem_cons_succ, Act.put, List.setIfInBounds_toArray, List.set_cons_zero, List.set_cons_succ]
              refine wpAnyH_take (i := 15) (v := ?v22) rfl (by kernel_rfl) (by kernel_rfl) (by kernel_rfl) (fun _ _ _ h => h) (Or.inl ⟨by rfl, ?hy22⟩) (by assumption) ?rest22
              case hy22 =>
                intro wz hSw
                clear hSw
                go_simp <;> with_reducible rfl
              try simp only [List.getElem_toArray, List.getElem_cons_zero, List.getElem_cons_succ, Act.put, List.setIfInBounds_toArray, List.set_cons_zero, List.set_cons_succ]
              refine wpAnyH_take (i := 16) (v := ?v23) rfl (by kernel_rfl) (by kernel_rfl) (by kernel_rfl) (fun _ _ _ h => h) (Or.inl ⟨by rfl, ?hy23⟩) (by assumption) ?rest23
              case hy23 =>
                intro wz hSw
                clear hSw
                go_simp <;> with_reducible rfl
              try simp only [List.getElem_toArray, List.getElem_cons_zero, List.getElem_cons_succ, Act.put, List.setIfInBounds_toArray, List.set_cons_zero, List.set_cons_succ]
              refine wpAnyH_done (by kernel_rfl) ?_ _
              refine NoPanic.normal ?_
              go_wp2_with fail
              refine (HCS.out _).mono ?_
              rintro e w8' ⟨rfl, rfl⟩
              go_wp2
              go_roundw
              case rel => exact ⟨j + 1, by omega, by go_num, B10⟩
              case measure => simp [intOf]; omega
          · obtain rfl : j = ln := by omega
            have O9 := Lib.hid (O8.out.below BR.out)
            have B9 := Lib.hid (B8.out.trans (BR.out.mono B8.out.size))
            clear BR O8 B8 HAX HAY HBd hle hlt hj
            go_wp2
            go_loopw [10, 13] (fun v zw wr => ∃ (R : List Nat) (nr : Nat) (A : Option Addr) (c : Nat), v = .slice A nr c ∧ Hid (R.length = nr) ∧ zw = .int .u32 ((packA 1 K (M ||| orL R) 0 : Nat) : Int) ∧ Hid (R.Nodup ∧ R.length ≤ 16 ∧ ∀ b ∈ R, b < per.toNat ∧ M.testBit b = false) ∧ Hid (OwnK 3 .i64 wr w0.heap.size A nr c (offL z R)) ∧ Hid (Below w0.heap.size w0 wr)) (fun v _ _ => lenOf v)
            case atStart => exact ⟨L, j, _, _, rfl, HLn, by rw [HY2.out], HL, O9, B9⟩
            case round =>
              obtain ⟨R, nr, Ar, cr, rfl, HNr, rfl, HRR, OR, BR⟩ := hrel
              clear O9 B9 HL HY2 HLn hga hga0
              by_cases hpos : 0 < nr
              · have hposI : (0 : Int) < (nr : Int) := by omega
                have hnr16 : nr ≤ 16 := by have := HRR.out.2.1; have := HNr.out; omega
                obtain ⟨gr, rfl, hgr0, hgr⟩ := OR.out.form hpos
                have HPk := Lib.hid (pickL_any A n c w0.heap.size bs nr wr (H.out.below BR.out) HF.out HN'.out (by omega) hpos)
                go_wp2_with fail
                refine HPk.out.mono ?_
                rintro e w10 ⟨r, rfl, hr, rfl⟩
                clear HPk
                have hrR : r < R.length := by rw [HNr.out]; exact hr
                have cr1 : wr.cell? ⟨gr, r, none⟩ = some (.int .i64 ((R[r] : Int) * z)) := by
                  have := OR.out.cell rfl hr
                  rwa [offL_at hrR] at this
                have HRl := Lib.hid (HRS.out R r hrR HRR.out)
                have HRR2 : Hid ((R.eraseIdx r).Nodup ∧ (R.eraseIdx r).length ≤ 16 ∧ ∀ b ∈ R.eraseIdx r, b < per.toNat ∧ M.testBit b = false) := ⟨List.Sublist.nodup (List.eraseIdx_sublist _ _) HRR.out.1, Nat.le_trans (List.eraseIdx_sublist _ _).length_le HRR.out.2.1, fun b hb => HRR.out.2.2 b (List.mem_of_mem_eraseIdx hb)⟩
                have HNr2 : Hid ((R.eraseIdx r).length = nr - 1) := by
                  show _ = _
                  rw [List.length_eraseIdx_of_lt hrR, HNr.out]
                have HOf := Lib.hid (offL_erase z R r)
                have hcap := OR.out.cap.1
                have hlz : (offL z R).length = nr := OR.out.len
                generalize R.eraseIdx r = R2 at *
                generalize ((R[r] : Nat) : Int) * z = q at *
                obtain ⟨p2, hp2⟩ : ∃ p2 : Int, ((packA 1 K (M ||| orL R2) 0 : Nat) : Int) = p2 := ⟨_, rfl⟩
                have HP2 := Lib.hid hp2
                rw [hp2] at HRl
                clear hp2
                generalize ((packA 1 K (M ||| orL R) 0 : Nat) : Int) = p1 at *
                have hrI : (r : Int) < (nr : Int) := by omega
                go_wp2_with fail
                refine (HRl.out _).mono ?_
                rintro e w11 ⟨rfl, hb11⟩
                have B11 := Lib.hid (BR.out.trans (hb11.mono BR.out.size))
                have O11 := Lib.hid (OR.out.below hb11)
                clear hb11 BR OR HRl cr1
                go_wp2_with fail
                refine (HCS.out _).mono ?_
                rintro e w12 ⟨rfl, rfl⟩
                have Od : Hid (OwnK 3 .i64 w11.drew w0.heap.size (some ⟨gr, 0, none⟩) nr cr (offL z R)) := O11.out
                have Bd : Hid (Below w0.heap.size w0 w11.drew) := B11.out.drew
                have hgd : gr < w11.drew.heap.size := by have := O11.out.form hpos; obtain ⟨g', e', _, h'⟩ := this; cases e'; exact h'
                clear O11 B11
                by_cases hcr : cr = r + 1
                · have hnr1 : nr = r + 1 := by omega
                  subst hcr hnr1
                  have f1 : (r : Int) ≤ (r : Int) + 1 := by omega
                  have f2 : r ≤ r + 1 := by omega
                  have g1 : IntKind.i64.wrap ((r : Int) + 1) = (r : Int) + 1 := IntWalk.i64_in _ (by omega)
                  have g2 : ((r : Int) + 1).toNat = r + 1 := by omega
                  have g3 : (0 : Int) ≤ (r : Int) + 1 := by omega
                  go_wp2_with fail
                  refine wp_region_noPanic ?_
                  refine wp_region_held_drew (S := fun _ => True) (by kernel_rfl) trivial (fun hHeld => ?_)
                  change wpAnyH _ _ _ _ _ _ _ _ (World.drew _)
                  generalize w11.drew = w13 at *
                  refine wpAnyH_take (i := 1) (v := ?v24) rfl (by kernel_rfl) (by kernel_rfl) (by kernel_rfl) (fun _ _ _ h => h) (Or.inl ⟨by rfl, ?hy24⟩) (by assumption) ?rest24
                  case hy24 =>
                    intro wz hSw
                    clear hSw
                    go_simp <;> with_reducible rfl
                  try simp only [List.getElem_toArray, List.getElem_cons_zero, List.getElem_cons_succ, Act.put, List.setIfInBounds_toArray, List.set_cons_zero, List.set_cons_succ]
                  refine wpAnyH_take (i := 2) (v := ?v25) rfl (by kernel_rfl) (by kernel_rfl) (by kernel_rfl) (fun _ _ _ h => h) (Or.inl ⟨by rfl, ?hy25⟩) (by assumption) ?rest25
                  case hy25 =>
                    intro wz hSw
                    clear hSw
                    go_simp <;> with_reducible rfl
                  try simp only [List.getElem_toArray, List.getElem_cons_zero, List.getElem_cons_succ, Act.put, List.setIfInBounds_toArray, List.set_cons_zero, List.set_cons_succ]
                  refine wpAnyH_take (i := 3) (v := ?v26) rfl (by kernel_rfl) (by kernel_rfl) (by kernel_rfl) (fun _ _ _ h => h) (Or.inl ⟨by rfl, ?hy26⟩) (by assumption) ?rest26
                  case hy26 =>
                    intro wz hSw
                    clear hSw
                    go_simp <;> with_reducible rfl
                  try simp only [List.getElem_toArray, List.getElem_cons_zero, List.getElem_cons_succ, Act.put, List.setIfInBounds_toArray, List.set_cons_zero, List.set_cons_succ]
                  refine wpAnyH_take (i := 5) (v := ?v27) rfl (by kernel_rfl) (by kernel_rfl) (by kernel_rfl) (fun _ _ _ h => h) (Or.inl ⟨by rfl, ?hy27⟩) (by assumption) ?rest27
                  case hy27 =>
                    intro wz hSw
                    clear hSw
                    go_simp <;> with_reducible rfl
                  try simp only [List.getElem_toArray, List.getElem_cons_zero, List.getElem_cons_succ, Act.put, List.setIfInBounds_toArray, List.set_cons_zero, List.set_cons_succ]
                  refine wpAnyH_take (i := 6) (v := ?v28) rfl (by kernel_rfl) (by kernel_rfl) (by kernel_rfl) (fun _ _ _ h => h) (Or.inl ⟨by rfl, ?hy28⟩) (by assumption) ?rest28
                  case hy28 =>
                    intro wz hSw
                    clear hSw
                    go_simp <;> with_reducible rfl
                  try simp only [List.getElem_toArray, List.getElem_cons_zero, List.getElem_cons_succ, Act.put, List.setIfInBounds_toArray, List.set_cons_zero, List.set_cons_succ]
                  refine wpAnyH_take (i := 7) (v := ?v29) rfl (by kernel_rfl) (by kernel_rfl) (by kernel_rfl) (fun _ _ _ h => h) (Or.inl ⟨by rfl, ?hy29⟩) (by assumption) ?rest29
                  case hy29 =>
                    intro wz hSw
                    clear hSw
                    go_simp <;> with_reducible rfl
                  try simp only [List.getElem_toArray, List.getElem_cons_zero, List.getElem_cons_succ, Act.put, List.setIfInBounds_toArray, List.set_cons_zero, List.set_cons_succ]
                  refine wpAnyH_take (i := 8) (v := ?v30) rfl (by kernel_rfl) (by kernel_rfl) (by kernel_rfl) (fun _ _ _ h => h) (Or.inl ⟨by rfl, ?hy30⟩) (by assumption) ?rest30
                  case hy30 =>
                    intro wz hSw
                    clear hSw
                    go_simp <;> with_reducible rfl
                  try simp only [List.getElem_toArray, List.getElem_cons_zero, List.getElem_cons_succ, Act.put, List.setIfInBounds_toArray, List.set_cons_zero, List.set_cons_succ]
                  refine wpAnyH_ready (rs := [0]) (by kernel_rfl) (by simp) (AllReadyH.cons rfl (fun K hK => ?_) AllReadyH.nil)
                  go_simp
                  clear hHeld
                  refine hK.out _ _ trivial (fun hHeld => ?_)
                  clear hK K
                  try simp only [List.getElem_toArray, List.getElem_cons_zero, List.getElem_cons_succ, Act.put, List.setIfInBounds_toArray, List.set_cons_zero, List.set_cons_succ]
                  have hz13 := Bd.out.size
                  have O13 : Hid (OwnK 3 .i64 (w13.alloc (.cells #[] 3)) w13.heap.size (some ⟨w13.heap.size, 0, none⟩) 0 0 ([] : List Int)) := World.ownsRow_made w13 #[] 0 (Nat.le_refl _) (by unfold maxLen; omega) rfl
                  have OA : Hid (OwnK 3 .i64 (w13.alloc (.cells #[] 3)) w0.heap.size (some ⟨gr, 0, none⟩) (r + 1) (r + 1) (offL z R)) := Od.out.alloc _
                  refine wpAnyH_ready (rs := [4]) (by kernel_rfl) (by simp) (AllReadyH.cons rfl (fun K hK => ?_) AllReadyH.nil)
                  refine step_cat rfl (.tmp 185) (.tmp 188) rfl w13.heap.size 0 0 _ _ ((offL z R).take r) gr 0 r (r + 1) rfl rfl O13.out (by simp; omega) (fun i hi => ?_) (by omega) (by simp) ?_
                  · rw [Nat.zero_add, OA.out.cell rfl (by omega), List.getElem?_take, if_pos hi]
                  intro A14 c14 w14 O14 B14
                  have OB : Hid (OwnK 3 .i64 w14 w0.heap.size (some ⟨gr, 0, none⟩) (r + 1) (r + 1) (offL z R)) := Od.out.below (((Below.refl _ _).alloc (Nat.le_refl _) _).trans B14.out)
                  have B14' : Hid (Below w13.heap.size w13 w14) := ((Below.refl _ _).alloc (Nat.le_refl _) _).trans B14.out
                  clear hHeld
                  refine hK.out _ _ trivial (fun hHeld => ?_)
                  clear hK K
                  try simp only [List.getElem_toArray, List.getElem_cons_zero, List.getElem_cons_succ, Act.put, List.setIfInBounds_toArray, List.set_cons_zero, List.set_cons_succ]
                  refine wpAnyH_ready (rs := [9]) (by kernel_rfl) (by simp) (AllReadyH.cons rfl (fun K hK => ?_) AllReadyH.nil)
                  refine step_cat rfl (.tmp 189) (.tmp 193) rfl w13.heap.size (0 + r) c14 A14 _ [] gr 0 0 0 rfl rfl O14.out rfl (fun i hi => absurd hi (by omega)) (by omega) B14'.out.size ?_
                  intro A15 c15 w15 O15 B15
                  have B15' : Hid (Below w0.heap.size w0 w15) := Bd.out.trans ((B14'.out.trans B15.out).mono hz13)
                  clear hHeld
                  refine hK.out _ _ trivial (fun hHeld => ?_)
                  clear hK K
                  try simp only [List.getElem_toArray, List.getElem_cons_zero, List.getElem_cons_succ, Act.put, List.setIfInBounds_toArray, List.set_cons_zero, List.set_cons_succ]
                  refine wpAnyH_take (i := 10) (v := ?v31) rfl (by kernel_rfl) (by kernel_rfl) (by kernel_rfl) (fun _ _ _ h => h) (Or.inl ⟨by rfl, ?hy31⟩) (by assumption) ?rest31
                  case hy31 =>
                    intro wz hSw
                    clear hSw
                    go_simp <;> with_reducible rfl
                  try simp only [List.getElem_toArray, List.getElem_cons_zero, List.getElem_cons_succ, Act.put, List.setIfInBounds_toArray, List.set_cons_zero, List.set_cons_succ]
                  have hd : (offL z R).drop (r + 1) = [] := List.drop_eq_nil_of_le (by omega)
                  rw [hd] at HOf
                  have O16 := Lib.hid (O15.out.from_ hz13)
                  have hnn : 0 + r + 0 = r + 1 - 1 := by omega
                  rw [List.nil_append, HOf.out, hnn] at O16
                  rw [hnn]
                  refine wpAnyH_done (by kernel_rfl) ?_ _
                  refine NoPanic.normal ?_
                  go_wp2
                  go_roundw
                  case rel => exact ⟨R2, r + 1 - 1, A15, c15, rfl, HNr2, by rw [HP2.out], HRR2, O16, B15'⟩
                  case measure => simp [lenOf]
                · have f1 : (r : Int) ≤ (cr : Int) := by omega
                  have f2 : r ≤ cr := by omega
                  have f3 : (r : Int) + 1 ≤ (nr : Int) := by omega
                  have f4 : r + 1 ≤ nr := by omega
                  have g1 : IntKind.i64.wrap ((r : Int) + 1) = (r : Int) + 1 := IntWalk.i64_in _ (by omega)
                  have g2 : ((r : Int) + 1).toNat = r + 1 := by omega
                  have g3 : (0 : Int) ≤ (r : Int) + 1 := by omega
                  go_wp2_with fail
                  refine wp_region_noPanic ?_
                  refine wp_region_held_drew (S := fun _ => True) (by kernel_rfl) trivial (fun hHeld => ?_)
                  change wpAnyH _ _ _ _ _ _ _ _ (World.drew _)
                  generalize w11.drew = w13 at *
                  refine wpAnyH_take (i := 1) (v := ?v32) rfl (by kernel_rfl) (by kernel_rfl) (by kernel_rfl) (fun _ _ _ h => h) (Or.inl ⟨by rfl, ?hy32⟩) (by assumption) ?rest32
                  case hy32 =>
                    intro wz hSw
                    clear hSw
                    go_simp <;> with_reducible rfl
                  try simp only [List.getElem_toArray, List.getElem_cons_zero, List.getElem_cons_succ, Act.put, List.setIfInBounds_toArray, List.set_cons_zero, List.set_cons_succ]
                  refine wpAnyH_take (i := 2) (v := ?v33) rfl (by kernel_rfl) (by kernel_rfl) (by kernel_rfl) (fun _ _ _ h => h) (Or.inl ⟨by rfl, ?hy33⟩) (by assumption) ?rest33
                  case hy33 =>
                    intro wz hSw
                    clear hSw
                    go_simp <;> with_reducible rfl
                  try simp only [List.getElem_toArray, List.getElem_cons_zero, List.getElem_cons_succ, Act.put, List.setIfInBounds_toArray, List.set_cons_zero, List.set_cons_succ]
                  refine wpAnyH_take (i := 3) (v := ?v34) rfl (by kernel_rfl) (by kernel_rfl) (by kernel_rfl) (fun _ _ _ h => h) (Or.inl ⟨by rfl, ?hy34⟩) (by assumption) ?rest34
                  case hy34 =>
                    intro wz hSw
                    clear hSw
                    go_simp <;> with_reducible rfl
                  try simp only [List.getElem_toArray, List.getElem_cons_zero, List.getElem_cons_succ, Act.put, List.setIfInBounds_toArray, List.set_cons_zero, List.set_cons_succ]
                  refine wpAnyH_take (i := 5) (v := ?v35) rfl (by kernel_rfl) (by kernel_rfl) (by kernel_rfl) (fun _ _ _ h => h) (Or.inl ⟨by rfl, ?hy35⟩) (by assumption) ?rest35
                  case hy35 =>
                    intro wz hSw
                    clear hSw
                    go_simp <;> with_reducible rfl
                  try simp only [List.getElem_toArray, List.getElem_cons_zero, List.getElem_cons_succ, Act.put, List.setIfInBounds_toArray, List.set_cons_zero, List.set_cons_succ]
                  refine wpAnyH_take (i := 6) (v := ?v36) rfl (by kernel_rfl) (by kernel_rfl) (by kernel_rfl) (fun _ _ _ h => h) (Or.inl ⟨by rfl, ?hy36⟩) (by assumption) ?rest36
                  case hy36 =>
                    intro wz hSw
                    clear hSw
                    go_simp <;> with_reducible rfl
                  try simp only [List.getElem_toArray, List.getElem_cons_zero, List.getElem_cons_succ, Act.put, List.setIfInBounds_toArray, List.set_cons_zero, List.set_cons_succ]
                  refine wpAnyH_take (i := 7) (v := ?v37) rfl (by kernel_rfl) (by kernel_rfl) (by kernel_rfl) (fun _ _ _ h => h) (Or.inl ⟨by rfl, ?hy37⟩) (by assumption) ?rest37
                  case hy37 =>
                    intro wz hSw
                    clear hSw
                    go_simp <;> with_reducible rfl
                  try simp only [List.getElem_toArray, List.getElem_cons_zero, List.getElem_cons_succ, Act.put, List.setIfInBounds_toArray, List.set_cons_zero, List.set_cons_succ]
                  refine wpAnyH_take (i := 8) (v := ?v38) rfl (by kernel_rfl) (by kernel_rfl) (by kernel_rfl) (fun _ _ _ h => h) (Or.inl ⟨by rfl, ?hy38⟩) (by assumption) ?rest38
                  case hy38 =>
                    intro wz hSw
                    clear hSw
                    go_simp <;> with_reducible rfl
                  try simp only [List.getElem_toArray, List.getElem_cons_zero, List.getElem_cons_succ, Act.put, List.setIfInBounds_toArray, List.set_cons_zero, List.set_cons_succ]
                  refine wpAnyH_ready (rs := [0]) (by kernel_rfl) (by simp) (AllReadyH.cons rfl (fun K hK => ?_) AllReadyH.nil)
                  go_simp
                  clear hHeld
                  refine hK.out _ _ trivial (fun hHeld => ?_)
                  clear hK K
                  try simp only [List.getElem_toArray, List.getElem_cons_zero, List.getElem_cons_succ, Act.put, List.setIfInBounds_toArray, List.set_cons_zero, List.set_cons_succ]
                  have hz13 := Bd.out.size
                  have O13 : Hid (OwnK 3 .i64 (w13.alloc (.cells #[] 3)) w13.heap.size (some ⟨w13.heap.size, 0, none⟩) 0 0 ([] : List Int)) := World.ownsRow_made w13 #[] 0 (Nat.le_refl _) (by unfold maxLen; omega) rfl
                  have OA : Hid (OwnK 3 .i64 (w13.alloc (.cells #[] 3)) w0.heap.size (some ⟨gr, 0, none⟩) nr cr (offL z R)) := Od.out.alloc _
                  refine wpAnyH_ready (rs := [4]) (by kernel_rfl) (by simp) (AllReadyH.cons rfl (fun K hK => ?_) AllReadyH.nil)
                  refine step_cat rfl (.tmp 185) (.tmp 188) rfl w13.heap.size 0 0 _ _ ((offL z R).take r) gr 0 r cr rfl rfl O13.out (by simp; omega) (fun i hi => ?_) (by omega) (by simp) ?_
                  · rw [Nat.zero_add, OA.out.cell rfl (by omega), List.getElem?_take, if_pos hi]
                  intro A14 c14 w14 O14 B14
                  have OB : Hid (OwnK 3 .i64 w14 w0.heap.size (some ⟨gr, 0, none⟩) nr cr (offL z R)) := Od.out.below (((Below.refl _ _).alloc (Nat.le_refl _) _).trans B14.out)
                  have B14' : Hid (Below w13.heap.size w13 w14) := ((Below.refl _ _).alloc (Nat.le_refl _) _).trans B14.out
                  clear hHeld
                  refine hK.out _ _ trivial (fun hHeld => ?_)
                  clear hK K
                  try simp only [List.getElem_toArray, List.getElem_cons_zero, List.getElem_cons_succ, Act.put, List.setIfInBounds_toArray, List.set_cons_zero, List.set_cons_succ]
                  refine wpAnyH_ready (rs := [9]) (by kernel_rfl) (by simp) (AllReadyH.cons rfl (fun K hK => ?_) AllReadyH.nil)
                  refine step_cat rfl (.tmp 189) (.tmp 193) rfl w13.heap.size (0 + r) c14 A14 _ ((offL z R).drop (r + 1)) gr (r + 1) (nr - (r + 1)) (cr - (r + 1)) rfl rfl O14.out (by simp; omega) (fun i hi => ?_) (by omega) B14'.out.size ?_
                  · rw [OB.out.cell rfl (by omega), List.getElem?_drop]
                  intro A15 c15 w15 O15 B15
                  have B15' : Hid (Below w0.heap.size w0 w15) := Bd.out.trans ((B14'.out.trans B15.out).mono hz13)
                  clear hHeld
                  refine hK.out _ _ trivial (fun hHeld => ?_)
                  clear hK K
                  try simp only [List.getElem_toArray, List.getElem_cons_zero, List.getElem_cons_succ, Act.put, List.setIfInBounds_toArray, List.set_cons_zero, List.set_cons_succ]
                  refine wpAnyH_take (i := 10) (v := ?v39) rfl (by kernel_rfl) (by kernel_rfl) (by kernel_rfl) (fun _ _ _ h => h) (Or.inl ⟨by rfl, ?hy39⟩) (by assumption) ?rest39
                  case hy39 =>
                    intro wz hSw
                    clear hSw
                    go_simp <;> with_reducible rfl
                  try simp only [List.getElem_toArray, List.getElem_cons_zero, List.getElem_cons_succ, Act.put, List.setIfInBounds_toArray, List.set_cons_zero, List.set_cons_succ]
                  have O16 := Lib.hid (O15.out.from_ hz13)
                  have hnn : 0 + r + (nr - (r + 1)) = nr - 1 := by omega
                  rw [List.nil_append, HOf.out, hnn] at O16
                  rw [hnn]
                  refine wpAnyH_done (by kernel_rfl) ?_ _
                  refine NoPanic.normal ?_
                  go_wp2
                  go_roundw
                  case rel => exact ⟨R2, nr - 1, A15, c15, (by rw [show r + (nr - (r + 1)) = nr - 1 from by omega]), HNr2, by rw [HP2.out], HRR2, O16, B15'⟩
                  case measure => simp [lenOf]; omega
              · have hn0 : nr = 0 := by omega
                have hR0 : R = [] := List.eq_nil_of_length_eq_zero (by rw [HNr.out]; exact hn0)
                subst hn0 hR0
                rw [orL_nil, Nat.or_zero, HXb.out]
                go_wp2
                go_ret
                exact ⟨rfl, BR.out⟩
      · have hrl' : ln = rv := by omega
        subst hrl'
        have hr0 : rvY = 0 := by omega
        subst hr0
        clear hrl
        clear k1'
        go_wp2_with fail
        refine (HRY.out _).mono ?_
        rintro e w6 ⟨rfl, hb6⟩
        have B6 := Lib.hid (B5.out.trans (hb6.mono B5.out.size))
        have O6 := Lib.hid (O5.out.below hb6)
        clear hb6 B5 O5
        go_wp2_with fail
        refine (HTY.out _).mono ?_
        rintro e w7 ⟨rfl, hb7⟩
        have B7 := Lib.hid (B6.out.trans (hb7.mono B6.out.size))
        have O7 := Lib.hid (O6.out.below hb7)
        clear hb7 B6 O6
        go_wp2_with fail
        refine (HTX.out _).mono ?_
        rintro e w8 ⟨rfl, hb8⟩
        have B8 := Lib.hid (B7.out.trans (hb8.mono B7.out.size))
        have O8 := Lib.hid (O7.out.below hb8)
        clear hb8 B7 O7
        go_wp2_with fail
        refine (HCS.out _).mono ?_
        rintro e w8' ⟨rfl, rfl⟩
        clear HRX HRY HTX HTY
        obtain ⟨ga, rfl, hga0, hga⟩ := O8.out.form (by omega)
        go_wp2
        clear hm1 hm2 hrr
        go_loopw [14] (fun i wr => ∃ j : Nat, j ≤ ln ∧ i = .int .i64 j ∧ Hid (Below w8.heap.size w8 wr)) (fun i _ => ln - (intOf i).toNat)
        case atStart => exact ⟨0, by omega, rfl, Below.refl _ _⟩
        case round =>
          obtain ⟨j, hj, rfl, BR⟩ := hrel
          by_cases hlt : j < ln
          · have hjL : j < L.length := by rw [HLn.out]; exact hlt
            have cj : wr.cell? ⟨ga, j, none⟩ = some (.int .i64 ((L[j] : Int) * z)) := by
              have := (BR.out.cell (p := ⟨ga, j, none⟩) hga).trans (O8.out.cell rfl hlt)
              rwa [offL_at hjL] at this
            have HX1 := Lib.hid (HAX.out L[j] (List.getElem_mem hjL))
            have HY1 := Lib.hid (HAY.out L[j] (List.getElem_mem hjL))
            obtain ⟨q0, q1⟩ := HBd.out L[j] (List.getElem_mem hjL)
            generalize ((L[j] : Nat) : Int) * z = q at *
            have qw1 : IntKind.i64.wrap (q + z) = q + z := IntWalk.i64_in _ (by omega)
            have qw2 : IntKind.i64.wrap (q + z - 1) = q + z - 1 := IntWalk.i64_in _ (by omega)
            go_wp2_with fail
            refine (HX1.out _).mono ?_
            rintro e w9 ⟨rfl, hb9⟩
            have B9 := Lib.hid (BR.out.trans (hb9.mono BR.out.size))
            have cj9 := (hb9.cell (p := ⟨ga, j, none⟩) (by show ga < _; have := BR.out.size; omega)).trans cj
            have hga9 : ga < w9.heap.size := by have := B9.out.size; omega
            have cj9' : w9.drew.cell? ⟨ga, j, none⟩ = some (.int .i64 q) := cj9
            have B9' : Hid (Below w8.heap.size w8 w9.drew) := B9.out.drew
            have hga9' : ga < w9.drew.heap.size := hga9
            clear hb9 HX1 cj BR B9 cj9 hga9
            go_wp2_with fail
            refine wp_region_noPanic ?_
            refine wp_region_held_drew (S := fun _ => True) (by kernel_rfl) trivial (fun hHeld => ?_)
            change wpAnyH _ _ _ _ _ _ _ _ (World.drew _)
            generalize w9.drew = wd at *
            refine wpAnyH_take (i := 0) (v := ?v40) rfl (by kernel_rfl) (by kernel_rfl) (by kernel_rfl) (fun _ _ _ h => h) (Or.inl ⟨by rfl, ?hy40⟩) (by assumption) ?rest40
            case hy40 =>
              intro wz hSw
              clear hSw
              go_simp <;> with_reducible rfl
            try simp only [List.getElem_toArray, List.getElem_cons_zero, List.getElem_cons_succ, Act.put, List.setIfInBounds_toArray, List.set_cons_zero, List.set_cons_succ]
            refine wpAnyH_take (i := 1) (v := ?v41) rfl (by kernel_rfl) (by kernel_rfl) (by kernel_rfl) (fun _ _ _ h => h) (Or.inl ⟨by rfl, ?hy41⟩) (by assumption) ?rest41
            case hy41 =>
              intro wz hSw
              clear hSw
              go_simp <;> with_reducible rfl
            try simp only [List.getElem_toArray, List.getElem_cons_zero, List.getElem_cons_succ, Act.put, List.setIfInBounds_toArray, List.set_cons_zero, List.set_cons_succ]
            refine wpAnyH_take (i := 2) (v := ?v42) rfl (by kernel_rfl) (by kernel_rfl) (by kernel_rfl) (fun _ _ _ h => h) (Or.inl ⟨by rfl, ?hy42⟩) (by assumption) ?rest42
            case hy42 =>
              intro wz hSw
              clear hSw
              go_simp <;> with_reducible rfl
            try simp only [List.getElem_toArray, List.getElem_cons_zero, List.getElem_cons_succ, Act.put, List.setIfInBounds_toArray, List.set_cons_zero, List.set_cons_succ]
            refine wpAnyH_take (i := 3) (v := ?v43) rfl (by kernel_rfl) (by kernel_rfl) (by kernel_rfl) (fun _ _ _ h => h) (Or.inl ⟨by rfl, ?hy43⟩) (by assumption) ?rest43
            case hy43 =>
              intro wz hSw
              clear hSw
              go_simp <;> with_reducible rfl
            try simp only [List.getElem_toArray, List.getElem_cons_zero, List.getElem_cons_succ, Act.put, List.setIfInBounds_toArray, List.set_cons_zero, List.set_cons_succ]
            refine wpAnyH_take (i := 5) (v := ?v44) rfl (by kernel_rfl) (by kernel_rfl) (by kernel_rfl) (fun _ _ _ h => h) (Or.inl ⟨by rfl, ?hy44⟩) (by assumption) ?rest44
            case hy44 =>
              intro wz hSw
              clear hSw
              go_simp <;> with_reducible rfl
            try simp only [List.getElem_toArray, List.getElem_cons_zero, List.getElem_cons_succ, Act.put, List.setIfInBounds_toArray, List.set_cons_zero, List.set_cons_succ]
            refine wpAnyH_ready (rs := [4, 6]) (by kernel_rfl) (by simp) (AllReadyH.cons rfl (fun K hK => ?_) (AllReadyH.cons rfl (fun K hK => ?_) AllReadyH.nil))
            · go_simp
              clear hHeld
              refine hK.out _ _ trivial (fun hHeld => ?_)
              clear hK K
              try simp only [List.getElem_toArray, List.getElem_cons_zero, List.getElem_cons_succ, Act.put, List.setIfInBounds_toArray, List.set_cons_zero, List.set_cons_succ]
              refine wpAnyH_ready (rs := [6]) (by kernel_rfl) (by simp) (AllReadyH.cons rfl (fun K hK => ?_) AllReadyH.nil)
              go_simp
              refine (HCS.out _).mono ?_
              rintro e wc ⟨rfl, rfl⟩
              go_wp2_with fail
              clear hHeld
              refine hK.out _ _ trivial (fun hHeld => ?_)
              clear hK K
              try simp only [List.getElem_toArray, List.getElem_cons_zero, List.getElem_cons_succ, Act.put, List.setIfInBounds_toArray, List.set_cons_zero, List.set_cons_succ]
              refine wpAnyH_take (i := 7) (v := ?v45) rfl (by kernel_rfl) (by kernel_rfl) (by kernel_rfl) (fun _ _ _ h => h) (Or.inl ⟨by rfl, ?hy45⟩) (by assumption) ?rest45
              case hy45 =>
                intro wz hSw
                clear hSw
                go_simp <;> with_reducible rfl
              try simp only [List.getElem_toArray, List.getElem_cons_zero, List.getElem_cons_succ, Act.put, List.setIfInBounds_toArray, List.set_cons_zero, List.set_cons_succ]
              refine wpAnyH_take (i := 8) (v := ?v46) rfl (by kernel_rfl) (by kernel_rfl) (by kernel_rfl) (fun _ _ _ h => h) (Or.inl ⟨by rfl, ?hy46⟩) (by assumption) ?rest46
              case hy46 =>
                intro wz hSw
                clear hSw
                go_simp <;> with_reducible rfl
              try simp only [List.getElem_toArray, List.getElem_cons_zero, List.getElem_cons_succ, Act.put, List.setIfInBounds_toArray, List.set_cons_zero, List.set_cons_succ]
              refine wpAnyH_ready (rs := [9]) (by kernel_rfl) (by simp) (AllReadyH.cons rfl (fun K hK => ?_) AllReadyH.nil)
              go_simp
              refine (HY1.out _).mono ?_
              rintro e w10 ⟨rfl, hb10⟩
              have B10 := Lib.hid (below_on B9'.out (Nat.le_refl _) hb10)
              have cj10 := (hb10.cell (p := ⟨ga, j, none⟩) hga9').trans cj9'
              clear hb10 B9' cj9'
              go_wp2_with fail
              clear hHeld
              refine hK.out _ _ trivial (fun hHeld => ?_)
              clear hK K
              try simp only [List.getElem_toArray, List.getElem_cons_zero, List.getElem_cons_succ, Act.put, List.setIfInBounds_toArray, List.set_cons_zero, List.set_cons_succ]
              refine wpAnyH_take (i := 10) (v := ?v47) rfl (by kernel_rfl) (by kernel_rfl) (by kernel_rfl) (fun _ _ _ h => h) (Or.inl ⟨by rfl, ?hy47⟩) (by assumption) ?rest47
              case hy47 =>
                intro wz hSw
                clear hSw
                go_simp <;> with_reducible rfl
              try simp only [List.getElem_toArray, List.getElem_cons_zero, List.getElem_cons_succ, Act.put, List.setIfInBounds_toArray, List.set_cons_zero, List.set_cons_succ]
              refine wpAnyH_take (i := 11) (v := ?v48) rfl (by kernel_rfl) (by kernel_rfl) (by kernel_rfl) (fun _ _ _ h => h) (Or.inl ⟨by rfl, ?hy48⟩) (by assumption) ?rest48
              case hy48 =>
                intro wz hSw
                clear hSw
                go_simp <;> with_reducible rfl
              try simp only [List.getElem_toArray, List.getElem_cons_zero, List.getElem_cons_succ, Act.put, List.setIfInBounds_toArray, List.set_cons_zero, List.set_cons_succ]
              refine wpAnyH_take (i := 12) (v := ?v49) rfl (by kernel_rfl) (by kernel_rfl) (by kernel_rfl) (fun _ _ _ h => h) (Or.inl ⟨by rfl, ?hy49⟩) (by assumption) ?rest49
              case hy49 =>
                intro wz hSw
                clear hSw
                go_simp <;> with_reducible rfl
              try simp only [List.getElem_toArray, List.getElem_cons_zero, List.getElem_cons_succ, Act.put, List.setIfInBounds_toArray, List.set_cons_zero, List.set_cons_succ]
              refine wpAnyH_take (i := 13) (v := ?v50) rfl (by kernel_rfl) (by kernel_rfl) (by kernel_rfl) (fun _ _ _ h => h) (Or.inl ⟨by rfl, ?hy50⟩) (by assumption) ?rest50
              case hy50 =>
                intro wz hSw
                clear hSw
                go_simp <;> with_reducible rfl
              try simp only [List.getElem_toArray, List.getElem_cons_zero, List.getElem_cons_succ, Act.put, List.setIfInBounds_toArray, List.set_cons_zero, List.set_cons_succ]
              refine wpAnyH_take (i := 14) (v := ?v51) rfl (by kernel_rfl) (by kernel_rfl) (by kernel_rfl) (fun _ _ _ h => h) (Or.inl ⟨by rfl, ?hy51⟩) (by assumption) ?rest51
              case hy51 =>
                intro wz hSw
                clear hSw
                go_simp <;> with_reducible rfl
              try simp only [List.getElem_toArray, List.getElem_cons_zero, List.getElem_cons_succ, Act.put, List.setIfInBounds_toArray, List.set_cons_zero, List.set_cons_succ]
              refine wpAnyH_take (i := 15) (v := ?v52) rfl (by kernel_rfl) (by kernel_rfl) (by kernel_rfl) (fun _ _ _ h => h) (Or.inl ⟨by rfl, ?hy52⟩) (by assumption) ?rest52
              case hy52 =>
                intro wz hSw
                clear hSw
                go_simp <;> with_reducible rfl
              try simp only [List.getElem_toArray, List.getElem_cons_zero, List.getElem_cons_succ, Act.put, List.setIfInBounds_toArray, List.set_cons_zero, List.set_cons_succ]
              refine wpAnyH_take (i := 16) (v := ?v53) rfl (by kernel_rfl) (by kernel_rfl) (by kernel_rfl) (fun _ _ _ h => h) (Or.inl ⟨by rfl, ?hy53⟩) (by assumption) ?rest53
              case hy53 =>
                intro wz hSw
                clear hSw
                go_simp <;> with_reducible rfl
              try simp only [List.getElem_toArray, List.getElem_cons_zero, List.getElem_cons_succ, Act.put, List.setIfInBounds_toArray, List.set_cons_zero, List.set_cons_succ]
              refine wpAnyH_done (by kernel_rfl) ?_ _
              refine NoPanic.normal ?_
              go_wp2_with fail
              refine (HCS.out _).mono ?_
              rintro e w8' ⟨rfl, rfl⟩
              go_wp2
              go_roundw
              case rel => exact ⟨j + 1, by omega, by go_num, B10⟩
              case measure => simp [intOf]; omega
            · go_simp
              refine (HCS.out _).mono ?_
              rintro e wc ⟨rfl, rfl⟩
              go_wp2_with fail
              clear hHeld
              refine hK.out _ _ trivial (fun hHeld => ?_)
              clear hK K
              try simp only [List.getElem_toArray, List.getElem_cons_zero, List.getElem_cons_succ, Act.put, List.setIfInBounds_toArray, List.set_cons_zero, List.set_cons_succ]
              refine wpAnyH_ready (rs := [4]) (by kernel_rfl) (by simp) (AllReadyH.cons rfl (fun K hK => ?_) AllReadyH.nil)
              go_simp
              clear hHeld
              refine hK.out _ _ trivial (fun hHeld => ?_)
              clear hK K
              try simp only [List.getElem_toArray, List.getElem_cons_zero, List.getElem_cons_succ, Act.put, List.setIfInBounds_toArray, List.set_cons_zero, List.set_cons_succ]
              refine wpAnyH_take (i := 7) (v := ?v54) rfl (by kernel_rfl) (by kernel_rfl) (by kernel_rfl) (fun _ _ _ h => h) (Or.inl ⟨by rfl, ?hy54⟩) (by assumption) ?rest54
              case hy54 =>
                intro wz hSw
                clear hSw
                go_simp <;> with_reducible rfl
              try simp only [List.getElem_toArray, List.getElem_cons_zero, List.getElem_cons_succ, Act.put, List.setIfInBounds_toArray, List.set_cons_zero, List.set_cons_succ]
              refine wpAnyH_take (i := 8) (v := ?v55) rfl (by kernel_rfl) (by kernel_rfl) (by kernel_rfl) (fun _ _ _ h => h) (Or.inl ⟨by rfl, ?hy55⟩) (by assumption) ?rest55
              case hy55 =>
                intro wz hSw
                clear hSw
                go_simp <;> with_reducible rfl
              try simp only [List.getElem_toArray, List.getElem_cons_zero, List.getElem_cons_succ, Act.put, List.setIfInBounds_toArray, List.set_cons_zero, List.set_cons_succ]
              refine wpAnyH_ready (rs := [9]) (by kernel_rfl) (by simp) (AllReadyH.cons rfl (fun K hK => ?_) AllReadyH.nil)
              go_simp
              refine (HY1.out _).mono ?_
              rintro e w10 ⟨rfl, hb10⟩
              have B10 := Lib.hid (below_on B9'.out (Nat.le_refl _) hb10)
              have cj10 := (hb10.cell (p := ⟨ga, j, none⟩) hga9').trans cj9'
              clear hb10 B9' cj9'
              go_wp2_with fail
              clear hHeld
              refine hK.out _ _ trivial (fun hHeld => ?_)
              clear hK K
              try simp only [List.getElem_toArray, List.getElem_cons_zero, List.getElem_cons_succ, Act.put, List.setIfInBounds_toArray, List.set_cons_zero, List.set_cons_succ]
              refine wpAnyH_take (i := 10) (v := ?v56) rfl (by kernel_rfl) (by kernel_rfl) (by kernel_rfl) (fun _ _ _ h => h) (Or.inl ⟨by rfl, ?hy56⟩) (by assumption) ?rest56
              case hy56 =>
                intro wz hSw
                clear hSw
                go_simp <;> with_reducible rfl
              try simp only [List.getElem_toArray, List.getElem_cons_zero, List.getElem_cons_succ, Act.put, List.setIfInBounds_toArray, List.set_cons_zero, List.set_cons_succ]
              refine wpAnyH_take (i := 11) (v := ?v57) rfl (by kernel_rfl) (by kernel_rfl) (by kernel_rfl) (fun _ _ _ h => h) (Or.inl ⟨by rfl, ?hy57⟩) (by assumption) ?rest57
              case hy57 =>
                intro wz hSw
                clear hSw
                go_simp <;> with_reducible rfl
              try simp only [List.getElem_toArray, List.getElem_cons_zero, List.getElem_cons_succ, Act.put, List.setIfInBounds_toArray, List.set_cons_zero, List.set_cons_succ]
              refine wpAnyH_take (i := 12) (v := ?v58) rfl (by kernel_rfl) (by kernel_rfl) (by kernel_rfl) (fun _ _ _ h => h) (Or.inl ⟨by rfl, ?hy58⟩) (by assumption) ?rest58
              case hy58 =>
                intro wz hSw
                clear hSw
                go_simp <;> with_reducible rfl
              try simp only [List.getElem_toArray, List.getElem_cons_zero, List.getElem_cons_succ, Act.put, List.setIfInBounds_toArray, List.set_cons_zero, List.set_cons_succ]
              refine wpAnyH_take (i := 13) (v := ?v59) rfl (by kernel_rfl) (by kernel_rfl) (by kernel_rfl) (fun _ _ _ h => h) (Or.inl ⟨by rfl, ?hy59⟩) (by assumption) ?rest59
              case hy59 =>
                intro wz hSw
                clear hSw
                go_simp <;> with_reducible rfl
              try simp only [List.getElem_toArray, List.getElem_cons_zero, List.getElem_cons_succ, Act.put, List.setIfInBounds_toArray, List.set_cons_zero, List.set_cons_succ]
              refine wpAnyH_take (i := 14) (v := ?v60) rfl (by kernel_rfl) (by kernel_rfl) (by kernel_rfl) (fun _ _ _ h => h) (Or.inl ⟨by rfl, ?hy60⟩) (by assumption) ?rest60
              case hy60 =>
                intro wz hSw
                clear hSw
                go_simp <;> with_reducible rfl
              try simp only [List.getElem_toArray, List.getElem_cons_zero, List.getElem_cons_succ, Act.put, List.setIfInBounds_toArray, List.set_cons_zero, List.set_cons_succ]
              refine wpAnyH_take (i := 15) (v := ?v61) rfl (by kernel_rfl) (by kernel_rfl) (by kernel_rfl) (fun _ _ _ h => h) (Or.inl ⟨by rfl, ?hy61⟩) (by assumption) ?rest61
              case hy61 =>
                intro wz hSw
                clear hSw
                go_simp <;> with_reducible rfl
              try simp only [List.getElem_toArray, List.getElem_cons_zero, List.getElem_cons_succ, Act.put, List.setIfInBounds_toArray, List.set_cons_zero, List.set_cons_succ]
              refine wpAnyH_take (i := 16) (v := ?v62) rfl (by kernel_rfl) (by kernel_rfl) (by kernel_rfl) (fun _ _ _ h => h) (Or.inl ⟨by rfl, ?hy62⟩) (by assumption) ?rest62
              case hy62 =>
                intro wz hSw
                clear hSw
                go_simp <;> with_reducible rfl
              try simp only [List.getElem_toArray, List.getElem_cons_zero, List.getElem_cons_succ, Act.put, List.setIfInBounds_toArray, List.set_cons_zero, List.set_cons_succ]
              refine wpAnyH_done (by kernel_rfl) ?_ _
              refine NoPanic.normal ?_
              go_wp2_with fail
              refine (HCS.out _).mono ?_
              rintro e w8' ⟨rfl, rfl⟩
              go_wp2
              go_roundw
              case rel => exact ⟨j + 1, by omega, by go_num, B10⟩
              case measure => simp [intOf]; omega
          · obtain rfl : j = ln := by omega
            have O9 := Lib.hid (O8.out.below BR.out)
            have B9 := Lib.hid (B8.out.trans (BR.out.mono B8.out.size))
            clear BR O8 B8 HAX HAY HBd hle hlt hj
            go_wp2
            go_loopw [10, 13] (fun v zw wr => ∃ (R : List Nat) (nr : Nat) (A : Option Addr) (c : Nat), v = .slice A nr c ∧ Hid (R.length = nr) ∧ zw = .int .u32 ((packA 1 K (M ||| orL R) 0 : Nat) : Int) ∧ Hid (R.Nodup ∧ R.length ≤ 16 ∧ ∀ b ∈ R, b < per.toNat ∧ M.testBit b = false) ∧ Hid (OwnK 3 .i64 wr w0.heap.size A nr c (offL z R)) ∧ Hid (Below w0.heap.size w0 wr)) (fun v _ _ => lenOf v)
            case atStart => exact ⟨L, j, _, _, rfl, HLn, by rw [HY2.out], HL, O9, B9⟩
            case round =>
              obtain ⟨R, nr, Ar, cr, rfl, HNr, rfl, HRR, OR, BR⟩ := hrel
              clear O9 B9 HL HY2 HLn hga hga0
              by_cases hpos : 0 < nr
              · have hposI : (0 : Int) < (nr : Int) := by omega
                have hnr16 : nr ≤ 16 := by have := HRR.out.2.1; have := HNr.out; omega
                obtain ⟨gr, rfl, hgr0, hgr⟩ := OR.out.form hpos
                have HPk := Lib.hid (pickL_any A n c w0.heap.size bs nr wr (H.out.below BR.out) HF.out HN'.out (by omega) hpos)
                go_wp2_with fail
                refine HPk.out.mono ?_
                rintro e w10 ⟨r, rfl, hr, rfl⟩
                clear HPk
                have hrR : r < R.length := by rw [HNr.out]; exact hr
                have cr1 : wr.cell? ⟨gr, r, none⟩ = some (.int .i64 ((R[r] : Int) * z)) := by
                  have := OR.out.cell rfl hr
                  rwa [offL_at hrR] at this
                have HRl := Lib.hid (HRS.out R r hrR HRR.out)
                have HRR2 : Hid ((R.eraseIdx r).Nodup ∧ (R.eraseIdx r).length ≤ 16 ∧ ∀ b ∈ R.eraseIdx r, b < per.toNat ∧ M.testBit b = false) := ⟨List.Sublist.nodup (List.eraseIdx_sublist _ _) HRR.out.1, Nat.le_trans (List.eraseIdx_sublist _ _).length_le HRR.out.2.1, fun b hb => HRR.out.2.2 b (List.mem_of_mem_eraseIdx hb)⟩
                have HNr2 : Hid ((R.eraseIdx r).length = nr - 1) := by
                  show _ = _
                  rw [List.length_eraseIdx_of_lt hrR, HNr.out]
                have HOf := Lib.hid (offL_erase z R r)
                have hcap := OR.out.cap.1
                have hlz : (offL z R).length = nr := OR.out.len
                generalize R.eraseIdx r = R2 at *
                generalize ((R[r] : Nat) : Int) * z = q at *
                obtain ⟨p2, hp2⟩ : ∃ p2 : Int, ((packA 1 K (M ||| orL R2) 0 : Nat) : Int) = p2 := ⟨_, rfl⟩
                have HP2 := Lib.hid hp2
                rw [hp2] at HRl
                clear hp2
                generalize ((packA 1 K (M ||| orL R) 0 : Nat) : Int) = p1 at *
                have hrI : (r : Int) < (nr : Int) := by omega
                go_wp2_with fail
                refine (HRl.out _).mono ?_
                rintro e w11 ⟨rfl, hb11⟩
                have B11 := Lib.hid (BR.out.trans (hb11.mono BR.out.size))
                have O11 := Lib.hid (OR.out.below hb11)
                clear hb11 BR OR HRl cr1
                go_wp2_with fail
                refine (HCS.out _).mono ?_
                rintro e w12 ⟨rfl, rfl⟩
                have Od : Hid (OwnK 3 .i64 w11.drew w0.heap.size (some ⟨gr, 0, none⟩) nr cr (offL z R)) := O11.out
                have Bd : Hid (Below w0.heap.size w0 w11.drew) := B11.out.drew
                have hgd : gr < w11.drew.heap.size := by have := O11.out.form hpos; obtain ⟨g', e', _, h'⟩ := this; cases e'; exact h'
                clear O11 B11
                by_cases hcr : cr = r + 1
                · have hnr1 : nr = r + 1 := by omega
                  subst hcr hnr1
                  have f1 : (r : Int) ≤ (r : Int) + 1 := by omega
                  have f2 : r ≤ r + 1 := by omega
                  have g1 : IntKind.i64.wrap ((r : Int) + 1) = (r : Int) + 1 := IntWalk.i64_in _ (by omega)
                  have g2 : ((r : Int) + 1).toNat = r + 1 := by omega
                  have g3 : (0 : Int) ≤ (r : Int) + 1 := by omega
                  go_wp2_with fail
                  refine wp_region_noPanic ?_
                  refine wp_region_held_drew (S := fun _ => True) (by kernel_rfl) trivial (fun hHeld => ?_)
                  change wpAnyH _ _ _ _ _ _ _ _ (World.drew _)
                  generalize w11.drew = w13 at *
                  refine wpAnyH_take (i := 1) (v := ?v63) rfl (by kernel_rfl) (by kernel_rfl) (by kernel_rfl) (fun _ _ _ h => h) (Or.inl ⟨by rfl, ?hy63⟩) (by assumption) ?rest63
                  case hy63 =>
                    intro wz hSw
                    clear hSw
                    go_simp <;> with_reducible rfl
                  try simp only [List.getElem_toArray, List.getElem_cons_zero, List.getElem_cons_succ, Act.put, List.setIfInBounds_toArray, List.set_cons_zero, List.set_cons_succ]
                  refine wpAnyH_take (i := 2) (v := ?v64) rfl (by kernel_rfl) (by kernel_rfl) (by kernel_rfl) (fun _ _ _ h => h) (Or.inl ⟨by rfl, ?hy64⟩) (by assumption) ?rest64
                  case hy64 =>
                    intro wz hSw
                    clear hSw
                    go_simp <;> with_reducible rfl
                  try simp only [List.getElem_toArray, List.getElem_cons_zero, List.getElem_cons_succ, Act.put, List.setIfInBounds_toArray, List.set_cons_zero, List.set_cons_succ]
                  refine wpAnyH_take (i := 3) (v := ?v65) rfl (by kernel_rfl) (by kernel_rfl) (by kernel_rfl) (fun _ _ _ h => h) (Or.inl ⟨by rfl, ?hy65⟩) (by assumption) ?rest65
                  case hy65 =>
                    intro wz hSw
                    clear hSw
                    go_simp <;> with_reducible rfl
                  try simp only [List.getElem_toArray, List.getElem_cons_zero, List.getElem_cons_succ, Act.put, List.setIfInBounds_toArray, List.set_cons_zero, List.set_cons_succ]
                  refine wpAnyH_take (i := 5) (v := ?v66) rfl (by kernel_rfl) (by kernel_rfl) (by kernel_rfl) (fun _ _ _ h => h) (Or.inl ⟨by rfl, ?hy66⟩) (by assumption) ?rest66
                  case hy66 =>
                    intro wz hSw
                    clear hSw
                    go_simp <;> with_reducible rfl
                  try simp only [List.getElem_toArray, List.getElem_cons_zero, List.getElem_cons_succ, Act.put, List.setIfInBounds_toArray, List.set_cons_zero, List.set_cons_succ]
                  refine wpAnyH_take (i := 6) (v := ?v67) rfl (by kernel_rfl) (by kernel_rfl) (by kernel_rfl) (fun _ _ _ h => h) (Or.inl ⟨by rfl, ?hy67⟩) (by assumption) ?rest67
                  case hy67 =>
                    intro wz hSw
                    clear hSw
                    go_simp <;> with_reducible rfl
                  try simp only [List.getElem_toArray, List.getElem_cons_zero, List.getElem_cons_succ, Act.put, List.setIfInBounds_toArray, List.set_cons_zero, List.set_cons_succ]
                  refine wpAnyH_take (i := 7) (v := ?v68) rfl (by kernel_rfl) (by kernel_rfl) (by kernel_rfl) (fun _ _ _ h => h) (Or.inl ⟨by rfl, ?hy68⟩) (by assumption) ?rest68
                  case hy68 =>
                    intro wz hSw
                    clear hSw
                    go_simp <;> with_reducible rfl
                  try simp only [List.getElem_toArray, List.getElem_cons_zero, List.getElem_cons_succ, Act.put, List.setIfInBounds_toArray, List.set_cons_zero, List.set_cons_succ]
                  refine wpAnyH_take (i := 8) (v := ?v69) rfl (by kernel_rfl) (by kernel_rfl) (by kernel_rfl) (fun _ _ _ h => h) (Or.inl ⟨by rfl, ?hy69⟩) (by assumption) ?rest69
                  case hy69 =>
                    intro wz hSw
                    clear hSw
                    go_simp <;> with_reducible rfl
                  try simp only [List.getElem_toArray, List.getElem_cons_zero, List.getElem_cons_succ, Act.put, List.setIfInBounds_toArray, List.set_cons_zero, List.set_cons_succ]
                  refine wpAnyH_ready (rs := [0]) (by kernel_rfl) (by simp) (AllReadyH.cons rfl (fun K hK => ?_) AllReadyH.nil)
                  go_simp
                  clear hHeld
                  refine hK.out _ _ trivial (fun hHeld => ?_)
                  clear hK K
                  try simp only [List.getElem_toArray, List.getElem_cons_zero, List.getElem_cons_succ, Act.put, List.setIfInBounds_toArray, List.set_cons_zero, List.set_cons_succ]
                  have hz13 := Bd.out.size
                  have O13 : Hid (OwnK 3 .i64 (w13.alloc (.cells #[] 3)) w13.heap.size (some ⟨w13.heap.size, 0, none⟩) 0 0 ([] : List Int)) := World.ownsRow_made w13 #[] 0 (Nat.le_refl _) (by unfold maxLen; omega) rfl
                  have OA : Hid (OwnK 3 .i64 (w13.alloc (.cells #[] 3)) w0.heap.size (some ⟨gr, 0, none⟩) (r + 1) (r + 1) (offL z R)) := Od.out.alloc _
                  refine wpAnyH_ready (rs := [4]) (by kernel_rfl) (by simp) (AllReadyH.cons rfl (fun K hK => ?_) AllReadyH.nil)
                  refine step_cat rfl (.tmp 185) (.tmp 188) rfl w13.heap.size 0 0 _ _ ((offL z R).take r) gr 0 r (r + 1) rfl rfl O13.out (by simp; omega) (fun i hi => ?_) (by omega) (by simp) ?_
                  · rw [Nat.zero_add, OA.out.cell rfl (by omega), List.getElem?_take, if_pos hi]
                  intro A14 c14 w14 O14 B14
                  have OB : Hid (OwnK 3 .i64 w14 w0.heap.size (some ⟨gr, 0, none⟩) (r + 1) (r + 1) (offL z R)) := Od.out.below (((Below.refl _ _).alloc (Nat.le_refl _) _).trans B14.out)
                  have B14' : Hid (Below w13.heap.size w13 w14) := ((Below.refl _ _).alloc (Nat.le_refl _) _).trans B14.out
                  clear hHeld
                  refine hK.out _ _ trivial (fun hHeld => ?_)
                  clear hK K
                  try simp only [List.getElem_toArray, List.getElem_cons_zero, List.getElem_cons_succ, Act.put, List.setIfInBounds_toArray, List.set_cons_zero, List.set_cons_succ]
                  refine wpAnyH_ready (rs := [9]) (by kernel_rfl) (by simp) (AllReadyH.cons rfl (fun K hK => ?_) AllReadyH.nil)
                  refine step_cat rfl (.tmp 189) (.tmp 193) rfl w13.heap.size (0 + r) c14 A14 _ [] gr 0 0 0 rfl rfl O14.out rfl (fun i hi => absurd hi (by omega)) (by omega) B14'.out.size ?_
                  intro A15 c15 w15 O15 B15
                  have B15' : Hid (Below w0.heap.size w0 w15) := Bd.out.trans ((B14'.out.trans B15.out).mono hz13)
                  clear hHeld
                  refine hK.out _ _ trivial (fun hHeld => ?_)
                  clear hK K
                  try simp only [List.getElem_toArray, List.getElem_cons_zero, List.getElem_cons_succ, Act.put, List.setIfInBounds_toArray, List.set_cons_zero, List.set_cons_succ]
                  refine wpAnyH_take (i := 10) (v := ?v70) rfl (by kernel_rfl) (by kernel_rfl) (by kernel_rfl) (fun _ _ _ h => h) (Or.inl ⟨by rfl, ?hy70⟩) (by assumption) ?rest70
                  case hy70 =>
                    intro wz hSw
                    clear hSw
                    go_simp <;> with_reducible rfl
                  try simp only [List.getElem_toArray, List.getElem_cons_zero, List.getElem_cons_succ, Act.put, List.setIfInBounds_toArray, List.set_cons_zero, List.set_cons_succ]
                  have hd : (offL z R).drop (r + 1) = [] := List.drop_eq_nil_of_le (by omega)
                  rw [hd] at HOf
                  have O16 := Lib.hid (O15.out.from_ hz13)
                  have hnn : 0 + r + 0 = r + 1 - 1 := by omega
                  rw [List.nil_append, HOf.out, hnn] at O16
                  rw [hnn]
                  refine wpAnyH_done (by kernel_rfl) ?_ _
                  refine NoPanic.normal ?_
                  go_wp2
                  go_roundw
                  case rel => exact ⟨R2, r + 1 - 1, A15, c15, rfl, HNr2, by rw [HP2.out], HRR2, O16, B15'⟩
                  case measure => simp [lenOf]
                · have f1 : (r : Int) ≤ (cr : Int) := by omega
                  have f2 : r ≤ cr := by omega
                  have f3 : (r : Int) + 1 ≤ (nr : Int) := by omega
                  have f4 : r + 1 ≤ nr := by omega
                  have g1 : IntKind.i64.wrap ((r : Int) + 1) = (r : Int) + 1 := IntWalk.i64_in _ (by omega)
                  have g2 : ((r : Int) + 1).toNat = r + 1 := by omega
                  have g3 : (0 : Int) ≤ (r : Int) + 1 := by omega
                  go_wp2_with fail
                  refine wp_region_noPanic ?_
                  refine wp_region_held_drew (S := fun _ => True) (by kernel_rfl) trivial (fun hHeld => ?_)
                  change wpAnyH _ _ _ _ _ _ _ _ (World.drew _)
                  generalize w11.drew = w13 at *
                  refine wpAnyH_take (i := 1) (v := ?v71) rfl (by kernel_rfl) (by kernel_rfl) (by kernel_rfl) (fun _ _ _ h => h) (Or.inl ⟨by rfl, ?hy71⟩) (by assumption) ?rest71
                  case hy71 =>
                    intro wz hSw
                    clear hSw
                    go_simp <;> with_reducible rfl
                  try simp only [List.getElem_toArray, List.getElem_cons_zero, List.getElem_cons_succ, Act.put, List.setIfInBounds_toArray, List.set_cons_zero, List.set_cons_succ]
                  refine wpAnyH_take (i := 2) (v := ?v72) rfl (by kernel_rfl) (by kernel_rfl) (by kernel_rfl) (fun _ _ _ h => h) (Or.inl ⟨by rfl, ?hy72⟩) (by assumption) ?rest72
                  case hy72 =>
                    intro wz hSw
                    clear hSw
                    go_simp <;> with_reducible rfl
                  try simp only [List.getElem_toArray, List.getElem_cons_zero, List.getElem_cons_succ, Act.put, List.setIfInBounds_toArray, List.set_cons_zero, List.set_cons_succ]
                  refine wpAnyH_take (i := 3) (v := ?v73) rfl (by kernel_rfl) (by kernel_rfl) (by kernel_rfl) (fun _ _ _ h => h) (Or.inl ⟨by rfl, ?hy73⟩) (by assumption) ?rest73
                  case hy73 =>
                    intro wz hSw
                    clear hSw
                    go_simp <;> with_reducible rfl
                  try simp only [List.getElem_toArray, List.getElem_cons_zero, List.getElem_cons_succ, Act.put, List.setIfInBounds_toArray, List.set_cons_zero, List.set_cons_succ]
                  refine wpAnyH_take (i := 5) (v := ?v74) rfl (by kernel_rfl) (by kernel_rfl) (by kernel_rfl) (fun _ _ _ h => h) (Or.inl ⟨by rfl, ?hy74⟩) (by assumption) ?rest74
                  case hy74 =>
                    intro wz hSw
                    clear hSw
                    go_simp <;> with_reducible rfl
                  try simp only [List.getElem_toArray, List.getElem_cons_zero, List.getElem_cons_succ, Act.put, List.setIfInBounds_toArray, List.set_cons_zero, List.set_cons_succ]
                  refine wpAnyH_take (i := 6) (v := ?v75) rfl (by kernel_rfl) (by kernel_rfl) (by kernel_rfl) (fun _ _ _ h => h) (Or.inl ⟨by rfl, ?hy75⟩) (by assumption) ?rest75
                  case hy75 =>
                    intro wz hSw
                    clear hSw
                    go_simp <;> with_reducible rfl
                  try simp only [List.getElem_toArray, List.getElem_cons_zero, List.getElem_cons_succ, Act.put, List.setIfInBounds_toArray, List.set_cons_zero, List.set_cons_succ]
                  refine wpAnyH_take (i := 7) (v := ?v76) rfl (by kernel_rfl) (by kernel_rfl) (by kernel_rfl) (fun _ _ _ h => h) (Or.inl ⟨by rfl, ?hy76⟩) (by assumption) ?rest76
                  case hy76 =>
                    intro wz hSw
                    clear hSw
                    go_simp <;> with_reducible rfl
                  try simp only [List.getElem_toArray, List.getElem_cons_zero, List.getElem_cons_succ, Act.put, List.setIfInBounds_toArray, List.set_cons_zero, List.set_cons_succ]
                  refine wpAnyH_take (i := 8) (v := ?v77) rfl (by kernel_rfl) (by kernel_rfl) (by kernel_rfl) (fun _ _ _ h => h) (Or.inl ⟨by rfl, ?hy77⟩) (by assumption) ?rest77
                  case hy77 =>
                    intro wz hSw
                    clear hSw
                    go_simp <;> with_reducible rfl
                  try simp only [List.getElem_toArray, List.getElem_cons_zero, List.getElem_cons_succ, Act.put, List.setIfInBounds_toArray, List.set_cons_zero, List.set_cons_succ]
                  refine wpAnyH_ready (rs := [0]) (by kernel_rfl) (by simp) (AllReadyH.cons rfl (fun K hK => ?_) AllReadyH.nil)
                  go_simp
                  clear hHeld
                  refine hK.out _ _ trivial (fun hHeld => ?_)
                  clear hK K
                  try simp only [List.getElem_toArray, List.getElem_cons_zero, List.getElem_cons_succ, Act.put, List.setIfInBounds_toArray, List.set_cons_zero, List.set_cons_succ]
                  have hz13 := Bd.out.size
                  have O13 : Hid (OwnK 3 .i64 (w13.alloc (.cells #[] 3)) w13.heap.size (some ⟨w13.heap.size, 0, none⟩) 0 0 ([] : List Int)) := World.ownsRow_made w13 #[] 0 (Nat.le_refl _) (by unfold maxLen; omega) rfl
                  have OA : Hid (OwnK 3 .i64 (w13.alloc (.cells #[] 3)) w0.heap.size (some ⟨gr, 0, none⟩) nr cr (offL z R)) := Od.out.alloc _
                  refine wpAnyH_ready (rs := [4]) (by kernel_rfl) (by simp) (AllReadyH.cons rfl (fun K hK => ?_) AllReadyH.nil)
                  refine step_cat rfl (.tmp 185) (.tmp 188) rfl w13.heap.size 0 0 _ _ ((offL z R).take r) gr 0 r cr rfl rfl O13.out (by simp; omega) (fun i hi => ?_) (by omega) (by simp) ?_
                  · rw [Nat.zero_add, OA.out.cell rfl (by omega), List.getElem?_take, if_pos hi]
                  intro A14 c14 w14 O14 B14
                  have OB : Hid (OwnK 3 .i64 w14 w0.heap.size (some ⟨gr, 0, none⟩) nr cr (offL z R)) := Od.out.below (((Below.refl _ _).alloc (Nat.le_refl _) _).trans B14.out)
                  have B14' : Hid (Below w13.heap.size w13 w14) := ((Below.refl _ _).alloc (Nat.le_refl _) _).trans B14.out
                  clear hHeld
                  refine hK.out _ _ trivial (fun hHeld => ?_)
                  clear hK K
                  try simp only [List.getElem_toArray, List.getElem_cons_zero, List.getElem_cons_succ, Act.put, List.setIfInBounds_toArray, List.set_cons_zero, List.set_cons_succ]
                  refine wpAnyH_ready (rs := [9]) (by kernel_rfl) (by simp) (AllReadyH.cons rfl (fun K hK => ?_) AllReadyH.nil)
                  refine step_cat rfl (.tmp 189) (.tmp 193) rfl w13.heap.size (0 + r) c14 A14 _ ((offL z R).drop (r + 1)) gr (r + 1) (nr - (r + 1)) (cr - (r + 1)) rfl rfl O14.out (by simp; omega) (fun i hi => ?_) (by omega) B14'.out.size ?_
                  · rw [OB.out.cell rfl (by omega), List.getElem?_drop]
                  intro A15 c15 w15 O15 B15
                  have B15' : Hid (Below w0.heap.size w0 w15) := Bd.out.trans ((B14'.out.trans B15.out).mono hz13)
                  clear hHeld
                  refine hK.out _ _ trivial (fun hHeld => ?_)
                  clear hK K
                  try simp only [List.getElem_toArray, List.getElem_cons_zero, List.getElem_cons_succ, Act.put, List.setIfInBounds_toArray, List.set_cons_zero, List.set_cons_succ]
                  refine wpAnyH_take (i := 10) (v := ?v78) rfl (by kernel_rfl) (by kernel_rfl) (by kernel_rfl) (fun _ _ _ h => h) (Or.inl ⟨by rfl, ?hy78⟩) (by assumption) ?rest78
                  case hy78 =>
                    intro wz hSw
                    clear hSw
                    go_simp <;> with_reducible rfl
                  try simp only [List.getElem_toArray, List.getElem_cons_zero, List.getElem_cons_succ, Act.put, List.setIfInBounds_toArray, List.set_cons_zero, List.set_cons_succ]
                  have O16 := Lib.hid (O15.out.from_ hz13)
                  have hnn : 0 + r + (nr - (r + 1)) = nr - 1 := by omega
                  rw [List.nil_append, HOf.out, hnn] at O16
                  rw [hnn]
                  refine wpAnyH_done (by kernel_rfl) ?_ _
                  refine NoPanic.normal ?_
                  go_wp2
                  go_roundw
                  case rel => exact ⟨R2, nr - 1, A15, c15, (by rw [show r + (nr - (r + 1)) = nr - 1 from by omega]), HNr2, by rw [HP2.out], HRR2, O16, B15'⟩
                  case measure => simp [lenOf]; omega
              · have hn0 : nr = 0 := by omega
                have hR0 : R = [] := List.eq_nil_of_length_eq_zero (by rw [HNr.out]; exact hn0)
                subst hn0 hR0
                rw [orL_nil, Nat.or_zero, HXb.out]
                go_wp2
                go_ret
                exact ⟨rfl, BR.out⟩
    · obtain ⟨e1, e2, e3⟩ := cl_no hc
      rw [e1, e2, e3, decide_eq_false hc] at HS HI
      clear e1 e2 e3 hc HX
      simp only [List.length_nil] at HS HI
      go_wp2_with fail
      refine (HS.out _).mono ?_
      rintro e w2 ⟨A0, c0, rfl, ho0, hb2⟩
      have O0 := Lib.hid (ho0.from_ B1.out.size)
      have B2 := Lib.hid (B1.out.trans (hb2.mono B1.out.size))
      clear ho0 hb2 B1
      go_wp2_with fail
      refine (HI.out _).mono ?_
      rintro e w3 ⟨A1, c1, rfl, ho1, hb3⟩
      have O1 := Lib.hid (ho1.from_ B2.out.size)
      have O0b := Lib.hid (O0.out.below hb3)
      have B3 := Lib.hid (B2.out.trans (hb3.mono B2.out.size))
      clear ho1 hb3 B2 O0
      have HE := Lib.hid (same_any A1 A0 0 0 c1 c0 _ _ [] [] w3 O1.out.rd O0b.out.rd (by unfold maxLen; omega) (by unfold maxLen; omega))
      rw [decide_eq_true rfl] at HE
      go_wp2_with fail
      refine HE.out.mono ?_
      rintro e w4 ⟨rfl, q4, rfl⟩
      clear HE
      go_wp2
      go_ret
      exact ⟨rfl, below_drewN B3.out⟩
  · have hn : (1048576 : Int) < (n : Int) := by omega
    go_enter Try.func3, Try.ntmps3
    go_wp2_with fail
    refine (big_any A n c w0).mono ?_
    rintro e w1 ⟨rfl, rfl⟩
    go_wp2
    go_ret
    exact ⟨rfl, Below.refl _ _⟩

set_option maxRecDepth 100000 in
theorem fnClaim_lifted (os : Os) (started : os.Started) (H : Type) (enc : TypeId × Value → H) :
    ReturnsInHanded {} Try.checked os 3 .any (Rows.fnClaimSpec.pre6 enc Try.prog Try.f3 Rows.fnClaimRow.domain false) (Rows.fnClaimSpec.post enc Try.prog Try.f3 false true false false) := by
  refine returnsInHanded_of_change (C := Try.checked) own started (by kernel_rfl) Try.func3
    (ChangeSpec.witness6 (enc := enc) (C := Try.checked) false ⟨#[], #[.slice none 0 0], []⟩ 8 (by kernel_rfl) (by kernel_rfl) (by kernel_rfl) (by kernel_rfl)) ?_
  intro W base args ds gs before hval0 hW hcnd _
  have hval : ∀ (j : Nat) t v, Try.f3.params[j]? = some t → args[j]? = some v → Value.okWide Try.prog W .any base t v := hval0
  have hW' := hW
  obtain ⟨p, q, hA0, hV, rfl, hfz, hnd⟩ := hW
  have hA : DataW.TrodAll enc Try.prog W 0 (fun _ => true) true Try.f3.params.toList args.toList ds p := hA0
  rw [Try.params3] at hA hval
  obtain ⟨v0, vs0, d0, ds0, p0, q0, hargs, rfl, rfl, h0, r0⟩ := trodAll_cons hA
  obtain ⟨rfl, rfl, rfl⟩ := trodAll_nil r0
  obtain rfl : args = #[v0] := by cases args; simp_all
  obtain ⟨rfl, rfl⟩ := trodVars_none hV
  have k0 := h0
  have lt0 : ∀ x ∈ p0, x.block < W.heap.size := by obtain ⟨m, hm⟩ := k0; exact DataW.trod_lt m _ _ _ hm
  obtain ⟨A0, n0, c0, z0, rfl, m0, rd0, f0⟩ := open_bytes (hval 0 22 v0 rfl rfl) h0
  clear hA0 hval0
  refine (fnClaim_walk A0 n0 c0 z0 W rd0 m0 f0).mono fun e W' ⟨he, bel⟩ => ?_
  subst he
  exact ⟨_, rfl, _, _, _, [], _, [], hW', trodAll_mk1 (shut_bool Try.underlying4 _), (trodAll_cons_mk (Below.trod laidOut (by kernel_rfl) (of_decide_eq_true (by kernel_rfl)) k0 bel lt0) (trodAll_mk0)), rfl, bel.frame _, fun h => by cases h⟩

/-- The given statement: for every input the law returns true, and its arguments read as before. -/
theorem fnClaim_holds : Rows.FnClaimSaid :=
  OpenClaim.holds_of_wide 3 Try.f3 rfl rfl rfl rfl rfl rfl rfl ⟨rfl, rfl, rfl, rfl, rfl⟩ rfl rfl rfl rfl rfl (by kernel_rfl) Try.func3 (by kernel_rfl)
    (of_decide_eq_true (by kernel_rfl)) (by unfold Func.isWrapper; first | (rw [if_pos (by decide +kernel)]; kernel_rfl) | (rw [if_neg (by decide +kernel)]; exact ⟨rfl, rfl⟩))
    (fun os started H enc _ => fnClaim_lifted os started H enc)
#print axioms fnClaim_holds
end Go.Proofs.Ytomcdfaomfkmjaa
