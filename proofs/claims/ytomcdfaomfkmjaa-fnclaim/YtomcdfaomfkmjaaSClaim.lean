/- The contract of the model's Claim. -/
import Derived.Test.YtomcdfaomfkmjaaSRoom
import Derived.Test.YtomcdfaomfkmjaaIClaim
import Derived.Deep.RegionHeld3
namespace Go.Proofs.Ytomcdfaomfkmjaa
open Go.RowKit

/-- 'append(s, x)' onto a slice of ints that the call owns, as one step of a region that draws its order. -/
theorem step_push {w : World} {ops : Array Oper} {o : Oper} {a : Act} {K : Act → World → Prop} {Q : Exit → Act → World → Prop} {E : Prop} (hgd : o.guard = none) (s x : Operand)
    (ho : o.op = .call { callee := .builtin .append, args := #[s, x], argTypes := #[27, 27] })
    (b0 n c : Nat) (A : Option Addr) (zs : List Int) (z : Int) (hs : a.eval s = .slice A n c) (hx : a.eval x = .slice (some ⟨w.heap.size, 0, none⟩) 1 1)
    (hO : OwnK 3 .i64 w b0 A n c zs) (hn : n ≤ 1000000) (hb : b0 ≤ w.heap.size)
    (h : ∀ A' c' w', Hid (OwnK 3 .i64 w' b0 A' (n + 1) c' (zs ++ [z])) → Hid (Below b0 w w') → K (a.put o.dst (.slice A' (n + 1) c')) w') :
    if Region.wanted o (yielded ops a.tmps) = true then Oper.wp Try.prog o a (w.alloc (.cells #[.int .i64 z] 3)) K Q else E := by
  have hw : Region.wanted o (yielded ops a.tmps) = true := by simp [Region.wanted, hgd]
  rw [if_pos hw]
  obtain ⟨i0, hi, hz0, hz1, hz2⟩ := info_parts info_int
  obtain ⟨v', w', hr, h2, h3, _, _⟩ := run_append_own_at (P := Try.prog) (w.alloc (.cells #[.int .i64 z] 3)) b0 27 o.type 3 i0 (.int .i64 0) 1 8 Try.underlying27 hi hz0 hz1 hz2 rfl (by omega) (.slice A n c) n _ (hO.alloc _) ⟨w.heap.size, 0, none⟩ 1 1 [.int .i64 z] rfl (fun j u hj => by
    match j, hj with
    | 0, hj => simp at hj; subst hj; simp [Addr.add]) (by simp [Value.oneCell']) (by unfold maxLen; omega) (by omega) (by simp; omega)
  have h4 : w'.ownsRow b0 3 1 v' (n + 1) ((zs ++ [z]).map (Value.int .i64)) := by simpa using h2
  obtain ⟨A', c', rfl, h5⟩ := OwnK.shape h4
  unfold Oper.wp
  simp [execOp, ho, resolve, invoke, builtin, hs, hx, hr, Result.andThen, Oper.upon]
  exact h A' c' w' h5 (((Below.refl _ _).alloc hb _).grown h3 (by simp; omega) (fun k hk => (World.ownsRow.lt hO k hk).1))

theorem take_self (l : List Nat) (n : Nat) : l.take (l.take n).length = l.take n := by
  rw [List.length_take]
  by_cases h : n ≤ l.length
  · rw [Nat.min_eq_left h]
  · rw [Nat.min_eq_right (by omega), List.take_of_length_le (Nat.le_refl _), List.take_of_length_le (by omega)]
theorem offL_take_next {z : Int} {l : List Nat} {k : Nat} (h : k < l.length) : offL z (l.take k) ++ [(ints l)[k]?.getD 0 * z] = offL z (l.take (k + 1)) := by
  rw [List.take_succ_eq_append_getElem h, ints_at l h]
  unfold offL
  rw [List.map_append]
  rfl
theorem int_at_bound {l : List Nat} {k : Nat} (h : k < l.length) (hb : ∀ j ∈ l, j < 16) : 0 ≤ (ints l)[k]?.getD 0 ∧ (ints l)[k]?.getD 0 < 16 := by
  rw [ints_at l h]
  have := hb l[k] (List.getElem_mem h)
  omega

set_option maxRecDepth 100000 in
set_option maxHeartbeats 4000000 in
theorem sClaim_any (X : Nat) (K N : Int) (w : World) (hX : X < 4294967296) (hN0 : -9223372036854775808 ≤ N) (hN1 : N < 9223372036854775808) :
    Calls Try.prog 15 #[.int .u32 (X : Int), .int .i64 K, .int .i64 N] w fun e w' => ∃ A c, e = .returned (.tuple #[.int .u32 (clY X K N : Int), .slice A (clL X K N).length c, .bool (decide (ClaimOk X K N))]) ∧ OwnK 3 .i64 w' w.heap.size A (clL X K N).length c (clO X K N) ∧ Below w.heap.size w w' := by
  have HRm := Lib.hid (fun W => sRoom_any X K W hX)
  by_cases hR : roomV X K = 0
  · have hc : ¬ ClaimOk X K N := fun h => h.1 hR
    obtain ⟨e1, e2, e3⟩ := cl_no hc
    rw [hR] at HRm
    rw [e1, e2, e3, decide_eq_false hc]
    clear hc e1 e2 e3 hR hX
    go_enter Try.func15, Try.ntmps15
    go_wp2_with fail
    refine (HRm.out _).mono ?_
    rintro e w1 ⟨rfl, hb⟩
    have HB := Lib.hid hb
    clear hb
    go_wp2
    go_ret3
    exact ⟨none, 0, rfl, World.ownsRow_nil _ _ _ _, HB.out⟩
  · have hR' : ¬ ((roomV X K : Nat) : Int) = 0 := by omega
    by_cases hn : N < 1
    · have hc : ¬ ClaimOk X K N := fun h => by have := h.2; omega
      obtain ⟨e1, e2, e3⟩ := cl_no hc
      rw [e1, e2, e3, decide_eq_false hc]
      generalize (roomV X K : Int) = v at *
      clear hc e1 e2 e3 hR hX
      go_enter Try.func15, Try.ntmps15
      go_wp2_with fail
      refine (HRm.out _).mono ?_
      rintro e w1 ⟨rfl, hb⟩
      have HB := Lib.hid hb
      clear hb
      go_wp2
      go_ret3
      exact ⟨none, 0, rfl, World.ownsRow_nil _ _ _ _, HB.out⟩
    · obtain ⟨m, rfl⟩ := Int.eq_ofNat_of_zero_le (show 0 ≤ N by omega)
      have hc : ClaimOk X K m := ⟨hR, by omega⟩
      obtain ⟨hP, e1, e2⟩ := cl_ok hc
      have hk := hP.2.1
      have hm := mp_lt X
      have ho := clOr_lt X K m
      have hsz := per_bounds hk
      have HR := Lib.hid (fun W => sCtlRead_any X W hX)
      rw [read_good hP.1, decide_eq_true hP.1] at HR
      have HPP := Lib.hid (fun W => sPerPage_any K W)
      have HF := Lib.hid (fun W => sFree_any (mpOf X) (perV K) W (by omega))
      rw [free_form_page hk] at HF
      have hrv : roomV X K = (freeL (mpOf X) K).length := if_pos hP
      have hadd : ((mpOf X : Int) + (orL (clL X K m) : Int)) % 4294967296 = ((mpOf X ||| orL (clL X K m) : Nat) : Int) := by rw [← cl_add]; omega
      have HCP := Lib.hid (fun W => sCtlPack_any 1 K (mpOf X ||| orL (clL X K m)) 0 W (Nat.lt_of_lt_of_le (Nat.or_lt_two_pow (n := 16) (by omega) (by omega)) (by decide)))
      have HCS := Lib.hid (fun W => sClassSize_any K W)
      have hofA : ofA (ints (clL X K m)) = orL (clL X K m) := by rw [e1, ← free_form_page hk, Int.toNat_natCast]; exact ofA_take _ _
      have hlen := clL_len hc
      have hL16 : Hid (∀ j ∈ clL X K m, j < 16) := fun j hj => clL_lt hj
      have HT : Hid ((freeL (mpOf X) K).take (clL X K m).length = clL X K m) := by
        show _ = _
        rw [e1]; exact take_self _ _
      have hz1 := hsz.2.2.2.2.1
      have hz2 := hsz.2.2.2.2.2
      rw [e2, clO_off, decide_eq_true hc]
      rw [hrv] at hlen hR' HRm
      have hfl := freeL_len (M := mpOf X) hk
      clear hc e1 e2 hR hX hP hk hm ho hsz hN0 hN1 hrv
      generalize packA 1 K (mpOf X ||| orL (clL X K m)) 0 = y at *
      generalize decide (CtlGood 1 K (mpOf X ||| orL (clL X K m)) 0) = gd at *
      generalize ((mpOf X ||| orL (clL X K m) : Nat) : Int) = m2 at *
      generalize clL X K m = L at *
      generalize freeL (mpOf X) K = fl at *
      generalize (mpOf X : Int) = mm at *
      generalize sizeV K = z at *
      generalize perV K = p at *
      generalize (stOf X : Int) = s at *
      generalize (clOf X : Int) = k at *
      generalize (rnOf X : Int) = r at *
      obtain ⟨rv, hrv⟩ : ∃ rv, fl.length = rv := ⟨_, rfl⟩
      rw [hrv] at hlen hR' HRm HF hfl
      have HFL := Lib.hid hrv
      clear hrv
      have hv1 : ((rv : Int) == 0) = false := by simp; omega
      have hn1 : decide ((m : Int) < 1) = false := decide_eq_false hn
      by_cases hle : (m : Int) ≤ rv
      · have hln : L.length = m := by omega
        have HM : Hid (L.length = m) := hln
        rw [hln] at hlen ⊢
        have hl16 : m ≤ 16 := hlen.2.2
        clear hln hlen
        go_enter Try.func15, Try.ntmps15
        go_wp2_with fail
        refine (HRm.out _).mono ?_
        rintro e w1 ⟨rfl, hb⟩
        have HB := Lib.hid hb
        clear hb HRm
        go_wp2_with fail
        refine (HR.out _).mono ?_
        rintro e w2 ⟨rfl, hb⟩
        have HB2 := Lib.hid (HB.out.trans (hb.mono HB.out.size))
        clear hb HB HR
        have b0 : Hid (Below (w2.heap.size + 1) (w2.alloc (.cells #[.int .i64 s, .int .i64 k, .int .u32 mm, .int .i64 r] 42)) ((w2.alloc (.cells #[.int .i64 s, .int .i64 k, .int .u32 mm, .int .i64 r] 42))).drew) := (Below.refl _ _).drew
        obtain ⟨_, _, x2, _⟩ := new4 (Below.refl (w2.heap.size + 1) (w2.alloc (.cells #[.int .i64 s, .int .i64 k, .int .u32 mm, .int .i64 r] 42)))
        obtain ⟨_, _, y2, _⟩ := new4 b0.out
        have LF : Hid (∀ W, Below (w2.heap.size + 1) (w2.alloc (.cells #[.int .i64 s, .int .i64 k, .int .u32 mm, .int .i64 r] 42)) W → Calls Try.prog 45 #[.int .u32 mm, .int .i64 p] W fun e w' => ∃ A c, e = .returned (.slice A rv c) ∧ Hid (OwnK 3 .i64 w' (w2.heap.size + 1) A rv c (ints fl)) ∧ Hid (Below (w2.heap.size + 1) (w2.alloc (.cells #[.int .i64 s, .int .i64 k, .int .u32 mm, .int .i64 r] 42)) w') ∧ w'.cell? ⟨w2.heap.size, 2, none⟩ = some (.int .u32 mm)) := fun W hW => (HF.out W).mono fun _ w' ⟨A, c, he, ho, hb⟩ => by
          have hb2 := below_on hW (by simp) hb
          have hz := hW.size
          simp only [World.size_alloc] at hz
          exact ⟨A, c, he, ho.from_ hz, hb2, (new4 hb2).2.2.1⟩
        clear HF
        go_wp2_with fail
        go_region_held3 (fun W => W.cell? ⟨w2.heap.size, 2, none⟩ = some (.int .u32 mm))
          (first | exact x2 | exact y2 | exact x6)
          (first | (go_at_call 46; refine (HPP.out _).mono ?_; rintro e w5 ⟨rfl, rfl⟩)
                 | (go_at_call 45; refine (LF.out _ b0.out).mono ?_; rintro e w6 ⟨A, c, rfl, O6, b6, x6⟩))
        have hl6 := b6.out.size
        simp only [World.size_alloc] at hl6
        have hl2 := HB2.out.size
        have HB6 : Hid (Below w.heap.size w w6) := (HB2.out.alloc HB2.out.size _).trans (b6.out.mono (by omega))
        have hcap := O6.out.cap.1
        have R6 := Lib.hid (O6.out.rd.take (m := m) (by omega))
        rw [take_ints, ← HM.out, HT.out, HM.out] at R6
        have HBO := Lib.hid (sBitsOf_any A m c w6.heap.size (ints L) w6 R6.out (Nat.le_refl _) (by omega))
        rw [hofA] at HBO
        generalize ofB (ints L) = ob at *
        have hcapI : (m : Int) ≤ (c : Int) := by omega
        have hlnI : (0 : Int) ≤ (m : Int) := by omega
        clear x2 y2 b0 b6 LF HB2 HPP O6 HT
        go_wp2_with fail
        refine HBO.out.mono ?_
        rintro e w7 ⟨rfl, hb7⟩
        have HB7 : Hid (Below w.heap.size w w7) := HB6.out.trans (hb7.mono HB6.out.size)
        have x7 := (hb7.cell (p := ⟨w2.heap.size, 2, none⟩) (by show w2.heap.size < _; omega)).trans x6
        have R7 := Lib.hid (R6.out.below hb7)
        have hl7 := hb7.size
        clear hb7 HBO R6 HB6 x6
        go_wp2_with fail
        refine (HCP.out _).mono ?_
        rintro e w8 ⟨rfl, hb8⟩
        have HB8 : Hid (Below w.heap.size w w8) := HB7.out.trans (hb8.mono HB7.out.size)
        have R8 := Lib.hid (R7.out.below (hb8.mono hl7))
        have hl8 := hb8.size
        clear hb8 HCP R7 HB7 x7
        have HO0 : Hid (OwnK 3 .i64 (w8.alloc (.cells #[] 3)) w8.heap.size (some ⟨w8.heap.size, 0, none⟩) 0 0 (offL z (L.take 0))) := World.ownsRow_made w8 #[] 0 (Nat.le_refl _) (by unfold maxLen; omega) rfl
        go_wp2
        go_loopw [17, 18] (fun v i wr => ∃ (j : Nat) (A : Option Addr) (c : Nat), j ≤ m ∧ i = .int .i64 j ∧ v = .slice A j c ∧ Hid (OwnK 3 .i64 wr w8.heap.size A j c (offL z (L.take j))) ∧ Hid (Below w8.heap.size w8 wr)) (fun _ i _ => m - (intOf i).toNat)
        case atStart => exact ⟨0, _, _, by omega, rfl, rfl, HO0, (Below.refl _ _).alloc (Nat.le_refl _) _⟩
        case round =>
          obtain ⟨j, A, c, hj, rfl, rfl, HO, HBr⟩ := hrel
          clear HO0
          have hsr : w8.heap.size ≤ wr.heap.size := HBr.out.size
          by_cases hlt : j < m
          · have hjL : j < L.length := by rw [HM.out]; exact hlt
            obtain ⟨gm, om, rfl, hgm, hcm⟩ := R8.out.2 (by omega)
            have cm : wr.cell? ⟨gm, om + j, none⟩ = some (.int .i64 ((ints L)[j]?.getD 0)) := (HBr.out.cell (p := ⟨gm, om + j, none⟩) (by show gm < _; omega)).trans (hcm j hlt)
            have HNx := Lib.hid (offL_take_next (z := z) hjL)
            obtain ⟨q0, q1⟩ := int_at_bound hjL hL16.out
            generalize (ints L)[j]?.getD 0 = q at *
            have hmq : IntKind.i64.wrap (q * z) = q * z := by
              obtain ⟨q', rfl⟩ := Int.eq_ofNat_of_zero_le q0
              exact off_mul hz1 hz2 q' (by omega)
            have HOd : Hid (OwnK 3 .i64 wr.drew w8.heap.size A j c (offL z (L.take j))) := HO.out
            have HBd : Hid (Below w8.heap.size w8 wr.drew) := HBr.out.drew
            have cmd : wr.drew.cell? ⟨gm, om + j, none⟩ = some (.int .i64 q) := cm
            have hsd : w8.heap.size ≤ wr.drew.heap.size := hsr
            clear hcm
            go_wp2_with fail
            refine wp_region_noPanic ?_
            refine wp_region_held_drew (S := fun _ => True) (by kernel_rfl) trivial (fun hHeld => ?_)
            change wpAnyH _ _ _ _ _ _ _ _ (World.drew _)
            refine wpAnyH_take (i := 0) (v := ?v1) rfl (by kernel_rfl) (by kernel_rfl) (by kernel_rfl) (fun _ _ _ h => h) (Or.inl ⟨by rfl, ?hy1⟩) (by assumption) ?rest1
            case hy1 =>
              intro wz hSw
              clear hSw
              go_simp <;> with_reducible rfl
            try simp only [List.getElem_toArray, List.getElem_cons_zero, List.getElem_cons_succ, Act.put, List.setIfInBounds_toArray, List.set_cons_zero, List.set_cons_succ]
            refine wpAnyH_take (i := 1) (v := ?v2) rfl (by kernel_rfl) (by kernel_rfl) (by kernel_rfl) (fun _ _ _ h => h) (Or.inl ⟨by rfl, ?hy2⟩) (by assumption) ?rest2
            case hy2 =>
              intro wz hSw
              clear hSw
              go_simp <;> with_reducible rfl
            try simp only [List.getElem_toArray, List.getElem_cons_zero, List.getElem_cons_succ, Act.put, List.setIfInBounds_toArray, List.set_cons_zero, List.set_cons_succ]
            refine wpAnyH_take (i := 2) (v := ?v3) rfl (by kernel_rfl) (by kernel_rfl) (by kernel_rfl) (fun _ _ _ h => h) (Or.inl ⟨by rfl, ?hy3⟩) (by assumption) ?rest3
            case hy3 =>
              intro wz hSw
              clear hSw
              go_simp <;> with_reducible rfl
            try simp only [List.getElem_toArray, List.getElem_cons_zero, List.getElem_cons_succ, Act.put, List.setIfInBounds_toArray, List.set_cons_zero, List.set_cons_succ]
            refine wpAnyH_take (i := 5) (v := ?v4) rfl (by kernel_rfl) (by kernel_rfl) (by kernel_rfl) (fun _ _ _ h => h) (Or.inl ⟨by rfl, ?hy4⟩) (by assumption) ?rest4
            case hy4 =>
              intro wz hSw
              clear hSw
              go_simp <;> with_reducible rfl
            try simp only [List.getElem_toArray, List.getElem_cons_zero, List.getElem_cons_succ, Act.put, List.setIfInBounds_toArray, List.set_cons_zero, List.set_cons_succ]
            refine wpAnyH_take (i := 3) (v := ?v5) rfl (by kernel_rfl) (by kernel_rfl) (by kernel_rfl) (fun _ _ _ h => h) (Or.inl ⟨by rfl, ?hy5⟩) (by assumption) ?rest5
            case hy5 =>
              intro wz hSw
              clear hSw
              go_simp <;> with_reducible rfl
            try simp only [List.getElem_toArray, List.getElem_cons_zero, List.getElem_cons_succ, Act.put, List.setIfInBounds_toArray, List.set_cons_zero, List.set_cons_succ]
            refine wpAnyH_ready (rs := [4, 6]) (by kernel_rfl) (by simp) (AllReadyH.cons rfl (fun K hK => ?_) (AllReadyH.cons rfl (fun K hK => ?_) AllReadyH.nil))
            · go_simp
              clear hHeld
              refine hK.out _ _ trivial (fun hHeld => ?_)
              clear hK K
              try simp only [List.getElem_toArray, List.getElem_cons_zero, List.getElem_cons_succ, Act.put, List.setIfInBounds_toArray, List.set_cons_zero, List.set_cons_succ]
              refine wpAnyH_ready (rs := [6]) (by kernel_rfl) (by simp) (AllReadyH.cons rfl (fun K hK => ?_) AllReadyH.nil)
              go_simp
              refine (HCS.out _).mono ?_
              rintro e wc ⟨rfl, rfl⟩
              go_wp2_with fail
              clear hHeld
              refine hK.out _ _ trivial (fun hHeld => ?_)
              clear hK K
              try simp only [List.getElem_toArray, List.getElem_cons_zero, List.getElem_cons_succ, Act.put, List.setIfInBounds_toArray, List.set_cons_zero, List.set_cons_succ]
              refine wpAnyH_take (i := 7) (v := ?v6) rfl (by kernel_rfl) (by kernel_rfl) (by kernel_rfl) (fun _ _ _ h => h) (Or.inl ⟨by rfl, ?hy6⟩) (by assumption) ?rest6
              case hy6 =>
                intro wz hSw
                clear hSw
                go_simp <;> with_reducible rfl
              try simp only [List.getElem_toArray, List.getElem_cons_zero, List.getElem_cons_succ, Act.put, List.setIfInBounds_toArray, List.set_cons_zero, List.set_cons_succ]
              refine wpAnyH_ready (rs := [8]) (by kernel_rfl) (by simp) (AllReadyH.cons rfl (fun K hK => ?_) AllReadyH.nil)
              go_simp
              clear hHeld
              refine hK.out _ _ trivial (fun hHeld => ?_)
              clear hK K
              try simp only [List.getElem_toArray, List.getElem_cons_zero, List.getElem_cons_succ, Act.put, List.setIfInBounds_toArray, List.set_cons_zero, List.set_cons_succ]
              refine wpAnyH_ready (rs := [9]) (by kernel_rfl) (by simp) (AllReadyH.cons rfl (fun K hK => ?_) AllReadyH.nil)
              refine step_push rfl (.tmp 65) (.tmp 73) rfl w8.heap.size j c A _ _ rfl rfl HOd.out (by omega) hsr ?_
              intro A' c' w10 O10 B10
              clear hHeld
              refine hK.out _ _ trivial (fun hHeld => ?_)
              clear hK K
              try simp only [List.getElem_toArray, List.getElem_cons_zero, List.getElem_cons_succ, Act.put, List.setIfInBounds_toArray, List.set_cons_zero, List.set_cons_succ]
              refine wpAnyH_take (i := 10) (v := ?v7) rfl (by kernel_rfl) (by kernel_rfl) (by kernel_rfl) (fun _ _ _ h => h) (Or.inl ⟨by rfl, ?hy7⟩) (by assumption) ?rest7
              case hy7 =>
                intro wz hSw
                clear hSw
                go_simp <;> with_reducible rfl
              try simp only [List.getElem_toArray, List.getElem_cons_zero, List.getElem_cons_succ, Act.put, List.setIfInBounds_toArray, List.set_cons_zero, List.set_cons_succ]
              refine wpAnyH_done (by kernel_rfl) ?_ _
              refine NoPanic.normal ?_
              go_wp2
              go_roundw
              case rel => exact ⟨j + 1, A', c', by omega, by go_num, rfl, by rw [← HNx.out]; exact O10, HBd.out.trans B10.out⟩
              case measure => simp [intOf]; omega
            · go_simp
              refine (HCS.out _).mono ?_
              rintro e wc ⟨rfl, rfl⟩
              go_wp2_with fail
              clear hHeld
              refine hK.out _ _ trivial (fun hHeld => ?_)
              clear hK K
              try simp only [List.getElem_toArray, List.getElem_cons_zero, List.getElem_cons_succ, Act.put, List.setIfInBounds_toArray, List.set_cons_zero, List.set_cons_succ]
              refine wpAnyH_ready (rs := [4]) (by kernel_rfl) (by simp) (AllReadyH.cons rfl (fun K hK => ?_) AllReadyH.nil)
              go_simp
              clear hHeld
              refine hK.out _ _ trivial (fun hHeld => ?_)
              clear hK K
              try simp only [List.getElem_toArray, List.getElem_cons_zero, List.getElem_cons_succ, Act.put, List.setIfInBounds_toArray, List.set_cons_zero, List.set_cons_succ]
              refine wpAnyH_take (i := 7) (v := ?v8) rfl (by kernel_rfl) (by kernel_rfl) (by kernel_rfl) (fun _ _ _ h => h) (Or.inl ⟨by rfl, ?hy8⟩) (by assumption) ?rest8
              case hy8 =>
                intro wz hSw
                clear hSw
                go_simp <;> with_reducible rfl
              try simp only [List.getElem_toArray, List.getElem_cons_zero, List.getElem_cons_succ, Act.put, List.setIfInBounds_toArray, List.set_cons_zero, List.set_cons_succ]
              refine wpAnyH_ready (rs := [8]) (by kernel_rfl) (by simp) (AllReadyH.cons rfl (fun K hK => ?_) AllReadyH.nil)
              go_simp
              clear hHeld
              refine hK.out _ _ trivial (fun hHeld => ?_)
              clear hK K
              try simp only [List.getElem_toArray, List.getElem_cons_zero, List.getElem_cons_succ, Act.put, List.setIfInBounds_toArray, List.set_cons_zero, List.set_cons_succ]
              refine wpAnyH_ready (rs := [9]) (by kernel_rfl) (by simp) (AllReadyH.cons rfl (fun K hK => ?_) AllReadyH.nil)
              refine step_push rfl (.tmp 65) (.tmp 73) rfl w8.heap.size j c A _ _ rfl rfl HOd.out (by omega) hsr ?_
              intro A' c' w10 O10 B10
              clear hHeld
              refine hK.out _ _ trivial (fun hHeld => ?_)
              clear hK K
              try simp only [List.getElem_toArray, List.getElem_cons_zero, List.getElem_cons_succ, Act.put, List.setIfInBounds_toArray, List.set_cons_zero, List.set_cons_succ]
              refine wpAnyH_take (i := 10) (v := ?v9) rfl (by kernel_rfl) (by kernel_rfl) (by kernel_rfl) (fun _ _ _ h => h) (Or.inl ⟨by rfl, ?hy9⟩) (by assumption) ?rest9
              case hy9 =>
                intro wz hSw
                clear hSw
                go_simp <;> with_reducible rfl
              try simp only [List.getElem_toArray, List.getElem_cons_zero, List.getElem_cons_succ, Act.put, List.setIfInBounds_toArray, List.set_cons_zero, List.set_cons_succ]
              refine wpAnyH_done (by kernel_rfl) ?_ _
              refine NoPanic.normal ?_
              go_wp2
              go_roundw
              case rel => exact ⟨j + 1, A', c', by omega, by go_num, rfl, by rw [← HNx.out]; exact O10, HBd.out.trans B10.out⟩
              case measure => simp [intOf]; omega
          · obtain rfl : j = m := by omega
            go_wp2
            go_ret3
            have hT : L.take j = L := List.take_of_length_le (by rw [HM.out]; omega)
            have HOz := HO.out
            rw [hT] at HOz
            exact ⟨A, c, rfl, HOz.from_ HB8.out.size, HB8.out.trans (HBr.out.mono HB8.out.size)⟩
      · have hln : L.length = rv := by omega
        have HM : Hid (L.length = rv) := hln
        rw [hln] at hlen ⊢
        have hl16 : rv ≤ 16 := hlen.2.2
        clear hln hlen
        go_enter Try.func15, Try.ntmps15
        go_wp2_with fail
        refine (HRm.out _).mono ?_
        rintro e w1 ⟨rfl, hb⟩
        have HB := Lib.hid hb
        clear hb HRm
        go_wp2_with fail
        refine (HR.out _).mono ?_
        rintro e w2 ⟨rfl, hb⟩
        have HB2 := Lib.hid (HB.out.trans (hb.mono HB.out.size))
        clear hb HB HR
        have b0 : Hid (Below (w2.heap.size + 1) (w2.alloc (.cells #[.int .i64 s, .int .i64 k, .int .u32 mm, .int .i64 r] 42)) ((w2.alloc (.cells #[.int .i64 s, .int .i64 k, .int .u32 mm, .int .i64 r] 42))).drew) := (Below.refl _ _).drew
        obtain ⟨_, _, x2, _⟩ := new4 (Below.refl (w2.heap.size + 1) (w2.alloc (.cells #[.int .i64 s, .int .i64 k, .int .u32 mm, .int .i64 r] 42)))
        obtain ⟨_, _, y2, _⟩ := new4 b0.out
        have LF : Hid (∀ W, Below (w2.heap.size + 1) (w2.alloc (.cells #[.int .i64 s, .int .i64 k, .int .u32 mm, .int .i64 r] 42)) W → Calls Try.prog 45 #[.int .u32 mm, .int .i64 p] W fun e w' => ∃ A c, e = .returned (.slice A rv c) ∧ Hid (OwnK 3 .i64 w' (w2.heap.size + 1) A rv c (ints fl)) ∧ Hid (Below (w2.heap.size + 1) (w2.alloc (.cells #[.int .i64 s, .int .i64 k, .int .u32 mm, .int .i64 r] 42)) w') ∧ w'.cell? ⟨w2.heap.size, 2, none⟩ = some (.int .u32 mm)) := fun W hW => (HF.out W).mono fun _ w' ⟨A, c, he, ho, hb⟩ => by
          have hb2 := below_on hW (by simp) hb
          have hz := hW.size
          simp only [World.size_alloc] at hz
          exact ⟨A, c, he, ho.from_ hz, hb2, (new4 hb2).2.2.1⟩
        clear HF
        go_wp2_with fail
        go_region_held3 (fun W => W.cell? ⟨w2.heap.size, 2, none⟩ = some (.int .u32 mm))
          (first | exact x2 | exact y2 | exact x6)
          (first | (go_at_call 46; refine (HPP.out _).mono ?_; rintro e w5 ⟨rfl, rfl⟩)
                 | (go_at_call 45; refine (LF.out _ b0.out).mono ?_; rintro e w6 ⟨A, c, rfl, O6, b6, x6⟩))
        have hl6 := b6.out.size
        simp only [World.size_alloc] at hl6
        have hl2 := HB2.out.size
        have HB6 : Hid (Below w.heap.size w w6) := (HB2.out.alloc HB2.out.size _).trans (b6.out.mono (by omega))
        have hcap := O6.out.cap.1
        have R6 := Lib.hid (O6.out.rd.take (m := rv) (by omega))
        rw [take_ints, ← HM.out, HT.out, HM.out] at R6
        have HBO := Lib.hid (sBitsOf_any A rv c w6.heap.size (ints L) w6 R6.out (Nat.le_refl _) (by omega))
        rw [hofA] at HBO
        generalize ofB (ints L) = ob at *
        have hcapI : (rv : Int) ≤ (c : Int) := by omega
        have hlnI : (0 : Int) ≤ (rv : Int) := by omega
        clear x2 y2 b0 b6 LF HB2 HPP O6 HT
        go_wp2_with fail
        refine HBO.out.mono ?_
        rintro e w7 ⟨rfl, hb7⟩
        have HB7 : Hid (Below w.heap.size w w7) := HB6.out.trans (hb7.mono HB6.out.size)
        have x7 := (hb7.cell (p := ⟨w2.heap.size, 2, none⟩) (by show w2.heap.size < _; omega)).trans x6
        have R7 := Lib.hid (R6.out.below hb7)
        have hl7 := hb7.size
        clear hb7 HBO R6 HB6 x6
        go_wp2_with fail
        refine (HCP.out _).mono ?_
        rintro e w8 ⟨rfl, hb8⟩
        have HB8 : Hid (Below w.heap.size w w8) := HB7.out.trans (hb8.mono HB7.out.size)
        have R8 := Lib.hid (R7.out.below (hb8.mono hl7))
        have hl8 := hb8.size
        clear hb8 HCP R7 HB7 x7
        have HO0 : Hid (OwnK 3 .i64 (w8.alloc (.cells #[] 3)) w8.heap.size (some ⟨w8.heap.size, 0, none⟩) 0 0 (offL z (L.take 0))) := World.ownsRow_made w8 #[] 0 (Nat.le_refl _) (by unfold maxLen; omega) rfl
        go_wp2
        go_loopw [17, 18] (fun v i wr => ∃ (j : Nat) (A : Option Addr) (c : Nat), j ≤ rv ∧ i = .int .i64 j ∧ v = .slice A j c ∧ Hid (OwnK 3 .i64 wr w8.heap.size A j c (offL z (L.take j))) ∧ Hid (Below w8.heap.size w8 wr)) (fun _ i _ => rv - (intOf i).toNat)
        case atStart => exact ⟨0, _, _, by omega, rfl, rfl, HO0, (Below.refl _ _).alloc (Nat.le_refl _) _⟩
        case round =>
          obtain ⟨j, A, c, hj, rfl, rfl, HO, HBr⟩ := hrel
          clear HO0
          have hsr : w8.heap.size ≤ wr.heap.size := HBr.out.size
          by_cases hlt : j < rv
          · have hjL : j < L.length := by rw [HM.out]; exact hlt
            obtain ⟨gm, om, rfl, hgm, hcm⟩ := R8.out.2 (by omega)
            have cm : wr.cell? ⟨gm, om + j, none⟩ = some (.int .i64 ((ints L)[j]?.getD 0)) := (HBr.out.cell (p := ⟨gm, om + j, none⟩) (by show gm < _; omega)).trans (hcm j hlt)
            have HNx := Lib.hid (offL_take_next (z := z) hjL)
            obtain ⟨q0, q1⟩ := int_at_bound hjL hL16.out
            generalize (ints L)[j]?.getD 0 = q at *
            have hmq : IntKind.i64.wrap (q * z) = q * z := by
              obtain ⟨q', rfl⟩ := Int.eq_ofNat_of_zero_le q0
              exact off_mul hz1 hz2 q' (by omega)
            have HOd : Hid (OwnK 3 .i64 wr.drew w8.heap.size A j c (offL z (L.take j))) := HO.out
            have HBd : Hid (Below w8.heap.size w8 wr.drew) := HBr.out.drew
            have cmd : wr.drew.cell? ⟨gm, om + j, none⟩ = some (.int .i64 q) := cm
            have hsd : w8.heap.size ≤ wr.drew.heap.size := hsr
            clear hcm
            go_wp2_with fail
            refine wp_region_noPanic ?_
            refine wp_region_held_drew (S := fun _ => True) (by kernel_rfl) trivial (fun hHeld => ?_)
            change wpAnyH _ _ _ _ _ _ _ _ (World.drew _)
            refine wpAnyH_take (i := 0) (v := ?v10) rfl (by kernel_rfl) (by kernel_rfl) (by kernel_rfl) (fun _ _ _ h => h) (Or.inl ⟨by rfl, ?hy10⟩) (by assumption) ?rest10
            case hy10 =>
              intro wz hSw
              clear hSw
              go_simp <;> with_reducible rfl
            try simp only [List.getElem_toArray, List.getElem_cons_zero, List.getElem_cons_succ, Act.put, List.setIfInBounds_toArray, List.set_cons_zero, List.set_cons_succ]
            refine wpAnyH_take (i := 1) (v := ?v11) rfl (by kernel_rfl) (by kernel_rfl) (by kernel_rfl) (fun _ _ _ h => h) (Or.inl ⟨by rfl, ?hy11⟩) (by assumption) ?rest11
            case hy11 =>
              intro wz hSw
              clear hSw
              go_simp <;> with_reducible rfl
            try simp only [List.getElem_toArray, List.getElem_cons_zero, List.getElem_cons_succ, Act.put, List.setIfInBounds_toArray, List.set_cons_zero, List.set_cons_succ]
            refine wpAnyH_take (i := 2) (v := ?v12) rfl (by kernel_rfl) (by kernel_rfl) (by kernel_rfl) (fun _ _ _ h => h) (Or.inl ⟨by rfl, ?hy12⟩) (by assumption) ?rest12
            case hy12 =>
              intro wz hSw
              clear hSw
              go_simp <;> with_reducible rfl
            try simp only [List.getElem_toArray, List.getElem_cons_zero, List.getElem_cons_succ, Act.put, List.setIfInBounds_toArray, List.set_cons_zero, List.set_cons_succ]
            refine wpAnyH_take (i := 5) (v := ?v13) rfl (by kernel_rfl) (by kernel_rfl) (by kernel_rfl) (fun _ _ _ h => h) (Or.inl ⟨by rfl, ?hy13⟩) (by assumption) ?rest13
            case hy13 =>
              intro wz hSw
              clear hSw
              go_simp <;> with_reducible rfl
            try simp only [List.getElem_toArray, List.getElem_cons_zero, List.getElem_cons_succ, Act.put, List.setIfInBounds_toArray, List.set_cons_zero, List.set_cons_succ]
            refine wpAnyH_take (i := 3) (v := ?v14) rfl (by kernel_rfl) (by kernel_rfl) (by kernel_rfl) (fun _ _ _ h => h) (Or.inl ⟨by rfl, ?hy14⟩) (by assumption) ?rest14
            case hy14 =>
              intro wz hSw
              clear hSw
              go_simp <;> with_reducible rfl
            try simp only [List.getElem_toArray, List.getElem_cons_zero, List.getElem_cons_succ, Act.put, List.setIfInBounds_toArray, List.set_cons_zero, List.set_cons_succ]
            refine wpAnyH_ready (rs := [4, 6]) (by kernel_rfl) (by simp) (AllReadyH.cons rfl (fun K hK => ?_) (AllReadyH.cons rfl (fun K hK => ?_) AllReadyH.nil))
            · go_simp
              clear hHeld
              refine hK.out _ _ trivial (fun hHeld => ?_)
              clear hK K
              try simp only [List.getElem_toArray, List.getElem_cons_zero, List.getElem_cons_succ, Act.put, List.setIfInBounds_toArray, List.set_cons_zero, List.set_cons_succ]
              refine wpAnyH_ready (rs := [6]) (by kernel_rfl) (by simp) (AllReadyH.cons rfl (fun K hK => ?_) AllReadyH.nil)
              go_simp
              refine (HCS.out _).mono ?_
              rintro e wc ⟨rfl, rfl⟩
              go_wp2_with fail
              clear hHeld
              refine hK.out _ _ trivial (fun hHeld => ?_)
              clear hK K
              try simp only [List.getElem_toArray, List.getElem_cons_zero, List.getElem_cons_succ, Act.put, List.setIfInBounds_toArray, List.set_cons_zero, List.set_cons_succ]
              refine wpAnyH_take (i := 7) (v := ?v15) rfl (by kernel_rfl) (by kernel_rfl) (by kernel_rfl) (fun _ _ _ h => h) (Or.inl ⟨by rfl, ?hy15⟩) (by assumption) ?rest15
              case hy15 =>
                intro wz hSw
                clear hSw
                go_simp <;> with_reducible rfl
              try simp only [List.getElem_toArray, List.getElem_cons_zero, List.getElem_cons_succ, Act.put, List.setIfInBounds_toArray, List.set_cons_zero, List.set_cons_succ]
              refine wpAnyH_ready (rs := [8]) (by kernel_rfl) (by simp) (AllReadyH.cons rfl (fun K hK => ?_) AllReadyH.nil)
              go_simp
              clear hHeld
              refine hK.out _ _ trivial (fun hHeld => ?_)
              clear hK K
              try simp only [List.getElem_toArray, List.getElem_cons_zero, List.getElem_cons_succ, Act.put, List.setIfInBounds_toArray, List.set_cons_zero, List.set_cons_succ]
              refine wpAnyH_ready (rs := [9]) (by kernel_rfl) (by simp) (AllReadyH.cons rfl (fun K hK => ?_) AllReadyH.nil)
              refine step_push rfl (.tmp 65) (.tmp 73) rfl w8.heap.size j c A _ _ rfl rfl HOd.out (by omega) hsr ?_
              intro A' c' w10 O10 B10
              clear hHeld
              refine hK.out _ _ trivial (fun hHeld => ?_)
              clear hK K
              try simp only [List.getElem_toArray, List.getElem_cons_zero, List.getElem_cons_succ, Act.put, List.setIfInBounds_toArray, List.set_cons_zero, List.set_cons_succ]
              refine wpAnyH_take (i := 10) (v := ?v16) rfl (by kernel_rfl) (by kernel_rfl) (by kernel_rfl) (fun _ _ _ h => h) (Or.inl ⟨by rfl, ?hy16⟩) (by assumption) ?rest16
              case hy16 =>
                intro wz hSw
                clear hSw
                go_simp <;> with_reducible rfl
              try simp only [List.getElem_toArray, List.getElem_cons_zero, List.getElem_cons_succ, Act.put, List.setIfInBounds_toArray, List.set_cons_zero, List.set_cons_succ]
              refine wpAnyH_done (by kernel_rfl) ?_ _
              refine NoPanic.normal ?_
              go_wp2
              go_roundw
              case rel => exact ⟨j + 1, A', c', by omega, by go_num, rfl, by rw [← HNx.out]; exact O10, HBd.out.trans B10.out⟩
              case measure => simp [intOf]; omega
            · go_simp
              refine (HCS.out _).mono ?_
              rintro e wc ⟨rfl, rfl⟩
              go_wp2_with fail
              clear hHeld
              refine hK.out _ _ trivial (fun hHeld => ?_)
              clear hK K
              try simp only [List.getElem_toArray, List.getElem_cons_zero, List.getElem_cons_succ, Act.put, List.setIfInBounds_toArray, List.set_cons_zero, List.set_cons_succ]
              refine wpAnyH_ready (rs := [4]) (by kernel_rfl) (by simp) (AllReadyH.cons rfl (fun K hK => ?_) AllReadyH.nil)
              go_simp
              clear hHeld
              refine hK.out _ _ trivial (fun hHeld => ?_)
              clear hK K
              try simp only [List.getElem_toArray, List.getElem_cons_zero, List.getElem_cons_succ, Act.put, List.setIfInBounds_toArray, List.set_cons_zero, List.set_cons_succ]
              refine wpAnyH_take (i := 7) (v := ?v17) rfl (by kernel_rfl) (by kernel_rfl) (by kernel_rfl) (fun _ _ _ h => h) (Or.inl ⟨by rfl, ?hy17⟩) (by assumption) ?rest17
              case hy17 =>
                intro wz hSw
                clear hSw
                go_simp <;> with_reducible rfl
              try simp only [List.getElem_toArray, List.getElem_cons_zero, List.getElem_cons_succ, Act.put, List.setIfInBounds_toArray, List.set_cons_zero, List.set_cons_succ]
              refine wpAnyH_ready (rs := [8]) (by kernel_rfl) (by simp) (AllReadyH.cons rfl (fun K hK => ?_) AllReadyH.nil)
              go_simp
              clear hHeld
              refine hK.out _ _ trivial (fun hHeld => ?_)
              clear hK K
              try simp only [List.getElem_toArray, List.getElem_cons_zero, List.getElem_cons_succ, Act.put, List.setIfInBounds_toArray, List.set_cons_zero, List.set_cons_succ]
              refine wpAnyH_ready (rs := [9]) (by kernel_rfl) (by simp) (AllReadyH.cons rfl (fun K hK => ?_) AllReadyH.nil)
              refine step_push rfl (.tmp 65) (.tmp 73) rfl w8.heap.size j c A _ _ rfl rfl HOd.out (by omega) hsr ?_
              intro A' c' w10 O10 B10
              clear hHeld
              refine hK.out _ _ trivial (fun hHeld => ?_)
              clear hK K
              try simp only [List.getElem_toArray, List.getElem_cons_zero, List.getElem_cons_succ, Act.put, List.setIfInBounds_toArray, List.set_cons_zero, List.set_cons_succ]
              refine wpAnyH_take (i := 10) (v := ?v18) rfl (by kernel_rfl) (by kernel_rfl) (by kernel_rfl) (fun _ _ _ h => h) (Or.inl ⟨by rfl, ?hy18⟩) (by assumption) ?rest18
              case hy18 =>
                intro wz hSw
                clear hSw
                go_simp <;> with_reducible rfl
              try simp only [List.getElem_toArray, List.getElem_cons_zero, List.getElem_cons_succ, Act.put, List.setIfInBounds_toArray, List.set_cons_zero, List.set_cons_succ]
              refine wpAnyH_done (by kernel_rfl) ?_ _
              refine NoPanic.normal ?_
              go_wp2
              go_roundw
              case rel => exact ⟨j + 1, A', c', by omega, by go_num, rfl, by rw [← HNx.out]; exact O10, HBd.out.trans B10.out⟩
              case measure => simp [intOf]; omega
          · obtain rfl : j = rv := by omega
            go_wp2
            go_ret3
            have hT : L.take j = L := List.take_of_length_le (by rw [HM.out]; omega)
            have HOz := HO.out
            rw [hT] at HOz
            exact ⟨A, c, rfl, HOz.from_ HB8.out.size, HB8.out.trans (HBr.out.mono HB8.out.size)⟩

end Go.Proofs.Ytomcdfaomfkmjaa
