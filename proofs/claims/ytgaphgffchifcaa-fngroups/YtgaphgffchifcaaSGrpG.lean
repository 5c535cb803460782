/- The contracts of the model's GroupOf and Groups. -/
import Derived.Test.YtgaphgffchifcaaSGrp
namespace Go.Proofs.Ytgaphgffchifcaa
open Go.RowKit

/-- 'append(s, x)' onto a slice of words that the call owns, and what it leaves alone. -/
theorem wpList_push_word {w : World} {ops : Array Oper} {rest : List Oper} {o : Oper} {a : Act} {Q : Exit → Act → World → Prop} (hgd : o.guard = none) (s x : Operand)
    (ho : o.op = .call { callee := .builtin .append, args := #[s, x], argTypes := #[36, 36] })
    (b0 n c : Nat) (A : Option Addr) (zs : List Int) (z : Int) (hs : a.eval s = .slice A n c) (hx : a.eval x = .slice (some ⟨w.heap.size, 0, none⟩) 1 1)
    (hO : OwnK 24 .u32 w b0 A n c zs) (hn : n ≤ 1000000) (hb : b0 ≤ w.heap.size)
    (h : ∀ A' c' w', Hid (OwnK 24 .u32 w' b0 A' (n + 1) c' (zs ++ [z])) → Hid (w.grownBy w' (Value.slice A n c).ownBlock) → Hid (∀ g, (Value.slice A' (n + 1) c').ownBlock = some g → (Value.slice A n c).ownBlock = some g ∨ w.heap.size ≤ g) → wpList Try.prog ops Q rest (a.put o.dst (.slice A' (n + 1) c')) w') :
    wpList Try.prog ops Q (o :: rest) a (w.alloc (.cells #[.int .u32 z] 24)) := by
  obtain ⟨i0, hi, hz0, hz1, hz2⟩ := info_parts info_word
  refine wpList_append_own_at _ hgd s x 36 ho b0 24 i0 (.int .u32 0) 1 4 Try.underlying36 hi hz0 hz1 hz2 rfl (by omega) (.slice A n c) n _ hs (hO.alloc _) ⟨w.heap.size, 0, none⟩ 1 1 [.int .u32 z] hx rfl ?_ (by simp [Value.oneCell']) (by unfold maxLen; omega) (by omega) (by simp; omega) ?_
  · intro j u hj
    match j, hj with
    | 0, hj => simp at hj; subst hj; simp [Addr.add]
  · intro v' w' h1 h2 _ h4
    have h3 : w'.ownsRow b0 24 1 v' (n + 1) ((zs ++ [z]).map (Value.int .u32)) := by simpa using h1
    obtain ⟨A', c', rfl, h5⟩ := OwnK.shape h3
    refine h A' c' w' h5 ?_ ?_
    · exact ⟨h2.os, h2.tape, h2.output, Nat.le_trans (by simp) h2.size, fun i hi hne => (h2.block i (by simp; omega) hne).trans (Below.heap_alloc w _ i hi)⟩
    · intro g hg
      rcases h4 with h4 | h4
      · exact .inl (h4 ▸ hg)
      · rw [hg] at h4
        refine .inr ?_
        injection h4 with h4
        simp at h4
        omega

/-- What Groups and GroupOf answer. -/
def groupsV (n X : Nat) (zs : List Int) : List Nat := if n = 8 ∧ X < 256 then groupsL zs (onesTo X 32) else []
def groupOfV (n X : Nat) (zs : List Int) : Nat := (groupsV n X zs).head?.getD 0
theorem RdK.more {kd : IntKind} {w : World} {B B' n : Nat} {A : Option Addr} {zs : List Int} (h : RdK kd w B A n zs) (hb : B ≤ B') : RdK kd w B' A n zs := ⟨h.1, fun hn => by
  obtain ⟨g, o, e, hg, hc⟩ := h.2 hn
  exact ⟨g, o, e, by omega, hc⟩⟩
theorem alike_ofA {zs : List Int} {l : List Nat} {z : Int} (hn : l.Nodup) (h8 : ∀ j ∈ l, j < 8) : ofA (ints (alike zs l z)) = grp zs l z := by
  have h : bitsG 0 (ints (alike zs l z)) = some (orL (alike zs l z)) := bitsG_ok _ 0 (fun k hk => ⟨by have := alike_lt h8 k hk; omega, Nat.zero_testBit k⟩) (List.Sublist.nodup List.filter_sublist hn)
  unfold ofA grp
  rw [h]
  rfl
theorem first0_cons (zs : List Int) (k : Nat) (t : List Nat) : first0 zs (k :: t) = at0 zs k := rfl
/-- The lanes that are left behind the first group. -/
def others (zs : List Int) (l : List Nat) (z : Int) : List Nat := l.filter (fun k => decide (at0 zs k ≠ z))
theorem others_take (zs : List Int) (l : List Nat) (z : Int) {k : Nat} (h : k < l.length) : others zs (l.take (k + 1)) z = others zs (l.take k) z ++ (if at0 zs l[k] = z then [] else [l[k]]) := by
  unfold others
  rw [List.take_succ_eq_append_getElem h, List.filter_append]
  by_cases e : at0 zs l[k] = z <;> simp [e]
theorem others_len (zs : List Int) {l : List Nat} (h : 0 < l.length) : (others zs l (first0 zs l)).length < l.length := by
  cases l with
  | nil => simp at h
  | cons k t =>
    unfold others
    rw [List.filter_cons_of_neg (by simp [first0_cons]), List.length_cons]
    have := List.length_filter_le (fun j => decide (at0 zs j ≠ first0 zs (k :: t))) t
    omega
theorem groupsL_step (zs : List Int) {l : List Nat} (h : 0 < l.length) (hn : l.Nodup) : groupsL zs l = grp zs l (first0 zs l) :: groupsL zs (others zs l (first0 zs l)) := by
  cases l with
  | nil => simp at h
  | cons k t => exact groupsL_cons zs k t hn
theorem groupOfV_ok {n X : Nat} {zs : List Int} (hn : n = 8) (hX : X < 256) : groupOfV n X zs = ofA (ints (alike zs (onesTo X 32) (first0 zs (onesTo X 32)))) := by
  unfold groupOfV groupsV
  rw [if_pos ⟨hn, hX⟩, alike_ofA (ones_nodup X 32) (fun j hj => ones_lt_8 hX hj)]
  cases hl : onesTo X 32 with
  | nil => rfl
  | cons k t =>
    have hnd := ones_nodup X 32
    rw [hl] at hnd
    rw [groupsL_step zs (by simp) hnd]
    rfl
/-- The length of a slice. -/
def lenOf : Value → Nat
  | .slice _ n _ => n
  | _ => 0

set_option maxRecDepth 100000 in
set_option maxHeartbeats 1000000 in
theorem sGroupOf_any (A : Option Addr) (n c B X : Nat) (zs : List Int) (w : World) (h : RdK .i64 w B A n zs) (hB : B ≤ w.heap.size) (hX : X < 4294967296) :
    Calls Try.prog 27 #[.slice A n c, .int .u32 (X : Int)] w fun e w' => e = .returned (.int .u32 (groupOfV n X zs : Int)) ∧ Below w.heap.size w w' := by
  have HR := Lib.hid (sRow_any A n c w)
  have HM : Hid (∀ W, Calls Try.prog 56 #[.int .u32 (X : Int)] W fun e w' => e = .returned (.bool (decide (X < 256))) ∧ Below W.heap.size W w') := fun W => sMask_any X W hX
  by_cases hn : n = 8
  · subst hn
    rw [decide_eq_true rfl] at HR
    by_cases hx : X < 256
    · rw [decide_eq_true hx] at HM
      have HC : Hid (∀ W, Calls Try.prog 55 #[.int .u32 (X : Int)] W fun e w' => ∃ A c, e = .returned (.slice A (onesTo X 32).length c) ∧ OwnK 3 .i64 w' W.heap.size A (onesTo X 32).length c (ints (onesTo X 32)) ∧ Below W.heap.size W w') := fun W => sBitList_any X W hX
      rw [groupOfV_ok rfl hx]
      have HL8 : Hid (∀ j ∈ onesTo X 32, j < 8) := fun j hj => ones_lt_8 hx hj
      have hlen := onesTo_len X 32
      have H := Lib.hid h
      clear hX hx h
      generalize onesTo X 32 = l at *
      go_enter Try.func27, Try.ntmps27
      go_wp2_with fail
      refine HR.out.mono ?_
      rintro e w1 ⟨rfl, rfl⟩
      go_wp2_with fail
      refine (HM.out w).mono ?_
      rintro e w2 ⟨rfl, hb2⟩
      have B2 := Lib.hid hb2
      have z2 := hb2.size
      clear hb2 HR HM
      go_wp2_with fail
      refine (HC.out _).mono ?_
      rintro e w3 ⟨Al, cl, rfl, hol, hb3⟩
      have OL := Lib.hid hol
      have z3 := hb3.size
      have B3 : Hid (Below w.heap.size w w3) := B2.out.trans (hb3.mono z2)
      clear hol hb3 B2 HC
      go_wp2_with fail
      refine (sAlike_any A Al c cl w3.heap.size zs l w3 ((H.out.below (B3.out.mono hB)).more (by omega)) OL.out.rd (Nat.le_refl _) HL8.out hlen).mono ?_
      rintro e w4 ⟨A4, c4, rfl, ho4, hb4⟩
      have O4 := Lib.hid ho4
      have B4 : Hid (Below w.heap.size w w4) := B3.out.trans (hb4.mono (by omega))
      have hl4 := alike_len zs l (first0 zs l)
      clear ho4 hb4 B3
      generalize hae : alike zs l (first0 zs l) = al at *
      have HAE := Lib.hid hae
      clear hae
      generalize al.length = m at *
      go_wp2_with fail
      refine (sBitsOf_any A4 m c4 w4.heap.size (ints al) w4 O4.out.rd (Nat.le_refl _) (by omega)).mono ?_
      rintro e w5 ⟨rfl, hb5⟩
      have B5 : Hid (Below w.heap.size w w5) := B4.out.trans (hb5.mono B4.out.size)
      clear hb5
      go_wp2
      go_ret
      rw [HAE.out]
      exact ⟨rfl, B5.out⟩
    · rw [decide_eq_false hx] at HM
      have hg : groupOfV 8 X zs = 0 := by unfold groupOfV groupsV; rw [if_neg fun e => hx e.2]; rfl
      rw [hg]
      clear hX hx hg h
      go_enter Try.func27, Try.ntmps27
      go_wp2_with fail
      refine HR.out.mono ?_
      rintro e w1 ⟨rfl, rfl⟩
      go_wp2_with fail
      refine (HM.out w).mono ?_
      rintro e w2 ⟨rfl, hb2⟩
      have B2 := Lib.hid hb2
      clear hb2 HR HM
      go_wp2
      go_ret
      exact ⟨rfl, B2.out⟩
  · rw [decide_eq_false hn] at HR
    have hg : groupOfV n X zs = 0 := by unfold groupOfV groupsV; rw [if_neg fun e => hn e.1]; rfl
    rw [hg]
    clear hX hg h hn HM
    go_enter Try.func27, Try.ntmps27
    go_wp2_with fail
    refine HR.out.mono ?_
    rintro e w1 ⟨rfl, rfl⟩
    go_wp2
    go_ret
    exact ⟨rfl, Below.refl _ _⟩

set_option maxRecDepth 100000 in
set_option maxHeartbeats 4000000 in
theorem sGroups_any (A : Option Addr) (n c B X : Nat) (zs : List Int) (w : World) (h : RdK .i64 w B A n zs) (hB : B ≤ w.heap.size) (hX : X < 4294967296) :
    Calls Try.prog 25 #[.slice A n c, .int .u32 (X : Int)] w fun e w' => ∃ A' c', e = .returned (.slice A' (groupsV n X zs).length c') ∧ OwnK 24 .u32 w' w.heap.size A' (groupsV n X zs).length c' (ints (groupsV n X zs)) ∧ Below w.heap.size w w' := by
  have HR := Lib.hid (sRow_any A n c (w.alloc (.cells #[] 24)))
  have HM : Hid (∀ W, Calls Try.prog 56 #[.int .u32 (X : Int)] W fun e w' => e = .returned (.bool (decide (X < 256))) ∧ Below W.heap.size W w') := fun W => sMask_any X W hX
  have OO : Hid (OwnK 24 .u32 (w.alloc (.cells #[] 24)) w.heap.size (some ⟨w.heap.size, 0, none⟩) 0 0 (ints [])) := World.ownsRow_made w #[] 0 (Nat.le_refl _) (by unfold maxLen; omega) rfl
  have B0 : Hid (Below w.heap.size w (w.alloc (.cells #[] 24))) := (Below.refl _ w).alloc (Nat.le_refl _) _
  by_cases hn : n = 8
  · subst hn
    rw [decide_eq_true rfl] at HR
    by_cases hx : X < 256
    · rw [decide_eq_true hx] at HM
      have HC : Hid (∀ W, Calls Try.prog 55 #[.int .u32 (X : Int)] W fun e w' => ∃ A c, e = .returned (.slice A (onesTo X 32).length c) ∧ OwnK 3 .i64 w' W.heap.size A (onesTo X 32).length c (ints (onesTo X 32)) ∧ Below W.heap.size W w') := fun W => sBitList_any X W hX
      have hg : groupsV 8 X zs = groupsL zs (onesTo X 32) := if_pos ⟨rfl, hx⟩
      rw [hg]
      have HL8 : Hid (∀ j ∈ onesTo X 32, j < 8) := fun j hj => ones_lt_8 hx hj
      have HND : Hid ((onesTo X 32).Nodup) := ones_nodup X 32
      have hlen := onesTo_len X 32
      have H := Lib.hid h
      obtain ⟨ga, oa, rfl, hga, hca⟩ := h.2 (by omega)
      have HA := Lib.hid hca
      clear hX hx h hg hca
      generalize onesTo X 32 = l at *
      go_enter Try.func25, Try.ntmps25
      go_wp2_with fail
      refine HR.out.mono ?_
      rintro e w1 ⟨rfl, rfl⟩
      go_wp2_with fail
      refine (HM.out _).mono ?_
      rintro e w2 ⟨rfl, hb2⟩
      have O2 := Lib.hid (OO.out.below hb2)
      have z2 := hb2.size
      simp only [World.size_alloc] at z2
      have B2 : Hid (Below w.heap.size w w2) := B0.out.trans (hb2.mono (by simp))
      clear hb2 HR HM OO B0
      go_wp2_with fail
      refine (HC.out _).mono ?_
      rintro e w3 ⟨Al, cl, rfl, hol, hb3⟩
      have OL := Lib.hid hol
      have O3 := Lib.hid (O2.out.below hb3)
      have z3 := hb3.size
      have B3 : Hid (Below w.heap.size w w3) := B2.out.trans (hb3.mono (by omega))
      have NE : Hid (∀ g, (Value.slice (some ⟨w.heap.size, 0, none⟩) 0 0).ownBlock = some g → (Value.slice Al l.length cl).ownBlock ≠ some g) := fun g hg e => by
        have h1 : w.heap.size = g := by injection hg
        have h2 := (OwnK.range hol g e).1
        omega
      clear hol hb3 B2 HC O2
      go_wp2
      go_loopw [5, 6] (fun o v wr => ∃ (d r : List Nat) (A1 A2 : Option Addr) (c1 c2 : Nat), Hid (groupsL zs l = d ++ groupsL zs r) ∧ Hid (∀ j ∈ r, j < 8) ∧ Hid r.Nodup ∧ d.length + r.length ≤ 32 ∧ o = .slice A1 d.length c1 ∧ v = .slice A2 r.length c2 ∧ Hid (OwnK 24 .u32 wr w.heap.size A1 d.length c1 (ints d)) ∧ Hid (OwnK 3 .i64 wr w.heap.size A2 r.length c2 (ints r)) ∧ Hid (∀ g, (Value.slice A1 d.length c1).ownBlock = some g → (Value.slice A2 r.length c2).ownBlock ≠ some g) ∧ Hid (Below w.heap.size w wr)) (fun _ v _ => lenOf v)
      case atStart => exact ⟨[], l, _, _, _, _, rfl, HL8, HND, by simpa using hlen, rfl, rfl, O3, OL.out.from_ (by omega), NE, B3⟩
      case round =>
        obtain ⟨d, r, A1, A2, c1, c2, HG, HR8, HRN, hdl, rfl, rfl, HO, HR, HNE, HB⟩ := hrel
        clear O3 OL NE B3 HL8 HND hlen
        have hs : w.heap.size ≤ wr.heap.size := HB.out.size
        by_cases hlt : 0 < r.length
        · have hlt' : (0 : Int) < (r.length : Int) := by omega
          have HST := Lib.hid (groupsL_step zs hlt HRN.out)
          have HOL := Lib.hid (others_len zs hlt)
          have HAO := Lib.hid (alike_ofA (zs := zs) (z := first0 zs r) HRN.out HR8.out)
          have HAL := Lib.hid (alike_len zs r (first0 zs r))
          have HSA := Lib.hid (sAlike_any (some ⟨ga, oa, none⟩) A2 c c2 wr.heap.size zs r wr ((H.out.below (HB.out.mono hB)).more (by omega)) HR.out.rd (Nat.le_refl _) HR8.out (by omega))
          generalize hal : alike zs r (first0 zs r) = al at *
          generalize hml : al.length = ml at *
          have hm32 : ml ≤ 32 := by have := HAL.out; omega
          clear hal hml HAL
          go_wp2_with fail
          refine HSA.out.mono ?_
          rintro e w4 ⟨A4, c4, rfl, ho4, hb4⟩
          have O4 := Lib.hid ho4
          have HO4 := Lib.hid (HO.out.below hb4)
          have HR4 := Lib.hid (HR.out.below hb4)
          have z4 := hb4.size
          have B4 : Hid (Below w.heap.size w w4) := HB.out.trans (hb4.mono hs)
          clear ho4 hb4 HO HR HB HSA
          go_wp2_with fail
          refine (sBitsOf_any A4 ml c4 w4.heap.size (ints al) w4 O4.out.rd (Nat.le_refl _) (by omega)).mono ?_
          rintro e w5 ⟨rfl, hb5⟩
          rw [HAO.out]
          have HO5 := Lib.hid (HO4.out.below hb5)
          have HR5 := Lib.hid (HR4.out.below hb5)
          have z5 := hb5.size
          have B5 : Hid (Below w.heap.size w w5) := B4.out.trans (hb5.mono (by omega))
          clear hb5 HO4 HR4 B4 O4 HAO
          go_wp2_with (at_builtin; refine wpList_push_word rfl (.tmp 35) (.tmp 37) rfl w.heap.size d.length c1 A1 _ _ rfl rfl HO5.out (by omega) (by omega) ?_)
          intro A6 c6 w6 O6 G6 N6
          have R6 : Hid (OwnK 3 .i64 w6 w.heap.size A2 r.length c2 (ints r)) := HR5.out.far G6.out (fun g hg e => HNE.out g e hg)
          have NE6 : Hid (∀ g, (Value.slice A6 (d.length + 1) c6).ownBlock = some g → (Value.slice A2 r.length c2).ownBlock ≠ some g) := fun g hg e => by
            rcases N6.out g hg with h | h
            · exact HNE.out g h e
            · have := (OwnK.range HR5.out g e).2
              omega
          have B6 : Hid (Below w.heap.size w w6) := B5.out.grown G6.out (by omega) (fun g hg => (OwnK.range HO5.out g hg).1)
          have z6 := G6.out.size
          clear HO5 HR5 B5 G6 N6 HNE
          have OO : Hid (OwnK 3 .i64 (w6.alloc (.cells #[] 3)) w6.heap.size (some ⟨w6.heap.size, 0, none⟩) 0 0 (ints (others zs (r.take 0) (first0 zs r)))) := World.ownsRow_made w6 #[] 0 (Nat.le_refl _) (by unfold maxLen; omega) rfl
          have B0 : Hid (Below w6.heap.size w6 (w6.alloc (.cells #[] 3))) := (Below.refl _ w6).alloc (Nat.le_refl _) _
          go_wp2
          go_loopw [10, 11] (fun v i wq => ∃ (k m : Nat) (A' : Option Addr) (c' : Nat), k ≤ r.length ∧ m ≤ k ∧ i = .int .i64 k ∧ v = .slice A' m c' ∧ Hid ((others zs (r.take k) (first0 zs r)).length = m) ∧ Hid (OwnK 3 .i64 wq w6.heap.size A' m c' (ints (others zs (r.take k) (first0 zs r)))) ∧ Hid (Below w6.heap.size w6 wq)) (fun _ i _ => r.length - (intOf i).toNat)
          case atStart => exact ⟨0, 0, _, _, by omega, by omega, rfl, rfl, rfl, OO, B0⟩
          case round =>
            obtain ⟨k, m, A', c', hk, hmk, rfl, rfl, HM, HQ, HBq⟩ := hrel
            clear OO B0
            have hsq : w6.heap.size ≤ wr.heap.size := HBq.out.size
            by_cases hkr : k < r.length
            · obtain ⟨gl, rfl, _, hgl⟩ := R6.out.form (by omega)
              have e1 := R6.out.cell rfl hkr
              have e0 := R6.out.cell rfl (show 0 < r.length by omega)
              rw [ints_at r hkr] at e1
              rw [ints_at r (show 0 < r.length by omega)] at e0
              have e1' := (HBq.out.cell (p := ⟨gl, k, none⟩) hgl).trans e1
              have e0' := (HBq.out.cell (p := ⟨gl, 0, none⟩) hgl).trans e0
              have hj : r[k] < 8 := HR8.out _ (List.getElem_mem hkr)
              have hj0 : r[0] < 8 := HR8.out _ (List.getElem_mem _)
              have f2 : wr.cell? ⟨ga, oa + r[k], none⟩ = some (.int .i64 (at0 zs r[k])) := (HBq.out.cell (p := ⟨ga, oa + r[k], none⟩) (by show ga < _; omega)).trans ((B6.out.cell (p := ⟨ga, oa + r[k], none⟩) (by show ga < _; omega)).trans (HA.out _ hj))
              have f3 : wr.cell? ⟨ga, oa + r[0], none⟩ = some (.int .i64 (at0 zs r[0])) := (HBq.out.cell (p := ⟨ga, oa + r[0], none⟩) (by show ga < _; omega)).trans ((B6.out.cell (p := ⟨ga, oa + r[0], none⟩) (by show ga < _; omega)).trans (HA.out _ hj0))
              have hf : first0 zs r = at0 zs r[0] := by unfold first0; rw [List.getElem?_eq_getElem (by omega), Option.getD_some]
              have HT := Lib.hid (others_take zs r (first0 zs r) hkr)
              have hkl : (k : Int) < (r.length : Int) := by omega
              have hz0 : first0 zs r = first0 zs r := rfl
              rw [← hf] at f3
              generalize hzz : first0 zs r = z0 at HT f3 HM HQ
              generalize at0 zs r[k] = z at *
              generalize r[k] = j at *
              generalize r[0] = j0 at *
              have hj' : (j : Int) < 8 := by omega
              have hj0' : (j0 : Int) < 8 := by omega
              have HZ := Lib.hid hzz
              clear hf e1 e0 hz0 hzz
              by_cases hz : z = z0
              · rw [if_pos hz, List.append_nil] at HT
                have hz' : (z != z0) = false := by simpa using hz
                clear hz
                go_wp2
                go_quiet (fail)
                go_wp2
                go_roundw
                case rel =>
                  refine ⟨k + 1, m, A', c', by omega, by omega, by go_num, rfl, ?_, ?_, ⟨HBq.out.os, HBq.out.tape, HBq.out.output, HBq.out.size, HBq.out.block⟩⟩
                  · rw [HT.out]; exact HM
                  · rw [HT.out]; exact HQ.out
                case measure => simp [intOf]; omega
              · rw [if_neg hz] at HT
                have hz' : (z != z0) = true := by simpa using hz
                clear hz
                go_wp2
                go_quiet (fail)
                go_wp2_with (at_builtin; refine wpList_push_int rfl (.tmp 60) (.tmp 65) rfl w6.heap.size m c' A' _ _ rfl rfl HQ.out (by omega) hsq ?_)
                intro A8 c8 w8 O8 B8
                have HB8 : Hid (Below w6.heap.size w6 w8) := (show Below w6.heap.size w6 (wr.drewN nq) from ⟨HBq.out.os, HBq.out.tape, HBq.out.output, HBq.out.size, HBq.out.block⟩).trans B8.out
                clear HBq B8 HQ
                go_wp2
                go_roundw
                case rel =>
                  refine ⟨k + 1, m + 1, A8, c8, by omega, by omega, by go_num, rfl, ?_, ?_, HB8⟩
                  · show _ = _
                    rw [HT.out, List.length_append, HM.out]; rfl
                  · rw [HT.out, ints_snoc]; exact O8
                case measure => simp [intOf]; omega
            · obtain rfl : k = r.length := by omega
              have HQ' := HQ.out
              have hm' := HM.out
              rw [List.take_length] at HQ' hm'
              have HQ2 := Lib.hid HQ'
              have HM2 := Lib.hid hm'
              clear HQ' hm' HQ HM
              go_wp2
              go_roundw
              case rel =>
                refine ⟨d ++ [grp zs r (first0 zs r)], others zs r (first0 zs r), A6, A', c6, c', ?_, ?_, ?_, ?_, ?_, ?_, ?_, ?_, ?_, ?_⟩
                · show _ = _
                  rw [HG.out, HST.out]
                  simp
                · exact fun j hj => HR8.out j (List.mem_filter.1 hj).1
                · exact List.Sublist.nodup List.filter_sublist HRN.out
                · have := HOL.out
                  simp
                  omega
                · simp
                · rw [HM2.out]
                · rw [List.length_append, ints_snoc]
                  exact O6.out.below HBq.out
                · rw [HM2.out]
                  exact HQ2.out.from_ (by omega)
                · rw [HM2.out]
                  intro g hg e
                  have h1 := (OwnK.range HQ2.out g e).1
                  have h2 := (OwnK.range O6.out g (by simpa using hg)).2
                  omega
                · exact B6.out.trans (HBq.out.mono (by omega))
              case measure =>
                have := HOL.out
                have := HM2.out
                simp [lenOf]
                omega
        · have hr0 : r = [] := List.eq_nil_of_length_eq_zero (by omega)
          subst hr0
          have hG := HG.out
          rw [groupsL_nil, List.append_nil] at hG
          have HG2 := Lib.hid hG
          clear hG HG
          go_wp2
          go_ret
          rw [HG2.out]
          exact ⟨A1, c1, rfl, HO.out, HB.out⟩
    · rw [decide_eq_false hx] at HM
      have hg : groupsV 8 X zs = [] := if_neg fun e => hx e.2
      rw [hg]
      clear hX hx hg h
      go_enter Try.func25, Try.ntmps25
      go_wp2_with fail
      refine HR.out.mono ?_
      rintro e w1 ⟨rfl, rfl⟩
      go_wp2_with fail
      refine (HM.out _).mono ?_
      rintro e w2 ⟨rfl, hb2⟩
      have O2 := Lib.hid (OO.out.below hb2)
      have B2 : Hid (Below w.heap.size w w2) := B0.out.trans (hb2.mono (by simp))
      clear hb2 HR HM OO B0
      go_wp2
      go_ret
      exact ⟨_, 0, rfl, O2.out, B2.out⟩
  · rw [decide_eq_false hn] at HR
    have hg : groupsV n X zs = [] := if_neg fun e => hn e.1
    rw [hg]
    clear hX hg h hn HM
    go_enter Try.func25, Try.ntmps25
    go_wp2_with fail
    refine HR.out.mono ?_
    rintro e w1 ⟨rfl, rfl⟩
    go_wp2
    go_ret
    exact ⟨_, 0, rfl, OO.out, B0.out⟩

end Go.Proofs.Ytgaphgffchifcaa
