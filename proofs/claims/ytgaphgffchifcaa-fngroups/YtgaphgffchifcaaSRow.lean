/- The contracts of the model's l03Row and Gather. -/
import Derived.Test.YtgaphgffchifcaaSLane
import Derived.Test.YtgaphgffchifcaaIGather
namespace Go.Proofs.Ytgaphgffchifcaa
open Go.RowKit

set_option maxHeartbeats 400000 in
theorem sRow_any (A : Option Addr) (n c : Nat) (w : World) :
    Calls Try.prog 66 #[.slice A n c] w fun e w' => e = .returned (.bool (decide (n = 8))) ∧ w = w' := by
  by_cases h : n = 8
  · subst h
    go_enter Try.func66, Try.ntmps66
    go_wp2
    go_ret
    exact ⟨rfl, rfl⟩
  · have h' : ((n : Int) == 8) = false := by simp; omega
    rw [decide_eq_false h]
    clear h
    go_enter Try.func66, Try.ntmps66
    go_wp2
    go_ret
    exact ⟨rfl, rfl⟩

theorem gatherV_len (n X : Nat) (zs : List Int) : (gatherV n X zs).length ≤ 32 := by
  unfold gatherV
  split
  · rw [gath_len]; exact onesTo_len X 32
  · simp
theorem gath_take (zs : List Int) (l : List Nat) {k : Nat} (h : k < l.length) : gath zs (l.take (k + 1)) = gath zs (l.take k) ++ [zs[l[k]]?.getD 0] := by
  rw [List.take_succ_eq_append_getElem h, gath_snoc]

set_option maxRecDepth 100000 in
set_option maxHeartbeats 1000000 in
theorem sGather_any (A : Option Addr) (n c B X : Nat) (zs : List Int) (w : World) (h : RdK .i64 w B A n zs) (hB : B ≤ w.heap.size) (hX : X < 4294967296) :
    Calls Try.prog 34 #[.slice A n c, .int .u32 (X : Int)] w fun e w' => ∃ A' c', e = .returned (.slice A' (gatherV n X zs).length c') ∧ OwnK 3 .i64 w' w.heap.size A' (gatherV n X zs).length c' (gatherV n X zs) ∧ Below w.heap.size w w' := by
  have HR := Lib.hid (sRow_any A n c w)
  have HM : Hid (∀ W, Calls Try.prog 56 #[.int .u32 (X : Int)] W fun e w' => e = .returned (.bool (decide (X < 256))) ∧ Below W.heap.size W w') := fun W => sMask_any X W hX
  by_cases hn : n = 8
  · subst hn
    rw [decide_eq_true rfl] at HR
    by_cases hx : X < 256
    · rw [decide_eq_true hx] at HM
      have HC : Hid (∀ W, Calls Try.prog 55 #[.int .u32 (X : Int)] W fun e w' => ∃ A c, e = .returned (.slice A (onesTo X 32).length c) ∧ OwnK 3 .i64 w' W.heap.size A (onesTo X 32).length c (ints (onesTo X 32)) ∧ Below W.heap.size W w') := fun W => sBitList_any X W hX
      have hg : gatherV 8 X zs = gath zs (onesTo X 32) := if_pos ⟨rfl, hx⟩
      rw [hg, gath_len]
      have HL8 : Hid (∀ j ∈ onesTo X 32, j < 8) := fun j hj => ones_lt_8 hx hj
      have hlen := onesTo_len X 32
      obtain ⟨ga, oa, rfl, hga, hca⟩ := h.2 (by omega)
      have HA := Lib.hid hca
      clear hX hx hg hca h
      generalize onesTo X 32 = l at *
      go_enter Try.func34, Try.ntmps34
      go_wp2_with fail
      refine HR.out.mono ?_
      rintro e w1 ⟨rfl, rfl⟩
      go_wp2_with fail
      refine (HM.out w).mono ?_
      rintro e w2 ⟨rfl, hb2⟩
      have B2 := Lib.hid hb2
      have z2 := hb2.size
      clear hb2 HR HM
      go_wp2_with fail
      refine (HC.out _).mono ?_
      rintro e w3 ⟨Al, cl, rfl, hol, hb3⟩
      have OL := Lib.hid hol
      have z3 := hb3.size
      simp only [World.size_alloc] at z3
      have OO : Hid (OwnK 3 .i64 w3 w.heap.size (some ⟨w2.heap.size, 0, none⟩) 0 0 (gath zs (l.take 0))) := OwnK.below (World.ownsRow_made w2 #[] 0 z2 (by unfold maxLen; omega) rfl) hb3
      have B3 : Hid (Below w.heap.size w w3) := (by repeat (first | exact Below.refl _ _ | refine Below.drew ?_ | refine Below.setCell ?_ (by first | omega | (simp; done) | (simp; omega) | (simp [*]; done)) _ | refine Below.alloc ?_ (by first | omega | (simp; done) | (simp; omega) | (simp [*]; done)) _ | refine Below.trans ?_ (Below.mono (B2.out) (by first | omega | (simp; done) | (simp; omega) | (simp [*]; done))) | refine Below.trans ?_ (Below.mono (hb3) (by first | omega | (simp; done) | (simp; omega) | (simp [*]; done)))))
      have NE : Hid (∀ g, (Value.slice (some ⟨w2.heap.size, 0, none⟩) 0 0).ownBlock = some g → (Value.slice Al l.length cl).ownBlock ≠ some g) := fun g hg e => by
        have h1 : w2.heap.size = g := by injection hg
        have h2 := (OwnK.range hol g e).1
        simp at h2
        omega
      clear hol hb3 B2 HC
      go_wp2
      go_loopw [5, 7] (fun v i wr => ∃ (k : Nat) (A' : Option Addr) (c' : Nat), k ≤ l.length ∧ i = .int .i64 k ∧ v = .slice A' k c' ∧ Hid (OwnK 3 .i64 wr w.heap.size A' k c' (gath zs (l.take k))) ∧ Hid (OwnK 3 .i64 wr w.heap.size Al l.length cl (ints l)) ∧ Hid (∀ g, (Value.slice A' k c').ownBlock = some g → (Value.slice Al l.length cl).ownBlock ≠ some g) ∧ Hid (Below w.heap.size w wr)) (fun _ i _ => l.length - (intOf i).toNat)
      case atStart => exact ⟨0, _, _, by omega, rfl, rfl, OO, OL.out.from_ (by simp; omega), NE, B3⟩
      case round =>
        obtain ⟨k, A', c', hk, rfl, rfl, HO, HG, HNE, HB⟩ := hrel
        clear OO OL NE B3
        have hs : w.heap.size ≤ wr.heap.size := HB.out.size
        by_cases hlt : k < l.length
        · obtain ⟨gl, rfl, _, hgl⟩ := HG.out.form (by omega)
          have c1 := HG.out.cell rfl hlt
          rw [ints_at l hlt] at c1
          have hj : l[k] < 8 := HL8.out _ (List.getElem_mem hlt)
          have HT := Lib.hid (gath_take zs l hlt)
          have c2 : wr.cell? ⟨ga, oa + l[k], none⟩ = some (.int .i64 (zs[l[k]]?.getD 0)) := (HB.out.cell (p := ⟨ga, oa + l[k], none⟩) (by show ga < _; omega)).trans (HA.out _ hj)
          generalize zs[l[k]]?.getD 0 = z at *
          generalize l[k] = j at *
          have hj' : (j : Int) < 8 := by omega
          have hkl : (k : Int) < (l.length : Int) := by omega
          go_wp2_with (at_builtin; refine wpList_push_far rfl (.tmp 25) (.tmp 33) rfl w.heap.size k c' A' (gath zs (l.take k)) _ rfl rfl HO.out (by omega) hs ?_)
          intro A2 c2' w4 O2 G2 N2
          have NN : Hid (∀ g, (Value.slice A2 (k + 1) c2').ownBlock = some g → (Value.slice (some ⟨gl, 0, none⟩) l.length cl).ownBlock ≠ some g) := fun g hg e => by
            rcases N2.out g hg with h | h
            · exact HNE.out g h e
            · have h2 : gl = g := by injection e
              omega
          have OG : Hid (OwnK 3 .i64 w4 w.heap.size (some ⟨gl, 0, none⟩) l.length cl (ints l)) := HG.out.far G2.out (fun g hg e => HNE.out g e hg)
          have BG : Hid (Below w.heap.size w w4) := HB.out.grown G2.out hs (fun g hg => (OwnK.range HO.out g hg).1)
          clear c1 c2 HO HG HB HNE
          go_wp2
          go_roundw
          case rel => exact ⟨k + 1, A2, c2', by omega, by go_num, rfl, by rw [HT.out]; exact O2, OG, NN, BG⟩
          case measure => simp [intOf]; omega
        · obtain rfl : k = l.length := by omega
          go_wp2
          go_ret
          have := HO.out
          rw [List.take_length] at this
          exact ⟨A', c', rfl, this, HB.out⟩
    · rw [decide_eq_false hx] at HM
      have hg : gatherV 8 X zs = [] := if_neg fun e => hx e.2
      rw [hg]
      clear hX hx hg h
      go_enter Try.func34, Try.ntmps34
      go_wp2_with fail
      refine HR.out.mono ?_
      rintro e w1 ⟨rfl, rfl⟩
      go_wp2_with fail
      refine (HM.out w).mono ?_
      rintro e w2 ⟨rfl, hb2⟩
      have B2 := Lib.hid hb2
      clear hb2 HR HM
      go_wp2
      go_ret
      exact ⟨none, 0, rfl, World.ownsRow_nil _ _ _ _, B2.out⟩
  · rw [decide_eq_false hn] at HR
    have hg : gatherV n X zs = [] := if_neg fun e => hn e.1
    rw [hg]
    clear hX hn hg h
    go_enter Try.func34, Try.ntmps34
    go_wp2_with fail
    refine HR.out.mono ?_
    rintro e w1 ⟨rfl, rfl⟩
    go_wp2
    go_ret
    exact ⟨none, 0, rfl, World.ownsRow_nil _ _ _ _, Below.refl _ _⟩

end Go.Proofs.Ytgaphgffchifcaa
