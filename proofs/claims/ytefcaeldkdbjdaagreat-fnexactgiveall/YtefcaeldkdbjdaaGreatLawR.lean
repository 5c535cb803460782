/- The laws' markIntS and heldIntS from any start: mark writes q, q + 1, .. into a slice of the call's own, held finds them there. -/
/- The contract of the laws' eqIntS: it tells whether two slices of ints hold the same numbers. -/
/- The contract of the laws' toIntS: a copy of a slice of ints. Condition: at most 2^20 elements. -/
/- The contracts of the laws' helpers on requests and warps: copy, compare, size, mark, held. -/
import Derived.Test.YtefcaeldkdbjdaaGreatOwnK
import Derived.Test.YtefcaeldkdbjdaaGreatCopyI
namespace Go.Proofs.YtefcaeldkdbjdaaGreat
open Go.RowKit

/-- q, q + 1, .., n of them. -/
def marksF (q : Int) (n : Nat) : List Int := (List.range n).map (fun i : Nat => q + (i : Int))
def markFTo (q : Int) (zs : List Int) (k : Nat) : List Int := marksF q k ++ zs.drop k
theorem markF_next {q : Int} {zs : List Int} {k : Nat} (h : k < zs.length) : (markFTo q zs k).set k (q + (k : Int)) = markFTo q zs (k + 1) := by
  unfold markFTo marksF
  rw [List.range_succ, List.map_append, List.drop_eq_getElem_cons h, List.set_append]
  simp
  rw [List.drop_eq_getElem_cons h]
  rfl
theorem markF_all {q : Int} {zs : List Int} {k n : Nat} (h : zs.length = n) (hk : n ≤ k) (hk' : k ≤ n) : markFTo q zs k = marksF q n := by
  obtain rfl : k = n := by omega
  unfold markFTo
  rw [List.drop_eq_nil_of_le (by omega)]; simp
theorem marksF_at {q : Int} {n k : Nat} (h : k < n) : (marksF q n)[k]?.getD 0 = q + (k : Int) := by simp [marksF, h]

set_option maxHeartbeats 1000000 in
theorem markF_one {ty : TypeId} (g n c b0 : Nat) (q : Int) (zs : List Int) (w : World) (h : OwnK ty .i64 w b0 (some ⟨g, 0, none⟩) n c zs) (hn : n ≤ 2000000) (h0 : 0 ≤ q) (h1 : q ≤ 100000000) :
    Calls Tryz.prog 28 #[.slice (some ⟨g, 0, none⟩) n c, .int .i64 q] w fun e w' => e = .returned (.int .i64 (q + n)) ∧ OwnK ty .i64 w' b0 (some ⟨g, 0, none⟩) n c (marksF q n) ∧ w.grownBy w' (some g) := by
  have H := Lib.hid h
  have HL := Lib.hid h.len
  clear h
  go_enter Tryz.func28, Tryz.ntmps28
  go_wp2
  go_loopw [1, 5] (fun p i wr => ∃ k : Nat, k ≤ n ∧ i = .int .i64 k ∧ p = .int .i64 (q + k) ∧ Hid (OwnK ty .i64 wr b0 (some ⟨g, 0, none⟩) n c (markFTo q zs k)) ∧ Hid (w.grownBy wr (some g))) (fun _ i _ => n - (intOf i).toNat)
  case atStart => exact ⟨0, Nat.zero_le _, rfl, by simp, by simpa [markFTo, marksF] using H, World.grownBy.refl _ _⟩
  case round =>
    obtain ⟨k, hk, rfl, rfl, HO, HG⟩ := hrel
    by_cases hlt : k < n
    · have c2 := HO.out.cell rfl hlt
      have f2 := HO.out.free rfl k
      have HN : Hid (OwnK ty .i64 (wr.setCell ⟨g, k, none⟩ (.int .i64 (q + (k : Int)))) b0 (some ⟨g, 0, none⟩) n c (markFTo q zs (k + 1))) := by
        rw [← markF_next (by have := HL.out; omega)]; exact HO.out.store
      have HM : Hid (w.grownBy (wr.setCell ⟨g, k, none⟩ (.int .i64 (q + (k : Int)))) (some g)) :=
        ⟨HG.out.os, HG.out.tape, HG.out.output, by simpa [World.setCell] using HG.out.size, fun i hi hne => (Below.heap_setCell wr ⟨g, k, none⟩ _ i (fun e => hne (by simp [e]))).trans (HG.out.block i hi hne)⟩
      clear HO HG
      go_wp2
      go_roundw
      case rel => exact ⟨k + 1, by omega, by go_num, by go_num, HN, HM⟩
      case measure => simp [intOf]; omega
    · go_wp2
      go_ret
      have e := markF_all (q := q) HL.out (show n ≤ k by omega) hk
      refine ⟨?_, by rw [← e]; exact HO.out, HG.out⟩
      have : k = n := by omega
      rw [this]
      rfl

theorem markF_zero (q : Int) (w : World) : Calls Tryz.prog 28 #[.slice none 0 0, .int .i64 q] w fun e w' => e = .returned (.int .i64 q) ∧ w = w' := by
  go_enter Tryz.func28, Tryz.ntmps28
  go_wp2
  refine wp_loop_rounds 1 ?_
  rw [rounds_succ]
  go_wp2
  go_ret
  exact ⟨rfl, rfl⟩

theorem markF_any {ty : TypeId} (A : Option Addr) (n c b0 : Nat) (q : Int) (zs : List Int) (w : World) (h : OwnK ty .i64 w b0 A n c zs) (hn : n ≤ 2000000) (h0 : 0 ≤ q) (h1 : q ≤ 100000000) :
    Calls Tryz.prog 28 #[.slice A n c, .int .i64 q] w fun e w' => e = .returned (.int .i64 (q + n)) ∧ OwnK ty .i64 w' b0 A n c (marksF q n) ∧ w.grownBy w' (Value.slice A n c).ownBlock := by
  rcases h.2 with ⟨hv, hz⟩ | ⟨g, cap, cur, hv, _⟩
  · injection hv with h2 h3 h4
    subst h2 h3 h4
    exact (markF_zero q w).mono fun e w' ⟨h5, h6⟩ => ⟨by rw [h5]; simp, World.ownsRow_nil _ _ _ _, h6 ▸ World.grownBy.refl _ _⟩
  · injection hv with h2 h3 h4
    subst h2 h4
    exact markF_one g n c b0 q zs w h hn h0 h1

set_option maxHeartbeats 1000000 in
theorem heldF_any (A : Option Addr) (n c B : Nat) (q : Int) (w : World) (h : RdK .i64 w B A n (marksF q n)) (hn : n ≤ 2000000) (h0 : 0 ≤ q) (h1 : q ≤ 100000000) :
    Calls Tryz.prog 29 #[.slice A n c, .int .i64 q] w fun e w' => e = .returned (.int .i64 (q + n)) ∧ w = w' := by
  have H2 := Lib.hid h.2
  clear h
  go_enter Tryz.func29, Tryz.ntmps29
  go_wp2
  go_loop [1, 5] (fun p i => ∃ k : Nat, k ≤ n ∧ i = .int .i64 k ∧ p = .int .i64 (q + k)) (fun _ i => n - (intOf i).toNat)
  case atStart => exact ⟨0, Nat.zero_le _, rfl, by simp⟩
  case round =>
    obtain ⟨k, hk, rfl, rfl⟩ := hrel
    by_cases hlt : k < n
    · obtain ⟨g, o, rfl, _, hc⟩ := H2.out (by omega)
      have c1 := hc k hlt
      rw [marksF_at hlt] at c1
      clear hc
      go_wp2
      go_round
      case rel => exact ⟨k + 1, by omega, by go_num, by go_num⟩
      case measure => simp [intOf]; omega
    · go_wp2
      go_ret
      have : k = n := by omega
      rw [this]
      exact ⟨rfl, rfl⟩

end Go.Proofs.YtefcaeldkdbjdaaGreat

namespace Go.Proofs.YtefcaeldkdbjdaaGreat
open Go.RowKit

theorem take_next {z1 z2 : List Int} {k : Nat} (h : z1.take k = z2.take k) (h1 : k < z1.length) (h2 : k < z2.length) (e : z1[k]?.getD 0 = z2[k]?.getD 0) : z1.take (k + 1) = z2.take (k + 1) := by
  simp only [List.getElem?_eq_getElem h1, List.getElem?_eq_getElem h2, Option.getD_some] at e
  rw [List.take_succ_eq_append_getElem h1, List.take_succ_eq_append_getElem h2, h, e]
theorem ne_at {z1 z2 : List Int} {k : Nat} (e : ¬ z1[k]?.getD 0 = z2[k]?.getD 0) : ¬ z1 = z2 := by
  rintro rfl; exact e rfl
theorem eq_all {z1 z2 : List Int} {k : Nat} (h : z1.take k = z2.take k) (h1 : z1.length ≤ k) (h2 : z2.length ≤ k) : z1 = z2 := by
  rwa [List.take_of_length_le h1, List.take_of_length_le h2] at h

set_option maxHeartbeats 400000 in
theorem eqI_any (A1 A2 : Option Addr) (n1 n2 c1 c2 B1 B2 : Nat) (z1 z2 : List Int) (w : World) (h1 : RdK .i64 w B1 A1 n1 z1) (h2 : RdK .i64 w B2 A2 n2 z2) (m1 : n1 ≤ maxLen) (m2 : n2 ≤ maxLen) :
    Calls Tryz.prog 23 #[.slice A1 n1 c1, .slice A2 n2 c2] w fun e w' => e = .returned (.bool (decide (z1 = z2))) ∧ ∃ k, w' = w.drewN k := by
  unfold maxLen at m1 m2
  by_cases hn : n1 = n2
  · subst hn
    have HL := Lib.hid h1.1
    have HM := Lib.hid h2.1
    have H1 := Lib.hid h1.2
    have H2 := Lib.hid h2.2
    clear h1 h2
    go_enter Tryz.func23, Tryz.ntmps23
    go_wp2
    go_loopw [5] (fun i wr => ∃ k : Nat, k ≤ n1 ∧ i = .int .i64 k ∧ (∃ q, wr = w.drewN q) ∧ Hid (z1.take k = z2.take k)) (fun i _ => n1 - (intOf i).toNat)
    case atStart => exact ⟨0, Nat.zero_le _, rfl, ⟨0, rfl⟩, rfl⟩
    case round =>
      obtain ⟨k, hk, rfl, ⟨q, rfl⟩, HT⟩ := hrel
      by_cases hlt : k < n1
      · obtain ⟨g1, o1, rfl, _, hc1⟩ := H1.out (by omega)
        obtain ⟨g2, o2, rfl, _, hc2⟩ := H2.out (by omega)
        have c1 := hc1 k hlt
        have c2 := hc2 k hlt
        clear hc1 hc2
        by_cases he : z1[k]?.getD 0 = z2[k]?.getD 0
        · have HN := Lib.hid (take_next HT.out (by have := HL.out; omega) (by have := HM.out; omega) he)
          have hb : (z1[k]?.getD 0 != z2[k]?.getD 0) = false := by simp [he]
          have HE := Lib.hid he
          clear he
          go_wp2
          go_quiet (fail)
          go_wp2
          go_roundw
          case rel => exact ⟨k + 1, by omega, by go_num, ⟨_, rfl⟩, HN.out⟩
          case measure => simp [intOf]; omega
        · have HN := Lib.hid (ne_at he)
          have hb : (z1[k]?.getD 0 != z2[k]?.getD 0) = true := by simp [he]
          clear he
          go_wp2
          go_quiet (fail)
          go_wp2
          go_ret
          exact ⟨by simp [HN.out], _, World.drewN_drewN _ _ _⟩
      · have HN := Lib.hid (eq_all HT.out (by have := HL.out; omega) (by have := HM.out; omega))
        go_wp2
        go_ret
        exact ⟨by simp [HN.out], _, rfl⟩
  · have HN : Hid (¬ z1 = z2) := fun e => hn (by rw [← h1.1, ← h2.1, e])
    have hb : ((n1 : Int) != (n2 : Int)) = true := by simp; omega
    clear hn h1 h2
    go_enter Tryz.func23, Tryz.ntmps23
    go_wp2
    go_ret
    exact ⟨by simp [HN.out], 0, rfl⟩

end Go.Proofs.YtefcaeldkdbjdaaGreat

namespace Go.Proofs.YtefcaeldkdbjdaaGreat
open Go.RowKit

/-- The first k numbers of zs, then zeros. -/
def fillTo (zs : List Int) (n k : Nat) : List Int := zs.take k ++ List.replicate (n - k) 0
theorem fill_len {zs : List Int} {n k : Nat} (hl : zs.length = n) (hk : k ≤ n) : (fillTo zs n k).length = n := by simp [fillTo]; omega
theorem fill_next {zs : List Int} {n k : Nat} (hl : zs.length = n) (hk : k < n) : (fillTo zs n k).set k (zs[k]?.getD 0) = fillTo zs n (k + 1) := by
  have h1 : k < zs.length := by omega
  unfold fillTo
  rw [List.take_succ_eq_append_getElem h1, show n - k = (n - (k + 1)) + 1 from by omega, List.replicate_succ, List.set_append]
  simp only [List.getElem?_eq_getElem h1, Option.getD_some, List.length_take, Nat.min_eq_left (Nat.le_of_lt h1), Nat.lt_irrefl, if_false, Nat.sub_self, List.set_cons_zero, List.append_assoc, List.cons_append, List.nil_append]
theorem fill_all {zs : List Int} {n k : Nat} (hl : zs.length = n) (hk : n ≤ k) : fillTo zs n k = zs := by
  unfold fillTo
  rw [List.take_of_length_le (by omega), show n - k = 0 from by omega]; simp

set_option maxHeartbeats 1000000 in
theorem toI_any (A : Option Addr) (n c B : Nat) (zs : List Int) (w : World) (h : RdK .i64 w B A n zs) (hB : B ≤ w.heap.size) (hn : n ≤ 1048576) :
    Calls Tryz.prog 61 #[.slice A n c] w fun e w' => ∃ g, e = .returned (.slice (some ⟨g, 0, none⟩) n n) ∧ OwnK 3 .i64 w' w.heap.size (some ⟨g, 0, none⟩) n n zs ∧ Below w.heap.size w w' := by
  obtain ⟨i0, hi, hz0, hz1, hz2⟩ := info_parts info_int
  have hb2 : i0.bytes * n ≤ 281474976710656 := by rw [hz2]; omega
  have hb3 : n ≤ maxLen := by unfold maxLen; omega
  have HL := Lib.hid h.1
  have H2 := Lib.hid h.2
  have HI := Lib.hid hi
  have HZ0 := Lib.hid hz0
  have HZ1 := Lib.hid hz1
  clear h hi hz0 hz1 hz2
  go_enter Tryz.func61, Tryz.ntmps61
  go_wp2_with (at_make; refine wpList_make_full _ rfl _ _ 29 rfl w.heap.size 3 i0 (.int .i64 0) 1 Tryz.underlying29 HI.out HZ0.out HZ1.out .i64 .i64 _ _ n rfl rfl rfl rfl hb2 hb3 (Nat.le_refl _) ?_)
  intro w1 hown hgr
  have HO : Hid (OwnK 3 .i64 w1 w.heap.size (some ⟨w.heap.size, 0, none⟩) n n (fillTo zs n 0)) := by
    have := toList_madeCells_one (.int .i64 0) n
    have h3 : w1.ownsRow w.heap.size 3 1 (.slice (some ⟨w.heap.size, 0, none⟩) n n) n (List.replicate n (.int .i64 0)) := this ▸ hown
    show w1.ownsRow _ _ _ _ _ ((fillTo zs n 0).map _)
    simpa [fillTo] using h3
  have HB : Hid (Below w.heap.size w w1) := (Below.refl _ _).grown hgr (Nat.le_refl _) (by simp)
  clear hown hgr
  go_wp2
  go_loopw [4] (fun i wr => ∃ k : Nat, k ≤ n ∧ i = .int .i64 k ∧ Hid (OwnK 3 .i64 wr w.heap.size (some ⟨w.heap.size, 0, none⟩) n n (fillTo zs n k)) ∧ Hid (Below w.heap.size w wr)) (fun i _ => n - (intOf i).toNat)
  case atStart => exact ⟨0, Nat.zero_le _, rfl, HO, HB⟩
  case round =>
    obtain ⟨k, hk, rfl, HOr, HBr⟩ := hrel
    clear HO HB
    by_cases hlt : k < n
    · obtain ⟨g, o, rfl, hg, hc⟩ := H2.out (by omega)
      have c1 : wr.cell? ⟨g, o + k, none⟩ = some (.int .i64 (zs[k]?.getD 0)) := (HBr.out.cell (p := ⟨g, o + k, none⟩) (by show g < _; omega)).trans (hc k hlt)
      have c2 := HOr.out.cell rfl hlt
      have f2 := HOr.out.free rfl k
      have HN : Hid (OwnK 3 .i64 (wr.setCell ⟨w.heap.size, k, none⟩ (.int .i64 (zs[k]?.getD 0))) w.heap.size (some ⟨w.heap.size, 0, none⟩) n n (fillTo zs n (k + 1))) := by
        rw [← fill_next HL.out hlt]; exact HOr.out.store
      have HM : Hid (Below w.heap.size w (wr.setCell ⟨w.heap.size, k, none⟩ (.int .i64 (zs[k]?.getD 0)))) := HBr.out.setCell (Nat.le_refl _) _
      clear hc HOr HBr
      go_wp2
      go_roundw
      case rel => exact ⟨k + 1, by omega, by go_num, HN, HM⟩
      case measure => simp [intOf]; omega
    · go_wp2
      go_ret
      refine ⟨w.heap.size, rfl, ?_, HBr.out⟩
      have := HOr.out
      rwa [fill_all HL.out (by omega)] at this

end Go.Proofs.YtefcaeldkdbjdaaGreat

namespace Go.Proofs.YtefcaeldkdbjdaaGreat
open Go.RowKit
set_option linter.unusedVariables false

theorem szI_yes (A : Option Addr) (n c : Nat) (l : Int) (w : World) (hl : l ≤ 1048576) (hn : (n : Int) ≤ l) : Calls Tryz.prog 47 #[.slice A n c, .int .i64 l] w fun e w' => e = .returned (.int .i64 (l - n)) ∧ w = w' := by
  have h1 : ¬ l - (n : Int) < 0 := by omega
  have h2 : (0 : Int) ≤ n := by omega
  go_enter Tryz.func47, Tryz.ntmps47
  go_wp2
  go_ret
  exact ⟨rfl, rfl⟩

theorem szI_no (A : Option Addr) (n c : Nat) (l : Int) (w : World) (hl : l ≤ 1048576) (h0 : 0 ≤ l) (hm : n ≤ maxLen) (hn : l < (n : Int)) : Calls Tryz.prog 47 #[.slice A n c, .int .i64 l] w fun e w' => e = .returned (.int .i64 (-1)) ∧ w = w' := by
  unfold maxLen at hm
  have h1 : l - (n : Int) < 0 := by omega
  go_enter Tryz.func47, Tryz.ntmps47
  go_wp2
  go_ret
  exact ⟨rfl, rfl⟩

set_option maxHeartbeats 1000000 in
theorem eqReq_any (kd : Int) (A1 A2 : Option Addr) (n c1 c2 B1 B2 : Nat) (zs : List Int) (w : World) (h1 : RdK .i64 w B1 A1 n zs) (h2 : RdK .i64 w B2 A2 n zs) (hB1 : B1 ≤ w.heap.size) (hB2 : B2 ≤ w.heap.size) (hm : n ≤ maxLen) :
    Calls Tryz.prog 8 #[.agg #[.int .i64 kd, .slice A1 n c1], .agg #[.int .i64 kd, .slice A2 n c2]] w fun e w' => e = .returned (.bool true) ∧ Below w.heap.size w w' := by
  have HE : Hid (∀ W, Below w.heap.size w W → Calls Tryz.prog 23 #[.slice A1 n c1, .slice A2 n c2] W fun e w' => e = .returned (.bool true) ∧ ∃ k, w' = W.drewN k) := fun W hb => (eqI_any A1 A2 n n c1 c2 B1 B2 zs zs W (h1.below (hb.mono hB1)) (h2.below (hb.mono hB2)) hm hm).mono fun e w' ⟨he, hk⟩ => ⟨by rw [he]; simp, hk⟩
  clear h1 h2 hm
  have hbb : (kd != kd) = false := by simp
  go_enter Tryz.func8, Tryz.ntmps8
  go_wp2_with fail
  refine (HE.out _ (by repeat (first | exact Below.refl _ _ | refine Below.drew ?_ | refine Below.setCell ?_ (by first | omega | (simp; done) | (simp; omega) | (simp [*]; done)) _ | refine Below.alloc ?_ (by first | omega | (simp; done) | (simp; omega) | (simp [*]; done)) _))).mono ?_
  rintro e w1 ⟨rfl, k, rfl⟩
  go_wp2
  go_ret
  exact ⟨rfl, ⟨rfl, rfl, rfl, by simp [World.drewN]; omega, fun i hi => by simpa using (((Below.refl _ w).alloc (Nat.le_refl _) (.cells #[.int .i64 kd, .slice A1 n c1] 31)).alloc (by simp) (.cells #[.int .i64 kd, .slice A2 n c2] 31)).block i hi⟩⟩

end Go.Proofs.YtefcaeldkdbjdaaGreat
