/- The contracts of the laws' own functions over memories, under a name of their own beside those over ints. -/
import Derived.Test.YtefcaeldkdbjdaaBase
namespace Go.Proofs.Ytefcaeldkdbjdaa.U
open Go.RowKit

set_option maxHeartbeats 400000 in
theorem szU_any (A : Option Addr) (n c : Nat) (left : Int) (w : World) (hn : n ≤ maxLen) (h0 : 0 ≤ left) (h1 : left ≤ 1048576) :
    Calls Try.prog 12 #[.slice A n c, .int .i64 left] w fun e w' => e = .returned (.int .i64 (if left - n < 0 then -1 else left - n)) ∧ w = w' := by
  unfold maxLen at hn
  by_cases h : left - n < 0
  · rw [if_pos h]
    go_enter Try.func12, Try.ntmps12
    go_wp2
    go_ret
    exact ⟨rfl, rfl⟩
  · rw [if_neg h]
    go_enter Try.func12, Try.ntmps12
    go_wp2
    go_ret
    exact ⟨rfl, rfl⟩

theorem take_next {z1 z2 : List Int} {k : Nat} (h : z1.take k = z2.take k) (h1 : k < z1.length) (h2 : k < z2.length) (e : z1[k]?.getD 0 = z2[k]?.getD 0) : z1.take (k + 1) = z2.take (k + 1) := by
  simp only [List.getElem?_eq_getElem h1, List.getElem?_eq_getElem h2, Option.getD_some] at e
  rw [List.take_succ_eq_append_getElem h1, List.take_succ_eq_append_getElem h2, h, e]
theorem ne_at {z1 z2 : List Int} {k : Nat} (e : ¬ z1[k]?.getD 0 = z2[k]?.getD 0) : ¬ z1 = z2 := by
  rintro rfl; exact e rfl
theorem eq_all {z1 z2 : List Int} {k : Nat} (h : z1.take k = z2.take k) (h1 : z1.length ≤ k) (h2 : z2.length ≤ k) : z1 = z2 := by
  rwa [List.take_of_length_le h1, List.take_of_length_le h2] at h

set_option maxHeartbeats 400000 in
theorem eqU_any (A1 A2 : Option Addr) (n1 n2 c1 c2 B1 B2 : Nat) (z1 z2 : List Int) (w : World) (h1 : Rd w B1 A1 n1 z1) (h2 : Rd w B2 A2 n2 z2) (m1 : n1 ≤ maxLen) (m2 : n2 ≤ maxLen) :
    Calls Try.prog 26 #[.slice A1 n1 c1, .slice A2 n2 c2] w fun e w' => e = .returned (.bool (decide (z1 = z2))) ∧ ∃ k, w' = w.drewN k := by
  unfold maxLen at m1 m2
  by_cases hn : n1 = n2
  · subst hn
    have HL := Lib.hid h1.1
    have HM := Lib.hid h2.1
    have H1 := Lib.hid h1.2
    have H2 := Lib.hid h2.2
    clear h1 h2
    go_enter Try.func26, Try.ntmps26
    go_wp2
    go_loopw [5] (fun i wr => ∃ k : Nat, k ≤ n1 ∧ i = .int .i64 k ∧ (∃ q, wr = w.drewN q) ∧ Hid (z1.take k = z2.take k)) (fun i _ => n1 - (intOf i).toNat)
    case atStart => exact ⟨0, Nat.zero_le _, rfl, ⟨0, rfl⟩, rfl⟩
    case round =>
      obtain ⟨k, hk, rfl, ⟨q, rfl⟩, HT⟩ := hrel
      by_cases hlt : k < n1
      · obtain ⟨g1, o1, rfl, _, hc1⟩ := H1.out (by omega)
        obtain ⟨g2, o2, rfl, _, hc2⟩ := H2.out (by omega)
        have c1 := hc1 k hlt
        have c2 := hc2 k hlt
        clear hc1 hc2
        by_cases he : z1[k]?.getD 0 = z2[k]?.getD 0
        · have HN := Lib.hid (take_next HT.out (by have := HL.out; omega) (by have := HM.out; omega) he)
          have hb : (z1[k]?.getD 0 != z2[k]?.getD 0) = false := by simp [he]
          have HE := Lib.hid he
          clear he
          go_wp2
          go_quiet (fail)
          go_wp2
          go_roundw
          case rel => exact ⟨k + 1, by omega, by go_num, ⟨_, rfl⟩, HN.out⟩
          case measure => simp [intOf]; omega
        · have HN := Lib.hid (ne_at he)
          have hb : (z1[k]?.getD 0 != z2[k]?.getD 0) = true := by simp [he]
          clear he
          go_wp2
          go_quiet (fail)
          go_wp2
          go_ret
          exact ⟨by simp [HN.out], _, World.drewN_drewN _ _ _⟩
      · have HN := Lib.hid (eq_all HT.out (by have := HL.out; omega) (by have := HM.out; omega))
        go_wp2
        go_ret
        exact ⟨by simp [HN.out], _, rfl⟩
  · have HN : Hid (¬ z1 = z2) := fun e => hn (by rw [← h1.1, ← h2.1, e])
    have hb : ((n1 : Int) != (n2 : Int)) = true := by simp; omega
    clear hn h1 h2
    go_enter Try.func26, Try.ntmps26
    go_wp2
    go_ret
    exact ⟨by simp [HN.out], 0, rfl⟩

end Go.Proofs.Ytefcaeldkdbjdaa.U

namespace Go.Proofs.Ytefcaeldkdbjdaa.U
open Go.RowKit

theorem info_u32 : (Try.prog.info? 36).map (fun i => (i.zero, i.size, i.bytes)) = some (some (.int .u32 0), 1, 4) := by kernel_rfl

set_option maxHeartbeats 400000 in
theorem szMem_any (A : Option Addr) (n c : Nat) (left : Int) (w : World) (hn : n ≤ maxLen) (h0 : 0 ≤ left) (h1 : left ≤ 1048576) :
    Calls Try.prog 7 #[.agg #[.slice A n c], .int .i64 left] w fun e w' => e = .returned (.int .i64 (if left - n < 0 then -1 else left - n)) ∧ Below w.heap.size w w' := by
  by_cases h : left - n < 0
  · have hc := szU_any A n c left (w.alloc (.cells #[.slice A n c] 26)) hn h0 h1
    rw [if_pos h] at hc ⊢
    go_enter Try.func7, Try.ntmps7
    go_wp2_with fail
    refine hc.mono ?_
    rintro e w' ⟨rfl, rfl⟩
    go_wp2
    go_ret
    exact ⟨rfl, (Below.refl _ _).alloc (Nat.le_refl _) _⟩
  · have hc := szU_any A n c left (w.alloc (.cells #[.slice A n c] 26)) hn h0 h1
    rw [if_neg h] at hc ⊢
    go_enter Try.func7, Try.ntmps7
    go_wp2_with fail
    refine hc.mono ?_
    rintro e w' ⟨rfl, rfl⟩
    have h' : 0 ≤ left - n := by omega
    go_wp2
    go_ret
    exact ⟨rfl, (Below.refl _ _).alloc (Nat.le_refl _) _⟩

/-- The first k numbers of zs, then zeros. -/
def fillTo (zs : List Int) (n k : Nat) : List Int := zs.take k ++ List.replicate (n - k) 0
theorem fill_len {zs : List Int} {n k : Nat} (hl : zs.length = n) (hk : k ≤ n) : (fillTo zs n k).length = n := by simp [fillTo]; omega
theorem fill_next {zs : List Int} {n k : Nat} (hl : zs.length = n) (hk : k < n) : (fillTo zs n k).set k (zs[k]?.getD 0) = fillTo zs n (k + 1) := by
  have h1 : k < zs.length := by omega
  unfold fillTo
  rw [List.take_succ_eq_append_getElem h1, show n - k = (n - (k + 1)) + 1 from by omega, List.replicate_succ, List.set_append]
  simp only [List.getElem?_eq_getElem h1, Option.getD_some, List.length_take, Nat.min_eq_left (Nat.le_of_lt h1), Nat.lt_irrefl, if_false, Nat.sub_self, List.set_cons_zero, List.append_assoc, List.cons_append, List.nil_append]
theorem fill_all {zs : List Int} {n k : Nat} (hl : zs.length = n) (hk : n ≤ k) : fillTo zs n k = zs := by
  unfold fillTo
  rw [List.take_of_length_le (by omega), show n - k = 0 from by omega]; simp

set_option maxHeartbeats 1000000 in
theorem toU_any (A : Option Addr) (n c B : Nat) (zs : List Int) (w : World) (h : Rd w B A n zs) (hB : B ≤ w.heap.size) (hn : n ≤ 1048576) :
    Calls Try.prog 17 #[.slice A n c] w fun e w' => ∃ g, e = .returned (.slice (some ⟨g, 0, none⟩) n n) ∧ Own w' w.heap.size (some ⟨g, 0, none⟩) n n zs ∧ Below w.heap.size w w' := by
  obtain ⟨i0, hi, hz0, hz1, hz2⟩ := info_parts info_u32
  have hb2 : i0.bytes * n ≤ 281474976710656 := by rw [hz2]; omega
  have hb3 : n ≤ maxLen := by unfold maxLen; omega
  have HL := Lib.hid h.1
  have H2 := Lib.hid h.2
  have HI := Lib.hid hi
  have HZ0 := Lib.hid hz0
  have HZ1 := Lib.hid hz1
  clear h hi hz0 hz1 hz2
  go_enter Try.func17, Try.ntmps17
  go_wp2_with (at_make; refine wpList_make_full _ rfl _ _ 24 rfl w.heap.size 36 i0 (.int .u32 0) 1 Try.underlying24 HI.out HZ0.out HZ1.out .i64 .i64 _ _ n rfl rfl rfl rfl hb2 hb3 (Nat.le_refl _) ?_)
  intro w1 hown hgr
  have HO : Hid (Own w1 w.heap.size (some ⟨w.heap.size, 0, none⟩) n n (fillTo zs n 0)) := by
    have := toList_madeCells_one (.int .u32 0) n
    have h3 : w1.ownsRow w.heap.size 36 1 (.slice (some ⟨w.heap.size, 0, none⟩) n n) n (List.replicate n (.int .u32 0)) := this ▸ hown
    show w1.ownsRow _ _ _ _ _ ((fillTo zs n 0).map _)
    simpa [fillTo] using h3
  have HB : Hid (Below w.heap.size w w1) := (Below.refl _ _).grown hgr (Nat.le_refl _) (by simp)
  clear hown hgr
  go_wp2
  go_loopw [4] (fun i wr => ∃ k : Nat, k ≤ n ∧ i = .int .i64 k ∧ Hid (Own wr w.heap.size (some ⟨w.heap.size, 0, none⟩) n n (fillTo zs n k)) ∧ Hid (Below w.heap.size w wr)) (fun i _ => n - (intOf i).toNat)
  case atStart => exact ⟨0, Nat.zero_le _, rfl, HO, HB⟩
  case round =>
    obtain ⟨k, hk, rfl, HOr, HBr⟩ := hrel
    clear HO HB
    by_cases hlt : k < n
    · obtain ⟨g, o, rfl, hg, hc⟩ := H2.out (by omega)
      have c1 : wr.cell? ⟨g, o + k, none⟩ = some (.int .u32 (zs[k]?.getD 0)) := (HBr.out.cell (p := ⟨g, o + k, none⟩) (by show g < _; omega)).trans (hc k hlt)
      have c2 := HOr.out.cell rfl hlt
      have f2 := HOr.out.free rfl k
      have HN : Hid (Own (wr.setCell ⟨w.heap.size, k, none⟩ (.int .u32 (zs[k]?.getD 0))) w.heap.size (some ⟨w.heap.size, 0, none⟩) n n (fillTo zs n (k + 1))) := by
        rw [← fill_next HL.out hlt]; exact HOr.out.store
      have HM : Hid (Below w.heap.size w (wr.setCell ⟨w.heap.size, k, none⟩ (.int .u32 (zs[k]?.getD 0)))) := HBr.out.setCell (Nat.le_refl _) _
      clear hc HOr HBr
      go_wp2
      go_roundw
      case rel => exact ⟨k + 1, by omega, by go_num, HN, HM⟩
      case measure => simp [intOf]; omega
    · go_wp2
      go_ret
      refine ⟨w.heap.size, rfl, ?_, HBr.out⟩
      have := HOr.out
      rwa [fill_all HL.out (by omega)] at this

set_option maxHeartbeats 400000 in
theorem toMem_any (A : Option Addr) (n c B : Nat) (zs : List Int) (w : World) (h : Rd w B A n zs) (hB : B ≤ w.heap.size) (hn : n ≤ 1048576) :
    Calls Try.prog 9 #[.agg #[.slice A n c]] w fun e w' => ∃ g, e = .returned (.agg #[.slice (some ⟨g, 0, none⟩) n n]) ∧ Own w' w.heap.size (some ⟨g, 0, none⟩) n n zs ∧ Below w.heap.size w w' := by
  have H := Lib.hid h
  clear h
  go_enter Try.func9, Try.ntmps9
  go_wp2_with fail
  refine (toU_any A n c B zs _ (((H.out.alloc hB _).alloc (by simp; omega) _).alloc (by simp; omega) _) (by simp; omega) hn).mono ?_
  rintro e w1 ⟨g, rfl, ho, hb⟩
  obtain ⟨k1, k2⟩ := bcell hb
  have hz := hb.size
  simp at hz
  have HO := Lib.hid ho
  have HB := Lib.hid hb
  clear ho hb
  go_wp2
  refine bodyPost_ret (v := .agg #[.slice (some ⟨g, 0, none⟩) n n]) (by simp [results, Try.results9, go_sem, k1]) rfl ⟨g, rfl, ?_, (by repeat (first | exact Below.refl _ _ | refine Below.drew ?_ | refine Below.setCell ?_ (by first | omega | (simp; done) | (simp; omega) | (simp [*]; done)) _ | refine Below.alloc ?_ (by first | omega | (simp; done) | (simp; omega) | (simp [*]; done)) _ | refine Below.trans ?_ (Below.mono (HB.out) (by first | omega | (simp; done) | (simp; omega) | (simp [*]; done)))))⟩
  refine Own.from_ (b0 := w.heap.size + 1 + 1 + 1) ?_ (by omega)
  exact Own.low (Own.low (by simpa using HO.out) (by simp) _) (by simp) _

theorem below_drewN {B : Nat} {a w : World} (h : Below B a w) (n : Nat) : Below B a (w.drewN n) := ⟨h.os, h.tape, h.output, h.size, h.block⟩

set_option maxHeartbeats 400000 in
theorem eqMem_any (A1 A2 : Option Addr) (n1 n2 c1 c2 B1 B2 : Nat) (z1 z2 : List Int) (w : World) (h1 : Rd w B1 A1 n1 z1) (h2 : Rd w B2 A2 n2 z2) (l1 : B1 ≤ w.heap.size) (l2 : B2 ≤ w.heap.size) (m1 : n1 ≤ 1048576) (m2 : n2 ≤ 1048576) :
    Calls Try.prog 11 #[.agg #[.slice A1 n1 c1], .agg #[.slice A2 n2 c2]] w fun e w' => e = .returned (.bool (decide (z1 = z2))) ∧ Below w.heap.size w w' := by
  have H1 := Lib.hid h1
  have H2 := Lib.hid h2
  clear h1 h2
  by_cases hz : z1 = z2
  all_goals
    have HC := Lib.hid (eqU_any A1 A2 n1 n2 c1 c2 B1 B2 z1 z2 _ (((H1.out.alloc l1 (.cells #[.slice A1 n1 c1] 29)).alloc (by simp; omega) (.cells #[.slice A2 n2 c2] 29))) ((H2.out.alloc l2 _).alloc (by simp; omega) _) (by unfold maxLen; omega) (by unfold maxLen; omega))
    have HZ := Lib.hid hz
    simp only [hz, decide_true, decide_false] at HC ⊢
    clear hz
    go_enter Try.func11, Try.ntmps11
    go_wp2_with fail
    refine HC.out.mono ?_
    rintro e w1 ⟨rfl, k, rfl⟩
    go_wp2
    go_ret
    exact ⟨rfl, below_drewN (by repeat (first | exact Below.refl _ _ | refine Below.drew ?_ | refine Below.setCell ?_ (by first | omega | (simp; done) | (simp; omega) | (simp [*]; done)) _ | refine Below.alloc ?_ (by first | omega | (simp; done) | (simp; omega) | (simp [*]; done)) _)) _⟩

end Go.Proofs.Ytefcaeldkdbjdaa.U
