/- The contracts of the laws' own functions over blocks: copies, comparisons, marks. -/
import Derived.Test.YthcchnaoenjhlaaOwnP
import Derived.Shelf.SlSortCmp.QuietGrown
namespace Go.Proofs.Ythcchnaoenjhlaa
open Go.RowKit Go.Sort

set_option maxHeartbeats 1000000 in
theorem toBlk_any (x y : Int) (w : World) : Calls Try.prog 43 #[.agg #[.int .i64 x, .int .i64 y]] w fun e w' => e = .returned (.agg #[.int .i64 x, .int .i64 y]) ∧ Below w.heap.size w w' := by
  go_enter Try.func43, Try.ntmps43
  go_wp2
  refine bodyPost_ret (v := .agg #[.int .i64 x, .int .i64 y]) ?_ rfl ?_
  · simp [results, Try.results43, go_sem]
  · exact ⟨rfl, (by repeat (first | exact Below.refl _ _ | refine Below.drew ?_ | refine Below.setCell ?_ (by first | omega | (simp; done) | (simp; omega) | (simp [*]; done)) _ | refine Below.alloc ?_ (by first | omega | (simp; done) | (simp; omega) | (simp [*]; done)) _))⟩

theorem mixed : Try.prog.follows .mixedOrders = true := by kernel_rfl
/-- Draws and new blocks turn nothing. -/
theorem below_grow (w : World) (q : Nat) (os : Array Obj) : Below w.heap.size w (grow (w.drewN q) os) :=
  ⟨rfl, rfl, rfl, by simp, fun k hk => by rw [heap_grow_old _ _ (by exact hk)]; rfl⟩

set_option maxHeartbeats 1000000 in
theorem eqBlk_grow (x y u v : Int) (w : World) : Calls Try.prog 45 #[.agg #[.int .i64 x, .int .i64 y], .agg #[.int .i64 u, .int .i64 v]] w fun e w' => e = .returned (.bool (decide ((x, y) = (u, v)))) ∧ ∃ q os', w' = grow (w.drewN q) os' := by
  have HB := Lib.hid (show ∃ q os', (w.alloc (.cells #[.int .i64 x, .int .i64 y] 71)).alloc (.cells #[.int .i64 u, .int .i64 v] 71) = grow (w.drewN q) os' from ⟨0, _, by rw [alloc_eq_grow, alloc_eq_grow, grow_grow]; rfl⟩)
  by_cases h1 : x = u
  · subst h1
    by_cases h2 : y = v
    · subst h2
      go_enter Try.func45, Try.ntmps45
      go_wp2
      go_ret
      exact ⟨by simp, HB.out⟩
    · have hd : (y != v) = true := by simp [h2]
      have HR := Lib.hid (show decide ((x, y) = (x, v)) = false by simp [h2])
      go_enter Try.func45, Try.ntmps45
      go_wp2
      go_ret
      exact ⟨by rw [HR.out]; rfl, HB.out⟩
  · have hd : (x != u) = true := by simp [h1]
    have HR := Lib.hid (show decide ((x, y) = (u, v)) = false by simp [h1])
    go_enter Try.func45, Try.ntmps45
    go_wp2
    go_ret
    exact ⟨by rw [HR.out]; rfl, HB.out⟩
theorem eqBlk_any (x y u v : Int) (w : World) : Calls Try.prog 45 #[.agg #[.int .i64 x, .int .i64 y], .agg #[.int .i64 u, .int .i64 v]] w fun e w' => e = .returned (.bool (decide ((x, y) = (u, v)))) ∧ Below w.heap.size w w' :=
  (eqBlk_grow x y u v w).mono fun _ _ ⟨he, q, os, hw⟩ => ⟨he, hw ▸ below_grow w q os⟩

/-- The first k pairs of ps, then zeros. -/
def fillP (ps : List (Int × Int)) (n k : Nat) : List (Int × Int) := ps.take k ++ List.replicate (n - k) (0, 0)
theorem fillP_next {ps : List (Int × Int)} {n k : Nat} (hl : ps.length = n) (hk : k < n) : (fillP ps n k).set k (pa ps k, pb ps k) = fillP ps n (k + 1) := by
  have h1 : k < ps.length := by omega
  unfold fillP
  rw [take_succ_p h1, show n - k = (n - (k + 1)) + 1 from by omega, List.replicate_succ, List.set_append]
  simp only [List.length_take, Nat.min_eq_left (Nat.le_of_lt h1), Nat.lt_irrefl, if_false, Nat.sub_self, List.set_cons_zero, List.append_assoc, List.cons_append, List.nil_append]
theorem fillP_all {ps : List (Int × Int)} {n k : Nat} (hl : ps.length = n) (hk : n ≤ k) : fillP ps n k = ps := by
  unfold fillP
  rw [List.take_of_length_le (by omega), show n - k = 0 from by omega]; simp
theorem flatP_zeros (n : Nat) : flatP (List.replicate n (0, 0)) = (madeCells #[.int .i64 0, .int .i64 0] (n * 2)).toList := by
  have hl : (flatP (List.replicate n ((0 : Int), (0 : Int)))).length = n * 2 := by rw [flatP_len]; simp
  apply List.ext_getElem?
  intro j
  by_cases hj : j < n * 2
  · have hr : (madeCells #[.int .i64 0, .int .i64 0] (n * 2)).toList[j]? = some (Value.int .i64 0) := by
      rcases Nat.mod_two_eq_zero_or_one j with h | h <;> simp [madeCells, h, hj]
    rw [hr]
    have h2 : j / 2 < n := by omega
    rcases Nat.mod_two_eq_zero_or_one j with h | h
    · have e : j = (j / 2) * 2 := by omega
      rw [e, flatP_even _ _ (by simpa using h2)]
      simp [pa, h2]
    · have e : j = (j / 2) * 2 + 1 := by omega
      rw [e, flatP_odd _ _ (by simpa using h2)]
      simp [pb, h2]
  · rw [List.getElem?_eq_none (by omega), List.getElem?_eq_none (by simp [madeCells]; omega)]

set_option maxHeartbeats 1000000 in
theorem toP_any (A : Option Addr) (n c B : Nat) (ps : List (Int × Int)) (w : World) (h : RdP w B A n ps) (hB : B ≤ w.heap.size) (hn : n ≤ 1048576) :
    Calls Try.prog 14 #[.slice A n c] w fun e w' => ∃ g, e = .returned (.slice (some ⟨g, 0, none⟩) n n) ∧ OwnP w' w.heap.size (some ⟨g, 0, none⟩) n n ps ∧ Below w.heap.size w w' := by
  obtain ⟨i0, hi, hz0, hz1, hz2⟩ := info_parts info_blk
  have hb2 : i0.bytes * n ≤ 281474976710656 := by rw [hz2]; omega
  have hb3 : n ≤ maxLen := by unfold maxLen; omega
  have HL := Lib.hid h.1
  have H2 := Lib.hid h.2
  have HI := Lib.hid hi
  have HZ0 := Lib.hid hz0
  have HZ1 := Lib.hid hz1
  clear h hi hz0 hz1 hz2
  go_enter Try.func14, Try.ntmps14
  go_wp2_with (at_make; refine wpList_make_full _ rfl _ _ 30 rfl w.heap.size 71 i0 (.agg #[.int .i64 0, .int .i64 0]) 2 Try.underlying30 HI.out HZ0.out HZ1.out .i64 .i64 _ _ n rfl rfl rfl rfl hb2 hb3 (Nat.le_refl _) ?_)
  intro w1 hown hgr
  have HO : Hid (OwnP w1 w.heap.size (some ⟨w.heap.size, 0, none⟩) n n (fillP ps n 0)) := by
    show w1.ownsRow _ _ _ _ _ (flatP (fillP ps n 0))
    simp only [fillP, List.take_zero, List.nil_append, Nat.sub_zero]
    rw [flatP_zeros]
    exact hown
  have HB : Hid (Below w.heap.size w w1) := (Below.refl _ _).grown hgr (Nat.le_refl _) (by simp)
  clear hown hgr
  go_wp2
  go_loopw [4] (fun i wr => ∃ k : Nat, k ≤ n ∧ i = .int .i64 k ∧ Hid (OwnP wr w.heap.size (some ⟨w.heap.size, 0, none⟩) n n (fillP ps n k)) ∧ Hid (Below w.heap.size w wr)) (fun i _ => n - (intOf i).toNat)
  case atStart => exact ⟨0, Nat.zero_le _, rfl, HO, HB⟩
  case round =>
    obtain ⟨k, hk, rfl, HOr, HBr⟩ := hrel
    clear HO HB
    by_cases hlt : k < n
    · obtain ⟨g, o, rfl, hg, hc⟩ := H2.out (by omega)
      have c1 : wr.cell? ⟨g, o + k * 2, none⟩ = some (.int .i64 (pa ps k)) := (HBr.out.cell (p := ⟨g, o + k * 2, none⟩) (by show g < _; omega)).trans (hc k hlt).1
      have c2 : wr.cell? ⟨g, o + k * 2 + 1, none⟩ = some (.int .i64 (pb ps k)) := (HBr.out.cell (p := ⟨g, o + k * 2 + 1, none⟩) (by show g < _; omega)).trans (hc k hlt).2
      clear hc
      go_wp2_with (go_at_call 43; refine (toBlk_any (pa ps k) (pb ps k) _).mono ?_; rintro e w2 ⟨rfl, hb2⟩
                   have HO2 := Lib.hid (HOr.out.below hb2)
                   have HB2 := Lib.hid (HBr.out.trans (hb2.mono HBr.out.size))
                   have e1 := HO2.out.cell1 rfl hlt
                   have e2 := HO2.out.cell2 rfl hlt
                   have f1 := HO2.out.free rfl (k * 2)
                   have f2 := HO2.out.free rfl (k * 2 + 1)
                   have HN : Hid (OwnP ((w2.setCell ⟨w.heap.size, k * 2, none⟩ (.int .i64 (pa ps k))).setCell ⟨w.heap.size, k * 2 + 1, none⟩ (.int .i64 (pb ps k))) w.heap.size (some ⟨w.heap.size, 0, none⟩) n n (fillP ps n (k + 1))) := by
                     rw [← fillP_next HL.out hlt]; exact HO2.out.store hlt
                   have HM : Hid (Below w.heap.size w ((w2.setCell ⟨w.heap.size, k * 2, none⟩ (.int .i64 (pa ps k))).setCell ⟨w.heap.size, k * 2 + 1, none⟩ (.int .i64 (pb ps k)))) := (HB2.out.setCell (Nat.le_refl _) _).setCell (Nat.le_refl _) _
                   clear hb2 HOr HBr HO2 HB2 c1 c2)
      go_roundw
      case rel => exact ⟨k + 1, by omega, by go_num, HN, HM⟩
      case measure => simp [intOf]; omega
    · go_wp2
      go_ret
      refine ⟨w.heap.size, rfl, ?_, HBr.out⟩
      have := HOr.out
      rwa [fillP_all HL.out (by omega)] at this

end Go.Proofs.Ythcchnaoenjhlaa
