/- The laws' marks over memories (as in MemG, for seats without the memory's growth). -/
import Derived.Test.YthcchnaoenjhlaaMemL
import Derived.Laws.CopyOwn
namespace Go.Proofs.Ythcchnaoenjhlaa.U
open Go.RowKit


/-- 1, 2, .. in the first k places, then as it was. -/
def markTo (zs : List Int) (k : Nat) : List Int := (List.range k).map (fun i : Nat => 1 + (i : Int)) ++ zs.drop k
/-- 1, 2, .., n. -/
def marks (n : Nat) : List Int := (List.range n).map (fun i : Nat => 1 + (i : Int))
theorem mark_next {zs : List Int} {k : Nat} (h : k < zs.length) : (markTo zs k).set k (1 + (k : Int)) = markTo zs (k + 1) := by
  unfold markTo
  rw [List.range_succ, List.map_append, List.drop_eq_getElem_cons h, List.set_append]
  simp
  rw [List.drop_eq_getElem_cons h]
  rfl
theorem mark_all {zs : List Int} {k n : Nat} (h : zs.length = n) (hk : n ≤ k) (hk' : k ≤ n) : markTo zs k = marks n := by
  obtain rfl : k = n := by omega
  unfold markTo marks
  rw [List.drop_eq_nil_of_le (by omega)]; simp
theorem marks_at {n k : Nat} (h : k < n) : (marks n)[k]?.getD 0 = 1 + (k : Int) := by simp [marks, h]
theorem marks_len (n : Nat) : (marks n).length = n := by simp [marks]

theorem grown_far {w w' : World} {row : Option Nat} {b o : Nat} {v : Value} (hg : w.grownBy w' row) (h : w.cell? ⟨b, o, none⟩ = some v) (hne : some b ≠ row) : w'.cell? ⟨b, o, none⟩ = some v := hg.cell h hne

set_option maxHeartbeats 1000000 in
theorem markU_any (g n c b0 : Nat) (zs : List Int) (w : World) (h : Own w b0 (some ⟨g, 0, none⟩) n c zs) (hn : n ≤ 1048640) :
    Calls Try.prog 56 #[.slice (some ⟨g, 0, none⟩) n c, .int .i64 1] w fun e w' => e = .returned (.int .i64 (1 + n)) ∧ Own w' b0 (some ⟨g, 0, none⟩) n c (marks n) ∧ w.grownBy w' (some g) := by
  have H := Lib.hid h
  have HL := Lib.hid h.len
  clear h
  go_enter Try.func56, Try.ntmps56
  go_wp2
  go_loopw [1, 5] (fun q i wr => ∃ k : Nat, k ≤ n ∧ i = .int .i64 k ∧ q = .int .i64 (1 + k) ∧ Hid (Own wr b0 (some ⟨g, 0, none⟩) n c (markTo zs k)) ∧ Hid (w.grownBy wr (some g))) (fun _ i _ => n - (intOf i).toNat)
  case atStart => exact ⟨0, Nat.zero_le _, rfl, rfl, by simpa [markTo] using H, World.grownBy.refl _ _⟩
  case round =>
    obtain ⟨k, hk, rfl, rfl, HO, HG⟩ := hrel
    by_cases hlt : k < n
    · have c2 := HO.out.cell rfl hlt
      have f2 := HO.out.free rfl k
      have HN : Hid (Own (wr.setCell ⟨g, k, none⟩ (.int .u32 (1 + (k : Int)))) b0 (some ⟨g, 0, none⟩) n c (markTo zs (k + 1))) := by
        rw [← mark_next (by have := HL.out; omega)]; exact HO.out.store
      have HM : Hid (w.grownBy (wr.setCell ⟨g, k, none⟩ (.int .u32 (1 + (k : Int)))) (some g)) :=
        ⟨HG.out.os, HG.out.tape, HG.out.output, by simpa [World.setCell] using HG.out.size, fun i hi hne => (Below.heap_setCell wr ⟨g, k, none⟩ _ i (fun e => hne (by simp [e]))).trans (HG.out.block i hi hne)⟩
      clear HO HG
      go_wp2
      go_roundw
      case rel => exact ⟨k + 1, by omega, by go_num, by go_num, HN, HM⟩
      case measure => simp [intOf]; omega
    · go_wp2
      go_ret
      have e := mark_all HL.out (show n ≤ k by omega) hk
      refine ⟨?_, by rw [← e]; exact HO.out, HG.out⟩
      have : k = n := by omega
      rw [this]
      rfl

/-- Nothing has turned but the row of this slice, and what is new. -/
theorem markU_zero (w : World) : Calls Try.prog 56 #[.slice none 0 0, .int .i64 1] w fun e w' => e = .returned (.int .i64 1) ∧ w = w' := by
  go_enter Try.func56, Try.ntmps56
  go_wp2
  refine wp_loop_rounds 1 ?_
  rw [rounds_succ]
  go_wp2
  go_ret
  exact ⟨rfl, rfl⟩

set_option maxHeartbeats 1000000 in
theorem markMem_any (A : Option Addr) (n c b0 : Nat) (zs : List Int) (w : World) (h : Own w b0 A n c zs) (hn : n ≤ 1048640) :
    Calls Try.prog 30 #[.agg #[.slice A n c], .int .i64 1] w fun e w' => e = .returned (.int .i64 (1 + n)) ∧ Own w' b0 A n c (marks n) ∧ w.grownBy w' (Value.slice A n c).ownBlock := by
  have H := Lib.hid h
  clear h
  rcases H.out.2 with ⟨hv, h0⟩ | ⟨g, cap, cur, hv, _⟩
  · injection hv with h1 h2 h3
    subst h1 h2 h3
    go_enter Try.func30, Try.ntmps30
    go_wp2_with fail
    refine (markU_zero _).mono ?_
    rintro e w1 ⟨rfl, rfl⟩
    go_wp2
    go_ret
    exact ⟨rfl, Own.zero, World.grownBy_alloc _ _ _⟩
  · injection hv with h1 h2 h3
    subst h1 h3
    go_enter Try.func30, Try.ntmps30
    go_wp2_with fail
    refine (markU_any g n c b0 zs _ (H.out.alloc _) hn).mono ?_
    rintro e w1 ⟨rfl, ho, hg⟩
    have O := Lib.hid ho
    have G := Lib.hid hg
    clear ho hg
    go_wp2
    go_ret
    refine ⟨rfl, O.out, ?_⟩
    exact ⟨G.out.os, G.out.tape, G.out.output, Nat.le_trans (by simp) G.out.size, fun i hi hne => (G.out.block i (by simp; omega) hne).trans (Below.heap_alloc w _ i hi)⟩


end Go.Proofs.Ythcchnaoenjhlaa.U
